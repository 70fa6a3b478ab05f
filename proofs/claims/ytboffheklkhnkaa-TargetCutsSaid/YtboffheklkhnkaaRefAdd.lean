/- The document's sum of two numbers of 256 bits, bit by bit: it returns the sum and whether it goes over; what lay in memory stays. -/
import Derived.Test.YtboffheklkhnkaaQuad
namespace Go.Proofs.Ytboffheklkhnkaa
open Go.RowKit Go.Lib
attribute [local go_sem ↓] Go.wp_at_zero Go.wp_at_succ

theorem over_bool {c : Nat} {p : Prop} [Decidable p] (h : c = if p then 1 else 0) : (((c : Nat) : Int) == 1) = decide p := by
  rw [h]
  by_cases q : p
  · rw [if_pos q]; simp [q]
  · rw [if_neg q]; simp [q]

set_option maxRecDepth 100000 in
set_option maxHeartbeats 2000000 in
theorem ref_add_any (a b : Nat) (ha : a < P256) (hb : b < P256) (w : World) :
    Calls Try.prog 21 #[wide a, wide b] w fun e w' => e = .returned (.tuple #[wide (a + b), .bool (decide (P256 ≤ a + b))]) ∧ Below w.heap.size w w' := by
  have HAB := Lib.hid (And.intro ha hb)
  clear ha hb
  unfold wide
  go_enter Try.func21, Try.ntmps21
  go_wp2
  go_loopg [7, 10] 256 (fun k c i wr => ∃ j : Nat, j + k = 256 ∧ i = .int .i64 (j : Int) ∧ c = .int .u64 ((bcarry a b j : Nat) : Int) ∧ Quad w (wl a) (wl b) (wl 0) (wl ((a + b) % 2 ^ j)) wr)
  case atStart =>
    refine ⟨0, by omega, rfl, by rw [bcarry_zero]; rfl, ?_⟩
    rw [Nat.pow_zero, Nat.mod_one]
    exact Quad.start w a b
  case round =>
    obtain ⟨j, hj, rfl, rfl, hF⟩ := hrel
    obtain ⟨kk, rfl⟩ : ∃ kk : Nat, kk = gk := ⟨_, rfl⟩
    by_cases hlt : j < 256
    · have HB : Hid (∀ W, Calls Try.prog 55 #[wide a, .int .i64 (j : Int)] W _) := Lib.hid (bit_any a j hlt)
      have HB2 : Hid (∀ W, Calls Try.prog 55 #[wide b, .int .i64 (j : Int)] W _) := Lib.hid (bit_any b j hlt)
      have hs := bcarry_succ a b j
      have hs2 := bsum_succ a b j
      have hc := bcarry_le a b j
      obtain ⟨x, hx⟩ : ∃ x, x = a / 2 ^ j % 2 := ⟨_, rfl⟩
      obtain ⟨y, hy⟩ : ∃ y, y = b / 2 ^ j % 2 := ⟨_, rfl⟩
      obtain ⟨c, hcc⟩ : ∃ c, c = bcarry a b j := ⟨_, rfl⟩
      rw [← hx, ← hy, ← hcc] at hs hs2
      rw [← hcc] at hc
      rw [← hcc]
      rw [← hx] at HB
      rw [← hy] at HB2
      have bx : x ≤ 1 := by omega
      have by_ : y ≤ 1 := by omega
      clear hx hy hcc
      obtain ⟨s, hss⟩ : ∃ s, s = x + y + c := ⟨_, rfl⟩
      rw [← hss] at hs hs2
      have ss : s < 18446744073709551616 := by omega
      have E0 : Hid (IntKind.u64.wrap (IntKind.u64.wrap (↑x + ↑y) + ↑c) = ((s : Nat) : Int)) := Lib.hid (by simp only [IntKind.wrap_u64]; omega)
      have E1 := Lib.hid (or_and_int ((a + b) % 2 ^ j) s j ss)
      have E2 : Hid (((s : Nat) : Int) / 2 = ((s / 2 : Nat) : Int)) := Lib.hid (by omega)
      clear hss
      have HS := Lib.hid (And.intro hs hs2)
      have HH := Lib.hid hF
      clear hs hs2 hF
      go_upto_region 6 with fail
      go_cut [9] (fun s9 wx => s9 = .int .u64 ((s : Nat) : Int) ∧ Below wr.heap.size wr wx)
      case first =>
        refine wp_region_quiet_below (by kernel_rfl) (by kernel_rfl) ?_
        refine wpQuiet_load_all 24 (.tmp 2) rfl rfl w.heap.size rfl (wide a) (fun w3 hC => by obtain ⟨p, rfl⟩ := hC; exact (HH.out.b0.below (below_regrown wr p.d p.os)).load 24 _ Try.underlying24 rfl (by kernel_rfl)) ?_
        repeat (quiet_step (exact Calls.regrown_of (HB.out _)))
        refine wpQuiet_load_all 24 (.tmp 3) rfl rfl (w.heap.size + 1) rfl (wide b) (fun w3 hC => by obtain ⟨p, rfl⟩ := hC; exact (HH.out.b1.below (below_regrown wr p.d p.os)).load 24 _ Try.underlying24 rfl (by kernel_rfl)) ?_
        repeat (quiet_step (exact Calls.regrown_of (HB2.out _)))
        refine wpQuiet_nil ?_
        intro _ hw'
        obtain ⟨⟨dq, osq⟩, hw''⟩ := hw'
        subst hw''
        go_wp2_with fail
        go_meet
        exact ⟨int_eq E0.out, below_regrown wr dq osq⟩
      case rest =>
        obtain ⟨rfl, hbw⟩ := hcut
        have H2 := Lib.hid (HH.out.step hbw)
        clear HH hbw HB HB2
        have c3 := H2.out.b3.cell (j / 64) (by omega)
        have f3 := H2.out.b3.free (j / 64)
        unfold wl at c3
        go_upto_region 7 with fail
        go_region
        all_goals
          rw [E1.out]
          clear c3 f3
          have HG := H2.out.set3 (j / 64) (.int .u64 ((limb ((a + b) % 2 ^ j) (j / 64) ||| s % 2 * 2 ^ (j % 64) : Nat) : Int)) fun i _ => wl_or_bit ((a + b) % 2 ^ j) (s % 2) j (Nat.mod_lt _ (by decide)) i
          rw [← HS.out.2] at HG
          have G := Lib.hid HG
          clear HG H2
          go_wp2
          go_roundg (kk - 1)
          case measure => omega
          case rel => exact ⟨j + 1, by omega, by go_num, by rw [HS.out.1]; exact int_eq E2.out, G.out.drew⟩
    · obtain rfl : j = 256 := by omega
      have he := bcarry_end a b HAB.out.1 HAB.out.2
      have hs := hF.b3
      rw [show (a + b) % 2 ^ 256 = (a + b) % P256 from rfl] at hs
      have H := Lib.hid (And.intro hF.below (And.intro hF.b2 (hs.to (fun i hi => wl_mod (a + b) i hi))))
      clear hs hF
      have HC := Lib.hid (over_bool he)
      clear he
      go_wp2_with (first
        | (with_reducible refine wpList_load_all rfl 24 (.tmp 6) rfl (w.heap.size + 1 + 1 + 1) 4 rfl 24 _ H.out.2.2 _ Try.underlying24 rfl (by kernel_rfl) ?_)
        | (with_reducible refine wpList_store_all rfl 24 (.tmp 4) (.tmp 38) rfl (w.heap.size + 1 + 1) 4 rfl 24 _ _ H.out.2.1 rfl (by kernel_rfl) (fun _ => rfl) ?_; intro w2 hh ho))
      rw [HC.out]
      exact bodyPost_ret (res_row_tmp (fn := Try.f21) rfl _ _ (w.heap.size + 1 + 1) 4 24 _ _ rfl hh Try.underlying24 rfl (by kernel_rfl)) rfl ⟨rfl, H.out.1.trans (ho.below (by omega) H.out.1.size)⟩
end Go.Proofs.Ytboffheklkhnkaa
