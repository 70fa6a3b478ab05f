/- The root of hashes, and whether it may be of others: the program's. -/
import Derived.Test.YtgicnmfodbenlaaDoorPu
set_option linter.unusedSimpArgs false
set_option linter.unusedVariables false
set_option maxRecDepth 100000
namespace Go.Proofs.YtgicnmfodbenlaaDoor
open Go.RowKit Go.Lib Go.Sort

theorem root_fuel : ∀ (f : Nat) (h : Nat → List Nat) (n : Nat), n ≤ f → root f h n = root n h n
  | 0, h, n, hn => by obtain rfl : n = 0 := by omega
                      rfl
  | f + 1, h, n, hn => by
    cases n with
    | zero => rfl
    | succ n =>
      show (if n + 1 ≤ 1 then _ else _) = (if n + 1 ≤ 1 then _ else _)
      by_cases h1 : n + 1 ≤ 1
      · rw [if_pos h1, if_pos h1]
      · rw [if_neg h1, if_neg h1, root_fuel f _ _ (by omega), root_fuel n _ _ (by omega)]
termination_by f => f
/-- The root of n hashes, and whether it may be of others. -/
def mroot (h : Nat → List Nat) (n : Nat) : List Nat × Bool := root n h n
theorem mroot_one (h : Nat → List Nat) {n : Nat} (hn : n ≤ 1) : mroot h n = (h 0, false) := by
  unfold mroot
  match n, hn with
  | 0, _ => rfl
  | 1, _ => rfl
theorem mroot_more (h : Nat → List Nat) {n : Nat} (hn : 1 < n) : mroot h n = ((mroot (up h n) ((n + 1) / 2)).1, tw h (n / 2) || (mroot (up h n) ((n + 1) / 2)).2) := by
  unfold mroot
  obtain ⟨f, rfl⟩ : ∃ f, n = f + 1 := ⟨n - 1, by omega⟩
  show (if f + 1 ≤ 1 then _ else _) = _
  rw [if_neg (by omega), root_fuel f _ _ (by omega)]
theorem isH_root (h : Nat → List Nat) (hh : ∀ i, IsH (h i)) : ∀ (f n : Nat), IsH (root f h n).1 := by
  intro f
  induction f generalizing h with
  | zero => intro n; exact hh 0
  | succ f ih =>
    intro n
    show IsH (if n ≤ 1 then _ else _ : List Nat × Bool).1
    split
    · exact hh 0
    · exact ih _ (isH_up h n) _
theorem built_hash (x : Nat) : Tryd.prog.built 24 (#[(0, .int .u8 ((x : Nat) : Int))] : Array (Nat × Value)).toList = some (arr 32 (bv (lf [x]))) := by kernel_rfl

set_option maxHeartbeats 4000000 in
theorem merkle_any {w : World} {p : Option Addr} {g o n c : Nat} {h : Nat → List Nat} (R : Hid (HRow w p g o n c h)) (h0 : 0 < n) (hn : n ≤ 1000000) (L : Hid (S.Both w)) :
    Calls Tryd.prog 25 #[.slice p n c] w fun e w' => e = .returned (.tuple #[.agg (arr 32 (bv (lf (mroot h n).1))), .bool (mroot h n).2]) ∧ Below w.heap.size w w' := by
  have E := Lib.hid (Mem.nil w)
  have t0 : ((n : Int) == 0) = false := by simp; omega
  have t0' : decide ((n : Int) = 0) = false := by simp; omega
  go_enter Tryd.func25, Tryd.ntmps25
  go_wp2_with (refine mem_alloc E 24 rfl rfl infoHash ?_; clear E; intro b2 w2 E; simp only [arr_cells'] at E)
  have R2 := Lib.hid (R.out.below E.out.below)
  go_loopg [0, 4] n (fun k s a wr => ∃ (p1 : Option Addr) (g1 o1 n1 c1 : Nat) (h1 : Nat → List Nat) (acc : Bool), n1 ≤ k ∧ 0 < n1 ∧ n1 ≤ 1000000 ∧ s = .slice p1 n1 c1 ∧ a = .bool acc ∧ Hid (HRow wr p1 g1 o1 n1 c1 h1) ∧ Hid (Mem w [(b2, 24, arr 32 (bv fun _ => 0))] wr) ∧ Hid ((mroot h n) = ((mroot h1 n1).1, acc || (mroot h1 n1).2)))
  case atStart => exact ⟨p, g, o, n, c, h, false, Nat.le_refl _, h0, hn, rfl, rfl, R2, E, Lib.hid (by simp)⟩
  case round =>
    clear R2 E
    obtain ⟨p1, g1, o1, n1, c1, h1, acc, hk, hp1, hm1, rfl, rfl, R1, E, RT⟩ := hrel
    obtain ⟨kk, rfl⟩ : ∃ kk : Nat, kk = gk := ⟨_, rfl⟩
    have L1 := Lib.hid (L.out.below E.out.below)
    by_cases hlt : 1 < n1
    · have hlt' : (1 : Int) < (n1 : Int) := by omega
      have MM := Lib.hid (mroot_more h1 hlt)
      cases acc
      · go_wp2_with (first
          | (go_at_call 48; refine (twins_any R1 (by omega)).mono ?_; rintro e w3 ⟨rfl, hb⟩; replace E := Lib.hid (E.out.call hb); replace R1 := Lib.hid (R1.out.below hb); replace L1 := Lib.hid (L1.out.below hb); clear hb)
          | (go_at_call 49; refine (pairup_any R1 (by omega) L1).mono ?_; rintro e w4 ⟨p3, g3, c3, rfl, N3, hb⟩; replace E := Lib.hid (E.out.call hb); have R3 := Lib.hid (HRow.of N3.row (isH_up h1 n1)); clear hb N3))
        go_roundg ((n1 + 1) / 2)
        case measure => omega
        case rel => exact ⟨p3, g3, 0, _, c3, _, tw h1 (n1 / 2), Nat.le_refl _, by omega, by omega, rfl, by simp, R3, E, Lib.hid (by rw [RT.out, MM.out]; simp)⟩
      · go_wp2_with (go_at_call 49; refine (pairup_any R1 (by omega) L1).mono ?_; rintro e w4 ⟨p3, g3, c3, rfl, N3, hb⟩; replace E := Lib.hid (E.out.call hb); have R3 := Lib.hid (HRow.of N3.row (isH_up h1 n1)); clear hb N3)
        go_roundg ((n1 + 1) / 2)
        case measure => omega
        case rel => exact ⟨p3, g3, 0, _, c3, _, true, Nat.le_refl _, by omega, by omega, rfl, rfl, R3, E, Lib.hid (by rw [RT.out, MM.out]; simp)⟩
    · obtain rfl : n1 = 1 := by omega
      have MM := Lib.hid (mroot_one h1 (n := 1) (by omega))
      obtain rfl := R1.out.row.head (by omega)
      go_wp2_with (first
        | (refine wpList_ix (k := 32) (j := 0) Tryd.underlying40 (by kernel_rfl) (.tmp 19) (.const (.int .i64 0)) rfl rfl rfl rfl (by omega) rfl ?_)
        | (refine wpList_ld 24 (.tmp 20) rfl rfl rfl (R1.out.load (by omega)) ?_)
        | (refine mem_store_row 0 E 24 rfl (.tmp 2) (.tmp 21) rfl rfl rfl rfl (by kernel_rfl) (by simp only [arr_size]) (bv_one _ _) ?_; clear E; intro w6 E; simp only [List.set_cons_zero, List.set_cons_succ] at E))
      refine bodyPost_ret (res_row_tmp (fn := Tryd.f25) (p := 2) (u := 3) rfl _ _ b2 32 24 _ _ rfl (E.out.get List.mem_cons_self) Tryd.underlying24 rfl (by kernel_rfl)) rfl ⟨?_, E.out.below⟩
      rw [RT.out, MM.out]
      simp
end Go.Proofs.YtgicnmfodbenlaaDoor
