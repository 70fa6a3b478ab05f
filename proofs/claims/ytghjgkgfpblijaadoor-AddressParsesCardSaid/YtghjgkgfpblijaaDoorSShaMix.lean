/- The program's mix of SHA-256: a block of 64 bytes is worked into the eight words of a hasher in place, and nothing else changes. -/
import Derived.Test.YtghjgkgfpblijaaDoorSSpread
import Derived.Test.YtghjgkgfpblijaaDoorSRefMix
set_option maxRecDepth 100000
namespace Go.Proofs.YtghjgkgfpblijaaDoor.S
open Go.RowKit Go.Lib
attribute [local go_sem ↓] Go.wp_at_zero Go.wp_at_succ

/-- A hasher's cells with other words. -/
def putWords (f : Nat → Value) (s : R8) : Nat → Value := fun i => if 1 ≤ i ∧ i ≤ 8 then rv s (i - 1) else f i
/-- The words of the rounds lie where they are laid. -/
def KLaid (w : World) : Prop := ∀ i, i < 64 → w.cell? ⟨7, i, none⟩ = some (.int .u32 (kWord i))
theorem run_index40 (a b c d e f g h : Int) (k : Nat) (hk : k < 8) (w : World) :
    (Instr.index 77 (.agg #[.int .u32 a, .int .u32 b, .int .u32 c, .int .u32 d, .int .u32 e, .int .u32 f, .int .u32 g, .int .u32 h]) (.int .i64 (k : Int))).run Tryd.prog w = .ok (.int .u32 (R8.nth ⟨a, b, c, d, e, f, g, h⟩ k)) w := by
  match k, hk with
  | 0, _ => exact (by kernel_rfl : (Instr.index 77 (.agg #[.int .u32 a, .int .u32 b, .int .u32 c, .int .u32 d, .int .u32 e, .int .u32 f, .int .u32 g, .int .u32 h]) (.int .i64 0)).run Tryd.prog w = .ok (.int .u32 a) w)
  | 1, _ => exact (by kernel_rfl : (Instr.index 77 (.agg #[.int .u32 a, .int .u32 b, .int .u32 c, .int .u32 d, .int .u32 e, .int .u32 f, .int .u32 g, .int .u32 h]) (.int .i64 1)).run Tryd.prog w = .ok (.int .u32 b) w)
  | 2, _ => exact (by kernel_rfl : (Instr.index 77 (.agg #[.int .u32 a, .int .u32 b, .int .u32 c, .int .u32 d, .int .u32 e, .int .u32 f, .int .u32 g, .int .u32 h]) (.int .i64 2)).run Tryd.prog w = .ok (.int .u32 c) w)
  | 3, _ => exact (by kernel_rfl : (Instr.index 77 (.agg #[.int .u32 a, .int .u32 b, .int .u32 c, .int .u32 d, .int .u32 e, .int .u32 f, .int .u32 g, .int .u32 h]) (.int .i64 3)).run Tryd.prog w = .ok (.int .u32 d) w)
  | 4, _ => exact (by kernel_rfl : (Instr.index 77 (.agg #[.int .u32 a, .int .u32 b, .int .u32 c, .int .u32 d, .int .u32 e, .int .u32 f, .int .u32 g, .int .u32 h]) (.int .i64 4)).run Tryd.prog w = .ok (.int .u32 e) w)
  | 5, _ => exact (by kernel_rfl : (Instr.index 77 (.agg #[.int .u32 a, .int .u32 b, .int .u32 c, .int .u32 d, .int .u32 e, .int .u32 f, .int .u32 g, .int .u32 h]) (.int .i64 5)).run Tryd.prog w = .ok (.int .u32 f) w)
  | 6, _ => exact (by kernel_rfl : (Instr.index 77 (.agg #[.int .u32 a, .int .u32 b, .int .u32 c, .int .u32 d, .int .u32 e, .int .u32 f, .int .u32 g, .int .u32 h]) (.int .i64 6)).run Tryd.prog w = .ok (.int .u32 g) w)
  | 7, _ => exact (by kernel_rfl : (Instr.index 77 (.agg #[.int .u32 a, .int .u32 b, .int .u32 c, .int .u32 d, .int .u32 e, .int .u32 f, .int .u32 g, .int .u32 h]) (.int .i64 7)).run Tryd.prog w = .ok (.int .u32 h) w)

theorem t1_flat (t : R8) (k w : Int) : (t.h + big1 t.e + cho t.e t.f t.g + k + w) % 4294967296 = t1 t k w := by
  unfold t1
  simp only [IntKind.wrap_u32]
  omega
theorem t12_flat (t : R8) (k w : Int) : (t1 t k w + (big0 t.a + maj t.a t.b t.c) % 4294967296) % 4294967296 = IntKind.u32.wrap (t1 t k w + t2 t) := by
  unfold t2
  simp only [IntKind.wrap_u32]
theorem word32 {a b : Int} (h : a = b) : Value.int .u32 a = Value.int .u32 b := by rw [h]
theorem putWords_low (f : Nat → Value) (s : R8) (i : Nat) (hi : i < 8) : putWords f s (i + 1) = rv s i := by
  unfold putWords; rw [if_pos (by omega)]; rfl

set_option maxRecDepth 100000 in
set_option maxHeartbeats 2000000 in
theorem sha_mix_any (b : Nat) (f : Nat → Value) (x : Nat → Int) (hx : ∀ i, 0 ≤ x i ∧ x i ≤ 255) (s : R8) (hs : s.In) (w : World) (hh : HasAt b 109 74 f w) (hf : ∀ i, i < 8 → f (i + 1) = rv s i) (hk : KLaid w) :
    Calls Tryd.prog 78 #[.pointer (some ⟨b, 1, none⟩), .agg (arr 64 (bys x))] w fun e w' => e = .returned (.tuple #[]) ∧ HasAt b 109 74 (putWords f (compress s x)) w' ∧ Only b w w' := by
  have HX := Lib.hid hx
  have HS := Lib.hid hs
  have HFW := Lib.hid hf
  have H0 : Hid (HasAt b 109 74 f w ∧ KLaid w) := Lib.hid ⟨hh, hk⟩
  clear hx hs hf hh hk
  go_enter Tryd.func78, Tryd.ntmps78
  go_upto_region 1 with fail
  go_cut [4] (fun s4 wx => ∃ b4, s4 = .pointer (some ⟨b4, 0, none⟩) ∧ b4 ≠ b ∧ Below w.heap.size w wx ∧ HasAt b4 87 64 (wv x) wx)
  case first =>
    have k1 : HasAt w.heap.size 107 64 (bys x) (w.alloc (.cells (arr 64 (bys x)) 107)) := HasAt.new w (bys x) 64 107
    have k3 : Below w.heap.size w (w.alloc (.cells (arr 64 (bys x)) 107)) := below_new w _
    have k4 : (w.alloc (.cells (arr 64 (bys x)) 107)).heap.size = w.heap.size + 1 := by simp
    have HK : Hid (HasAt w.heap.size 107 64 (bys x) (w.alloc (.cells (arr 64 (bys x)) 107)) ∧ Below w.heap.size w (w.alloc (.cells (arr 64 (bys x)) 107)) ∧ (w.alloc (.cells (arr 64 (bys x)) 107)).heap.size = w.heap.size + 1) := Lib.hid ⟨k1, k3, k4⟩
    clear k1 k3 k4
    generalize w.alloc (.cells (arr 64 (bys x)) 107) = w1 at *
    go_wp2_with (first
      | (with_reducible refine wpList_load_all rfl 107 (.tmp 3) rfl w.heap.size 64 rfl 107 (bys x) HK.out.1 _ Tryd.underlying107 rfl (by kernel_rfl) ?_)
      | (go_at_call 80; refine (spread_any x HX.out _).mono ?_; rintro e w2 ⟨rfl, hb⟩)
      | (refine wpList_store_all rfl 87 (.tmp 4) (.tmp 21) rfl w2.heap.size 64 rfl 87 zv (wv x) (HasAt.new w2 zv 64 87) rfl (by kernel_rfl) (fun _ => rfl) ?_; intro w3 hh ho))
    go_meet
    have hs := HK.out.2.2
    have hz := hb.size
    have hlt := H0.out.1.lt
    exact ⟨_, rfl, by omega, HK.out.2.1.trans ((hb.mono (by omega)).trans ((below_new w2 _).mono (by omega) |>.trans (ho.below (by omega) (by simp; omega)))), hh⟩
  case rest =>
    obtain ⟨b4, rfl, hb4, hbw, hW⟩ := hcut
    obtain ⟨w3, rfl⟩ : ∃ w3 : World, w3 = wc := ⟨_, rfl⟩
    have H3 : Hid (Below w.heap.size w w3 ∧ HasAt b4 87 64 (wv x) w3 ∧ HasAt b 109 74 f w3 ∧ KLaid w3) := Lib.hid ⟨hbw, hW, H0.out.1.below hbw, fun i hi => by
      have h1 := H0.out.2 i hi
      rw [hbw.cell (cell_lt h1)]; exact h1⟩
    clear hbw hW
    have c0 : w3.cell? ⟨b, 1 + 0, none⟩ = some (.int .u32 s.a) := by have h := H3.out.2.2.1.cell (0 + 1) (by omega); rw [HFW.out 0 (by omega)] at h; exact h
    have c1 : w3.cell? ⟨b, 1 + 1, none⟩ = some (.int .u32 s.b) := by have h := H3.out.2.2.1.cell (1 + 1) (by omega); rw [HFW.out 1 (by omega)] at h; exact h
    have c2 : w3.cell? ⟨b, 1 + 2, none⟩ = some (.int .u32 s.c) := by have h := H3.out.2.2.1.cell (2 + 1) (by omega); rw [HFW.out 2 (by omega)] at h; exact h
    have c3 : w3.cell? ⟨b, 1 + 3, none⟩ = some (.int .u32 s.d) := by have h := H3.out.2.2.1.cell (3 + 1) (by omega); rw [HFW.out 3 (by omega)] at h; exact h
    have c4 : w3.cell? ⟨b, 1 + 4, none⟩ = some (.int .u32 s.e) := by have h := H3.out.2.2.1.cell (4 + 1) (by omega); rw [HFW.out 4 (by omega)] at h; exact h
    have c5 : w3.cell? ⟨b, 1 + 5, none⟩ = some (.int .u32 s.f) := by have h := H3.out.2.2.1.cell (5 + 1) (by omega); rw [HFW.out 5 (by omega)] at h; exact h
    have c6 : w3.cell? ⟨b, 1 + 6, none⟩ = some (.int .u32 s.g) := by have h := H3.out.2.2.1.cell (6 + 1) (by omega); rw [HFW.out 6 (by omega)] at h; exact h
    have c7 : w3.cell? ⟨b, 1 + 7, none⟩ = some (.int .u32 s.h) := by have h := H3.out.2.2.1.cell (7 + 1) (by omega); rw [HFW.out 7 (by omega)] at h; exact h
    go_upto_region 2 with fail
    go_cut [5, 6, 7, 8] (fun s5 s6 s7 s8 wx => s5 = .int .u32 s.a ∧ s6 = .int .u32 s.b ∧ s7 = .int .u32 s.c ∧ s8 = .int .u32 s.d ∧ ∃ n, wx = w3.drewN n)
    case first =>
      go_quiet (fail)
      go_wp2_with fail
      go_meet
      exact ⟨rfl, rfl, rfl, rfl, _, rfl⟩
    case rest =>
      obtain ⟨rfl, rfl, rfl, rfl, n1, rfl⟩ := hcut
      go_upto_region 3 with fail
      go_cut [5, 6, 7, 8, 9, 10, 11, 12] (fun s5 s6 s7 s8 s9 s10 s11 s12 wx => s5 = .int .u32 s.a ∧ s6 = .int .u32 s.b ∧ s7 = .int .u32 s.c ∧ s8 = .int .u32 s.d ∧ s9 = .int .u32 s.e ∧ s10 = .int .u32 s.f ∧ s11 = .int .u32 s.g ∧ s12 = .int .u32 s.h ∧ ∃ n, wx = w3.drewN n)
      case first =>
        go_quiet (fail)
        go_wp2_with fail
        go_meet
        exact ⟨rfl, rfl, rfl, rfl, rfl, rfl, rfl, rfl, _, World.drewN_drewN _ _ _⟩
      case rest =>
        obtain ⟨rfl, rfl, rfl, rfl, rfl, rfl, rfl, rfl, n2, rfl⟩ := hcut
        clear c0 c1 c2 c3 c4 c5 c6 c7
        go_wp2
        go_loopg [5, 6, 7, 8, 9, 10, 11, 12, 54] 64 (fun k s5 s6 s7 s8 s9 s10 s11 s12 i wr => ∃ (j : Nat) (t : R8), t = rnds x s j ∧ j + k = 64 ∧ i = .int .i64 (j : Int) ∧ s5 = .int .u32 t.a ∧ s6 = .int .u32 t.b ∧ s7 = .int .u32 t.c ∧ s8 = .int .u32 t.d ∧ s9 = .int .u32 t.e ∧ s10 = .int .u32 t.f ∧ s11 = .int .u32 t.g ∧ s12 = .int .u32 t.h ∧ ∃ n, wr = w3.drewN n)
        case atStart => exact ⟨0, s, rfl, by omega, rfl, rfl, rfl, rfl, rfl, rfl, rfl, rfl, rfl, _, rfl⟩
        case round =>
          obtain ⟨j, t, ht, hj, rfl, rfl, rfl, rfl, rfl, rfl, rfl, rfl, rfl, n3, rfl⟩ := hrel
          obtain ⟨kk, rfl⟩ : ∃ kk : Nat, kk = gk := ⟨_, rfl⟩
          have tin : t.In := by rw [ht]; exact rnds_in x s HS.out j
          have HTT := Lib.hid ht
          have HIN := Lib.hid tin
          clear ht tin
          by_cases hlt : j < 64
          · have ck : w3.cell? ⟨7, j, none⟩ = some (.int .u32 (kWord j)) := H3.out.2.2.2 j hlt
            have cw : w3.cell? ⟨b4, j, none⟩ = some (.int .u32 (W x j)) := H3.out.2.1.cell j hlt
            have u3 : (↑j : Int) < 64 := by omega
            have u4 : (0 : Int) ≤ ↑j := by omega
            go_upto_region 8 with (first
              | (go_at_call 81; first
                  | ((with_reducible refine (rotL6 _ HIN.out.e _).mono ?_); rintro e w' ⟨rfl, rfl⟩)
                  | ((with_reducible refine (rotL11 _ HIN.out.e _).mono ?_); rintro e w' ⟨rfl, rfl⟩)
                  | ((with_reducible refine (rotL25 _ HIN.out.e _).mono ?_); rintro e w' ⟨rfl, rfl⟩)))
            go_cut [13, 14, 15] (fun s13 s14 s15 wx => s15 = .int .u32 (t1 t (kWord j) (W x j)) ∧ ∃ n, wx = w3.drewN n)
            case first =>
              go_quiet (fail)
              go_wp2_with fail
              go_meet
              exact ⟨word32 (t1_flat t (kWord j) (W x j)), _, rfl⟩
            case rest =>
              obtain ⟨rfl, n4, rfl⟩ := hcut
              go_upto_region 12 with (first
                | (go_at_call 81; first
                    | ((with_reducible refine (rotL2 _ HIN.out.a _).mono ?_); rintro e w' ⟨rfl, rfl⟩)
                    | ((with_reducible refine (rotL13 _ HIN.out.a _).mono ?_); rintro e w' ⟨rfl, rfl⟩)
                    | ((with_reducible refine (rotL22 _ HIN.out.a _).mono ?_); rintro e w' ⟨rfl, rfl⟩)))
              go_wp2
              go_roundg (kk - 1)
              case measure => omega
              case rel => exact ⟨j + 1, rnd t (kWord j) (W x j), by rw [rnds, ← HTT.out], by omega, by go_num, word32 (t12_flat t (kWord j) (W x j)), rfl, rfl, rfl, word32 (by rw [← IntKind.wrap_u32]; rfl), rfl, rfl, rfl, _, rfl⟩
          · obtain rfl : j = 64 := by omega
            have ix := run_index40 t.a t.b t.c t.d t.e t.f t.g t.h
            have H4 : Hid (Below w.heap.size w (w3.drewN n3) ∧ HasAt b 109 74 f (w3.drewN n3)) := Lib.hid ⟨⟨H3.out.1.os, H3.out.1.tape, H3.out.1.output, H3.out.1.size, H3.out.1.block⟩, H3.out.2.2.1⟩
            clear H3
            generalize w3.drewN n3 = w4 at *
            go_wp2
            go_loopg [128] 8 (fun k i wr => ∃ q : Nat, q + k = 8 ∧ i = .int .i64 (q : Int) ∧ Only b w wr ∧ HasAt b 109 74 (fun i => if 1 ≤ i ∧ i < q + 1 then .int .u32 (IntKind.u32.wrap (s.nth (i - 1) + t.nth (i - 1))) else f i) wr)
            case atStart => exact ⟨0, by omega, rfl, ⟨H4.out.1.os, H4.out.1.tape, H4.out.1.output, H4.out.1.size, fun k hk _ => H4.out.1.block k hk⟩, H4.out.2.to (fun i hi => by rw [if_neg (by omega)])⟩
            case round =>
              clear H4
              obtain ⟨q, hq, rfl, hb, hA⟩ := hrel
              by_cases hl8 : q < 8
              · have ix := ix q hl8
                have c1 : wr.cell? ⟨b, 1 + q, none⟩ = some (.int .u32 (s.nth q)) := by
                  have h1 := hA.cell (q + 1) (by omega)
                  rw [if_neg (by omega), HFW.out q hl8, Nat.add_comm] at h1
                  exact h1
                have f1 := hA.free (1 + q)
                have H := Lib.hid (And.intro hb hA)
                clear hb hA
                go_wp2
                go_region
                all_goals
                  go_wp2
                  go_roundg (gk - 1)
                  case measure => omega
                  case rel =>
                    refine ⟨q + 1, by omega, by go_num, (H.out.1.setCell _ rfl _).drew, (H.out.2.set (1 + q) _ (fun i hi => ?_)).drew⟩
                    unfold upd
                    by_cases e : i = 1 + q
                    · subst e
                      rw [if_pos rfl, if_pos (by omega)]
                      have e2 : 1 + q - 1 = q := by omega
                      rw [e2]
                      exact word32 (by first | rfl | rw [IntKind.wrap_u32])
                    · rw [if_neg e]
                      dsimp only
                      by_cases e2 : 1 ≤ i ∧ i < q + 1
                      · rw [if_pos e2, if_pos (by omega)]
                      · rw [if_neg e2, if_neg (by omega)]
              · obtain rfl : q = 8 := by omega
                have hA' : HasAt b 109 74 (putWords f (compress s x)) wr := hA.to (fun i hi => by
                  unfold putWords
                  by_cases e2 : 1 ≤ i ∧ i ≤ 8
                  · rw [if_pos (by omega), if_pos e2, compress, ← HTT.out]
                    unfold rv
                    rw [addS_nth]
                  · rw [if_neg (by omega), if_neg e2])
                have H := Lib.hid (And.intro hb hA')
                clear hb hA hA'
                go_wp2
                go_end0
                exact ⟨rfl, H.out.2, H.out.1⟩
end Go.Proofs.YtghjgkgfpblijaaDoor.S
