/- The program's mix of SipHash: a word of eight bytes is worked into the four words in place, and nothing else changes. -/
import Derived.Test.YtbiobejfjhmccaaDoorTurn
import Derived.Test.YtbiobejfjhmccaaDoorSipLast
namespace Go.Proofs.YtbiobejfjhmccaaDoor
open Go.RowKit Go.Lib
attribute [local go_sem ↓] Go.wp_at_zero Go.wp_at_succ

theorem run_index8 (x : Nat → Int) (k : Nat) (hk : k < 8) (w : World) : (Instr.index 52 (.agg (B8 x)) (.int .i64 (k : Int))).run Tryd.prog w = .ok (.int .u8 (x k)) w := by
  match k, hk with
  | 0, _ => exact (by kernel_rfl : (Instr.index 52 (.agg (B8 x)) (.int .i64 0)).run Tryd.prog w = .ok (.int .u8 (x 0)) w)
  | 1, _ => exact (by kernel_rfl : (Instr.index 52 (.agg (B8 x)) (.int .i64 1)).run Tryd.prog w = .ok (.int .u8 (x 1)) w)
  | 2, _ => exact (by kernel_rfl : (Instr.index 52 (.agg (B8 x)) (.int .i64 2)).run Tryd.prog w = .ok (.int .u8 (x 2)) w)
  | 3, _ => exact (by kernel_rfl : (Instr.index 52 (.agg (B8 x)) (.int .i64 3)).run Tryd.prog w = .ok (.int .u8 (x 3)) w)
  | 4, _ => exact (by kernel_rfl : (Instr.index 52 (.agg (B8 x)) (.int .i64 4)).run Tryd.prog w = .ok (.int .u8 (x 4)) w)
  | 5, _ => exact (by kernel_rfl : (Instr.index 52 (.agg (B8 x)) (.int .i64 5)).run Tryd.prog w = .ok (.int .u8 (x 5)) w)
  | 6, _ => exact (by kernel_rfl : (Instr.index 52 (.agg (B8 x)) (.int .i64 6)).run Tryd.prog w = .ok (.int .u8 (x 6)) w)
  | 7, _ => exact (by kernel_rfl : (Instr.index 52 (.agg (B8 x)) (.int .i64 7)).run Tryd.prog w = .ok (.int .u8 (x 7)) w)

set_option maxRecDepth 100000 in
set_option maxHeartbeats 2000000 in
theorem mix_step (b : Nat) (x : Nat → Int) (hx : ∀ i, 0 ≤ x i ∧ x i ≤ 255) (s t t2 r : S4) (w : World) (h : w.heap[b]? = some (.cells s.cells 51 (0, 0)))
   (ht : { s with d := bits .xor .u64 s.d (wordUpto x 8) } = t) (h2 : rounds 2 t = t2) (hr : { t2 with a := bits .xor .u64 t2.a (wordUpto x 8) } = r) :
   Calls Tryd.prog 27 #[.pointer (some ⟨b, 0, none⟩), .agg (B8 x)] w fun e w' => e = .returned (.tuple #[]) ∧ Holds b 51 r.cells w w' := by
  have hst := Lib.hid (Holds.start h)
  have R : ∀ w : World, w.heap[b]? = some (.cells t.cells 51 (0, 0)) → Calls Tryd.prog 28 #[.pointer (some ⟨b, 0, none⟩), .int .i64 2] w fun e w' => e = .returned (.tuple #[]) ∧ Holds b 51 t2.cells w w' := by
    intro w h; have := turn_any b 2 (by omega) t w h; rw [h2] at this; exact this
  have G := Lib.hid R
  have E1 := Lib.hid ht
  have E2 := Lib.hid hr
  have HX := Lib.hid hx
  clear h R ht h2 hr hx
  have ix := run_index8 x
  unfold B8 at ix
  unfold B8
  go_enter Tryd.func27, Tryd.ntmps27
  go_wp2
  go_loopg [4, 8] 8 (fun k m i wr => ∃ j : Nat, j + k = 8 ∧ i = .int .i64 (j : Int) ∧ m = .int .u64 (wordUpto x j) ∧ Holds b 51 s.cells w wr)
  case atStart => exact ⟨0, by omega, rfl, rfl, hst.out.alloc _⟩
  case round =>
    clear hst
    obtain ⟨j, hj, rfl, rfl, hcut⟩ := hrel
    by_cases hlt : j < 8
    · have ix := ix j hlt
      obtain ⟨bj0, bj1⟩ := HX.out j
      have H := Lib.hid hcut
      clear hcut
      go_wp2
      go_roundg (gk - 1)
      case measure => omega
      case rel => exact ⟨j + 1, by omega, by go_num, rfl, H.out⟩
    · obtain rfl : j = 8 := by omega
      clear ix
      obtain ⟨m, hm⟩ : ∃ m, m = wordUpto x 8 := ⟨_, rfl⟩
      rw [← hm]
      rw [← hm] at E1 E2
      clear hm
      go_upto_region 7 with fail
      go_cut [4] (fun sm wx => sm = .int .u64 m ∧ Holds b 51 t.cells w wx)
      case first =>
        have c3 : wr.cell? ⟨b, 3, none⟩ = some (.int .u64 s.d) := hcut.cell 3 rfl
        have f := hcut.free 3
        have H := Lib.hid hcut
        clear hcut
        go_region
        all_goals (go_wp2_with fail; go_meet)
        all_goals refine ⟨rfl, ?_⟩
        all_goals first | exact (Holds.set H.out (by rw [← E1.out]; rfl)).drew | exact Holds.set H.out.drew (by rw [← E1.out]; rfl)
      case rest =>
        obtain ⟨rfl, hcut⟩ := hcut
        go_upto_region 8 with fail
        go_cut [4] (fun sm wx => sm = .int .u64 m ∧ Holds b 51 t2.cells w wx)
        case first =>
          have H := Lib.hid hcut
          clear hcut
          go_wp2_with (go_at_call 28; refine (G.out _ H.out.here).mono ?_; rintro e w' ⟨rfl, hw⟩)
          go_meet
          exact ⟨rfl, H.out.trans hw⟩
        case rest =>
          obtain ⟨rfl, hcut⟩ := hcut
          have c0 : wc.cell? ⟨b, 0, none⟩ = some (.int .u64 t2.a) := hcut.cell 0 rfl
          have f := hcut.free 0
          have H := Lib.hid hcut
          clear hcut
          go_upto_region 9 with fail
          go_region
          all_goals go_end0
          all_goals refine ⟨rfl, ?_⟩
          all_goals first | exact (Holds.set H.out (by rw [← E2.out]; rfl)).drew | exact Holds.set H.out.drew (by rw [← E2.out]; rfl)
theorem mix_any (b : Nat) (x : Nat → Int) (hx : ∀ i, 0 ≤ x i ∧ x i ≤ 255) (s : S4) (w : World) (h : w.heap[b]? = some (.cells s.cells 51 (0, 0))) :
   Calls Tryd.prog 27 #[.pointer (some ⟨b, 0, none⟩), .agg (B8 x)] w fun e w' => e = .returned (.tuple #[]) ∧ Holds b 51 (mixed s (wordUpto x 8)).cells w w' :=
  mix_step b x hx s _ _ _ w h rfl rfl rfl
end Go.Proofs.YtbiobejfjhmccaaDoor
