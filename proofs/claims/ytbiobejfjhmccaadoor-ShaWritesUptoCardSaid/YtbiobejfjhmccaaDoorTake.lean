/- The document's take of SipHash: a word is worked into the four words in place, and nothing else changes. -/
import Derived.Test.YtbiobejfjhmccaaDoorRound
namespace Go.Proofs.YtbiobejfjhmccaaDoor
open Go.RowKit Go.Lib
attribute [local go_sem ↓] Go.wp_at_zero Go.wp_at_succ

set_option maxRecDepth 100000 in
set_option maxHeartbeats 1000000 in
theorem ref_take_step (b : Nat) (m : Int) (s t t1 t2 r : S4) (w : World) (h : w.heap[b]? = some (.cells s.cells 58 (0, 0)))
   (ht : { s with d := bits .xor .u64 s.d m } = t) (h1 : round t = t1) (h2 : round t1 = t2) (hr : { t2 with a := bits .xor .u64 t2.a m } = r) :
   Calls Tryd.prog 29 #[.pointer (some ⟨b, 0, none⟩), .int .u64 m] w fun e w' => e = .returned (.tuple #[]) ∧ Holds b 58 r.cells w w' := by
  have hcut := Holds.start h
  have R1 : ∀ w : World, w.heap[b]? = some (.cells t.cells 58 (0, 0)) → Calls Tryd.prog 30 #[.pointer (some ⟨b, 0, none⟩)] w fun e w' => e = .returned (.tuple #[]) ∧ Holds b 58 t1.cells w w' := by
    intro w h; have := ref_round_any b t w h; rw [h1] at this; exact this
  have R2 : ∀ w : World, w.heap[b]? = some (.cells t1.cells 58 (0, 0)) → Calls Tryd.prog 30 #[.pointer (some ⟨b, 0, none⟩)] w fun e w' => e = .returned (.tuple #[]) ∧ Holds b 58 t2.cells w w' := by
    intro w h; have := ref_round_any b t1 w h; rw [h2] at this; exact this
  have E1 := Lib.hid ht
  have E2 := Lib.hid hr
  have G1 := Lib.hid R1
  have G2 := Lib.hid R2
  clear h ht h1 h2 hr R1 R2
  go_enter Tryd.func29, Tryd.ntmps29
  go_upto_region 0 with fail
  go_cut [] (fun wx => Holds b 58 t.cells w wx)
  case first =>
    have c3 : w.cell? ⟨b, 3, none⟩ = some (.int .u64 s.d) := hcut.cell 3 rfl
    have f := hcut.free 3
    have H := Lib.hid hcut
    clear hcut
    go_wp2_with fail
    go_meet
    exact Holds.set H.out (by rw [← E1.out]; rfl)
  case rest =>
    go_upto_region 1 with fail
    go_cut [] (fun wx => Holds b 58 t1.cells w wx)
    case first =>
      have H := Lib.hid hcut
      clear hcut
      go_wp2_with (go_at_call 30; refine (G1.out _ H.out.here).mono ?_; rintro e w' ⟨rfl, hw⟩)
      go_meet
      exact H.out.trans hw
    case rest =>
      go_upto_region 2 with fail
      go_cut [] (fun wx => Holds b 58 t2.cells w wx)
      case first =>
        have H := Lib.hid hcut
        clear hcut
        go_wp2_with (go_at_call 30; refine (G2.out _ H.out.here).mono ?_; rintro e w' ⟨rfl, hw⟩)
        go_meet
        exact H.out.trans hw
      case rest =>
        have c0 : wc.cell? ⟨b, 0, none⟩ = some (.int .u64 t2.a) := hcut.cell 0 rfl
        have f := hcut.free 0
        have H := Lib.hid hcut
        clear hcut
        go_wp2_with fail
        go_end0
        exact ⟨rfl, Holds.set H.out (by rw [← E2.out]; rfl)⟩
theorem ref_take_any (b : Nat) (m : Int) (s : S4) (w : World) (h : w.heap[b]? = some (.cells s.cells 58 (0, 0))) :
   Calls Tryd.prog 29 #[.pointer (some ⟨b, 0, none⟩), .int .u64 m] w fun e w' => e = .returned (.tuple #[]) ∧ Holds b 58 (mixed s m).cells w w' :=
  ref_take_step b m s _ _ _ _ w h rfl rfl rfl rfl
end Go.Proofs.YtbiobejfjhmccaaDoor
