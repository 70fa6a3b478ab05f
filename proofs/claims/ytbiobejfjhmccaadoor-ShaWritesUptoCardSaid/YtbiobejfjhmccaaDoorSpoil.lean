/- The document's Spoil over one slice: it writes to the slice's block alone. -/
import Derived.Test.YtbiobejfjhmccaaDoorWrite
namespace Go.Proofs.YtbiobejfjhmccaaDoor
open Go.RowKit Go.Lib
attribute [local go_sem ↓] Go.wp_at_zero Go.wp_at_succ

/-- The block's bytes may all be written. -/
def Writable (g o n : Nat) (w : World) : Prop := (∀ i, i < n → ∃ z, w.cell? ⟨g, o + i, none⟩ = some (.int .u8 z)) ∧ ∀ i, w.frozen? ⟨g, i, none⟩ = false
theorem Writable.set {g o n : Nat} {w : World} (h : Writable g o n w) (j : Nat) (z : Int) : Writable g o n (w.setCell ⟨g, o + j, none⟩ (.int .u8 z)) := by
  refine ⟨fun i hi => ?_, fun i => ?_⟩
  · by_cases e : i = j
    · subst e
      obtain ⟨y, hy⟩ := h.1 i hi
      exact ⟨z, World.cell?_setCell_same _ _ _ hy⟩
    · obtain ⟨y, hy⟩ := h.1 i hi
      exact ⟨y, by rw [World.cell?_setCell_other _ _ _ _ (fun q => e (by injection q with _ q1 _; omega))]; exact hy⟩
  · rw [World.frozen?_setCell]; exact h.2 i
set_option maxHeartbeats 2000000 in
theorem spoil_any (S : Nat) (p : Option Addr) (g o n c : Nat) (w : World) (hS : w.cell? ⟨S, 0, none⟩ = some (.slice p n c)) (hn : n ≤ 9223372036854775807) (hp : 0 < n → p = some ⟨g, o, none⟩) (ho : 0 < n → Writable g o n w) :
    Calls Tryd.prog 18 #[.slice (some ⟨S, 0, none⟩) 1 1] w fun e w' => e = .returned (.tuple #[]) ∧ Only g w w' := by
  have H0 := Lib.hid (And.intro hS (And.intro hp ho))
  clear hS hp ho
  go_enter Tryd.func18, Tryd.ntmps18
  go_wp2
  go_loopg [7] 1 (fun k i wr => ∃ q : Nat, q + k = 1 ∧ i = .int .i64 (q : Int) ∧ Only g w wr ∧ (q = 0 → w = wr))
  case atStart => exact ⟨0, by omega, rfl, Only.refl _ _, fun _ => rfl⟩
  case round =>
    obtain ⟨q, hq, rfl, ho, h0⟩ := hrel
    rcases (by omega : q = 0 ∨ q = 1) with rfl | rfl
    · obtain rfl := h0 rfl
      have cS := H0.out.1
      obtain ⟨ko, hko⟩ : ∃ ko : Nat, ko = gk := ⟨_, rfl⟩
      clear ho h0
      go_wp2
      go_loopg [13] n (fun k i wi => ∃ j : Nat, j + k = n ∧ i = .int .i64 (j : Int) ∧ Only g w wi ∧ (0 < n → Writable g o n wi))
      case atStart => exact ⟨0, by omega, rfl, Only.refl _ _, H0.out.2.2⟩
      case round =>
        obtain ⟨j, hj, rfl, hon, hop⟩ := hrel
        have H := Lib.hid (And.intro hon hop)
        clear hon hop cS
        by_cases hlt : j < n
        · obtain rfl : p = some ⟨g, o, none⟩ := H0.out.2.1 (by omega)
          obtain ⟨z, cz⟩ := (H.out.2 (by omega)).1 j hlt
          have fz := (H.out.2 (by omega)).2 (o + j)
          go_wp2
          go_roundg (gk - 1)
          case measure => omega
          case rel => exact ⟨j + 1, by omega, by go_num, H.out.1.setCell _ rfl _, fun h => (H.out.2 h).set j _⟩
        · obtain rfl : j = n := by omega
          go_wp2
          go_roundg (ko - 1)
          case measure => omega
          case rel => exact ⟨1, by omega, by go_num, H.out.1, fun h => by omega⟩
    · go_wp2
      go_end0
      exact ⟨rfl, ho⟩
end Go.Proofs.YtbiobejfjhmccaaDoor
