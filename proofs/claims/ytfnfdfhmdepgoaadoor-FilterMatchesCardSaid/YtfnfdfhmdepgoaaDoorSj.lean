/- A count of one byte read, the document's. -/
import Derived.Test.YtfnfdfhmdepgoaaDoorSh
set_option linter.unusedSimpArgs false
set_option linter.unusedVariables false
namespace Go.Proofs.YtfnfdfhmdepgoaaDoor
open Go.RowKit Go.Lib

set_option maxRecDepth 100000 in
set_option maxHeartbeats 2000000 in
theorem rdec_form1 {w : World} {g o n c v : Nat} {x : Nat → Nat} (R : Hid (Row w (some ⟨g, o, none⟩) g o n c x)) (hx : Hid (x 0 = v)) (h1 : v ≠ 253) (h2 : v ≠ 254) (h3 : v ≠ 255) (h : 1 ≤ n) (hn : n ≤ 140737488351232) (hw : wid v ≠ 1) : Calls Tryd.prog 79 #[.slice (some ⟨g, o, none⟩) n c] w (DecBad w 51) := by
  have t0 : ((n : Int) == 0) = false := by simp; omega
  have c0 := R.out.cell 0 (by omega)
  rw [Nat.add_zero] at c0
  have fl := R.out.byte 0
  rw [hx.out] at c0 fl
  have t1 : (((v : Nat) : Int) == 253) = false := by simp; omega
  have t2 : (((v : Nat) : Int) == 254) = false := by simp; omega
  have t3 : (((v : Nat) : Int) == 255) = false := by simp; omega
  clear h1 h2 h3
  have tw : (((wid v : Nat) : Int) != 1) = true := by simp; omega
  clear hw
  go_enter Tryd.func79, Tryd.ntmps79
  go_wp2_with (first
    | (go_at_call 38; refine (ref_encode_any v _).mono ?_; rintro e w1 ⟨p1, g1, c1, rfl, N1, hb⟩; have B := Lib.hid hb; clear hb N1))
  exact bodyPost_ret (res3 (fn := Tryd.f79) rfl _ _) rfl ⟨rfl, B.out⟩
set_option maxRecDepth 100000 in
set_option maxHeartbeats 2000000 in
theorem rdec_good1 {w : World} {g o n c v : Nat} {x : Nat → Nat} (R : Hid (Row w (some ⟨g, o, none⟩) g o n c x)) (hx : Hid (x 0 = v)) (h1 : v ≠ 253) (h2 : v ≠ 254) (h3 : v ≠ 255) (h : 1 ≤ n) (hn : n ≤ 140737488351232) (hw : wid v = 1) : Calls Tryd.prog 79 #[.slice (some ⟨g, o, none⟩) n c] w (fun e w' => ∃ p g c, e = .returned (.tuple #[.int .u64 ((v : Nat) : Int), .slice p (n - 1) c, .int .i64 0]) ∧ Row w' p g 0 (n - 1) c (fun i => x (1 + i)) ∧ Below w.heap.size w w') := by
  have t0 : ((n : Int) == 0) = false := by simp; omega
  have c0 := R.out.cell 0 (by omega)
  rw [Nat.add_zero] at c0
  have fl := R.out.byte 0
  rw [hx.out] at c0 fl
  have t1 : (((v : Nat) : Int) == 253) = false := by simp; omega
  have t2 : (((v : Nat) : Int) == 254) = false := by simp; omega
  have t3 : (((v : Nat) : Int) == 255) = false := by simp; omega
  clear h1 h2 h3
  have tw : (((wid v : Nat) : Int) != 1) = false := by rw [hw]; rfl
  clear hw
  obtain ⟨p3, e3, R3⟩ := R.out.slice (l := 1) (h := n) (m := c) h (Nat.le_refl _) R.out.le (Nat.le_refl _)
  have s3 : ∀ W, (Instr.sliceAt 26 (.slice (some ⟨g, o, none⟩) n c) (some (.int .i64 1)) none none).run Tryd.prog W = .ok (.slice p3 (n - 1) (c - 1)) W := fun W => by
    have := run_l (p := some ⟨g, o, none⟩) (n := n) (c := c) (l := 1) h W
    rw [e3] at this
    exact this
  have RT := Lib.hid R3
  clear e3 R3
  go_enter Tryd.func79, Tryd.ntmps79
  go_wp2_with (first
    | (go_at_call 38; refine (ref_encode_any v _).mono ?_; rintro e w1 ⟨p1, g1, c1, rfl, N1, hb⟩; have B := Lib.hid hb; clear hb N1)
    | (at_builtin; refine wpList_app (.inl rfl) (.tmp 39) (.tmp 42) rfl rfl (Lib.hid (own_start w1 (fun i => x (1 + i)) (fun i => RT.out.byte i))) rfl (Lib.hid ((RT.out.below B.out).below (below_new w1 (.cells #[] 5)))) (by omega) ?_; intro p4 g4 c4 w4 N4 hb))
  simp only [Nat.zero_add] at N4
  exact bodyPost_ret (res3 (fn := Tryd.f79) rfl _ _) rfl ⟨p4, g4, c4, rfl, (N4.out.to (fun i _ => cat_zero _ _ i) (fun i => RT.out.byte i)).row, B.out.trans (((below_new w1 _).trans hb.out).mono B.out.size)⟩
end Go.Proofs.YtfnfdfhmdepgoaaDoor

