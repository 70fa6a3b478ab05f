/- A count read, the document's. -/
import Derived.Test.YtfnfdfhmdepgoaaDoorSh
set_option linter.unusedSimpArgs false
set_option linter.unusedVariables false
namespace Go.Proofs.YtfnfdfhmdepgoaaDoor
open Go.RowKit Go.Lib

set_option maxHeartbeats 2000000 in
theorem rdec_none {w : World} {p : Option Addr} {c : Nat} : Calls Tryd.prog 79 #[.slice p 0 c] w (DecBad w 50) := by
  go_enter Tryd.func79, Tryd.ntmps79
  go_wp2
  exact bodyPost_ret (res3 (fn := Tryd.f79) rfl _ _) rfl ⟨rfl, Below.refl _ _⟩
set_option maxRecDepth 100000 in
set_option maxHeartbeats 2000000 in
theorem rdec_short3 {w : World} {g o n c v : Nat} {x : Nat → Nat} (R : Hid (Row w (some ⟨g, o, none⟩) g o n c x)) (hx : x 0 = 253) (h0 : 0 < n) (h : n < 3) : Calls Tryd.prog 79 #[.slice (some ⟨g, o, none⟩) n c] w (DecBad w 50) := by
  have t0 : ((n : Int) == 0) = false := by simp; omega
  have c0 := R.out.cell 0 (by omega)
  rw [Nat.add_zero] at c0
  rw [hx] at c0
  clear hx
  go_enter Tryd.func79, Tryd.ntmps79
  go_wp2
  exact bodyPost_ret (res3 (fn := Tryd.f79) rfl _ _) rfl ⟨rfl, Below.refl _ _⟩
set_option maxRecDepth 100000 in
set_option maxHeartbeats 2000000 in
theorem rdec_form3 {w : World} {g o n c v : Nat} {x : Nat → Nat} (R : Hid (Row w (some ⟨g, o, none⟩) g o n c x)) (hx : x 0 = 253) (h : 3 ≤ n) (hn : n ≤ 140737488351232) (hv : Hid (v = val x)) (hw : wid v ≠ 3) : Calls Tryd.prog 79 #[.slice (some ⟨g, o, none⟩) n c] w (DecBad w 51) := by
  have t0 : ((n : Int) == 0) = false := by simp; omega
  have c0 := R.out.cell 0 (by omega)
  rw [Nat.add_zero] at c0
  have VV : val x = ofBytes (fun i => x (1 + i)) (3 - 1) := by
    unfold val
    rw [hx, if_neg (by omega)]
    rfl
  rw [hx] at c0
  clear hx
  have tw : (((wid v : Nat) : Int) != 3) = true := by simp; omega
  clear hw
  obtain ⟨p2, e2, R2⟩ := R.out.slice (l := 1) (h := 3) (m := c) (by omega) h (Nat.le_trans h R.out.le) (Nat.le_refl _)
  have s2 : ∀ W, (Instr.sliceAt 26 (.slice (some ⟨g, o, none⟩) n c) (some (.int .i64 1)) (some (.int .i64 3)) none).run Tryd.prog W = .ok (.slice p2 2 (c - 1)) W := fun W => by
    have := run_lh (p := some ⟨g, o, none⟩) (n := n) (c := c) (l := 1) (h := 3) (by omega) (Nat.le_trans h R.out.le) W
    rw [e2] at this
    exact this
  have NM : Hid (Calls Tryd.prog 67 #[.slice p2 2 (c - 1)] w fun e w' => e = .returned (.int .u64 ((v : Nat) : Int)) ∧ w = w') := Lib.hid (by
    have := ref_number_any (Lib.hid R2) (by omega)
    rw [hv.out, VV]
    exact this)
  clear e2 R2 VV
  go_enter Tryd.func79, Tryd.ntmps79
  go_wp2_with (first
    | (go_at_call 67; refine NM.out.mono ?_; rintro e w1 ⟨rfl, rfl⟩)
    | (go_at_call 38; refine (ref_encode_any v _).mono ?_; rintro e w1 ⟨p1, g1, c1, rfl, N1, hb⟩; have B := Lib.hid hb; clear hb N1))
  exact bodyPost_ret (res3 (fn := Tryd.f79) rfl _ _) rfl ⟨rfl, B.out⟩
set_option maxRecDepth 100000 in
set_option maxHeartbeats 2000000 in
theorem rdec_good3 {w : World} {g o n c v : Nat} {x : Nat → Nat} (R : Hid (Row w (some ⟨g, o, none⟩) g o n c x)) (hx : x 0 = 253) (h : 3 ≤ n) (hn : n ≤ 140737488351232) (hv : Hid (v = val x)) (hw : wid v = 3) : Calls Tryd.prog 79 #[.slice (some ⟨g, o, none⟩) n c] w (fun e w' => ∃ p g c, e = .returned (.tuple #[.int .u64 ((v : Nat) : Int), .slice p (n - 3) c, .int .i64 0]) ∧ Row w' p g 0 (n - 3) c (fun i => x (3 + i)) ∧ Below w.heap.size w w') := by
  have t0 : ((n : Int) == 0) = false := by simp; omega
  have c0 := R.out.cell 0 (by omega)
  rw [Nat.add_zero] at c0
  have VV : val x = ofBytes (fun i => x (1 + i)) (3 - 1) := by
    unfold val
    rw [hx, if_neg (by omega)]
    rfl
  rw [hx] at c0
  clear hx
  have tw : (((wid v : Nat) : Int) != 3) = false := by rw [hw]; rfl
  clear hw
  obtain ⟨p2, e2, R2⟩ := R.out.slice (l := 1) (h := 3) (m := c) (by omega) h (Nat.le_trans h R.out.le) (Nat.le_refl _)
  have s2 : ∀ W, (Instr.sliceAt 26 (.slice (some ⟨g, o, none⟩) n c) (some (.int .i64 1)) (some (.int .i64 3)) none).run Tryd.prog W = .ok (.slice p2 2 (c - 1)) W := fun W => by
    have := run_lh (p := some ⟨g, o, none⟩) (n := n) (c := c) (l := 1) (h := 3) (by omega) (Nat.le_trans h R.out.le) W
    rw [e2] at this
    exact this
  have NM : Hid (Calls Tryd.prog 67 #[.slice p2 2 (c - 1)] w fun e w' => e = .returned (.int .u64 ((v : Nat) : Int)) ∧ w = w') := Lib.hid (by
    have := ref_number_any (Lib.hid R2) (by omega)
    rw [hv.out, VV]
    exact this)
  clear e2 R2 VV
  obtain ⟨p3, e3, R3⟩ := R.out.slice (l := 3) (h := n) (m := c) h (Nat.le_refl _) R.out.le (Nat.le_refl _)
  have s3 : ∀ W, (Instr.sliceAt 26 (.slice (some ⟨g, o, none⟩) n c) (some (.int .i64 3)) none none).run Tryd.prog W = .ok (.slice p3 (n - 3) (c - 3)) W := fun W => by
    have := run_l (p := some ⟨g, o, none⟩) (n := n) (c := c) (l := 3) h W
    rw [e3] at this
    exact this
  have RT := Lib.hid R3
  clear e3 R3
  go_enter Tryd.func79, Tryd.ntmps79
  go_wp2_with (first
    | (go_at_call 67; refine NM.out.mono ?_; rintro e w1 ⟨rfl, rfl⟩)
    | (go_at_call 38; refine (ref_encode_any v _).mono ?_; rintro e w1 ⟨p1, g1, c1, rfl, N1, hb⟩; have B := Lib.hid hb; clear hb N1)
    | (at_builtin; refine wpList_app (.inl rfl) (.tmp 39) (.tmp 42) rfl rfl (Lib.hid (own_start w1 (fun i => x (3 + i)) (fun i => RT.out.byte i))) rfl (Lib.hid ((RT.out.below B.out).below (below_new w1 (.cells #[] 5)))) (by omega) ?_; intro p4 g4 c4 w4 N4 hb))
  simp only [Nat.zero_add] at N4
  exact bodyPost_ret (res3 (fn := Tryd.f79) rfl _ _) rfl ⟨p4, g4, c4, rfl, (N4.out.to (fun i _ => cat_zero _ _ i) (fun i => RT.out.byte i)).row, B.out.trans (((below_new w1 _).trans hb.out).mono B.out.size)⟩
set_option maxRecDepth 100000 in
set_option maxHeartbeats 2000000 in
theorem rdec_short5 {w : World} {g o n c v : Nat} {x : Nat → Nat} (R : Hid (Row w (some ⟨g, o, none⟩) g o n c x)) (hx : x 0 = 254) (h0 : 0 < n) (h : n < 5) : Calls Tryd.prog 79 #[.slice (some ⟨g, o, none⟩) n c] w (DecBad w 50) := by
  have t0 : ((n : Int) == 0) = false := by simp; omega
  have c0 := R.out.cell 0 (by omega)
  rw [Nat.add_zero] at c0
  rw [hx] at c0
  clear hx
  go_enter Tryd.func79, Tryd.ntmps79
  go_wp2
  exact bodyPost_ret (res3 (fn := Tryd.f79) rfl _ _) rfl ⟨rfl, Below.refl _ _⟩
set_option maxRecDepth 100000 in
set_option maxHeartbeats 2000000 in
theorem rdec_form5 {w : World} {g o n c v : Nat} {x : Nat → Nat} (R : Hid (Row w (some ⟨g, o, none⟩) g o n c x)) (hx : x 0 = 254) (h : 5 ≤ n) (hn : n ≤ 140737488351232) (hv : Hid (v = val x)) (hw : wid v ≠ 5) : Calls Tryd.prog 79 #[.slice (some ⟨g, o, none⟩) n c] w (DecBad w 51) := by
  have t0 : ((n : Int) == 0) = false := by simp; omega
  have c0 := R.out.cell 0 (by omega)
  rw [Nat.add_zero] at c0
  have VV : val x = ofBytes (fun i => x (1 + i)) (5 - 1) := by
    unfold val
    rw [hx, if_neg (by omega)]
    rfl
  rw [hx] at c0
  clear hx
  have tw : (((wid v : Nat) : Int) != 5) = true := by simp; omega
  clear hw
  obtain ⟨p2, e2, R2⟩ := R.out.slice (l := 1) (h := 5) (m := c) (by omega) h (Nat.le_trans h R.out.le) (Nat.le_refl _)
  have s2 : ∀ W, (Instr.sliceAt 26 (.slice (some ⟨g, o, none⟩) n c) (some (.int .i64 1)) (some (.int .i64 5)) none).run Tryd.prog W = .ok (.slice p2 4 (c - 1)) W := fun W => by
    have := run_lh (p := some ⟨g, o, none⟩) (n := n) (c := c) (l := 1) (h := 5) (by omega) (Nat.le_trans h R.out.le) W
    rw [e2] at this
    exact this
  have NM : Hid (Calls Tryd.prog 67 #[.slice p2 4 (c - 1)] w fun e w' => e = .returned (.int .u64 ((v : Nat) : Int)) ∧ w = w') := Lib.hid (by
    have := ref_number_any (Lib.hid R2) (by omega)
    rw [hv.out, VV]
    exact this)
  clear e2 R2 VV
  go_enter Tryd.func79, Tryd.ntmps79
  go_wp2_with (first
    | (go_at_call 67; refine NM.out.mono ?_; rintro e w1 ⟨rfl, rfl⟩)
    | (go_at_call 38; refine (ref_encode_any v _).mono ?_; rintro e w1 ⟨p1, g1, c1, rfl, N1, hb⟩; have B := Lib.hid hb; clear hb N1))
  exact bodyPost_ret (res3 (fn := Tryd.f79) rfl _ _) rfl ⟨rfl, B.out⟩
set_option maxRecDepth 100000 in
set_option maxHeartbeats 2000000 in
theorem rdec_good5 {w : World} {g o n c v : Nat} {x : Nat → Nat} (R : Hid (Row w (some ⟨g, o, none⟩) g o n c x)) (hx : x 0 = 254) (h : 5 ≤ n) (hn : n ≤ 140737488351232) (hv : Hid (v = val x)) (hw : wid v = 5) : Calls Tryd.prog 79 #[.slice (some ⟨g, o, none⟩) n c] w (fun e w' => ∃ p g c, e = .returned (.tuple #[.int .u64 ((v : Nat) : Int), .slice p (n - 5) c, .int .i64 0]) ∧ Row w' p g 0 (n - 5) c (fun i => x (5 + i)) ∧ Below w.heap.size w w') := by
  have t0 : ((n : Int) == 0) = false := by simp; omega
  have c0 := R.out.cell 0 (by omega)
  rw [Nat.add_zero] at c0
  have VV : val x = ofBytes (fun i => x (1 + i)) (5 - 1) := by
    unfold val
    rw [hx, if_neg (by omega)]
    rfl
  rw [hx] at c0
  clear hx
  have tw : (((wid v : Nat) : Int) != 5) = false := by rw [hw]; rfl
  clear hw
  obtain ⟨p2, e2, R2⟩ := R.out.slice (l := 1) (h := 5) (m := c) (by omega) h (Nat.le_trans h R.out.le) (Nat.le_refl _)
  have s2 : ∀ W, (Instr.sliceAt 26 (.slice (some ⟨g, o, none⟩) n c) (some (.int .i64 1)) (some (.int .i64 5)) none).run Tryd.prog W = .ok (.slice p2 4 (c - 1)) W := fun W => by
    have := run_lh (p := some ⟨g, o, none⟩) (n := n) (c := c) (l := 1) (h := 5) (by omega) (Nat.le_trans h R.out.le) W
    rw [e2] at this
    exact this
  have NM : Hid (Calls Tryd.prog 67 #[.slice p2 4 (c - 1)] w fun e w' => e = .returned (.int .u64 ((v : Nat) : Int)) ∧ w = w') := Lib.hid (by
    have := ref_number_any (Lib.hid R2) (by omega)
    rw [hv.out, VV]
    exact this)
  clear e2 R2 VV
  obtain ⟨p3, e3, R3⟩ := R.out.slice (l := 5) (h := n) (m := c) h (Nat.le_refl _) R.out.le (Nat.le_refl _)
  have s3 : ∀ W, (Instr.sliceAt 26 (.slice (some ⟨g, o, none⟩) n c) (some (.int .i64 5)) none none).run Tryd.prog W = .ok (.slice p3 (n - 5) (c - 5)) W := fun W => by
    have := run_l (p := some ⟨g, o, none⟩) (n := n) (c := c) (l := 5) h W
    rw [e3] at this
    exact this
  have RT := Lib.hid R3
  clear e3 R3
  go_enter Tryd.func79, Tryd.ntmps79
  go_wp2_with (first
    | (go_at_call 67; refine NM.out.mono ?_; rintro e w1 ⟨rfl, rfl⟩)
    | (go_at_call 38; refine (ref_encode_any v _).mono ?_; rintro e w1 ⟨p1, g1, c1, rfl, N1, hb⟩; have B := Lib.hid hb; clear hb N1)
    | (at_builtin; refine wpList_app (.inl rfl) (.tmp 39) (.tmp 42) rfl rfl (Lib.hid (own_start w1 (fun i => x (5 + i)) (fun i => RT.out.byte i))) rfl (Lib.hid ((RT.out.below B.out).below (below_new w1 (.cells #[] 5)))) (by omega) ?_; intro p4 g4 c4 w4 N4 hb))
  simp only [Nat.zero_add] at N4
  exact bodyPost_ret (res3 (fn := Tryd.f79) rfl _ _) rfl ⟨p4, g4, c4, rfl, (N4.out.to (fun i _ => cat_zero _ _ i) (fun i => RT.out.byte i)).row, B.out.trans (((below_new w1 _).trans hb.out).mono B.out.size)⟩
set_option maxRecDepth 100000 in
set_option maxHeartbeats 2000000 in
theorem rdec_short9 {w : World} {g o n c v : Nat} {x : Nat → Nat} (R : Hid (Row w (some ⟨g, o, none⟩) g o n c x)) (hx : x 0 = 255) (h0 : 0 < n) (h : n < 9) : Calls Tryd.prog 79 #[.slice (some ⟨g, o, none⟩) n c] w (DecBad w 50) := by
  have t0 : ((n : Int) == 0) = false := by simp; omega
  have c0 := R.out.cell 0 (by omega)
  rw [Nat.add_zero] at c0
  rw [hx] at c0
  clear hx
  go_enter Tryd.func79, Tryd.ntmps79
  go_wp2
  exact bodyPost_ret (res3 (fn := Tryd.f79) rfl _ _) rfl ⟨rfl, Below.refl _ _⟩
set_option maxRecDepth 100000 in
set_option maxHeartbeats 2000000 in
theorem rdec_form9 {w : World} {g o n c v : Nat} {x : Nat → Nat} (R : Hid (Row w (some ⟨g, o, none⟩) g o n c x)) (hx : x 0 = 255) (h : 9 ≤ n) (hn : n ≤ 140737488351232) (hv : Hid (v = val x)) (hw : wid v ≠ 9) : Calls Tryd.prog 79 #[.slice (some ⟨g, o, none⟩) n c] w (DecBad w 51) := by
  have t0 : ((n : Int) == 0) = false := by simp; omega
  have c0 := R.out.cell 0 (by omega)
  rw [Nat.add_zero] at c0
  have VV : val x = ofBytes (fun i => x (1 + i)) (9 - 1) := by
    unfold val
    rw [hx, if_neg (by omega)]
    rfl
  rw [hx] at c0
  clear hx
  have tw : (((wid v : Nat) : Int) != 9) = true := by simp; omega
  clear hw
  obtain ⟨p2, e2, R2⟩ := R.out.slice (l := 1) (h := 9) (m := c) (by omega) h (Nat.le_trans h R.out.le) (Nat.le_refl _)
  have s2 : ∀ W, (Instr.sliceAt 26 (.slice (some ⟨g, o, none⟩) n c) (some (.int .i64 1)) (some (.int .i64 9)) none).run Tryd.prog W = .ok (.slice p2 8 (c - 1)) W := fun W => by
    have := run_lh (p := some ⟨g, o, none⟩) (n := n) (c := c) (l := 1) (h := 9) (by omega) (Nat.le_trans h R.out.le) W
    rw [e2] at this
    exact this
  have NM : Hid (Calls Tryd.prog 67 #[.slice p2 8 (c - 1)] w fun e w' => e = .returned (.int .u64 ((v : Nat) : Int)) ∧ w = w') := Lib.hid (by
    have := ref_number_any (Lib.hid R2) (by omega)
    rw [hv.out, VV]
    exact this)
  clear e2 R2 VV
  go_enter Tryd.func79, Tryd.ntmps79
  go_wp2_with (first
    | (go_at_call 67; refine NM.out.mono ?_; rintro e w1 ⟨rfl, rfl⟩)
    | (go_at_call 38; refine (ref_encode_any v _).mono ?_; rintro e w1 ⟨p1, g1, c1, rfl, N1, hb⟩; have B := Lib.hid hb; clear hb N1))
  exact bodyPost_ret (res3 (fn := Tryd.f79) rfl _ _) rfl ⟨rfl, B.out⟩
set_option maxRecDepth 100000 in
set_option maxHeartbeats 2000000 in
theorem rdec_good9 {w : World} {g o n c v : Nat} {x : Nat → Nat} (R : Hid (Row w (some ⟨g, o, none⟩) g o n c x)) (hx : x 0 = 255) (h : 9 ≤ n) (hn : n ≤ 140737488351232) (hv : Hid (v = val x)) (hw : wid v = 9) : Calls Tryd.prog 79 #[.slice (some ⟨g, o, none⟩) n c] w (fun e w' => ∃ p g c, e = .returned (.tuple #[.int .u64 ((v : Nat) : Int), .slice p (n - 9) c, .int .i64 0]) ∧ Row w' p g 0 (n - 9) c (fun i => x (9 + i)) ∧ Below w.heap.size w w') := by
  have t0 : ((n : Int) == 0) = false := by simp; omega
  have c0 := R.out.cell 0 (by omega)
  rw [Nat.add_zero] at c0
  have VV : val x = ofBytes (fun i => x (1 + i)) (9 - 1) := by
    unfold val
    rw [hx, if_neg (by omega)]
    rfl
  rw [hx] at c0
  clear hx
  have tw : (((wid v : Nat) : Int) != 9) = false := by rw [hw]; rfl
  clear hw
  obtain ⟨p2, e2, R2⟩ := R.out.slice (l := 1) (h := 9) (m := c) (by omega) h (Nat.le_trans h R.out.le) (Nat.le_refl _)
  have s2 : ∀ W, (Instr.sliceAt 26 (.slice (some ⟨g, o, none⟩) n c) (some (.int .i64 1)) (some (.int .i64 9)) none).run Tryd.prog W = .ok (.slice p2 8 (c - 1)) W := fun W => by
    have := run_lh (p := some ⟨g, o, none⟩) (n := n) (c := c) (l := 1) (h := 9) (by omega) (Nat.le_trans h R.out.le) W
    rw [e2] at this
    exact this
  have NM : Hid (Calls Tryd.prog 67 #[.slice p2 8 (c - 1)] w fun e w' => e = .returned (.int .u64 ((v : Nat) : Int)) ∧ w = w') := Lib.hid (by
    have := ref_number_any (Lib.hid R2) (by omega)
    rw [hv.out, VV]
    exact this)
  clear e2 R2 VV
  obtain ⟨p3, e3, R3⟩ := R.out.slice (l := 9) (h := n) (m := c) h (Nat.le_refl _) R.out.le (Nat.le_refl _)
  have s3 : ∀ W, (Instr.sliceAt 26 (.slice (some ⟨g, o, none⟩) n c) (some (.int .i64 9)) none none).run Tryd.prog W = .ok (.slice p3 (n - 9) (c - 9)) W := fun W => by
    have := run_l (p := some ⟨g, o, none⟩) (n := n) (c := c) (l := 9) h W
    rw [e3] at this
    exact this
  have RT := Lib.hid R3
  clear e3 R3
  go_enter Tryd.func79, Tryd.ntmps79
  go_wp2_with (first
    | (go_at_call 67; refine NM.out.mono ?_; rintro e w1 ⟨rfl, rfl⟩)
    | (go_at_call 38; refine (ref_encode_any v _).mono ?_; rintro e w1 ⟨p1, g1, c1, rfl, N1, hb⟩; have B := Lib.hid hb; clear hb N1)
    | (at_builtin; refine wpList_app (.inl rfl) (.tmp 39) (.tmp 42) rfl rfl (Lib.hid (own_start w1 (fun i => x (9 + i)) (fun i => RT.out.byte i))) rfl (Lib.hid ((RT.out.below B.out).below (below_new w1 (.cells #[] 5)))) (by omega) ?_; intro p4 g4 c4 w4 N4 hb))
  simp only [Nat.zero_add] at N4
  exact bodyPost_ret (res3 (fn := Tryd.f79) rfl _ _) rfl ⟨p4, g4, c4, rfl, (N4.out.to (fun i _ => cat_zero _ _ i) (fun i => RT.out.byte i)).row, B.out.trans (((below_new w1 _).trans hb.out).mono B.out.size)⟩
end Go.Proofs.YtfnfdfhmdepgoaaDoor

