/- Texts of ours, merged: Sh, Si, Sj, Sk, Sl, Sn, So. -/
import Derived.Test.YtllndneplkigpaaSg
import Derived.Test.YtllndneplkigpaaZA
section
set_option linter.unusedSimpArgs false
namespace Go.Proofs.Ytllndneplkigpaa
open Go.RowKit Go.Lib

def DecGood (w : World) (n : Nat) (x : Nat → Nat) (e : Ending) (w' : World) : Prop :=
  ∃ p g c, e = .returned (.tuple #[.int .u64 ((val x : Nat) : Int), .slice p (n - wOf (x 0)) c, .int .i64 0]) ∧ Row w' p g 0 (n - wOf (x 0)) c (fun i => x (wOf (x 0) + i)) ∧ Below w.heap.size w w'
/-- A row in a block of bytes. -/
structure TRow (w : World) (p : Option Addr) (g o n c : Nat) (x : Nat → Nat) : Prop where
  row : Row w p g o n c x
  typ : 0 < n → ∃ cs, w.heap[g]? = some (.cells cs 5 (0, 0))
theorem own_typed {w : World} {B : Nat} {p : Option Addr} {g n c : Nat} {x : Nat → Nat} (N : Own B w p g n c x) (h : 0 < n) : ∃ cs, w.heap[g]? = some (.cells cs 5 (0, 0)) := by
  obtain ⟨_, h1⟩ := N.own
  rcases h1 with ⟨_, h2⟩ | ⟨g', cap, cur, h1, h2, h3, _⟩
  · omega
  · injection h1 with a1
    rcases N.spot with q | q
    · rw [q] at a1; cases a1
    · rw [q] at a1
      injection a1 with a1
      injection a1 with a1
      subst a1
      exact ⟨cur, h3⟩
theorem Own.trow {w : World} {B : Nat} {p : Option Addr} {g n c : Nat} {x : Nat → Nat} (N : Own B w p g n c x) : TRow w p g 0 n c x := ⟨N.row, own_typed N⟩
def DecT (w : World) (n : Nat) (x : Nat → Nat) (e : Ending) (w' : World) : Prop :=
  ∃ p g c, e = .returned (.tuple #[.int .u64 ((val x : Nat) : Int), .slice p (n - wOf (x 0)) c, .int .i64 0]) ∧ TRow w' p g 0 (n - wOf (x 0)) c (fun i => x (wOf (x 0) + i)) ∧ Below w.heap.size w w'
def DecBad (w : World) (k : Nat) (e : Ending) (w' : World) : Prop := e = .returned (noCount k) ∧ Below w.heap.size w w'
def SplitGood (w : World) (g o n : Nat) (x : Nat → Nat) (e : Ending) (w' : World) : Prop :=
  ∃ p' : Option Addr, e = .returned (.tuple #[.int .u64 ((val x : Nat) : Int), .slice p' (n - wOf (x 0)) (n - wOf (x 0)), .int .i64 0]) ∧ Row w' p' g (o + wOf (x 0)) (n - wOf (x 0)) (n - wOf (x 0)) (fun i => x (wOf (x 0) + i)) ∧ Below w.heap.size w w'
theorem dec_cases (n : Nat) (x : Nat → Nat) : (n = 0 ∧ dec n x = 50) ∨ (0 < n ∧ n < wOf (x 0) ∧ dec n x = 50) ∨ (wOf (x 0) ≤ n ∧ wid (val x) ≠ wOf (x 0) ∧ dec n x = 51) ∨ (wOf (x 0) ≤ n ∧ wid (val x) = wOf (x 0) ∧ dec n x = 0) := by
  have hw := wOf_bd (x 0)
  unfold dec
  by_cases h0 : n = 0
  · exact .inl ⟨h0, by rw [if_pos (.inr h0)]⟩
  · by_cases h1 : n < wOf (x 0)
    · exact .inr (.inl ⟨by omega, h1, by rw [if_pos (.inl h1)]⟩)
    · by_cases h2 : wid (val x) = wOf (x 0)
      · exact .inr (.inr (.inr ⟨by omega, h2, by rw [if_neg (by omega), if_pos h2]⟩))
      · exact .inr (.inr (.inl ⟨by omega, h2, by rw [if_neg (by omega), if_neg h2]⟩))
theorem split_bad {w : World} {p : Option Addr} {g o n c k : Nat} {x : Nat → Nat} (R : Hid (Row w p g o n c x)) (hd : Hid (dec n x = k)) (hk : Hid (k ≠ 0)) : Calls Try.prog 105 #[.slice p n c] w (DecBad w k) := by
  have hw := wOf_bd (x 0)
  have e := hd.out
  rcases dec_cases n x with ⟨h1, h2⟩ | ⟨h1, h2, h3⟩ | ⟨h1, h2, h3⟩ | ⟨h1, h2, h3⟩
  · obtain rfl : k = 50 := by omega
    subst h1
    exact split_none
  · obtain rfl : k = 50 := by omega
    exact split_short R h1 h2
  · obtain rfl : k = 51 := by omega
    obtain rfl := R.out.head (by omega)
    exact split_form (k := wOf (x 0)) (v := val x) R (Lib.hid rfl) (by omega) (by omega) h1 (Lib.hid rfl) (Lib.hid h2)
  · exact absurd (e.symm.trans h3) hk.out
theorem split_good {w : World} {p : Option Addr} {g o n c : Nat} {x : Nat → Nat} (R : Hid (Row w p g o n c x)) (hd : Hid (dec n x = 0)) : Calls Try.prog 105 #[.slice p n c] w (SplitGood w g o n x) := by
  have hw := wOf_bd (x 0)
  have e := hd.out
  rcases dec_cases n x with ⟨h1, h2⟩ | ⟨h1, h2, h3⟩ | ⟨h1, h2, h3⟩ | ⟨h1, h2, h3⟩
  · omega
  · omega
  · omega
  · obtain rfl := R.out.head (by omega)
    exact split_ok (k := wOf (x 0)) (v := val x) R (Lib.hid rfl) (by omega) (by omega) h1 (Lib.hid rfl) (Lib.hid h2)

set_option maxRecDepth 100000 in
set_option maxHeartbeats 2000000 in
theorem decode_bad {w : World} {p : Option Addr} {g o n c k : Nat} {x : Nat → Nat} (R : Hid (Row w p g o n c x)) (hd : Hid (dec n x = k)) (hk : k ≠ 0) : Calls Try.prog 103 #[.slice p n c] w (DecBad w k) := by
  have S := Lib.hid (split_bad R hd (Lib.hid hk))
  have t0 : ((k : Int) != 0) = true := by simp; omega
  clear hk
  go_enter Try.func103, Try.ntmps103
  go_wp2_with (go_at_call 105; refine S.out.mono ?_; rintro e w1 ⟨rfl, hb⟩; have B := Lib.hid hb; clear hb)
  exact bodyPost_ret (res3 (fn := Try.f103) rfl _ _) rfl ⟨rfl, B.out⟩
set_option maxRecDepth 100000 in
set_option maxHeartbeats 2000000 in
theorem decode_good {w : World} {p : Option Addr} {g o n c : Nat} {x : Nat → Nat} (R : Hid (Row w p g o n c x)) (hd : Hid (dec n x = 0)) (hn : Hid (n ≤ 140737488355328)) : Calls Try.prog 103 #[.slice p n c] w (DecGood w n x) := by
  have S := Lib.hid (split_good R hd)
  go_enter Try.func103, Try.ntmps103
  go_wp2_with (first
    | (go_at_call 105; refine S.out.mono ?_; rintro e w1 ⟨p1, rfl, R1, hb⟩; have B := Lib.hid hb; have RP := Lib.hid R1; clear hb R1)
    | (go_at_call 8; refine (clone_any RP (by have := hn.out; omega)).mono ?_; rintro e w2 ⟨p2, g2, c2, rfl, N1, hb⟩; have N := Lib.hid N1; replace B := Lib.hid (B.out.trans (hb.mono B.out.size)); clear hb N1))
  exact bodyPost_ret (res3 (fn := Try.f103) rfl _ _) rfl ⟨p2, g2, c2, rfl, N.out.row, B.out⟩
end Go.Proofs.Ytllndneplkigpaa
end
section
set_option linter.unusedSimpArgs false
set_option linter.unusedVariables false
namespace Go.Proofs.Ytllndneplkigpaa
open Go.RowKit Go.Lib

set_option maxHeartbeats 2000000 in
theorem rdec_none {w : World} {p : Option Addr} {c : Nat} : Calls Try.prog 50 #[.slice p 0 c] w (DecBad w 50) := by
  go_enter Try.func50, Try.ntmps50
  go_wp2
  exact bodyPost_ret (res3 (fn := Try.f50) rfl _ _) rfl ⟨rfl, Below.refl _ _⟩
set_option maxRecDepth 100000 in
set_option maxHeartbeats 2000000 in
theorem rdec_short3 {w : World} {g o n c v : Nat} {x : Nat → Nat} (R : Hid (Row w (some ⟨g, o, none⟩) g o n c x)) (hx : x 0 = 253) (h0 : 0 < n) (h : n < 3) : Calls Try.prog 50 #[.slice (some ⟨g, o, none⟩) n c] w (DecBad w 50) := by
  have t0 : ((n : Int) == 0) = false := by simp; omega
  have c0 := R.out.cell 0 (by omega)
  rw [Nat.add_zero] at c0
  rw [hx] at c0
  clear hx
  go_enter Try.func50, Try.ntmps50
  go_wp2
  exact bodyPost_ret (res3 (fn := Try.f50) rfl _ _) rfl ⟨rfl, Below.refl _ _⟩
set_option maxRecDepth 100000 in
set_option maxHeartbeats 2000000 in
theorem rdec_form3 {w : World} {g o n c v : Nat} {x : Nat → Nat} (R : Hid (Row w (some ⟨g, o, none⟩) g o n c x)) (hx : x 0 = 253) (h : 3 ≤ n) (hn : n ≤ 140737488351232) (hv : Hid (v = val x)) (hw : wid v ≠ 3) : Calls Try.prog 50 #[.slice (some ⟨g, o, none⟩) n c] w (DecBad w 51) := by
  have t0 : ((n : Int) == 0) = false := by simp; omega
  have c0 := R.out.cell 0 (by omega)
  rw [Nat.add_zero] at c0
  have VV : val x = ofBytes (fun i => x (1 + i)) (3 - 1) := by
    unfold val
    rw [hx, if_neg (by omega)]
    rfl
  rw [hx] at c0
  clear hx
  have tw : (((wid v : Nat) : Int) != 3) = true := by simp; omega
  clear hw
  obtain ⟨p2, e2, R2⟩ := R.out.slice (l := 1) (h := 3) (m := c) (by omega) h (Nat.le_trans h R.out.le) (Nat.le_refl _)
  have s2 : ∀ W, (Instr.sliceAt 22 (.slice (some ⟨g, o, none⟩) n c) (some (.int .i64 1)) (some (.int .i64 3)) none).run Try.prog W = .ok (.slice p2 2 (c - 1)) W := fun W => by
    have := run_lh (p := some ⟨g, o, none⟩) (n := n) (c := c) (l := 1) (h := 3) (by omega) (Nat.le_trans h R.out.le) W
    rw [e2] at this
    exact this
  have NM : Hid (Calls Try.prog 69 #[.slice p2 2 (c - 1)] w fun e w' => e = .returned (.int .u64 ((v : Nat) : Int)) ∧ w = w') := Lib.hid (by
    have := ref_number_any (Lib.hid R2) (by omega)
    rw [hv.out, VV]
    exact this)
  clear e2 R2 VV
  go_enter Try.func50, Try.ntmps50
  go_wp2_with (first
    | (go_at_call 69; refine NM.out.mono ?_; rintro e w1 ⟨rfl, rfl⟩)
    | (go_at_call 57; refine (ref_encode_any v _).mono ?_; rintro e w1 ⟨p1, g1, c1, rfl, N1, hb⟩; have B := Lib.hid hb; clear hb N1))
  exact bodyPost_ret (res3 (fn := Try.f50) rfl _ _) rfl ⟨rfl, B.out⟩
set_option maxRecDepth 100000 in
set_option maxHeartbeats 2000000 in
theorem rdec_good3 {w : World} {g o n c v : Nat} {x : Nat → Nat} (R : Hid (Row w (some ⟨g, o, none⟩) g o n c x)) (hx : x 0 = 253) (h : 3 ≤ n) (hn : n ≤ 140737488351232) (hv : Hid (v = val x)) (hw : wid v = 3) : Calls Try.prog 50 #[.slice (some ⟨g, o, none⟩) n c] w (fun e w' => ∃ p g c, e = .returned (.tuple #[.int .u64 ((v : Nat) : Int), .slice p (n - 3) c, .int .i64 0]) ∧ TRow w' p g 0 (n - 3) c (fun i => x (3 + i)) ∧ Below w.heap.size w w') := by
  have t0 : ((n : Int) == 0) = false := by simp; omega
  have c0 := R.out.cell 0 (by omega)
  rw [Nat.add_zero] at c0
  have VV : val x = ofBytes (fun i => x (1 + i)) (3 - 1) := by
    unfold val
    rw [hx, if_neg (by omega)]
    rfl
  rw [hx] at c0
  clear hx
  have tw : (((wid v : Nat) : Int) != 3) = false := by rw [hw]; rfl
  clear hw
  obtain ⟨p2, e2, R2⟩ := R.out.slice (l := 1) (h := 3) (m := c) (by omega) h (Nat.le_trans h R.out.le) (Nat.le_refl _)
  have s2 : ∀ W, (Instr.sliceAt 22 (.slice (some ⟨g, o, none⟩) n c) (some (.int .i64 1)) (some (.int .i64 3)) none).run Try.prog W = .ok (.slice p2 2 (c - 1)) W := fun W => by
    have := run_lh (p := some ⟨g, o, none⟩) (n := n) (c := c) (l := 1) (h := 3) (by omega) (Nat.le_trans h R.out.le) W
    rw [e2] at this
    exact this
  have NM : Hid (Calls Try.prog 69 #[.slice p2 2 (c - 1)] w fun e w' => e = .returned (.int .u64 ((v : Nat) : Int)) ∧ w = w') := Lib.hid (by
    have := ref_number_any (Lib.hid R2) (by omega)
    rw [hv.out, VV]
    exact this)
  clear e2 R2 VV
  obtain ⟨p3, e3, R3⟩ := R.out.slice (l := 3) (h := n) (m := c) h (Nat.le_refl _) R.out.le (Nat.le_refl _)
  have s3 : ∀ W, (Instr.sliceAt 22 (.slice (some ⟨g, o, none⟩) n c) (some (.int .i64 3)) none none).run Try.prog W = .ok (.slice p3 (n - 3) (c - 3)) W := fun W => by
    have := run_l (p := some ⟨g, o, none⟩) (n := n) (c := c) (l := 3) h W
    rw [e3] at this
    exact this
  have RT := Lib.hid R3
  clear e3 R3
  go_enter Try.func50, Try.ntmps50
  go_wp2_with (first
    | (go_at_call 69; refine NM.out.mono ?_; rintro e w1 ⟨rfl, rfl⟩)
    | (go_at_call 57; refine (ref_encode_any v _).mono ?_; rintro e w1 ⟨p1, g1, c1, rfl, N1, hb⟩; have B := Lib.hid hb; clear hb N1)
    | (at_builtin; refine wpList_app (.inl rfl) (.tmp 39) (.tmp 42) rfl rfl (Lib.hid (own_start w1 (fun i => x (3 + i)) (fun i => RT.out.byte i))) rfl (Lib.hid ((RT.out.below B.out).below (below_new w1 (.cells #[] 5)))) (by omega) ?_; intro p4 g4 c4 w4 N4 hb))
  simp only [Nat.zero_add] at N4
  exact bodyPost_ret (res3 (fn := Try.f50) rfl _ _) rfl ⟨p4, g4, c4, rfl, (N4.out.to (fun i _ => cat_zero _ _ i) (fun i => RT.out.byte i)).trow, B.out.trans (((below_new w1 _).trans hb.out).mono B.out.size)⟩
set_option maxRecDepth 100000 in
set_option maxHeartbeats 2000000 in
theorem rdec_short5 {w : World} {g o n c v : Nat} {x : Nat → Nat} (R : Hid (Row w (some ⟨g, o, none⟩) g o n c x)) (hx : x 0 = 254) (h0 : 0 < n) (h : n < 5) : Calls Try.prog 50 #[.slice (some ⟨g, o, none⟩) n c] w (DecBad w 50) := by
  have t0 : ((n : Int) == 0) = false := by simp; omega
  have c0 := R.out.cell 0 (by omega)
  rw [Nat.add_zero] at c0
  rw [hx] at c0
  clear hx
  go_enter Try.func50, Try.ntmps50
  go_wp2
  exact bodyPost_ret (res3 (fn := Try.f50) rfl _ _) rfl ⟨rfl, Below.refl _ _⟩
set_option maxRecDepth 100000 in
set_option maxHeartbeats 2000000 in
theorem rdec_form5 {w : World} {g o n c v : Nat} {x : Nat → Nat} (R : Hid (Row w (some ⟨g, o, none⟩) g o n c x)) (hx : x 0 = 254) (h : 5 ≤ n) (hn : n ≤ 140737488351232) (hv : Hid (v = val x)) (hw : wid v ≠ 5) : Calls Try.prog 50 #[.slice (some ⟨g, o, none⟩) n c] w (DecBad w 51) := by
  have t0 : ((n : Int) == 0) = false := by simp; omega
  have c0 := R.out.cell 0 (by omega)
  rw [Nat.add_zero] at c0
  have VV : val x = ofBytes (fun i => x (1 + i)) (5 - 1) := by
    unfold val
    rw [hx, if_neg (by omega)]
    rfl
  rw [hx] at c0
  clear hx
  have tw : (((wid v : Nat) : Int) != 5) = true := by simp; omega
  clear hw
  obtain ⟨p2, e2, R2⟩ := R.out.slice (l := 1) (h := 5) (m := c) (by omega) h (Nat.le_trans h R.out.le) (Nat.le_refl _)
  have s2 : ∀ W, (Instr.sliceAt 22 (.slice (some ⟨g, o, none⟩) n c) (some (.int .i64 1)) (some (.int .i64 5)) none).run Try.prog W = .ok (.slice p2 4 (c - 1)) W := fun W => by
    have := run_lh (p := some ⟨g, o, none⟩) (n := n) (c := c) (l := 1) (h := 5) (by omega) (Nat.le_trans h R.out.le) W
    rw [e2] at this
    exact this
  have NM : Hid (Calls Try.prog 69 #[.slice p2 4 (c - 1)] w fun e w' => e = .returned (.int .u64 ((v : Nat) : Int)) ∧ w = w') := Lib.hid (by
    have := ref_number_any (Lib.hid R2) (by omega)
    rw [hv.out, VV]
    exact this)
  clear e2 R2 VV
  go_enter Try.func50, Try.ntmps50
  go_wp2_with (first
    | (go_at_call 69; refine NM.out.mono ?_; rintro e w1 ⟨rfl, rfl⟩)
    | (go_at_call 57; refine (ref_encode_any v _).mono ?_; rintro e w1 ⟨p1, g1, c1, rfl, N1, hb⟩; have B := Lib.hid hb; clear hb N1))
  exact bodyPost_ret (res3 (fn := Try.f50) rfl _ _) rfl ⟨rfl, B.out⟩
set_option maxRecDepth 100000 in
set_option maxHeartbeats 2000000 in
theorem rdec_good5 {w : World} {g o n c v : Nat} {x : Nat → Nat} (R : Hid (Row w (some ⟨g, o, none⟩) g o n c x)) (hx : x 0 = 254) (h : 5 ≤ n) (hn : n ≤ 140737488351232) (hv : Hid (v = val x)) (hw : wid v = 5) : Calls Try.prog 50 #[.slice (some ⟨g, o, none⟩) n c] w (fun e w' => ∃ p g c, e = .returned (.tuple #[.int .u64 ((v : Nat) : Int), .slice p (n - 5) c, .int .i64 0]) ∧ TRow w' p g 0 (n - 5) c (fun i => x (5 + i)) ∧ Below w.heap.size w w') := by
  have t0 : ((n : Int) == 0) = false := by simp; omega
  have c0 := R.out.cell 0 (by omega)
  rw [Nat.add_zero] at c0
  have VV : val x = ofBytes (fun i => x (1 + i)) (5 - 1) := by
    unfold val
    rw [hx, if_neg (by omega)]
    rfl
  rw [hx] at c0
  clear hx
  have tw : (((wid v : Nat) : Int) != 5) = false := by rw [hw]; rfl
  clear hw
  obtain ⟨p2, e2, R2⟩ := R.out.slice (l := 1) (h := 5) (m := c) (by omega) h (Nat.le_trans h R.out.le) (Nat.le_refl _)
  have s2 : ∀ W, (Instr.sliceAt 22 (.slice (some ⟨g, o, none⟩) n c) (some (.int .i64 1)) (some (.int .i64 5)) none).run Try.prog W = .ok (.slice p2 4 (c - 1)) W := fun W => by
    have := run_lh (p := some ⟨g, o, none⟩) (n := n) (c := c) (l := 1) (h := 5) (by omega) (Nat.le_trans h R.out.le) W
    rw [e2] at this
    exact this
  have NM : Hid (Calls Try.prog 69 #[.slice p2 4 (c - 1)] w fun e w' => e = .returned (.int .u64 ((v : Nat) : Int)) ∧ w = w') := Lib.hid (by
    have := ref_number_any (Lib.hid R2) (by omega)
    rw [hv.out, VV]
    exact this)
  clear e2 R2 VV
  obtain ⟨p3, e3, R3⟩ := R.out.slice (l := 5) (h := n) (m := c) h (Nat.le_refl _) R.out.le (Nat.le_refl _)
  have s3 : ∀ W, (Instr.sliceAt 22 (.slice (some ⟨g, o, none⟩) n c) (some (.int .i64 5)) none none).run Try.prog W = .ok (.slice p3 (n - 5) (c - 5)) W := fun W => by
    have := run_l (p := some ⟨g, o, none⟩) (n := n) (c := c) (l := 5) h W
    rw [e3] at this
    exact this
  have RT := Lib.hid R3
  clear e3 R3
  go_enter Try.func50, Try.ntmps50
  go_wp2_with (first
    | (go_at_call 69; refine NM.out.mono ?_; rintro e w1 ⟨rfl, rfl⟩)
    | (go_at_call 57; refine (ref_encode_any v _).mono ?_; rintro e w1 ⟨p1, g1, c1, rfl, N1, hb⟩; have B := Lib.hid hb; clear hb N1)
    | (at_builtin; refine wpList_app (.inl rfl) (.tmp 39) (.tmp 42) rfl rfl (Lib.hid (own_start w1 (fun i => x (5 + i)) (fun i => RT.out.byte i))) rfl (Lib.hid ((RT.out.below B.out).below (below_new w1 (.cells #[] 5)))) (by omega) ?_; intro p4 g4 c4 w4 N4 hb))
  simp only [Nat.zero_add] at N4
  exact bodyPost_ret (res3 (fn := Try.f50) rfl _ _) rfl ⟨p4, g4, c4, rfl, (N4.out.to (fun i _ => cat_zero _ _ i) (fun i => RT.out.byte i)).trow, B.out.trans (((below_new w1 _).trans hb.out).mono B.out.size)⟩
set_option maxRecDepth 100000 in
set_option maxHeartbeats 2000000 in
theorem rdec_short9 {w : World} {g o n c v : Nat} {x : Nat → Nat} (R : Hid (Row w (some ⟨g, o, none⟩) g o n c x)) (hx : x 0 = 255) (h0 : 0 < n) (h : n < 9) : Calls Try.prog 50 #[.slice (some ⟨g, o, none⟩) n c] w (DecBad w 50) := by
  have t0 : ((n : Int) == 0) = false := by simp; omega
  have c0 := R.out.cell 0 (by omega)
  rw [Nat.add_zero] at c0
  rw [hx] at c0
  clear hx
  go_enter Try.func50, Try.ntmps50
  go_wp2
  exact bodyPost_ret (res3 (fn := Try.f50) rfl _ _) rfl ⟨rfl, Below.refl _ _⟩
set_option maxRecDepth 100000 in
set_option maxHeartbeats 2000000 in
theorem rdec_form9 {w : World} {g o n c v : Nat} {x : Nat → Nat} (R : Hid (Row w (some ⟨g, o, none⟩) g o n c x)) (hx : x 0 = 255) (h : 9 ≤ n) (hn : n ≤ 140737488351232) (hv : Hid (v = val x)) (hw : wid v ≠ 9) : Calls Try.prog 50 #[.slice (some ⟨g, o, none⟩) n c] w (DecBad w 51) := by
  have t0 : ((n : Int) == 0) = false := by simp; omega
  have c0 := R.out.cell 0 (by omega)
  rw [Nat.add_zero] at c0
  have VV : val x = ofBytes (fun i => x (1 + i)) (9 - 1) := by
    unfold val
    rw [hx, if_neg (by omega)]
    rfl
  rw [hx] at c0
  clear hx
  have tw : (((wid v : Nat) : Int) != 9) = true := by simp; omega
  clear hw
  obtain ⟨p2, e2, R2⟩ := R.out.slice (l := 1) (h := 9) (m := c) (by omega) h (Nat.le_trans h R.out.le) (Nat.le_refl _)
  have s2 : ∀ W, (Instr.sliceAt 22 (.slice (some ⟨g, o, none⟩) n c) (some (.int .i64 1)) (some (.int .i64 9)) none).run Try.prog W = .ok (.slice p2 8 (c - 1)) W := fun W => by
    have := run_lh (p := some ⟨g, o, none⟩) (n := n) (c := c) (l := 1) (h := 9) (by omega) (Nat.le_trans h R.out.le) W
    rw [e2] at this
    exact this
  have NM : Hid (Calls Try.prog 69 #[.slice p2 8 (c - 1)] w fun e w' => e = .returned (.int .u64 ((v : Nat) : Int)) ∧ w = w') := Lib.hid (by
    have := ref_number_any (Lib.hid R2) (by omega)
    rw [hv.out, VV]
    exact this)
  clear e2 R2 VV
  go_enter Try.func50, Try.ntmps50
  go_wp2_with (first
    | (go_at_call 69; refine NM.out.mono ?_; rintro e w1 ⟨rfl, rfl⟩)
    | (go_at_call 57; refine (ref_encode_any v _).mono ?_; rintro e w1 ⟨p1, g1, c1, rfl, N1, hb⟩; have B := Lib.hid hb; clear hb N1))
  exact bodyPost_ret (res3 (fn := Try.f50) rfl _ _) rfl ⟨rfl, B.out⟩
set_option maxRecDepth 100000 in
set_option maxHeartbeats 2000000 in
theorem rdec_good9 {w : World} {g o n c v : Nat} {x : Nat → Nat} (R : Hid (Row w (some ⟨g, o, none⟩) g o n c x)) (hx : x 0 = 255) (h : 9 ≤ n) (hn : n ≤ 140737488351232) (hv : Hid (v = val x)) (hw : wid v = 9) : Calls Try.prog 50 #[.slice (some ⟨g, o, none⟩) n c] w (fun e w' => ∃ p g c, e = .returned (.tuple #[.int .u64 ((v : Nat) : Int), .slice p (n - 9) c, .int .i64 0]) ∧ TRow w' p g 0 (n - 9) c (fun i => x (9 + i)) ∧ Below w.heap.size w w') := by
  have t0 : ((n : Int) == 0) = false := by simp; omega
  have c0 := R.out.cell 0 (by omega)
  rw [Nat.add_zero] at c0
  have VV : val x = ofBytes (fun i => x (1 + i)) (9 - 1) := by
    unfold val
    rw [hx, if_neg (by omega)]
    rfl
  rw [hx] at c0
  clear hx
  have tw : (((wid v : Nat) : Int) != 9) = false := by rw [hw]; rfl
  clear hw
  obtain ⟨p2, e2, R2⟩ := R.out.slice (l := 1) (h := 9) (m := c) (by omega) h (Nat.le_trans h R.out.le) (Nat.le_refl _)
  have s2 : ∀ W, (Instr.sliceAt 22 (.slice (some ⟨g, o, none⟩) n c) (some (.int .i64 1)) (some (.int .i64 9)) none).run Try.prog W = .ok (.slice p2 8 (c - 1)) W := fun W => by
    have := run_lh (p := some ⟨g, o, none⟩) (n := n) (c := c) (l := 1) (h := 9) (by omega) (Nat.le_trans h R.out.le) W
    rw [e2] at this
    exact this
  have NM : Hid (Calls Try.prog 69 #[.slice p2 8 (c - 1)] w fun e w' => e = .returned (.int .u64 ((v : Nat) : Int)) ∧ w = w') := Lib.hid (by
    have := ref_number_any (Lib.hid R2) (by omega)
    rw [hv.out, VV]
    exact this)
  clear e2 R2 VV
  obtain ⟨p3, e3, R3⟩ := R.out.slice (l := 9) (h := n) (m := c) h (Nat.le_refl _) R.out.le (Nat.le_refl _)
  have s3 : ∀ W, (Instr.sliceAt 22 (.slice (some ⟨g, o, none⟩) n c) (some (.int .i64 9)) none none).run Try.prog W = .ok (.slice p3 (n - 9) (c - 9)) W := fun W => by
    have := run_l (p := some ⟨g, o, none⟩) (n := n) (c := c) (l := 9) h W
    rw [e3] at this
    exact this
  have RT := Lib.hid R3
  clear e3 R3
  go_enter Try.func50, Try.ntmps50
  go_wp2_with (first
    | (go_at_call 69; refine NM.out.mono ?_; rintro e w1 ⟨rfl, rfl⟩)
    | (go_at_call 57; refine (ref_encode_any v _).mono ?_; rintro e w1 ⟨p1, g1, c1, rfl, N1, hb⟩; have B := Lib.hid hb; clear hb N1)
    | (at_builtin; refine wpList_app (.inl rfl) (.tmp 39) (.tmp 42) rfl rfl (Lib.hid (own_start w1 (fun i => x (9 + i)) (fun i => RT.out.byte i))) rfl (Lib.hid ((RT.out.below B.out).below (below_new w1 (.cells #[] 5)))) (by omega) ?_; intro p4 g4 c4 w4 N4 hb))
  simp only [Nat.zero_add] at N4
  exact bodyPost_ret (res3 (fn := Try.f50) rfl _ _) rfl ⟨p4, g4, c4, rfl, (N4.out.to (fun i _ => cat_zero _ _ i) (fun i => RT.out.byte i)).trow, B.out.trans (((below_new w1 _).trans hb.out).mono B.out.size)⟩
end Go.Proofs.Ytllndneplkigpaa
end
section
set_option linter.unusedSimpArgs false
set_option linter.unusedVariables false
namespace Go.Proofs.Ytllndneplkigpaa
open Go.RowKit Go.Lib

set_option maxRecDepth 100000 in
set_option maxHeartbeats 2000000 in
theorem rdec_form1 {w : World} {g o n c v : Nat} {x : Nat → Nat} (R : Hid (Row w (some ⟨g, o, none⟩) g o n c x)) (hx : Hid (x 0 = v)) (h1 : v ≠ 253) (h2 : v ≠ 254) (h3 : v ≠ 255) (h : 1 ≤ n) (hn : n ≤ 140737488351232) (hw : wid v ≠ 1) : Calls Try.prog 50 #[.slice (some ⟨g, o, none⟩) n c] w (DecBad w 51) := by
  have t0 : ((n : Int) == 0) = false := by simp; omega
  have c0 := R.out.cell 0 (by omega)
  rw [Nat.add_zero] at c0
  have fl := R.out.byte 0
  rw [hx.out] at c0 fl
  have t1 : (((v : Nat) : Int) == 253) = false := by simp; omega
  have t2 : (((v : Nat) : Int) == 254) = false := by simp; omega
  have t3 : (((v : Nat) : Int) == 255) = false := by simp; omega
  clear h1 h2 h3
  have tw : (((wid v : Nat) : Int) != 1) = true := by simp; omega
  clear hw
  go_enter Try.func50, Try.ntmps50
  go_wp2_with (first
    | (go_at_call 57; refine (ref_encode_any v _).mono ?_; rintro e w1 ⟨p1, g1, c1, rfl, N1, hb⟩; have B := Lib.hid hb; clear hb N1))
  exact bodyPost_ret (res3 (fn := Try.f50) rfl _ _) rfl ⟨rfl, B.out⟩
set_option maxRecDepth 100000 in
set_option maxHeartbeats 2000000 in
theorem rdec_good1 {w : World} {g o n c v : Nat} {x : Nat → Nat} (R : Hid (Row w (some ⟨g, o, none⟩) g o n c x)) (hx : Hid (x 0 = v)) (h1 : v ≠ 253) (h2 : v ≠ 254) (h3 : v ≠ 255) (h : 1 ≤ n) (hn : n ≤ 140737488351232) (hw : wid v = 1) : Calls Try.prog 50 #[.slice (some ⟨g, o, none⟩) n c] w (fun e w' => ∃ p g c, e = .returned (.tuple #[.int .u64 ((v : Nat) : Int), .slice p (n - 1) c, .int .i64 0]) ∧ TRow w' p g 0 (n - 1) c (fun i => x (1 + i)) ∧ Below w.heap.size w w') := by
  have t0 : ((n : Int) == 0) = false := by simp; omega
  have c0 := R.out.cell 0 (by omega)
  rw [Nat.add_zero] at c0
  have fl := R.out.byte 0
  rw [hx.out] at c0 fl
  have t1 : (((v : Nat) : Int) == 253) = false := by simp; omega
  have t2 : (((v : Nat) : Int) == 254) = false := by simp; omega
  have t3 : (((v : Nat) : Int) == 255) = false := by simp; omega
  clear h1 h2 h3
  have tw : (((wid v : Nat) : Int) != 1) = false := by rw [hw]; rfl
  clear hw
  obtain ⟨p3, e3, R3⟩ := R.out.slice (l := 1) (h := n) (m := c) h (Nat.le_refl _) R.out.le (Nat.le_refl _)
  have s3 : ∀ W, (Instr.sliceAt 22 (.slice (some ⟨g, o, none⟩) n c) (some (.int .i64 1)) none none).run Try.prog W = .ok (.slice p3 (n - 1) (c - 1)) W := fun W => by
    have := run_l (p := some ⟨g, o, none⟩) (n := n) (c := c) (l := 1) h W
    rw [e3] at this
    exact this
  have RT := Lib.hid R3
  clear e3 R3
  go_enter Try.func50, Try.ntmps50
  go_wp2_with (first
    | (go_at_call 57; refine (ref_encode_any v _).mono ?_; rintro e w1 ⟨p1, g1, c1, rfl, N1, hb⟩; have B := Lib.hid hb; clear hb N1)
    | (at_builtin; refine wpList_app (.inl rfl) (.tmp 39) (.tmp 42) rfl rfl (Lib.hid (own_start w1 (fun i => x (1 + i)) (fun i => RT.out.byte i))) rfl (Lib.hid ((RT.out.below B.out).below (below_new w1 (.cells #[] 5)))) (by omega) ?_; intro p4 g4 c4 w4 N4 hb))
  simp only [Nat.zero_add] at N4
  exact bodyPost_ret (res3 (fn := Try.f50) rfl _ _) rfl ⟨p4, g4, c4, rfl, (N4.out.to (fun i _ => cat_zero _ _ i) (fun i => RT.out.byte i)).trow, B.out.trans (((below_new w1 _).trans hb.out).mono B.out.size)⟩
end Go.Proofs.Ytllndneplkigpaa
end
section
set_option linter.unusedSimpArgs false
namespace Go.Proofs.Ytllndneplkigpaa
open Go.RowKit Go.Lib

theorem ref_decode_bad {w : World} {p : Option Addr} {g o n c k : Nat} {x : Nat → Nat} (R : Hid (Row w p g o n c x)) (hd : Hid (dec n x = k)) (hk : k ≠ 0) (hn : n ≤ 140737488351232) : Calls Try.prog 50 #[.slice p n c] w (DecBad w k) := by
  have hw := wOf_bd (x 0)
  have e := hd.out
  rcases dec_cases n x with ⟨h1, h2⟩ | ⟨h1, h2, h3⟩ | ⟨h1, h2, h3⟩ | ⟨h1, h2, h3⟩
  · obtain rfl : k = 50 := by omega
    subst h1
    exact rdec_none
  · obtain rfl : k = 50 := by omega
    obtain rfl := R.out.head (by omega)
    by_cases a : x 0 = 253
    · rw [a] at h2
      exact rdec_short3 (v := 0) R a h1 h2
    · by_cases b : x 0 = 254
      · rw [b] at h2
        exact rdec_short5 (v := 0) R b h1 h2
      · by_cases d : x 0 = 255
        · rw [d] at h2
          exact rdec_short9 (v := 0) R d h1 h2
        · unfold wOf at h2
          rw [if_neg a, if_neg b, if_neg d] at h2
          omega
  · obtain rfl : k = 51 := by omega
    obtain rfl := R.out.head (by omega)
    by_cases a : x 0 = 253
    · rw [a] at h1 h2
      exact rdec_form3 (v := val x) R a h1 hn (Lib.hid rfl) h2
    · by_cases b : x 0 = 254
      · rw [b] at h1 h2
        exact rdec_form5 (v := val x) R b h1 hn (Lib.hid rfl) h2
      · by_cases d : x 0 = 255
        · rw [d] at h1 h2
          exact rdec_form9 (v := val x) R d h1 hn (Lib.hid rfl) h2
        · have ew : wOf (x 0) = 1 := by unfold wOf; rw [if_neg a, if_neg b, if_neg d]
          have ev : val x = x 0 := by
            have := R.out.byte 0
            unfold val; rw [if_pos (by omega)]
          rw [ew] at h1 h2
          rw [ev] at h2
          exact rdec_form1 R (Lib.hid rfl) a b d h1 hn h2
  · exact absurd (e.symm.trans h3) hk
theorem ref_decode_good {w : World} {p : Option Addr} {g o n c : Nat} {x : Nat → Nat} (R : Hid (Row w p g o n c x)) (hd : Hid (dec n x = 0)) (hn : n ≤ 140737488351232) : Calls Try.prog 50 #[.slice p n c] w (DecT w n x) := by
  have hw := wOf_bd (x 0)
  have e := hd.out
  rcases dec_cases n x with ⟨h1, h2⟩ | ⟨h1, h2, h3⟩ | ⟨h1, h2, h3⟩ | ⟨h1, h2, h3⟩
  · omega
  · omega
  · omega
  · obtain rfl := R.out.head (by omega)
    unfold DecT
    by_cases a : x 0 = 253
    · have ew : wOf (x 0) = 3 := by rw [a]; rfl
      rw [ew] at h1 h2 ⊢
      exact rdec_good3 (v := val x) R a h1 hn (Lib.hid rfl) h2
    · by_cases b : x 0 = 254
      · have ew : wOf (x 0) = 5 := by rw [b]; rfl
        rw [ew] at h1 h2 ⊢
        exact rdec_good5 (v := val x) R b h1 hn (Lib.hid rfl) h2
      · by_cases d : x 0 = 255
        · have ew : wOf (x 0) = 9 := by rw [d]; rfl
          rw [ew] at h1 h2 ⊢
          exact rdec_good9 (v := val x) R d h1 hn (Lib.hid rfl) h2
        · have ew : wOf (x 0) = 1 := by unfold wOf; rw [if_neg a, if_neg b, if_neg d]
          have ev : val x = x 0 := by
            have := R.out.byte 0
            unfold val; rw [if_pos (by omega)]
          rw [ew] at h1 h2 ⊢
          rw [ev] at h2 ⊢
          exact rdec_good1 R (Lib.hid rfl) a b d h1 hn h2
end Go.Proofs.Ytllndneplkigpaa
end
section
set_option linter.unusedSimpArgs false
set_option linter.unusedVariables false
namespace Go.Proofs.Ytllndneplkigpaa
open Go.RowKit Go.Lib Go.Sort

/-- The answer where there is no text. -/
abbrev noText (k : Nat) : Value := .tuple #[.slice none 0 0, .slice none 0 0, .int .i64 ((k : Nat) : Int)]
def ReadBad (w : World) (k : Nat) (e : Ending) (w' : World) : Prop := e = .returned (noText k) ∧ Below w.heap.size w w'
/-- A count that was read, and what stands behind it. -/
def Took (w : World) (v m : Nat) (y : Nat → Nat) (e : Ending) (w' : World) : Prop :=
  ∃ p g o c, e = .returned (.tuple #[.int .u64 ((v : Nat) : Int), .slice p m c, .int .i64 0]) ∧ TRow w' p g o m c y ∧ Below w.heap.size w w'
def ReadGood (w : World) (v m : Nat) (y : Nat → Nat) (e : Ending) (w' : World) : Prop :=
  ∃ p g o c q h u d, e = .returned (.tuple #[.slice p v c, .slice q (m - v) d, .int .i64 0]) ∧ Row w' p g o v c y ∧ TRow w' q h u (m - v) d (fun i => y (v + i)) ∧ Below w.heap.size w w'
theorem exec_slice {P : Program} {o : Oper} {ev : Operand → Value} {T : TypeId} {x : Operand} {lo hi mx : Option Operand} (ho : o.op = .slice T x lo hi mx) {v : Value} {W : World} (h : (Instr.sliceAt T (ev x) (lo.map ev) (hi.map ev) (mx.map ev)).run P W = .ok v W) : (execOp ev o).run P W = .ok (.value v) W := by
  unfold execOp
  simp only [ho, Sem.run_bind, h, Result.andThen_ok]
  rfl
theorem run_hm64 {p : Option Addr} {n c h m : Nat} (h2 : h ≤ m) (h3 : m ≤ c) (w : World) : (Instr.sliceAt 22 (.slice p n c) none (some (.int .u64 ((h : Nat) : Int))) (some (.int .u64 ((m : Nat) : Int)))).run Try.prog w = .ok (sliced p 0 h m 1) w := run_sl (by simp [Instr.sliceBounds, run_sliceBound, h2, h3])
theorem run_l64 {p : Option Addr} {n c l : Nat} (h1 : l ≤ n) (w : World) : (Instr.sliceAt 22 (.slice p n c) (some (.int .u64 ((l : Nat) : Int))) none none).run Try.prog w = .ok (sliced p l n c 1) w := run_sl (by simp [Instr.sliceBounds, run_sliceBound, h1])
set_option maxRecDepth 100000 in
set_option maxHeartbeats 2000000 in
theorem rread_bad_walk {w : World} {a : Value} {most : Int} {k : Nat} (S : Hid (Calls Try.prog 50 #[a] w (DecBad w k))) (t0 : ((k : Int) != 0) = true) : Calls Try.prog 70 #[a, .int .i64 most] w (ReadBad w k) := by
  go_enter Try.func70, Try.ntmps70
  go_wp2_with (go_at_call 50; refine S.out.mono ?_; rintro e w1 ⟨rfl, hb⟩; have B := Lib.hid hb; clear hb)
  exact bodyPost_ret (res3 (fn := Try.f70) rfl _ _) rfl ⟨rfl, B.out⟩
set_option maxRecDepth 100000 in
set_option maxHeartbeats 2000000 in
theorem rread_full_walk {w : World} {a : Value} {most : Int} {v m lim : Nat} {y : Nat → Nat} (S : Hid (Calls Try.prog 50 #[a] w (Took w v m y))) (hl : (if most < 0 then 0 else most) = ((lim : Nat) : Int)) (hl2 : ((lim : Nat) : Int) ≤ 9223372036854775807) (hm : ((m : Nat) : Int) ≤ 140737488355328) (t : lim < v) : Calls Try.prog 70 #[a, .int .i64 most] w (ReadBad w 4) := by
  go_enter Try.func70, Try.ntmps70
  go_wp2_with (go_at_call 50; refine S.out.mono ?_; rintro e w1 ⟨p1, g1, o1, c1, rfl, R1, hb⟩; have RP := Lib.hid R1.row; have B := Lib.hid hb; clear hb R1)
  exact bodyPost_ret (res3 (fn := Try.f70) rfl _ _) rfl ⟨rfl, B.out⟩
set_option maxRecDepth 100000 in
set_option maxHeartbeats 2000000 in
theorem rread_short_walk {w : World} {a : Value} {most : Int} {v m lim : Nat} {y : Nat → Nat} (S : Hid (Calls Try.prog 50 #[a] w (Took w v m y))) (hl : (if most < 0 then 0 else most) = ((lim : Nat) : Int)) (hl2 : ((lim : Nat) : Int) ≤ 9223372036854775807) (hm : ((m : Nat) : Int) ≤ 140737488355328) (t : ¬ lim < v) (t2 : m < v) : Calls Try.prog 70 #[a, .int .i64 most] w (ReadBad w 50) := by
  go_enter Try.func70, Try.ntmps70
  go_wp2_with (go_at_call 50; refine S.out.mono ?_; rintro e w1 ⟨p1, g1, o1, c1, rfl, R1, hb⟩; have RP := Lib.hid R1.row; have B := Lib.hid hb; clear hb R1)
  exact bodyPost_ret (res3 (fn := Try.f70) rfl _ _) rfl ⟨rfl, B.out⟩
set_option maxRecDepth 100000 in
set_option maxHeartbeats 2000000 in
theorem rread_ok_walk {w : World} {a : Value} {most : Int} {v m lim : Nat} {y : Nat → Nat} (S : Hid (Calls Try.prog 50 #[a] w (Took w v m y))) (hl : (if most < 0 then 0 else most) = ((lim : Nat) : Int)) (hl2 : ((lim : Nat) : Int) ≤ 9223372036854775807) (hm : ((m : Nat) : Int) ≤ 140737488355328) (t : ¬ lim < v) (t2 : ¬ m < v) : Calls Try.prog 70 #[a, .int .i64 most] w (ReadGood w v m y) := by
  have hvm : v ≤ m := by omega
  go_enter Try.func70, Try.ntmps70
  go_upto_region 8 with (go_at_call 50; refine S.out.mono ?_; rintro e w1 ⟨p1, g1, o1, c1, rfl, R1, hb⟩; have RP := Lib.hid R1.row; have B := Lib.hid hb; clear hb R1)
  have E := Lib.hid (Mem.nil w1)
  obtain ⟨p2, e2, R2⟩ := RP.out.slice (l := 0) (h := v) (m := v) (by omega) hvm (Nat.le_refl _) (Nat.le_trans hvm RP.out.le)
  obtain ⟨p3, e3, R3⟩ := RP.out.slice (l := v) (h := m) (m := c1) hvm (Nat.le_refl _) RP.out.le (Nat.le_refl _)
  have S2 : Hid (∀ W, (Instr.sliceAt 22 (.slice p1 m c1) none (some (.int .u64 ((v : Nat) : Int))) (some (.int .u64 ((v : Nat) : Int)))).run Try.prog W = .ok (.slice p2 v v) W) := Lib.hid fun W => by
    have := run_hm64 (p := p1) (n := m) (Nat.le_refl v) (Nat.le_trans hvm RP.out.le) W
    rw [e2] at this
    exact this
  have S3 : Hid (∀ W, (Instr.sliceAt 22 (.slice p1 m c1) (some (.int .u64 ((v : Nat) : Int))) none none).run Try.prog W = .ok (.slice p3 (m - v) (c1 - v)) W) := Lib.hid fun W => by
    have := run_l64 (p := p1) (n := m) (c := c1) hvm W
    rw [e3] at this
    exact this
  have RA := Lib.hid (show Row w1 p2 g1 o1 v v y by simpa using R2.to (y := y) (fun i _ => by rw [Nat.zero_add]) RP.out.byte)
  have RB := Lib.hid R3
  clear e2 R2 e3 R3
  refine wp_region_mem E (by kernel_rfl) ?_
  intro w0 E0
  refine hm_pure 0 29 (.slice p1 m c1) rfl rfl (by kernel_rfl) (by kernel_rfl) (by kernel_rfl) (fun _ _ _ h => h) rfl (fun _ => rfl) E0.out ?_
  try simp only [Act.put, List.setIfInBounds_toArray, List.set_cons_zero, List.set_cons_succ]
  refine hm_pure 1 30 (.int .u64 ((v : Nat) : Int)) rfl rfl (by kernel_rfl) (by kernel_rfl) (by kernel_rfl) (fun _ _ _ h => h) rfl (fun _ => rfl) E0.out ?_
  try simp only [Act.put, List.setIfInBounds_toArray, List.set_cons_zero, List.set_cons_succ]
  refine hm_pure 2 31 (.int .u64 ((v : Nat) : Int)) rfl rfl (by kernel_rfl) (by kernel_rfl) (by kernel_rfl) (fun _ _ _ h => h) rfl (fun _ => rfl) E0.out ?_
  try simp only [Act.put, List.setIfInBounds_toArray, List.set_cons_zero, List.set_cons_succ]
  refine hm_pure 3 32 (.slice p2 v v) rfl rfl (by kernel_rfl) (by kernel_rfl) (by kernel_rfl) (fun _ _ _ h => h) rfl (fun W => exec_slice rfl (S2.out W)) E0.out ?_
  try simp only [Act.put, List.setIfInBounds_toArray, List.set_cons_zero, List.set_cons_succ]
  refine hm_pure 5 34 (.slice p1 m c1) rfl rfl (by kernel_rfl) (by kernel_rfl) (by kernel_rfl) (fun _ _ _ h => h) rfl (fun _ => rfl) E0.out ?_
  try simp only [Act.put, List.setIfInBounds_toArray, List.set_cons_zero, List.set_cons_succ]
  refine hm_pure 6 35 (.int .u64 ((v : Nat) : Int)) rfl rfl (by kernel_rfl) (by kernel_rfl) (by kernel_rfl) (fun _ _ _ h => h) rfl (fun _ => rfl) E0.out ?_
  try simp only [Act.put, List.setIfInBounds_toArray, List.set_cons_zero, List.set_cons_succ]
  refine hm_pure 7 36 (.slice p3 (m - v) (c1 - v)) rfl rfl (by kernel_rfl) (by kernel_rfl) (by kernel_rfl) (fun _ _ _ h => h) rfl (fun W => exec_slice rfl (S3.out W)) E0.out ?_
  try simp only [Act.put, List.setIfInBounds_toArray, List.set_cons_zero, List.set_cons_succ]
  refine hm_one (i := 4) (by kernel_rfl) ?_
  refine hm_step 4 rfl (by kernel_rfl) fun K hK => ?_
  try simp only [Act.put, List.getElem_toArray, List.getElem_cons_succ, List.getElem_cons_zero, List.setIfInBounds_toArray, List.set_cons_zero, List.set_cons_succ]
  refine mo_known (.slice (some ⟨w0.heap.size, 0, none⟩) 0 0) (w0.alloc (.cells #[] 5)) (by first | rfl | kernel_rfl) ?_
  have E7_4 := Lib.hid (E0.out.new 5 #[]).tail
  have NA := Lib.hid (own_start w0 (fun i => y (v + i)) RB.out.byte)
  refine hK _ _ E7_4.out ?_
  clear hK K
  try simp only [Act.put, List.setIfInBounds_toArray, List.set_cons_zero, List.set_cons_succ]
  refine hm_one (i := 8) (by kernel_rfl) ?_
  refine hm_step 8 rfl (by kernel_rfl) fun K hK => ?_
  try simp only [Act.put, List.getElem_toArray, List.getElem_cons_succ, List.getElem_cons_zero, List.setIfInBounds_toArray, List.set_cons_zero, List.set_cons_succ]
  refine mo_app (.tmp 33) (.tmp 36) rfl rfl NA rfl (Lib.hid (RB.out.below E7_4.out.below)) (by omega) ?_
  intro p4 g4 c4 w4 N4 hb
  have B4 := Lib.hid (((below_new w0 (.cells #[] 5)).mono E0.out.below.size).trans (hb.out.mono E0.out.below.size))
  have E8_8 := Lib.hid (Mem.mk (l := []) (E0.out.below.trans B4.out) (fun _ h => by cases h) List.nodup_nil (fun _ h => by cases h))
  simp only [Nat.zero_add] at N4 ⊢
  refine hK _ _ E8_8.out ?_
  clear hK K
  try simp only [Act.put, List.setIfInBounds_toArray, List.set_cons_zero, List.set_cons_succ]
  refine hm_pure 9 4 _ rfl rfl (by kernel_rfl) (by kernel_rfl) (by kernel_rfl) (fun _ _ _ h => h) rfl (fun _ => rfl) E8_8.out ?_
  try simp only [Act.put, List.setIfInBounds_toArray, List.set_cons_zero, List.set_cons_succ]
  refine hm_pure 10 5 _ rfl rfl (by kernel_rfl) (by kernel_rfl) (by kernel_rfl) (fun _ _ _ h => h) rfl (fun _ => rfl) E8_8.out ?_
  try simp only [Act.put, List.setIfInBounds_toArray, List.set_cons_zero, List.set_cons_succ]
  refine hm_pure 11 6 _ rfl rfl (by kernel_rfl) (by kernel_rfl) (by kernel_rfl) (fun _ _ _ h => h) rfl (fun _ => rfl) E8_8.out ?_
  try simp only [Act.put, List.setIfInBounds_toArray, List.set_cons_zero, List.set_cons_succ]
  refine wpAnyH_done (by kernel_rfl) ?_ _
  go_wp2_with fail
  exact bodyPost_ret (res3 (fn := Try.f70) rfl _ _) rfl ⟨p2, g1, o1, v, p4, g4, 0, c4, rfl, RA.out.below E8_8.out.below, (N4.out.to (fun i _ => cat_zero _ _ i) RB.out.byte).trow, B.out.trans (E8_8.out.below.mono B.out.size)⟩
end Go.Proofs.Ytllndneplkigpaa
end
section
namespace Go.Proofs.Ytllndneplkigpaa
open Go.RowKit Go.Lib

theorem took_dec {w : World} {p : Option Addr} {g o n c : Nat} {x : Nat → Nat} (R : Hid (Row w p g o n c x)) (hd : Hid (dec n x = 0)) (hn : n ≤ 140737488351232) : Calls Try.prog 50 #[.slice p n c] w (Took w (val x) (n - wOf (x 0)) (fun i => x (wOf (x 0) + i))) :=
  (ref_decode_good R hd hn).mono fun _ _ ⟨p', g', c', h1, h2, h3⟩ => ⟨p', g', 0, c', h1, h2, h3⟩
end Go.Proofs.Ytllndneplkigpaa
end
section
namespace Go.Proofs.Ytllndneplkigpaa
open Go.RowKit Go.Lib

theorem lim_of {most : Int} (h : (Lit.int .i64 most).wf = true) : ∃ lim : Nat, (if most < 0 then 0 else most) = ((lim : Nat) : Int) ∧ ((lim : Nat) : Int) ≤ 9223372036854775807 ∧ lim = (max most 0).toNat := by
  have := int_range h
  by_cases h0 : most < 0
  · exact ⟨0, by rw [if_pos h0]; rfl, by omega, by omega⟩
  · exact ⟨most.toNat, by rw [if_neg h0]; omega, by omega, by omega⟩
section
variable {w : World} {p : Option Addr} {g o n c : Nat} {x : Nat → Nat} {most : Int}
theorem rread_bad {k : Nat} (R : Hid (Row w p g o n c x)) (hd : Hid (dec n x = k)) (hk : k ≠ 0) (hn : n ≤ 140737488351232) : Calls Try.prog 70 #[.slice p n c, .int .i64 most] w (ReadBad w k) :=
  rread_bad_walk (Lib.hid (ref_decode_bad R hd hk hn)) (by simp; omega)
structure Lim (most : Int) (lim : Nat) : Prop where
  is : (if most < 0 then 0 else most) = ((lim : Nat) : Int)
  le : ((lim : Nat) : Int) ≤ 9223372036854775807
theorem rread_full {lim : Nat} (R : Hid (Row w p g o n c x)) (hd : Hid (dec n x = 0)) (hn : n ≤ 140737488351232) (L : Hid (Lim most lim)) (t : lim < val x) : Calls Try.prog 70 #[.slice p n c, .int .i64 most] w (ReadBad w 4) :=
  rread_full_walk (Lib.hid (took_dec R hd hn)) L.out.is L.out.le (by omega) t
theorem rread_short {lim : Nat} (R : Hid (Row w p g o n c x)) (hd : Hid (dec n x = 0)) (hn : n ≤ 140737488351232) (L : Hid (Lim most lim)) (t : ¬ lim < val x) (t2 : n - wOf (x 0) < val x) : Calls Try.prog 70 #[.slice p n c, .int .i64 most] w (ReadBad w 50) :=
  rread_short_walk (Lib.hid (took_dec R hd hn)) L.out.is L.out.le (by omega) t t2
theorem rread_ok {lim : Nat} (R : Hid (Row w p g o n c x)) (hd : Hid (dec n x = 0)) (hn : n ≤ 140737488351232) (L : Hid (Lim most lim)) (t : ¬ lim < val x) (t2 : ¬ n - wOf (x 0) < val x) : Calls Try.prog 70 #[.slice p n c, .int .i64 most] w (ReadGood w (val x) (n - wOf (x 0)) (fun i => x (wOf (x 0) + i))) :=
  rread_ok_walk (Lib.hid (took_dec R hd hn)) L.out.is L.out.le (by omega) t t2
end
end Go.Proofs.Ytllndneplkigpaa
end
