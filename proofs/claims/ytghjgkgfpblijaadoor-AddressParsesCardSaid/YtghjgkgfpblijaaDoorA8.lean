/- address.numbers and address.parseSum. -/
import Derived.Test.YtghjgkgfpblijaaDoorA7
import Derived.Test.YtghjgkgfpblijaaDoorZC
set_option linter.unusedSimpArgs false
set_option linter.unusedVariables false
set_option maxRecDepth 100000
namespace Go.Proofs.YtghjgkgfpblijaaDoor
open Go.ChangeShapes Go.WideShapes Go.RowKit Go.Lib Go.Sort

/-- The great letters. -/
def GL : ByteArray := ⟨#[81, 80, 90, 82, 89, 57, 88, 56, 71, 70, 50, 84, 86, 68, 87, 48, 83, 51, 74, 78, 53, 52, 75, 72, 67, 69, 54, 77, 85, 65, 55, 76]⟩
def GB : ByteArray := ⟨#[66, 67, 49]⟩
theorem SL_low : Hid (∀ i, i < SL.size → byt SL i < 128) := Lib.hid fun i hi => by
  have h : ∀ i : Fin 32, byt SL i.1 < 128 := by decide +kernel
  exact h ⟨i, hi⟩
theorem GL_low : Hid (∀ i, i < GL.size → byt GL i < 128) := Lib.hid fun i hi => by
  have h : ∀ i : Fin 32, byt GL i.1 < 128 := by decide +kernel
  exact h ⟨i, hi⟩
theorem GL_size : GL.size = 32 := rfl
instance (L s : ByteArray) : Decidable (AllIn L s) := by unfold AllIn; infer_instance
/-- The numbers that an address's letters stand for. -/
def numS (s : ByteArray) : Option (List Nat) := if hasP s SB = true then (if AllIn SL (rstP s SB) then some (plL SL (rstP s SB)) else none) else if hasP s GB = true then (if AllIn GL (rstP s GB) then some (plL GL (rstP s GB)) else none) else none
def NumEnd (w : World) (o : Option (List Nat)) (e : Ending) (w' : World) : Prop := Below w.heap.size w w' ∧ ((o = none ∧ e = .returned (.tuple #[.slice none 0 0, .bool false])) ∨ ∃ l p g c, o = some l ∧ e = .returned (.tuple #[.slice p l.length c, .bool true]) ∧ Own w.heap.size w' p g l.length c (lf l))
theorem places_yes (w : World) (s L : ByteArray) (hs : s.size ≤ 1000000) (hL : L.size ≤ 100) (hA : Hid (∀ i, i < L.size → byt L i < 128)) (h : AllIn L s) : Calls Tryd.prog 62 #[.string s, .string L] w fun e w' => ∃ p g c, e = .returned (.tuple #[.slice p s.size c, .bool true]) ∧ Own w.heap.size w' p g s.size c (lf (plL L s)) ∧ Below w.heap.size w w' :=
  (places_any w s L hs hL hA).mono fun e w' hE => by
    rcases hE with ⟨_, h2⟩ | ⟨h2, _⟩
    · exact h2
    · exact absurd h h2
theorem places_no (w : World) (s L : ByteArray) (hs : s.size ≤ 1000000) (hL : L.size ≤ 100) (hA : Hid (∀ i, i < L.size → byt L i < 128)) (h : ¬ AllIn L s) : Calls Tryd.prog 62 #[.string s, .string L] w fun e w' => e = .returned (.tuple #[.slice none 0 0, .bool false]) ∧ Below w.heap.size w w' :=
  (places_any w s L hs hL hA).mono fun e w' hE => by
    rcases hE with ⟨h2, _⟩ | ⟨_, h2⟩
    · exact absurd h2 h
    · exact h2
theorem hasP_size {s P : ByteArray} (h : hasP s P = true) : s.size = P.size + (rstP s P).size := by
  have := congrArg ByteArray.size (hasP_some h)
  rwa [ByteArray.size_append] at this
set_option maxHeartbeats 8000000 in
theorem numbers_any (w : World) (s : ByteArray) (hs : s.size ≤ 1000000) : Calls Tryd.prog 49 #[.string s] w (NumEnd w (numS s)) := by
  cases hb : hasP s SB with
  | true =>
    have HB := Lib.hid hb
    clear hb
    by_cases ha : AllIn SL (rstP s SB)
    · have HA := Lib.hid ha
      clear ha
      obtain ⟨R, hR⟩ : ∃ R, R = rstP s SB := ⟨_, rfl⟩
      have rs : (rstP s SB).size ≤ 1000000 := by have := hasP_size HB.out; omega
      have CTSB := Lib.hid (show ∀ w : World, Calls Tryd.prog 63 #[.string s, .string ⟨#[98, 99, 49]⟩] w fun e w' => e = .returned (.tuple #[.string R, .bool true]) ∧ w' = w from fun w => by have := cutp_any s SB w; rw [HB.out, ← hR] at this; exact this)
      have PC := Lib.hid (show ∀ w : World, Calls Tryd.prog 62 #[.string R, .string ⟨#[113, 112, 122, 114, 121, 57, 120, 56, 103, 102, 50, 116, 118, 100, 119, 48, 115, 51, 106, 110, 53, 52, 107, 104, 99, 101, 54, 109, 117, 97, 55, 108]⟩] w fun e w' => ∃ p g c, e = .returned (.tuple #[.slice p R.size c, .bool true]) ∧ Own w.heap.size w' p g R.size c (lf (plL SL R)) ∧ Below w.heap.size w w' from fun w => by rw [hR]; exact places_yes w (rstP s SB) SL rs (by decide) SL_low HA.out)
      have NS := Lib.hid (show numS s = some (plL SL R) by unfold numS; rw [if_pos HB.out, if_pos HA.out, hR])
      have ll := Lib.hid (show (plL SL R).length = R.size from tl_length _ _)
      clear hR rs HA HB
      go_enter Tryd.func49, Tryd.ntmps49
      go_wp2_with (first
        | (go_at_call 63; ((with_reducible refine (CTSB.out _).mono ?_); rintro e w2 ⟨rfl, rfl⟩))
        | (go_at_call 62; ((with_reducible refine (PC.out _).mono ?_); rintro e w3 ⟨p3, g3, c3, rfl, N3, hb3⟩; have N := Lib.hid N3; have BB := Lib.hid hb3; clear N3 hb3)))
      go_ret2
      exact ⟨BB.out, .inr ⟨_, p3, g3, c3, NS.out, by rw [ll.out]; rfl, by rw [ll.out]; exact N.out⟩⟩
    · have HA := Lib.hid ha
      clear ha
      obtain ⟨R, hR⟩ : ∃ R, R = rstP s SB := ⟨_, rfl⟩
      have rs : (rstP s SB).size ≤ 1000000 := by have := hasP_size HB.out; omega
      have CTSB := Lib.hid (show ∀ w : World, Calls Tryd.prog 63 #[.string s, .string ⟨#[98, 99, 49]⟩] w fun e w' => e = .returned (.tuple #[.string R, .bool true]) ∧ w' = w from fun w => by have := cutp_any s SB w; rw [HB.out, ← hR] at this; exact this)
      have PC := Lib.hid (show ∀ w : World, Calls Tryd.prog 62 #[.string R, .string ⟨#[113, 112, 122, 114, 121, 57, 120, 56, 103, 102, 50, 116, 118, 100, 119, 48, 115, 51, 106, 110, 53, 52, 107, 104, 99, 101, 54, 109, 117, 97, 55, 108]⟩] w fun e w' => e = .returned (.tuple #[.slice none 0 0, .bool false]) ∧ Below w.heap.size w w' from fun w => by rw [hR]; exact places_no w (rstP s SB) SL rs (by decide) SL_low HA.out)
      have NS := Lib.hid (show numS s = none by unfold numS; rw [if_pos HB.out, if_neg HA.out])
      clear hR rs HA HB
      go_enter Tryd.func49, Tryd.ntmps49
      go_wp2_with (first
        | (go_at_call 63; ((with_reducible refine (CTSB.out _).mono ?_); rintro e w2 ⟨rfl, rfl⟩))
        | (go_at_call 62; ((with_reducible refine (PC.out _).mono ?_); rintro e w3 ⟨rfl, hb3⟩; have BB := Lib.hid hb3; clear hb3)))
      go_ret2
      exact ⟨BB.out, .inl ⟨NS.out, rfl⟩⟩
  | false =>
    have HB0 := Lib.hid hb
    clear hb
    cases hb : hasP s GB with
    | true =>
      have HB := Lib.hid hb
      clear hb
      by_cases ha : AllIn GL (rstP s GB)
      · have HA := Lib.hid ha
        clear ha
        obtain ⟨R, hR⟩ : ∃ R, R = rstP s GB := ⟨_, rfl⟩
        have rs : (rstP s GB).size ≤ 1000000 := by have := hasP_size HB.out; omega
        have CTSB := Lib.hid (show ∀ w : World, Calls Tryd.prog 63 #[.string s, .string ⟨#[98, 99, 49]⟩] w fun e w' => e = .returned (.tuple #[.string (rstP s SB), .bool false]) ∧ w' = w from fun w => by have := cutp_any s SB w; rw [HB0.out] at this; exact this)
        have CTGB := Lib.hid (show ∀ w : World, Calls Tryd.prog 63 #[.string s, .string ⟨#[66, 67, 49]⟩] w fun e w' => e = .returned (.tuple #[.string R, .bool true]) ∧ w' = w from fun w => by have := cutp_any s GB w; rw [HB.out, ← hR] at this; exact this)
        have PC := Lib.hid (show ∀ w : World, Calls Tryd.prog 62 #[.string R, .string ⟨#[81, 80, 90, 82, 89, 57, 88, 56, 71, 70, 50, 84, 86, 68, 87, 48, 83, 51, 74, 78, 53, 52, 75, 72, 67, 69, 54, 77, 85, 65, 55, 76]⟩] w fun e w' => ∃ p g c, e = .returned (.tuple #[.slice p R.size c, .bool true]) ∧ Own w.heap.size w' p g R.size c (lf (plL GL R)) ∧ Below w.heap.size w w' from fun w => by rw [hR]; exact places_yes w (rstP s GB) GL rs (by decide) GL_low HA.out)
        have NS := Lib.hid (show numS s = some (plL GL R) by unfold numS; rw [if_neg (by rw [HB0.out]; simp), if_pos HB.out, if_pos HA.out, hR])
        have ll := Lib.hid (show (plL GL R).length = R.size from tl_length _ _)
        clear hR rs HA HB HB0
        go_enter Tryd.func49, Tryd.ntmps49
        go_wp2_with (first
          | (go_at_call 63; ((with_reducible refine (CTSB.out _).mono ?_); rintro e w2 ⟨rfl, rfl⟩))
          | (go_at_call 63; ((with_reducible refine (CTGB.out _).mono ?_); rintro e w2 ⟨rfl, rfl⟩))
          | (go_at_call 62; ((with_reducible refine (PC.out _).mono ?_); rintro e w3 ⟨p3, g3, c3, rfl, N3, hb3⟩; have N := Lib.hid N3; have BB := Lib.hid hb3; clear N3 hb3)))
        go_ret2
        exact ⟨BB.out, .inr ⟨_, p3, g3, c3, NS.out, by rw [ll.out]; rfl, by rw [ll.out]; exact N.out⟩⟩
      · have HA := Lib.hid ha
        clear ha
        obtain ⟨R, hR⟩ : ∃ R, R = rstP s GB := ⟨_, rfl⟩
        have rs : (rstP s GB).size ≤ 1000000 := by have := hasP_size HB.out; omega
        have CTSB := Lib.hid (show ∀ w : World, Calls Tryd.prog 63 #[.string s, .string ⟨#[98, 99, 49]⟩] w fun e w' => e = .returned (.tuple #[.string (rstP s SB), .bool false]) ∧ w' = w from fun w => by have := cutp_any s SB w; rw [HB0.out] at this; exact this)
        have CTGB := Lib.hid (show ∀ w : World, Calls Tryd.prog 63 #[.string s, .string ⟨#[66, 67, 49]⟩] w fun e w' => e = .returned (.tuple #[.string R, .bool true]) ∧ w' = w from fun w => by have := cutp_any s GB w; rw [HB.out, ← hR] at this; exact this)
        have PC := Lib.hid (show ∀ w : World, Calls Tryd.prog 62 #[.string R, .string ⟨#[81, 80, 90, 82, 89, 57, 88, 56, 71, 70, 50, 84, 86, 68, 87, 48, 83, 51, 74, 78, 53, 52, 75, 72, 67, 69, 54, 77, 85, 65, 55, 76]⟩] w fun e w' => e = .returned (.tuple #[.slice none 0 0, .bool false]) ∧ Below w.heap.size w w' from fun w => by rw [hR]; exact places_no w (rstP s GB) GL rs (by decide) GL_low HA.out)
        have NS := Lib.hid (show numS s = none by unfold numS; rw [if_neg (by rw [HB0.out]; simp), if_pos HB.out, if_neg HA.out])
        clear hR rs HA HB HB0
        go_enter Tryd.func49, Tryd.ntmps49
        go_wp2_with (first
          | (go_at_call 63; ((with_reducible refine (CTSB.out _).mono ?_); rintro e w2 ⟨rfl, rfl⟩))
          | (go_at_call 63; ((with_reducible refine (CTGB.out _).mono ?_); rintro e w2 ⟨rfl, rfl⟩))
          | (go_at_call 62; ((with_reducible refine (PC.out _).mono ?_); rintro e w3 ⟨rfl, hb3⟩; have BB := Lib.hid hb3; clear hb3)))
        go_ret2
        exact ⟨BB.out, .inl ⟨NS.out, rfl⟩⟩
    | false =>
      have HB := Lib.hid hb
      have NS := Lib.hid (show numS s = none by unfold numS; rw [if_neg (by rw [HB0.out]; simp), if_neg (by rw [hb]; simp)])
      have CTSB := Lib.hid (show ∀ w : World, Calls Tryd.prog 63 #[.string s, .string ⟨#[98, 99, 49]⟩] w fun e w' => e = .returned (.tuple #[.string (rstP s SB), .bool false]) ∧ w' = w from fun w => by have := cutp_any s SB w; rw [HB0.out] at this; exact this)
      have CTGB := Lib.hid (show ∀ w : World, Calls Tryd.prog 63 #[.string s, .string ⟨#[66, 67, 49]⟩] w fun e w' => e = .returned (.tuple #[.string (rstP s GB), .bool false]) ∧ w' = w from fun w => by have := cutp_any s GB w; rw [HB.out] at this; exact this)
      clear hb HB HB0
      go_enter Tryd.func49, Tryd.ntmps49
      go_wp2_with (first
        | (go_at_call 63; ((with_reducible refine (CTSB.out _).mono ?_); rintro e w2 ⟨rfl, rfl⟩))
        | (go_at_call 63; ((with_reducible refine (CTGB.out _).mono ?_); rintro e w2 ⟨rfl, rfl⟩)))
      go_ret2
      exact ⟨Below.refl _ _, .inl ⟨NS.out, rfl⟩⟩
/-- What a call leaves that gives bytes, or none. -/
def OEnd (w : World) (o : Option (List Nat)) (e : Ending) (w' : World) : Prop := ∃ (r : List Nat) (ok : Bool) (p : Option Addr) (g c : Nat), e = .returned (.tuple #[.slice p r.length c, .bool ok]) ∧ ok = o.isSome ∧ r = o.getD [] ∧ Row w' p g 0 r.length c (lf r) ∧ Below w.heap.size w w'
theorem oEnd_no {w w' : World} {o : Option (List Nat)} (h : o = none) (hb : Below w.heap.size w w') : OEnd w o (.returned (.tuple #[.slice none 0 0, .bool false])) w' :=
  ⟨[], false, none, 0, 0, rfl, by rw [h]; rfl, by rw [h]; rfl, Row.nothing _ _ (lf_lt isB_nil), hb⟩
def psum (r : List Nat) : Option (List Nat) := if r.length ≠ 25 then none else if (dbl (r.take 21)).take 4 ≠ r.drop 21 then none else if r.getD 0 0 = 0 then mkOf 1 ((r.take 21).drop 1) else if r.getD 0 0 = 5 then mkOf 2 ((r.take 21).drop 1) else none
/-- The script of an address with a sum. -/
def pS (s : ByteArray) : Option (List Nat) := if 300 < s.size ∨ ¬ AllIn D58 s then none else psum (reb 58 256 (plL D58 s))
theorem pS_bad {s : ByteArray} (h : 300 < s.size ∨ ¬ AllIn D58 s) : pS s = none := by unfold pS; rw [if_pos h]
theorem unb_bad {s : ByteArray} (h : 300 < s.size ∨ ¬ AllIn D58 s) (w : World) : Calls Tryd.prog 48 #[.string s] w fun e w' => ∃ z : Int, z ≠ 0 ∧ e = .returned (.tuple #[.slice none 0 0, .int .i64 z]) ∧ Below w.heap.size w w' :=
  (unb_any w s).mono fun e w' hE => by
    obtain ⟨hb, ⟨_, he⟩ | ⟨_, _, he⟩ | ⟨h1, h2, _⟩⟩ := hE
    · exact ⟨4, by omega, he, hb⟩
    · exact ⟨140, by omega, he, hb⟩
    · rcases h with h | h
      · omega
      · exact absurd h2 h
theorem unb_good {s : ByteArray} (h : ¬ (300 < s.size ∨ ¬ AllIn D58 s)) (r : List Nat) (hr : r = reb 58 256 (plL D58 s)) (w : World) : Calls Tryd.prog 48 #[.string s] w fun e w' => ∃ p g c, e = .returned (.tuple #[.slice p r.length c, .int .i64 0]) ∧ Own w.heap.size w' p g r.length c (lf r) ∧ Below w.heap.size w w' :=
  (unb_any w s).mono fun e w' hE => by
    obtain ⟨hb, ⟨h1, he⟩ | ⟨_, h1, he⟩ | ⟨h1, h2, q, p, g, c, hq, he, N⟩⟩ := hE
    · exact absurd (.inl h1) h
    · exact absurd (.inr h1) h
    · obtain rfl := hq.trans hr.symm
      exact ⟨p, g, c, he, N, hb⟩
theorem exec_neqE3 {o : Oper} {ev : Operand → Value} {W : World} {x y : Operand} {z : Int} {q : Bool} (ho : o.op = .binOp .neq 23 x y 23) (hx : ev x = .int .i64 z) (hy : ev y = .int .i64 0) (hq : decide (z ≠ 0) = q) : (execOp ev o).run Tryd.prog W = .ok (.value (.bool q)) W := by
  subst hq
  unfold execOp
  by_cases h : z = 0
  · subst h
    simp [ho, hx, hy, go_sem, Tryd.underlying23]
  · simp [ho, hx, hy, go_sem, Tryd.underlying23, h]
theorem tl_take {f : Nat → Nat} {k n : Nat} (h : k ≤ n) : (tl f n).take k = tl f k := by
  refine lf_inj (by rw [List.length_take, tl_length, tl_length]; omega) fun i hi => ?_
  rw [List.length_take, tl_length] at hi
  have : lf ((tl f n).take k) i = lf (tl f n) i := by
    unfold lf
    rw [List.getD_eq_getElem?_getD, List.getD_eq_getElem?_getD, List.getElem?_take_of_lt (by omega)]
  rw [this, lf_tl _ (by omega), lf_tl _ (by omega)]
theorem tl_drop {f : Nat → Nat} {k n : Nat} (h : k ≤ n) : (tl f n).drop k = tl (fun i => f (k + i)) (n - k) := by
  refine lf_inj (by rw [List.length_drop, tl_length, tl_length]) fun i hi => ?_
  rw [List.length_drop, tl_length] at hi
  have : lf ((tl f n).drop k) i = lf (tl f n) (k + i) := by
    unfold lf
    rw [List.getD_eq_getElem?_getD, List.getD_eq_getElem?_getD, List.getElem?_drop]
  rw [this, lf_tl _ (by omega), lf_tl _ (by omega)]
end Go.Proofs.YtghjgkgfpblijaaDoor
