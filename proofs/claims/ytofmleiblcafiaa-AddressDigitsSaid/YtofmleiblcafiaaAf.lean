/- The document's place of a letter; pieces of texts. -/
import Derived.Test.YtofmleiblcafiaaAe
import Derived.Laws.Concat
set_option linter.unusedSimpArgs false
set_option linter.unusedVariables false
set_option maxRecDepth 100000
namespace Go.Proofs.Ytofmleiblcafiaa
open Go.ChangeShapes Go.WideShapes Go.RowKit Go.Lib Go.Sort

theorem byt_catl {s t : ByteArray} {i : Nat} (h : i < s.size) : byt (s ++ t) i = byt s i := by
  rw [← byt_get s i h, ← byt_get (s ++ t) i (by rw [ByteArray.size_append]; omega), ByteArray.getElem_append_left h]
theorem byt_catr {s t : ByteArray} {i : Nat} (h : s.size ≤ i) (h2 : i < s.size + t.size) : byt (s ++ t) i = byt t (i - s.size) := by
  rw [← byt_get t (i - s.size) (by omega), ← byt_get (s ++ t) i (by rw [ByteArray.size_append]; omega), ByteArray.getElem_append_right h]
theorem exec_cat {o : Oper} {ev : Operand → Value} {W : World} {x y : Operand} {s t : ByteArray} (ho : o.op = .binOp .add 9 x y 9) (hx : ev x = .string s) (hy : ev y = .string t) (hl : s.size + t.size ≤ 1000000) : (execOp ev o).run Try.prog W = .ok (.value (.string (s ++ t))) W := by
  have h : ¬ (((s.size + t.size : Nat) : Int) > 9223372036854775807) := by omega
  have h2 : ¬ ((s.size : Int) + (t.size : Int) > 9223372036854775807) := by omega
  unfold execOp
  simp [ho, hx, hy, go_sem, binOp, Try.underlying9, Op.stringOp, h, h2, IntKind.max, IntKind.bits, IntKind.signed]
  try omega
theorem exec_drop1 {o : Oper} {ev : Operand → Value} {W : World} {x : Operand} {s : ByteArray} (ho : o.op = .slice 9 x (some (.const (.int .i64 1))) none none) (hx : ev x = .string s) (hc : ev (.const (.int .i64 1)) = .int .i64 1) (hl : 1 ≤ s.size) : (execOp ev o).run Try.prog W = .ok (.value (.string (s.extract 1 s.size))) W := by
  unfold execOp
  simp only [ho, Option.map_some, Option.map_none, hx, hc, Sem.run_bind, run_sliceAt_string (w := W) 9 _ _ _ _ Try.underlying9, run_slice_string_l (w := W) (s := s) 9 Try.underlying9 .i64 1 (by omega) (by omega), Result.andThen_ok]
  rfl
theorem byt_drop1 {s : ByteArray} (h : 1 ≤ s.size) : (s.extract 1 s.size).size = s.size - 1 ∧ ∀ i, i < s.size - 1 → byt (s.extract 1 s.size) i = byt s (1 + i) := by
  have hs : (s.extract 1 s.size).size = s.size - 1 := by rw [ByteArray.size_extract]; omega
  refine ⟨hs, fun i hi => ?_⟩
  rw [← byt_get s (1 + i) (by omega), ← byt_get (s.extract 1 s.size) i (by omega), ByteArray.getElem_extract]
/-- Where a letter stands; -1, if it does not. -/
def plZ (S : ByteArray) (c : Nat) : Int := if ixL S c < S.size then ((ixL S c : Nat) : Int) else -1
set_option maxHeartbeats 8000000 in
theorem place_any (S : ByteArray) (c : Nat) (hS : S.size ≤ 100) (hc : c < 256) (w : World) : Calls Try.prog 13 #[.string S, .int .u8 (c : Int)] w fun e w' => e = .returned (.int .i64 (plZ S c)) ∧ w = w' := by
  have F0 := Lib.hid (show ∀ i, i < 0 → byt S i ≠ c from fun i h => absurd h (by omega))
  go_enter Try.func13, Try.ntmps13
  go_wp2
  go_loop [5] (fun i => ∃ j : Nat, j ≤ S.size ∧ i = .int .i64 (j : Int) ∧ Hid (∀ i, i < j → byt S i ≠ c)) (fun i => S.size - (intOf i).toNat)
  case atStart => exact ⟨0, by omega, rfl, F0⟩
  case round =>
    obtain ⟨j, hj, rfl, FF⟩ := hrel
    by_cases hlt : j < S.size
    · obtain ⟨z, hz⟩ : ∃ z, z = byt S j := ⟨_, rfl⟩
      have G : ((S[j]'hlt).toNat : Int) = (z : Int) := by rw [hz, byt_get]
      by_cases he : z = c
      · have PZ := Lib.hid (show plZ S c = (j : Int) by unfold plZ ixL; rw [ixf_hit (by rw [← hz]; exact he) FF.out hlt, if_pos hlt])
        subst he
        clear hz FF
        go_wp2
        go_ret
        exact ⟨by rw [PZ.out]; rfl, rfl⟩
      · have b1 : ((z : Int) == (c : Int)) = false := by simpa using (show ¬ ((z : Int) = (c : Int)) by omega)
        have F1 := Lib.hid (show ∀ i, i < j + 1 → byt S i ≠ c from fun i hi => by
          rcases Nat.lt_or_ge i j with h | h
          · exact FF.out i h
          · obtain rfl : i = j := by omega
            rw [← hz]; exact he)
        clear hz he FF
        go_wp2
        go_round
        case rel => exact ⟨j + 1, by omega, by go_num, F1⟩
        case measure => simp [intOf]; omega
    · obtain rfl : j = S.size := by omega
      have PZ := Lib.hid (show plZ S c = -1 by unfold plZ ixL; rw [ixf_miss FF.out, if_neg (by omega)])
      clear FF
      go_wp2
      go_ret
      exact ⟨by rw [PZ.out]; rfl, rfl⟩
end Go.Proofs.Ytofmleiblcafiaa
