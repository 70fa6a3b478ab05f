/- What an argument of type Do, or of type []Do, is. -/
import Derived.Test.YtmjaimiehhgidaaOp
import Derived.Test.YtmjaimiehhgidaaVr
import Derived.Lib.SmallJoins
set_option linter.unusedSimpArgs false
set_option linter.unusedVariables false
set_option maxRecDepth 100000
namespace Go.Proofs.Ytmjaimiehhgidaa
open Go.ChangeShapes Go.WideShapes Go.ChangeAt Go.RowKit Go.Lib

/-- A call to be done: its kind, its count, its number. -/
structure DoOk (a b c : Int) : Prop where
  ha : -9223372036854775808 ≤ a ∧ a ≤ 9223372036854775807
  hb : -9223372036854775808 ≤ b ∧ b ≤ 9223372036854775807
  hc : 0 ≤ c ∧ c ≤ 18446744073709551615
theorem open_do {H : Type} {enc : TypeId × Value → H} {W : World} {base : Nat} {v : Value} {d : DataW H} {p : List MemPlace}
    (hv : Value.okWide Try.prog W .any base 31 v) (hd : DataW.Trod enc Try.prog W 0 (fun _ => true) true 31 v d p) : ∃ a b c : Int, v = .agg #[.int .i64 a, .int .i64 b, .int .u64 c] ∧ DoOk a b c := by
  obtain ⟨c0, c1, c2, y0, y1, y2, m, rfl, rfl, rfl, h0, h1, h2⟩ := Joins.open_agg3 Try.underlying31 (by kernel_rfl) (by kernel_rfl) hv hd
  obtain ⟨a, e0, _, w0⟩ := DataW.trod_int Try.underlying3 h0
  obtain ⟨b, e1, _, w1⟩ := DataW.trod_int Try.underlying3 h1
  obtain ⟨c, e2, _, w2⟩ := DataW.trod_int Try.underlying29 h2
  injection e0 with e0
  injection e1 with e1
  injection e2 with e2
  subst e0 e1 e2
  exact ⟨a, b, c, rfl, int_range w0, int_range w1, word_range w2⟩
end Go.Proofs.Ytmjaimiehhgidaa
