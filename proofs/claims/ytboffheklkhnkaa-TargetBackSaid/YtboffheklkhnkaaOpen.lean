/- An argument that is an array of whole numbers, opened and shut; four words and thirty-two bytes as numbers. -/
import Derived.Test.YtboffheklkhnkaaRep
import Derived.WalkKit
import Derived.ProofKit
import Derived.OpenShut
namespace Go.Proofs.Ytboffheklkhnkaa
open Go.RowKit Go.Lib Go.ChangeShapes Go.WideShapes Go.ChangeAt

section
variable {H : Type} {enc : TypeId × Value → H} {P : Program} {w : World} {base : Nat} {spare : Nat → Bool} {held : Bool}
theorem mapM_all {α β : Type} {g : α → Option β} {h : α → β} : ∀ (L : List α), (∀ i, i ∈ L → g i = some (h i)) → L.mapM g = some (L.map h)
  | [], _ => rfl
  | i :: L, hg => by
    rw [List.mapM_cons, hg i (by simp), mapM_all L fun j hj => hg j (by simp [hj])]
    rfl
/-- The whole number in a cell. -/
def numAt (cs : List Value) (i : Nat) : Int := match cs[i]? with
  | some (.int _ n) => n
  | _ => 0
theorem mapM_ints {e : TypeId} {k : IntKind} {m : Nat} (he : P.underlying e = some (.int k)) (hc : P.cellsOf e = 1) (cs : List Value) : ∀ (L : List Nat) (xs : List (DataW H × List MemPlace)), (∀ i, i ∈ L → i < cs.length) →
    (L.mapM fun i => DataW.trod enc P w base spare held m e ((cs.drop (i * P.cellsOf e)).take (P.cellsOf e))) = some xs →
    xs = L.map (fun i => (.lit (.int k (numAt cs i)), [])) ∧ ∀ i, i ∈ L → cs[i]? = some (.int k (numAt cs i)) ∧ (Lit.int k (numAt cs i)).wf = true
  | [], xs, _, h => by
    simp at h
    subst h
    exact ⟨rfl, fun i hi => by cases hi⟩
  | i :: L, xs, hL, h => by
    rw [List.mapM_cons] at h
    simp only [bind, Option.bind_eq_some_iff, pure, Option.some.injEq] at h
    obtain ⟨y, hy, ys, hys, rfl⟩ := h
    have hi : i < cs.length := hL i (by simp)
    obtain ⟨e1, e2⟩ := mapM_ints he hc cs L ys (fun j hj => hL j (by simp [hj])) hys
    rw [hc, Nat.mul_one, List.drop_eq_getElem_cons hi] at hy
    obtain ⟨a, ea, rfl, wa⟩ := DataW.trod_int he hy
    have ea1 : cs[i] :: List.take 0 (cs.drop (i + 1)) = [.int k a] := ea
    have ea' : cs[i] = .int k a := (List.cons.inj ea1).1
    have hq : cs[i]? = some (.int k a) := by rw [List.getElem?_eq_getElem hi, ea']
    have hn : numAt cs i = a := by unfold numAt; rw [hq]
    refine ⟨by rw [e1, List.map_cons, hn], fun j hj => ?_⟩
    rcases List.mem_cons.1 hj with rfl | hj
    · rw [hn]; exact ⟨hq, wa⟩
    · exact e2 j hj
theorem open_ints_arr {r : Reach} {b0 : Nat} {t e : TypeId} {n : Nat} {k : IntKind} {v : Value} {d : DataW H} {ps : List MemPlace} (ht : P.underlying t = some (.array n e)) (he : P.underlying e = some (.int k)) (hc : P.cellsOf e = 1) (hC : P.cellsOf t = n)
    (hval : Value.okWide P w r b0 t v) (hd : DataW.Trod enc P w base spare held t v d ps) :
    ∃ f : Nat → Int, v = .agg (arr n fun i => .int k (f i)) ∧ d = .agg ((List.range n).map fun i => .lit (.int k (f i))) ∧ ps = [] ∧ ∀ i, i < n → (Lit.int k (f i)).wf = true := by
  unfold Value.okWide at hval
  rw [ht] at hval
  obtain ⟨cs, rfl, hsz, _⟩ := hval
  rw [hC] at hsz
  obtain ⟨fuel, hf⟩ := hd
  cases fuel with
  | zero => simp [DataW.trod] at hf
  | succ m =>
    rw [DataW.trod_step] at hf
    unfold DataW.trodStep at hf
    simp only [ht, Value.cells] at hf
    rw [if_pos (by rw [hC]; simpa using hsz)] at hf
    simp only [Option.map_eq_some_iff] at hf
    obtain ⟨ys, hy, e1⟩ := hf
    obtain ⟨rfl, hall⟩ := mapM_ints he hc cs.toList (List.range n) ys (fun i hi => by simp at hi; simp; omega) hy
    simp only [Prod.mk.injEq] at e1
    refine ⟨numAt cs.toList, ?_, ?_, ?_, ?_⟩
    · exact congrArg Value.agg (arr_of hsz fun i hi => by have := (hall i (by simpa using hi)).1; rw [Array.getElem?_toList] at this; exact this)
    · rw [← e1.1]; simp
    · rw [← e1.2]; simp [List.flatMap_eq_nil_iff]
    · exact fun i hi => (hall i (by simpa using hi)).2
theorem shut_ints_arr {t e : TypeId} {n : Nat} {k : IntKind} {f : Nat → Int} (ht : P.underlying t = some (.array n e)) (he : P.underlying e = some (.int k)) (hc : P.cellsOf e = 1) (hC : P.cellsOf t = n) (hw : ∀ i, i < n → (Lit.int k (f i)).wf = true) :
    DataW.Trod enc P w base spare held t (.agg (arr n fun i => .int k (f i))) (.agg ((List.range n).map fun i => .lit (.int k (f i)))) [] := by
  refine ⟨2, ?_⟩
  rw [DataW.trod_step]
  unfold DataW.trodStep
  simp only [ht, Value.cells]
  rw [if_pos (by rw [hC]; simp [arr_size])]
  rw [mapM_all (h := fun i => (.lit (.int k (f i)), [])) (List.range n) fun i hi => ?_]
  · simp [List.flatMap_eq_nil_iff, Function.comp_def]
  · have hi' : i < n := by simpa using hi
    have hl : i < (arr n fun i => Value.int k (f i)).toList.length := by simp [arr_size]; exact hi'
    have hg : (arr n fun i => Value.int k (f i)).toList[i] = .int k (f i) := by
      have := arr_get n (fun i => Value.int k (f i)) i hi'
      rw [← Array.getElem?_toList, List.getElem?_eq_getElem hl] at this
      exact Option.some.inj this
    rw [hc, Nat.mul_one, List.drop_eq_getElem_cons hl, hg]
    have hw' := hw i hi'
    rw [DataW.trod_step]
    unfold DataW.trodStep
    simp [he, hw']
end

/-- Four words as a number. -/
theorem words_wide (f : Nat → Int) (hw : ∀ i, i < 4 → (Lit.int .u64 (f i)).wf = true) : ∃ n, n < P256 ∧ (Value.agg (arr 4 fun i => .int .u64 (f i))) = wide n := by
  have hb : ∀ i, i < 4 → (f i).toNat < 18446744073709551616 := fun i hi => by
    have := bounds_u64 (hw i hi); omega
  refine ⟨ofLimbs (fun i => (f i).toNat) 4, ofLimbs_lt hb, ?_⟩
  refine congrArg Value.agg (arr_congr fun i hi => ?_)
  unfold wl
  rw [limb_ofLimbs hb i hi]
  have := bounds_u64 (hw i hi)
  exact congrArg (Value.int .u64) (by omega)
end Go.Proofs.Ytboffheklkhnkaa
