/- What FrameBack wants of rows of frames, and of frames behind each other. -/
import Derived.Test.YtkjcljobcidhfaaDoorGs
import Derived.Test.YtkjcljobcidhfaaDoorFx
set_option linter.unusedSimpArgs false
set_option linter.unusedVariables false
set_option maxRecDepth 100000
namespace Go.Proofs.YtkjcljobcidhfaaDoor
open Go.RowKit Go.Lib Go.Sort

/-- The three commands. -/
def txS : ByteArray := ⟨#[116, 120]⟩
def vkS : ByteArray := ⟨#[118, 101, 114, 97, 99, 107]⟩
def abS : ByteArray := ⟨#[97, 98, 99, 100, 101, 102, 103, 104, 105, 106, 107, 108]⟩
def comOf (m : Nat) : ByteArray := if m = 0 then txS else if m = 1 then vkS else abS
theorem com_three (P : ByteArray → Prop) (h0 : P txS) (h1 : P vkS) (h2 : P abS) (m : Nat) : P (comOf m) := by
  unfold comOf
  split
  · exact h0
  · split
    · exact h1
    · exact h2
theorem com_is (m : Nat) : isCom (sb (comOf m)) (comOf m).size = true := com_three (fun s => isCom (sb s) s.size = true) (by decide +kernel) (by decide +kernel) (by decide +kernel) m
theorem com_is2 (m : Nat) : isCom (lf (stB (comOf m))) (stB (comOf m)).length = true := com_three (fun s => isCom (lf (stB s)) (stB s).length = true) (by decide +kernel) (by decide +kernel) (by decide +kernel) m
theorem com_size (m : Nat) : (comOf m).size ≤ 12 := com_three (fun s => s.size ≤ 12) (by decide) (by decide) (by decide) m
theorem strX_stB (s : ByteArray) : strX (lf (stB s)) (stB s).length = s := by
  rw [stB_length]
  refine (strX_eq (lf_lt (isB_tl (sb_lt s) _)) rfl).2 fun i hi => ?_
  exact lf_tl _ hi
/-- Bytes behind what left nothing. -/
theorem Feeds.join {a b r1 r : List Nat} {fs1 fs2 : List (ByteArray × List Nat)} {e : Int} (h1 : Feeds a fs1 r1 0) (h2 : Feeds (r1 ++ b) fs2 r e) : Feeds (a ++ b) (fs1 ++ fs2) r e := by
  generalize hz : (0 : Int) = z at h1
  induction h1 with
  | wait q => exact h2
  | bad q => exact absurd hz.symm (pFirst_err q)
  | frame q t ih =>
    rename_i zs pay r' k s fs' e'
    have q2 := pFirst_app (a := zs) (b := b) (by rw [q]; intro x; cases x)
    rw [q] at q2
    refine .frame q2 ?_
    rw [List.drop_append_of_le_length (pFirst_frame q).1]
    exact ih h2 hz
theorem Feeds.snoc {xs t : List Nat} {ws : List (ByteArray × List Nat)} (h : Feeds xs ws [] 0) (m : Nat) (ht : t.length ≤ 200000) : Feeds (xs ++ frB (stB (comOf m)) t) (ws ++ [(comOf m, t)]) [] 0 := by
  refine h.join ?_
  have := feeds_one (cmd := stB (comOf m)) (t := t) (com_is2 m) ht
  rwa [strX_stB] at this
theorem feeds_rest {zs r : List Nat} {fs : List (ByteArray × List Nat)} {e : Int} (h : Feeds zs fs r e) : r.length ≤ zs.length := by
  induction h with
  | wait q => exact Nat.le_refl _
  | bad q => exact Nat.zero_le _
  | frame q t ih => rw [List.length_drop] at ih; omega
theorem feeds_nil : Feeds [] [] [] 0 := .wait (by unfold pFirst; rw [if_pos (by decide)])
theorem frenc_com {W : World} {m : Nat} {v : Value} {t : List Nat} (A : Hid (TextAt W v t)) (hl : t.length ≤ 300) (KL : Hid (S.Both W)) :
    Calls Tryd.prog 15 #[.agg (arr 2 (fU (comOf m) v))] W fun e w' => ∃ p g c, e = .returned (.tuple #[.slice p (24 + t.length) c, .int .i64 0]) ∧ Own W.heap.size w' p g (24 + t.length) c (lf (frB (stB (comOf m)) t)) ∧ Below W.heap.size W w' :=
  (show Calls Tryd.prog 15 #[.agg #[.string (comOf m), v]] W _ from (frenc_any (s := comOf m) (by have := com_size m; omega) A KL).mono fun e w' h => by
    unfold FrEnc at h
    rwa [if_pos (com_is m), if_pos (by omega), frB_length (by rw [stB_length]; exact com_size m)] at h)
/-- A row of cells whose block is as it was. -/
theorem VOwn.same {T k B : Nat} {w w' : World} {p : Option Addr} {g n c : Nat} {V : Nat → Value} (h : VOwn T k B w p g n c V) (hs : w.heap.size ≤ w'.heap.size) (hb : ∀ j, ob p = some j → (∃ cur, w.heap[j]? = some (.cells cur T (0, 0))) → w'.heap[j]? = w.heap[j]?) : VOwn T k B w' p g n c V := by
  refine ⟨⟨h.own.1, ?_⟩, h.spot, h.one, Nat.le_trans h.low hs⟩
  rcases h.own.2 with hn | ⟨g', cap, cur, e, hb', hgg, rest⟩
  · exact .inl hn
  · refine .inr ⟨g', cap, cur, e, hb', (hb g' ?_ ⟨cur, hgg⟩).trans hgg, rest⟩
    injection e with e _ _
    rw [e]
    rfl
/-- Frames, when a reader turns that does not lie where their payloads do. -/
theorem FrsAt.feed {D w w' : World} {br bu : Nat} {v : Value} {er : Int} {p : Option Addr} {g c : Nat} {xs : List Nat} {B : Nat} {pg : Option Addr} {gg cg : Nat} {V : Nat → Value} {fs : List (ByteArray × List Nat)} (h : FrsAt B w pg gg cg V fs) (T : Fq D br bu v er p g c xs w) (F : Fr bu (ob p) w w') (A : Apart V fs p) : FrsAt B w' pg gg cg V fs := by
  refine ⟨h.1.same F.size fun j e ⟨cur, hc⟩ => F.block j (heap_lt hc) (other_kind hc T.cU (by decide)) fun e2 => ?_, fun i hi => ⟨(h.2 i hi).1, ?_⟩⟩
  · obtain ⟨cur2, hc2⟩ := T.own.kind e2.symm
    exact other_kind hc hc2 (by decide) rfl
  · obtain ⟨q, gq, cq, hv, hl, N⟩ := (h.2 i hi).2
    refine ⟨q, gq, cq, hv, hl, N.same F.size fun j e hj => F.block j hj (fun e2 => N.ne T.cU (by decide) (by rw [e, e2])) fun e2 => A i hi j e2.symm ?_⟩
    rw [hv, ob_own]
    exact e
theorem Apart.feed {B : Nat} {w : World} {pg : Option Addr} {gg cg : Nat} {V : Nat → Value} {fs : List (ByteArray × List Nat)} {p p' : Option Addr} (A : Apart V fs p) (h : FrsAt B w pg gg cg V fs) (L : Lies w (ob p) (ob p')) : Apart V fs p' := fun i hi j e e2 => by
  rcases L j e with h1 | h1
  · exact A i hi j h1 e2
  · have := ((h.2 i hi).2.lies e2).2
    omega
theorem vcat_hi2 {V U : Nat → Value} {j k i x : Nat} (hi : j ≤ i) : vcat V (j * k) U (i * k + x) = U ((i - j) * k + x) := by
  unfold vcat
  have h : j * k ≤ i * k := Nat.mul_le_mul_right k hi
  rw [if_neg (by omega), Nat.sub_mul]
  congr 1
  omega
/-- Frames behind frames. -/
theorem FrsAt.app {B : Nat} {w w' : World} {p p' pf : Option Addr} {g c g' c' gf cf : Nat} {V U : Nat → Value} {fs gs : List (ByteArray × List Nat)} (h : FrsAt B w p g c V fs) (h2 : FrsAt B w pf gf cf U gs) (k : KeepT 42 w w') (N : VOwn 42 2 B w' p' g' (fs.length + gs.length) c' (vcat V (fs.length * 2) U)) : FrsAt B w' p' g' c' (vcat V (fs.length * 2) U) (fs ++ gs) := by
  refine ⟨by rw [List.length_append]; exact N, fun i hi => ?_⟩
  rw [List.length_append] at hi
  by_cases e : i < fs.length
  · have e2 : (fs ++ gs)[i]'(by rw [List.length_append]; omega) = fs[i] := List.getElem_append_left e
    rw [e2, vcat_lo e (by omega), vcat_lo e (by omega)]
    exact ⟨(h.2 i e).1, (h.2 i e).2.keep k (by decide)⟩
  · have hi2 : i - fs.length < gs.length := by omega
    have e2 : (fs ++ gs)[i]'(by rw [List.length_append]; omega) = gs[i - fs.length] := List.getElem_append_right (by omega)
    rw [e2, vcat_hi2 (by omega), vcat_hi2 (by omega)]
    exact ⟨(h2.2 _ hi2).1, (h2.2 _ hi2).2.keep k (by decide)⟩
theorem Apart.app {V U : Nat → Value} {fs gs : List (ByteArray × List Nat)} {p : Option Addr} (A : Apart V fs p) (A2 : Apart U gs p) : Apart (vcat V (fs.length * 2) U) (fs ++ gs) p := fun i hi j e => by
  rw [List.length_append] at hi
  by_cases h : i < fs.length
  · rw [vcat_lo h (by omega)]
    exact A i h j e
  · rw [vcat_hi2 (by omega)]
    exact A2 _ (by omega) j e
end Go.Proofs.YtkjcljobcidhfaaDoor
