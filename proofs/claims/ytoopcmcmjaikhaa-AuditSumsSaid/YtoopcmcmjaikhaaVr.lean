/- Slices of any elements: what one holds in memory, one of the call's own, appends; bytes as lists. Nothing of the program stands here but its row for bytes. -/
import Derived.Test.YtoopcmcmjaikhaaMo
import Derived.OwnWalk
set_option linter.unusedSimpArgs false
set_option maxRecDepth 100000
namespace Go.Proofs.Ytoopcmcmjaikhaa
open Go.RowKit Go.Lib

/-- m cells, told by V. -/
def vs (V : Nat → Value) (m : Nat) : List Value := (List.range m).map V
theorem vs_length (V : Nat → Value) (m : Nat) : (vs V m).length = m := by simp [vs]
theorem vs_at (V : Nat → Value) (m j : Nat) (h : j < m) : (vs V m)[j]? = some (V j) := by
  unfold vs
  rw [List.getElem?_map, List.getElem?_range h]
  rfl
theorem vs_get (V : Nat → Value) (m j : Nat) (v : Value) (h : (vs V m)[j]? = some v) : j < m ∧ v = V j := by
  rcases Nat.lt_or_ge j m with q | q
  · rw [vs_at V m j q] at h
    exact ⟨q, by simpa using h.symm⟩
  · rw [List.getElem?_eq_none (by rw [vs_length]; exact q)] at h
    cases h
theorem vs_one {V : Nat → Value} {m : Nat} (h : ∀ i, i < m → (V i).oneCell' = true) : ∀ u ∈ vs V m, u.oneCell' = true := fun u hu => by
  obtain ⟨i, hi, rfl⟩ := List.mem_map.1 hu
  exact h i (by simpa using hi)
theorem vs_congr {V U : Nat → Value} {m : Nat} (h : ∀ i, i < m → V i = U i) : vs V m = vs U m := List.map_congr_left fun i hi => h i (by simpa using hi)
/-- V's first m, then U. -/
def vcat (V : Nat → Value) (m : Nat) (U : Nat → Value) : Nat → Value := fun i => if i < m then V i else U (i - m)
theorem vs_cat (V U : Nat → Value) (m k : Nat) : vs V m ++ vs U k = vs (vcat V m U) (m + k) := by
  apply List.ext_getElem?
  intro j
  rcases Nat.lt_or_ge j m with h | h
  · rw [List.getElem?_append_left (by rw [vs_length]; exact h), vs_at _ _ _ h, vs_at _ _ _ (by omega)]
    unfold vcat; rw [if_pos h]
  · rw [List.getElem?_append_right (by rw [vs_length]; exact h), vs_length]
    rcases Nat.lt_or_ge j (m + k) with h2 | h2
    · rw [vs_at _ _ _ (by omega), vs_at _ _ _ h2]
      unfold vcat; rw [if_neg (by omega)]
    · rw [List.getElem?_eq_none (by rw [vs_length]; omega), List.getElem?_eq_none (by rw [vs_length]; omega)]

/-- A slice of n elements of k cells each, of room c, reads so in w. -/
structure VRow (k : Nat) (w : World) (p : Option Addr) (g o n c : Nat) (V : Nat → Value) : Prop where
  le : n ≤ c
  cap : c ≤ maxLen
  nil : p = none → n = 0 ∧ c = 0
  head : 0 < n → p = some ⟨g, o, none⟩
  cell : ∀ i, i < n * k → w.cell? ⟨g, o + i, none⟩ = some (V i)
  one : ∀ i, i < n * k → (V i).oneCell' = true
section
variable {w w' w0 : World} {k : Nat} {p : Option Addr} {g o n c : Nat} {V U : Nat → Value}
theorem VRow.below (h : VRow k w p g o n c V) (hb : Below w.heap.size w w') : VRow k w' p g o n c V :=
  ⟨h.le, h.cap, h.nil, h.head, fun i hi => by rw [hb.cell (cell_lt (h.cell i hi))]; exact h.cell i hi, h.one⟩
theorem VRow.to (h : VRow k w p g o n c V) (e : ∀ i, i < n * k → V i = U i) : VRow k w p g o n c U :=
  ⟨h.le, h.cap, h.nil, h.head, fun i hi => by rw [← e i hi]; exact h.cell i hi, fun i hi => by rw [← e i hi]; exact h.one i hi⟩
theorem VRow.nothing (k : Nat) (w : World) (V : Nat → Value) : VRow k w none 0 0 0 0 V :=
  ⟨Nat.le_refl _, by unfold maxLen; omega, fun _ => ⟨rfl, rfl⟩, fun h => absurd h (by omega), fun i hi => absurd hi (by omega), fun i hi => absurd hi (by omega)⟩
/-- The element i, as a row of cells. -/
theorem VRow.elem (R : VRow k w p g o n c V) {i : Nat} (hi : i < n) : w.rangeAt g (o + i * k) (vs (fun j => V (i * k + j)) k) := fun j v hj => by
  obtain ⟨h, rfl⟩ := vs_get _ _ _ _ hj
  have h2 : i * k + j < n * k := by
    have : (i + 1) * k ≤ n * k := Nat.mul_le_mul_right k hi
    rw [Nat.add_mul] at this
    omega
  rw [show o + i * k + j = o + (i * k + j) from by omega]
  exact R.cell _ h2
theorem vs_arr (V : Nat → Value) (k : Nat) : (vs V k).toArray = arr k V := by
  apply Array.ext_getElem?
  intro i
  rw [List.getElem?_toArray]
  rcases Nat.lt_or_ge i k with h | h
  · rw [vs_at _ _ _ h, arr_get k V i h]
  · rw [List.getElem?_eq_none (by rw [vs_length]; exact h), Array.getElem?_eq_none (by rw [arr_size]; exact h)]
/-- The element i, loaded. -/
theorem VRow.load {P : Program} {ty : TypeId} {d : TypeDesc} (R : VRow k w p g o n c V) {i : Nat} (hi : i < n) (hu : P.underlying ty = some d) (hd : d.isRow = true) (hs : (P.info? ty).map (·.size) = some k) :
    (Instr.loadAt ty (.pointer (some ⟨g, o + i * k, none⟩))).run P w = .ok (.agg (arr k fun j => V (i * k + j))) w := by
  have := run_loadAt_mid (P := P) w g (o + i * k) ty (vs (fun j => V (i * k + j)) k) d (R.elem hi) hu hd (by rw [hs, vs_length])
  rwa [vs_arr] at this
theorem VRow.arr_one (R : VRow k w p g o n c V) {i : Nat} (hi : i < n) : (arr k fun j => V (i * k + j)).all (·.oneCell') = true := Array.all_eq_true_iff_forall_mem.2 fun v hv => by
  obtain ⟨j, hj, rfl⟩ := Array.getElem_of_mem hv
  rw [arr_size] at hj
  have e : (arr k fun j => V (i * k + j))[j]? = some (V (i * k + j)) := arr_get k _ j hj
  rw [Array.getElem?_eq_getElem (by rw [arr_size]; exact hj)] at e
  injection e with e
  rw [e]
  refine R.one _ ?_
  have : (i + 1) * k ≤ n * k := Nat.mul_le_mul_right k hi
  rw [Nat.add_mul] at this
  omega
theorem VRow.slice (R : VRow k w p g o n c V) {l h m : Nat} (h1 : l ≤ h) (h2 : h ≤ n) (h3 : h ≤ m) (h4 : m ≤ c) :
    ∃ p', sliced p l h m k = .slice p' (h - l) (m - l) ∧ VRow k w p' g (o + l * k) (h - l) (m - l) (fun i => V (l * k + i)) := by
  have key : ∀ i, i < (h - l) * k → l * k + i < n * k := fun i hi => by
    have : (l + (h - l)) * k ≤ n * k := Nat.mul_le_mul_right k (by omega)
    rw [Nat.add_mul] at this
    omega
  refine ⟨_, rfl, by omega, by have := R.cap; omega, ?_, ?_, fun i hi => ?_, fun i hi => R.one _ (key i hi)⟩
  · intro hn
    by_cases e : m = l
    · omega
    · rw [if_neg e] at hn
      cases p with
      | none => have := (R.nil rfl).2; omega
      | some a => cases hn
  · intro hp
    rw [if_neg (by omega), R.head (by omega)]
    show some ((⟨g, o, none⟩ : Addr).add (l * k)) = _
    rw [row_add]
  · rw [show o + l * k + i = o + (l * k + i) from by omega]
    exact R.cell _ (key i hi)
end

/-- A slice of elements in a block of the call's own: its first n are told by V. -/
structure VOwn (T k : Nat) (B : Nat) (w : World) (p : Option Addr) (g n c : Nat) (V : Nat → Value) : Prop where
  own : w.ownsRow B T k (.slice p n c) n (vs V (n * k))
  spot : p = none ∨ p = some ⟨g, 0, none⟩
  one : ∀ i, i < n * k → (V i).oneCell' = true
  low : B ≤ w.heap.size
section
variable {w w' w0 : World} {T k : Nat} {p : Option Addr} {B g n c : Nat} {V U : Nat → Value}
theorem VOwn.row (h : VOwn T k B w p g n c V) : VRow k w p g 0 n c V := by
  have h0 := h.own
  obtain ⟨_, h1⟩ := h.own
  rcases h1 with ⟨h1, h2⟩ | ⟨g', cap, cur, h1, h2, h3, h4, h5, h6, h7⟩
  · injection h1 with a1 a2 a3
    subst a1 h2 a3
    exact ⟨Nat.le_refl _, by unfold maxLen; omega, fun _ => ⟨rfl, rfl⟩, fun h => absurd h (by omega), fun i hi => absurd hi (by omega), h.one⟩
  · injection h1 with a1 a2 a3
    subst a1 a3
    rcases h.spot with q | q
    · cases q
    · injection q with q
      injection q with q1
      subst q1
      refine ⟨h4, h5, fun h => (by cases h), fun _ => rfl, fun i hi => ?_, h.one⟩
      have := World.ownsRow.cells h0 (g := g') rfl i _ (vs_at V _ i hi)
      rwa [row_add] at this
theorem vown_of {v : Value} (h : w.ownsRow B T k v n (vs V (n * k))) (hV : ∀ i, i < n * k → (V i).oneCell' = true) (hB : B ≤ w.heap.size) : ∃ p g c, v = .slice p n c ∧ VOwn T k B w p g n c V := by
  have h' := h
  obtain ⟨_, h1⟩ := h
  rcases h1 with ⟨rfl, rfl⟩ | ⟨g', cap, cur, rfl, h2, h3, h4, h5, h6, h7⟩
  · exact ⟨none, 0, 0, rfl, h', .inl rfl, hV, hB⟩
  · exact ⟨_, g', cap, rfl, h', .inr rfl, hV, hB⟩
/-- What another row's growth leaves. -/
theorem VOwn.kept {row : Option Nat} (h : VOwn T k B w p g n c V) (hg : w.grownBy w' row) (hne : p = none ∨ row ≠ some g) : VOwn T k B w' p g n c V := by
  refine ⟨h.own.kept hg ?_, h.spot, h.one, Nat.le_trans h.low hg.size⟩
  rcases hne with rfl | hne
  · exact .inl rfl
  · rcases h.spot with rfl | rfl
    · exact .inl rfl
    · exact .inr (fun e => hne e.symm)
theorem grown_of_below (hb : Below w.heap.size w w') (row : Option Nat) : w.grownBy w' row := ⟨hb.os, hb.tape, hb.output, hb.size, fun k hk _ => hb.block k hk⟩
theorem VOwn.below (h : VOwn T k B w p g n c V) (hb : Below w.heap.size w w') : VOwn T k B w' p g n c V := h.kept (grown_of_below hb none) (.inr (by simp))
theorem VOwn.to (h : VOwn T k B w p g n c V) (e : ∀ i, i < n * k → V i = U i) : VOwn T k B w p g n c U :=
  ⟨by rw [← vs_congr e]; exact h.own, h.spot, fun i hi => by rw [← e i hi]; exact h.one i hi, h.low⟩
theorem VOwn.mono {B' : Nat} (h : VOwn T k B w p g n c V) (hB : B' ≤ B) : VOwn T k B' w p g n c V := by
  refine ⟨?_, h.spot, h.one, Nat.le_trans hB h.low⟩
  obtain ⟨h0, h1⟩ := h.own
  refine ⟨h0, ?_⟩
  rcases h1 with h1 | ⟨g', cap, cur, h1, h2, h3⟩
  · exact Or.inl h1
  · exact Or.inr ⟨g', cap, cur, h1, Nat.le_trans hB h2, h3⟩
theorem vown_nothing (w : World) (T k B : Nat) (V : Nat → Value) (hB : B ≤ w.heap.size) : VOwn T k B w none 0 0 0 V := ⟨by rw [Nat.zero_mul]; exact World.ownsRow_nil w B T k, .inl rfl, fun i hi => absurd hi (by omega), hB⟩
theorem vown_new (w : World) (T k : Nat) (V : Nat → Value) (n : Nat) (hn : n ≤ maxLen) (hV : ∀ i, i < n * k → (V i).oneCell' = true) : VOwn T k w.heap.size (w.alloc (.cells (vs V (n * k)).toArray T)) (some ⟨w.heap.size, 0, none⟩) w.heap.size n n V :=
  ⟨⟨vs_length _ _, .inr ⟨w.heap.size, n, (vs V (n * k)).toArray, rfl, Nat.le_refl _, here_new w _ _, Nat.le_refl _, hn, by rw [List.size_toArray, vs_length], by
    rw [List.take_of_length_le (by simp [vs_length])]⟩⟩, .inr rfl, hV, by simp⟩
/-- Its block's type. -/
theorem VOwn.typed (h : VOwn T k B w p g n c V) : p = none ∨ ∃ cur, w.heap[g]? = some (.cells cur T (0, 0)) ∧ B ≤ g := by
  rcases h.own.2 with ⟨h1, _⟩ | ⟨g', cap, cur, h1, h2, h3, _⟩
  · injection h1 with a1; exact .inl a1
  · injection h1 with a1
    rcases h.spot with q | q
    · exact .inl q
    · rw [q] at a1; injection a1 with a1; injection a1 with a1
      subst a1
      exact .inr ⟨cur, h3, h2⟩
theorem VOwn.under (h : VOwn T k B w p g n c V) {B' : Nat} (hg : w.grownBy w' ((Value.slice p n c).ownBlock)) (hB : B' ≤ B) (hw : B' ≤ w.heap.size) : Below B' w w' :=
  (Below.refl _ _).grown hg hw fun q hq => Nat.le_trans hB (World.ownsRow.lt h.own q hq).1
/-- Blocks of another type are as they were. -/
theorem VOwn.other (h : VOwn T k B w p g n c V) (hg : w.grownBy w' ((Value.slice p n c).ownBlock)) {q : Nat} {cc : Array Value} {T' : TypeId} (hT : T' ≠ T) (hq : w.heap[q]? = some (.cells cc T' (0, 0))) : w'.heap[q]? = some (.cells cc T' (0, 0)) := by
  rw [hg.block q (heap_lt hq) (fun e => ?_)]
  · exact hq
  · rcases h.typed with rfl | ⟨cur, h1, _⟩
    · cases e
    · rcases h.spot with rfl | rfl
      · cases e
      · injection e with e
        have e2 : q = g := e
        rw [e2, h1] at hq
        injection hq with hq
        injection hq with _ hq _
        exact hT hq.symm
end
section
variable {P : Program} {ops : Array Oper} {rest : List Oper} {Q : Exit → Act → World → Prop} {K : Act → World → Prop} {op : Oper} {a : Act} {w : World}
/-- An append to a slice of the call's own. -/
theorem mo_vapp (S T k bytes : Nat) (hS : P.underlying S = some (.slice T)) {z : Value} (hT : (P.info? T).map (fun i => (i.zero, i.size, i.bytes)) = some (some z, k, bytes)) (hz : z.cells.size = k) (hk : 0 < k)
    (s t : Operand) (ho : op.op = .call { callee := .builtin .append, args := #[s, t], argTypes := #[S, S] }) {B g n c : Nat} {p : Option Addr} {V : Nat → Value} (hs : a.eval s = .slice p n c) (N : Hid (VOwn T k B w p g n c V))
    {q : Option Addr} {h o m d : Nat} {U : Nat → Value} (ht : a.eval t = .slice q m d) (R : Hid (VRow k w q h o m d U)) (hlen : n + m ≤ maxLen) (hby : (n + m) * bytes ≤ 140737488355328)
    (kk : ∀ p' g' c' w', Hid (VOwn T k B w' p' g' (n + m) c' (vcat V (n * k) U)) → Hid (w.grownBy w' ((Value.slice p n c).ownBlock)) → K (a.put op.dst (.slice p' (n + m) c')) w') : op.wp P a w K Q := by
  obtain ⟨i0, hi, hz0, hz1, hz2⟩ := info_parts hT
  have one : ∀ i, i < (n + m) * k → (vcat V (n * k) U i).oneCell' = true := fun i hi => by
    unfold vcat
    rw [Nat.add_mul] at hi
    split
    · exact N.out.one i (by assumption)
    · exact R.out.one _ (by omega)
  cases q with
  | none =>
    obtain ⟨rfl, rfl⟩ := R.out.nil rfl
    have hrun := run_append_owned_none (P := P) (w := w) B S op.type T i0 k hS hi _ n _ N.out.own
    refine mo_known (.slice p n c) w ?_ (kk p g c w (Lib.hid (N.out.to (fun i hi => by unfold vcat; rw [if_pos hi]))) (Lib.hid (World.grownBy.refl _ _)))
    simp [execOp, ho, resolve, invoke, builtin, hs, ht, hrun, Result.andThen]
  | some ad =>
    refine wp_append_own (P := P) w s t S ho B T i0 z k bytes hS hi hz0 hz1 hz2 hz hk _ _ _ hs N.out.own ad m d (vs U (m * k)) ht (vs_length _ _) ?_ (vs_one R.out.one) hlen hby N.out.low ?_
    · intro j u hu
      obtain ⟨hj, rfl⟩ := vs_get _ _ _ _ hu
      have hm : 0 < m := by
        rcases Nat.eq_zero_or_pos m with e | e
        · rw [e, Nat.zero_mul] at hj; omega
        · exact e
      obtain rfl := Option.some.inj (R.out.head hm)
      rw [row_add]
      exact R.out.cell j hj
    · intro v' w' hown hgrow hnil
      rw [vs_cat, ← Nat.add_mul] at hown
      obtain ⟨p', g', c', rfl, N'⟩ := vown_of hown one (Nat.le_trans N.out.low hgrow.size)
      exact kk p' g' c' w' (Lib.hid N') (Lib.hid hgrow)
theorem wpList_vapp (S T k bytes : Nat) (hS : P.underlying S = some (.slice T)) {z : Value} (hT : (P.info? T).map (fun i => (i.zero, i.size, i.bytes)) = some (some z, k, bytes)) (hz : z.cells.size = k) (hk : 0 < k)
    (hw : Region.wanted op (yielded ops a.tmps) = true) (s t : Operand) (ho : op.op = .call { callee := .builtin .append, args := #[s, t], argTypes := #[S, S] }) {B g n c : Nat} {p : Option Addr} {V : Nat → Value} (hs : a.eval s = .slice p n c) (N : Hid (VOwn T k B w p g n c V))
    {q : Option Addr} {h o m d : Nat} {U : Nat → Value} (ht : a.eval t = .slice q m d) (R : Hid (VRow k w q h o m d U)) (hlen : n + m ≤ maxLen) (hby : (n + m) * bytes ≤ 140737488355328)
    (kk : ∀ p' g' c' w', Hid (VOwn T k B w' p' g' (n + m) c' (vcat V (n * k) U)) → Hid (w.grownBy w' ((Value.slice p n c).ownBlock)) → wpList P ops Q rest (a.put op.dst (.slice p' (n + m) c')) w') : wpList P ops Q (op :: rest) a w :=
  BigFrame.wpList_want hw fun _ hK => mo_vapp S T k bytes hS hT hz hk s t ho hs N ht R hlen hby fun p' g' c' w' N' hg => hK _ _ (kk p' g' c' w' N' hg)
/-- A new slice with room for m, nothing in it yet. -/
theorem wpList_vmk (S T k bytes : Nat) (hS : P.underlying S = some (.slice T)) {z : Value} (hT : (P.info? T).map (fun i => (i.zero, i.size, i.bytes)) = some (some z, k, bytes))
    (hgd : op.guard = none) (lo co : Operand) (ho : op.op = .makeSlice S lo co) (m : Nat) (C : Int) (hl : a.eval lo = .int .i64 0) (hc : a.eval co = .int .i64 C) (hC : C = ((m : Nat) : Int)) (hm : m ≤ maxLen) (hby : bytes * m ≤ 281474976710656) (V : Nat → Value)
    (kk : ∀ p g w', Hid (VOwn T k w.heap.size w' p g 0 m V) → Hid (Below w.heap.size w w') → wpList P ops Q rest (a.put op.dst (.slice p 0 m)) w') : wpList P ops Q (op :: rest) a w := by
  obtain ⟨i0, hi, hz0, hz1, hz2⟩ := info_parts hT
  refine wpList_make_own (P := P) w hgd lo co S ho w.heap.size T i0 z k hS hi hz0 hz1 .i64 .i64 C m hl hc hC (by rw [hz2]; exact hby) hm (Nat.le_refl _) ?_
  intro w' hown hgrow
  have hb : Below w.heap.size w w' := (Below.refl _ _).grown hgrow (Nat.le_refl _) fun k hk => by cases hk
  exact kk _ _ w' (Lib.hid ⟨by rw [Nat.zero_mul]; exact hown, .inr rfl, fun i hi => absurd hi (by omega), hb.size⟩) (Lib.hid hb)
/-- A slice of written elements. -/
theorem mo_vbs (S T k m : Nat) (parts : Array (Nat × Operand)) (ho : op.op = .buildSlice S m parts) (V : Nat → Value) (hV : ∀ i, i < m * k → (V i).oneCell' = true) (hm : m ≤ maxLen)
    {ps : Array (Nat × Value)} (hp : (parts.map fun (i, y) => (i, a.eval y)) = ps) {cs : Array Value} (hr : ∀ w : World, (Instr.buildSlice S m ps).run P w = .ok (.slice (some ⟨w.heap.size, 0, none⟩) m m) (w.alloc (.cells cs T))) (hcs : cs.toList = vs V (m * k))
    (kk : ∀ p g w', Hid (VOwn T k w.heap.size w' p g m m V) → Hid (Below w.heap.size w w') → K (a.put op.dst (.slice p m m)) w') : op.wp P a w K Q := by
  have e : cs = (vs V (m * k)).toArray := by rw [← hcs]
  subst e
  refine mo_known (.slice (some ⟨w.heap.size, 0, none⟩) m m) (w.alloc (.cells (vs V (m * k)).toArray T)) ?_ (kk _ _ _ (Lib.hid (vown_new w T k V m hm hV)) (Lib.hid (below_new w _)))
  unfold execOp
  simp only [ho, hp, Sem.run_bind, hr w, Result.andThen_ok]
  rfl
theorem wpList_vbs (S T k m : Nat) (hw : Region.wanted op (yielded ops a.tmps) = true) (parts : Array (Nat × Operand)) (ho : op.op = .buildSlice S m parts) (V : Nat → Value) (hV : ∀ i, i < m * k → (V i).oneCell' = true) (hm : m ≤ maxLen)
    {ps : Array (Nat × Value)} (hp : (parts.map fun (i, y) => (i, a.eval y)) = ps) {cs : Array Value} (hr : ∀ w : World, (Instr.buildSlice S m ps).run P w = .ok (.slice (some ⟨w.heap.size, 0, none⟩) m m) (w.alloc (.cells cs T))) (hcs : cs.toList = vs V (m * k))
    (kk : ∀ p g w', Hid (VOwn T k w.heap.size w' p g m m V) → Hid (Below w.heap.size w w') → wpList P ops Q rest (a.put op.dst (.slice p m m)) w') : wpList P ops Q (op :: rest) a w :=
  BigFrame.wpList_want hw fun _ hK => mo_vbs S T k m parts ho V hV hm hp hr hcs fun p g w' N hb => hK _ _ (kk p g w' N hb)
end
end Go.Proofs.Ytoopcmcmjaikhaa

