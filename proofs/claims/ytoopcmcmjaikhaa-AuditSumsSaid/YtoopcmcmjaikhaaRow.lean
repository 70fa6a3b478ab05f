/- Slices of bytes: what one holds in memory ('Row'), one of the call's own ('Own'), and the walk's laws for slicing and appending. Nothing of the program stands here but the row of its table of types for bytes. -/
import Derived.Test.YtoopcmcmjaikhaaMem
import Derived.Laws.BytesArg
import Derived.Laws.BytesString
import Derived.Laws.AppendOwnNone
import Derived.Laws.CopyOwn
import Derived.Great.BuildSlice
import Derived.Deep.DeepCutAuto
import Derived.Deep.LoopGhost
namespace Go.Proofs.Ytoopcmcmjaikhaa
open Go.RowKit Go.Lib

theorem wpList_build_to {P : Program} {ops : Array Oper} {rest : List Oper} {o : Oper} {a : Act} {w : World} {Q : Exit → Act → World → Prop} (hg : o.guard = none) (t : TypeId) (parts : Array (Nat × Operand)) (ho : o.op = .build t parts)
    (ps : Array (Nat × Value)) (hp : parts.map (fun (i, x) => (i, a.eval x)) = ps) (cells : Array Value) (hc : P.built t ps.toList = some cells) (h : wpList P ops Q rest (a.put o.dst (.agg cells)) w) : wpList P ops Q (o :: rest) a w := by
  refine wpList_build hg t parts ho ?_ ?_
  · rw [hp, hc]; rfl
  · rw [hp, hc]; exact h
/-- Bytes as cells. -/
def bv (x : Nat → Nat) : Nat → Value := fun i => .int .u8 ((x i : Nat) : Int)
theorem bv_one (x : Nat → Nat) (n : Nat) : (arr n (bv x)).all (·.oneCell') = true := Array.all_eq_true_iff_forall_mem.2 fun v hv => by
  unfold arr at hv
  simp at hv
  obtain ⟨i, _, rfl⟩ := hv
  rfl
theorem res_row_tmp {P : Program} {fn : Func} {p u : Tmp} {ty : TypeId} (h : fn.results = #[.cell p ty, .tmp u]) (tmps : Array Value) (w : World) (g n : Nat) (T : TypeId) (f : Nat → Value) (d : TypeDesc)
    (hp : tmps.getD p undef = .pointer (some ⟨g, 0, none⟩)) (hg : w.heap[g]? = some (.cells (arr n f) T (0, 0))) (hu : P.underlying ty = some d) (hd : (match d with | .struct _ | .array _ _ => true | _ => false) = true) (hi : (P.info? ty).map (·.size) = some n) :
    (results fn tmps).run P w = .ok (.tuple #[.agg (arr n f), tmps.getD u undef]) w := by
  have hp' : tmps[p]?.getD undef = .pointer (some ⟨g, 0, none⟩) := by simpa using hp
  have e := run_loadVar_row (P := P) w g T ty (arr n f) (0, 0) d hg hu hd (by rw [arr_size]; exact hi)
  simp [results, h, hp', asAddr, e]
theorem res_row_tmp_tmp {P : Program} {fn : Func} {p u v : Tmp} {ty : TypeId} (h : fn.results = #[.cell p ty, .tmp u, .tmp v]) (tmps : Array Value) (w : World) (g n : Nat) (T : TypeId) (f : Nat → Value) (d : TypeDesc)
    (hp : tmps.getD p undef = .pointer (some ⟨g, 0, none⟩)) (hg : w.heap[g]? = some (.cells (arr n f) T (0, 0))) (hu : P.underlying ty = some d) (hd : (match d with | .struct _ | .array _ _ => true | _ => false) = true) (hi : (P.info? ty).map (·.size) = some n) :
    (results fn tmps).run P w = .ok (.tuple #[.agg (arr n f), tmps.getD u undef, tmps.getD v undef]) w := by
  have hp' : tmps[p]?.getD undef = .pointer (some ⟨g, 0, none⟩) := by simpa using hp
  have e := run_loadVar_row (P := P) w g T ty (arr n f) (0, 0) d hg hu hd (by rw [arr_size]; exact hi)
  simp [results, h, hp', asAddr, e]
theorem res3 {P : Program} {fn : Func} {a b c : Tmp} (h : fn.results = #[.tmp a, .tmp b, .tmp c]) (tmps : Array Value) (w : World) :
    (results fn tmps).run P w = .ok (.tuple #[tmps.getD a undef, tmps.getD b undef, tmps.getD c undef]) w := by simp [results, h]
/-- n bytes as cells. -/
def fbs (x : Nat → Nat) (n : Nat) : List Value := (List.range n).map fun i => .int .u8 ((x i : Nat) : Int)
theorem fbs_length (x : Nat → Nat) (n : Nat) : (fbs x n).length = n := by simp [fbs]
theorem fbs_get (x : Nat → Nat) (n j : Nat) (v : Value) (h : (fbs x n)[j]? = some v) : j < n ∧ v = .int .u8 ((x j : Nat) : Int) := by
  unfold fbs at h
  rw [List.getElem?_map] at h
  rcases Nat.lt_or_ge j n with q | q
  · rw [List.getElem?_range q] at h
    exact ⟨q, by simpa using h.symm⟩
  · rw [List.getElem?_eq_none (by simpa using q)] at h
    cases h
theorem fbs_at (x : Nat → Nat) (n j : Nat) (h : j < n) : (fbs x n)[j]? = some (.int .u8 ((x j : Nat) : Int)) := by
  unfold fbs
  rw [List.getElem?_map, List.getElem?_range h]
  rfl
theorem fbs_one (x : Nat → Nat) (n : Nat) : ∀ u ∈ fbs x n, u.oneCell' = true := fun u hu => by
  unfold fbs at hu
  obtain ⟨i, _, rfl⟩ := List.mem_map.1 hu
  rfl
theorem fbs_congr {x y : Nat → Nat} {n : Nat} (h : ∀ i, i < n → x i = y i) : fbs x n = fbs y n :=
  List.map_congr_left fun i hi => by rw [h i (by simpa using hi)]
/-- x's first n, then y. -/
def cat (x : Nat → Nat) (n : Nat) (y : Nat → Nat) : Nat → Nat := fun i => if i < n then x i else y (i - n)
theorem fbs_cat (x y : Nat → Nat) (n m : Nat) : fbs x n ++ fbs y m = fbs (cat x n y) (n + m) := by
  apply List.ext_getElem?
  intro j
  rcases Nat.lt_or_ge j n with h | h
  · rw [List.getElem?_append_left (by rw [fbs_length]; exact h), fbs_at _ _ _ h, fbs_at _ _ _ (by omega)]
    unfold cat; rw [if_pos h]
  · rw [List.getElem?_append_right (by rw [fbs_length]; exact h), fbs_length]
    rcases Nat.lt_or_ge j (n + m) with h2 | h2
    · rw [fbs_at _ _ _ (by omega), fbs_at _ _ _ h2]
      unfold cat; rw [if_neg (by omega)]
    · rw [List.getElem?_eq_none (by rw [fbs_length]; omega), List.getElem?_eq_none (by rw [fbs_length]; omega)]
theorem cat_byte {x y : Nat → Nat} (n : Nat) (hx : ∀ i, x i < 256) (hy : ∀ i, y i < 256) (i : Nat) : cat x n y i < 256 := by
  unfold cat; split
  · exact hx i
  · exact hy _

/-- A slice of n bytes x, of room c, reads so in w: nothing is asked of an address where there is no byte. -/
structure Row (w : World) (p : Option Addr) (g o n c : Nat) (x : Nat → Nat) : Prop where
  le : n ≤ c
  cap : c ≤ maxLen
  nil : p = none → n = 0 ∧ c = 0
  head : 0 < n → p = some ⟨g, o, none⟩
  cell : ∀ i, i < n → w.cell? ⟨g, o + i, none⟩ = some (.int .u8 ((x i : Nat) : Int))
  byte : ∀ i, x i < 256
theorem row_add (g o j : Nat) : (⟨g, o, none⟩ : Addr).add j = ⟨g, o + j, none⟩ := by
  unfold Addr.add
  split
  · rename_i hz; subst hz; rfl
  · rfl
section
variable {w w' w0 : World} {p : Option Addr} {g o n c : Nat} {x y : Nat → Nat}
theorem Row.below (h : Row w p g o n c x) (hb : Below w.heap.size w w') : Row w' p g o n c x :=
  ⟨h.le, h.cap, h.nil, h.head, fun i hi => by rw [hb.cell (cell_lt (h.cell i hi))]; exact h.cell i hi, h.byte⟩
theorem Row.to (h : Row w p g o n c x) (e : ∀ i, i < n → x i = y i) (hy : ∀ i, y i < 256) : Row w p g o n c y :=
  ⟨h.le, h.cap, h.nil, h.head, fun i hi => by rw [← e i hi]; exact h.cell i hi, hy⟩
theorem Row.nothing (w : World) (x : Nat → Nat) (hx : ∀ i, x i < 256) : Row w none 0 0 0 0 x :=
  ⟨Nat.le_refl _, by unfold maxLen; omega, fun _ => ⟨rfl, rfl⟩, fun h => absurd h (by omega), fun i hi => absurd hi (by omega), hx⟩
theorem Row.slice (R : Row w p g o n c x) {l h m : Nat} (h1 : l ≤ h) (h2 : h ≤ n) (h3 : h ≤ m) (h4 : m ≤ c) :
    ∃ p', sliced p l h m 1 = .slice p' (h - l) (m - l) ∧ Row w p' g (o + l) (h - l) (m - l) (fun i => x (l + i)) := by
  refine ⟨_, rfl, by omega, by have := R.cap; omega, ?_, ?_, fun i hi => ?_, fun i => R.byte _⟩
  · intro hn
    by_cases e : m = l
    · omega
    · rw [if_neg e] at hn
      cases p with
      | none => have := (R.nil rfl).2; omega
      | some a => cases hn
  · intro hp
    rw [if_neg (by omega), R.head (by omega), Nat.mul_one]
    show some ((⟨g, o, none⟩ : Addr).add l) = _
    rw [row_add]
  · rw [show o + l + i = o + (l + i) from by omega]
    exact R.cell (l + i) (by omega)
end

/-- A slice of bytes in a block of the call's own: its first n are x. -/
structure Own (B : Nat) (w : World) (p : Option Addr) (g n c : Nat) (x : Nat → Nat) : Prop where
  own : w.ownsRow B 5 1 (.slice p n c) n (fbs x n)
  spot : p = none ∨ p = some ⟨g, 0, none⟩
  byte : ∀ i, x i < 256
  low : B ≤ w.heap.size
section
variable {w w' w0 : World} {p : Option Addr} {B g n c : Nat} {x y : Nat → Nat}
theorem Own.row (h : Own B w p g n c x) : Row w p g 0 n c x := by
  have h0 := h.own
  obtain ⟨_, h1⟩ := h.own
  rcases h1 with ⟨h1, h2⟩ | ⟨g', cap, cur, h1, h2, h3, h4, h5, h6, h7⟩
  · injection h1 with a1 a2 a3
    subst a1 h2 a3
    exact ⟨Nat.le_refl _, by unfold maxLen; omega, fun _ => ⟨rfl, rfl⟩, fun h => absurd h (by omega), fun i hi => absurd hi (by omega), h.byte⟩
  · injection h1 with a1 a2 a3
    subst a1 a3
    rcases h.spot with q | q
    · cases q
    · injection q with q
      injection q with q1
      subst q1
      refine ⟨h4, h5, fun h => (by cases h), fun _ => rfl, fun i hi => ?_, h.byte⟩
      have := World.ownsRow.cells h0 (g := g') rfl i _ (fbs_at x n i hi)
      rwa [row_add] at this
theorem own_of {v : Value} (h : w.ownsRow B 5 1 v n (fbs x n)) (hx : ∀ i, x i < 256) (hB : B ≤ w.heap.size) : ∃ p g c, v = .slice p n c ∧ Own B w p g n c x := by
  have h' := h
  obtain ⟨_, h1⟩ := h
  rcases h1 with ⟨rfl, rfl⟩ | ⟨g', cap, cur, rfl, h2, h3, h4, h5, h6, h7⟩
  · exact ⟨none, 0, 0, rfl, h', .inl rfl, hx, hB⟩
  · exact ⟨_, g', cap, rfl, h', .inr rfl, hx, hB⟩
theorem Own.part {B' : Nat} (h : Own B w p g n c x) (hb : Below B' w w') (hB : ∀ k, k < w.heap.size → B ≤ k → k = g → k < B') : Own B w' p g n c x := by
  refine ⟨?_, h.spot, h.byte, Nat.le_trans h.low hb.size⟩
  obtain ⟨h0, h1⟩ := h.own
  refine ⟨h0, ?_⟩
  rcases h1 with h1 | ⟨g', cap, cur, h1, h2, h3, h4⟩
  · exact Or.inl h1
  · refine Or.inr ⟨g', cap, cur, h1, h2, ?_, h4⟩
    injection h1 with a1
    have hg : g' = g := by
      rcases h.spot with q | q
      · rw [q] at a1; cases a1
      · rw [q] at a1; injection a1 with a1; injection a1 with a1; exact a1.symm
    rw [hb.block g' (hB g' (heap_lt h3) h2 hg)]
    exact h3
theorem Own.below (h : Own B w p g n c x) (hb : Below w.heap.size w w') : Own B w' p g n c x := h.part hb fun _ hk _ _ => hk
theorem Own.to (h : Own B w p g n c x) (e : ∀ i, i < n → x i = y i) (hy : ∀ i, y i < 256) : Own B w p g n c y :=
  ⟨by rw [← fbs_congr e]; exact h.own, h.spot, hy, h.low⟩
theorem Own.mono {B' : Nat} (h : Own B w p g n c x) (hB : B' ≤ B) : Own B' w p g n c x := by
  refine ⟨?_, h.spot, h.byte, Nat.le_trans hB h.low⟩
  obtain ⟨h0, h1⟩ := h.own
  refine ⟨h0, ?_⟩
  rcases h1 with h1 | ⟨g', cap, cur, h1, h2, h3⟩
  · exact Or.inl h1
  · exact Or.inr ⟨g', cap, cur, h1, Nat.le_trans hB h2, h3⟩
theorem own_nothing (w : World) (B : Nat) (x : Nat → Nat) (hx : ∀ i, x i < 256) (hB : B ≤ w.heap.size) : Own B w none 0 0 0 x := ⟨World.ownsRow_nil w B 5 1, .inl rfl, hx, hB⟩
theorem own_new (w : World) (x : Nat → Nat) (n : Nat) (hn : n ≤ maxLen) (hx : ∀ i, x i < 256) : Own w.heap.size (w.alloc (.cells (fbs x n).toArray 5)) (some ⟨w.heap.size, 0, none⟩) w.heap.size n n x :=
  ⟨⟨by rw [fbs_length, Nat.mul_one], .inr ⟨w.heap.size, n, (fbs x n).toArray, rfl, Nat.le_refl _, here_new w _ _, Nat.le_refl _, hn, by rw [List.size_toArray, fbs_length, Nat.mul_one], by
    rw [List.take_of_length_le (by simp [fbs_length])]⟩⟩, .inr rfl, hx, by simp⟩
theorem Mem.part {l : List (Nat × TypeId × Array Value)} {B : Nat} (E : Mem w0 l w) (hb : Below B w w') (h0 : w0.heap.size ≤ B) (hl : ∀ p, p ∈ l → p.1 < B) : Mem w0 l w' :=
  ⟨E.below.trans (hb.mono h0), fun p hp => (hb.block p.1 (hl p hp)).trans (E.has p hp), E.nd, E.ge⟩
theorem Mem.lt {l : List (Nat × TypeId × Array Value)} (E : Mem w0 l w) : ∀ p, p ∈ l → p.1 < w.heap.size := fun p hp => heap_lt (E.has p hp)
end

/-- What a call that makes a slice leaves. -/
def Gets (w : World) (n : Nat) (x : Nat → Nat) (e : Ending) (w' : World) : Prop := ∃ p g c, e = .returned (.slice p n c) ∧ Own w.heap.size w' p g n c x ∧ Below w.heap.size w w'

theorem infoB : (Try.prog.info? 5).map (fun i => (i.zero, i.size, i.bytes)) = some (some (.int .u8 0), 1, 1) := by kernel_rfl

section
variable {ops : Array Oper} {rest : List Oper} {Q : Exit → Act → World → Prop} {op : Oper} {a : Act} {w : World}
/-- An append to a slice of the call's own. -/
theorem wpList_app (hgd : op.guard = none ∨ Region.wanted op (yielded ops a.tmps) = true) (s t : Operand) (ho : op.op = .call { callee := .builtin .append, args := #[s, t], argTypes := #[31, 31] }) {B g n c : Nat} {p : Option Addr} {x : Nat → Nat} (hs : a.eval s = .slice p n c) (N : Hid (Own B w p g n c x))
    {q : Option Addr} {h o m d : Nat} {y : Nat → Nat} (ht : a.eval t = .slice q m d) (R : Hid (Row w q h o m d y)) (hlen : n + m ≤ 140737488355328)
    (k : ∀ p' g' c' w', Hid (Own B w' p' g' (n + m) c' (cat x n y)) → Hid (Below B w w') → wpList Try.prog ops Q rest (a.put op.dst (.slice p' (n + m) c')) w') : wpList Try.prog ops Q (op :: rest) a w := by
  have hw : Region.wanted op (yielded ops a.tmps) = true := by
    rcases hgd with h | h
    · simp [Region.wanted, h]
    · exact h
  refine BigFrame.wpList_want hw fun K hK => ?_
  obtain ⟨i0, hi, hz0, hz1, hz2⟩ := info_parts infoB
  cases q with
  | none =>
    obtain ⟨rfl, rfl⟩ := R.out.nil rfl
    have hrun := run_append_owned_none (P := Try.prog) (w := w) B 31 op.type 5 i0 1 Try.underlying31 hi _ n _ N.out.own
    refine mo_known (.slice p n c) w ?_ (hK _ _ (k p g c w (Lib.hid (N.out.to (fun i hi => by unfold cat; rw [if_pos hi]) (cat_byte n N.out.byte R.out.byte))) (Lib.hid (Below.refl _ _))))
    simp [execOp, ho, resolve, invoke, builtin, hs, ht, hrun, Result.andThen]
  | some ad =>
    refine wp_append_own (P := Try.prog) w s t 31 ho B 5 i0 (.int .u8 0) 1 1 Try.underlying31 hi hz0 hz1 hz2 rfl (by decide) _ _ _ hs N.out.own ad m d (fbs y m) ht (by rw [fbs_length]; omega) ?_ (fbs_one y m) (by unfold maxLen; omega) (by omega) N.out.low ?_
    · intro j u hu
      obtain ⟨hj, rfl⟩ := fbs_get _ _ _ _ hu
      obtain rfl := Option.some.inj (R.out.head (by omega))
      rw [row_add]
      exact R.out.cell j hj
    · intro v' w' hown hgrow hnil
      rw [fbs_cat] at hown
      have hb : Below B w w' := (Below.refl _ _).grown hgrow N.out.low fun k hk => (World.ownsRow.lt N.out.own k hk).1
      obtain ⟨p', g', c', rfl, N'⟩ := own_of hown (cat_byte n N.out.byte R.out.byte) (Nat.le_trans N.out.low hb.size)
      exact hK _ _ (k p' g' c' w' (Lib.hid N') (Lib.hid hb))
/-- A slice of a slice: all three bounds. -/
theorem run_sl {p : Option Addr} {n c : Nat} {lo hi mx : Option Value} {l h m : Nat} (hb : (Instr.sliceBounds true n c lo hi mx).run Try.prog w = .ok (l, h, m) w) :
    (Instr.sliceAt 31 (.slice p n c) lo hi mx).run Try.prog w = .ok (sliced p l h m 1) w := by
  have he : Try.prog.elem 31 = 5 := by kernel_rfl
  have ht : Try.prog.underlying 31 = some (.slice (Try.prog.elem 31)) := by rw [he]; exact Try.underlying31
  have hsz : (sizeOf 5).run Try.prog w = .ok 1 w := by kernel_rfl
  rw [run_sliceAt_slice w 31 _ _ _ _ ht, run_slice_any w 31 p n c ht, hb]
  simp only [Result.andThen_ok, he, hsz]
theorem bounds_lhm {n c l h m : Nat} (h1 : l ≤ h) (h2 : h ≤ m) (h3 : m ≤ c) : (Instr.sliceBounds true n c (some (.int .i64 (l : Int))) (some (.int .i64 (h : Int))) (some (.int .i64 (m : Int)))).run Try.prog w = .ok (l, h, m) w := by
  simp [Instr.sliceBounds, run_sliceBound, h1, h2, h3]
theorem bounds_hm {n c h m : Nat} (h2 : h ≤ m) (h3 : m ≤ c) : (Instr.sliceBounds true n c none (some (.int .i64 (h : Int))) (some (.int .i64 (m : Int)))).run Try.prog w = .ok (0, h, m) w := by
  simp [Instr.sliceBounds, run_sliceBound, h2, h3]
theorem bounds_lh {n c l h : Nat} (h1 : l ≤ h) (h2 : h ≤ c) : (Instr.sliceBounds true n c (some (.int .i64 (l : Int))) (some (.int .i64 (h : Int))) none).run Try.prog w = .ok (l, h, c) w := by
  simp [Instr.sliceBounds, run_sliceBound, h1, h2]
theorem bounds_h {n c h : Nat} (h2 : h ≤ c) : (Instr.sliceBounds true n c none (some (.int .i64 (h : Int))) none).run Try.prog w = .ok (0, h, c) w := by
  simp [Instr.sliceBounds, run_sliceBound, h2]
theorem bounds_l {n c l : Nat} (h1 : l ≤ n) : (Instr.sliceBounds true n c (some (.int .i64 (l : Int))) none none).run Try.prog w = .ok (l, n, c) w := by
  simp [Instr.sliceBounds, run_sliceBound, h1]
end
end Go.Proofs.Ytoopcmcmjaikhaa

