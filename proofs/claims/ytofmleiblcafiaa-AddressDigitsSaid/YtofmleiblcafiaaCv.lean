/- A text's bytes: in a row of their own, and behind bytes of the call's own. -/
import Derived.Test.YtofmleiblcafiaaTb
import Derived.Test.YtofmleiblcafiaaHm
import Derived.Laws.IdiomStrings
import Derived.Deep.AppendSrc
import Derived.Lib.AppendZeros
set_option linter.unusedSimpArgs false
set_option linter.unusedVariables false
set_option maxRecDepth 100000
namespace Go.Proofs.Ytofmleiblcafiaa
open Go.ChangeShapes Go.WideShapes Go.RowKit Go.Lib

/-- A text's byte. -/
def byt (s : ByteArray) (k : Nat) : Nat := if h : k < s.size then (s[k]'h).toNat else 0
theorem byt_get (s : ByteArray) : ∀ (n : Nat) (h : n < s.size), (s[n]'h).toNat = byt s n := fun n h => by unfold byt; rw [dif_pos h]
theorem byt_lt (s : ByteArray) (k : Nat) : byt s k < 256 := by
  unfold byt; split
  · exact UInt8.toNat_lt _
  · omega
/-- A text's bytes. -/
def bytL (s : ByteArray) : List Nat := tl (byt s) s.size
theorem bytL_length (s : ByteArray) : (bytL s).length = s.size := tl_length _ _
def putC : Array Value → Nat → List Value → Array Value
  | c, _, [] => c
  | c, o, v :: r => putC (c.setIfInBounds o v) (o + 1) r
theorem setCells_mark {g T : Nat} {fz : Nat × Nat} : ∀ (vs : List Value) (o : Nat) (w : World) (cur : Array Value), w.heap[g]? = some (.cells cur T fz) → (w.setCells g o vs).heap[g]? = some (.cells (putC cur o vs) T fz) ∧ Only g w (w.setCells g o vs)
  | [], _, w, _, h => ⟨h, Only.refl _ _⟩
  | v :: r, o, w, cur, h => by
    have h1 : (w.setCell ⟨g, o, none⟩ v).heap[g]? = some (.cells (cur.setIfInBounds o v) T fz) := by
      simp only [World.setCell, Array.getElem?_modify]
      rw [if_pos trivial, h]
      simp
    have h2 := setCells_mark r (o + 1) _ _ h1
    exact ⟨h2.1, ((Only.refl g w).setCell ⟨g, o, none⟩ rfl v).trans h2.2⟩
theorem putC_size : ∀ (vs : List Value) (o : Nat) (cur : Array Value), (putC cur o vs).size = cur.size
  | [], _, _ => rfl
  | v :: r, o, cur => by
    show (putC (cur.setIfInBounds o v) (o + 1) r).size = _
    rw [putC_size r, Array.size_setIfInBounds]
theorem putC_take : ∀ (vs : List Value) (o : Nat) (cur : Array Value), o + vs.length ≤ cur.size → (putC cur o vs).toList.take (o + vs.length) = cur.toList.take o ++ vs
  | [], o, cur, _ => by
    show cur.toList.take (o + 0) = _
    rw [Nat.add_zero, List.append_nil]
  | v :: r, o, cur, h => by
    have hl : (v :: r).length = r.length + 1 := rfl
    have h2 := putC_take r (o + 1) (cur.setIfInBounds o v) (by rw [Array.size_setIfInBounds]; omega)
    show (putC (cur.setIfInBounds o v) (o + 1) r).toList.take _ = _
    rw [hl, show o + (r.length + 1) = o + 1 + r.length by omega, h2, Array.toList_setIfInBounds]
    have hs : o < cur.toList.length := by rw [Array.length_toList]; omega
    rw [List.take_add_one, List.getElem?_set_self hs, List.take_set_of_le (Nat.le_refl o)]
    simp
theorem only_below {w w' : World} {B g : Nat} (h : Only g w w') (hb : B ≤ g) (hl : B ≤ w.heap.size) : Below B w w' := ⟨h.os, h.tape, h.output, h.size, fun k hk => h.block k (by omega) (by omega)⟩
theorem byteCells_fbs (s : ByteArray) : byteCells s = fbs (byt s) s.size := by
  apply List.ext_getElem?
  intro i
  unfold byteCells
  rcases Nat.lt_or_ge i s.size with h | h
  · rw [fbs_at _ _ _ h, List.getElem?_map]
    have hd : s.data.toList[i]? = some (s.data[i]'h) := by rw [Array.getElem?_toList]; exact Array.getElem?_eq_getElem h
    rw [hd, ← byt_get s i h]
    rfl
  · rw [List.getElem?_eq_none (by rw [List.length_map, Array.length_toList]; exact h), List.getElem?_eq_none (by rw [fbs_length]; exact h)]
/-- A slice of bytes in a block of the call's own; behind its end a mark may stand. -/
structure OwnM (B : Nat) (w : World) (p : Option Addr) (g n c : Nat) (x : Nat → Nat) : Prop where
  hd : p = some ⟨g, 0, none⟩
  lo : B ≤ g
  here : ∃ cur fz, w.heap[g]? = some (.cells cur 5 fz) ∧ (fz = (0, 0) ∨ cur.size ≤ fz.1) ∧ cur.size = c ∧ cur.toList.take n = fbs x n
  le : n ≤ c
  cap : c ≤ maxLen
  byte : ∀ i, x i < 256
  low : B ≤ w.heap.size
theorem cell_mark {w : World} {b T : Nat} {fz : Nat × Nat} {c : Array Value} (h : w.heap[b]? = some (.cells c T fz)) (i : Nat) {v : Value} (hv : c[i]? = some v) : w.cell? ⟨b, i, none⟩ = some v := by
  simp [World.cell?, h, hv]
theorem free_mark {w : World} {b T : Nat} {fz : Nat × Nat} {c : Array Value} (h : w.heap[b]? = some (.cells c T fz)) (hz : fz = (0, 0) ∨ c.size ≤ fz.1) {i : Nat} (hi : i < c.size) : w.frozen? ⟨b, i, none⟩ = false := by
  obtain ⟨lo, hi2⟩ := fz
  unfold World.frozen?
  rw [h]
  rcases hz with hz | hz
  · injection hz with a b; subst a b; simp
  · simp at hz ⊢; omega
section
variable {w w' : World} {p : Option Addr} {B g n c : Nat} {x : Nat → Nat}
theorem OwnM.row (N : OwnM B w p g n c x) : Row w p g 0 n c x := by
  obtain ⟨cur, fz, h1, h2, h3, h4⟩ := N.here
  refine ⟨N.le, N.cap, (fun h => by rw [N.hd] at h; cases h), fun _ => N.hd, fun i hi => ?_, N.byte⟩
  refine cell_mark h1 _ ?_
  have h5 : (cur.toList.take n)[i]? = (fbs x n)[i]? := by rw [h4]
  rw [List.getElem?_take_of_lt hi, fbs_at _ _ _ hi, Array.getElem?_toList] at h5
  rw [Nat.zero_add]
  exact h5
theorem OwnM.of (N : Own B w p g n c x) (h0 : 0 < n) : OwnM B w p g n c x := by
  obtain rfl := N.row.head h0
  obtain ⟨hl, h | ⟨g', cap, cur, hv, hb, hg, hn, hc, hs, ht⟩⟩ := N.own
  · cases h.1
  · cases hv
    rw [Nat.mul_one] at hs ht
    exact ⟨rfl, hb, ⟨cur, _, hg, .inl rfl, hs, ht⟩, hn, hc, N.byte, N.low⟩
theorem OwnM.below (N : OwnM B w p g n c x) (hb : Below w.heap.size w w') : OwnM B w' p g n c x := by
  obtain ⟨cur, fz, h1, h2⟩ := N.here
  exact ⟨N.hd, N.lo, ⟨cur, fz, by rw [hb.block g (heap_lt h1)]; exact h1, h2⟩, N.le, N.cap, N.byte, Nat.le_trans N.low hb.size⟩
/-- Bytes behind bytes. -/
theorem OwnM.app (N : OwnM B w p g n c x) {tx : TypeId} {v : Value} {m : Nat} {y : Nat → Nat} (S : Src Try.prog 1 tx v m (fbs y m) w) (hy : ∀ i, y i < 256) (ty : TypeId) (hl : n + m ≤ 140737488355328) :
    ∃ p' g' c' w', (Builtin.append_ #[22, tx] ty #[.slice p n c, v]).run Try.prog w = .ok (.slice p' (n + m) c') w' ∧ OwnM B w' p' g' (n + m) c' (cat x n y) ∧ Below B w w' := by
  obtain ⟨i0, hi, hz0, hz1, hz2⟩ := info_parts infoB
  obtain rfl := N.hd
  obtain ⟨cur, fz, h1, h2, h3, h4⟩ := N.here
  rw [← hz1] at S
  by_cases hr : n + m ≤ c
  · have R := run_append_room_src w 22 tx ty 5 i0 Try.underlying22 hi g 0 n c v m _ S hr (fun j hj => by
      rw [hz1, fbs_length] at *
      have e : 0 + n * 1 + j < cur.size := by omega
      rw [cell_mark h1 _ (Array.getElem?_eq_getElem e)]; rfl) (fun j hj => by
      rw [hz1, fbs_length] at *
      exact free_mark h1 h2 (by omega))
    rw [hz1, Nat.mul_one, Nat.zero_add] at R
    have H := setCells_mark (fbs y m) n w cur h1
    have P := putC_take (fbs y m) n cur (by rw [fbs_length]; omega)
    rw [fbs_length] at P
    have hb2 : Below B w (w.setCells g n (fbs y m)) := only_below H.2 N.lo N.low
    refine ⟨_, g, c, _, R, ⟨rfl, N.lo, ⟨_, fz, H.1, by rw [putC_size]; exact h2, by rw [putC_size]; exact h3, by rw [P, h4, fbs_cat]⟩, hr, N.cap, cat_byte n N.byte hy, Nat.le_trans N.low hb2.size⟩, hb2⟩
  · have hz : i0.bytes = 1 := hz2
    have old : (Builtin.firstCells i0.size n (.slice (some ⟨g, 0, none⟩) n c)).run Try.prog w.drew = .ok (fbs x n).toArray w.drew := by
      rw [hz1]
      exact run_firstCells_some w.drew 1 n ⟨g, 0, none⟩ n c (fbs x n) (by rw [fbs_length, Nat.mul_one]) fun j u hu => by
        obtain ⟨hj, rfl⟩ := fbs_get _ _ _ _ hu
        rw [row_add]
        exact N.row.cell j hj
    have R := run_append_grow_src w 22 tx ty 5 i0 _ Try.underlying22 hi hz0 (some ⟨g, 0, none⟩) n c _ old v m _ S (by omega) (by omega) (growslice_fits (by omega) (by rw [hz]; omega))
    have hge := grownCap_ge w (n + m) c 5
    refine ⟨_, w.heap.size, _, _, R, ⟨rfl, N.low, ⟨_, _, heap_alloc_new w.drew _, .inl rfl, ?_, ?_⟩, hge, grownCap_le_maxLen w (n + m) c 5 (by unfold maxLen; omega), cat_byte n N.byte hy, ?_⟩, ((Below.refl _ _).drew.alloc (Nat.le_refl _) _).mono N.low⟩
    · simp only [Array.size_append, List.size_toArray, List.length_append, fbs_length, size_zeroCells]
      simp [Value.cells]
      omega
    · rw [Array.toList_append, ← fbs_cat]
      exact List.take_left' (by simp [fbs_length])
    · have := (below_new w.drew (.cells ((fbs x n ++ fbs y m).toArray ++ Builtin.zeroCells (Value.int .u8 0).cells (grownCap w (n + m) c 5 - (n + m))) 5)).size
      exact Nat.le_trans N.low this
theorem src_row {w : World} {q : Option Addr} {h o m d : Nat} {y : Nat → Nat} (R : Row w q h o m d y) : Src Try.prog 1 22 (.slice q m d) m (fbs y m) w := by
  cases q with
  | none =>
    obtain ⟨rfl, rfl⟩ := R.nil rfl
    exact Src.ofNil w Try.underlying22 0
  | some a =>
    refine Src.ofSlice w Try.underlying22 a m d (fbs y m) (by rw [fbs_length, Nat.mul_one]) (fun j u hu => ?_) (fbs_one _ _)
    obtain ⟨hj, rfl⟩ := fbs_get _ _ _ _ hu
    obtain rfl := Option.some.inj (R.head (by omega))
    rw [row_add]
    exact R.cell j hj
theorem src_text (w : World) (s : ByteArray) : Src Try.prog 1 9 (.string s) s.size (fbs (byt s) s.size) w := by
  rw [← byteCells_fbs]
  exact Src.ofString w Try.underlying9 s
theorem conv_own (w : World) (s : ByteArray) (hs : s.size ≤ 140737488355328) : ∃ c w', (convert 9 22 (.string s)).run Try.prog w = .ok (.slice (some ⟨w.heap.size, 0, none⟩) s.size c) w' ∧ OwnM w.heap.size w' (some ⟨w.heap.size, 0, none⟩) w.heap.size s.size c (byt s) ∧ Below w.heap.size w w' := by
  have hc := grownCap_ge w s.size 0 5
  have hz : (bytesRow s (grownCap w s.size 0 5)).size = grownCap w s.size 0 5 := by
    unfold bytesRow
    simp only [Array.size_append, Array.size_map, Array.size_replicate]
    have : s.data.size = s.size := rfl
    omega
  refine ⟨_, _, run_bytes_of_string w 9 22 5 s Try.underlying9 Try.underlying22 Try.underlying5, ⟨rfl, Nat.le_refl _, ⟨_, _, heap_alloc_new w.drew _, .inr (Nat.le_refl _), hz, ?_⟩, hc, grownCap_le_maxLen w s.size 0 5 (by unfold maxLen; omega), byt_lt s, ?_⟩, ?_⟩
  · unfold bytesRow
    rw [← byteCells_fbs, Array.toList_append]
    refine List.take_left' ?_ |>.trans ?_
    · rw [Array.toList_map, List.length_map, Array.length_toList]; rfl
    · unfold byteCells; rw [Array.toList_map]
  · exact (below_new w.drew _).size
  · exact ((Below.refl _ _).drew.alloc (Nat.le_refl _) _)
end
section
variable {ops : Array Oper} {rest : List Oper} {Q : Exit → Act → World → Prop} {op : Oper} {a : Act} {w : World} {s : ByteArray}
/-- A text's bytes, in a new row. -/
theorem wpList_cv (hw : Region.wanted op (yielded ops a.tmps) = true) (x : Operand) (ho : op.op = .convert 9 22 x) (hx : a.eval x = .string s) (hs : s.size ≤ 140737488355328)
    (k : ∀ p g c w', Hid (OwnM w.heap.size w' p g s.size c (byt s)) → Hid (Below w.heap.size w w') → wpList Try.prog ops Q rest (a.put op.dst (.slice p s.size c)) w') : wpList Try.prog ops Q (op :: rest) a w := by
  obtain ⟨c, w', hrun, R, hb⟩ := conv_own w s hs
  refine BigFrame.wpList_want hw fun K hK => mo_known _ w' ?_ (hK _ _ (k _ _ c w' (Lib.hid R) (Lib.hid hb)))
  unfold execOp
  simp only [ho, hx, Sem.run_bind, hrun, Result.andThen_ok]
  rfl
/-- Bytes behind bytes. -/
theorem wpList_mapp (hw : Region.wanted op (yielded ops a.tmps) = true) {tx : TypeId} (x y : Operand) (ho : op.op = .call { callee := .builtin .append, args := #[x, y], argTypes := #[22, tx] }) {B g n c : Nat} {p : Option Addr} {f : Nat → Nat} (hx : a.eval x = .slice p n c) (N : Hid (OwnM B w p g n c f))
    {v : Value} {m : Nat} {h : Nat → Nat} (hy : a.eval y = v) (S : Src Try.prog 1 tx v m (fbs h m) w) (hb : ∀ i, h i < 256) (hl : n + m ≤ 140737488355328)
    (k : ∀ p' g' c' w', Hid (OwnM B w' p' g' (n + m) c' (cat f n h)) → Hid (Below B w w') → wpList Try.prog ops Q rest (a.put op.dst (.slice p' (n + m) c')) w') : wpList Try.prog ops Q (op :: rest) a w := by
  obtain ⟨p', g', c', w', R, O, hb⟩ := N.out.app S hb op.type hl
  refine BigFrame.wpList_want hw fun K hK => mo_known _ w' ?_ (hK _ _ (k p' g' c' w' (Lib.hid O) (Lib.hid hb)))
  unfold execOp
  simp only [ho, resolve, invoke, builtin, Sem.run_bind, Sem.run_pure, Result.andThen_ok, List.map_toArray, List.map_cons, List.map_nil, hx, hy, R]
end
/-- A text of some bytes. -/
def strX (x : Nat → Nat) (n : Nat) : ByteArray := strOfNums ((List.range n).map fun i => ((x i : Nat) : Int))
theorem strX_size (x : Nat → Nat) (n : Nat) : (strX x n).size = n := by unfold strX; rw [strOfNums_size]; simp
theorem strX_byt {x : Nat → Nat} (hx : ∀ i, x i < 256) {n i : Nat} (h : i < n) : byt (strX x n) i = x i := by
  have h2 : i < (strX x n).size := by rw [strX_size]; exact h
  unfold byt
  rw [dif_pos h2]
  have e : (strX x n).data.toList[i]? = some (UInt8.ofNat (((x i : Nat) : Int).toNat)) := by
    unfold strX
    rw [strOfNums_data, List.getElem?_map, List.getElem?_map, List.getElem?_range h]
    rfl
  have h3 : i < (strX x n).data.size := h2
  rw [Array.getElem?_toList, Array.getElem?_eq_getElem h3] at e
  injection e with e
  show ((strX x n).data[i]'h2).toNat = x i
  rw [e, Int.toNat_natCast]
  have := hx i
  simp [UInt8.toNat_ofNat]
  omega
theorem ba_ext {a b : ByteArray} (h : a.size = b.size) (e : ∀ i, i < a.size → byt a i = byt b i) : a = b := by
  obtain ⟨a⟩ := a
  obtain ⟨b⟩ := b
  congr 1
  apply Array.ext h
  intro i h1 h2
  have h3 := e i h1
  have h4 := byt_get ⟨a⟩ i h1
  have h5 := byt_get ⟨b⟩ i h2
  rw [← h4, ← h5] at h3
  exact UInt8.toNat_inj.1 h3
theorem strX_eq {x : Nat → Nat} (hx : ∀ i, x i < 256) {n : Nat} {s : ByteArray} (hs : s.size = n) : strX x n = s ↔ ∀ i, i < n → x i = byt s i := by
  constructor
  · rintro rfl i hi
    exact (strX_byt hx hi).symm
  · intro h
    refine ba_ext (by rw [strX_size, hs]) fun i hi => ?_
    rw [strX_size] at hi
    rw [strX_byt hx hi, h i hi]
theorem bas_inj {s t : ByteArray} (h : s.toList = t.toList) : s = t := by
  rw [ByteArray.toList_eq, ByteArray.toList_eq] at h
  exact bytes_inj h
theorem row_strX {w : World} {p : Option Addr} {g o n c : Nat} {x : Nat → Nat} (h : Row w p g o n c x) : (convert 22 9 (.slice p n c)).run Try.prog w = .ok (.string (strX x n)) w := row_string h
theorem tl_cat (f h : Nat → Nat) (n m : Nat) : tl (cat f n h) (n + m) = tl f n ++ tl h m := by
  apply lf_inj
  · simp [tl_length]
  intro i hi
  rw [tl_length] at hi
  rw [lf_tl _ hi, ← lf_cat, tl_length]
  unfold cat
  by_cases h1 : i < n
  · rw [if_pos h1, if_pos h1, lf_tl _ h1]
  · rw [if_neg h1, if_neg h1, lf_tl _ (by omega)]
theorem getsL_var {w : World} {xs : List Nat} {e : Ending} {w' : World} (h : GetsL w xs e w') : ∃ r p g c, e = .returned (.slice p r.length c) ∧ Hid (r = xs) ∧ Own w.heap.size w' p g r.length c (lf r) ∧ Below w.heap.size w w' := by
  obtain ⟨p, g, c, rfl, N, hb⟩ := h
  exact ⟨xs, p, g, c, rfl, Lib.hid rfl, N, hb⟩
end Go.Proofs.Ytofmleiblcafiaa
