/- A hasher's cells, and what they say of the bytes so far; small laws for its walks. -/
import Derived.Test.YtoopcmcmjaikhaaDoorSRefSum
import Derived.Test.YtoopcmcmjaikhaaDoorSShaMix
import Derived.Laws.CopyOwn
set_option maxRecDepth 100000
namespace Go.Proofs.YtoopcmcmjaikhaaDoor.S
open Go.RowKit Go.Lib

/-! ### A block's words hang on its 64 bytes alone -/
theorem be32_congr {x y : Nat → Int} (h : ∀ i, i < 64 → x i = y i) (k : Nat) (hk : k < 16) : be32 x k = be32 y k := by
  unfold be32
  rw [h (4 * k) (by omega), h (4 * k + 1) (by omega), h (4 * k + 2) (by omega), h (4 * k + 3) (by omega)]
theorem W_congr {x y : Nat → Int} (h : ∀ i, i < 64 → x i = y i) : ∀ k, W x k = W y k := by
  intro k
  induction k using Nat.strongRecOn with
  | _ k ih =>
    rcases Nat.lt_or_ge k 16 with q | q
    · rw [W_low x k q, W_low y k q, be32_congr h k q]
    · rw [W_high x k q, W_high y k q, ih (k - 16) (by omega), ih (k - 15) (by omega), ih (k - 7) (by omega), ih (k - 2) (by omega)]
theorem rnds_congr {x y : Nat → Int} (h : ∀ i, i < 64 → x i = y i) (s : R8) : ∀ n, rnds x s n = rnds y s n
  | 0 => rfl
  | n + 1 => by rw [rnds, rnds, rnds_congr h s n, W_congr h n]
theorem compress_congr {x y : Nat → Int} (h : ∀ i, i < 64 → x i = y i) (s : R8) : compress s x = compress s y := by rw [compress, compress, rnds_congr h s 64]
theorem mst_congr {x y : Nat → Int} : ∀ j, (∀ i, i < 64 * j → x i = y i) → mst x j = mst y j
  | 0, _ => rfl
  | j + 1, h => by
    rw [mst, mst, mst_congr j (fun i hi => h i (by omega)), compress_congr (fun i hi => h (64 * j + i) (by omega))]

/-! ### The hasher -/
/-- Bytes behind m others. -/
def cat (x : Nat → Int) (m : Nat) (y : Nat → Int) (i : Nat) : Int := if i < m then x i else y (i - m)
theorem cat_low (x y : Nat → Int) (m i : Nat) (h : i < m) : cat x m y i = x i := by unfold cat; rw [if_pos h]
theorem cat_high (x y : Nat → Int) (m i : Nat) : cat x m y (m + i) = y i := by
  unfold cat; rw [if_neg (by omega)]; congr 1; omega
theorem cat_range {x y : Nat → Int} (hx : ∀ i, 0 ≤ x i ∧ x i ≤ 255) (hy : ∀ i, 0 ≤ y i ∧ y i ≤ 255) (m i : Nat) : 0 ≤ cat x m y i ∧ cat x m y i ≤ 255 := by
  unfold cat
  split
  · exact hx i
  · exact hy _
/-- The cells of a hasher: made, eight words, 64 bytes, the count. -/
def hf (s : R8) (r : Nat → Int) (cnt : Int) : Nat → Value := fun i => if i = 0 then .bool true else if i ≤ 8 then rv s (i - 1) else if i ≤ 72 then .int .u8 (r (i - 9)) else .int .u64 cnt
theorem hf_made (s : R8) (r : Nat → Int) (cnt : Int) : hf s r cnt 0 = .bool true := rfl
theorem hf_word (s : R8) (r : Nat → Int) (cnt : Int) (i : Nat) (h : i < 8) : hf s r cnt (i + 1) = rv s i := by
  unfold hf; rw [if_neg (by omega), if_pos (by omega)]; rfl
theorem hf_rest (s : R8) (r : Nat → Int) (cnt : Int) (i : Nat) (h : i < 64) : hf s r cnt (9 + i) = .int .u8 (r i) := by
  unfold hf; rw [if_neg (by omega), if_neg (by omega), if_pos (by omega)]
  congr 2; omega
theorem hf_count (s : R8) (r : Nat → Int) (cnt : Int) : hf s r cnt 73 = .int .u64 cnt := rfl
theorem hf_put (s s' : R8) (r : Nat → Int) (cnt : Int) (i : Nat) : putWords (hf s r cnt) s' i = hf s' r cnt i := by
  unfold putWords hf
  by_cases h0 : i = 0
  · rw [if_neg (by omega), if_pos h0, if_pos h0]
  · rw [if_neg h0, if_neg h0]
    by_cases h8 : i ≤ 8
    · rw [if_pos (by omega), if_pos h8]
    · rw [if_neg (by omega), if_neg h8, if_neg h8]
theorem hf_set_count (s : R8) (r : Nat → Int) (c c' : Int) (i : Nat) (hi : i < 74) : upd (hf s r c) 73 (.int .u64 c') i = hf s r c' i := by
  unfold upd hf
  by_cases h : i = 73
  · subst h; rfl
  · rw [if_neg h]
    by_cases h0 : i = 0
    · rw [if_pos h0, if_pos h0]
    · rw [if_neg h0, if_neg h0]
      by_cases h8 : i ≤ 8
      · rw [if_pos h8, if_pos h8]
      · rw [if_neg h8, if_neg h8, if_pos (by omega), if_pos (by omega)]
/-- Block b is a hasher of the m bytes x. -/
def Hashed (b : Nat) (x : Nat → Int) (m : Nat) (w : World) : Prop :=
  ∃ r : Nat → Int, HasAt b 176 74 (hf (mst x (m / 64)) r m) w ∧ (∀ i, i < m % 64 → r i = x (64 * (m / 64) + i)) ∧ ∀ i, 0 ≤ r i ∧ r i ≤ 255
/-- Bytes copied over others. -/
def over (r : Nat → Int) (h k : Nat) (y : Nat → Int) (i : Nat) : Int := if h ≤ i ∧ i < h + k then y (i - h) else r i
theorem over_range {r y : Nat → Int} (hr : ∀ i, 0 ≤ r i ∧ r i ≤ 255) (hy : ∀ i, 0 ≤ y i ∧ y i ≤ 255) (h k i : Nat) : 0 ≤ over r h k y i ∧ over r h k y i ≤ 255 := by
  unfold over
  split
  · exact hy _
  · exact hr i
theorem splice_get {α : Type} (L cs : List α) (off j : Nat) (h : off + cs.length ≤ L.length) : (splice L off cs)[j]? = if off ≤ j ∧ j < off + cs.length then cs[j - off]? else L[j]? := by
  unfold splice
  rcases Nat.lt_or_ge j off with q | q
  · rw [if_neg (by omega), List.getElem?_append_left (by simp; omega), List.getElem?_take, if_pos q]
  · rw [List.getElem?_append_right (by simp; omega)]
    have e : (L.take off).length = off := by simp; omega
    rw [e]
    rcases Nat.lt_or_ge j (off + cs.length) with q2 | q2
    · rw [if_pos ⟨q, q2⟩, List.getElem?_append_left (by omega)]
    · rw [if_neg (by omega), List.getElem?_append_right (by omega), List.getElem?_drop]
      congr 1; omega
theorem hf_splice (s : R8) (r : Nat → Int) (cnt : Int) (h k : Nat) (y : Nat → Int) (hk : h + k ≤ 64) :
    (splice (arr 74 (hf s r cnt)).toList (9 + h) (firstBytes y k)).toArray = arr 74 (hf s (over r h k y) cnt) := by
  have hl : (arr 74 (hf s r cnt)).toList.length = 74 := by rw [Array.length_toList, arr_size]
  have hfit : 9 + h + (firstBytes y k).length ≤ (arr 74 (hf s r cnt)).toList.length := by rw [hl, firstBytes_length]; omega
  refine arr_of ?_ ?_
  · rw [List.size_toArray, length_splice _ _ _ hfit, hl]
  · intro i hi
    rw [List.getElem?_toArray, splice_get _ _ _ _ hfit, firstBytes_length]
    by_cases hin : 9 + h ≤ i ∧ i < 9 + h + k
    · rw [if_pos hin]
      unfold firstBytes
      rw [List.getElem?_map, List.getElem?_range (by omega)]
      unfold hf over
      rw [if_neg (by omega), if_neg (by omega), if_pos (by omega), if_pos (by omega)]
      simp only [Option.map_some]
      congr 3
      omega
    · rw [if_neg hin, Array.getElem?_toList, arr_get 74 _ i hi]
      unfold hf over
      by_cases h0 : i = 0
      · rw [if_pos h0, if_pos h0]
      · rw [if_neg h0, if_neg h0]
        by_cases h8 : i ≤ 8
        · rw [if_pos h8, if_pos h8]
        · rw [if_neg h8, if_neg h8]
          by_cases h72 : i ≤ 72
          · rw [if_pos h72, if_pos h72, if_neg (by omega)]
          · rw [if_neg h72, if_neg h72]

/-! ### A load of many cells among operations that only read -/
section
variable {P : Program} {ops : Array Oper} {w : World} {Q : Act → Prop} {a : Act} {o : Oper} {rest : List Oper}
theorem wpStill_load_mid (hgd : o.guard = none) (ty : TypeId) (x : Operand) (ho : o.op = .load ty x) (b off : Nat) (hx : a.eval x = .pointer (some ⟨b, off, none⟩)) (cs : List Value) (d : TypeDesc) (hc : w.rangeAt b off cs)
    (hu : P.underlying ty = some d) (hd : d.isRow = true) (hi : (P.info? ty).map (·.size) = some cs.length) (h : wpStill P ops w Q rest (a.put o.dst (.agg cs.toArray))) : wpStill P ops w Q (o :: rest) a := by
  refine wpStill_step (fun K hK => ?_)
  have hw : Region.wanted o (yielded ops a.tmps) = true := by simp [Region.wanted, hgd]
  rw [if_pos hw]
  unfold Oper.still execOp
  simp only [ho, hx, Instr.loadAt, Instr.sureAddr, Sem.run_bind, Sem.run_pure, Result.andThen_ok, run_loadVar_mid w b off ty cs d hc hu hd hi]
  exact ⟨rfl, hK _ h⟩
end
theorem rest_range {b : Nat} {s : R8} {r : Nat → Int} {cnt : Int} {w : World} (h : HasAt b 176 74 (hf s r cnt) w) : w.rangeAt b 9 (arr 64 (bys r)).toList := fun j v hj => by
  have hj64 : j < 64 := by
    have := (List.getElem?_eq_some_iff.1 hj).1
    rw [Array.length_toList, arr_size] at this
    exact this
  rw [Array.getElem?_toList, arr_get 64 _ j hj64] at hj
  obtain rfl := Option.some.inj hj
  have h1 := h.cell (9 + j) (by omega)
  rw [hf_rest s r cnt j hj64] at h1
  exact h1
theorem run_arrayAt41 (a : Addr) (n c : Nat) (h : 64 ≤ n) (w : World) : (Instr.arrayAt 174 (.slice (some a) n c)).run Tryd.prog w = .ok (.pointer (some a)) w := by
  have hu : Tryd.prog.underlying 174 = some (.array 64 5) := Tryd.underlying174
  simp [Instr.arrayAt, run_underlying hu]
  omega
theorem run_from41 (b o h k : Nat) (hk : h + k = 64) (hp : 0 < k) (w : World) : (Instr.sliceAt 174 (.pointer (some ⟨b, o, none⟩)) (some (.int .i64 (h : Int))) none none).run Tryd.prog w = .ok (.slice (some ⟨b, o + h, none⟩) k k) w := by
  have hl : Tryd.prog.arrayLen 174 = 64 := by kernel_rfl
  have he : Tryd.prog.elem 174 = 5 := by kernel_rfl
  have ht : Tryd.prog.underlying 174 = some (.array (Tryd.prog.arrayLen 174) (Tryd.prog.elem 174)) := by rw [hl, he]; exact Tryd.underlying174
  have hs : ∀ w, (Go.sizeOf 5).run Tryd.prog w = .ok 1 w := fun w => by kernel_rfl
  rw [run_sliceAt_array_l w 174 ⟨b, o, none⟩ ht .i64 h (by omega) (by rw [hl]; omega), he, hs, hl]
  simp only [Result.andThen_ok, slicedAt, Int.toNat_natCast]
  rw [if_neg (by omega), Nat.mul_one, add_at]
  have e : 64 - h = k := by omega
  rw [e]
theorem run_all41 (b o : Nat) (w : World) : (Instr.sliceAt 174 (.pointer (some ⟨b, o, none⟩)) none none none).run Tryd.prog w = .ok (.slice (some ⟨b, o, none⟩) 64 64) w := by
  have hl : Tryd.prog.arrayLen 174 = 64 := by kernel_rfl
  have he : Tryd.prog.elem 174 = 5 := by kernel_rfl
  have ht : Tryd.prog.underlying 174 = some (.array (Tryd.prog.arrayLen 174) (Tryd.prog.elem 174)) := by rw [hl, he]; exact Tryd.underlying174
  have hs : ∀ w, (Go.sizeOf 5).run Tryd.prog w = .ok 1 w := fun w => by kernel_rfl
  rw [run_sliceAt_array_all w 174 ⟨b, o, none⟩ ht, he, hs, hl]
  simp only [Result.andThen_ok, slicedAt]
  rw [if_neg (by omega), Nat.zero_mul, add_at]
  rfl
/-- A copy into a hasher's rest. -/
theorem wpList_copy_rest {ops : Array Oper} {rest : List Oper} {op : Oper} {a : Act} {w : World} {Q : Exit → Act → World → Prop} (hgd : op.guard = none) (d sr : Operand)
    (ho : op.op = .call { callee := .builtin .copy, args := #[d, sr], argTypes := #[32, 32] }) (b h dLen : Nat) (sp : Option Addr) (sLen sCap : Nat) (hd : a.eval d = .slice (some ⟨b, 9 + h, none⟩) dLen dLen) (hs : a.eval sr = .slice sp sLen sCap)
    (s : R8) (r : Nat → Int) (cnt : Int) (hh : HasAt b 176 74 (hf s r cnt) w) (y : Nat → Int) (k : Nat) (hk : k = Nat.min sLen dLen) (hfit : h + k ≤ 64)
    (g o : Nat) (hsrc : 0 < k → sp = some ⟨g, o, none⟩ ∧ ∀ j, j < k → w.cell? ⟨g, o + j, none⟩ = some (.int .u8 (y j)))
    (hK : ∀ w', HasAt b 176 74 (hf s (over r h k y) cnt) w' → Only b w w' → wpList Tryd.prog ops Q rest (a.put op.dst (.int .i64 (k : Int))) w') : wpList Tryd.prog ops Q (op :: rest) a w := by
  have hcur : w.heap[b]? = some (.cells (arr 74 (hf s r cnt)).toList.toArray 176 (0, 0)) := by
    rw [Array.toArray_toList]
    exact hh
  have hl : (arr 74 (hf s r cnt)).toList.length = 74 := by rw [Array.length_toList, arr_size]
  have hlen := firstBytes_length y k
  rcases Nat.eq_zero_or_pos k with h0 | h0
  · refine wpList_copy_nothing hgd d sr 32 32 ho 5 Tryd.underlying32 (by kernel_rfl) _ sp dLen dLen sLen sCap hd hs (by omega) ?_
    subst h0
    refine hK w (hh.to (fun i _ => ?_)) (Only.refl _ _)
    unfold hf over
    by_cases q0 : i = 0
    · rw [if_pos q0, if_pos q0]
    · rw [if_neg q0, if_neg q0]
      by_cases q8 : i ≤ 8
      · rw [if_pos q8, if_pos q8]
      · rw [if_neg q8, if_neg q8]
        by_cases q72 : i ≤ 72
        · rw [if_pos q72, if_pos q72, if_neg (by omega)]
        · rw [if_neg q72, if_neg q72]
  · obtain ⟨rfl, hc⟩ := hsrc h0
    refine wpList_copy_own hgd d sr 32 32 ho 5 Tryd.underlying32 (by kernel_rfl) b (9 + h) dLen dLen ⟨g, o, none⟩ sLen sCap hd hs (arr 74 (hf s r cnt)).toList.toArray 176 hcur (firstBytes y k) (by rw [hlen]; exact hk) ?_ ?_ (firstBytes_one y k) ?_
    · intro j v hv
      obtain ⟨hj, rfl⟩ := firstBytes_get _ _ _ _ hv
      rw [add_at]
      exact hc j hj
    · rw [List.size_toArray, hl, hlen]; omega
    · have e : ((arr 74 (hf s r cnt)).toList.toArray.toList.take (9 + h) ++ (firstBytes y k ++ (arr 74 (hf s r cnt)).toList.toArray.toList.drop (9 + h + (firstBytes y k).length))).toArray = arr 74 (hf s (over r h k y) cnt) := hf_splice s r cnt h k y hfit
      rw [e, hlen]
      exact hK _ (hh.setRow _) (only_setRow _ _ _)
/-- What stands in a hasher's rest behind a copy. -/
theorem over_cat (x y : Nat → Int) (r : Nat → Int) (m h k i : Nat) (hh : m % 64 = h) (hr : ∀ i, i < h → r i = x (64 * (m / 64) + i)) (hi : i < h + k) : over r h k y i = cat x m y (64 * (m / 64) + i) := by
  unfold over cat
  by_cases q : h ≤ i
  · rw [if_pos ⟨q, hi⟩, if_neg (by omega)]
    congr 1; omega
  · rw [if_neg (by omega), if_pos (by omega)]
    exact hr i (by omega)
end Go.Proofs.YtoopcmcmjaikhaaDoor.S

