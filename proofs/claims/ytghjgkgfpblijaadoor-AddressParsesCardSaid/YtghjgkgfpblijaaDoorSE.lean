/- Texts of ours, merged: SHash, SShaTake, SJoin, SEnd, SShaLaid, SNew, STwo. -/
import Derived.Test.YtghjgkgfpblijaaDoorSRefSum
import Derived.Test.YtghjgkgfpblijaaDoorSShaMix
import Derived.Laws.CopyOwn
import Derived.Deep.WholeRow
import Derived.Test.YtghjgkgfpblijaaDoorSA
section
set_option maxRecDepth 100000
namespace Go.Proofs.YtghjgkgfpblijaaDoor.S
open Go.RowKit Go.Lib

/-! ### A block's words hang on its 64 bytes alone -/
theorem be32_congr {x y : Nat → Int} (h : ∀ i, i < 64 → x i = y i) (k : Nat) (hk : k < 16) : be32 x k = be32 y k := by
  unfold be32
  rw [h (4 * k) (by omega), h (4 * k + 1) (by omega), h (4 * k + 2) (by omega), h (4 * k + 3) (by omega)]
theorem W_congr {x y : Nat → Int} (h : ∀ i, i < 64 → x i = y i) : ∀ k, W x k = W y k := by
  intro k
  induction k using Nat.strongRecOn with
  | _ k ih =>
    rcases Nat.lt_or_ge k 16 with q | q
    · rw [W_low x k q, W_low y k q, be32_congr h k q]
    · rw [W_high x k q, W_high y k q, ih (k - 16) (by omega), ih (k - 15) (by omega), ih (k - 7) (by omega), ih (k - 2) (by omega)]
theorem rnds_congr {x y : Nat → Int} (h : ∀ i, i < 64 → x i = y i) (s : R8) : ∀ n, rnds x s n = rnds y s n
  | 0 => rfl
  | n + 1 => by rw [rnds, rnds, rnds_congr h s n, W_congr h n]
theorem compress_congr {x y : Nat → Int} (h : ∀ i, i < 64 → x i = y i) (s : R8) : compress s x = compress s y := by rw [compress, compress, rnds_congr h s 64]
theorem mst_congr {x y : Nat → Int} : ∀ j, (∀ i, i < 64 * j → x i = y i) → mst x j = mst y j
  | 0, _ => rfl
  | j + 1, h => by
    rw [mst, mst, mst_congr j (fun i hi => h i (by omega)), compress_congr (fun i hi => h (64 * j + i) (by omega))]

/-! ### The hasher -/
/-- Bytes behind m others. -/
def cat (x : Nat → Int) (m : Nat) (y : Nat → Int) (i : Nat) : Int := if i < m then x i else y (i - m)
theorem cat_low (x y : Nat → Int) (m i : Nat) (h : i < m) : cat x m y i = x i := by unfold cat; rw [if_pos h]
theorem cat_high (x y : Nat → Int) (m i : Nat) : cat x m y (m + i) = y i := by
  unfold cat; rw [if_neg (by omega)]; congr 1; omega
theorem cat_range {x y : Nat → Int} (hx : ∀ i, 0 ≤ x i ∧ x i ≤ 255) (hy : ∀ i, 0 ≤ y i ∧ y i ≤ 255) (m i : Nat) : 0 ≤ cat x m y i ∧ cat x m y i ≤ 255 := by
  unfold cat
  split
  · exact hx i
  · exact hy _
/-- The cells of a hasher: made, eight words, 64 bytes, the count. -/
def hf (s : R8) (r : Nat → Int) (cnt : Int) : Nat → Value := fun i => if i = 0 then .bool true else if i ≤ 8 then rv s (i - 1) else if i ≤ 72 then .int .u8 (r (i - 9)) else .int .u64 cnt
theorem hf_made (s : R8) (r : Nat → Int) (cnt : Int) : hf s r cnt 0 = .bool true := rfl
theorem hf_word (s : R8) (r : Nat → Int) (cnt : Int) (i : Nat) (h : i < 8) : hf s r cnt (i + 1) = rv s i := by
  unfold hf; rw [if_neg (by omega), if_pos (by omega)]; rfl
theorem hf_rest (s : R8) (r : Nat → Int) (cnt : Int) (i : Nat) (h : i < 64) : hf s r cnt (9 + i) = .int .u8 (r i) := by
  unfold hf; rw [if_neg (by omega), if_neg (by omega), if_pos (by omega)]
  congr 2; omega
theorem hf_count (s : R8) (r : Nat → Int) (cnt : Int) : hf s r cnt 73 = .int .u64 cnt := rfl
theorem hf_put (s s' : R8) (r : Nat → Int) (cnt : Int) (i : Nat) : putWords (hf s r cnt) s' i = hf s' r cnt i := by
  unfold putWords hf
  by_cases h0 : i = 0
  · rw [if_neg (by omega), if_pos h0, if_pos h0]
  · rw [if_neg h0, if_neg h0]
    by_cases h8 : i ≤ 8
    · rw [if_pos (by omega), if_pos h8]
    · rw [if_neg (by omega), if_neg h8, if_neg h8]
theorem hf_set_count (s : R8) (r : Nat → Int) (c c' : Int) (i : Nat) (hi : i < 74) : upd (hf s r c) 73 (.int .u64 c') i = hf s r c' i := by
  unfold upd hf
  by_cases h : i = 73
  · subst h; rfl
  · rw [if_neg h]
    by_cases h0 : i = 0
    · rw [if_pos h0, if_pos h0]
    · rw [if_neg h0, if_neg h0]
      by_cases h8 : i ≤ 8
      · rw [if_pos h8, if_pos h8]
      · rw [if_neg h8, if_neg h8, if_pos (by omega), if_pos (by omega)]
/-- Block b is a hasher of the m bytes x. -/
def Hashed (b : Nat) (x : Nat → Int) (m : Nat) (w : World) : Prop :=
  ∃ r : Nat → Int, HasAt b 109 74 (hf (mst x (m / 64)) r m) w ∧ (∀ i, i < m % 64 → r i = x (64 * (m / 64) + i)) ∧ ∀ i, 0 ≤ r i ∧ r i ≤ 255
/-- Bytes copied over others. -/
def over (r : Nat → Int) (h k : Nat) (y : Nat → Int) (i : Nat) : Int := if h ≤ i ∧ i < h + k then y (i - h) else r i
theorem over_range {r y : Nat → Int} (hr : ∀ i, 0 ≤ r i ∧ r i ≤ 255) (hy : ∀ i, 0 ≤ y i ∧ y i ≤ 255) (h k i : Nat) : 0 ≤ over r h k y i ∧ over r h k y i ≤ 255 := by
  unfold over
  split
  · exact hy _
  · exact hr i
theorem splice_get {α : Type} (L cs : List α) (off j : Nat) (h : off + cs.length ≤ L.length) : (splice L off cs)[j]? = if off ≤ j ∧ j < off + cs.length then cs[j - off]? else L[j]? := by
  unfold splice
  rcases Nat.lt_or_ge j off with q | q
  · rw [if_neg (by omega), List.getElem?_append_left (by simp; omega), List.getElem?_take, if_pos q]
  · rw [List.getElem?_append_right (by simp; omega)]
    have e : (L.take off).length = off := by simp; omega
    rw [e]
    rcases Nat.lt_or_ge j (off + cs.length) with q2 | q2
    · rw [if_pos ⟨q, q2⟩, List.getElem?_append_left (by omega)]
    · rw [if_neg (by omega), List.getElem?_append_right (by omega), List.getElem?_drop]
      congr 1; omega
theorem hf_splice (s : R8) (r : Nat → Int) (cnt : Int) (h k : Nat) (y : Nat → Int) (hk : h + k ≤ 64) :
    (splice (arr 74 (hf s r cnt)).toList (9 + h) (firstBytes y k)).toArray = arr 74 (hf s (over r h k y) cnt) := by
  have hl : (arr 74 (hf s r cnt)).toList.length = 74 := by rw [Array.length_toList, arr_size]
  have hfit : 9 + h + (firstBytes y k).length ≤ (arr 74 (hf s r cnt)).toList.length := by rw [hl, firstBytes_length]; omega
  refine arr_of ?_ ?_
  · rw [List.size_toArray, length_splice _ _ _ hfit, hl]
  · intro i hi
    rw [List.getElem?_toArray, splice_get _ _ _ _ hfit, firstBytes_length]
    by_cases hin : 9 + h ≤ i ∧ i < 9 + h + k
    · rw [if_pos hin]
      unfold firstBytes
      rw [List.getElem?_map, List.getElem?_range (by omega)]
      unfold hf over
      rw [if_neg (by omega), if_neg (by omega), if_pos (by omega), if_pos (by omega)]
      simp only [Option.map_some]
      congr 3
      omega
    · rw [if_neg hin, Array.getElem?_toList, arr_get 74 _ i hi]
      unfold hf over
      by_cases h0 : i = 0
      · rw [if_pos h0, if_pos h0]
      · rw [if_neg h0, if_neg h0]
        by_cases h8 : i ≤ 8
        · rw [if_pos h8, if_pos h8]
        · rw [if_neg h8, if_neg h8]
          by_cases h72 : i ≤ 72
          · rw [if_pos h72, if_pos h72, if_neg (by omega)]
          · rw [if_neg h72, if_neg h72]

/-! ### A load of many cells among operations that only read -/
section
variable {P : Program} {ops : Array Oper} {w : World} {Q : Act → Prop} {a : Act} {o : Oper} {rest : List Oper}
theorem wpStill_load_mid (hgd : o.guard = none) (ty : TypeId) (x : Operand) (ho : o.op = .load ty x) (b off : Nat) (hx : a.eval x = .pointer (some ⟨b, off, none⟩)) (cs : List Value) (d : TypeDesc) (hc : w.rangeAt b off cs)
    (hu : P.underlying ty = some d) (hd : d.isRow = true) (hi : (P.info? ty).map (·.size) = some cs.length) (h : wpStill P ops w Q rest (a.put o.dst (.agg cs.toArray))) : wpStill P ops w Q (o :: rest) a := by
  refine wpStill_step (fun K hK => ?_)
  have hw : Region.wanted o (yielded ops a.tmps) = true := by simp [Region.wanted, hgd]
  rw [if_pos hw]
  unfold Oper.still execOp
  simp only [ho, hx, Instr.loadAt, Instr.sureAddr, Sem.run_bind, Sem.run_pure, Result.andThen_ok, run_loadVar_mid w b off ty cs d hc hu hd hi]
  exact ⟨rfl, hK _ h⟩
end
theorem rest_range {b : Nat} {s : R8} {r : Nat → Int} {cnt : Int} {w : World} (h : HasAt b 109 74 (hf s r cnt) w) : w.rangeAt b 9 (arr 64 (bys r)).toList := fun j v hj => by
  have hj64 : j < 64 := by
    have := (List.getElem?_eq_some_iff.1 hj).1
    rw [Array.length_toList, arr_size] at this
    exact this
  rw [Array.getElem?_toList, arr_get 64 _ j hj64] at hj
  obtain rfl := Option.some.inj hj
  have h1 := h.cell (9 + j) (by omega)
  rw [hf_rest s r cnt j hj64] at h1
  exact h1
theorem run_arrayAt41 (a : Addr) (n c : Nat) (h : 64 ≤ n) (w : World) : (Instr.arrayAt 107 (.slice (some a) n c)).run Tryd.prog w = .ok (.pointer (some a)) w := by
  have hu : Tryd.prog.underlying 107 = some (.array 64 5) := Tryd.underlying107
  simp [Instr.arrayAt, run_underlying hu]
  omega
theorem run_from41 (b o h k : Nat) (hk : h + k = 64) (hp : 0 < k) (w : World) : (Instr.sliceAt 107 (.pointer (some ⟨b, o, none⟩)) (some (.int .i64 (h : Int))) none none).run Tryd.prog w = .ok (.slice (some ⟨b, o + h, none⟩) k k) w := by
  have hl : Tryd.prog.arrayLen 107 = 64 := by kernel_rfl
  have he : Tryd.prog.elem 107 = 5 := by kernel_rfl
  have ht : Tryd.prog.underlying 107 = some (.array (Tryd.prog.arrayLen 107) (Tryd.prog.elem 107)) := by rw [hl, he]; exact Tryd.underlying107
  have hs : ∀ w, (Go.sizeOf 5).run Tryd.prog w = .ok 1 w := fun w => by kernel_rfl
  rw [run_sliceAt_array_l w 107 ⟨b, o, none⟩ ht .i64 h (by omega) (by rw [hl]; omega), he, hs, hl]
  simp only [Result.andThen_ok, slicedAt, Int.toNat_natCast]
  rw [if_neg (by omega), Nat.mul_one, add_at]
  have e : 64 - h = k := by omega
  rw [e]
theorem run_all41 (b o : Nat) (w : World) : (Instr.sliceAt 107 (.pointer (some ⟨b, o, none⟩)) none none none).run Tryd.prog w = .ok (.slice (some ⟨b, o, none⟩) 64 64) w := by
  have hl : Tryd.prog.arrayLen 107 = 64 := by kernel_rfl
  have he : Tryd.prog.elem 107 = 5 := by kernel_rfl
  have ht : Tryd.prog.underlying 107 = some (.array (Tryd.prog.arrayLen 107) (Tryd.prog.elem 107)) := by rw [hl, he]; exact Tryd.underlying107
  have hs : ∀ w, (Go.sizeOf 5).run Tryd.prog w = .ok 1 w := fun w => by kernel_rfl
  rw [run_sliceAt_array_all w 107 ⟨b, o, none⟩ ht, he, hs, hl]
  simp only [Result.andThen_ok, slicedAt]
  rw [if_neg (by omega), Nat.zero_mul, add_at]
  rfl
/-- A copy into a hasher's rest. -/
theorem wpList_copy_rest {ops : Array Oper} {rest : List Oper} {op : Oper} {a : Act} {w : World} {Q : Exit → Act → World → Prop} (hgd : op.guard = none) (d sr : Operand)
    (ho : op.op = .call { callee := .builtin .copy, args := #[d, sr], argTypes := #[22, 22] }) (b h dLen : Nat) (sp : Option Addr) (sLen sCap : Nat) (hd : a.eval d = .slice (some ⟨b, 9 + h, none⟩) dLen dLen) (hs : a.eval sr = .slice sp sLen sCap)
    (s : R8) (r : Nat → Int) (cnt : Int) (hh : HasAt b 109 74 (hf s r cnt) w) (y : Nat → Int) (k : Nat) (hk : k = Nat.min sLen dLen) (hfit : h + k ≤ 64)
    (g o : Nat) (hsrc : 0 < k → sp = some ⟨g, o, none⟩ ∧ ∀ j, j < k → w.cell? ⟨g, o + j, none⟩ = some (.int .u8 (y j)))
    (hK : ∀ w', HasAt b 109 74 (hf s (over r h k y) cnt) w' → Only b w w' → wpList Tryd.prog ops Q rest (a.put op.dst (.int .i64 (k : Int))) w') : wpList Tryd.prog ops Q (op :: rest) a w := by
  have hcur : w.heap[b]? = some (.cells (arr 74 (hf s r cnt)).toList.toArray 109 (0, 0)) := by
    rw [Array.toArray_toList]
    exact hh
  have hl : (arr 74 (hf s r cnt)).toList.length = 74 := by rw [Array.length_toList, arr_size]
  have hlen := firstBytes_length y k
  rcases Nat.eq_zero_or_pos k with h0 | h0
  · refine wpList_copy_nothing hgd d sr 22 22 ho 5 Tryd.underlying22 (by kernel_rfl) _ sp dLen dLen sLen sCap hd hs (by omega) ?_
    subst h0
    refine hK w (hh.to (fun i _ => ?_)) (Only.refl _ _)
    unfold hf over
    by_cases q0 : i = 0
    · rw [if_pos q0, if_pos q0]
    · rw [if_neg q0, if_neg q0]
      by_cases q8 : i ≤ 8
      · rw [if_pos q8, if_pos q8]
      · rw [if_neg q8, if_neg q8]
        by_cases q72 : i ≤ 72
        · rw [if_pos q72, if_pos q72, if_neg (by omega)]
        · rw [if_neg q72, if_neg q72]
  · obtain ⟨rfl, hc⟩ := hsrc h0
    refine wpList_copy_own hgd d sr 22 22 ho 5 Tryd.underlying22 (by kernel_rfl) b (9 + h) dLen dLen ⟨g, o, none⟩ sLen sCap hd hs (arr 74 (hf s r cnt)).toList.toArray 109 hcur (firstBytes y k) (by rw [hlen]; exact hk) ?_ ?_ (firstBytes_one y k) ?_
    · intro j v hv
      obtain ⟨hj, rfl⟩ := firstBytes_get _ _ _ _ hv
      rw [add_at]
      exact hc j hj
    · rw [List.size_toArray, hl, hlen]; omega
    · have e : ((arr 74 (hf s r cnt)).toList.toArray.toList.take (9 + h) ++ (firstBytes y k ++ (arr 74 (hf s r cnt)).toList.toArray.toList.drop (9 + h + (firstBytes y k).length))).toArray = arr 74 (hf s (over r h k y) cnt) := hf_splice s r cnt h k y hfit
      rw [e, hlen]
      exact hK _ (hh.setRow _) (only_setRow _ _ _)
/-- What stands in a hasher's rest behind a copy. -/
theorem over_cat (x y : Nat → Int) (r : Nat → Int) (m h k i : Nat) (hh : m % 64 = h) (hr : ∀ i, i < h → r i = x (64 * (m / 64) + i)) (hi : i < h + k) : over r h k y i = cat x m y (64 * (m / 64) + i) := by
  unfold over cat
  by_cases q : h ≤ i
  · rw [if_pos ⟨q, hi⟩, if_neg (by omega)]
    congr 1; omega
  · rw [if_neg (by omega), if_pos (by omega)]
    exact hr i (by omega)
end Go.Proofs.YtghjgkgfpblijaaDoor.S
end
section
set_option maxRecDepth 100000
namespace Go.Proofs.YtghjgkgfpblijaaDoor.S
open Go.RowKit Go.Lib
attribute [local go_sem ↓] Go.wp_at_zero Go.wp_at_succ

set_option maxRecDepth 100000 in
set_option maxHeartbeats 2000000 in
theorem take_any (b : Nat) (hb2 : b ≠ 7) (x : Nat → Int) (hx : ∀ i, 0 ≤ x i ∧ x i ≤ 255) (m : Nat) (y : Nat → Int) (hy : ∀ i, 0 ≤ y i ∧ y i ≤ 255) (n : Nat) (p : Option Addr) (g o c : Nat) (hnc : n ≤ c) (hcm : c ≤ 9223372036854775807)
    (hmn : m + n < 9223372036854775808) (w : World) (hl : Lies w p g o n y) (hg : 0 < n → g ≠ b) (hh : Hashed b x m w) (hk : KLaid w) :
    Calls Tryd.prog 75 #[.pointer (some ⟨b, 0, none⟩), .slice p n c] w fun e w' => e = .returned (.tuple #[]) ∧ Hashed b (cat x m y) (m + n) w' ∧ Only b w w' := by
  obtain ⟨r, hh, hr, hrr⟩ := hh
  have c73 : w.cell? ⟨b, 73, none⟩ = some (.int .u64 m) := hh.cell 73 (by omega)
  have f73 := hh.free 73
  have HX := Lib.hid hx
  have HY := Lib.hid hy
  have HL := Lib.hid hl
  have HG := Lib.hid hg
  have HR := Lib.hid hr
  have HRR := Lib.hid hrr
  have H0' : Hid (HasAt b 109 74 (hf (mst x (m / 64)) r m) w ∧ KLaid w) := Lib.hid ⟨hh, hk⟩
  clear hx hy hl hg hr hrr hh hk
  go_enter Tryd.func75, Tryd.ntmps75
  go_upto_region 2 with fail
  have F1 : Hid (HasAt b 109 74 (hf (mst x (m / 64)) r ((m + n : Nat) : Int)) (w.setCell ⟨b, 73, none⟩ (.int .u64 (↑m + ↑n))) ∧ Only b w (w.setCell ⟨b, 73, none⟩ (.int .u64 (↑m + ↑n))) ∧ KLaid (w.setCell ⟨b, 73, none⟩ (.int .u64 (↑m + ↑n)))) := by
    refine Lib.hid ⟨?_, (Only.refl b w).setCell _ rfl _, fun i hi => ?_⟩
    · refine H0'.out.1.set 73 _ (fun i hi => ?_)
      rw [hf_set_count _ _ _ _ i hi]
      congr 1
    · rw [World.cell?_of_block (w := w) (Below.heap_setCell _ _ _ _ (fun e => hb2 e.symm))]
      exact H0'.out.2 i hi
  clear c73 f73 H0'
  generalize w.setCell ⟨b, 73, none⟩ (.int .u64 (↑m + ↑n)) = w1 at *
  obtain ⟨hd, hhd⟩ : ∃ hd, m % 64 = hd := ⟨_, rfl⟩
  have ecast : ((m : Int) % 64) = (hd : Int) := by omega
  rw [ecast]
  have HD := Lib.hid hhd
  have hd64 : hd < 64 := by omega
  clear hhd ecast
  go_upto_if 23 with fail
  go_cut [1] (fun s1 wx => ∃ (k rr cc : Nat) (pv : Option Addr) (r' : Nat → Int), s1 = .slice pv rr cc ∧ k + rr = n ∧ rr ≤ cc ∧ cc ≤ c ∧ (m + k) % 64 = 0 ∧ (0 < rr → pv = some ⟨g, o + k, none⟩) ∧
    HasAt b 109 74 (hf (mst (cat x m y) ((m + k) / 64)) r' ((m + n : Nat) : Int)) wx ∧ (∀ i, 0 ≤ r' i ∧ r' i ≤ 255) ∧ Only b w wx ∧ KLaid wx)
  case first =>
    by_cases hheld : hd = 0
    · have e1 : ¬ (0 : Int) < ↑hd := by omega
      have HH := Lib.hid hheld
      clear hheld
      go_wp2_with fail
      go_meet
      refine ⟨0, n, c, p, r, rfl, by omega, hnc, Nat.le_refl _, by have := HH.out; have := HD.out; omega, fun h => HL.out.1 h, ?_, HRR.out, F1.out.2.1, F1.out.2.2⟩
      rw [mst_congr (y := x) ((m + 0) / 64) (fun i hi => cat_low x y m i (by have := HH.out; have := HD.out; omega))]
      exact F1.out.1
    · obtain ⟨kr, hkr⟩ : ∃ kr, hd + kr = 64 := ⟨64 - hd, by omega⟩
      have hd0 : 0 < hd := by omega
      have hr0 : 0 < kr := by omega
      have HKR := Lib.hid hkr
      have hkr2 : hd + kr ≤ 64 := by omega
      have hkr3 : 64 ≤ hd + kr := by omega
      have ra := run_from41 b 9 hd kr hkr hr0 w1
      clear hheld hkr
      have hsrcN : ∀ k, k ≤ n → 0 < k → p = some ⟨g, o, none⟩ ∧ ∀ j, j < k → w1.cell? ⟨g, o + j, none⟩ = some (.int .u8 (y j)) := by
        intro k hk h0
        exact ⟨HL.out.1 (by omega), fun j hj => F1.out.2.1.cell (p := ⟨g, o + j, none⟩) (HG.out (by omega)) (HL.out.2 j (by omega))⟩
      have HSRC := Lib.hid hsrcN
      clear hsrcN
      go_upto_region 3 with fail
      by_cases hsmall : n < kr
      · go_wp2_with (with_reducible refine wpList_copy_rest rfl (.tmp 28) (.tmp 29) rfl b hd kr p n c rfl rfl (mst x (m / 64)) r ((m + n : Nat) : Int) F1.out.1 y n (by show n = min n kr; omega) (by omega) g o (HSRC.out n (Nat.le_refl _)) ?_; intro w2 hh2 ho2; have HH2 := Lib.hid (And.intro hh2 ho2); clear hh2 ho2)
        have e1 : (m + n) / 64 = m / 64 := by have := HD.out; omega
        refine bodyPost_ret (v := .tuple #[]) (results_none (fn := Tryd.f75) rfl _ _ _) rfl ?_
        refine ⟨rfl, ⟨over r hd n y, ?_, ?_, over_range HRR.out HY.out hd n⟩, F1.out.2.1.trans HH2.out.2⟩
        · rw [e1, mst_congr (y := x) (m / 64) (fun i hi => cat_low x y m i (by omega))]
          exact HH2.out.1
        · intro i hi
          have := HD.out
          rw [e1]
          exact over_cat x y r m hd n i HD.out (fun i hi => HR.out i (by omega)) (by omega)
      · obtain ⟨kp, hkp⟩ : ∃ kp, kp = kr := ⟨_, rfl⟩
        have hp : p = some ⟨g, o, none⟩ := HL.out.1 (by omega)
        subst hp
        have hbig : kr ≤ n := by omega
        clear hsmall
        go_upto_region 5 with (with_reducible refine wpList_copy_rest rfl (.tmp 28) (.tmp 29) rfl b hd kr (some ⟨g, o, none⟩) n c rfl rfl (mst x (m / 64)) r ((m + n : Nat) : Int) F1.out.1 y kr (by show kr = min n kr; omega) (by omega) g o (HSRC.out kr hbig) ?_; intro w2 hh2 ho2; have HH2 := Lib.hid (And.intro hh2 ho2); clear hh2 ho2)
        have hkl : KLaid w2 := fun i hi => by
          have h1 := F1.out.2.2 i hi
          rw [World.cell?_of_block (w := w1) (HH2.out.2.block 7 (cell_lt h1) (fun e => hb2 e.symm))]
          exact h1
        have G2 : Hid (HasAt b 109 74 (hf (mst x (m / 64)) (over r hd kr y) ((m + n : Nat) : Int)) w2.drew ∧ Only b w w2.drew ∧ KLaid w2.drew) := Lib.hid ⟨HH2.out.1, (F1.out.2.1.trans HH2.out.2).drew, hkl⟩
        refine wp_region_still_tail 7 (by kernel_rfl) (by kernel_rfl) ?_
        simp only [List.take_succ_cons, List.take_zero, List.drop_succ_cons, List.drop_zero]
        change wpStill _ _ w2.drew (fun a' => wpList _ _ _ _ a' w2.drew) _ _
        clear HH2 hkl F1 HSRC ra
        generalize w2.drew = wd at *
        iterate 6 still_step
        refine wpStill_load_mid rfl 107 (.tmp 40) rfl b 9 rfl (arr 64 (bys (over r hd kr y))).toList _ (rest_range G2.out.1) Tryd.underlying107 rfl (by rw [Array.length_toList, arr_size]; kernel_rfl) ?_
        refine wpStill_nil ?_
        rw [Array.toArray_toList]
        have hmx := sha_mix_any b (hf (mst x (m / 64)) (over r hd kr y) ((m + n : Nat) : Int)) (over r hd kr y) (over_range HRR.out HY.out hd kr) (mst x (m / 64)) (mst_in _ _) wd G2.out.1 (fun i hi => hf_word _ _ _ i hi) G2.out.2.2
        have HMX := Lib.hid hmx
        clear hmx
        have hb1 : kr ≤ c := by omega
        by_cases hck : c = kr
        · subst hck
          go_wp2_with (go_at_call 78; refine HMX.out.mono ?_; rintro e w3 ⟨rfl, hh3, ho3⟩; have HH3 := Lib.hid (And.intro hh3 ho3); clear hh3 ho3)
          go_meet
          have e1 : (m + c) / 64 = m / 64 + 1 := by have := HD.out; have := HKR.out; omega
          have e2 : mst (cat x m y) ((m + c) / 64) = compress (mst x (m / 64)) (over r hd c y) := by
            rw [e1, mst, mst_congr (y := x) (m / 64) (fun i hi => cat_low x y m i (by omega))]
            exact compress_congr (fun i hi => (over_cat x y r m hd c i HD.out (fun i hi => HR.out i (by have := HD.out; omega)) (by have := HKR.out; omega)).symm) _
          refine ⟨c, _, _, _, over r hd c y, rfl, by omega, by omega, by omega, by have := HD.out; have := HKR.out; omega, fun h => by omega, ?_, over_range HRR.out HY.out hd c, G2.out.2.1.trans HH3.out.2, fun i hi => by
              have h1 := G2.out.2.2 i hi
              rw [World.cell?_of_block (w := wd) (HH3.out.2.block 7 (cell_lt h1) (fun e => hb2 e.symm))]
              exact h1⟩
          rw [e2]
          exact HH3.out.1.to (fun i _ => hf_put _ _ _ _ i)
        · go_wp2_with (go_at_call 78; refine HMX.out.mono ?_; rintro e w3 ⟨rfl, hh3, ho3⟩; have HH3 := Lib.hid (And.intro hh3 ho3); clear hh3 ho3)
          go_meet
          have e1 : (m + kr) / 64 = m / 64 + 1 := by have := HD.out; have := HKR.out; omega
          have e2 : mst (cat x m y) ((m + kr) / 64) = compress (mst x (m / 64)) (over r hd kr y) := by
            rw [e1, mst, mst_congr (y := x) (m / 64) (fun i hi => cat_low x y m i (by omega))]
            exact compress_congr (fun i hi => (over_cat x y r m hd kr i HD.out (fun i hi => HR.out i (by have := HD.out; omega)) (by have := HKR.out; omega)).symm) _
          refine ⟨kr, _, _, _, over r hd kr y, rfl, by omega, by omega, by omega, by have := HD.out; have := HKR.out; omega, fun _ => rfl, ?_, over_range HRR.out HY.out hd kr, G2.out.2.1.trans HH3.out.2, fun i hi => by
              have h1 := G2.out.2.2 i hi
              rw [World.cell?_of_block (w := wd) (HH3.out.2.block 7 (cell_lt h1) (fun e => hb2 e.symm))]
              exact h1⟩
          rw [e2]
          exact HH3.out.1.to (fun i _ => hf_put _ _ _ _ i)
  case rest =>
    obtain ⟨k, rr, cc, pv, r', rfl, hkn, hrc, hcc, hmod, hpv, hh, hr', ho, hkl⟩ := hcut
    have HS : Hid ((m + k) % 64 = 0) := Lib.hid hmod
    have HPV := Lib.hid hpv
    have H0 := Lib.hid (And.intro hh (And.intro hr' (And.intro ho hkl)))
    clear hmod hpv hh hr' ho hkl F1
    go_wp2
    go_loopg [1] (rr / 64) (fun q s1 wr => ∃ (j r1 c1 : Nat) (p1 : Option Addr) (rx : Nat → Int), j + q = rr / 64 ∧ 64 * j + r1 = rr ∧ r1 ≤ c1 ∧ c1 ≤ c ∧ s1 = .slice p1 r1 c1 ∧ (0 < r1 → p1 = some ⟨g, o + k + 64 * j, none⟩) ∧
      HasAt b 109 74 (hf (mst (cat x m y) ((m + k) / 64 + j)) rx ((m + n : Nat) : Int)) wr ∧ (∀ i, 0 ≤ rx i ∧ rx i ≤ 255) ∧ Only b w wr ∧ KLaid wr)
    case atStart => exact ⟨0, rr, cc, pv, r', by omega, by omega, hrc, hcc, rfl, HPV.out, H0.out⟩
    case round =>
      clear H0
      obtain ⟨j, r1, c1, p1, rx, hj, hjr, hrc1, hc1c, rfl, hp1, hh, hrx, ho, hkl⟩ := hrel
      by_cases hlt : 64 ≤ r1
      · obtain ⟨rfl⟩ : p1 = some ⟨g, o + k + 64 * j, none⟩ := hp1 (by omega)
        clear hp1
        obtain ⟨r2, rfl⟩ : ∃ r2, r1 = r2 + 64 := ⟨r1 - 64, by omega⟩
        obtain ⟨c2, rfl⟩ : ∃ c2, c1 = c2 + 64 := ⟨c1 - 64, by omega⟩
        have G2 : Hid (HasAt b 109 74 (hf (mst (cat x m y) ((m + k) / 64 + j)) rx ((m + n : Nat) : Int)) wr.drew ∧ Only b w wr.drew ∧ KLaid wr.drew) := Lib.hid ⟨hh, ho.drew, hkl⟩
        have hrange : wr.drew.rangeAt g (o + k + 64 * j) (arr 64 (bys (fun i => cat x m y (64 * ((m + k) / 64 + j) + i)))).toList := by
          intro t v hv
          have ht : t < 64 := by
            have := (List.getElem?_eq_some_iff.1 hv).1
            rw [Array.length_toList, arr_size] at this
            exact this
          rw [Array.getElem?_toList, arr_get 64 _ t ht] at hv
          obtain rfl := Option.some.inj hv
          have h1 := HL.out.2 (k + 64 * j + t) (by omega)
          have h2 : wr.cell? ⟨g, o + (k + 64 * j + t), none⟩ = some (.int .u8 (y (k + 64 * j + t))) := ho.cell (p := ⟨g, o + (k + 64 * j + t), none⟩) (HG.out (by omega)) h1
          have e1 : o + k + 64 * j + t = o + (k + 64 * j + t) := by omega
          have e2 : 64 * ((m + k) / 64 + j) + t = m + (k + 64 * j + t) := by have := HS.out; omega
          rw [e1]
          show wr.drew.cell? _ = some (Value.int .u8 (cat x m y (64 * ((m + k) / 64 + j) + t)))
          rw [e2, cat_high]
          exact h2
        have HRG := Lib.hid hrange
        have hra : ∀ wz, (Instr.arrayAt 107 (.slice (some ⟨g, o + k + 64 * j, none⟩) (r2 + 64) (c2 + 64))).run Tryd.prog wz = .ok (.pointer (some ⟨g, o + k + 64 * j, none⟩)) wz := fun wz => run_arrayAt41 _ _ _ (by omega) wz
        have HRA := Lib.hid (hra wr.drew)
        have HRX := Lib.hid hrx
        clear hh hrx ho hkl hrange hra
        go_upto_region 8 with fail
        refine wp_region_still_tail 6 (by kernel_rfl) (by kernel_rfl) ?_
        simp only [List.take_succ_cons, List.take_zero, List.drop_succ_cons, List.drop_zero]
        change wpStill _ _ wr.drew (fun a' => wpList _ _ _ _ a' wr.drew) _ _
        generalize wr.drew = wd at *
        have ra := HRA.out
        clear HRA
        iterate 5 still_step
        clear ra
        refine wpStill_load_mid rfl 107 (.tmp 53) rfl g (o + k + 64 * j) rfl (arr 64 (bys (fun i => cat x m y (64 * ((m + k) / 64 + j) + i)))).toList _ HRG.out Tryd.underlying107 rfl (by rw [Array.length_toList, arr_size]; kernel_rfl) ?_
        refine wpStill_nil ?_
        rw [Array.toArray_toList]
        have hmx := sha_mix_any b (hf (mst (cat x m y) ((m + k) / 64 + j)) rx ((m + n : Nat) : Int)) (fun i => cat x m y (64 * ((m + k) / 64 + j) + i)) (fun i => cat_range HX.out HY.out m _) (mst (cat x m y) ((m + k) / 64 + j)) (mst_in _ _) wd G2.out.1 (fun i hi => hf_word _ _ _ i hi) G2.out.2.2
        have HMX := Lib.hid hmx
        clear hmx
        by_cases hck : c2 = 0
        · subst hck
          obtain rfl : r2 = 0 := by omega
          go_wp2_with (go_at_call 78; refine HMX.out.mono ?_; rintro e w3 ⟨rfl, hh3, ho3⟩; have HH3 := Lib.hid (And.intro hh3 ho3); clear hh3 ho3)
          go_roundg (gk - 1)
          case measure => omega
          case rel =>
            refine ⟨j + 1, 0, _, _, rx, by omega, by omega, ?_, ?_, rfl, fun h => by omega, ?_, HRX.out, G2.out.2.1.trans HH3.out.2, fun i hi => ?_⟩
            · omega
            · omega
            · have h1 := HH3.out.1.to (fun i _ => hf_put _ _ _ _ i)
              exact h1
            · have h1 := G2.out.2.2 i hi
              rw [World.cell?_of_block (w := wd) (HH3.out.2.block 7 (cell_lt h1) (fun e => hb2 e.symm))]
              exact h1
        · have hck' : 0 < c2 := by omega
          go_wp2_with (go_at_call 78; refine HMX.out.mono ?_; rintro e w3 ⟨rfl, hh3, ho3⟩; have HH3 := Lib.hid (And.intro hh3 ho3); clear hh3 ho3)
          go_roundg (gk - 1)
          case measure => omega
          case rel =>
            refine ⟨j + 1, r2, _, _, rx, by omega, by omega, ?_, ?_, rfl, fun _ => by first | rfl | (congr 2; omega), ?_, HRX.out, G2.out.2.1.trans HH3.out.2, fun i hi => ?_⟩
            · omega
            · omega
            · have h1 := HH3.out.1.to (fun i _ => hf_put _ _ _ _ i)
              exact h1
            · have h1 := G2.out.2.2 i hi
              rw [World.cell?_of_block (w := wd) (HH3.out.2.block 7 (cell_lt h1) (fun e => hb2 e.symm))]
              exact h1
      · have ra := run_all41 b 9 wr
        have hsrc : 0 < r1 → p1 = some ⟨g, o + k + 64 * j, none⟩ ∧ ∀ t, t < r1 → wr.cell? ⟨g, o + k + 64 * j + t, none⟩ = some (.int .u8 (y (k + 64 * j + t))) := fun h0 => ⟨hp1 h0, fun t ht => by
          have h1 := HL.out.2 (k + 64 * j + t) (by omega)
          have e1 : o + k + 64 * j + t = o + (k + 64 * j + t) := by omega
          rw [e1]
          exact ho.cell (p := ⟨g, o + (k + 64 * j + t), none⟩) (HG.out (by omega)) h1⟩
        have HSRC := Lib.hid hsrc
        have H := Lib.hid (And.intro hh (And.intro hrx (And.intro ho hkl)))
        clear hh hrx ho hkl hsrc hp1
        go_wp2_with (with_reducible refine wpList_copy_rest rfl (.tmp 61) (.tmp 62) rfl b 0 64 p1 r1 c1 rfl rfl (mst (cat x m y) ((m + k) / 64 + j)) rx ((m + n : Nat) : Int) H.out.1 (fun t => y (k + 64 * j + t)) r1 (by show r1 = min r1 64; omega) (by omega) g (o + k + 64 * j) HSRC.out ?_; intro w2 hh2 ho2; have HH2 := Lib.hid (And.intro hh2 ho2); clear hh2 ho2)
        go_end0
        have hs := HS.out
        have e1 : (m + n) / 64 = (m + k) / 64 + j := by omega
        have e2 : (m + n) % 64 = r1 := by omega
        refine ⟨rfl, ⟨over rx 0 r1 (fun t => y (k + 64 * j + t)), ?_, ?_, over_range H.out.2.1 (fun i => HY.out _) 0 r1⟩, H.out.2.2.1.trans HH2.out.2⟩
        · rw [e1]
          exact HH2.out.1
        · intro i hi
          rw [e1]
          have e3 : 64 * ((m + k) / 64 + j) + i = m + (k + 64 * j + i) := by omega
          rw [e3, cat_high]
          unfold over
          rw [if_pos (by omega)]
          rfl
end Go.Proofs.YtghjgkgfpblijaaDoor.S
end
section
set_option maxRecDepth 100000
namespace Go.Proofs.YtghjgkgfpblijaaDoor.S
open Go.RowKit Go.Lib
attribute [local go_sem ↓] Go.wp_at_zero Go.wp_at_succ

theorem digest_0 (s : R8) (i : Nat) : digest s (4 * i) = .int .u8 (s.nth i / 16777216 % 256) := by
  unfold digest
  have e1 : 4 * i / 4 = i := by omega
  have e2 : 4 * i % 4 = 0 := by omega
  have p : (2 : Int) ^ (24 - 8 * 0) = 16777216 := by decide
  rw [e1, e2, p]
theorem digest_1 (s : R8) (i : Nat) : digest s (4 * i + 1) = .int .u8 (s.nth i / 65536 % 256) := by
  unfold digest
  have e1 : (4 * i + 1) / 4 = i := by omega
  have e2 : (4 * i + 1) % 4 = 1 := by omega
  have p : (2 : Int) ^ (24 - 8 * 1) = 65536 := by decide
  rw [e1, e2, p]
theorem digest_2 (s : R8) (i : Nat) : digest s (4 * i + 2) = .int .u8 (s.nth i / 256 % 256) := by
  unfold digest
  have e1 : (4 * i + 2) / 4 = i := by omega
  have e2 : (4 * i + 2) % 4 = 2 := by omega
  have p : (2 : Int) ^ (24 - 8 * 2) = 256 := by decide
  rw [e1, e2, p]
theorem digest_3 (s : R8) (i : Nat) : digest s (4 * i + 3) = .int .u8 (s.nth i % 256) := by
  unfold digest
  have e1 : (4 * i + 3) / 4 = i := by omega
  have e2 : (4 * i + 3) % 4 = 3 := by omega
  rw [e1, e2]
  simp
/-- The first t bytes of a digest, noughts behind them. -/
def digTo (s : R8) (t : Nat) : Nat → Value := fun i => if i < t then digest s i else .int .u8 0
theorem digTo_step (s : R8) (t : Nat) (v : Value) (hv : v = digest s t) (i : Nat) : upd (digTo s t) t v i = digTo s (t + 1) i := by
  unfold upd digTo
  by_cases e : i = t
  · subst e; rw [if_pos rfl, if_pos (by omega), hv]
  · rw [if_neg e]
    by_cases e2 : i < t
    · rw [if_pos e2, if_pos (by omega)]
    · rw [if_neg e2, if_neg (by omega)]

set_option maxRecDepth 100000 in
set_option maxHeartbeats 2000000 in
theorem join_any (s : R8) (hs : s.In) (w : World) : Calls Tryd.prog 79 #[.agg (arr 8 (rv s))] w fun e w' => e = .returned (.agg (arr 32 (digest s))) ∧ Below w.heap.size w w' := by
  have ix := run_index40 s.a s.b s.c s.d s.e s.f s.g s.h
  have hn : ∀ q, In32 (s.nth q) := fun q => by
    unfold R8.nth
    split
    · exact hs.a
    · split
      · exact hs.b
      · split
        · exact hs.c
        · split
          · exact hs.d
          · split
            · exact hs.e
            · split
              · exact hs.f
              · split
                · exact hs.g
                · exact hs.h
  have HN := Lib.hid hn
  clear hs hn
  rw [lit8_eq]
  unfold lit8
  go_enter Tryd.func79, Tryd.ntmps79
  go_wp2
  go_loopg [7] 8 (fun k i wr => ∃ q : Nat, q + k = 8 ∧ i = .int .i64 (q : Int) ∧ Below w.heap.size w wr ∧ HasAt (w.heap.size + 1) 43 32 zb wr ∧ HasAt (w.heap.size + 1 + 1) 43 32 (digTo s (4 * q)) wr)
  case atStart =>
    refine ⟨0, by omega, rfl, ?_, ?_, ?_⟩
    · exact ((below_new w _).trans ((below_new _ _).mono (by simp))).trans ((below_new _ _).mono (by simp; omega))
    · have h := HasAt.new (w.alloc (.cells (arr 8 (rv s)) 77)) zb 32 43
      have e : (w.alloc (.cells (arr 8 (rv s)) 77)).heap.size = w.heap.size + 1 := by simp
      rw [e] at h
      exact h.alloc _
    · have h := HasAt.new ((w.alloc (.cells (arr 8 (rv s)) 77)).alloc (.cells (arr 32 zb) 43)) zb 32 43
      have e : ((w.alloc (.cells (arr 8 (rv s)) 77)).alloc (.cells (arr 32 zb) 43)).heap.size = w.heap.size + 1 + 1 := by simp
      rw [e] at h
      exact h.to (fun i _ => by unfold digTo; rw [if_neg (by omega)]; rfl)
  case round =>
    obtain ⟨q, hq, rfl, hb, hA, hB⟩ := hrel
    by_cases hl : q < 8
    · have ix := ix q hl
      have c0 : wr.cell? ⟨w.heap.size + 1 + 1, 4 * q, none⟩ = some (digTo s (4 * q) (4 * q)) := hB.cell _ (by omega)
      have c1 : wr.cell? ⟨w.heap.size + 1 + 1, 4 * q + 1, none⟩ = some (digTo s (4 * q) (4 * q + 1)) := hB.cell _ (by omega)
      have c2 : wr.cell? ⟨w.heap.size + 1 + 1, 4 * q + 2, none⟩ = some (digTo s (4 * q) (4 * q + 2)) := hB.cell _ (by omega)
      have c3 : wr.cell? ⟨w.heap.size + 1 + 1, 4 * q + 3, none⟩ = some (digTo s (4 * q) (4 * q + 3)) := hB.cell _ (by omega)
      have f0 := hB.free (4 * q)
      have f1 := hB.free (4 * q + 1)
      have f2 := hB.free (4 * q + 2)
      have f3 := hB.free (4 * q + 3)
      obtain ⟨n0, n1⟩ := HN.out q
      have nn : s.nth q = R8.nth ⟨s.a, s.b, s.c, s.d, s.e, s.f, s.g, s.h⟩ q := rfl
      rw [← nn] at ix
      have H := Lib.hid (And.intro hb (And.intro hA hB))
      clear hb hA hB nn
      go_wp2
      go_roundg (gk - 1)
      case measure => omega
      case rel =>
        refine ⟨q + 1, by omega, by go_num, ?_, ?_, ?_⟩
        · exact (((H.out.1.setCell (by simp; omega) _).setCell (by simp; omega) _).setCell (by simp; omega) _).setCell (by simp; omega) _
        · exact (((H.out.2.1.other _ _ (by simp)).other _ _ (by simp)).other _ _ (by simp)).other _ _ (by simp)
        · have e : 4 * (q + 1) = 4 * q + 1 + 1 + 1 + 1 := by omega
          rw [e]
          refine (((H.out.2.2.set (4 * q) _ (fun i _ => digTo_step s (4 * q) _ ?_ i)).set (4 * q + 1) _ (fun i _ => digTo_step s (4 * q + 1) _ ?_ i)).set (4 * q + 2) _ (fun i _ => digTo_step s (4 * q + 1 + 1) _ ?_ i)).set (4 * q + 3) _ (fun i _ => digTo_step s (4 * q + 1 + 1 + 1) _ ?_ i)
          · rw [digest_0]
          · rw [digest_1]
          · rw [digest_2]
          · rw [digest_3]
    · obtain rfl : q = 8 := by omega
      have hB' : HasAt (w.heap.size + 1 + 1) 43 32 (digest s) wr := hB.to (fun t ht => by unfold digTo; rw [if_pos (by omega)])
      have H := Lib.hid (And.intro hb (And.intro hA hB'))
      clear hb hA hB hB'
      go_wp2_with (first
        | (with_reducible refine wpList_load_all rfl 43 (.tmp 3) rfl (w.heap.size + 1 + 1) 32 rfl 43 (digest s) H.out.2.2 _ Tryd.underlying43 rfl (by kernel_rfl) ?_)
        | (with_reducible refine wpList_store_all rfl 43 (.tmp 2) (.tmp 38) rfl (w.heap.size + 1) 32 rfl 43 zb (digest s) H.out.2.1 rfl (by kernel_rfl) (fun _ => rfl) ?_; intro w2 hh ho))
      refine bodyPost_ret (v := .agg (arr 32 (digest s))) (results_cell_row (fn := Tryd.f79) rfl _ _ (w.heap.size + 1) 43 _ (0, 0) _ rfl hh Tryd.underlying43 rfl (by rw [arr_size]; kernel_rfl)) rfl ⟨rfl, ?_⟩
      exact H.out.1.trans (ho.below (by omega) H.out.1.size)
end Go.Proofs.YtghjgkgfpblijaaDoor.S
end
section
set_option maxRecDepth 100000
namespace Go.Proofs.YtghjgkgfpblijaaDoor.S
open Go.RowKit Go.Lib
attribute [local go_sem ↓] Go.wp_at_zero Go.wp_at_succ

/-- A hasher's zero value. -/
def hzero : Nat → Value := fun i => if i = 0 then .bool false else if i ≤ 8 then .int .u32 0 else if i ≤ 72 then .int .u8 0 else .int .u64 0
theorem hf_one (s : R8) (r : Nat → Int) (cnt : Int) (i : Nat) : (hf s r cnt i).oneCell' = true := by
  unfold hf rv
  repeat' split
  all_goals rfl
theorem z44 (w : World) : (zeroValue 109).run Tryd.prog w = .ok (.agg (arr 74 hzero)) w := (zero_of_info (P := Tryd.prog) (t := 109) (v := .agg (arr 74 hzero)) (n := 74) (by kernel_rfl)).1 w
theorem z64 (w : World) : (zeroValue 112).run Tryd.prog w = .ok (.agg (arr 72 zb)) w := (zero_of_info (P := Tryd.prog) (t := 112) (v := .agg (arr 72 zb)) (n := 72) (by kernel_rfl)).1 w

/-- How many bytes of the last blocks stand behind the bytes so far and ahead of the count. -/
def gap (m : Nat) : Nat := 1 + (119 - m % 64) % 64
theorem ahead_gap (m : Nat) : ahead m = m + gap m := by unfold ahead zeros gap; omega
theorem gap_lt (m : Nat) : gap m ≤ 64 := by unfold gap; omega
/-- The pad with so many bytes of the count. -/
def pf (m q : Nat) : Nat → Value := fun i => if i < gap m + q then .int .u8 (padByte (fun _ => 0) m (m + i)) else .int .u8 0
theorem pf_start (m i : Nat) : upd zb 0 (.int .u8 128) i = pf m 0 i := by
  unfold upd pf zb
  have hg : 1 ≤ gap m := by unfold gap; omega
  by_cases e : i = 0
  · subst e; rw [if_pos rfl, if_pos (by omega), Nat.add_zero, pad_mark]
  · rw [if_neg e]
    by_cases h : i < gap m + 0
    · rw [if_pos h, pad_nought _ _ _ (by omega) (by rw [ahead_gap]; omega)]
    · rw [if_neg h]
theorem pf_step (m q i : Nat) (v : Value) (hv : v = .int .u8 ((m : Int) * 8 / 2 ^ (56 - 8 * q) % 256)) : upd (pf m q) (gap m + q) v i = pf m (q + 1) i := by
  unfold upd pf
  by_cases e : i = gap m + q
  · subst e
    have e1 : m + (gap m + q) = ahead m + q := by rw [ahead_gap]; omega
    rw [if_pos rfl, if_pos (by omega), e1, pad_count, hv]
  · rw [if_neg e]
    by_cases h : i < gap m + q
    · rw [if_pos h, if_pos (by omega)]
    · rw [if_neg h, if_neg (by omega)]
theorem run_to64 (P m : Nat) (hm : m + 8 ≤ 72) (w : World) : (Instr.sliceAt 112 (.pointer (some ⟨P, 0, none⟩)) none (some (.int .i64 ((m : Int) + 8))) none).run Tryd.prog w = .ok (.slice (some ⟨P, 0, none⟩) (m + 8) 72) w := by
  have hl : Tryd.prog.arrayLen 112 = 72 := by kernel_rfl
  have he : Tryd.prog.elem 112 = 5 := by kernel_rfl
  have ht : Tryd.prog.underlying 112 = some (.array (Tryd.prog.arrayLen 112) (Tryd.prog.elem 112)) := by rw [hl, he]; exact Tryd.underlying112
  have hs : ∀ w, (Go.sizeOf 5).run Tryd.prog w = .ok 1 w := fun w => by kernel_rfl
  rw [run_sliceAt_array_h w 112 ⟨P, 0, none⟩ ht .i64 ((m : Int) + 8) (by omega) (by rw [hl]; omega), he, hs, hl]
  simp only [Result.andThen_ok, slicedAt]
  rw [if_neg (by omega), Nat.zero_mul, add_at]
  have e : ((m : Int) + 8).toNat = m + 8 := by omega
  rw [e]
  rfl
theorem words_range {b : Nat} {s : R8} {r : Nat → Int} {cnt : Int} {w : World} (h : HasAt b 109 74 (hf s r cnt) w) : w.rangeAt b 1 (arr 8 (rv s)).toList := fun j v hj => by
  have hj8 : j < 8 := by
    have := (List.getElem?_eq_some_iff.1 hj).1
    rw [Array.length_toList, arr_size] at this
    exact this
  rw [Array.getElem?_toList, arr_get 8 _ j hj8] at hj
  obtain rfl := Option.some.inj hj
  have h1 := h.cell (1 + j) (by omega)
  rw [Nat.add_comm 1 j, hf_word _ _ _ j hj8] at h1
  rw [Nat.add_comm 1 j]
  exact h1
theorem cat_pad (x : Nat → Int) (m i : Nat) : cat x m (fun i => padByte (fun _ => 0) m (m + i)) i = padByte x m i := by
  unfold cat
  by_cases h : i < m
  · rw [if_pos h, pad_low x m i h]
  · rw [if_neg h]
    have e : m + (i - m) = i := by omega
    show padByte (fun _ => 0) m (m + (i - m)) = _
    rw [e]
    unfold padByte
    rw [if_neg h, if_neg h]
theorem sha_end (x : Nat → Int) (m : Nat) : digest (mst (cat x m (fun i => padByte (fun _ => 0) m (m + i))) ((m + (gap m + 8)) / 64)) = sha x m := by
  unfold sha
  have e : ahead m + 8 = m + (gap m + 8) := by rw [ahead_gap]; omega
  rw [e, mst_congr _ (fun i _ => cat_pad x m i)]

set_option maxRecDepth 100000 in
set_option maxHeartbeats 2000000 in
theorem end_any (b : Nat) (x : Nat → Int) (hx : ∀ i, 0 ≤ x i ∧ x i ≤ 255) (m : Nat) (hm : m ≤ 1152921504606846975) (w : World) (hh : Hashed b x m w) (hk : KLaid w) :
    Calls Tryd.prog 76 #[.pointer (some ⟨b, 0, none⟩)] w fun e w' => e = .returned (.agg (arr 32 (sha x m))) ∧ Below w.heap.size w w' := by
  obtain ⟨r, hh, hr, hrr⟩ := hh
  have HX := Lib.hid hx
  have HR := Lib.hid hr
  have HRR := Lib.hid hrr
  have H0' : Hid (HasAt b 109 74 (hf (mst x (m / 64)) r m) w ∧ KLaid w) := Lib.hid ⟨hh, hk⟩
  have hbl := hh.lt
  have h2l : 7 < w.heap.size := cell_lt (hk 0 (by omega))
  clear hx hr hrr hh hk
  have Z4 := z44
  have Z6 := z64
  have k2 : HasAt (w.heap.size + 1) 109 74 hzero ((w.alloc (.cells (arr 32 zb) 43)).alloc (.cells (arr 74 hzero) 109)) := by
    have h := HasAt.new (w.alloc (.cells (arr 32 zb) 43)) hzero 74 109
    have e : (w.alloc (.cells (arr 32 zb) 43)).heap.size = w.heap.size + 1 := by simp
    rw [e] at h
    exact h
  have k3 : Below w.heap.size w ((w.alloc (.cells (arr 32 zb) 43)).alloc (.cells (arr 74 hzero) 109)) := (below_new w _).trans ((below_new _ _).mono (by simp))
  have k4 : HasAt w.heap.size 43 32 zb ((w.alloc (.cells (arr 32 zb) 43)).alloc (.cells (arr 74 hzero) 109)) := (HasAt.new w zb 32 43).alloc _
  have K := Lib.hid (And.intro k2 (And.intro k3 k4))
  have ks : ((w.alloc (.cells (arr 32 zb) 43)).alloc (.cells (arr 74 hzero) 109)).heap.size = w.heap.size + 2 := by simp
  have KS := Lib.hid ks
  clear k2 k3 k4 ks
  go_enter Tryd.func76, Tryd.ntmps76
  go_upto_region 2 with (first
    | (refine wpList_load_all rfl 109 (.tmp 10) rfl b 74 rfl 109 (hf (mst x (m / 64)) r m) (H0'.out.1.alloc _) _ Tryd.underlying109 rfl (by kernel_rfl) ?_)
    | (refine wpList_store_all rfl 109 (.tmp 3) (.tmp 11) rfl (w.heap.size + 1) 74 rfl 109 hzero (hf (mst x (m / 64)) r m) K.out.1 rfl (by kernel_rfl) (hf_one _ _ _) ?_; intro w1 hh1 ho1; have H1 := Lib.hid (And.intro hh1 ho1); clear hh1 ho1))
  have H1 : Hid (HasAt (w.heap.size + 1) 109 74 (hf (mst x (m / 64)) r m) w1 ∧ Only (w.heap.size + 1) ((w.alloc (.cells (arr 32 zb) 43)).alloc (.cells (arr 74 hzero) 109)) w1) := H1
  have hsz : w.heap.size + 2 ≤ w1.heap.size := Nat.le_trans (Nat.le_of_eq KS.out.symm) H1.out.2.size
  have G1 : Hid (HasAt b 109 74 (hf (mst x (m / 64)) r m) w1 ∧ KLaid w1 ∧ HasAt w.heap.size 43 32 zb w1 ∧ HasAt (w.heap.size + 1) 109 74 (hf (mst x (m / 64)) r m) w1 ∧ Below w.heap.size w w1) := by
    have hbw : Below w.heap.size w w1 := K.out.2.1.trans (H1.out.2.below (by omega) K.out.2.1.size)
    refine Lib.hid ⟨H0'.out.1.below hbw, fun i hi => ?_, ?_, H1.out.1, hbw⟩
    · have h1 := H0'.out.2 i hi
      rw [World.cell?_of_block (w := w) (hbw.block 7 (cell_lt h1))]
      exact h1
    · exact K.out.2.2.only H1.out.2 (by omega)
  clear H1 K KS H0' Z4
  go_upto_region 3 with fail
  have G2 : Hid (HasAt b 109 74 (hf (mst x (m / 64)) r m) (w1.alloc (.cells (arr 72 zb) 112)) ∧ KLaid (w1.alloc (.cells (arr 72 zb) 112)) ∧ HasAt w.heap.size 43 32 zb (w1.alloc (.cells (arr 72 zb) 112)) ∧ HasAt (w.heap.size + 1) 109 74 (hf (mst x (m / 64)) r m) (w1.alloc (.cells (arr 72 zb) 112)) ∧ Below w.heap.size w (w1.alloc (.cells (arr 72 zb) 112)) ∧ HasAt w1.heap.size 112 72 zb (w1.alloc (.cells (arr 72 zb) 112))) :=
    Lib.hid ⟨G1.out.1.alloc _, fun i hi => cell_alloc (G1.out.2.1 i hi), G1.out.2.2.1.alloc _, G1.out.2.2.2.1.alloc _, G1.out.2.2.2.2.alloc G1.out.2.2.2.2.size _, HasAt.new w1 zb 72 112⟩
  clear G1
  generalize w1.alloc (.cells (arr 72 zb) 112) = w2 at *
  generalize w1.heap.size = P at *
  have c0 : w2.cell? ⟨P, 0, none⟩ = some (.int .u8 0) := G2.out.2.2.2.2.2.cell 0 (by omega)
  have f0 := G2.out.2.2.2.2.2.free 0
  have c73 : w2.cell? ⟨b, 73, none⟩ = some (.int .u64 m) := G2.out.1.cell 73 (by omega)
  have hPb : b ≠ P := by omega
  clear Z6
  go_upto_region 6 with fail
  have G3 : Hid (HasAt b 109 74 (hf (mst x (m / 64)) r m) (w2.setCell ⟨P, 0, none⟩ (.int .u8 128)) ∧ KLaid (w2.setCell ⟨P, 0, none⟩ (.int .u8 128)) ∧ HasAt w.heap.size 43 32 zb (w2.setCell ⟨P, 0, none⟩ (.int .u8 128)) ∧ HasAt (w.heap.size + 1) 109 74 (hf (mst x (m / 64)) r m) (w2.setCell ⟨P, 0, none⟩ (.int .u8 128)) ∧ Below w.heap.size w (w2.setCell ⟨P, 0, none⟩ (.int .u8 128)) ∧ HasAt P 112 72 (pf m 0) (w2.setCell ⟨P, 0, none⟩ (.int .u8 128))) := by
    refine Lib.hid ⟨G2.out.1.other _ _ hPb, fun i hi => ?_, G2.out.2.2.1.other _ _ (by show w.heap.size ≠ P; omega), G2.out.2.2.2.1.other _ _ (by show w.heap.size + 1 ≠ P; omega), G2.out.2.2.2.2.1.setCell (by show w.heap.size ≤ P; omega) _, G2.out.2.2.2.2.2.set 0 _ (fun i _ => pf_start m i)⟩
    have h1 := G2.out.2.1 i hi
    rw [World.cell?_of_block (w := w2) (Below.heap_setCell _ _ _ _ (by show 7 ≠ P; omega))]
    exact h1
  clear G2 c0 f0 c73
  generalize w2.setCell ⟨P, 0, none⟩ (.int .u8 128) = w3 at *
  go_upto_if 22 with fail
  go_cut [6] (fun s6 wx => s6 = .int .i64 (gap m) ∧ w3 = wx)
  case first =>
    by_cases h0 : (56 - (m : Int) % 64) ≤ 0
    · go_wp2
      go_meet
      refine ⟨?_, rfl⟩
      congr 1
      unfold gap
      omega
    · go_wp2
      go_meet
      refine ⟨?_, rfl⟩
      congr 1
      unfold gap
      omega
  case rest =>
    obtain ⟨rfl, rfl⟩ := hcut
    have c73 : w3.cell? ⟨b, 73, none⟩ = some (.int .u64 m) := G3.out.1.cell 73 (by omega)
    go_upto_region 9 with fail
    have hgl := gap_lt m
    clear c73
    go_wp2
    go_loopg [30] 8 (fun k i wr => ∃ q : Nat, q + k = 8 ∧ i = .int .i64 (q : Int) ∧ Only P w3 wr ∧ HasAt P 112 72 (pf m q) wr)
    case atStart => exact ⟨0, by omega, rfl, Only.refl _ _, G3.out.2.2.2.2.2⟩
    case round =>
      obtain ⟨q, hq, rfl, ho, hp⟩ := hrel
      have H := Lib.hid (And.intro ho hp)
      clear ho hp
      by_cases hl : q < 8
      · have cq : wr.cell? ⟨P, gap m + q, none⟩ = some (pf m q (gap m + q)) := H.out.2.cell _ (by omega)
        have fq := H.out.2.free (gap m + q)
        have eq0 : pf m q (gap m + q) = .int .u8 0 := by unfold pf; rw [if_neg (by omega)]
        rw [eq0] at cq
        clear eq0
        go_wp2
        go_roundg (gk - 1)
        case measure => omega
        case rel =>
          refine ⟨q + 1, by omega, by go_num, H.out.1.setCell _ rfl _, H.out.2.set (gap m + q) _ (fun i _ => pf_step m q i _ rfl)⟩
      · obtain rfl : q = 8 := by omega
        have hbw : Below w.heap.size w wr := G3.out.2.2.2.2.1.trans (H.out.1.below (by omega) G3.out.2.2.2.2.1.size)
        have hk5 : KLaid wr := fun i hi => by
          have h1 := G3.out.2.1 i hi
          rw [World.cell?_of_block (w := w3) (H.out.1.block 7 (cell_lt h1) (by omega))]
          exact h1
        have hz5 : HasAt w.heap.size 43 32 zb wr := G3.out.2.2.1.only H.out.1 (by omega)
        have hh5 : HasAt (w.heap.size + 1) 109 74 (hf (mst x (m / 64)) r m) wr := G3.out.2.2.2.1.only H.out.1 (by omega)
        have hl5 : Lies wr (some ⟨P, 0, none⟩) P 0 (gap m + 8) (fun i => padByte (fun _ => 0) m (m + i)) := by
          refine ⟨fun _ => rfl, fun i hi => ?_⟩
          rw [Nat.zero_add, H.out.2.cell i (by omega)]
          unfold pf
          rw [if_pos hi]
        have htk := take_any (w.heap.size + 1) (by omega) x HX.out m (fun i => padByte (fun _ => 0) m (m + i)) (fun i => pad_range _ (fun _ => by omega) _ _) (gap m + 8) (some ⟨P, 0, none⟩) P 0 72 (by omega) (by omega) (by omega) wr hl5 (fun _ => by omega) ⟨r, hh5, HR.out, HRR.out⟩ hk5
        have HT := Lib.hid htk
        have sl := run_to64 P (gap m) (by omega) wr
        have H5 := Lib.hid (And.intro hbw (And.intro hz5 hk5))
        clear htk hbw hk5 hz5 hh5 hl5 H G3
        go_upto_region 15 with (go_at_call 75; refine HT.out.mono ?_; rintro e w6 ⟨rfl, hh6, ho6⟩; have H6 := Lib.hid (And.intro hh6 ho6); clear hh6 ho6)
        obtain ⟨r6, h6, _, _⟩ := H6.out.1
        have hbw6 : Below w.heap.size w w6 := H5.out.1.trans (H6.out.2.below (by omega) H5.out.1.size)
        have hz6 : HasAt w.heap.size 43 32 zb w6 := H5.out.2.1.only H6.out.2 (by omega)
        have hj := join_any (mst (cat x m (fun i => padByte (fun _ => 0) m (m + i))) ((m + (gap m + 8)) / 64)) (mst_in _ _) w6
        have hr6 := words_range h6
        have HJ := Lib.hid hj
        have HR6 := Lib.hid hr6
        have HB6 := Lib.hid (And.intro hbw6 hz6)
        clear hj hr6 hbw6 hz6 h6 sl HT H5 H6
        go_wp2_with (first
          | (refine wpList_load_mid rfl 77 (.tmp 48) rfl (w.heap.size + 1) 1 rfl (arr 8 (rv (mst (cat x m (fun i => padByte (fun _ => 0) m (m + i))) ((m + (gap m + 8)) / 64)))).toList _ HR6.out Tryd.underlying77 rfl (by rw [Array.length_toList, arr_size]; kernel_rfl) ?_; rw [Array.toArray_toList])
          | (go_at_call 79; refine HJ.out.mono ?_; rintro e w7 ⟨rfl, hb7⟩; have H7 : Hid (HasAt w.heap.size 43 32 zb w7 ∧ Below w.heap.size w w7) := Lib.hid ⟨HB6.out.2.below hb7, HB6.out.1.trans (hb7.mono HB6.out.1.size)⟩; clear hb7)
          | (refine wpList_store_all rfl 43 (.tmp 2) (.tmp 50) rfl w.heap.size 32 rfl 43 zb (digest _) H7.out.1 rfl (by kernel_rfl) (fun _ => rfl) ?_; intro w8 hh8 ho8))
        rw [sha_end] at hh8
        refine bodyPost_ret (v := .agg (arr 32 (sha x m))) (results_cell_row (fn := Tryd.f76) rfl _ _ w.heap.size 43 _ (0, 0) _ rfl hh8 Tryd.underlying43 rfl (by rw [arr_size]; kernel_rfl)) rfl ⟨rfl, ?_⟩
        exact H7.out.2.trans (ho8.below (Nat.le_refl _) H7.out.2.size)
end Go.Proofs.YtghjgkgfpblijaaDoor.S
end
section
set_option maxRecDepth 100000
namespace Go.Proofs.YtghjgkgfpblijaaDoor.S
open Go.ChangeShapes Go.WideShapes Go.ChangeAt Go.RowKit

/-- What the rows over sha list. -/
def shaLaid : List (String × DataW Unit) := [("sporran/sha.startWords", Rows.laid_sporran_sha_startWords), ("sporran/sha.roundWords", Rows.laid_sporran_sha_roundWords)]
theorem gStart : Tryd.prog.globalNamed "sporran/sha.startWords" = some 6 := by kernel_rfl
theorem gRound : Tryd.prog.globalNamed "sporran/sha.roundWords" = some 7 := by kernel_rfl
theorem tStart : (Tryd.prog.globals[6]?).map (·.type) = some 77 := by kernel_rfl
theorem tRound : (Tryd.prog.globals[7]?).map (·.type) = some 87 := by kernel_rfl
theorem cU32 : Tryd.prog.cellsOf 59 = 1 := by kernel_rfl
theorem sha_door_met (os : Os) (args : Array Value) : laidMetH Tryd.prog shaLaid ((World.doorLaid Tryd.prog 400 os).forCall (fun _ _ => 0) ⟨#[], args, []⟩).memory :=
  laidMetH_of_parts3 (fuel := 8) (laidMet_of_run' 8 (by kernel_rfl) (by kernel_rfl)) (by kernel_rfl) (by kernel_rfl)
def startList : List Int := [1779033703, 3144134277, 1013904242, 2773480762, 1359893119, 2600822924, 528734635, 1541459225]
theorem roundList : (Rows.laid_sporran_sha_roundWords : DataW Unit) = .agg (kList.map fun z => .lit (.int .u32 z)) := by kernel_rfl
/-- The words of the start lie where they are laid. -/
def SLaid (w : World) : Prop := ∀ i, i < 8 → w.cell? ⟨6, i, none⟩ = some (rv H0 i)
theorem of_sha {W : World} (h : laidMetH Tryd.prog shaLaid W) : SLaid W ∧ KLaid W := by
  rw [MakeChecks.laidMetH_plain _ _ _ (by kernel_rfl)] at h
  obtain ⟨ps, ⟨g0, t0, cs0, f0, p0, q0, hg0, ht0, hv0, hd0, ⟨g1, t1, cs1, f1, p1, q1, hg1, ht1, hv1, hd1, _, _⟩, _⟩, _, _⟩ := h
  obtain rfl := Option.some.inj (gStart.symm.trans hg0)
  obtain rfl := Option.some.inj (tStart.symm.trans ht0)
  obtain rfl := Option.some.inj (gRound.symm.trans hg1)
  obtain rfl := Option.some.inj (tRound.symm.trans ht1)
  constructor
  · intro i hi
    have hd : DataW.trod _ Tryd.prog W 0 _ _ f0 77 cs0.toList = some (.agg (startList.map fun z => .lit (.int .u32 z)), p0) := hd0
    have hz : startList[i]? = some (startList.getD i 0) := by
      rw [List.getD_eq_getElem?_getD, List.getElem?_eq_getElem (by show i < 8; exact hi)]; rfl
    have h1 := ints_of_trod Tryd.underlying77 Tryd.underlying59 cU32 hd i _ hz
    rw [World.var?_cell hg0 hv0 i]
    have e : rv H0 i = .int .u32 (startList.getD i 0) := by
      match i, hi with
      | 0, _ => rfl
      | 1, _ => rfl
      | 2, _ => rfl
      | 3, _ => rfl
      | 4, _ => rfl
      | 5, _ => rfl
      | 6, _ => rfl
      | 7, _ => rfl
    rw [e]
    simpa using h1
  · intro i hi
    rw [roundList] at hd1
    have hz : kList[i]? = some (kWord i) := by
      unfold kWord
      rw [List.getD_eq_getElem?_getD, List.getElem?_eq_getElem (by show i < 64; exact hi)]; rfl
    have h1 := ints_of_trod Tryd.underlying87 Tryd.underlying59 cU32 hd1 i _ hz
    rw [World.var?_cell hg1 hv1 i]
    simpa using h1
end Go.Proofs.YtghjgkgfpblijaaDoor.S
end
section
set_option maxRecDepth 100000
namespace Go.Proofs.YtghjgkgfpblijaaDoor.S
open Go.RowKit Go.Lib
attribute [local go_sem ↓] Go.wp_at_zero Go.wp_at_succ

theorem SLaid.below {w w' : World} (h : SLaid w) (hb : Below w.heap.size w w') : SLaid w' := fun i hi => by
  have := h i hi
  rw [hb.cell (cell_lt this), this]
theorem KLaid.below {w w' : World} (h : KLaid w) (hb : Below w.heap.size w w') : KLaid w' := fun i hi => by
  have := h i hi
  rw [hb.cell (cell_lt this), this]
theorem SLaid.range {w : World} (h : SLaid w) : w.rangeAt 6 0 (arr 8 (rv H0)).toList := fun j v hj => by
  have hj8 : j < 8 := by
    have := (List.getElem?_eq_some_iff.1 hj).1
    rw [Array.length_toList, arr_size] at this
    exact this
  rw [Array.getElem?_toList, arr_get 8 _ j hj8] at hj
  obtain rfl := Option.some.inj hj
  rw [Nat.zero_add]
  exact h j hj8
theorem wpList_build_to {P : Program} {ops : Array Oper} {rest : List Oper} {o : Oper} {a : Act} {w : World} {Q : Exit → Act → World → Prop} (hg : o.guard = none) (t : TypeId) (parts : Array (Nat × Operand)) (ho : o.op = .build t parts)
    (ps : Array (Nat × Value)) (hp : parts.map (fun (i, x) => (i, a.eval x)) = ps) (cells : Array Value) (hc : P.built t ps.toList = some cells) (h : wpList P ops Q rest (a.put o.dst (.agg cells)) w) : wpList P ops Q (o :: rest) a w := by
  refine wpList_build hg t parts ho ?_ ?_
  · rw [hp, hc]; rfl
  · rw [hp, hc]; exact h
theorem new_built : Tryd.prog.built 109 (#[(0, .bool true), (1, .agg (arr 8 (rv H0)))] : Array (Nat × Value)).toList = some (arr 74 (hf H0 (fun _ => 0) 0)) := by kernel_rfl

set_option maxRecDepth 100000 in
set_option maxHeartbeats 2000000 in
theorem new_any (w : World) (hs : SLaid w) : Calls Tryd.prog 74 #[] w fun e w' => ∃ b, e = .returned (.pointer (some ⟨b, 0, none⟩)) ∧ w.heap.size ≤ b ∧ Hashed b (fun _ => 0) 0 w' ∧ Below w.heap.size w w' := by
  have hr := hs.range
  have HR := Lib.hid hr
  clear hr hs
  go_enter Tryd.func74, Tryd.ntmps74
  have hn := HasAt.new w (hf H0 (fun _ => 0) 0) 74 109
  have HN := Lib.hid hn
  clear hn
  go_upto_region 1 with fail
  refine wp_region_lit ?_
  refine wpList_load_mid rfl 77 (.global 6) rfl 6 0 rfl (arr 8 (rv H0)).toList _ HR.out Tryd.underlying77 rfl (by rw [Array.length_toList, arr_size]; kernel_rfl) ?_
  rw [Array.toArray_toList]
  refine wpList_build_to rfl 109 _ rfl #[(0, .bool true), (1, .agg (arr 8 (rv H0)))] (by first | kernel_rfl | (simp; rfl)) (arr 74 (hf H0 (fun _ => 0) 0)) new_built ?_
  go_wp2
  go_ret
  exact ⟨_, rfl, Nat.le_refl _, ⟨fun _ => 0, HN.out, fun _ h => absurd h (by omega), fun _ => ⟨Int.le_refl 0, (by decide : (0 : Int) ≤ 255)⟩⟩, below_new w _⟩

theorem cat_zero (x y : Nat → Int) : cat x 0 y = y := by
  funext i
  unfold cat
  rw [if_neg (by omega)]
  rfl
/-- A hasher's own bytes told otherwise. -/
theorem Lies.lt {w : World} {p : Option Addr} {g o n : Nat} {x : Nat → Int} (h : Lies w p g o n x) (h0 : 0 < n) : g < w.heap.size := cell_lt (h.2 0 h0)
theorem KLaid.lt {w : World} (h : KLaid w) : 7 < w.heap.size := cell_lt (h 0 (by omega))
theorem KLaid.only {b : Nat} {w w' : World} (h : KLaid w) (hb : b ≠ 7) (ho : Only b w w') : KLaid w' := fun i hi => by
  have h1 := h i hi
  rw [World.cell?_of_block (w := w) (ho.block 7 (cell_lt h1) (fun e => hb e.symm))]
  exact h1
/-- The tables of sha lie where they are laid. -/
def Both (w : World) : Prop := SLaid w ∧ KLaid w
theorem Both.below {w w' : World} (h : Both w) (hb : Below w.heap.size w w') : Both w' := ⟨h.1.below hb, h.2.below hb⟩

set_option maxRecDepth 100000 in
set_option maxHeartbeats 2000000 in
theorem sum_any (p : Option Addr) (g o n c : Nat) (x : Nat → Int) (hx : ∀ i, 0 ≤ x i ∧ x i ≤ 255) (hn : n ≤ 1152921504606846975) (hnc : n ≤ c) (hcm : c ≤ 9223372036854775807) (w : World) (hl : Lies w p g o n x) (hs : Both w) :
    Calls Tryd.prog 67 #[.slice p n c] w fun e w' => e = .returned (.agg (arr 32 (sha x n))) ∧ Below w.heap.size w w' := by
  have HX := Lib.hid hx
  have k1 := HasAt.new w zb 32 43
  have k2 := below_new w (.cells (arr 32 zb) 43)
  have k3 := new_any _ (hs.below k2).1
  have K1 := Lib.hid (And.intro k1 (And.intro k2 (And.intro (hl.below k2) (hs.below k2))))
  have K3 := Lib.hid k3
  have ks : (w.alloc (.cells (arr 32 zb) 43)).heap.size = w.heap.size + 1 := by simp
  have KS := Lib.hid ks
  clear hx k1 k2 k3 hl hs ks
  go_enter Tryd.func67, Tryd.ntmps67
  go_upto_region 2 with (go_at_call 74; refine K3.out.mono ?_; rintro e w1 ⟨b, rfl, hb1, hh1, hw1⟩; have H1 := Lib.hid (And.intro hb1 (And.intro hh1 hw1)); clear hb1 hh1 hw1)
  have ks := KS.out
  have kb : w.heap.size + 1 ≤ b := by have := H1.out.1; rw [KS.out] at this; exact this
  have kl1 : Lies w1 p g o n x := K1.out.2.2.1.below H1.out.2.2
  have kk1 : Both w1 := K1.out.2.2.2.below H1.out.2.2
  have kz1 : HasAt w.heap.size 43 32 zb w1 := K1.out.1.below H1.out.2.2
  have kw1 : Below w.heap.size w w1 := K1.out.2.1.trans (H1.out.2.2.mono (by omega))
  have kg : 0 < n → g < (w.alloc (.cells (arr 32 zb) 43)).heap.size := fun h0 => K1.out.2.2.1.lt h0
  have k2 : 7 < (w.alloc (.cells (arr 32 zb) 43)).heap.size := K1.out.2.2.2.2.lt
  have htk := take_any b (by omega) (fun _ => 0) (fun _ => ⟨Int.le_refl 0, (by decide : (0 : Int) ≤ 255)⟩) 0 x HX.out n p g o c hnc hcm (by omega) w1 kl1 (fun h => by have := kg h; omega) H1.out.2.1 kk1.2
  have HT := Lib.hid htk
  have G1 := Lib.hid (And.intro kk1 (And.intro kz1 kw1))
  have hb2 : b ≠ 7 := by omega
  clear ks kl1 kk1 kz1 kw1 kg k2 htk K3 K1 KS H1
  go_upto_region 3 with (go_at_call 75; refine HT.out.mono ?_; rintro e w2 ⟨rfl, hh2, ho2⟩; have H2 := Lib.hid (And.intro hh2 ho2); clear hh2 ho2)
  have ke := H2.out.1
  rw [cat_zero, Nat.zero_add] at ke
  have kw2 : Below w.heap.size w w2 := G1.out.2.2.trans (H2.out.2.below (by omega) G1.out.2.2.size)
  have kz2 : HasAt w.heap.size 43 32 zb w2 := G1.out.2.1.only H2.out.2 (by omega)
  have hend := end_any b x HX.out n hn w2 ke (G1.out.1.2.only hb2 H2.out.2)
  have HE := Lib.hid hend
  have G2 := Lib.hid (And.intro kz2 kw2)
  clear ke kw2 kz2 hend HT H2 G1
  go_wp2_with (first
    | (go_at_call 76; refine HE.out.mono ?_; rintro e w3 ⟨rfl, hb3⟩; have H3 : Hid (HasAt w.heap.size 43 32 zb w3 ∧ Below w.heap.size w w3) := Lib.hid ⟨G2.out.1.below hb3, G2.out.2.trans (hb3.mono G2.out.2.size)⟩; clear hb3)
    | (refine wpList_store_all rfl 43 (.tmp 2) (.tmp 9) rfl w.heap.size 32 rfl 43 zb (sha x n) H3.out.1 rfl (by kernel_rfl) (fun _ => rfl) ?_; intro w4 hh4 ho4))
  refine bodyPost_ret (v := .agg (arr 32 (sha x n))) (results_cell_row (fn := Tryd.f67) rfl _ _ w.heap.size 43 _ (0, 0) _ rfl hh4 Tryd.underlying43 rfl (by rw [arr_size]; kernel_rfl)) rfl ⟨rfl, ?_⟩
  exact H3.out.2.trans (ho4.below (Nat.le_refl _) H3.out.2.size)
end Go.Proofs.YtghjgkgfpblijaaDoor.S
end
section
set_option maxRecDepth 100000
namespace Go.Proofs.YtghjgkgfpblijaaDoor.S
open Go.RowKit Go.Lib
attribute [local go_sem ↓] Go.wp_at_zero Go.wp_at_succ

/-- The bytes of a sum, as numbers. -/
def shaI (x : Nat → Int) (n i : Nat) : Int := (mst (padByte x n) ((ahead n + 8) / 64)).nth (i / 4) / 2 ^ (24 - 8 * (i % 4)) % 256
theorem sha_num (x : Nat → Int) (n i : Nat) : sha x n i = .int .u8 (shaI x n i) := rfl
theorem shaI_range (x : Nat → Int) (n i : Nat) : 0 ≤ shaI x n i ∧ shaI x n i ≤ 255 := by unfold shaI; omega
/-- SHA-256 of SHA-256. -/
def sha2 (x : Nat → Int) (n : Nat) : Nat → Value := sha (shaI x n) 32
theorem run_all25 (b o : Nat) (w : World) : (Instr.sliceAt 43 (.pointer (some ⟨b, o, none⟩)) none none none).run Tryd.prog w = .ok (.slice (some ⟨b, o, none⟩) 32 32) w := by
  have hl : Tryd.prog.arrayLen 43 = 32 := by kernel_rfl
  have he : Tryd.prog.elem 43 = 5 := by kernel_rfl
  have ht : Tryd.prog.underlying 43 = some (.array (Tryd.prog.arrayLen 43) (Tryd.prog.elem 43)) := by rw [hl, he]; exact Tryd.underlying43
  have hs : ∀ w, (Go.sizeOf 5).run Tryd.prog w = .ok 1 w := fun w => by kernel_rfl
  rw [run_sliceAt_array_all w 43 ⟨b, o, none⟩ ht, he, hs, hl]
  simp only [Result.andThen_ok, slicedAt]
  rw [if_neg (by omega), Nat.zero_mul, add_at]
  rfl
theorem lies_of_sum {b n : Nat} {x : Nat → Int} {w : World} (h : HasAt b 43 32 (sha x n) w) : Lies w (some ⟨b, 0, none⟩) b 0 32 (shaI x n) :=
  ⟨fun _ => rfl, fun i hi => by rw [Nat.zero_add]; exact h.cell i hi⟩

set_option maxRecDepth 100000 in
set_option maxHeartbeats 2000000 in
theorem double_any (p : Option Addr) (g o n c : Nat) (x : Nat → Int) (hx : ∀ i, 0 ≤ x i ∧ x i ≤ 255) (hn : n ≤ 1152921504606846975) (hnc : n ≤ c) (hcm : c ≤ 9223372036854775807) (w : World) (hl : Lies w p g o n x) (hs : Both w) :
    Calls Tryd.prog 58 #[.slice p n c] w fun e w' => e = .returned (.agg (arr 32 (sha2 x n))) ∧ Below w.heap.size w w' := by
  have k1 := HasAt.new w zb 32 43
  have k2 := below_new w (.cells (arr 32 zb) 43)
  have k3 := sum_any p g o n c x hx hn hnc hcm _ (hl.below k2) (hs.below k2)
  have K1 := Lib.hid (And.intro k1 (And.intro k2 (hs.below k2)))
  have K3 := Lib.hid k3
  clear hx k1 k2 k3 hl hs
  go_enter Tryd.func58, Tryd.ntmps58
  go_upto_region 2 with (first
    | (go_at_call 67; refine K3.out.mono ?_; rintro e w1 ⟨rfl, hw1⟩; have H1 := Lib.hid (And.intro hw1 (HasAt.new w1 zb 32 43)); clear hw1)
    | (refine wpList_store_all rfl 43 (.tmp 3) (.tmp 5) rfl w1.heap.size 32 rfl 43 zb (sha x n) H1.out.2 rfl (by kernel_rfl) (fun _ => rfl) ?_; intro w2 hh2 ho2; have H2 := Lib.hid (And.intro hh2 ho2); clear hh2 ho2))
  have H2 : Hid (HasAt w1.heap.size 43 32 (sha x n) w2 ∧ Only w1.heap.size (w1.alloc (.cells (arr 32 zb) 43)) w2) := H2
  have hs1 : w.heap.size + 1 ≤ w1.heap.size := by have := H1.out.1.size; simpa using this
  have kz1 : HasAt w.heap.size 43 32 zb w1 := K1.out.1.below H1.out.1
  have kw1 : Below w.heap.size w w1 := K1.out.2.1.trans (H1.out.1.mono (by simp))
  have b1 : Below w1.heap.size w1 w2 := (below_new w1 _).trans (H2.out.2.below (Nat.le_refl _) (by simp))
  have kz2 : HasAt w.heap.size 43 32 zb w2 := kz1.below b1
  have kw2 : Below w.heap.size w w2 := kw1.trans (b1.mono kw1.size)
  have k5 := sum_any (some ⟨w1.heap.size, 0, none⟩) w1.heap.size 0 32 32 (shaI x n) (fun i => shaI_range x n i) (by omega) (Nat.le_refl _) (by omega) w2 (lies_of_sum H2.out.1) ((K1.out.2.2.below H1.out.1).below b1)
  have K5 := Lib.hid k5
  have G2 := Lib.hid (And.intro kz2 kw2)
  have sl := run_all25 w1.heap.size 0 w2
  clear kz1 kw1 b1 kz2 kw2 k5 K3 K1 H1 H2
  go_wp2_with (first
    | (go_at_call 67; refine K5.out.mono ?_; rintro e w3 ⟨rfl, hb3⟩; have H3 : Hid (HasAt w.heap.size 43 32 zb w3 ∧ Below w.heap.size w w3) := Lib.hid ⟨G2.out.1.below hb3, G2.out.2.trans (hb3.mono G2.out.2.size)⟩; clear hb3)
    | (refine wpList_store_all rfl 43 (.tmp 2) (.tmp 7) rfl w.heap.size 32 rfl 43 zb (sha2 x n) H3.out.1 rfl (by kernel_rfl) (fun _ => rfl) ?_; intro w4 hh4 ho4))
  refine bodyPost_ret (v := .agg (arr 32 (sha2 x n))) (results_cell_row (fn := Tryd.f58) rfl _ _ w.heap.size 43 _ (0, 0) _ rfl hh4 Tryd.underlying43 rfl (by rw [arr_size]; kernel_rfl)) rfl ⟨rfl, ?_⟩
  exact H3.out.2.trans (ho4.below (Nat.le_refl _) H3.out.2.size)

set_option maxRecDepth 100000 in
set_option maxHeartbeats 2000000 in
theorem ref_double_any (p : Option Addr) (g o n c : Nat) (x : Nat → Int) (hx : ∀ i, 0 ≤ x i ∧ x i ≤ 255) (hn : n ≤ 140737488351232) (hnil : p = none → n = 0 ∧ c = 0) (w : World) (hl : Lies w p g o n x) :
    Calls Tryd.prog 21 #[.slice p n c] w fun e w' => e = .returned (.agg (arr 32 (sha2 x n))) ∧ Below w.heap.size w w' := by
  have k1 := HasAt.new w zb 32 43
  have k2 := below_new w (.cells (arr 32 zb) 43)
  have k3 := ref_sum_any p g o n c x hx hn hnil _ (hl.below k2)
  have K1 := Lib.hid (And.intro k1 (And.intro k2 trivial))
  have K3 := Lib.hid k3
  clear hx k1 k2 k3 hl
  go_enter Tryd.func21, Tryd.ntmps21
  go_upto_region 2 with (first
    | (go_at_call 43; refine K3.out.mono ?_; rintro e w1 ⟨rfl, hw1⟩; have H1 := Lib.hid (And.intro hw1 (HasAt.new w1 zb 32 43)); clear hw1)
    | (refine wpList_store_all rfl 43 (.tmp 3) (.tmp 5) rfl w1.heap.size 32 rfl 43 zb (sha x n) H1.out.2 rfl (by kernel_rfl) (fun _ => rfl) ?_; intro w2 hh2 ho2; have H2 := Lib.hid (And.intro hh2 ho2); clear hh2 ho2))
  have H2 : Hid (HasAt w1.heap.size 43 32 (sha x n) w2 ∧ Only w1.heap.size (w1.alloc (.cells (arr 32 zb) 43)) w2) := H2
  have hs1 : w.heap.size + 1 ≤ w1.heap.size := by have := H1.out.1.size; simpa using this
  have kz1 : HasAt w.heap.size 43 32 zb w1 := K1.out.1.below H1.out.1
  have kw1 : Below w.heap.size w w1 := K1.out.2.1.trans (H1.out.1.mono (by simp))
  have b1 : Below w1.heap.size w1 w2 := (below_new w1 _).trans (H2.out.2.below (Nat.le_refl _) (by simp))
  have kz2 : HasAt w.heap.size 43 32 zb w2 := kz1.below b1
  have kw2 : Below w.heap.size w w2 := kw1.trans (b1.mono kw1.size)
  have k5 := ref_sum_any (some ⟨w1.heap.size, 0, none⟩) w1.heap.size 0 32 32 (shaI x n) (fun i => shaI_range x n i) (by omega) (fun h => by cases h) w2 (lies_of_sum H2.out.1)
  have K5 := Lib.hid k5
  have G2 := Lib.hid (And.intro kz2 kw2)
  have sl := run_all25 w1.heap.size 0 w2
  clear kz1 kw1 b1 kz2 kw2 k5 K3 K1 H1 H2
  go_wp2_with (first
    | (go_at_call 43; refine K5.out.mono ?_; rintro e w3 ⟨rfl, hb3⟩; have H3 : Hid (HasAt w.heap.size 43 32 zb w3 ∧ Below w.heap.size w w3) := Lib.hid ⟨G2.out.1.below hb3, G2.out.2.trans (hb3.mono G2.out.2.size)⟩; clear hb3)
    | (refine wpList_store_all rfl 43 (.tmp 2) (.tmp 7) rfl w.heap.size 32 rfl 43 zb (sha2 x n) H3.out.1 rfl (by kernel_rfl) (fun _ => rfl) ?_; intro w4 hh4 ho4))
  refine bodyPost_ret (v := .agg (arr 32 (sha2 x n))) (results_cell_row (fn := Tryd.f21) rfl _ _ w.heap.size 43 _ (0, 0) _ rfl hh4 Tryd.underlying43 rfl (by rw [arr_size]; kernel_rfl)) rfl ⟨rfl, ?_⟩
  exact H3.out.2.trans (ho4.below (Nat.le_refl _) H3.out.2.size)

end Go.Proofs.YtghjgkgfpblijaaDoor.S
end
