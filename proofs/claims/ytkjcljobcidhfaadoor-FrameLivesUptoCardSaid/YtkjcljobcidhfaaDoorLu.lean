/- Arguments where what comes in is of bulk at most 1048576: how long they are at most. -/
import Derived.Test.YtkjcljobcidhfaaDoorTv
import Derived.Test.YtkjcljobcidhfaaDoorRows
set_option linter.unusedSimpArgs false
set_option linter.unusedVariables false
set_option maxRecDepth 100000
namespace Go.Proofs.YtkjcljobcidhfaaDoor
open Go.ChangeShapes Go.WideShapes Go.ChangeAt Go.RowKit Go.Lib Go.Deep

theorem bulk_one {H : Type} (d : DataW H) : 1 ≤ Rows.uptoBulk d := by
  cases d with
  | lit l => cases l <;> simp [Rows.uptoBulk]
  | nil => simp [Rows.uptoBulk]
  | ptr d => simp [Rows.uptoBulk]
  | slice elems spare => simp [Rows.uptoBulk]
  | agg parts => simp [Rows.uptoBulk]
  | iface t d => simp [Rows.uptoBulk]
  | map entries => simp [Rows.uptoBulk]
  | held h => simp [Rows.uptoBulk]
theorem bulk_len {H : Type} (l : List (DataW H)) : l.length ≤ Rows.uptoBulkAll l := by
  induction l with
  | nil => simp [Rows.uptoBulkAll]
  | cons x r ih => have := bulk_one x; simp only [Rows.uptoBulkAll, List.length_cons]; omega
/-- A type of the table whose parts are of the table, too. -/
noncomputable def closedB (t : TypeId) : Bool := match Tryd.prog.underlying t with
  | some (.pointer e) => Nat.blt e Tryd.prog.types.size
  | some (.slice e) => Nat.blt e Tryd.prog.types.size && Nat.ble (Tryd.prog.bytesOf e) 10000000
  | some (.array _ e) => Nat.blt e Tryd.prog.types.size
  | some (.struct fs) => fs.toList.all fun f => Nat.blt f.type Tryd.prog.types.size
  | some (.map _ _) => false
  | _ => true
theorem closed_all : (List.range Tryd.prog.types.size).all closedB = true := by kernel_rfl
theorem closed {t : TypeId} (h : t < Tryd.prog.types.size) : closedB t = true := List.all_eq_true.1 closed_all t (List.mem_range.2 h)
theorem le_mul {M a b n : Nat} (h : n ≤ a * M) (hab : a ≤ b) : n ≤ b * M := Nat.le_trans h (Nat.mul_le_mul_right M hab)
theorem blt_lt {a b : Nat} (h : Nat.blt a b = true) : a < b := Nat.le_of_ble_eq_true h
set_option linter.unusedSectionVars false
section
variable {H : Type} {M : Nat} (hM : 10000000 ≤ M)
include hM
mutual
theorem weights_le (t : TypeId) (d : DataW H) (n : Nat) (ht : t < Tryd.prog.types.size) (h : n ∈ d.weights Tryd.prog t) : n ≤ Rows.uptoBulk d * M := by
  have hc := closed ht
  unfold closedB at hc
  match d, h with
  | .lit l, h =>
    cases l with
    | string bytes =>
      simp only [DataW.weights, List.mem_singleton] at h
      subst h
      simp only [Rows.uptoBulk]
      exact Nat.le_trans (Nat.le_succ _) (Nat.le_mul_of_pos_right _ (Nat.lt_of_lt_of_le (by decide) hM))
    | _ => simp [DataW.weights] at h
  | .nil, h => simp [DataW.weights] at h
  | .ptr d, h =>
    simp only [DataW.weights] at h
    split at h
    · rename_i e hu
      rw [hu] at hc
      simp only [Rows.uptoBulk]
      exact le_mul (weights_le _ d n (blt_lt hc) h) (Nat.le_succ _)
    · cases h
  | .slice elems spare, h =>
    simp only [DataW.weights] at h
    split at h
    · rename_i e hu
      rw [hu] at hc
      simp only [Bool.and_eq_true] at hc
      simp only [List.mem_cons, List.mem_append] at h
      simp only [Rows.uptoBulk]
      rcases h with h | h | h
      · have h2 := bulk_len (H := H) elems
        have h3 := bulk_len (H := H) spare
        rw [h]
        exact Nat.mul_le_mul (by omega) (Nat.le_trans (Nat.le_of_ble_eq_true hc.2) hM)
      · exact le_mul (weightsAll_le _ elems n (blt_lt hc.1) h) (by omega)
      · exact le_mul (weightsAll_le _ spare n (blt_lt hc.1) h) (by omega)
    · cases h
  | .agg parts, h =>
    simp only [DataW.weights] at h
    simp only [Rows.uptoBulk]
    split at h
    · rename_i fs hu
      rw [hu] at hc
      exact le_mul (weightsEach_le _ parts n (fun u hu => by
        obtain ⟨f, hf, rfl⟩ := List.mem_map.1 hu
        exact blt_lt (List.all_eq_true.1 hc f hf)) h) (Nat.le_succ _)
    · rename_i k e hu
      rw [hu] at hc
      exact le_mul (weightsAll_le _ parts n (blt_lt hc) h) (Nat.le_succ _)
    · cases h
  | .iface _ _, h => simp [DataW.weights] at h
  | .map entries, h =>
    simp only [DataW.weights] at h
    split at h
    · rename_i k e hu
      rw [hu] at hc
      cases hc
    · cases h
  | .held _, h => simp [DataW.weights] at h
theorem weightsAll_le (e : TypeId) (l : List (DataW H)) (n : Nat) (he : e < Tryd.prog.types.size) (h : n ∈ DataW.weightsAll Tryd.prog e l) : n ≤ Rows.uptoBulkAll l * M := by
  match l, h with
  | [], h => cases h
  | d :: r, h =>
    simp only [DataW.weightsAll, List.mem_append] at h
    simp only [Rows.uptoBulkAll]
    rcases h with h | h
    · exact le_mul (weights_le _ d n he h) (Nat.le_add_right _ _)
    · exact le_mul (weightsAll_le _ r n he h) (Nat.le_add_left _ _)
theorem weightsEach_le (ts : List TypeId) (l : List (DataW H)) (n : Nat) (ht : ∀ t, t ∈ ts → t < Tryd.prog.types.size) (h : n ∈ DataW.weightsEach Tryd.prog ts l) : n ≤ Rows.uptoBulkAll l * M := by
  match ts, l, ht, h with
  | t :: ts, d :: r, ht, h =>
    simp only [DataW.weightsEach, List.mem_append] at h
    simp only [Rows.uptoBulkAll]
    rcases h with h | h
    · exact le_mul (weights_le _ d n (ht t List.mem_cons_self) h) (Nat.le_add_right _ _)
    · exact le_mul (weightsEach_le _ r n (fun u hu => ht u (List.mem_cons_of_mem _ hu)) h) (Nat.le_add_left _ _)
  | [], _, _, h => simp [DataW.weightsEach] at h
  | _ :: _, [], _, h => simp [DataW.weightsEach] at h
end
end
theorem bulk_part {H : Type} {d : DataW H} {l : List (DataW H)} (h : d ∈ l) : Rows.uptoBulk d ≤ Rows.uptoBulkAll l := by
  induction l with
  | nil => cases h
  | cons x r ih =>
    simp only [Rows.uptoBulkAll]
    cases List.mem_cons.1 h with
    | inl e => subst e; omega
    | inr e => have := ih e; omega
/-- No part of it weighs more than is in reach. -/
def Lit6 {H : Type} (d : DataW H) (t : TypeId) : Prop := ∀ n, n ∈ d.weights Tryd.prog t → n ≤ 60000000000000
theorem lit6_slice {H : Type} {S e : TypeId} {elems spare : List (DataW H)} (h : Lit6 (.slice elems spare) S) (hu : Tryd.prog.underlying S = some (.slice e)) : (elems.length + spare.length) * Tryd.prog.bytesOf e ≤ 60000000000000 ∧ ∀ d, d ∈ elems → Lit6 d e := by
  refine ⟨h _ (by simp [DataW.weights, hu]), fun d hd n hn => h n ?_⟩
  simp only [DataW.weights, hu, List.mem_cons, List.mem_append]
  exact .inr (.inl (mem_weightsAll hd n hn))
section
variable {H : Type} {enc : TypeId × Value → H} {W : World} {base : Nat}
theorem open_text6 {fuel : Nat} {cs : List Value} {x : DataW H × List MemPlace} (h : DataW.trod enc Tryd.prog W base (fun _ => true) true fuel 26 cs = some x) (hl : Lit6 x.1 26) : ∃ v t, cs = [v] ∧ TextAt W v t ∧ t.length ≤ 60000000000000 := by
  rcases open_ints Tryd.underlying26 Tryd.underlying5 (by kernel_rfl) h with ⟨hcs, _⟩ | ⟨q, l, c, zs, hcs, _, hlc, hm, hz, hx, hcell, hwz⟩
  · exact ⟨.slice none 0 0, [], hcs, ⟨none, 0, 0, 0, rfl, by simp, Row.nothing _ _ (lf_lt isB_nil)⟩, by simp⟩
  · have hz' : zs.length = c := by simpa using hz
    have hd' : x.1 = .slice (lits .u8 (zs.take l)) (lits .u8 (zs.drop l)) := by simpa using congrArg Prod.fst hx
    rw [hd'] at hl
    have hs := (lit6_slice hl Tryd.underlying26).1
    rw [b5] at hs
    simp only [lits, List.length_map, List.length_take, List.length_drop] at hs
    have hr := range_u8 hwz
    have R : Row W (some q) q.block q.off l c (fun i => (zs[i]?.getD 0).toNat) := ⟨hlc, by unfold maxLen; omega, fun h => (by cases h), fun h0 => by
      have h1 := hcell 0 (by omega)
      obtain ⟨b, o, s⟩ := q
      have hsp : s = none := by simpa [Addr.add] using World.cell?_spot h1
      subst hsp
      rfl, fun i hi => by
      have h1 := hcell i (by omega)
      have h0 := hcell 0 (by omega)
      have hri := hr i
      obtain ⟨b, o, s⟩ := q
      have hsp : s = none := by simpa [Addr.add] using World.cell?_spot h0
      subst hsp
      rw [row_add] at h1
      rw [Int.toNat_of_nonneg hri.1]
      simpa using h1, fun i => by have := hr i; omega⟩
    exact ⟨_, tl (fun i => (zs[i]?.getD 0).toNat) l, hcs, ⟨some q, q.block, q.off, c, by rw [tl_length], by rw [tl_length]; omega, R.tl⟩, by rw [tl_length]; omega⟩
/-- Elements of a slice, each a row of k cells with a reading of its own. -/
theorem open_rows6 {S T k bytes : Nat} {α : Type} (EC : (Nat → Value) → α → Prop) (a0 : α) (hS : Tryd.prog.underlying S = some (.slice T)) (hC : Tryd.prog.cellsOf T = k) (hk : 0 < k) (hb : Tryd.prog.bytesOf T = bytes)
    (one : ∀ V a, EC V a → ∀ j, j < k → (V j).oneCell' = true)
    (el : ∀ (fuel : Nat) (cs : List Value) (x : DataW H × List MemPlace), DataW.trod enc Tryd.prog W base (fun _ => true) true fuel T cs = some x → Lit6 x.1 T → cs.length = k ∧ ∃ a, EC (fun j => cs.getD j undef) a)
    (ext : ∀ V U a, EC V a → (∀ j, j < k → V j = U j) → EC U a)
    {fuel : Nat} {cs : List Value} {x : DataW H × List MemPlace} (h : DataW.trod enc Tryd.prog W base (fun _ => true) true fuel S cs = some x) (hl : Lit6 x.1 S) :
    ∃ v l, cs = [v] ∧ ∃ p g o c V, v = .slice p (List.length l) c ∧ l.length * bytes ≤ 140737488351232 ∧ VRow k W p g o l.length c V ∧ ∀ i (h : i < l.length), EC (fun j => V (i * k + j)) l[i] := by
  rcases open_slice hS h with ⟨hcs, _⟩ | ⟨q, len, cap, m, n, D, Pl, hcs, _, hle, hm, hmm, hx, hi⟩
  · exact ⟨.slice none 0 0, [], hcs, none, 0, 0, 0, fun _ => undef, rfl, by simp, VRow.nothing _ _ _, fun i h => absurd h (by simp)⟩
  · simp only [if_pos] at hmm
    subst hmm
    have hd' : x.1 = .slice ((List.range len).map D) ((List.range (m - len)).map fun j => D (len + j)) := by simpa using congrArg Prod.fst hx
    rw [hd'] at hl
    obtain ⟨hs, hl2⟩ := lit6_slice hl hS
    rw [hb] at hs
    simp only [List.length_map, List.length_range] at hs
    have key : ∀ i : Nat, ∃ r : (Nat → Value) × α, i < len → EC r.1 r.2 ∧ ∀ j, j < k → W.cell? ((q.add (i * k)).add j) = some (r.1 j) := fun i => by
      by_cases hlt : i < len
      · obtain ⟨cs', hc, ht⟩ := hi i (by omega)
        rw [hC] at hc
        obtain ⟨hlen, a, ha⟩ := el _ _ _ ht (hl2 _ (List.mem_map.2 ⟨i, by simpa using hlt, rfl⟩))
        refine ⟨⟨fun j => cs'.getD j undef, a⟩, fun _ => ⟨ha, fun j hj => ?_⟩⟩
        obtain ⟨_, hcl, hat⟩ := World.cells?_some hc
        show W.cell? ((q.add (i * k)).add j) = some (cs'.getD j undef)
        rw [hat j hj, List.getD_eq_getElem?_getD, List.getElem?_eq_getElem (by omega)]
        rfl
      · exact ⟨⟨fun _ => undef, a0⟩, fun h => absurd h hlt⟩
    obtain ⟨r, hr⟩ := Classical.axiomOfChoice key
    have hq : 0 < len → q = ⟨q.block, q.off, none⟩ := fun h0 => by
      have h1 := (hr 0 h0).2 0 hk
      obtain ⟨b, o, s⟩ := q
      have hsp : s = none := by simpa [Addr.add] using World.cell?_spot h1
      subst hsp
      rfl
    refine ⟨_, (List.range len).map fun i => (r i).2, hcs, some q, q.block, q.off, m, fun i => (r (i / k)).1 (i % k), by simp, by
      have h1 : len * bytes ≤ (len + (m - len)) * bytes := Nat.mul_le_mul_right _ (by omega)
      simp only [List.length_map, List.length_range]
      omega, ?_, fun i hi' => ?_⟩
    · simp only [List.length_map, List.length_range]
      have div : ∀ i, i < len * k → i / k < len := fun i hi => (Nat.div_lt_iff_lt_mul hk).2 hi
      refine ⟨hle, hm, fun h => (by cases h), fun h0 => congrArg some (hq h0), fun i hi => ?_, fun i hi => one _ _ (hr _ (div i hi)).1 _ (Nat.mod_lt _ hk)⟩
      have h1 := (hr (i / k) (div i hi)).2 (i % k) (Nat.mod_lt _ hk)
      have h0 : 0 < len := Nat.lt_of_le_of_lt (Nat.zero_le _) (div i hi)
      rw [hq h0, row_add, row_add] at h1
      have e : q.off + i / k * k + i % k = q.off + i := by rw [Nat.add_assoc, Nat.mul_comm, Nat.div_add_mod]
      rw [e] at h1
      exact h1
    · simp only [List.length_map, List.length_range] at hi'
      rw [List.getElem_map, List.getElem_range]
      refine ext _ _ _ (hr i hi').1 fun j hj => ?_
      show (r i).1 j = (r ((i * k + j) / k)).1 ((i * k + j) % k)
      rw [Nat.mul_comm i k, Nat.mul_add_div hk, Nat.div_eq_of_lt hj, Nat.add_zero, Nat.mul_add_mod, Nat.mod_eq_of_lt hj]
theorem open_texts6 {fuel : Nat} {cs : List Value} {x : DataW H × List MemPlace} (h : DataW.trod enc Tryd.prog W base (fun _ => true) true fuel 22 cs = some x) (hl : Lit6 x.1 22) : ∃ v t, cs = [v] ∧ TextsAt W v t ∧ ∀ i (h : i < t.length), t[i].length ≤ 60000000000000 := by
  obtain ⟨v, l, hcs, p, g, o, c, V, hv, hb, R, hi⟩ := open_rows6 (S := 22) (T := 26) (k := 1) (bytes := 24) (fun V t => TextAt W (V 0) t ∧ t.length ≤ 60000000000000) [] Tryd.underlying22 (by kernel_rfl) (by omega) (by kernel_rfl)
    (fun V a h j hj => by obtain rfl : j = 0 := by omega
                          exact h.1.one)
    (fun fuel cs x h hl => by
      obtain ⟨v, t, rfl, ht, htl⟩ := open_text6 h hl
      exact ⟨rfl, t, ht, htl⟩)
    (fun V U a h e => by rw [← e 0 (by omega)]; exact h) h hl
  exact ⟨v, l, hcs, ⟨p, g, o, c, V, hv, hb, R, fun i h => by
    have h1 : TextAt W (V (i * 1 + 0)) l[i] := (hi i h).1
    rwa [Nat.mul_one, Nat.add_zero] at h1⟩, fun i h => (hi i h).2⟩
theorem lit_bulk {H : Type} {d : DataW H} {t : TypeId} (ht : t < Tryd.prog.types.size) (h : Rows.uptoBulk d ≤ 1048576) : Lit6 d t := fun n hn =>
  Nat.le_trans (weights_le (M := 10000000) (Nat.le_refl _) t d n ht hn) (Nat.le_trans (Nat.mul_le_mul_right _ h) (by decide))
theorem open_texts_arg6 {v : Value} {d : DataW H} {p : List MemPlace} {b0 : Nat}
    (hv : Value.okWide Tryd.prog W .any b0 22 v) (hd : DataW.Trod enc Tryd.prog W base (fun _ => true) true 22 v d p) (hb : Rows.uptoBulk d ≤ 1048576) : ∃ t, TextsAt W v t ∧ ∀ i (h : i < t.length), t[i].length ≤ 60000000000000 := by
  obtain ⟨a, len, cap, rfl⟩ := okWide_slice Tryd.underlying22 hv
  obtain ⟨fuel, hf⟩ := hd
  obtain ⟨v, t, hcs, ht, htl⟩ := open_texts6 hf (lit_bulk (of_decide_eq_true (by kernel_rfl)) hb)
  refine ⟨t, ?_, htl⟩
  have e : [Value.slice a len cap] = [v] := by simpa [Value.cells] using hcs
  injection e with e
  rw [e]
  exact ht
theorem open_text_arg6 {v : Value} {d : DataW H} {p : List MemPlace} {b0 : Nat}
    (hv : Value.okWide Tryd.prog W .any b0 26 v) (hd : DataW.Trod enc Tryd.prog W base (fun _ => true) true 26 v d p) (hb : Rows.uptoBulk d ≤ 1048576) : ∃ t, TextAt W v t ∧ t.length ≤ 60000000000000 := by
  obtain ⟨a, len, cap, rfl⟩ := okWide_slice Tryd.underlying26 hv
  obtain ⟨fuel, hf⟩ := hd
  obtain ⟨v, t, hcs, ht, htl⟩ := open_text6 hf (lit_bulk (of_decide_eq_true (by kernel_rfl)) hb)
  refine ⟨t, ?_, htl⟩
  have e : [Value.slice a len cap] = [v] := by simpa [Value.cells] using hcs
  injection e with e
  rw [e]
  exact ht
end
end Go.Proofs.YtkjcljobcidhfaaDoor
