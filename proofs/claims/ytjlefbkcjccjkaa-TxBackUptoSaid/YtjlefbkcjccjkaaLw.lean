/- What comes in of bulk at most 1048576 is within reach. -/
import Derived.Test.YtjlefbkcjccjkaaTa
import Derived.Test.YtjlefbkcjccjkaaUp
set_option linter.unusedSimpArgs false
set_option linter.unusedVariables false
set_option maxRecDepth 100000
namespace Go.Proofs.Ytjlefbkcjccjkaa
open Go.ChangeShapes Go.WideShapes Go.ChangeAt Go.RowKit Go.Lib Go.Deep

/-- A type of the table whose parts are of the table, too. -/
noncomputable def closedB (t : TypeId) : Bool := match Try.prog.underlying t with
  | some (.pointer e) => Nat.blt e Try.prog.types.size
  | some (.slice e) => Nat.blt e Try.prog.types.size && Nat.ble (Try.prog.bytesOf e) 100000000
  | some (.array _ e) => Nat.blt e Try.prog.types.size
  | some (.struct fs) => fs.toList.all fun f => Nat.blt f.type Try.prog.types.size
  | some (.map _ _) => false
  | _ => true
theorem closed_all : (List.range Try.prog.types.size).all closedB = true := by kernel_rfl
theorem closed {t : TypeId} (h : t < Try.prog.types.size) : closedB t = true := List.all_eq_true.1 closed_all t (List.mem_range.2 h)
theorem le_mul {M a b n : Nat} (h : n ≤ a * M) (hab : a ≤ b) : n ≤ b * M := Nat.le_trans h (Nat.mul_le_mul_right M hab)
theorem blt_lt {a b : Nat} (h : Nat.blt a b = true) : a < b := Nat.le_of_ble_eq_true h
set_option linter.unusedSectionVars false
section
variable {H : Type} {M : Nat} (hM : 100000000 ≤ M)
include hM
mutual
theorem weights_le (t : TypeId) (d : DataW H) (n : Nat) (ht : t < Try.prog.types.size) (h : n ∈ d.weights Try.prog t) : n ≤ Rows.uptoBulk d * M := by
  have hc := closed ht
  unfold closedB at hc
  match d, h with
  | .lit l, h =>
    cases l with
    | string bytes =>
      simp only [DataW.weights, List.mem_singleton] at h
      subst h
      simp only [Rows.uptoBulk]
      exact Nat.le_trans (Nat.le_succ _) (Nat.le_mul_of_pos_right _ (Nat.lt_of_lt_of_le (by decide) hM))
    | _ => simp [DataW.weights] at h
  | .nil, h => simp [DataW.weights] at h
  | .ptr d, h =>
    simp only [DataW.weights] at h
    split at h
    · rename_i e hu
      rw [hu] at hc
      simp only [Rows.uptoBulk]
      exact le_mul (weights_le _ d n (blt_lt hc) h) (Nat.le_succ _)
    · cases h
  | .slice elems spare, h =>
    simp only [DataW.weights] at h
    split at h
    · rename_i e hu
      rw [hu] at hc
      simp only [Bool.and_eq_true] at hc
      simp only [List.mem_cons, List.mem_append] at h
      simp only [Rows.uptoBulk]
      rcases h with h | h | h
      · have h2 := bulk_len (H := H) elems
        have h3 := bulk_len (H := H) spare
        rw [h]
        exact Nat.mul_le_mul (by omega) (Nat.le_trans (Nat.le_of_ble_eq_true hc.2) hM)
      · exact le_mul (weightsAll_le _ elems n (blt_lt hc.1) h) (by omega)
      · exact le_mul (weightsAll_le _ spare n (blt_lt hc.1) h) (by omega)
    · cases h
  | .agg parts, h =>
    simp only [DataW.weights] at h
    simp only [Rows.uptoBulk]
    split at h
    · rename_i fs hu
      rw [hu] at hc
      exact le_mul (weightsEach_le _ parts n (fun u hu => by
        obtain ⟨f, hf, rfl⟩ := List.mem_map.1 hu
        exact blt_lt (List.all_eq_true.1 hc f hf)) h) (Nat.le_succ _)
    · rename_i k e hu
      rw [hu] at hc
      exact le_mul (weightsAll_le _ parts n (blt_lt hc) h) (Nat.le_succ _)
    · cases h
  | .iface _ _, h => simp [DataW.weights] at h
  | .map entries, h =>
    simp only [DataW.weights] at h
    split at h
    · rename_i k e hu
      rw [hu] at hc
      cases hc
    · cases h
  | .held _, h => simp [DataW.weights] at h
theorem weightsAll_le (e : TypeId) (l : List (DataW H)) (n : Nat) (he : e < Try.prog.types.size) (h : n ∈ DataW.weightsAll Try.prog e l) : n ≤ Rows.uptoBulkAll l * M := by
  match l, h with
  | [], h => cases h
  | d :: r, h =>
    simp only [DataW.weightsAll, List.mem_append] at h
    simp only [Rows.uptoBulkAll]
    rcases h with h | h
    · exact le_mul (weights_le _ d n he h) (Nat.le_add_right _ _)
    · exact le_mul (weightsAll_le _ r n he h) (Nat.le_add_left _ _)
theorem weightsEach_le (ts : List TypeId) (l : List (DataW H)) (n : Nat) (ht : ∀ t, t ∈ ts → t < Try.prog.types.size) (h : n ∈ DataW.weightsEach Try.prog ts l) : n ≤ Rows.uptoBulkAll l * M := by
  match ts, l, ht, h with
  | t :: ts, d :: r, ht, h =>
    simp only [DataW.weightsEach, List.mem_append] at h
    simp only [Rows.uptoBulkAll]
    rcases h with h | h
    · exact le_mul (weights_le _ d n (ht t List.mem_cons_self) h) (Nat.le_add_right _ _)
    · exact le_mul (weightsEach_le _ r n (fun u hu => ht u (List.mem_cons_of_mem _ hu)) h) (Nat.le_add_left _ _)
  | [], _, _, h => simp [DataW.weightsEach] at h
  | _ :: _, [], _, h => simp [DataW.weightsEach] at h
end
end
theorem light_bulk {H : Type} {d : DataW H} {t : TypeId} (ht : t < Try.prog.types.size) (h : Rows.uptoBulk d ≤ 1048576) : Light d t := fun n hn =>
  Nat.le_trans (weights_le (M := 100000000) (Nat.le_refl _) t d n ht hn) (Nat.le_trans (Nat.mul_le_mul_right _ h) (by decide))
section
variable {H : Type} {enc : TypeId × Value → H} {W : World} {base : Nat}
/-- A transaction as an argument, where what comes in is of bulk at most 1048576. -/
theorem open_tx_upto {v : Value} {d : DataW H} {p : List MemPlace} {b0 : Nat}
    (hv : Value.okWide Try.prog W .any b0 28 v) (hd : DataW.Trod enc Try.prog W base (fun _ => true) true 28 v d p) (hb : Rows.uptoBulk d ≤ 1048576) : ∃ t, TxAt W v t := by
  obtain ⟨cs, rfl, hsz2⟩ := okWide_struct tx_is hv
  obtain ⟨fuel, hf⟩ := hd
  obtain ⟨hcl, t, ht⟩ := open_tx' hf (light_bulk (blt_lt (by kernel_rfl)) hb)
  refine ⟨t, fun j => cs.toList.getD j undef, ?_, ht⟩
  congr 1
  apply Array.ext_getElem?
  intro i
  have h4 : cs.size = 4 := by simpa [Value.cells] using hcl
  rcases Nat.lt_or_ge i 4 with q | q
  · rw [arr_get 4 _ i q, List.getD_eq_getElem?_getD, Array.getElem?_toList, Array.getElem?_eq_getElem (by omega)]
    rfl
  · rw [Array.getElem?_eq_none (by omega), Array.getElem?_eq_none (by rw [arr_size]; exact q)]
end
end Go.Proofs.Ytjlefbkcjccjkaa
