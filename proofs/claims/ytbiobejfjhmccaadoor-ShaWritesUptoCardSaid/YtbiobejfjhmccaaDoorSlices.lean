/- What an argument of type [][]byte is, where what comes in is of bulk at most 1048576. -/
import Derived.Test.YtbiobejfjhmccaaDoorSipLaw
import Derived.Deep.Matrix
namespace Go.Proofs.YtbiobejfjhmccaaDoor
open Go.ChangeShapes Go.WideShapes Go.ChangeAt Go.RowKit Go.Lib

def sumTo (L : Nat → Nat) : Nat → Nat
  | 0 => 0
  | k + 1 => sumTo L k + L k
theorem sumTo_mono (L : Nat → Nat) {j k : Nat} (h : j ≤ k) : sumTo L j ≤ sumTo L k := by
  induction k with
  | zero => obtain rfl : j = 0 := by omega
            exact Nat.le_refl _
  | succ k ih =>
    rcases Nat.lt_or_ge j (k + 1) with q | q
    · have := ih (by omega); rw [sumTo]; omega
    · obtain rfl : j = k + 1 := by omega
      exact Nat.le_refl _
structure IsRows (w : World) (v : Value) (al : Option Addr) (gl ol len cap : Nat) (A : Nat → Option Addr) (L C G O : Nat → Nat) (X : Nat → Nat → Int) : Prop where
  form : v = .slice al len cap
  head : 0 < len → al = some ⟨gl, ol, none⟩
  cell : ∀ r, r < len → w.cell? ⟨gl, ol + r, none⟩ = some (.slice (A r) (L r) (C r))
  lies : ∀ r, r < len → Lies w (A r) (G r) (O r) (L r) (X r)
  byte : ∀ r, r < len → ∀ i, 0 ≤ X r i ∧ X r i ≤ 255
  le : ∀ r, r < len → L r ≤ C r ∧ C r ≤ maxLen
  nil : ∀ r, r < len → A r = none → L r = 0 ∧ C r = 0
  total : sumTo L len ≤ 1048576
  short : len ≤ maxLen

theorem one_le {H : Type} (d : DataW H) : 1 ≤ Rows.uptoBulk d := by
  cases d with
  | lit l => cases l <;> simp [Rows.uptoBulk]
  | nil => simp [Rows.uptoBulk]
  | ptr d => simp [Rows.uptoBulk]
  | slice elems spare => simp [Rows.uptoBulk]
  | agg parts => simp [Rows.uptoBulk]
  | iface t d => simp [Rows.uptoBulk]
  | map entries => simp [Rows.uptoBulk]
  | held h => simp [Rows.uptoBulk]
theorem bulk_append {H : Type} (l r : List (DataW H)) : Rows.uptoBulkAll (l ++ r) = Rows.uptoBulkAll l + Rows.uptoBulkAll r := by
  induction l with
  | nil => simp [Rows.uptoBulkAll]
  | cons x l ih => simp only [List.cons_append, Rows.uptoBulkAll, ih]; omega
theorem bulk_length {H : Type} (l : List (DataW H)) : l.length ≤ Rows.uptoBulkAll l := by
  induction l with
  | nil => simp [Rows.uptoBulkAll]
  | cons x r ih => have := one_le x; simp only [Rows.uptoBulkAll, List.length_cons]; omega
theorem row_bulk {H : Type} (A : Option Addr) (L : Nat) (zs : List Int) (h : L ≤ zs.length) (h0 : A = none → zs.length = 0) : L ≤ Rows.uptoBulk (Deep.intRow (H := H) .u8 A L zs) := by
  cases A with
  | none => have := h0 rfl; omega
  | some a =>
    have h1 := bulk_length (lits (H := H) .u8 (zs.take L))
    have h2 : (lits (H := H) .u8 (zs.take L)).length = L := by simp only [lits, List.length_map, List.length_take]; omega
    rw [h2] at h1
    simp only [Deep.intRow, Rows.uptoBulk]
    omega
theorem sum_bulk {H : Type} (A : Nat → Option Addr) (L : Nat → Nat) (Z : Nat → List Int) : ∀ k, (∀ r, r < k → L r ≤ (Z r).length ∧ (A r = none → (Z r).length = 0)) → sumTo L k ≤ Rows.uptoBulkAll ((List.range k).map fun r => Deep.intRow (H := H) .u8 (A r) (L r) (Z r))
  | 0, _ => by simp [sumTo]
  | k + 1, h => by
    have h1 := sum_bulk (H := H) A L Z k (fun r hr => h r (by omega))
    have h2 := row_bulk (H := H) (A k) (L k) (Z k) (h k (by omega)).1 (h k (by omega)).2
    rw [List.range_succ, List.map_append, bulk_append, sumTo]
    simp only [List.map_cons, List.map_nil, Rows.uptoBulkAll]
    omega
theorem open_rows {H : Type} {enc : TypeId × Value → H} {W : World} {base : Nat} {v : Value} {d : DataW H} {p : List MemPlace}
    (hv : Value.okWide Tryd.prog W .any base 29 v) (hd : DataW.Trod enc Tryd.prog W 0 (fun _ => true) true 29 v d p) (hk : Rows.uptoBulk d ≤ 1048576) : ∃ al gl ol len cap A L C G O X, IsRows W v al gl ol len cap A L C G O X := by
  obtain ⟨a, len, cap, rfl⟩ := okWide_slice Tryd.underlying29 hv
  obtain ⟨fuel, hf⟩ := hd
  rcases Deep.open_int_rows Tryd.underlying29 Tryd.underlying22 Tryd.underlying5 (by kernel_rfl) (by kernel_rfl) hf with ⟨hcs, _⟩ | ⟨q, l, c, A, L, C, Z, hcs, _, hl, hm, hx, hrow⟩
  · simp [Value.cells] at hcs
    obtain ⟨rfl, rfl, rfl⟩ := hcs
    exact ⟨none, 0, 0, 0, 0, fun _ => none, fun _ => 0, fun _ => 0, fun _ => 0, fun _ => 0, fun _ _ => 0, rfl, fun h => absurd h (by omega), fun r h => absurd h (by omega), fun r h => absurd h (by omega), fun r h => absurd h (by omega), fun r h => absurd h (by omega), fun r h => absurd h (by omega), by simp [sumTo], by simp [maxLen]⟩
  · simp [Value.cells] at hcs
    obtain ⟨rfl, rfl, rfl⟩ := hcs
    have hd' : d = .slice ((List.range len).map fun r => Deep.intRow .u8 (A r) (L r) (Z r)) ((List.range (cap - len)).map fun j => Deep.intRow .u8 (A (len + j)) (L (len + j)) (Z (len + j))) := by simpa using congrArg Prod.fst hx
    rw [hd'] at hk
    have hsum := sum_bulk (H := H) A L Z len (fun r hr => by
      obtain ⟨_, h1, _, h3, _, h5, _⟩ := hrow r (by omega)
      exact ⟨by omega, fun h => by have := h5 h; omega⟩)
    simp only [Rows.uptoBulk] at hk
    have hq : 0 < len → q = ⟨q.block, q.off, none⟩ := fun h0 => by
      have h1 := (hrow 0 (by omega)).1
      obtain ⟨b, o, s⟩ := q
      have hsp : s = none := by simpa [Addr.add] using World.cell?_spot h1
      subst hsp
      rfl
    refine ⟨some q, q.block, q.off, len, cap, A, L, C, fun r => ((A r).map (·.block)).getD 0, fun r => ((A r).map (·.off)).getD 0, fun r i => (Z r)[i]?.getD 0, rfl, fun h0 => congrArg some (hq h0), ?_, ?_, ?_, ?_, ?_, by omega, by omega⟩
    · intro r hr
      have h1 := (hrow r (by omega)).1
      rw [hq (by omega), add_at] at h1
      exact h1
    · intro r hr
      obtain ⟨_, h1, _, h3, _, h5, h6⟩ := hrow r (by omega)
      have hA : 0 < L r → A r = some ⟨((A r).map (·.block)).getD 0, ((A r).map (·.off)).getD 0, none⟩ := fun h0 => by
        cases hAr : A r with
        | none => have := h5 hAr; omega
        | some a' =>
          have h7 := (h6 a' hAr).2 0 (by omega)
          obtain ⟨b, o, s⟩ := a'
          have hsp : s = none := by simpa [Addr.add] using World.cell?_spot h7
          subst hsp
          rfl
      refine ⟨hA, fun i hi => ?_⟩
      have h7 := (h6 _ (hA (by omega))).2 i (by omega)
      rw [add_at] at h7
      rw [h7]
      simp [List.getD_eq_getElem?_getD]
    · intro r hr
      obtain ⟨_, _, _, _, h4, _⟩ := hrow r (by omega)
      exact range_u8 h4
    · intro r hr
      obtain ⟨_, h1, h2, _⟩ := hrow r (by omega)
      exact ⟨h1, h2⟩
    · intro r hr h0
      obtain ⟨_, h1, _, _, _, h5, _⟩ := hrow r (by omega)
      have := h5 h0
      omega
end Go.Proofs.YtbiobejfjhmccaaDoor
