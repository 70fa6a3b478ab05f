/- Codes there and back, as plain functions. -/
import Derived.Test.YtoopcmcmjaikhaaDoorWo
set_option linter.unusedSimpArgs false
set_option linter.unusedVariables false
set_option maxRecDepth 100000
namespace Go.Proofs.YtoopcmcmjaikhaaDoor
open Go.RowKit Go.Lib Go.Sort

/-- What another row's growth leaves of a writer. -/
theorem own_other {T k B B' : Nat} {w w' : World} {p q : Option Addr} {g n c g' n' c' : Nat} {V : Nat → Value} {x : Nat → Nat} (N : VOwn T k B w p g n c V) (hg : w.grownBy w' ((Value.slice p n c).ownBlock)) (hT : 5 ≠ T) (O : Own B' w q g' n' c' x) : Own B' w' q g' n' c' x := by
  refine ⟨?_, O.spot, O.byte, Nat.le_trans O.low hg.size⟩
  obtain ⟨h0, h1⟩ := O.own
  refine ⟨h0, ?_⟩
  rcases h1 with h1 | ⟨gg, cap, cur, e1, e2, e3, e4⟩
  · exact Or.inl h1
  · exact Or.inr ⟨gg, cap, cur, e1, e2, N.other hg hT e3, e4⟩
theorem Wtr.other {D w w' : World} {b bf bw : Nat} {l : List Bool} {T k : Nat} {p : Option Addr} {g n c : Nat} {V : Nat → Value} (h : Wtr D w b bf bw l) (N : VOwn T k D.heap.size w p g n c V) (hg : w.grownBy w' ((Value.slice p n c).ownBlock)) (h1 : 111 ≠ T) (h2 : 3 ≠ T) (h3 : 32 ≠ T) (h4 : 5 ≠ T) : Wtr D w' b bf bw l := by
  obtain ⟨p1, g1, c1, K⟩ := h.at'
  refine ⟨N.other hg h1 h.box, ⟨p1, g1, c1, ⟨K.mem.below.trans (N.under hg (Nat.le_refl _) N.low), fun q hq => ?_, K.mem.nd, K.mem.ge⟩, own_other N hg h4 K.own, K.nb⟩, h.len⟩
  have hh := K.mem.has q hq
  simp only [List.mem_cons, List.not_mem_nil, or_false] at hq
  rcases hq with rfl | rfl
  · exact N.other hg h2 hh
  · exact N.other hg h3 hh
/-- What a box of another kind leaves of a row, and of a writer. -/
theorem VOwn.only {T T' k B b : Nat} {w w' : World} {p : Option Addr} {g n c : Nat} {V : Nat → Value} {cs : Array Value} (N : VOwn T k B w p g n c V) (hb : w.heap[b]? = some (.cells cs T' (0, 0))) (ho : Only b w w') (hT : T ≠ T') : VOwn T k B w' p g n c V := by
  refine ⟨?_, N.spot, N.one, Nat.le_trans N.low ho.size⟩
  obtain ⟨h0, h1⟩ := N.own
  refine ⟨h0, ?_⟩
  rcases h1 with h1 | ⟨gg, cap, cur, e1, e2, e3, e4⟩
  · exact Or.inl h1
  · refine Or.inr ⟨gg, cap, cur, e1, e2, ho.heap (fun e => ?_) e3, e4⟩
    rw [e, hb] at e3
    injection e3 with e3
    injection e3 with _ e3 _
    exact hT e3.symm
theorem heap_only {b k T T' : Nat} {w w' : World} {cs cc : Array Value} (hb : w.heap[b]? = some (.cells cs T' (0, 0))) (ho : Only b w w') (hk : w.heap[k]? = some (.cells cc T (0, 0))) (hT : T ≠ T') : w'.heap[k]? = some (.cells cc T (0, 0)) := by
  refine ho.heap (fun e => ?_) hk
  rw [e, hb] at hk
  injection hk with hk
  injection hk with _ hk _
  exact hT hk.symm
theorem Own.only {B b T' : Nat} {w w' : World} {q : Option Addr} {g' n' c' : Nat} {x : Nat → Nat} {cs : Array Value} (O : Own B w q g' n' c' x) (hb : w.heap[b]? = some (.cells cs T' (0, 0))) (ho : Only b w w') (hT : 5 ≠ T') : Own B w' q g' n' c' x := by
  refine ⟨?_, O.spot, O.byte, Nat.le_trans O.low ho.size⟩
  obtain ⟨h0, h1⟩ := O.own
  refine ⟨h0, ?_⟩
  rcases h1 with h1 | ⟨gg, cap, cur, e1, e2, e3, e4⟩
  · exact Or.inl h1
  · exact Or.inr ⟨gg, cap, cur, e1, e2, heap_only hb ho e3 hT, e4⟩
theorem Wtr.only {D w w' : World} {b bf bw b2 T' : Nat} {l : List Bool} {cs : Array Value} (h : Wtr D w b bf bw l) (hb : w.heap[b2]? = some (.cells cs T' (0, 0))) (ho : Only b2 w w') (hD : D.heap.size ≤ b2) (h1 : 111 ≠ T') (h2 : 3 ≠ T') (h3 : 32 ≠ T') (h4 : 5 ≠ T') : Wtr D w' b bf bw l := by
  obtain ⟨p1, g1, c1, K⟩ := h.at'
  refine ⟨heap_only hb ho h.box h1, ⟨p1, g1, c1, ⟨K.mem.below.trans (ho.below hD K.mem.below.size), fun q hq => ?_, K.mem.nd, K.mem.ge⟩, K.own.only hb ho h4, K.nb⟩, h.len⟩
  have hh := K.mem.has q hq
  simp only [List.mem_cons, List.not_mem_nil, or_false] at hq
  rcases hq with rfl | rfl
  · exact heap_only hb ho hh h2
  · exact heap_only hb ho hh h3
theorem bitAt_pk (l : List Bool) {i : Nat} (h : i < 8 * nB l.length) : bitAt (pk l) i = lb l i := by
  unfold bitAt
  rw [lf_pk _ (by omega), pbf_bit]
  have e : 8 * (i / 8) + 7 - (7 - i % 8) = i := by omega
  rw [e]
  by_cases hi : i < l.length
  · rw [decide_eq_true (by omega), Bool.true_and]
  · rw [decide_eq_false (by omega), Bool.false_and]
    unfold lb
    rw [List.getD_eq_getElem?_getD, List.getElem?_eq_none (by omega)]
    rfl
theorem lb_past (l : List Bool) {i : Nat} (h : l.length ≤ i) : lb l i = false := by
  unfold lb
  rw [List.getD_eq_getElem?_getD, List.getElem?_eq_none h]
  rfl
theorem lb_app (a b : List Bool) (i : Nat) : lb (a ++ b) (a.length + i) = lb b i := by
  unfold lb
  rw [List.getD_eq_getElem?_getD, List.getD_eq_getElem?_getD, List.getElem?_append_right (by omega), Nat.add_sub_cancel_left]
theorem lb_left (a b : List Bool) {i : Nat} (h : i < a.length) : lb (a ++ b) i = lb a i := by
  unfold lb
  rw [List.getD_eq_getElem?_getD, List.getD_eq_getElem?_getD, List.getElem?_append_left h]
theorem lb_bitsOf (n c : Nat) (b : List Bool) {i : Nat} (h : i < c) : lb (bitsOf n c ++ b) i = n.testBit (c - 1 - i) := by
  rw [lb_left _ _ (by rw [bitsOf_length]; exact h)]
  unfold lb bitsOf
  rw [List.getD_eq_getElem?_getD, List.getElem?_map, List.getElem?_range h]
  rfl
/-- Numbers by bits, read back. -/
theorem read_bits (a b : List Bool) (n c : Nat) : valFrom (pk (a ++ (bitsOf n c ++ b))) a.length c = n % 2 ^ c := by
  refine vF_of fun i hi => ?_
  have hl : (a ++ (bitsOf n c ++ b)).length = a.length + (c + b.length) := by simp [bitsOf_length]
  rw [bitAt_pk _ (by rw [hl]; unfold nB; omega), lb_app, lb_bitsOf _ _ _ hi]
/-- The noughts at the end. -/
theorem read_end (l : List Bool) : valFrom (pk l) l.length (8 * nB l.length - l.length) = 0 := by
  have h : valFrom (pk l) l.length (8 * nB l.length - l.length) = 0 % 2 ^ (8 * nB l.length - l.length) := vF_of fun i hi => by
    rw [bitAt_pk _ (by omega), lb_past _ (by omega), Nat.zero_testBit]
  rw [h, Nat.zero_mod]
/-- A code, read. -/
theorem rr_code (f : Nat → Bool) (N r most n : Nat) : ∀ (q fuel t k : Nat), q < fuel → (∀ i, i < q → f (t + i) = true) → f (t + q) = false → (∀ i, i < r → f (t + q + 1 + i) = n.testBit (r - 1 - i)) → t + q + 1 + r ≤ N → k + q ≤ most →
    rr f N r most fuel t k = (((k + q) * 2 ^ r % 18446744073709551616) ||| (n % 2 ^ r), 0, t + q + 1 + r) := by
  intro q
  induction q with
  | zero =>
    intro fuel t k hf h1 h2 h3 h4 h5
    obtain ⟨fuel, rfl⟩ : ∃ g, fuel = g + 1 := ⟨fuel - 1, by omega⟩
    unfold rr
    rw [Nat.add_zero] at h2
    rw [if_neg (by omega), h2, if_neg (by decide), if_pos (by omega), vF_of (n := n) (fun i hi => by have := h3 i hi; rw [Nat.add_zero] at this; exact this)]
    rfl
  | succ q ih =>
    intro fuel t k hf h1 h2 h3 h4 h5
    obtain ⟨fuel, rfl⟩ : ∃ g, fuel = g + 1 := ⟨fuel - 1, by omega⟩
    unfold rr
    have h0 := h1 0 (by omega)
    rw [Nat.add_zero] at h0
    rw [if_neg (by omega), h0, if_pos rfl, if_neg (by omega), ih fuel (t + 1) (k + 1) (by omega) (fun i hi => by have := h1 (i + 1) (by omega); rw [show t + 1 + i = t + (i + 1) by omega]; exact this) (by rw [show t + 1 + q = t + (q + 1) by omega]; exact h2) (fun i hi => by have := h3 i hi; rw [show t + 1 + q + 1 + i = t + (q + 1) + 1 + i by omega]; exact this) (by omega) (by omega)]
    rw [show k + 1 + q = k + (q + 1) by omega, show t + 1 + q + 1 + r = t + (q + 1) + 1 + r by omega]
theorem code_val (n r : Nat) (hn : n < 18446744073709551616) : (n / 2 ^ r * 2 ^ r % 18446744073709551616) ||| (n % 2 ^ r) = n := by
  have h1 : n / 2 ^ r * 2 ^ r ≤ n := Nat.div_mul_le_self n (2 ^ r)
  rw [Nat.mod_eq_of_lt (by omega), Nat.mul_comm]
  have h2 := Nat.two_pow_add_eq_or_of_lt (i := r) (b := n % 2 ^ r) (Nat.mod_lt _ (Nat.two_pow_pos r)) (n / 2 ^ r)
  rw [← h2]
  exact Nat.div_add_mod n (2 ^ r)
theorem codeOf_length (n r : Nat) : (codeOf n r).length = n / 2 ^ r + 1 + r := by
  unfold codeOf
  simp [bitsOf_length]
  omega
/-- A code, read back. -/
theorem read_code (a b : List Bool) (n r most : Nat) (hn : n < 18446744073709551616) (hq : n / 2 ^ r ≤ most) (N : Nat) (hN : N = 8 * (pk (a ++ (codeOf n r ++ b))).length) : rr (bitAt (pk (a ++ (codeOf n r ++ b)))) N r most (N + 1) a.length 0 = (n, 0, (a ++ codeOf n r).length) := by
  have hl : (a ++ (codeOf n r ++ b)).length = a.length + (n / 2 ^ r + 1 + r + b.length) := by simp [codeOf_length]
  rw [pk_length] at hN
  have hb : ∀ i, i < n / 2 ^ r + 1 + r → bitAt (pk (a ++ (codeOf n r ++ b))) (a.length + i) = lb (codeOf n r ++ b) i := fun i hi => by
    rw [bitAt_pk _ (by rw [hl]; unfold nB; omega), lb_app]
  have hN2 : a.length + n / 2 ^ r + 1 + r ≤ N := by rw [hN, hl]; unfold nB; omega
  have e := rr_code (bitAt (pk (a ++ (codeOf n r ++ b)))) N r most n (n / 2 ^ r) (N + 1) a.length 0 (by omega) (fun i hi => by
    rw [hb i (by omega)]
    unfold codeOf lb
    rw [List.append_assoc, List.getD_eq_getElem?_getD, List.getElem?_append_left (by simpa using hi)]
    simp [hi]) (by
    rw [hb _ (by omega)]
    unfold codeOf
    have := lb_app (List.replicate (n / 2 ^ r) true) ((false :: bitsOf n r) ++ b) 0
    rw [List.length_replicate, Nat.add_zero] at this
    rw [List.append_assoc, this]
    rfl) (fun i hi => by
    rw [show a.length + n / 2 ^ r + 1 + i = a.length + (n / 2 ^ r + (1 + i)) by omega, hb _ (by omega)]
    unfold codeOf
    have := lb_app (List.replicate (n / 2 ^ r) true) ((false :: bitsOf n r) ++ b) (1 + i)
    rw [List.length_replicate] at this
    rw [List.append_assoc, this, Nat.add_comm 1 i, List.cons_append]
    show lb (bitsOf n r ++ b) i = _
    exact lb_bitsOf n r b hi) hN2 (by omega)
  rw [e, Nat.zero_add, code_val n r hn, List.length_append, codeOf_length]
  rw [show a.length + n / 2 ^ r + 1 + r = a.length + (n / 2 ^ r + 1 + r) by omega]
/-- Some texts of bits, one behind the other. -/
def cats (f : Nat → List Bool) : Nat → List Bool
  | 0 => []
  | j + 1 => cats f j ++ f j
theorem cats_split (f : Nat → List Bool) : ∀ (m j : Nat), j < m → ∃ b, cats f m = cats f j ++ (f j ++ b) := by
  intro m
  induction m with
  | zero => intro j h; omega
  | succ m ih =>
    intro j h
    rcases Nat.lt_or_ge j m with q | q
    · obtain ⟨b, hb⟩ := ih j q
      exact ⟨b ++ f m, by rw [cats, hb]; simp⟩
    · obtain rfl : j = m := by omega
      exact ⟨[], by rw [cats]; simp⟩
theorem cats_le (f : Nat → List Bool) (K : Nat) (h : ∀ i, (f i).length ≤ K) : ∀ j, (cats f j).length ≤ j * K := by
  intro j
  induction j with
  | zero => simp [cats]
  | succ j ih =>
    rw [cats, List.length_append, Nat.add_mul]
    have := h j
    omega
end Go.Proofs.YtoopcmcmjaikhaaDoor

