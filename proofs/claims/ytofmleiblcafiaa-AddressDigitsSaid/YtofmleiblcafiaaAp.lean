/- Digits: a number in places of a base, and back. Nothing of the program stands here. -/
import Derived.Test.YtofmleiblcafiaaTb
set_option linter.unusedSimpArgs false
set_option linter.unusedVariables false
namespace Go.Proofs.Ytofmleiblcafiaa

/-- The digits of n in base b, the lowest first. -/
def digf (b : Nat) : Nat → Nat → List Nat
  | 0, _ => []
  | f + 1, n => if n = 0 then [] else n % b :: digf b f (n / b)
def dig (b n : Nat) : List Nat := digf b n n
theorem digf_eq {b : Nat} (hb : 2 ≤ b) : ∀ (f n : Nat), n ≤ f → digf b f n = dig b n := by
  have key : ∀ (n f g : Nat), n ≤ f → n ≤ g → digf b f n = digf b g n := by
    intro n
    induction n using Nat.strongRecOn with
    | _ n ih =>
      intro f g hf hg
      rcases Nat.eq_zero_or_pos n with h | h
      · subst h
        cases f <;> cases g <;> simp [digf]
      · obtain ⟨f, rfl⟩ : ∃ k, f = k + 1 := ⟨f - 1, by omega⟩
        obtain ⟨g, rfl⟩ : ∃ k, g = k + 1 := ⟨g - 1, by omega⟩
        have hl : n / b < n := Nat.div_lt_self h (by omega)
        unfold digf
        rw [if_neg (by omega), if_neg (by omega), ih (n / b) hl f g (by omega) (by omega)]
  exact fun f n h => key n f n h (Nat.le_refl _)
theorem dig_zero (b : Nat) : dig b 0 = [] := rfl
theorem dig_pos {b n : Nat} (hb : 2 ≤ b) (hn : 0 < n) : dig b n = n % b :: dig b (n / b) := by
  obtain ⟨k, rfl⟩ : ∃ k, n = k + 1 := ⟨n - 1, by omega⟩
  have hl : (k + 1) / b < k + 1 := Nat.div_lt_self hn (by omega)
  show digf b (k + 1) (k + 1) = _
  unfold digf
  rw [if_neg (by omega), digf_eq hb k _ (by omega)]
/-- The number that digits say, the lowest first. -/
def val (b : Nat) : List Nat → Nat
  | [] => 0
  | x :: xs => x + b * val b xs
theorem val_dig {b : Nat} (hb : 2 ≤ b) (n : Nat) : val b (dig b n) = n := by
  induction n using Nat.strongRecOn with
  | _ n ih =>
    rcases Nat.eq_zero_or_pos n with h | h
    · subst h; rfl
    · rw [dig_pos hb h]
      show n % b + b * val b (dig b (n / b)) = n
      rw [ih _ (Nat.div_lt_self h (by omega))]
      exact Nat.mod_add_div n b
theorem dig_lt {b : Nat} (hb : 2 ≤ b) (n : Nat) : ∀ x, x ∈ dig b n → x < b := by
  induction n using Nat.strongRecOn with
  | _ n ih =>
    rcases Nat.eq_zero_or_pos n with h | h
    · subst h; intro x hx; cases hx
    · rw [dig_pos hb h]
      intro x hx
      rcases List.mem_cons.1 hx with rfl | hx
      · exact Nat.mod_lt _ (by omega)
      · exact ih _ (Nat.div_lt_self h (by omega)) x hx
theorem dig_nil {b n : Nat} (hb : 2 ≤ b) : dig b n = [] ↔ n = 0 := by
  constructor
  · intro h
    rcases Nat.eq_zero_or_pos n with q | q
    · exact q
    · rw [dig_pos hb q] at h; cases h
  · rintro rfl; rfl
theorem dig_getD {b : Nat} (hb : 2 ≤ b) (i : Nat) : ∀ n, (dig b n).getD i 0 = n / b ^ i % b := by
  induction i with
  | zero =>
    intro n
    rcases Nat.eq_zero_or_pos n with h | h
    · subst h; simp [dig_zero]
    · rw [dig_pos hb h]; simp
  | succ i ih =>
    intro n
    rcases Nat.eq_zero_or_pos n with h | h
    · subst h; simp [dig_zero]
    · rw [dig_pos hb h]
      show (dig b (n / b)).getD i 0 = _
      rw [ih, Nat.div_div_eq_div_mul, Nat.pow_succ, Nat.mul_comm b]
theorem dig_len_le {b : Nat} (hb : 2 ≤ b) (k : Nat) : ∀ n, (dig b n).length ≤ k ↔ n < b ^ k := by
  induction k with
  | zero =>
    intro n
    rw [Nat.le_zero, List.length_eq_zero_iff, dig_nil hb, Nat.pow_zero]
    omega
  | succ k ih =>
    intro n
    rcases Nat.eq_zero_or_pos n with h | h
    · subst h; simp [dig_zero]; exact Nat.pow_pos (by omega)
    · rw [dig_pos hb h, List.length_cons, Nat.succ_le_succ_iff, ih, Nat.pow_succ, Nat.div_lt_iff_lt_mul (by omega)]
theorem dig_mono {b : Nat} (hb : 2 ≤ b) {m n : Nat} (h : m ≤ n) : (dig b m).length ≤ (dig b n).length :=
  (dig_len_le hb _ m).2 (Nat.lt_of_le_of_lt h ((dig_len_le hb _ n).1 (Nat.le_refl _)))
/-- The first L digits, and those of what is left. -/
theorem dig_split {b : Nat} (hb : 2 ≤ b) (L : Nat) : ∀ n, L ≤ (dig b n).length → dig b n = (dig b n).take L ++ dig b (n / b ^ L) := by
  induction L with
  | zero => intro n _; simp
  | succ L ih =>
    intro n h
    rcases Nat.eq_zero_or_pos n with q | q
    · subst q; simp [dig_zero] at h
    · have e := dig_pos hb q
      rw [e] at h ⊢
      have h2 := ih (n / b) (by simpa using h)
      rw [List.take_succ_cons, List.cons_append, Nat.pow_succ, Nat.mul_comm, ← Nat.div_div_eq_div_mul]
      rw [← h2]
/-- Digits that end with no nought are those of the number that they say. -/
theorem dig_val {b : Nat} (hb : 2 ≤ b) : ∀ l : List Nat, (∀ x, x ∈ l → x < b) → (∀ h : l ≠ [], l.getLast h ≠ 0) → dig b (val b l) = l
  | [], _, _ => rfl
  | x :: xs, hx, hl => by
    have hx0 := hx x List.mem_cons_self
    have ih := dig_val hb xs (fun y hy => hx y (List.mem_cons_of_mem _ hy)) (fun h => by have := hl (by simp); rwa [List.getLast_cons h] at this)
    have hv : val b (x :: xs) = x + b * val b xs := rfl
    have hpos : 0 < val b (x :: xs) := by
      rw [hv]
      cases xs with
      | nil =>
        have := hl (by simp)
        simp at this
        omega
      | cons y ys =>
        have h2 : 0 < val b (y :: ys) := by
          rcases Nat.eq_zero_or_pos (val b (y :: ys)) with q | q
          · rw [q] at ih; cases ih
          · exact q
        have := Nat.mul_pos (show 0 < b by omega) h2
        omega
    rw [dig_pos hb hpos, hv, Nat.add_mul_mod_self_left, Nat.mod_eq_of_lt hx0, Nat.add_mul_div_left _ _ (by omega), Nat.div_eq_of_lt hx0, Nat.zero_add, ih]
theorem snoc_ind {p : List Nat → Prop} (h0 : p []) (h1 : ∀ l x, p l → p (l ++ [x])) (l : List Nat) : p l := by
  have key : ∀ r : List Nat, p r.reverse := fun r => by
    induction r with
    | nil => exact h0
    | cons x xs ih => rw [List.reverse_cons]; exact h1 _ _ ih
  have := key l.reverse
  rwa [List.reverse_reverse] at this
/-- The number that places say, the highest first. -/
def acc (b : Nat) (ps : List Nat) : Nat := ps.foldl (fun v p => v * b + p) 0
theorem acc_snoc (b : Nat) (ps : List Nat) (p : Nat) : acc b (ps ++ [p]) = acc b ps * b + p := by unfold acc; rw [List.foldl_append]; rfl
theorem acc_val (b : Nat) (ps : List Nat) : acc b ps = val b ps.reverse := by
  refine snoc_ind (p := fun ps => acc b ps = val b ps.reverse) rfl (fun ps p ih => ?_) ps
  rw [acc_snoc, List.reverse_append]
  show _ = p + b * val b ps.reverse
  rw [← ih, Nat.mul_comm]; omega
/-- How many noughts stand ahead. -/
def lz : List Nat → Nat
  | [] => 0
  | x :: xs => if x = 0 then lz xs + 1 else 0
theorem lz_le : ∀ l : List Nat, lz l ≤ l.length
  | [] => Nat.le_refl _
  | x :: xs => by
    unfold lz
    have := lz_le xs
    split <;> simp <;> omega
theorem lz_get {l : List Nat} {i : Nat} (h : i < lz l) : l.getD i 0 = 0 := by
  induction l generalizing i with
  | nil => rfl
  | cons x xs ih =>
    unfold lz at h
    split at h
    · rename_i hx
      cases i with
      | zero => simpa using hx
      | succ i => simpa using ih (by omega)
    · omega
theorem lz_end {l : List Nat} (h : lz l < l.length) : l.getD (lz l) 0 ≠ 0 := by
  induction l with
  | nil => cases h
  | cons x xs ih =>
    unfold lz at h ⊢
    split
    · rename_i hx
      rw [if_pos hx] at h
      simp only [List.length_cons] at h
      simpa using ih (by omega)
    · simpa using (by assumption : ¬ x = 0)
theorem lz_split (l : List Nat) : l = List.replicate (lz l) 0 ++ l.drop (lz l) := by
  induction l with
  | nil => rfl
  | cons x xs ih =>
    unfold lz
    split
    · rename_i hx
      subst hx
      rw [List.replicate_succ, List.drop_succ_cons, List.cons_append, ← ih]
    · rfl
theorem acc_zeros (b k : Nat) (l : List Nat) : acc b (List.replicate k 0 ++ l) = acc b l := by
  unfold acc
  rw [List.foldl_append]
  congr 1
  induction k with
  | zero => rfl
  | succ k ih => rw [List.replicate_succ, List.foldl_cons]; simpa using ih
/-- A number in places of another base: without noughts ahead, but for as many as stand there already. -/
def reb (b c : Nat) (ps : List Nat) : List Nat := List.replicate (lz ps) 0 ++ (dig c (acc b ps)).reverse
theorem reb_lt {b c : Nat} (hc : 2 ≤ c) (ps : List Nat) : ∀ x, x ∈ reb b c ps → x < c := fun x hx => by
  unfold reb at hx
  rcases List.mem_append.1 hx with hx | hx
  · have := (List.mem_replicate.1 hx).2; omega
  · exact dig_lt hc _ x (List.mem_reverse.1 hx)
theorem lz_rep {k : Nat} {l : List Nat} (h : ∀ hl : l ≠ [], l.head hl ≠ 0) : lz (List.replicate k 0 ++ l) = k := by
  induction k with
  | zero =>
    cases l with
    | nil => rfl
    | cons x xs =>
      have := h (by simp)
      simp at this
      show lz (x :: xs) = 0
      unfold lz
      rw [if_neg this]
  | succ k ih =>
    rw [List.replicate_succ, List.cons_append]
    unfold lz
    rw [if_pos rfl, ih]
theorem dig_last {b : Nat} (hb : 2 ≤ b) (n : Nat) : ∀ h : dig b n ≠ [], (dig b n).getLast h ≠ 0 := by
  induction n using Nat.strongRecOn with
  | _ n ih =>
    intro h
    rcases Nat.eq_zero_or_pos n with q | q
    · subst q; exact absurd (dig_zero b) h
    · by_cases hz : n / b = 0
      · have e : dig b n = [n % b] := by rw [dig_pos hb q, hz, dig_zero]
        simp only [e, List.getLast_singleton]
        have := Nat.mod_add_div n b
        rw [hz] at this
        omega
      · have hne : dig b (n / b) ≠ [] := fun e => hz ((dig_nil hb).1 e)
        have := ih (n / b) (Nat.div_lt_self q (by omega)) hne
        have e : dig b n = n % b :: dig b (n / b) := dig_pos hb q
        simp only [e, List.getLast_cons hne]
        exact this
theorem rev_head {b : Nat} (hb : 2 ≤ b) (n : Nat) : ∀ hl : (dig b n).reverse ≠ [], (dig b n).reverse.head hl ≠ 0 := fun hl => by
  have hne : dig b n ≠ [] := fun e => hl (by rw [e]; rfl)
  rw [List.head_reverse]
  exact dig_last hb n hne
/-- There and back. -/
theorem reb_back {b c : Nat} (hb : 2 ≤ b) (hc : 2 ≤ c) {ps : List Nat} (hp : ∀ x, x ∈ ps → x < b) : reb c b (reb b c ps) = ps := by
  have h1 : lz (reb b c ps) = lz ps := lz_rep (rev_head hc _)
  have h2 : acc c (reb b c ps) = acc b ps := by
    unfold reb
    rw [acc_zeros, acc_val, List.reverse_reverse, val_dig hc]
  show List.replicate (lz (reb b c ps)) 0 ++ (dig b (acc c (reb b c ps))).reverse = ps
  rw [h1, h2]
  conv => rhs; rw [lz_split ps]
  congr 1
  have h3 : acc b ps = val b (ps.drop (lz ps)).reverse := by
    conv => lhs; rw [lz_split ps]
    rw [acc_zeros, acc_val]
  rw [h3, dig_val hb _ (fun x hx => hp x (List.mem_of_mem_drop (List.mem_reverse.1 hx))), List.reverse_reverse]
  intro h
  rw [List.getLast_reverse]
  have hd : lz ps < ps.length := by
    rcases Nat.lt_or_ge (lz ps) ps.length with q | q
    · exact q
    · exact absurd (by rw [List.drop_eq_nil_of_le q]; rfl) h
  have e := lz_end hd
  rw [List.head_drop]
  rw [List.getD_eq_getElem?_getD, List.getElem?_eq_getElem hd] at e
  simpa using e
theorem acc_lt {b : Nat} (hb : 0 < b) : ∀ ps : List Nat, (∀ x, x ∈ ps → x < b) → acc b ps < b ^ ps.length := by
  refine snoc_ind (p := fun ps => (∀ x, x ∈ ps → x < b) → acc b ps < b ^ ps.length) (fun _ => by simp [acc]) ?_
  · intro ps p ih h
    have h1 := ih fun x hx => h x (List.mem_append_left _ hx)
    have h2 := h p (by simp)
    rw [acc_snoc, List.length_append, List.length_singleton, Nat.pow_succ]
    calc acc b ps * b + p < acc b ps * b + b := by omega
      _ = (acc b ps + 1) * b := by rw [Nat.add_mul, Nat.one_mul]
      _ ≤ b ^ ps.length * b := Nat.mul_le_mul_right b h1
/-- The carry of a step. -/
theorem step_div {c b V p L : Nat} (hc : 0 < c) {m x : Nat} (hm : (V * b + p) / c ^ L = m + b * (V / c ^ L)) (hx : x = V / c ^ L % c) : (V * b + p) / c ^ (L + 1) = (m + x * b) / c + b * (V / c ^ (L + 1)) ∧ (V * b + p) / c ^ L % c = (m + x * b) % c := by
  have e : V / c ^ L = x + c * (V / c ^ (L + 1)) := by
    rw [hx, Nat.pow_succ, ← Nat.div_div_eq_div_mul]
    exact (Nat.mod_add_div _ _).symm
  have e2 : (V * b + p) / c ^ L = (m + x * b) + c * (b * (V / c ^ (L + 1))) := by
    rw [hm, e, Nat.mul_add, Nat.mul_comm b x]
    have : b * (c * (V / c ^ (L + 1))) = c * (b * (V / c ^ (L + 1))) := by rw [← Nat.mul_assoc, Nat.mul_comm b c, Nat.mul_assoc]
    omega
  constructor
  · rw [Nat.pow_succ, ← Nat.div_div_eq_div_mul, e2, Nat.add_mul_div_left _ _ hc, Nat.pow_succ]
  · rw [e2, Nat.add_mul_mod_self_left]
theorem carry_lt {c b m x : Nat} (hm : m < b) (hx : x < c) : (m + x * b) / c < b := by
  have h : m + x * b < b * c := by
    calc m + x * b < b + x * b := by omega
      _ = (x + 1) * b := by rw [Nat.add_mul, Nat.one_mul, Nat.add_comm]
      _ ≤ c * b := Nat.mul_le_mul_right b hx
      _ = b * c := Nat.mul_comm _ _
  exact (Nat.div_lt_iff_lt_mul (by omega)).2 h
end Go.Proofs.Ytofmleiblcafiaa
