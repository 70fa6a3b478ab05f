/- Targets, bits, work and what comes behind a span: the program's and the document's, all cases. -/
import Derived.Test.YtboffheklkhnkaaNext
import Derived.Test.YtboffheklkhnkaaRnext
import Derived.Test.YtboffheklkhnkaaTgtp
import Derived.Test.YtboffheklkhnkaaRwork
set_option linter.unusedSimpArgs false
set_option linter.unusedVariables false
namespace Go.Proofs.Ytboffheklkhnkaa
open Go.RowKit Go.Lib Go.Sort

def tE (b : Nat) : Nat := if isT b then tOf b else 0
def eE (b : Nat) : Int := if isT b then 0 else 40
def wE (b : Nat) : Nat := if isT b then workOf (tOf b) else 0
theorem expand_any (b : Nat) (hb : b < 4294967296) : Gives 43 #[.int .u32 (b : Int)] (.tuple #[wide (tE b), .int .i64 (eE b)]) := by
  unfold tE eE
  by_cases h : isT b
  · rw [if_pos h, if_pos h]; exact expand_on b hb h
  · rw [if_neg h, if_neg h]; exact expand_off b hb h
theorem ref_expand_any (b : Nat) (hb : b < 4294967296) : Gives 44 #[.int .u32 (b : Int)] (.tuple #[wide (tE b), .int .i64 (eE b)]) := by
  unfold tE eE
  by_cases h : isT b
  · rw [if_pos h, if_pos h]; exact ref_expand_on b hb h
  · rw [if_neg h, if_neg h]; exact ref_expand_off b hb h
theorem work_any (b : Nat) (hb : b < 4294967296) : Gives 45 #[.int .u32 (b : Int)] (.tuple #[wide (wE b), .int .i64 (eE b)]) := by
  unfold wE eE
  by_cases h : isT b
  · rw [if_pos h, if_pos h]; exact work_on b hb h
  · rw [if_neg h, if_neg h]; exact work_off b hb h
theorem ref_work_any (b : Nat) (hb : b < 4294967296) : Gives 46 #[.int .u32 (b : Int)] (.tuple #[wide (wE b), .int .i64 (eE b)]) := by
  unfold wE eE
  by_cases h : isT b
  · rw [if_pos h, if_pos h]; exact ref_work_on b hb h
  · rw [if_neg h, if_neg h]; exact ref_work_off b hb h
/-- Whether a number's hash meets bits. -/
def meetsB (n b : Nat) : Bool := if isT b then decide (cmp3 n (tOf b) ≤ 0) else false
theorem meets_any (n b : Nat) (hn : n < P256) (hb : b < 4294967296) : Gives 50 #[.agg (arr 32 (bl (byteAt n))), .int .u32 (b : Int)] (.bool (meetsB n b)) := by
  unfold meetsB
  by_cases h : isT b
  · rw [if_pos h]; exact meets_on (byteAt n) b (tOf b) n (cmp3 n (tOf b)) _ rfl (Lib.hid (expand_on b hb h)) (Lib.hid (of_any n hn)) (Lib.hid (compare_any n (tOf b) hn (tOf_lt h)))
  · rw [if_neg h]; exact meets_off (byteAt n) b (Lib.hid (expand_off b hb h))
theorem ref_meets_any (n b : Nat) (hn : n < P256) (hb : b < 4294967296) : Gives 51 #[.agg (arr 32 (bl (byteAt n))), .int .u32 (b : Int)] (.bool (meetsB n b)) := by
  unfold meetsB
  by_cases h : isT b
  · rw [if_pos h]; exact rmeets_on (byteAt n) b (tOf b) n (cmp3 n (tOf b)) _ rfl (Lib.hid (ref_expand_on b hb h)) (Lib.hid (ref_of_any n hn)) (Lib.hid (ref_compare_any n (tOf b) hn (tOf_lt h)))
  · rw [if_neg h]; exact rmeets_off (byteAt n) b (Lib.hid (ref_expand_off b hb h))

/-- A number held between 1 and another. -/
def held2 (q l : Nat) : Nat := if q = 0 then (if l < 1 then l else 1) else if l < q then l else q
theorem held2_lt {q l : Nat} (hl : l < P256) : held2 q l < P256 := by
  unfold held2
  rw [P256_num] at *
  split <;> split <;> omega
theorem within_is (q l : Nat) (hq : q < P256) (hl : l < P256) (h0 : 0 < l) : Gives 64 #[wide q, wide 1, wide l] (wide (held2 q l)) := by
  unfold held2
  have h1 : (1 : Nat) < P256 := by decide
  by_cases hz : q = 0
  · have a := compare_any q 1 hq h1
    have b := compare_any 1 l h1 hl
    rw [cmp3_lt (by omega : q < 1)] at a
    have hc : decide (0 < cmp3 1 l) = false := by unfold cmp3; split <;> (try split) <;> first | rfl | omega
    rw [if_pos hz, if_neg (by omega)]
    exact within_lm q 1 l _ hc (Lib.hid a) (Lib.hid b)
  · have a := compare_any q 1 hq h1
    have b := compare_any q l hq hl
    have hc : decide (cmp3 q 1 < 0) = false := by unfold cmp3; rw [if_neg (by omega)]; split <;> rfl
    rw [if_neg hz]
    by_cases hx : l < q
    · rw [if_pos hx]
      rw [cmp3_gt hx] at b
      exact within_al q 1 l _ hc (Lib.hid a) (Lib.hid b)
    · rw [if_neg hx]
      have hd : decide (0 < cmp3 q l) = false := by unfold cmp3; split <;> (try split) <;> first | rfl | omega
      exact within_am q 1 l _ _ hc hd (Lib.hid a) (Lib.hid b)
/-- A number times one (all bits, if that goes over), by another. -/
def scaled (t u k : Nat) : Nat := (if P256 ≤ t * u then P256 - 1 else t * u) / k
theorem scaled_lt (t u k : Nat) : scaled t u k < P256 := by
  unfold scaled
  have h : (if P256 ≤ t * u then P256 - 1 else t * u) < P256 := by split <;> (rw [P256_num] at *; omega)
  exact Nat.lt_of_le_of_lt (Nat.div_le_self _ _) h
theorem scale_is (t u d : Nat) (ht : t < P256) (hu : u < 18446744073709551616) (hd : d < 18446744073709551616) (h0 : d ≠ 0) : Gives 62 #[wide t, .int .u64 (u : Int), .int .u64 (d : Int)] (wide (scaled t u d)) := by
  have hP : (18446744073709551616 : Nat) < P256 := by decide
  unfold scaled
  have m := mul_any t u ht (by omega)
  by_cases h : P256 ≤ t * u
  · rw [if_pos h]
    rw [decide_eq_true h] at m
    have s := sub_any 0 1 (by decide) (by decide)
    have e : 0 + P256 - 1 = P256 - 1 := by rw [Nat.zero_add]
    rw [e] at s
    exact scale_over t u d (t * u) (P256 - 1) _ _ _ hu hd (Lib.hid m) (Lib.hid s) (Lib.hid (div_any (P256 - 1) d (by decide) (by omega) h0))
  · rw [if_neg h]
    rw [decide_eq_false h] at m
    exact scale_in t u d (t * u) _ _ hu hd (Lib.hid m) (Lib.hid (div_any (t * u) d (by omega) (by omega) h0))
def spanOf (s : Int) (k : Nat) : Nat := (min (max s ((k : Int) / 4)) ((k : Int) * 4)).toNat
theorem spanOf_int (s : Int) (k : Nat) : min (max s ((k : Int) / 4)) ((k : Int) * 4) = (spanOf s k : Int) := by
  unfold spanOf
  rw [Int.toNat_of_nonneg]
  omega
theorem spanOf_lt (s : Int) (k : Nat) (hk : k ≤ 1073741824) : spanOf s k < 18446744073709551616 := by
  have := spanOf_int s k
  omega
theorem span_is (s : Int) (k : Nat) (h1 : -9223372036854775808 ≤ s) (h2 : s ≤ 9223372036854775807) (hk : 4 ≤ k) (hk2 : k ≤ 1073741824) : Gives 63 #[.int .i64 s, .int .i64 (k : Int)] (.int .u64 (spanOf s k : Int)) := by
  rw [← spanOf_int]
  exact span_walk s k h1 h2 (by omega) (by omega)
/-- What comes behind a span. -/
def nextT (t l : Nat) (s : Int) (k : Nat) : Nat := held2 (scaled t (spanOf s k) k) l
def nextV (b m : Nat) (s k : Int) : Nat := if isT b ∧ isT m ∧ 4 ≤ k ∧ k ≤ 1073741824 then cpt (nextT (tOf b) (tOf m) s k.toNat) else 0
def nextE (b m : Nat) (k : Int) : Int := if ¬ isT b ∨ ¬ isT m then 40 else if 4 ≤ k ∧ k ≤ 1073741824 then 0 else 1
theorem next_any (b m : Nat) (s k : Int) (hb : b < 4294967296) (hm : m < 4294967296) (h1 : -9223372036854775808 ≤ s) (h2 : s ≤ 9223372036854775807) :
    Gives 52 #[.int .u32 (b : Int), .int .u32 (m : Int), .int .i64 s, .int .i64 k] (.tuple #[.int .u32 (nextV b m s k : Int), .int .i64 (nextE b m k)]) := by
  unfold nextV nextE
  by_cases hB : ¬ isT b
  · rw [if_neg (fun h => hB h.1), if_pos (.inl hB)]
    exact next_off1 b m s k (Lib.hid (expand_off b hb hB))
  by_cases hM : ¬ isT m
  · rw [if_neg (fun h => hM h.2.1), if_pos (.inr hM)]
    exact next_off2 b m (tOf b) s k (Lib.hid (expand_on b hb (Decidable.not_not.1 hB))) (Lib.hid (expand_off m hm hM))
  replace hB := Decidable.not_not.1 hB
  replace hM := Decidable.not_not.1 hM
  rw [if_neg (fun h => h.elim (fun h => h hB) (fun h => h hM) : ¬ (¬ isT b ∨ ¬ isT m))]
  by_cases hl : k < 4
  · rw [if_neg (fun h => by omega), if_neg (by omega)]
    exact next_low b m (tOf b) (tOf m) s k (decide_eq_true hl) (Lib.hid (expand_on b hb hB)) (Lib.hid (expand_on m hm hM))
  by_cases hh : 1073741824 < k
  · rw [if_neg (fun h => by omega), if_neg (by omega)]
    exact next_high b m (tOf b) (tOf m) s k (decide_eq_false hl) (decide_eq_true hh) (Lib.hid (expand_on b hb hB)) (Lib.hid (expand_on m hm hM))
  obtain ⟨n, rfl⟩ : ∃ n : Nat, k = (n : Int) := ⟨k.toNat, by omega⟩
  rw [if_pos ⟨hB, hM, by omega, by omega⟩, if_pos (by omega), Int.toNat_natCast]
  have hq := scaled_lt (tOf b) (spanOf s n) n
  exact next_on b m (tOf b) (tOf m) (spanOf s n) (scaled (tOf b) (spanOf s n) n) (nextT (tOf b) (tOf m) s n) (cpt (nextT (tOf b) (tOf m) s n)) s n (by omega) (by omega)
    (Lib.hid (expand_on b hb hB)) (Lib.hid (expand_on m hm hM)) (Lib.hid (span_is s n h1 h2 (by omega) (by omega))) (Lib.hid (scale_is (tOf b) (spanOf s n) n (tOf_lt hB) (spanOf_lt s n (by omega)) (by omega) (by omega)))
    (Lib.hid (within_is _ _ hq (tOf_lt hM) (tOf_pos hM))) (Lib.hid (compact_any _ (held2_lt (tOf_lt hM))))
theorem ref_next_any (b m : Nat) (s k : Int) (hb : b < 4294967296) (hm : m < 4294967296) (h1 : -9223372036854775808 ≤ s) (h2 : s ≤ 9223372036854775807) :
    Gives 53 #[.int .u32 (b : Int), .int .u32 (m : Int), .int .i64 s, .int .i64 k] (.tuple #[.int .u32 (nextV b m s k : Int), .int .i64 (nextE b m k)]) := by
  unfold nextV nextE
  by_cases hB : ¬ isT b
  · rw [if_neg (fun h => hB h.1), if_pos (.inl hB)]
    exact rnexti_off1 b m (tE m) s k (eE m) (Lib.hid (ref_expand_off b hb hB)) (Lib.hid (ref_expand_any m hm))
  by_cases hM : ¬ isT m
  · rw [if_neg (fun h => hM h.2.1), if_pos (.inr hM)]
    exact rnexti_off2 b m (tOf b) s k (Lib.hid (ref_expand_on b hb (Decidable.not_not.1 hB))) (Lib.hid (ref_expand_off m hm hM))
  replace hB := Decidable.not_not.1 hB
  replace hM := Decidable.not_not.1 hM
  rw [if_neg (fun h => h.elim (fun h => h hB) (fun h => h hM) : ¬ (¬ isT b ∨ ¬ isT m))]
  have X1 := Lib.hid (ref_expand_on b hb hB)
  have X2 := Lib.hid (ref_expand_on m hm hM)
  by_cases hl : k < 4
  · rw [if_neg (fun h => by omega), if_neg (by omega)]
    exact rnexti_low b m (tOf b) (tOf m) s k (decide_eq_true hl) X1 X2
  by_cases hh : 1073741824 < k
  · rw [if_neg (fun h => by omega), if_neg (by omega)]
    exact rnexti_high b m (tOf b) (tOf m) s k (decide_eq_false hl) (decide_eq_true hh) X1 X2
  obtain ⟨n, rfl⟩ : ∃ n : Nat, k = (n : Int) := ⟨k.toNat, by omega⟩
  rw [if_pos ⟨hB, hM, by omega, by omega⟩, if_pos (by omega), Int.toNat_natCast]
  have hu := spanOf_int s n
  have lu := spanOf_lt s n (by omega)
  have hP : (18446744073709551616 : Nat) < P256 := by decide
  have tl := tOf_lt hM
  have tp := tOf_pos hM
  have mu := ref_mul_any (tOf b) (spanOf s n) (tOf_lt hB) (by omega)
  have hq := scaled_lt (tOf b) (spanOf s n) n
  have cp := ref_compact_any (nextT (tOf b) (tOf m) s n) (held2_lt tl)
  unfold nextT at cp ⊢
  have hk1 : (4 : Int) ≤ (n : Int) := by omega
  have hk2 : (n : Int) ≤ 1073741824 := by omega
  have hn0 : n ≠ 0 := by omega
  have hnP : n < P256 := by omega
  generalize hv : spanOf s n = u at *
  by_cases ho : P256 ≤ tOf b * u
  · rw [decide_eq_true ho] at mu
    have dv := ref_div_any (P256 - 1) n (by decide) hnP hn0
    have es : scaled (tOf b) u n = (P256 - 1) / n := by unfold scaled; rw [if_pos ho]
    rw [es] at hq cp ⊢
    by_cases hz : (P256 - 1) / n = 0
    · rw [hz] at dv cp ⊢
      have e1 : held2 0 (tOf m) = 1 := by unfold held2; rw [if_pos rfl, if_neg (by omega)]
      rw [e1] at cp ⊢
      have cm := ref_compare_any 1 (tOf m) (by decide) tl
      have hx : decide (0 < cmp3 1 (tOf m)) = false := by unfold cmp3; split <;> (try split) <;> first | rfl | omega
      exact rnext_on110 b m (tOf b) (tOf m) u n _ (P256 - 1) 0 _ _ s _ h1 h2 hk1 hk2 hu built_ones hx X1 X2 (Lib.hid mu) (Lib.hid dv) (Lib.hid cm) (Lib.hid cp)
    · have sm := ne_zero_eq ((P256 - 1) / n) hq hz
      have cm := ref_compare_any ((P256 - 1) / n) (tOf m) hq tl
      by_cases hc : tOf m < (P256 - 1) / n
      · have e1 : held2 ((P256 - 1) / n) (tOf m) = tOf m := by unfold held2; rw [if_neg hz, if_pos hc]
        rw [e1] at cp ⊢
        rw [cmp3_gt hc] at cm
        exact rnext_on101 b m (tOf b) (tOf m) u n _ (P256 - 1) _ _ _ s _ h1 h2 hk1 hk2 hu built_ones rfl sm X1 X2 (Lib.hid mu) (Lib.hid dv) (Lib.hid cm) (Lib.hid cp)
      · have e1 : held2 ((P256 - 1) / n) (tOf m) = (P256 - 1) / n := by unfold held2; rw [if_neg hz, if_neg hc]
        rw [e1] at cp ⊢
        have hx : decide (0 < cmp3 ((P256 - 1) / n) (tOf m)) = false := by unfold cmp3; split <;> (try split) <;> first | rfl | omega
        exact rnext_on100 b m (tOf b) (tOf m) u n _ (P256 - 1) _ _ _ s _ h1 h2 hk1 hk2 hu built_ones hx sm X1 X2 (Lib.hid mu) (Lib.hid dv) (Lib.hid cm) (Lib.hid cp)
  · rw [decide_eq_false ho] at mu
    have dv := ref_div_any (tOf b * u) n (by omega) hnP hn0
    have es : scaled (tOf b) u n = tOf b * u / n := by unfold scaled; rw [if_neg ho]
    rw [es] at hq cp ⊢
    by_cases hz : tOf b * u / n = 0
    · rw [hz] at dv cp ⊢
      have e1 : held2 0 (tOf m) = 1 := by unfold held2; rw [if_pos rfl, if_neg (by omega)]
      rw [e1] at cp ⊢
      have cm := ref_compare_any 1 (tOf m) (by decide) tl
      have hx : decide (0 < cmp3 1 (tOf m)) = false := by unfold cmp3; split <;> (try split) <;> first | rfl | omega
      exact rnext_on010 b m (tOf b) (tOf m) u n (tOf b * u) 0 0 _ _ s _ h1 h2 hk1 hk2 hu hx X1 X2 (Lib.hid mu) (Lib.hid dv) (Lib.hid cm) (Lib.hid cp)
    · have sm := ne_zero_eq (tOf b * u / n) hq hz
      have cm := ref_compare_any (tOf b * u / n) (tOf m) hq tl
      by_cases hc : tOf m < tOf b * u / n
      · have e1 : held2 (tOf b * u / n) (tOf m) = tOf m := by unfold held2; rw [if_neg hz, if_pos hc]
        rw [e1] at cp ⊢
        rw [cmp3_gt hc] at cm
        exact rnext_on001 b m (tOf b) (tOf m) u n _ 0 _ _ _ s _ h1 h2 hk1 hk2 hu rfl sm X1 X2 (Lib.hid mu) (Lib.hid dv) (Lib.hid cm) (Lib.hid cp)
      · have e1 : held2 (tOf b * u / n) (tOf m) = tOf b * u / n := by unfold held2; rw [if_neg hz, if_neg hc]
        rw [e1] at cp ⊢
        have hx : decide (0 < cmp3 (tOf b * u / n) (tOf m)) = false := by unfold cmp3; split <;> (try split) <;> first | rfl | omega
        exact rnext_on000 b m (tOf b) (tOf m) u n _ 0 _ _ _ s _ h1 h2 hk1 hk2 hu hx sm X1 X2 (Lib.hid mu) (Lib.hid dv) (Lib.hid cm) (Lib.hid cp)
theorem cpt_lt (t : Nat) (h : t < P256) : cpt t < 4294967296 := by
  have h1 := cpE_le h
  have h2 := cpM_lt t
  unfold cpt
  split <;> omega
end Go.Proofs.Ytboffheklkhnkaa
