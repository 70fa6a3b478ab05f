/- What was read is what is written: the parsers undone. Plain functions. -/
import Derived.Test.YtllndneplkigpaaPb
import Derived.Test.YtllndneplkigpaaZE
set_option linter.unusedSimpArgs false
set_option linter.unusedVariables false
set_option maxRecDepth 100000
namespace Go.Proofs.Ytllndneplkigpaa
open Go.RowKit Go.Lib Go.Sort

/-- What p reads is what f writes, and as it should be. -/
def Says {α : Type} (p : List Nat → Res α) (f : α → List Nat) (ok : α → Prop) : Prop := ∀ xs a r, IsB xs → p xs = .good a r → xs = f a ++ r ∧ ok a ∧ IsB r
theorem isB_right {a r : List Nat} (h : IsB (a ++ r)) : IsB r := fun x hx => h x (List.mem_append_right _ hx)
theorem isB_left {a r : List Nat} (h : IsB (a ++ r)) : IsB a := fun x hx => h x (List.mem_append_left _ hx)
theorem says_take (n : Nat) : Says (pTake n) id (fun a => a.length = n ∧ IsB a) := fun xs a r hx h => by
  have := pTake_good h
  have e : xs = a ++ r := by rw [this.2.1, this.2.2.1, List.take_append_drop]
  rw [e] at hx
  exact ⟨e, ⟨this.2.2.2, isB_left hx⟩, isB_right hx⟩
theorem low_of {t : List Nat} (hb : IsB t) : low (ofBytes (lf t) t.length) t.length = t := by
  apply lf_inj (low_length _ _)
  intro i hi
  rw [low_length] at hi
  unfold low
  rw [lf_tl _ hi, byteAt_ofBytes (fun j _ => lf_lt hb j) i hi]
theorem says_num (m : Nat) : Says (pNum m) (fun v => low v m) (fun v => v < 2 ^ (8 * m)) := fun xs a r hx h => by
  obtain ⟨t, s, h1, h2⟩ := Res.bind_good h
  injection h2 with h2 h3
  subst h2 h3
  obtain ⟨e, ⟨hl, hb⟩, hr⟩ := says_take m xs t s hx h1
  subst hl
  refine ⟨by rw [e]; show t ++ s = low _ _ ++ s; rw [low_of hb], ofBytes_lt fun i _ => lf_lt hb i, hr⟩
theorem says_val : Says pVal cnt (fun n => True) := fun xs a r hx h => by
  unfold pVal at h
  split at h
  · rename_i hd
    injection h with h1 h2
    subst h1 h2
    have hw := dec_zero hd
    have hd2 := hd
    unfold dec at hd2
    split at hd2
    · cases hd2
    · split at hd2
      · rename_i hwid
        have e : cnt (val (lf xs)) = xs.take (wOf (lf xs 0)) := by
          apply lf_inj (by rw [cnt_length, List.length_take, hwid]; omega)
          intro i hi
          rw [cnt_length] at hi
          have hf := form_same (lf_lt hx) hwid i
          unfold cut at hf
          rw [if_pos hi, if_pos (by omega)] at hf
          rw [lf_takek (by omega)]
          unfold cnt
          rw [lf_tl _ hi]
          exact hf
        have e2 : xs = cnt (val (lf xs)) ++ xs.drop (wOf (lf xs 0)) := by rw [e, List.take_append_drop]
        exact ⟨e2, True.intro, fun x h => hx x (List.mem_of_mem_drop h)⟩
      · cases hd2
  · cases h
theorem says_cnt (M : Nat) : Says (pCnt M) cnt (fun n => n ≤ M) := fun xs a r hx h => by
  obtain ⟨n, s, h1, h2⟩ := Res.bind_good h
  obtain ⟨e, _, hr⟩ := says_val xs n s hx h1
  split at h2
  · injection h2 with h2 h3
    subst h2 h3
    exact ⟨e, by assumption, hr⟩
  · cases h2
theorem says_text (M : Nat) : Says (pText M) text (fun t => t.length ≤ M) := fun xs a r hx h => by
  obtain ⟨n, s, h1, h2⟩ := Res.bind_good h
  obtain ⟨e, hn, hr⟩ := says_cnt M xs n s hx h1
  obtain ⟨e2, ⟨hl, _⟩, hr2⟩ := says_take n s a r hr h2
  subst hl
  exact ⟨by rw [e, e2]; unfold text; rw [List.append_assoc]; rfl, hn, hr2⟩
theorem says_rep {α : Type} {p : List Nat → Res α} {f : α → List Nat} {ok : α → Prop} (hp : Says p f ok) : ∀ n, Says (pRep p n) (fun l => (l.map f).flatten) (fun l => l.length = n ∧ ∀ x, x ∈ l → ok x)
  | 0 => fun xs a r hx h => by
    injection h with h1 h2
    subst h1 h2
    exact ⟨rfl, ⟨rfl, fun x h => by cases h⟩, hx⟩
  | n + 1 => fun xs a r hx h => by
    rw [pRep] at h
    obtain ⟨y, s, h1, h2⟩ := Res.bind_good h
    obtain ⟨l, s2, h3, h4⟩ := Res.bind_good h2
    injection h4 with h4 h5
    subst h4 h5
    obtain ⟨e, hy, hr⟩ := hp xs y s hx h1
    obtain ⟨e2, ⟨hl, ha⟩, hr2⟩ := says_rep hp n s l s2 hr h3
    refine ⟨by rw [e, e2]; simp, ⟨by rw [List.length_cons, hl], fun x hx => ?_⟩, hr2⟩
    rcases List.mem_cons.1 hx with rfl | h
    · exact hy
    · exact ha x h
theorem says_list {α : Type} {p : List Nat → Res α} {f : α → List Nat} {ok : α → Prop} (M : Nat) (hp : Says p f ok) : Says (pList M p) (listB f) (fun l => l.length ≤ M ∧ ∀ x, x ∈ l → ok x) := fun xs a r hx h => by
  obtain ⟨n, s, h1, h2⟩ := Res.bind_good h
  obtain ⟨e, hn, hr⟩ := says_cnt M xs n s hx h1
  obtain ⟨e2, ⟨hl, ha⟩, hr2⟩ := says_rep hp n s a r hr h2
  subst hl
  exact ⟨by rw [e, e2]; unfold listB; rw [List.append_assoc], ⟨hn, ha⟩, hr2⟩
/-- An input as it is read, but for its witnesses. -/
def InIs (x : TIn) : Prop := x.sc.length ≤ 10000
theorem says_in : Says pIn inB (fun x => InIs x ∧ x.wit = []) := fun xs a r hx h => by
  obtain ⟨t1, s1, h1, h⟩ := Res.bind_good h
  obtain ⟨t2, s2, h2, h⟩ := Res.bind_good h
  obtain ⟨t3, s3, h3, h⟩ := Res.bind_good h
  obtain ⟨t4, s4, h4, h⟩ := Res.bind_good h
  injection h with h5 h6
  subst h5 h6
  obtain ⟨e1, _, r1⟩ := says_take 32 _ _ _ hx h1
  obtain ⟨e2, _, r2⟩ := says_num 4 _ _ _ r1 h2
  obtain ⟨e3, k3, r3⟩ := says_text 10000 _ _ _ r2 h3
  obtain ⟨e4, _, r4⟩ := says_num 4 _ _ _ r3 h4
  refine ⟨by rw [e1, e2, e3, e4]; unfold inB; simp only [List.append_assoc, id], ⟨k3, rfl⟩, r4⟩
theorem val64_back {v : Nat} (h : v ≤ 9223372036854775807) : val64 (v : Int) = v := by
  unfold val64
  omega
theorem says_out : Says pOut outB (fun x => 0 ≤ x.val ∧ x.sc.length ≤ 10000) := fun xs a r hx h => by
  obtain ⟨t1, s1, h1, h⟩ := Res.bind_good h
  split at h
  · rename_i hv
    obtain ⟨t2, s2, h2, h⟩ := Res.bind_good h
    injection h with h5 h6
    subst h5 h6
    obtain ⟨e1, _, r1⟩ := says_num 8 _ _ _ hx h1
    obtain ⟨e2, k2, r2⟩ := says_text 10000 _ _ _ r1 h2
    refine ⟨by rw [e1, e2]; unfold outB; rw [List.append_assoc]; show low t1 8 ++ _ = low (val64 (t1 : Int)) 8 ++ _; rw [val64_back hv], ⟨by show (0 : Int) ≤ (t1 : Int); omega, k2⟩, r2⟩
  · cases h
theorem says_wits : ∀ (ins : List TIn), (∀ x, x ∈ ins → InIs x) → ∀ xs l r, IsB xs → pWits ins xs = .good l r → xs = (l.map witB).flatten ++ r ∧ l.map inB = ins.map inB ∧ l.length = ins.length ∧ (∀ x, x ∈ l → badInB x = false) ∧ IsB r
  | [], _, xs, l, r, hx, h => by
    injection h with h1 h2
    subst h1 h2
    exact ⟨rfl, rfl, rfl, fun x h => (by cases h), hx⟩
  | y :: ins, hi, xs, l, r, hx, h => by
    rw [pWits] at h
    obtain ⟨ws, s, h1, h2⟩ := Res.bind_good h
    obtain ⟨l2, s2, h3, h4⟩ := Res.bind_good h2
    injection h4 with h4 h5
    subst h4 h5
    obtain ⟨e, ⟨k1, k2⟩, hr⟩ := says_list 100 (says_text 10000) _ _ _ hx h1
    obtain ⟨e2, m2, n2, b2, hr2⟩ := says_wits ins (fun x h => hi x (List.mem_cons_of_mem _ h)) _ _ _ hr h3
    refine ⟨by rw [e, e2, List.map_cons, List.flatten_cons, List.append_assoc]; rfl, by rw [List.map_cons, List.map_cons, m2]; rfl, by rw [List.length_cons, List.length_cons, n2], fun x hx => ?_, hr2⟩
    rcases List.mem_cons.1 hx with rfl | h
    · have hy := hi y List.mem_cons_self
      unfold InIs at hy
      unfold badInB longB
      simp only [Bool.or_eq_false_iff, decide_eq_false_iff_not, List.any_eq_false, decide_eq_true_eq]
      exact ⟨⟨by omega, by omega⟩, fun z hz => by have := k2 z hz; omega⟩
    · exact b2 x h
theorem pIns_says {m : Bool} {ins l : List TIn} {xs r : List Nat} (hi : ∀ x, x ∈ ins → InIs x ∧ x.wit = []) (hx : IsB xs) (h : pIns m ins xs = .good l r) :
    l.any hasB = m ∧ xs = (if m then (l.map witB).flatten else []) ++ r ∧ l.map inB = ins.map inB ∧ l.length = ins.length ∧ (∀ x, x ∈ l → badInB x = false) ∧ IsB r := by
  unfold pIns at h
  cases m with
  | true =>
    rw [if_pos rfl] at h
    obtain ⟨l2, s, h1, h2⟩ := Res.bind_good h
    obtain ⟨e, m2, n2, b2, hr⟩ := says_wits ins (fun x h => (hi x h).1) _ _ _ hx h1
    split at h2
    · injection h2 with h2 h3
      subst h2 h3
      exact ⟨by assumption, e, m2, n2, b2, hr⟩
    · cases h2
  | false =>
    rw [if_neg (by decide)] at h
    injection h with h1 h2
    subst h1 h2
    refine ⟨?_, rfl, rfl, rfl, fun x hx => ?_, hx⟩
    · rw [List.any_eq_false]
      intro x hx
      unfold hasB
      rw [(hi x hx).2]
      decide
    · have hy := hi x hx
      have h1 := hy.1
      unfold InIs at h1
      unfold badInB longB
      rw [hy.2]
      simp
      omega
theorem pMark_says {m : Bool} {xs r : List Nat} (hx : IsB xs) (h : pMark xs = .good m r) : xs = (if m then [0, 1] else []) ++ r ∧ IsB r := by
  unfold pMark at h
  split at h
  · rename_i h0
    obtain ⟨t, s, h1, h⟩ := Res.bind_good h
    obtain ⟨v, s2, h2, h⟩ := Res.bind_good h
    obtain ⟨e1, ⟨l1, b1⟩, r1⟩ := says_take 1 _ _ _ hx h1
    obtain ⟨e2, _, r2⟩ := says_num 1 _ _ _ r1 h2
    split at h
    · rename_i hv
      injection h with h3 h4
      subst h3 h4 hv
      have ht : t = [0] := by
        match t, l1 with
        | [y], _ =>
          rw [e1] at h0
          have := h0.2
          simpa [lf] using this
      refine ⟨by rw [e1, e2, ht]; rfl, r2⟩
    · cases h
  · injection h with h3 h4
    subst h3 h4
    exact ⟨rfl, hx⟩
/-- What was read, written, is what was read. -/
theorem pTx_says {xs r : List Nat} {t : TTx} (hx : IsB xs) (h : pTx xs = .good t r) : xs = txB (t.ins.any hasB) t ++ r ∧ canB t = true ∧ IsB r := by
  unfold pTx at h
  obtain ⟨v, s1, h1, h⟩ := Res.bind_good h
  obtain ⟨m, s2, h2, h⟩ := Res.bind_good h
  obtain ⟨ins, s3, h3, h⟩ := Res.bind_good h
  obtain ⟨e1, k1, r1⟩ := says_num 4 _ _ _ hx h1
  obtain ⟨e2, r2⟩ := pMark_says r1 h2
  obtain ⟨e3, ⟨k3, i3⟩, r3⟩ := says_list 2000 says_in _ _ _ r2 h3
  split at h
  · cases h
  · rename_i n0
    obtain ⟨outs, s4, h4, h⟩ := Res.bind_good h
    obtain ⟨l, s5, h5, h⟩ := Res.bind_good h
    obtain ⟨lock, s6, h6, h⟩ := Res.bind_good h
    injection h with h7 h8
    subst h7 h8
    obtain ⟨e4, ⟨k4, o4⟩, r4⟩ := says_list 2000 says_out _ _ _ r3 h4
    obtain ⟨a5, e5, m5, n5, b5, r5⟩ := pIns_says i3 r4 h5
    obtain ⟨e6, k6, r6⟩ := says_num 4 _ _ _ r5 h6
    refine ⟨?_, ?_, r6⟩
    · show xs = txB (l.any hasB) _ ++ s6
      rw [a5, e1, e2, e3, e4, e5, e6]
      unfold txB listB
      simp only [m5, n5, List.append_assoc]
    · unfold canB
      have hb1 : l.any badInB = false := by
        rw [List.any_eq_false]
        intro x hx
        rw [b5 x hx]
        decide
      have hb2 : outs.any badOutB = false := by
        rw [List.any_eq_false]
        intro x hx
        have := o4 x hx
        unfold badOutB longB
        simp
        omega
      show (!(decide (l.length = 0) || decide (2000 < l.length) || decide (2000 < outs.length)) && !l.any badInB && !outs.any badOutB) = true
      rw [hb1, hb2, decide_eq_false (show ¬ l.length = 0 by omega), decide_eq_false (show ¬ 2000 < l.length by omega), decide_eq_false (show ¬ 2000 < outs.length by omega)]
      rfl
end Go.Proofs.Ytllndneplkigpaa
