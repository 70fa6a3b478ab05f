/- A reader is a writer's undoing: transactions; bytes cut short. Nothing of the program stands here. -/
import Derived.Test.YtllndneplkigpaaPa
set_option linter.unusedSimpArgs false
set_option linter.unusedVariables false
set_option maxRecDepth 100000
namespace Go.Proofs.Ytllndneplkigpaa
open Go.RowKit Go.Lib

theorem lf_lo {a b : List Nat} {i : Nat} (h : i < a.length) : lf (a ++ b) i = lf a i := by rw [← lf_cat]; unfold cat; rw [if_pos h]
theorem pTake_app (a r : List Nat) : pTake a.length (a ++ r) = .good a r := by
  unfold pTake
  rw [if_pos (by rw [List.length_append]; omega), List.take_left, List.drop_left]
theorem pTake_len {a : List Nat} {n : Nat} (h : a.length = n) (r : List Nat) : pTake n (a ++ r) = .good a r := by
  subst h
  exact pTake_app a r
theorem pNum_low {n m : Nat} (h : n < 2 ^ (8 * m)) (r : List Nat) : pNum m (low n m ++ r) = .good n r := by
  have e := pTake_len (low_length n m) r
  have e2 : ofBytes (lf (low n m)) m = n := by
    rw [ofBytes_congr (g := byteAt n) fun i hi => by unfold low; exact lf_tl _ hi, ofBytes_byteAt, Nat.mod_eq_of_lt h]
  exact (Res.bg e).trans (by rw [e2])
theorem pVal_cnt {n : Nat} (h : n < 18446744073709551616) (r : List Nat) : pVal (cnt n ++ r) = .good n r := by
  have hl := cnt_length n
  have hx : ∀ i, i < wid n → lf (cnt n ++ r) i = enc n i := fun i hi => by
    rw [lf_lo (by rw [hl]; exact hi)]
    unfold cnt
    exact lf_tl _ hi
  obtain ⟨_, h1, h2⟩ := val_enc h hx
  have hw := wid_bd n
  have hd : dec (cnt n ++ r).length (lf (cnt n ++ r)) = 0 := by
    unfold dec
    rw [h1, h2, if_neg (by rw [List.length_append, hl]; omega), if_pos rfl]
  unfold pVal
  rw [if_pos hd, h1, h2, ← hl, List.drop_left]
theorem pCnt_cnt {n M : Nat} (h : n ≤ M) (hM : M < 18446744073709551616) (r : List Nat) : pCnt M (cnt n ++ r) = .good n r := (Res.bg (pVal_cnt (by omega) r)).trans (if_pos h)
theorem pText_text {t : List Nat} {M : Nat} (h : t.length ≤ M) (hM : M < 18446744073709551616) (r : List Nat) : pText M (text t ++ r) = .good t r := by
  unfold text
  rw [List.append_assoc]
  exact (Res.bg (pCnt_cnt h hM _)).trans (pTake_app t r)
theorem pRep_app {α β : Type} {p : List Nat → Res β} {f : α → List Nat} {g : α → β} : ∀ (l : List α) (r : List Nat), (∀ x, x ∈ l → ∀ r, p (f x ++ r) = .good (g x) r) → pRep p l.length ((l.map f).flatten ++ r) = .good (l.map g) r
  | [], r, h => rfl
  | x :: l, r, h => by
    rw [List.length_cons, List.map_cons, List.flatten_cons, List.append_assoc, pRep]
    rw [Res.bg (h x List.mem_cons_self _), Res.bg (pRep_app l r fun y hy => h y (List.mem_cons_of_mem _ hy))]
    rfl
theorem pList_app {α β : Type} {M : Nat} {p : List Nat → Res β} {f : α → List Nat} {g : α → β} (l : List α) (r : List Nat) (hl : l.length ≤ M) (hM : M < 18446744073709551616) (h : ∀ x, x ∈ l → ∀ r, p (f x ++ r) = .good (g x) r) : pList M p (listB f l ++ r) = .good (l.map g) r := by
  unfold listB
  rw [List.append_assoc]
  exact (Res.bg (pCnt_cnt hl hM _)).trans (pRep_app l r h)
structure OkIn (x : TIn) : Prop where
  id : x.id.length = 32
  idx : x.idx < 4294967296
  sc : x.sc.length ≤ 10000
  sq : x.sq < 4294967296
  wn : x.wit.length ≤ 100
  wt : ∀ y, y ∈ x.wit → y.length ≤ 10000
structure OkOut (x : TOut) : Prop where
  lo : 0 ≤ x.val
  hi : x.val ≤ 9223372036854775807
  sc : x.sc.length ≤ 10000
structure OkTx (t : TTx) : Prop where
  ver : t.ver < 4294967296
  n0 : 0 < t.ins.length
  n1 : t.ins.length ≤ 2000
  m1 : t.outs.length ≤ 2000
  ins : ∀ x, x ∈ t.ins → OkIn x
  outs : ∀ x, x ∈ t.outs → OkOut x
  lock : t.lock < 4294967296
/-- An input without its witnesses. -/
def strip (x : TIn) : TIn := { x with wit := [] }
theorem pIn_in {x : TIn} (h : OkIn x) (r : List Nat) : pIn (inB x ++ r) = .good (strip x) r := by
  unfold inB
  simp only [List.append_assoc]
  unfold pIn
  rw [Res.bg (pTake_len h.id _), Res.bg (pNum_low (m := 4) (by have := h.idx; omega) _), Res.bg (pText_text h.sc (by omega) _), Res.bg (pNum_low (m := 4) (by have := h.sq; omega) _)]
  rfl
theorem val64_of {v : Int} (h : 0 ≤ v) (h2 : v ≤ 9223372036854775807) : ((val64 v : Nat) : Int) = v ∧ val64 v ≤ 9223372036854775807 := by
  unfold val64
  omega
theorem pOut_out {x : TOut} (h : OkOut x) (r : List Nat) : pOut (outB x ++ r) = .good x r := by
  obtain ⟨h1, h2⟩ := val64_of h.lo h.hi
  unfold outB
  rw [List.append_assoc]
  unfold pOut
  rw [Res.bg (pNum_low (m := 8) (by omega) _), if_pos h2, Res.bg (pText_text h.sc (by omega) _), h1]
theorem pWits_app : ∀ (l : List TIn) (r : List Nat), (∀ x, x ∈ l → OkIn x) → pWits (l.map strip) ((l.map witB).flatten ++ r) = .good l r
  | [], r, h => rfl
  | x :: l, r, h => by
    have hx := h x List.mem_cons_self
    have e : pList 100 (pText 10000) (witB x ++ ((l.map witB).flatten ++ r)) = .good x.wit ((l.map witB).flatten ++ r) := by
      have := pList_app (p := pText 10000) (f := text) (g := id) x.wit ((l.map witB).flatten ++ r) hx.wn (by omega) fun y hy s => pText_text (hx.wt y hy) (by omega) s
      rwa [List.map_id] at this
    rw [List.map_cons, List.map_cons, List.flatten_cons, List.append_assoc, pWits, Res.bg e, Res.bg (pWits_app l r fun y hy => h y (List.mem_cons_of_mem _ hy))]
    rfl
theorem strip_same {l : List TIn} (h : l.any hasB = false) : l.map strip = l := by
  have : ∀ x, x ∈ l → strip x = x := fun x hx => by
    rw [List.any_eq_false] at h
    have h1 := h x hx
    unfold hasB at h1
    have h2 : x.wit = [] := List.eq_nil_of_length_eq_zero (by simpa using h1)
    unfold strip
    rw [← h2]
  exact (List.map_congr_left this).trans (List.map_id l)
theorem cnt_head {n : Nat} (h : 0 < n) (r : List Nat) : ¬ (0 < (cnt n ++ r).length ∧ lf (cnt n ++ r) 0 = 0) := fun ⟨_, h2⟩ => by
  have hl := cnt_length n
  have hw := wid_bd n
  rw [lf_lo (by omega)] at h2
  have e : lf (cnt n) 0 = mk n := by unfold cnt; rw [lf_tl _ (by omega)]; rfl
  rw [e] at h2
  unfold mk at h2
  repeat' split at h2
  all_goals omega
theorem pMark_01 (r : List Nat) : pMark ([0, 1] ++ r) = .good true r := by
  unfold pMark
  rw [if_pos ⟨by simp, rfl⟩]
  have e1 : pTake 1 ([0, 1] ++ r) = .good [0] ([1] ++ r) := pTake_len (a := [0]) rfl ([1] ++ r)
  have e2 : pTake 1 ([1] ++ r) = .good [1] r := pTake_len (a := [1]) rfl r
  have e3 : pNum 1 ([1] ++ r) = .good 1 r := (Res.bg e2).trans rfl
  rw [Res.bg e1, Res.bg e3]
  rfl
theorem pMark_cnt {n : Nat} (h : 0 < n) (r : List Nat) : pMark (cnt n ++ r) = .good false (cnt n ++ r) := by
  unfold pMark
  rw [if_neg (cnt_head h r)]
/-- What was written is read back. -/
theorem pTx_back {t : TTx} (h : OkTx t) (r : List Nat) : pTx (txB (t.ins.any hasB) t ++ r) = .good t r := by
  have eo : ∀ s, pList 2000 pOut (listB outB t.outs ++ s) = .good t.outs s := fun s => by
    have := pList_app (p := pOut) (f := outB) (g := id) t.outs s h.m1 (by omega) fun x hx s => pOut_out (h.outs x hx) s
    rwa [List.map_id] at this
  have ei : ∀ s, pList 2000 pIn (listB inB t.ins ++ s) = .good (t.ins.map strip) s := fun s => pList_app t.ins s h.n1 (by omega) fun x hx s => pIn_in (h.ins x hx) s
  have n0 : ¬ (t.ins.map strip).length = 0 := by rw [List.length_map]; have := h.n0; omega
  unfold pTx txB
  cases hm : t.ins.any hasB with
  | true =>
    simp only [List.append_assoc, if_true]
    rw [Res.bg (pNum_low (m := 4) (by have := h.ver; omega) _), Res.bg (pMark_01 _), Res.bg (ei _), if_neg n0, Res.bg (eo _)]
    have ew : pIns true (t.ins.map strip) ((t.ins.map witB).flatten ++ (low t.lock 4 ++ r)) = .good t.ins (low t.lock 4 ++ r) := by
      unfold pIns
      rw [if_pos rfl, Res.bg (pWits_app t.ins _ h.ins), if_pos hm]
    rw [Res.bg ew, Res.bg (pNum_low (m := 4) (by have := h.lock; omega) _)]
  | false =>
    simp only [List.append_assoc, Bool.false_eq_true, if_false, List.nil_append]
    have ec : ∀ s, pMark (listB inB t.ins ++ s) = .good false (listB inB t.ins ++ s) := fun s => by
      unfold listB
      rw [List.append_assoc]
      exact pMark_cnt h.n0 _
    rw [Res.bg (pNum_low (m := 4) (by have := h.ver; omega) _), Res.bg (ec _), Res.bg (ei _), if_neg n0, Res.bg (eo _)]
    have ew : pIns false (t.ins.map strip) (low t.lock 4 ++ r) = .good t.ins (low t.lock 4 ++ r) := by
      unfold pIns
      rw [if_neg (by decide), strip_same hm]
    rw [Res.bg ew, Res.bg (pNum_low (m := 4) (by have := h.lock; omega) _)]

/-- A parser that eats some bytes, asks for no others, and finds fewer too short. -/
def Eats {α : Type} (p : List Nat → Res α) : Prop :=
  ∀ xs a r, p xs = .good a r → ∃ c, c ≤ xs.length ∧ r = xs.drop c ∧ (∀ k, c ≤ k → p (xs.take k) = .good a ((xs.take k).drop c)) ∧ (∀ k, k < c → p (xs.take k) = .bad 50)
theorem Eats.bind {α β : Type} {p : List Nat → Res α} {f : α → List Nat → Res β} (hp : Eats p) (hf : ∀ a, Eats (f a)) : Eats fun xs => (p xs).bind f := by
  intro xs b s h
  obtain ⟨a, r, h1, h2⟩ := Res.bind_good h
  obtain ⟨c, hc, rfl, hk, hs⟩ := hp xs a r h1
  obtain ⟨d, hd, rfl, hk2, hs2⟩ := hf a _ _ _ h2
  rw [List.length_drop] at hd
  refine ⟨c + d, by omega, by rw [List.drop_drop], fun k hck => ?_, fun k hck => ?_⟩
  · show (p (xs.take k)).bind f = _
    rw [Res.bg (hk k (by omega)), List.drop_take, hk2 (k - c) (by omega), ← List.drop_take, List.drop_drop]
  · show (p (xs.take k)).bind f = _
    by_cases h3 : k < c
    · exact Res.bb (hs k h3)
    · rw [Res.bg (hk k (by omega)), List.drop_take, hs2 (k - c) (by omega)]
theorem Eats.pure {α : Type} (a : α) : Eats fun xs => Res.good a xs := fun xs b r h => by
  injection h with h1 h2
  subst h1 h2
  exact ⟨0, Nat.zero_le _, rfl, fun k _ => rfl, fun k hk => absurd hk (by omega)⟩
theorem Eats.bad {α : Type} (e : Int) : Eats (α := α) fun _ => Res.bad e := fun xs b r h => by cases h
theorem Eats.ite {α : Type} {c : Prop} [Decidable c] {p q : List Nat → Res α} (hp : Eats p) (hq : Eats q) : Eats fun xs => if c then p xs else q xs := by
  by_cases h : c
  · simp only [if_pos h]; exact hp
  · simp only [if_neg h]; exact hq
theorem eats_take (n : Nat) : Eats (pTake n) := fun xs a r h => by
  unfold pTake at h
  split at h
  · rename_i hn
    injection h with h1 h2
    subst h1 h2
    refine ⟨n, hn, rfl, fun k hk => ?_, fun k hk => ?_⟩
    · unfold pTake
      rw [if_pos (by rw [List.length_take]; omega), List.take_take, Nat.min_eq_left hk]
    · unfold pTake
      rw [if_neg (by rw [List.length_take]; omega)]
  · cases h
theorem eats_num (m : Nat) : Eats (pNum m) := (eats_take m).bind fun t => Eats.pure _
theorem lf_takek {xs : List Nat} {k i : Nat} (h : i < k) : lf (xs.take k) i = lf xs i := by
  unfold lf
  simp only [List.getD_eq_getElem?_getD]
  rw [List.getElem?_take, if_pos h]
theorem val_congr {x y : Nat → Nat} (h : ∀ i, i < wOf (x 0) → x i = y i) : val x = val y := by
  have h0 : x 0 = y 0 := h 0 (by have := wOf_bd (x 0); omega)
  unfold val
  rw [← h0]
  split
  · rfl
  · exact ofBytes_congr fun i hi => h (1 + i) (by omega)
theorem eats_val : Eats pVal := fun xs a r h => by
  unfold pVal at h
  split at h
  · rename_i hd
    injection h with h1 h2
    subst h1 h2
    have hw := wOf_bd (lf xs 0)
    have hd' := hd
    unfold dec at hd
    split at hd
    · cases hd
    · rename_i hl
      split at hd
      · rename_i hwid
        refine ⟨wOf (lf xs 0), by omega, rfl, fun k hk => ?_, fun k hk => ?_⟩
        · have e0 : lf (xs.take k) 0 = lf xs 0 := lf_takek (by omega)
          have ev : val (lf (xs.take k)) = val (lf xs) := val_congr fun i hi => lf_takek (by rw [e0] at hi; omega)
          have hd2 : dec (xs.take k).length (lf (xs.take k)) = 0 := by
            unfold dec
            rw [e0, ev, if_neg (by rw [List.length_take]; omega), if_pos hwid]
          unfold pVal
          rw [if_pos hd2, e0, ev]
        · unfold pVal
          have hd2 : dec (xs.take k).length (lf (xs.take k)) = 50 := by
            unfold dec
            rw [if_pos]
            rcases Nat.eq_zero_or_pos k with q | q
            · subst q
              exact .inr (by simp)
            · rw [lf_takek q, List.length_take]
              exact .inl (by omega)
          rw [hd2]
          rfl
      · cases hd
  · cases h
theorem eats_cnt (M : Nat) : Eats (pCnt M) := eats_val.bind fun n => Eats.ite (Eats.pure n) (Eats.bad 4)
theorem eats_text (M : Nat) : Eats (pText M) := (eats_cnt M).bind fun n => eats_take n
theorem eats_rep {α : Type} {p : List Nat → Res α} (hp : Eats p) : ∀ n, Eats (pRep p n)
  | 0 => Eats.pure []
  | n + 1 => hp.bind fun a => (eats_rep hp n).bind fun l => Eats.pure (a :: l)
theorem eats_list {α : Type} {p : List Nat → Res α} (M : Nat) (hp : Eats p) : Eats (pList M p) := (eats_cnt M).bind fun n => eats_rep hp n
theorem eats_in : Eats pIn := (eats_take 32).bind fun _ => (eats_num 4).bind fun _ => (eats_text 10000).bind fun _ => (eats_num 4).bind fun _ => Eats.pure _
theorem eats_out : Eats pOut := (eats_num 8).bind fun _ => Eats.ite ((eats_text 10000).bind fun _ => Eats.pure _) (Eats.bad 51)
theorem eats_wits : ∀ l, Eats (pWits l)
  | [] => Eats.pure []
  | x :: l => (eats_list 100 (eats_text 10000)).bind fun ws => (eats_wits l).bind fun l' => Eats.pure _
theorem eats_ins (m : Bool) (l : List TIn) : Eats (pIns m l) := Eats.ite ((eats_wits l).bind fun l' => Eats.ite (Eats.pure _) (Eats.bad 51)) (Eats.pure _)
theorem eats_mark {β : Type} {g : Bool → List Nat → Res β} (hg : ∀ m, Eats (g m)) (hg0 : g false [] = .bad 50) : Eats fun xs => (pMark xs).bind g := by
  intro xs b s h
  by_cases hm : 0 < xs.length ∧ lf xs 0 = 0
  · have hE : Eats fun xs => ((pTake 1 xs).bind fun _ r => (pNum 1 r).bind fun x s => if x = 1 then Res.good true s else .bad 51).bind g :=
      ((eats_take 1).bind fun _ => (eats_num 1).bind fun x => Eats.ite (Eats.pure true) (Eats.bad 51)).bind hg
    have e : ∀ k, 0 < k → pMark (xs.take k) = (pTake 1 (xs.take k)).bind fun _ r => (pNum 1 r).bind fun x s => if x = 1 then Res.good true s else .bad 51 := fun k hk => by
      unfold pMark
      rw [if_pos ⟨by rw [List.length_take]; omega, by rw [lf_takek hk]; exact hm.2⟩]
    have e0 : pMark xs = (pTake 1 xs).bind fun _ r => (pNum 1 r).bind fun x s => if x = 1 then Res.good true s else .bad 51 := by
      unfold pMark
      rw [if_pos hm]
    simp only [e0] at h
    obtain ⟨c, hc, hr, hk, hs⟩ := hE xs b s h
    have c1 : 1 ≤ c := by
      rcases Nat.lt_or_ge 0 c with q | q
      · exact q
      · obtain rfl : c = 0 := by omega
        have := hk 0 (Nat.le_refl _)
        simp only [List.take_zero] at this
        have e1 : pTake 1 [] = .bad 50 := rfl
        rw [Res.bb (Res.bb e1)] at this
        cases this
    refine ⟨c, hc, hr, fun k hck => ?_, fun k hck => ?_⟩
    · simp only [e k (by omega)]
      exact hk k hck
    · rcases Nat.eq_zero_or_pos k with q | q
      · subst q
        have e2 : pMark (xs.take 0) = .good false [] := rfl
        show (pMark (xs.take 0)).bind g = _
        rw [Res.bg e2]
        exact hg0
      · simp only [e k q]
        exact hs k hck
  · have e0 : pMark xs = .good false xs := by unfold pMark; rw [if_neg hm]
    simp only [Res.bg e0] at h
    have h0 : 0 < xs.length := by
      rcases Nat.eq_zero_or_pos xs.length with q | q
      · rw [List.eq_nil_of_length_eq_zero q, hg0] at h
        cases h
      · exact q
    obtain ⟨c, hc, hr, hk, hs⟩ := hg false xs b s h
    have e : ∀ k, pMark (xs.take k) = .good false (xs.take k) := fun k => by
      unfold pMark
      rw [if_neg]
      intro ⟨q1, q2⟩
      rw [List.length_take] at q1
      rw [lf_takek (by omega)] at q2
      exact hm ⟨h0, q2⟩
    refine ⟨c, hc, hr, fun k hck => ?_, fun k hck => ?_⟩
    · simp only [Res.bg (e k)]
      exact hk k hck
    · simp only [Res.bg (e k)]
      exact hs k hck
theorem eats_tx : Eats pTx :=
  (eats_num 4).bind fun v => eats_mark (fun m => (eats_list 2000 eats_in).bind fun ins => Eats.ite (Eats.bad 51) ((eats_list 2000 eats_out).bind fun outs => (eats_ins m ins).bind fun ins => (eats_num 4).bind fun lock => Eats.pure _)) rfl
/-- A transaction's bytes, cut short, are too short. -/
theorem pTx_short {t : TTx} (h : OkTx t) {k : Nat} (hk : k < (txB (t.ins.any hasB) t).length) : pTx ((txB (t.ins.any hasB) t).take k) = .bad 50 := by
  have hb := pTx_back h []
  rw [List.append_nil] at hb
  obtain ⟨c, hc, hr, _, hs⟩ := eats_tx _ _ _ hb
  have := congrArg List.length hr
  rw [List.length_drop, List.length_nil] at this
  exact hs k (by omega)
theorem okTx_of {W : World} {V : Nat → Value} {t : TTx} (A : TxCells W V t) (hc : canB t = true) : OkTx t := by
  have F := can_facts hc
  refine ⟨A.verB, F.n0, F.n1, F.m1, fun x hx => ?_, fun x hx => ?_, A.lockB⟩
  · obtain ⟨p, g, o, c, U, _, _, _, hi⟩ := A.ins
    obtain ⟨i, hi2, rfl⟩ := List.getElem_of_mem hx
    have h1 := hi i hi2
    have h2 := F.ins _ (List.getElem_mem hi2)
    exact ⟨h1.len, h1.idxB, h2.1, h1.sqB, h2.2.1, h2.2.2⟩
  · obtain ⟨p, g, o, c, U, _, _, _, hi⟩ := A.outs
    obtain ⟨i, hi2, rfl⟩ := List.getElem_of_mem hx
    have h1 := hi i hi2
    have h2 := F.outs _ (List.getElem_mem hi2)
    exact ⟨h2.1, h1.valB.2, h2.2⟩
end Go.Proofs.Ytllndneplkigpaa
