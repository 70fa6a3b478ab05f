/- tx.readOut; lists of inputs, outputs, texts. -/
import Derived.Test.YtllndneplkigpaaRi
set_option linter.unusedSimpArgs false
set_option linter.unusedVariables false
set_option maxRecDepth 100000
namespace Go.Proofs.Ytllndneplkigpaa
open Go.RowKit Go.Lib Go.Sort

theorem pCnt_le {M : Nat} {xs r : List Nat} {a : Nat} (h : pCnt M xs = .good a r) : a ≤ M := by
  obtain ⟨n, s, h1, h2⟩ := Res.bind_good h
  split at h2
  · injection h2 with h2 _
    omega
  · cases h2
theorem pRep_len {α : Type} {p : List Nat → Res α} : ∀ {n : Nat} {xs r : List Nat} {l : List α}, pRep p n xs = .good l r → l.length = n
  | 0, xs, r, l, h => by
    injection h with h _
    subst h
    rfl
  | n + 1, xs, r, l, h => by
    rw [pRep] at h
    obtain ⟨a, s, h1, h2⟩ := Res.bind_good h
    obtain ⟨l2, s2, h3, h4⟩ := Res.bind_good h2
    injection h4 with h4 _
    subst h4
    rw [List.length_cons, pRep_len h3]
theorem pList_len {α : Type} {M : Nat} {p : List Nat → Res α} {xs r : List Nat} {l : List α} (h : pList M p xs = .good l r) : l.length ≤ M := by
  obtain ⟨n, s, h1, h2⟩ := Res.bind_good h
  rw [pRep_len h2]
  exact pCnt_le h1
/-- Two cells. -/
def o2 (x y : Value) : Nat → Value := fun i => if i = 0 then x else y
theorem o2_one {x y : Value} (hx : x.oneCell' = true) (hy : y.oneCell' = true) : ∀ j, j < 2 → (o2 x y j).oneCell' = true := fun j _ => by
  unfold o2
  split
  · exact hx
  · exact hy
theorem out_one {B : Nat} {w : World} {V : Nat → Value} {t : TOut} (h : OutOwn B w V t) : ∀ j, j < 2 → (V j).oneCell' = true := fun j hj => by
  have : j = 0 ∨ j = 1 := by omega
  rcases this with rfl | rfl
  · rw [h.val]; rfl
  · exact (textOwn_one h.sc).2
section
variable {D W : World} {b : Nat} {u : Value} {xs : List Nat}
set_option maxHeartbeats 4000000 in
theorem pout_any (R : Hid (Rd D W b u xs)) : Calls Try.prog 66 #[.pointer (some ⟨b, 0, none⟩)] W (RdPost D W b (fun w' v a => ∃ V, v = .agg (arr 2 V) ∧ OutOwn W.heap.size w' V a) (pOut xs)) := by
  have E := Lib.hid R.out.start
  go_enter Try.func66, Try.ntmps66
  go_upto_region 1 with (refine mem_alloc E 70 rfl rfl infoOut ?_; clear E; intro b0 w0 E)
  obtain ⟨zc, hzc⟩ : ∃ zc : Array Value, zc = (Value.agg #[.int .i64 0, .slice none 0 0]).cells := ⟨_, rfl⟩
  have ZC : Hid (zc.size = 2) := Lib.hid (by rw [hzc]; rfl)
  rw [← hzc] at E
  clear hzc
  go_wp2_with (first
    | (go_at_call 60; refine (pnum8 (Lib.hid (E.out.rnext R.out R.out.dat))).mono ?_; intro e1 w1 h1; rcases h1.cases with ⟨er, hr, rfl, ho⟩ | ⟨a1, r1, v1, u1, hr, rfl, ha, hb, rfl⟩; case inl => exact ⟨rfl, RdPost.bad (Res.bb hr) (E.out.ronly.trans ho)⟩
       (have HR1 := Lib.hid hr; have HA := Lib.hid ha; replace E := Lib.hid (E.out.rcall R.out.box hb); clear hr ha hb h1))
    | (go_at_call 64; refine (need_any _ _ _ _).mono ?_; rintro e2 w2 ⟨rfl, ⟨hc, r2, rfl⟩ | ⟨hc, rfl⟩⟩; case inr => exact ⟨rfl, RdPost.bad ((Res.bg HR1.out).trans (if_neg (by simp at hc; omega))) E.out.ronly⟩
       (have HC : a1 ≤ 9223372036854775807 := (by simp at hc; omega); clear hc; have cw2 : IntKind.i64.wrap (a1 : Int) = (a1 : Int) := by rw [IntKind.wrap_i64]; omega))
    | (go_at_call 68; refine (preadtext_any (Lib.hid (E.out.rnext R.out HA.out))).mono ?_; intro e1 w6 h1; rcases h1.cases with ⟨er, hr, rfl, ho⟩ | ⟨a3, r3, v3, u3, hr, rfl, ha, hb, hv⟩; case inl => exact ⟨rfl, RdPost.bad ((Res.bg HR1.out).trans ((if_pos HC).trans (Res.bb hr))) (E.out.ronly.trans ho)⟩
       (have HR3 := Lib.hid hr; have TS := Lib.hid (hv.mono E.out.rsize); replace HA := Lib.hid ha; replace E := Lib.hid (E.out.rcall R.out.box hb); obtain ⟨p3, g3, c3, rfl, _⟩ := hv; clear hr ha hb h1))
    | (refine wpList_build_to rfl 70 _ rfl #[(0, .int .i64 (a1 : Int)), (1, .slice p3 a3.length c3)] (by kernel_rfl) (arr 2 (o2 (.int .i64 (a1 : Int)) (.slice p3 a3.length c3))) (by kernel_rfl) ?_)
    | (refine mem_store_rowk 0 E 70 rfl (.tmp 2) (.tmp 14) rfl rfl rfl rfl (by kernel_rfl) (by rw [arr_size]; exact ZC.out) (all_of (o2_one rfl rfl)) ?_; clear E; intro w9 E KT; simp only [List.set_cons_zero, List.set_cons_succ] at E; replace TS := Lib.hid (TS.out.keep KT.out (by decide)); clear KT))
  refine bodyPost_ret (results_cell_row (fn := Try.f66) rfl _ _ b0 70 _ (0, 0) _ rfl (E.out.get List.mem_cons_self) Try.underlying70 rfl (by kernel_rfl)) rfl ?_
  exact RdPost.good ((Res.bg HR1.out).trans ((if_pos HC).trans (Res.bg HR3.out))) HA.out E.out ⟨o2 (.int .i64 (a1 : Int)) (.slice p3 a3.length c3), rfl, rfl, ⟨by show (-9223372036854775808 : Int) ≤ (a1 : Int); omega, by show ((a1 : Nat) : Int) ≤ 9223372036854775807; omega⟩, TS.out⟩

set_option maxHeartbeats 8000000 in
theorem plins_any (R : Hid (Rd D W b u xs)) : Calls Try.prog 62 #[.pointer (some ⟨b, 0, none⟩), .int .i64 2000, .func (.func 63) #[] #[]] W (RdPost D W b (fun w' v a => InsOwn W.heap.size w' v a) (pList 2000 pIn xs)) := by
  have E := Lib.hid R.out.start
  go_enter Try.func62, Try.ntmps62
  go_wp2_with (first
    | (go_at_call 92; refine (pcnt_any R 2000 (by omega)).mono ?_; intro e1 w1 h1; rcases h1.cases with ⟨er, hr, rfl, ho⟩ | ⟨n, r0, v1, u0, hr, rfl, ha, hb, rfl⟩; case inl => exact ⟨rfl, RdPost.bad (Res.bb hr) ho⟩
       (have HR0 := Lib.hid hr; have HA0 := Lib.hid ha; have HN := pCnt_le hr; replace E := Lib.hid (E.out.rcall R.out.box hb); clear hr ha hb h1)))
  have n3 : n ≤ 140737488355328 := by omega
  go_loopg [7, 11] n (fun k s i wr => ∃ (j : Nat) (p : Option Addr) (g c : Nat) (V : Nat → Value) (u : Value) (r : List Nat) (ts : List TIn), j + k = n ∧ i = .int .i64 (j : Int) ∧ s = .slice p j c ∧ Hid (ts.length = j) ∧ Hid (VOwn 67 36 W.heap.size wr p g j c V) ∧ Hid (∀ i (h : i < ts.length), InOwn W.heap.size wr (fun x => V (i * 36 + x)) ts[i]) ∧ Hid (TextAt D u r) ∧ Hid (Mem (rb W b #[u]) [] wr) ∧ Hid (pRep pIn n r0 = (pRep pIn k r).bind fun l s => .good (ts ++ l) s))
  case atStart => exact ⟨0, none, 0, 0, fun _ => undef, u0, r0, [], by omega, rfl, rfl, Lib.hid rfl, Lib.hid (vown_nothing _ _ _ _ _ E.out.rsize), Lib.hid (fun i h => by simp at h), HA0, E, Lib.hid (by cases pRep pIn n r0 <;> rfl)⟩
  case round =>
    clear E HA0
    obtain ⟨j, p3, g3, c3, V3, u3, r3, ts, hj, rfl, rfl, TL, N3, I3, HA, E, PE⟩ := hrel
    obtain ⟨kk, hkk⟩ : ∃ kk : Nat, kk = gk := ⟨_, rfl⟩
    rw [← hkk] at hj PE
    by_cases hlt : j < n
    · obtain ⟨k1, rfl⟩ : ∃ k1, kk = k1 + 1 := ⟨kk - 1, by omega⟩
      go_wp2_with (first
        | (go_at_call 63; refine (pin_any (Lib.hid (E.out.rnext R.out HA.out))).mono ?_; intro e1 w1 h1; rcases h1.cases with ⟨er, hr, rfl, ho⟩ | ⟨t, r4, v4, u4, hr, rfl, ha, hb, U4, rfl, ho4⟩; case inl => exact ⟨rfl, RdPost.bad ((Res.bg HR0.out).trans (PE.out.trans (pRep_bad hr _))) (E.out.ronly.trans ho)⟩
           (replace PE := Lib.hid (PE.out.trans (pRep_step hr _)); replace HA := Lib.hid ha; have KT := rkeep (E.out.rbox R.out.box) hb; have TI := Lib.hid (InOwn.mono ho4 E.out.rsize)
            replace N3 := Lib.hid (N3.out.keep KT (by decide)); replace I3 := Lib.hid (fun i h => ((I3.out i h)).keep KT (by decide) (by decide)); replace E := Lib.hid (E.out.rcall R.out.box hb); clear KT hr ha hb h1 ho4))
        | (refine wpList_vbs 25 67 36 1 rfl _ rfl U4 (one_arr TI.out.at.one) (by unfold maxLen; omega) (ps := #[(0, .agg (arr 36 U4))]) (by kernel_rfl) (fun W => run_bs1 Try.underlying25 infoIn3 (by omega) (by omega) _ (arr_size _ _) W) (arr_vs _ _) ?_; intro p13 g13 w13 N13 hb13; replace E := Lib.hid (E.out.call hb13.out); replace TI := Lib.hid (TI.out.below hb13.out); replace N3 := Lib.hid (N3.out.below hb13.out); replace I3 := Lib.hid (fun i h => (I3.out i h).below hb13.out); clear hb13)
        | (at_builtin; refine wpList_vapp 25 67 36 96 Try.underlying25 infoIn3 (by first | rfl | exact arr_size _ _) (by omega) rfl (.tmp 13) (.tmp 17) rfl rfl N3 rfl (Lib.hid N13.out.row) (by unfold maxLen; omega) (by omega) ?_; intro p14 g14 c14 w14 N14 hg14))
      have KT := Lib.hid (KeepT.of_grown N3.out hg14.out)
      have BU := Lib.hid (N3.out.under hg14.out (Nat.le_refl _) E.out.rsize)
      have E2 := Lib.hid (E.out.part BU.out (by rw [rb_size]; exact Nat.le_refl _) (fun q hq => by cases hq))
      have I14 : Hid (∀ i (h : i < (ts ++ [t]).length), InOwn W.heap.size w14 (fun x => (vcat V3 (j * 36) U4) (i * 36 + x)) (ts ++ [t])[i]) := Lib.hid (fun i h => by
        rw [List.length_append, List.length_singleton, TL.out] at h
        by_cases e : i = j
        · subst e
          have e2 : (ts ++ [t])[i]'(by rw [List.length_append, List.length_singleton, TL.out]; exact h) = t := by
            rw [List.getElem_append_right (by rw [TL.out]; omega)]
            simp
          rw [e2]
          exact (TI.out.keep KT.out (by decide) (by decide)).to fun y hy => vcat_hi.symm
        · have hi : i < ts.length := by rw [TL.out]; omega
          have e2 : (ts ++ [t])[i]'(by rw [List.length_append, List.length_singleton, TL.out]; exact h) = ts[i] := List.getElem_append_left hi
          rw [e2]
          exact ((I3.out i hi).keep KT.out (by decide) (by decide)).to fun y hy => (vcat_lo (by omega) hy).symm)
      have PE2 := Lib.hid (show pRep pIn n r0 = (pRep pIn k1 r4).bind fun l s => .good (ts ++ [t] ++ l) s by
        rw [PE.out]
        congr 1
        funext l s
        rw [List.append_assoc]
        rfl)
      have TL2 := Lib.hid (show (ts ++ [t]).length = j + 1 by rw [List.length_append, List.length_singleton, TL.out])
      clear KT BU hg14 N13 E TI I3 PE N3 TL
      go_roundg k1
      case measure => omega
      case rel => exact ⟨j + 1, p14, g14, c14, _, u4, r4, ts ++ [t], by omega, by go_num, rfl, TL2, N14, I14, HA, E2, PE2⟩
    · obtain rfl : j = n := by omega
      obtain rfl : kk = 0 := by omega
      have PP := Lib.hid (show pList 2000 pIn xs = .good ts r3 from (Res.bg HR0.out).trans (PE.out.trans (by rw [pRep]; show Res.good (ts ++ []) r3 = _; rw [List.append_nil])))
      go_wp2
      go_ret
      exact RdPost.good PP.out HA.out E.out ⟨p3, g3, c3, V3, by rw [TL.out]; rfl, by rw [TL.out]; omega, by rw [TL.out]; exact N3.out, I3.out⟩

set_option maxHeartbeats 8000000 in
theorem plouts_any (R : Hid (Rd D W b u xs)) : Calls Try.prog 65 #[.pointer (some ⟨b, 0, none⟩), .int .i64 2000, .func (.func 66) #[] #[]] W (RdPost D W b (fun w' v a => OutsOwn W.heap.size w' v a) (pList 2000 pOut xs)) := by
  have E := Lib.hid R.out.start
  go_enter Try.func65, Try.ntmps65
  go_wp2_with (first
    | (go_at_call 92; refine (pcnt_any R 2000 (by omega)).mono ?_; intro e1 w1 h1; rcases h1.cases with ⟨er, hr, rfl, ho⟩ | ⟨n, r0, v1, u0, hr, rfl, ha, hb, rfl⟩; case inl => exact ⟨rfl, RdPost.bad (Res.bb hr) ho⟩
       (have HR0 := Lib.hid hr; have HA0 := Lib.hid ha; have HN := pCnt_le hr; replace E := Lib.hid (E.out.rcall R.out.box hb); clear hr ha hb h1)))
  have n3 : n ≤ 140737488355328 := by omega
  go_loopg [7, 11] n (fun k s i wr => ∃ (j : Nat) (p : Option Addr) (g c : Nat) (V : Nat → Value) (u : Value) (r : List Nat) (ts : List TOut), j + k = n ∧ i = .int .i64 (j : Int) ∧ s = .slice p j c ∧ Hid (ts.length = j) ∧ Hid (VOwn 70 2 W.heap.size wr p g j c V) ∧ Hid (∀ i (h : i < ts.length), OutOwn W.heap.size wr (fun x => V (i * 2 + x)) ts[i]) ∧ Hid (TextAt D u r) ∧ Hid (Mem (rb W b #[u]) [] wr) ∧ Hid (pRep pOut n r0 = (pRep pOut k r).bind fun l s => .good (ts ++ l) s))
  case atStart => exact ⟨0, none, 0, 0, fun _ => undef, u0, r0, [], by omega, rfl, rfl, Lib.hid rfl, Lib.hid (vown_nothing _ _ _ _ _ E.out.rsize), Lib.hid (fun i h => by simp at h), HA0, E, Lib.hid (by cases pRep pOut n r0 <;> rfl)⟩
  case round =>
    clear E HA0
    obtain ⟨j, p3, g3, c3, V3, u3, r3, ts, hj, rfl, rfl, TL, N3, I3, HA, E, PE⟩ := hrel
    obtain ⟨kk, hkk⟩ : ∃ kk : Nat, kk = gk := ⟨_, rfl⟩
    rw [← hkk] at hj PE
    by_cases hlt : j < n
    · obtain ⟨k1, rfl⟩ : ∃ k1, kk = k1 + 1 := ⟨kk - 1, by omega⟩
      go_wp2_with (first
        | (go_at_call 66; refine (pout_any (Lib.hid (E.out.rnext R.out HA.out))).mono ?_; intro e1 w1 h1; rcases h1.cases with ⟨er, hr, rfl, ho⟩ | ⟨t, r4, v4, u4, hr, rfl, ha, hb, U4, rfl, ho4⟩; case inl => exact ⟨rfl, RdPost.bad ((Res.bg HR0.out).trans (PE.out.trans (pRep_bad hr _))) (E.out.ronly.trans ho)⟩
           (replace PE := Lib.hid (PE.out.trans (pRep_step hr _)); replace HA := Lib.hid ha; have KT := rkeep (E.out.rbox R.out.box) hb; have TI := Lib.hid (OutOwn.mono ho4 E.out.rsize)
            replace N3 := Lib.hid (N3.out.keep KT (by decide)); replace I3 := Lib.hid (fun i h => ((I3.out i h)).keep KT (by decide)); replace E := Lib.hid (E.out.rcall R.out.box hb); clear KT hr ha hb h1 ho4))
        | (refine wpList_vbs 26 70 2 1 rfl _ rfl U4 (one_arr (out_one TI.out)) (by unfold maxLen; omega) (ps := #[(0, .agg (arr 2 U4))]) (by kernel_rfl) (fun W => run_bs1 Try.underlying26 infoOut3 (by omega) (by omega) _ (arr_size _ _) W) (arr_vs _ _) ?_; intro p13 g13 w13 N13 hb13; replace E := Lib.hid (E.out.call hb13.out); replace TI := Lib.hid (TI.out.below hb13.out); replace N3 := Lib.hid (N3.out.below hb13.out); replace I3 := Lib.hid (fun i h => (I3.out i h).below hb13.out); clear hb13)
        | (at_builtin; refine wpList_vapp 26 70 2 32 Try.underlying26 infoOut3 rfl (by omega) rfl (.tmp 13) (.tmp 17) rfl rfl N3 rfl (Lib.hid N13.out.row) (by unfold maxLen; omega) (by omega) ?_; intro p14 g14 c14 w14 N14 hg14))
      have KT := Lib.hid (KeepT.of_grown N3.out hg14.out)
      have BU := Lib.hid (N3.out.under hg14.out (Nat.le_refl _) E.out.rsize)
      have E2 := Lib.hid (E.out.part BU.out (by rw [rb_size]; exact Nat.le_refl _) (fun q hq => by cases hq))
      have I14 : Hid (∀ i (h : i < (ts ++ [t]).length), OutOwn W.heap.size w14 (fun x => (vcat V3 (j * 2) U4) (i * 2 + x)) (ts ++ [t])[i]) := Lib.hid (fun i h => by
        rw [List.length_append, List.length_singleton, TL.out] at h
        by_cases e : i = j
        · subst e
          have e2 : (ts ++ [t])[i]'(by rw [List.length_append, List.length_singleton, TL.out]; exact h) = t := by
            rw [List.getElem_append_right (by rw [TL.out]; omega)]
            simp
          rw [e2]
          exact (TI.out.keep KT.out (by decide)).to fun y hy => vcat_hi.symm
        · have hi : i < ts.length := by rw [TL.out]; omega
          have e2 : (ts ++ [t])[i]'(by rw [List.length_append, List.length_singleton, TL.out]; exact h) = ts[i] := List.getElem_append_left hi
          rw [e2]
          exact ((I3.out i hi).keep KT.out (by decide)).to fun y hy => (vcat_lo (by omega) hy).symm)
      have PE2 := Lib.hid (show pRep pOut n r0 = (pRep pOut k1 r4).bind fun l s => .good (ts ++ [t] ++ l) s by
        rw [PE.out]
        congr 1
        funext l s
        rw [List.append_assoc]
        rfl)
      have TL2 := Lib.hid (show (ts ++ [t]).length = j + 1 by rw [List.length_append, List.length_singleton, TL.out])
      clear KT BU hg14 N13 E TI I3 PE N3 TL
      go_roundg k1
      case measure => omega
      case rel => exact ⟨j + 1, p14, g14, c14, _, u4, r4, ts ++ [t], by omega, by go_num, rfl, TL2, N14, I14, HA, E2, PE2⟩
    · obtain rfl : j = n := by omega
      obtain rfl : kk = 0 := by omega
      have PP := Lib.hid (show pList 2000 pOut xs = .good ts r3 from (Res.bg HR0.out).trans (PE.out.trans (by rw [pRep]; show Res.good (ts ++ []) r3 = _; rw [List.append_nil])))
      go_wp2
      go_ret
      exact RdPost.good PP.out HA.out E.out ⟨p3, g3, c3, V3, by rw [TL.out]; rfl, by rw [TL.out]; omega, by rw [TL.out]; exact N3.out, I3.out⟩

set_option maxHeartbeats 8000000 in
theorem pltexts_any (R : Hid (Rd D W b u xs)) : Calls Try.prog 67 #[.pointer (some ⟨b, 0, none⟩), .int .i64 100, .func (.func 68) #[] #[]] W (RdPost D W b (fun w' v a => TextsOwn W.heap.size w' v a) (pList 100 (pText 10000) xs)) := by
  have E := Lib.hid R.out.start
  go_enter Try.func67, Try.ntmps67
  go_wp2_with (first
    | (go_at_call 92; refine (pcnt_any R 100 (by omega)).mono ?_; intro e1 w1 h1; rcases h1.cases with ⟨er, hr, rfl, ho⟩ | ⟨n, r0, v1, u0, hr, rfl, ha, hb, rfl⟩; case inl => exact ⟨rfl, RdPost.bad (Res.bb hr) ho⟩
       (have HR0 := Lib.hid hr; have HA0 := Lib.hid ha; have HN := pCnt_le hr; replace E := Lib.hid (E.out.rcall R.out.box hb); clear hr ha hb h1)))
  have n3 : n ≤ 140737488355328 := by omega
  go_loopg [7, 11] n (fun k s i wr => ∃ (j : Nat) (p : Option Addr) (g c : Nat) (V : Nat → Value) (u : Value) (r : List Nat) (ts : List (List Nat)), j + k = n ∧ i = .int .i64 (j : Int) ∧ s = .slice p j c ∧ Hid (ts.length = j) ∧ Hid (VOwn 22 1 W.heap.size wr p g j c V) ∧ Hid (∀ i (h : i < ts.length), TextOwn W.heap.size wr (V i) ts[i]) ∧ Hid (TextAt D u r) ∧ Hid (Mem (rb W b #[u]) [] wr) ∧ Hid (pRep (pText 10000) n r0 = (pRep (pText 10000) k r).bind fun l s => .good (ts ++ l) s))
  case atStart => exact ⟨0, none, 0, 0, fun _ => undef, u0, r0, [], by omega, rfl, rfl, Lib.hid rfl, Lib.hid (vown_nothing _ _ _ _ _ E.out.rsize), Lib.hid (fun i h => by simp at h), HA0, E, Lib.hid (by cases pRep (pText 10000) n r0 <;> rfl)⟩
  case round =>
    clear E HA0
    obtain ⟨j, p3, g3, c3, V3, u3, r3, ts, hj, rfl, rfl, TL, N3, I3, HA, E, PE⟩ := hrel
    obtain ⟨kk, hkk⟩ : ∃ kk : Nat, kk = gk := ⟨_, rfl⟩
    rw [← hkk] at hj PE
    by_cases hlt : j < n
    · obtain ⟨k1, rfl⟩ : ∃ k1, kk = k1 + 1 := ⟨kk - 1, by omega⟩
      go_wp2_with (first
        | (go_at_call 68; refine (preadtext_any (Lib.hid (E.out.rnext R.out HA.out))).mono ?_; intro e1 w1 h1; rcases h1.cases with ⟨er, hr, rfl, ho⟩ | ⟨t, r4, v4, u4, hr, rfl, ha, hb, ho4⟩; case inl => exact ⟨rfl, RdPost.bad ((Res.bg HR0.out).trans (PE.out.trans (pRep_bad hr _))) (E.out.ronly.trans ho)⟩
           (replace PE := Lib.hid (PE.out.trans (pRep_step hr _)); replace HA := Lib.hid ha; have KT := rkeep (E.out.rbox R.out.box) hb; have TI := Lib.hid (TextOwn.mono ho4 E.out.rsize)
            replace N3 := Lib.hid (N3.out.keep KT (by decide)); replace I3 := Lib.hid (fun i h => ((I3.out i h)).keep KT (by decide)); replace E := Lib.hid (E.out.rcall R.out.box hb); clear KT hr ha hb h1 ho4))
        | (obtain ⟨p5, g5, c5, rfl, hx5⟩ := TI.out; clear hx5; refine wpList_vbs 65 22 1 1 rfl _ rfl (fun _ => .slice p5 t.length c5) (fun _ _ => rfl) (by unfold maxLen; omega) (ps := #[(0, .slice p5 t.length c5)]) (by kernel_rfl) (fun W => run_bs1v Try.underlying65 infoText3 _ rfl W) (vs_const _) ?_; intro p13 g13 w13 N13 hb13; replace E := Lib.hid (E.out.call hb13.out); replace TI := Lib.hid (TI.out.below hb13.out); replace N3 := Lib.hid (N3.out.below hb13.out); replace I3 := Lib.hid (fun i h => (I3.out i h).below hb13.out); clear hb13)
        | (at_builtin; refine wpList_vapp 65 22 1 24 Try.underlying65 infoText3 rfl (by omega) rfl (.tmp 13) (.tmp 17) rfl rfl N3 rfl (Lib.hid N13.out.row) (by unfold maxLen; omega) (by omega) ?_; intro p14 g14 c14 w14 N14 hg14))
      have KT := Lib.hid (KeepT.of_grown N3.out hg14.out)
      have BU := Lib.hid (N3.out.under hg14.out (Nat.le_refl _) E.out.rsize)
      have E2 := Lib.hid (E.out.part BU.out (by rw [rb_size]; exact Nat.le_refl _) (fun q hq => by cases hq))
      have I14 : Hid (∀ i (h : i < (ts ++ [t]).length), TextOwn W.heap.size w14 (vcat V3 (j * 1) (fun _ => Value.slice p5 t.length c5) i) (ts ++ [t])[i]) := Lib.hid (fun i h => by
        rw [List.length_append, List.length_singleton, TL.out] at h
        by_cases e : i = j
        · subst e
          have e2 : (ts ++ [t])[i]'(by rw [List.length_append, List.length_singleton, TL.out]; exact h) = t := by
            rw [List.getElem_append_right (by rw [TL.out]; omega)]
            simp
          rw [e2]
          have e3 : vcat V3 (i * 1) (fun _ => Value.slice p5 t.length c5) i = .slice p5 t.length c5 := by unfold vcat; rw [if_neg (by omega)]
          rw [e3]
          exact TI.out.keep KT.out (by decide)
        · have hi : i < ts.length := by rw [TL.out]; omega
          have e2 : (ts ++ [t])[i]'(by rw [List.length_append, List.length_singleton, TL.out]; exact h) = ts[i] := List.getElem_append_left hi
          rw [e2]
          have e3 : vcat V3 (j * 1) (fun _ => Value.slice p5 t.length c5) i = V3 i := by unfold vcat; rw [if_pos (by omega)]
          rw [e3]
          exact (I3.out i hi).keep KT.out (by decide))
      have PE2 := Lib.hid (show pRep (pText 10000) n r0 = (pRep (pText 10000) k1 r4).bind fun l s => .good (ts ++ [t] ++ l) s by
        rw [PE.out]
        congr 1
        funext l s
        rw [List.append_assoc]
        rfl)
      have TL2 := Lib.hid (show (ts ++ [t]).length = j + 1 by rw [List.length_append, List.length_singleton, TL.out])
      clear KT BU hg14 N13 E TI I3 PE N3 TL
      go_roundg k1
      case measure => omega
      case rel => exact ⟨j + 1, p14, g14, c14, _, u4, r4, ts ++ [t], by omega, by go_num, rfl, TL2, N14, I14, HA, E2, PE2⟩
    · obtain rfl : j = n := by omega
      obtain rfl : kk = 0 := by omega
      have PP := Lib.hid (show pList 100 (pText 10000) xs = .good ts r3 from (Res.bg HR0.out).trans (PE.out.trans (by rw [pRep]; show Res.good (ts ++ []) r3 = _; rw [List.append_nil])))
      go_wp2
      go_ret
      exact RdPost.good PP.out HA.out E.out ⟨p3, g3, c3, V3, by rw [TL.out]; rfl, by rw [TL.out]; omega, by rw [TL.out]; exact N3.out, I3.out⟩
end
end Go.Proofs.Ytllndneplkigpaa
