/- tx.read. -/
import Derived.Test.YtllndneplkigpaaRj
import Derived.Test.YtllndneplkigpaaZA
import Derived.Test.YtllndneplkigpaaTc
set_option linter.unusedSimpArgs false
set_option linter.unusedVariables false
set_option maxRecDepth 100000
namespace Go.Proofs.Ytllndneplkigpaa
open Go.RowKit Go.Lib Go.Sort

/-- The cells of a transaction of noughts. -/
def txz : Nat → Value := fun i => if i = 0 ∨ i = 3 then .int .u32 0 else .slice none 0 0
theorem infoTxz : (Try.prog.info? 28).map (fun i => (i.zero, i.size)) = some (some (.agg (arr 4 txz)), 4) := by kernel_rfl
theorem ups_one {n : Nat} {V : Nat → Value} (h : ∀ j, j < n → (V j).oneCell' = true) {i : Nat} {v : Value} (hv : v.oneCell' = true) : ∀ j, j < n → (ups V i v j).oneCell' = true := fun j hj => by
  unfold ups
  split
  · exact hv
  · exact h j hj
theorem insOwn_slice {B : Nat} {w : World} {v : Value} {ts : List TIn} (h : InsOwn B w v ts) : ∃ p c, v = .slice p ts.length c := by
  obtain ⟨p, g, c, V, rfl, _⟩ := h
  exact ⟨p, c, rfl⟩
theorem outsOwn_one {B : Nat} {w : World} {v : Value} {ts : List TOut} (h : OutsOwn B w v ts) : v.cells = #[v] ∧ v.oneCell' = true := by
  obtain ⟨p, g, c, V, rfl, _⟩ := h
  exact ⟨rfl, rfl⟩
theorem textsOwn_one {B : Nat} {w : World} {v : Value} {ts : List (List Nat)} (h : TextsOwn B w v ts) : v.cells = #[v] ∧ v.oneCell' = true := by
  obtain ⟨p, g, c, V, rfl, _⟩ := h
  exact ⟨rfl, rfl⟩
/-- The input i: of those read so far, or as it was. -/
abbrev mix (done ins : List TIn) (i : Nat) : List TIn := done ++ ins.drop i
theorem pWits_step {ins : List TIn} {j : Nat} (h : j < ins.length) {xs r : List Nat} {ws : List (List Nat)} (hr : pList 100 (pText 10000) xs = .good ws r) (done : List TIn) :
    ((pWits (ins.drop j) xs).bind fun l s => Res.good (done ++ l) s) = (pWits (ins.drop (j + 1)) r).bind fun l s => Res.good (done ++ [{ ins[j] with wit := ws }] ++ l) s := by
  rw [List.drop_eq_getElem_cons h, pWits, Res.bg hr, Res.bind_assoc]
  congr 1
  funext l s
  show Res.good _ _ = Res.good _ _
  rw [List.append_assoc]
  rfl
theorem pWits_bad {ins : List TIn} {j : Nat} (h : j < ins.length) {xs : List Nat} {e : Int} (hr : pList 100 (pText 10000) xs = .bad e) (f : List TIn → List Nat → Res (List TIn)) : (pWits (ins.drop j) xs).bind f = .bad e := by
  rw [List.drop_eq_getElem_cons h, pWits, Res.bb hr]
  rfl
theorem mix_step {B : Nat} {w : World} {V : Nat → Value} {done ins : List TIn} {j : Nat} {ws : List (List Nat)} {v : Value} (hj : j < ins.length) (hd : done.length = j)
    (h : ∀ i (h : i < (mix done ins j).length), InOwn B w (fun x => V (i * 36 + x)) (mix done ins j)[i]) (hw : TextsOwn B w v ws) :
    ∀ i (h : i < (mix (done ++ [{ ins[j] with wit := ws }]) ins (j + 1)).length), InOwn B w (fun x => ups V (j * 36 + 35) v (i * 36 + x)) (mix (done ++ [{ ins[j] with wit := ws }]) ins (j + 1))[i] := by
  intro i hi
  have hl : (mix done ins j).length = ins.length := by unfold mix; rw [List.length_append, List.length_drop, hd]; omega
  have hl2 : (mix (done ++ [{ ins[j] with wit := ws }]) ins (j + 1)).length = ins.length := by unfold mix; rw [List.length_append, List.length_append, List.length_drop, hd, List.length_singleton]; omega
  have hi2 : i < (mix done ins j).length := by omega
  have h1 := h i hi2
  by_cases e : i = j
  · subst e
    have e1 : (mix done ins i)[i] = ins[i] := by
      unfold mix
      rw [List.getElem_append_right (by omega), List.getElem_drop]
      congr 1
      omega
    have e2 : (mix (done ++ [{ ins[i] with wit := ws }]) ins (i + 1))[i] = { ins[i] with wit := ws } := by
      unfold mix
      rw [List.getElem_append_left (by rw [List.length_append, List.length_singleton]; omega), List.getElem_append_right (by omega)]
      simp
    rw [e1] at h1
    rw [e2]
    exact ⟨h1.len, h1.idB, fun x hx => by rw [ups_ne _ _ (by omega)]; exact h1.id x hx, by rw [ups_ne _ _ (by omega)]; exact h1.idx, h1.idxB, by rw [ups_ne _ _ (by omega)]; exact h1.sc, by rw [ups_ne _ _ (by omega)]; exact h1.sq, h1.sqB, by rw [ups_at]; exact hw⟩
  · have e1 : (mix (done ++ [{ ins[j] with wit := ws }]) ins (j + 1))[i] = (mix done ins j)[i] := by
      unfold mix
      rcases Nat.lt_or_ge i j with q | q
      · rw [List.getElem_append_left (by rw [List.length_append, List.length_singleton]; omega), List.getElem_append_left (by omega), List.getElem_append_left (by omega)]
      · rw [List.getElem_append_right (by rw [List.length_append, List.length_singleton]; omega), List.getElem_append_right (by omega), List.getElem_drop, List.getElem_drop]
        congr 1
        rw [List.length_append, List.length_singleton]
        omega
    rw [e1]
    exact h1.to fun x hx => (ups_ne _ _ (by omega)).symm
section
variable {D W : World} {b : Nat} {u : Value} {xs : List Nat}
def TxV (B : Nat) (w' : World) (v : Value) (a : TTx) : Prop := ∃ V, v = .agg (arr 4 V) ∧ TxOwn B w' V a
set_option maxHeartbeats 16000000 in
theorem ptx_any (R : Hid (Rd D W b u xs)) : Calls Try.prog 24 #[.pointer (some ⟨b, 0, none⟩)] W (RdPost D W b (TxV W.heap.size) (pTx xs)) := by
  have E := Lib.hid R.out.start
  go_enter Try.func24, Try.ntmps24
  go_upto_region 1 with (refine mem_alloc E 28 rfl rfl infoTxz ?_; clear E; intro b0 w0 E; simp only [arr_cells'] at E)
  go_upto_region 2 with (refine mem_alloc E 28 rfl rfl infoTxz ?_; clear E; intro b2 w2 E; simp only [arr_cells'] at E)
  go_upto_region 7 with (first
    | (go_at_call 60; refine (pnum4 (Lib.hid (E.out.rnext R.out R.out.dat))).mono ?_; intro e1 w4 h1; rcases h1.cases with ⟨er, hr, rfl, ho⟩ | ⟨a1, r1, v1, u1, hr, rfl, ha, hb, rfl⟩; case inl => exact ⟨rfl, RdPost.bad (Res.bb hr) (E.out.ronly.trans ho)⟩
       (have HR1 := Lib.hid hr; have HN1 := num4_ok hr R.out.dat; have cw1 : IntKind.u32.wrap (a1 : Int) = (a1 : Int) := by rw [IntKind.wrap_u32]; omega
        have HA := Lib.hid ha; replace E := Lib.hid (E.out.rcall R.out.box hb); clear hr ha hb h1))
    | (refine mem_store_cellk (v := .int .u32 (a1 : Int)) 0 E 24 rfl (.tmp 9) (.tmp 8) rfl rfl rfl rfl (by kernel_rfl) rfl rfl (by rw [arr_size]; omega) ?_; clear E; intro w5 E KT; clear KT; simp only [List.set_cons_zero, List.set_cons_succ, arr_ups] at E)
    | (go_at_call 61; refine (pmark_any (Lib.hid (E.out.rnext R.out HA.out))).mono ?_; intro e1 w4 h1; rcases h1.cases with ⟨er, hr, rfl, ho⟩ | ⟨m, r2, v2, u2, hr, rfl, ha, hb, rfl⟩; case inl => exact ⟨rfl, RdPost.bad ((Res.bg HR1.out).trans (Res.bb hr)) (E.out.ronly.trans ho)⟩
       (have HR2 := Lib.hid hr; replace HA := Lib.hid ha; replace E := Lib.hid (E.out.rcall R.out.box hb); clear hr ha hb h1))
    | (go_at_call 62; refine (plins_any (Lib.hid (E.out.rnext R.out HA.out))).mono ?_; intro e1 w4 h1; rcases h1.cases with ⟨er, hr, rfl, ho⟩ | ⟨ins, r3, v3, u3, hr, rfl, ha, hb, hv⟩; case inl => exact ⟨rfl, RdPost.bad ((Res.bg HR1.out).trans ((Res.bg HR2.out).trans (Res.bb hr))) (E.out.ronly.trans ho)⟩
       (have HR3 := Lib.hid hr; obtain ⟨p1, c1, hv1⟩ := insOwn_slice hv; subst hv1; obtain ⟨n, hn⟩ : ∃ n, n = ins.length := ⟨_, rfl⟩; have HN := Lib.hid hn; have INS := Lib.hid (hv.mono E.out.rsize); rw [← hn] at INS ⊢; replace HA := Lib.hid ha; replace E := Lib.hid (E.out.rcall R.out.box hb); clear hr ha hb h1 hv hn))
    | (refine mem_store_cellk (v := .slice p1 n c1) 0 E 25 rfl (.tmp 14) (.tmp 13) rfl rfl rfl rfl (by kernel_rfl) rfl rfl (by rw [arr_size]; omega) ?_; clear E; intro w6 E KT; simp only [List.set_cons_zero, List.set_cons_succ, arr_ups] at E; replace INS := Lib.hid (INS.out.keep KT.out (by decide) (by decide) (by decide)); clear KT)
    | (refine mem_load_cell (v := .slice p1 n c1) E 25 rfl (.tmp 16) rfl rfl List.mem_cons_self Try.underlying25 rfl (by rw [arr_get 4 _ 1 (by omega), ups_at]) ?_)
    | (go_at_call 64; refine (need_any _ _ _ _).mono ?_; rintro e2 w2 ⟨rfl, ⟨hc, rr, rfl⟩ | ⟨hc, rfl⟩⟩; case inr => exact ⟨rfl, RdPost.bad ((Res.bg HR1.out).trans ((Res.bg HR2.out).trans ((Res.bg HR3.out).trans (if_pos (by rw [← HN.out]; simp at hc; omega))))) E.out.ronly⟩
       (have HNE : Hid (¬ ins.length = 0) := Lib.hid (by rw [← HN.out]; simp at hc; omega); clear hc))
    | (go_at_call 65; refine (plouts_any (Lib.hid (E.out.rnext R.out HA.out))).mono ?_; intro e1 w4 h1; rcases h1.cases with ⟨er, hr, rfl, ho⟩ | ⟨outs, r5, v5, u5, hr, rfl, ha, hb, hv⟩; case inl => exact ⟨rfl, RdPost.bad ((Res.bg HR1.out).trans ((Res.bg HR2.out).trans ((Res.bg HR3.out).trans ((if_neg HNE.out).trans (Res.bb hr))))) (E.out.ronly.trans ho)⟩
       (have HR5 := Lib.hid hr; have OUTS := Lib.hid (hv.mono E.out.rsize); have O1 := Lib.hid (outsOwn_one hv); have KT := rkeep (E.out.rbox R.out.box) hb; replace INS := Lib.hid (INS.out.keep KT (by decide) (by decide) (by decide)); replace HA := Lib.hid ha; replace E := Lib.hid (E.out.rcall R.out.box hb); clear KT hr ha hb h1 hv))
    | (refine mem_store_cellk (v := v5) 0 E 26 rfl (.tmp 23) (.tmp 22) rfl rfl rfl rfl (by kernel_rfl) O1.out.1 O1.out.2 (by rw [arr_size]; omega) ?_; clear E; intro w6 E KT; simp only [List.set_cons_zero, List.set_cons_succ, arr_ups] at E; replace INS := Lib.hid (INS.out.keep KT.out (by decide) (by decide) (by decide)); replace OUTS := Lib.hid (OUTS.out.keep KT.out (by decide) (by decide)); clear KT))
  obtain ⟨V3, hV3⟩ : ∃ V3 : Nat → Value, V3 = ups (ups (ups txz 0 (.int .u32 (a1 : Int))) 1 (.slice p1 n c1)) 2 v5 := ⟨_, rfl⟩
  have VER : Hid (V3 0 = w32 a1) := Lib.hid (by rw [hV3, ups_ne _ _ (by omega), ups_ne _ _ (by omega), ups_at]; rfl)
  have V1 : Hid (V3 1 = .slice p1 n c1) := Lib.hid (by rw [hV3, ups_ne _ _ (by omega), ups_at])
  have V2 : Hid (V3 2 = v5) := Lib.hid (by rw [hV3, ups_at])
  have ONE : Hid (∀ j, j < 4 → (V3 j).oneCell' = true) := Lib.hid (by
    rw [hV3]
    exact ups_one (ups_one (ups_one (fun j _ => by unfold txz; split <;> rfl) rfl) rfl) O1.out.2)
  have VB := Lib.hid HN1
  rw [← hV3] at E
  have l1 : (arr 4 V3)[1]? = some (.slice p1 n c1) := by rw [arr_get 4 V3 1 (by omega), V1.out]
  clear hV3 cw1 HN1
  cases m
  case false =>
   go_wp2_with (first
    | (go_at_call 60; refine (pnum4 (Lib.hid (E.out.rnext R.out HA.out))).mono ?_; intro e1 w4 h1; rcases h1.cases with ⟨er, hr, rfl, ho⟩ | ⟨a9, r9, v9, u9, hr, rfl, ha, hb, rfl⟩; case inl => exact ⟨rfl, RdPost.bad ((Res.bg HR1.out).trans ((Res.bg HR2.out).trans ((Res.bg HR3.out).trans ((if_neg HNE.out).trans ((Res.bg HR5.out).trans ((Res.bg (show pIns false ins r5 = .good ins r5 from if_neg (by decide))).trans (Res.bb hr))))))) (E.out.ronly.trans ho)⟩
       (have HR9 := Lib.hid hr; have HN9 := num4_ok hr HA.out; have cw9 : IntKind.u32.wrap (a9 : Int) = (a9 : Int) := by rw [IntKind.wrap_u32]; omega
        replace HA := Lib.hid ha; have KT := rkeep (E.out.rbox R.out.box) hb; replace INS := Lib.hid (INS.out.keep KT (by decide) (by decide) (by decide)); replace OUTS := Lib.hid (OUTS.out.keep KT (by decide) (by decide)); replace E := Lib.hid (E.out.rcall R.out.box hb); clear KT hr ha hb h1))
    | (refine mem_store_cellk (v := .int .u32 (a9 : Int)) 0 E 24 rfl (.tmp 47) (.tmp 46) rfl rfl rfl rfl (by kernel_rfl) rfl rfl (by rw [arr_size]; omega) ?_; clear E; intro w7 E KT; simp only [List.set_cons_zero, List.set_cons_succ, arr_ups] at E; replace INS := Lib.hid (INS.out.keep KT.out (by decide) (by decide) (by decide)); replace OUTS := Lib.hid (OUTS.out.keep KT.out (by decide) (by decide)); clear KT)
    | (refine mem_load_row E 28 rfl (.tmp 3) rfl rfl List.mem_cons_self Try.underlying28 rfl (by simp only [arr_size]; kernel_rfl) ?_)
    | (refine mem_store_rowk 1 E 28 rfl (.tmp 2) (.tmp 48) rfl rfl rfl rfl (by kernel_rfl) (by simp only [arr_size]) (all_of (ups_one ONE.out rfl)) ?_; clear E; intro w14 E KT; simp only [List.set_cons_zero, List.set_cons_succ] at E; replace INS := Lib.hid (INS.out.keep KT.out (by decide) (by decide) (by decide)); replace OUTS := Lib.hid (OUTS.out.keep KT.out (by decide) (by decide)); clear KT))
   refine bodyPost_ret (results_cell_row (fn := Try.f24) rfl _ _ b0 28 _ (0, 0) _ rfl (E.out.get (List.mem_cons_of_mem _ List.mem_cons_self)) Try.underlying28 rfl (by rw [arr_size]; kernel_rfl)) rfl ?_
   refine RdPost.good ((Res.bg HR1.out).trans ((Res.bg HR2.out).trans ((Res.bg HR3.out).trans ((if_neg HNE.out).trans ((Res.bg HR5.out).trans ((Res.bg (show pIns false ins r5 = .good ins r5 from if_neg (by decide))).trans (Res.bg HR9.out))))))) HA.out E.out ⟨_, rfl, ?_⟩
   exact ⟨by rw [ups_ne _ _ (by omega)]; exact VER.out, VB.out, by rw [ups_ne _ _ (by omega), V1.out]; exact INS.out, by rw [ups_ne _ _ (by omega), V2.out]; exact OUTS.out, by rw [ups_at]; rfl, HN9⟩
  case true =>
   obtain ⟨p1', g1', c1', V5, hv5, hl5, N5, I5⟩ := INS.out
   injection hv5 with e1 e2 e3
   subst e1 e3
   have HL5 := Lib.hid hl5
   have NN5 : Hid (VOwn 67 36 W.heap.size w6 p1 g1' n c1 V5) := Lib.hid (by rw [HN.out]; exact N5)
   have II5 := Lib.hid I5
   have nle := (show n ≤ 2000 by rw [HN.out]; have := pList_len HR3.out; omega)
   have CF := Lib.hid (show ∀ (w' : World) (ts : List TIn), InsAt w' (.slice p1 n c1) ts → Calls Try.prog 38 #[.slice p1 n c1, .func (.func 39) #[] #[]] w' fun e w'' => e = .returned (.bool (ts.any hasB)) ∧ Below w'.heap.size w' w'' from fun w' ts A => cfhasw_any (Lib.hid hasw_any) (Lib.hid A))
   clear e2 hl5 N5 I5 INS
   go_upto_region 8 with fail
   go_wp2_with (refine mem_load_cell (v := .slice p1 n c1) E 25 rfl (.tmp 25) rfl rfl List.mem_cons_self Try.underlying25 rfl l1 ?_)
   go_loopg [28] n (fun k i wr => ∃ (j : Nat) (V : Nat → Value) (u : Value) (r : List Nat) (done : List TIn), j + k = n ∧ i = .int .i64 (j : Int) ∧ Hid (done.length = j) ∧ Hid (VOwn 67 36 W.heap.size wr p1 g1' n c1 V) ∧ Hid (∀ i (h : i < (mix done ins j).length), InOwn W.heap.size wr (fun x => V (i * 36 + x)) (mix done ins j)[i]) ∧ Hid (OutsOwn W.heap.size wr v5 outs) ∧ Hid (TextAt D u r) ∧ Hid (Mem (rb W b #[u]) [(b2, 28, arr 4 V3), (b0, 28, arr 4 txz)] wr) ∧ Hid (pWits ins r5 = (pWits (ins.drop j) r).bind fun l s => .good (done ++ l) s))
   case atStart => exact ⟨0, V5, u5, r5, [], by omega, rfl, Lib.hid rfl, NN5, II5, OUTS, HA, E, Lib.hid (by rw [List.drop_zero]; cases pWits ins r5 <;> rfl)⟩
   case round =>
    clear E HA OUTS NN5 II5
    obtain ⟨j, V, u6, r6, done, hj, rfl, DL, N, I, OUTS, HA, E, PW⟩ := hrel
    obtain ⟨kk, rfl⟩ : ∃ kk : Nat, kk = gk := ⟨_, rfl⟩
    by_cases hlt : j < n
    · have hlt2 : j < ins.length := by rw [← HN.out]; exact hlt
      have HLT := Lib.hid hlt2
      obtain rfl := N.out.row.head (by omega)
      go_upto_region 11 with fail
      have E1 := Lib.hid (Mem.nil wr)
      refine wp_region_memS (S := fun W' => W'.heap[b2]? = some (.cells (arr 4 V3) 28 (0, 0))) E1 (by kernel_rfl) ?_
      clear E1
      intro wx E0
      replace E := Lib.hid (E.out.call E0.out.below)
      replace N := Lib.hid (N.out.below E0.out.below)
      replace I := Lib.hid (fun i h => (I.out i h).below E0.out.below)
      replace OUTS := Lib.hid (OUTS.out.below E0.out.below)
      have S0 := Lib.hid (E.out.get List.mem_cons_self)
      clear E0
      refine hm_run 0 31 (.pointer (some ⟨b2, 1, none⟩)) rfl rfl (by kernel_rfl) (by kernel_rfl) (by kernel_rfl) (fun _ _ _ h => h) rfl (fun _ _ => rfl) S0.out ?_
      try simp only [Act.put, List.getElem_toArray, List.getElem_cons_succ, List.getElem_cons_zero, List.setIfInBounds_toArray, List.set_cons_zero, List.set_cons_succ]
      refine hm_run 1 32 (.slice (some ⟨g1', 0, none⟩) n c1) rfl rfl (by kernel_rfl) (by kernel_rfl) (by kernel_rfl) (fun _ _ _ h => h) rfl (fun W' hW => exec_load rfl (run_load_one Try.underlying25 rfl (cell_of_here hW 1 l1))) S0.out ?_
      try simp only [Act.put, List.getElem_toArray, List.getElem_cons_succ, List.getElem_cons_zero, List.setIfInBounds_toArray, List.set_cons_zero, List.set_cons_succ]
      refine hm_run 2 33 (.int .i64 (j : Int)) rfl rfl (by kernel_rfl) (by kernel_rfl) (by kernel_rfl) (fun _ _ _ h => h) rfl (fun _ _ => rfl) S0.out ?_
      try simp only [Act.put, List.getElem_toArray, List.getElem_cons_succ, List.getElem_cons_zero, List.setIfInBounds_toArray, List.set_cons_zero, List.set_cons_succ]
      refine hm_run 3 34 (.pointer (some ⟨b, 0, none⟩)) rfl rfl (by kernel_rfl) (by kernel_rfl) (by kernel_rfl) (fun _ _ _ h => h) rfl (fun _ _ => rfl) S0.out ?_
      try simp only [Act.put, List.getElem_toArray, List.getElem_cons_succ, List.getElem_cons_zero, List.setIfInBounds_toArray, List.set_cons_zero, List.set_cons_succ]
      refine hm_one (i := 4) (by kernel_rfl) ?_
      refine hm_step 4 rfl (by kernel_rfl) fun K hK => ?_
      try simp only [Act.put, List.getElem_toArray, List.getElem_cons_succ, List.getElem_cons_zero, List.setIfInBounds_toArray, List.set_cons_zero, List.set_cons_succ]
      go_simp
      go_at_call 67
      refine (pltexts_any (Lib.hid (E.out.rnext R.out HA.out))).mono ?_
      intro e1 w7 h1
      rcases h1.cases with ⟨er, hr, rfl, ho⟩ | ⟨ws, r7, v7, u7, hr, rfl, ha, hb, hv⟩
      · exact ⟨rfl, RdPost.bad ((Res.bg HR1.out).trans ((Res.bg HR2.out).trans ((Res.bg HR3.out).trans ((if_neg HNE.out).trans ((Res.bg HR5.out).trans (Res.bb ((if_pos rfl).trans (Res.bb (PW.out.trans (pWits_bad HLT.out hr _)))))))))) (E.out.ronly.trans ho)⟩
      have W7 := Lib.hid (hv.mono E.out.rsize)
      have W1 := Lib.hid (textsOwn_one hv)
      replace PW := Lib.hid (PW.out.trans (pWits_step HLT.out hr done))
      have KT := rkeep (E.out.rbox R.out.box) hb
      replace N := Lib.hid (N.out.keep KT (by decide))
      replace I := Lib.hid (fun i h => (I.out i h).keep KT (by decide) (by decide))
      replace OUTS := Lib.hid (OUTS.out.keep KT (by decide) (by decide))
      replace HA := Lib.hid ha
      replace E := Lib.hid (E.out.rcall R.out.box hb)
      have S1 := Lib.hid (E.out.get List.mem_cons_self)
      clear KT hr ha hb h1 hv S0
      refine hK _ _ S1.out ?_
      clear hK K
      try simp only [Act.put, List.getElem_toArray, List.getElem_cons_succ, List.getElem_cons_zero, List.setIfInBounds_toArray, List.set_cons_zero, List.set_cons_succ]
      refine hm_run 5 36 (.pointer (some ⟨g1', j * 36, none⟩)) rfl rfl (by kernel_rfl) (by kernel_rfl) (by kernel_rfl) (fun _ _ _ h => h) rfl (fun W' _ => exec_ix rfl (by have e := run_ix (P := Try.prog) (c := c1) (g := g1') (o := 0) (q := .i64) (k := 36) (j := j) Try.underlying25 (by kernel_rfl) hlt rfl W'; rw [Nat.zero_add] at e; exact e)) S1.out ?_
      try simp only [Act.put, List.getElem_toArray, List.getElem_cons_succ, List.getElem_cons_zero, List.setIfInBounds_toArray, List.set_cons_zero, List.set_cons_succ]
      refine hm_run 6 37 (.pointer (some ⟨g1', j * 36 + 35, none⟩)) rfl rfl (by kernel_rfl) (by kernel_rfl) (by kernel_rfl) (fun _ _ _ h => h) rfl (fun _ _ => rfl) S1.out ?_
      try simp only [Act.put, List.getElem_toArray, List.getElem_cons_succ, List.getElem_cons_zero, List.setIfInBounds_toArray, List.set_cons_zero, List.set_cons_succ]
      refine hm_one (i := 7) (by kernel_rfl) ?_
      refine hm_step 7 rfl (by kernel_rfl) fun K hK => ?_
      try simp only [Act.put, List.getElem_toArray, List.getElem_cons_succ, List.getElem_cons_zero, List.setIfInBounds_toArray, List.set_cons_zero, List.set_cons_succ]
      refine mo_vput N 65 (.tmp 37) (.tmp 35) rfl rfl rfl (i := j * 36 + 35) (by omega) (by kernel_rfl) W1.out.1 W1.out.2 ?_
      intro w8 N8 HO8 KT8 HG8
      have B8 := Lib.hid (HO8.out.belowOf HG8.out E.out.rsize)
      have GN := Lib.hid (show g1' ≠ b2 ∧ g1' ≠ b0 from by
        rcases N.out.typed with h | ⟨cur, h, _⟩
        · cases h
        · refine ⟨fun e => ?_, fun e => ?_⟩
          · rw [e, E.out.get List.mem_cons_self] at h
            injection h with h
            injection h with _ h _
            exact absurd h (by decide)
          · rw [e, E.out.get (List.mem_cons_of_mem _ List.mem_cons_self)] at h
            injection h with h
            injection h with _ h _
            exact absurd h (by decide))
      have E8 : Hid (Mem (rb W b #[u7]) [(b2, 28, arr 4 V3), (b0, 28, arr 4 txz)] w8) := Lib.hid ⟨E.out.below.trans (by rw [rb_size]; exact B8.out), fun q hq => by
        have h1 := E.out.has q hq
        simp only [List.mem_cons, List.not_mem_nil, or_false] at hq
        rcases hq with rfl | rfl
        · exact HO8.out.heap GN.out.1.symm h1
        · exact HO8.out.heap GN.out.2.symm h1, E.out.nd, E.out.ge⟩
      have S8 := Lib.hid (E8.out.get List.mem_cons_self)
      have I8 : Hid (∀ i (h : i < (mix (done ++ [{ ins[j] with wit := ws }]) ins (j + 1)).length), InOwn W.heap.size w8 (fun x => ups V (j * 36 + 35) v7 (i * 36 + x)) (mix (done ++ [{ ins[j] with wit := ws }]) ins (j + 1))[i]) := Lib.hid (mix_step HLT.out DL.out (fun i h => (I.out i h).keep KT8.out (by decide) (by decide)) (W7.out.keep KT8.out (by decide) (by decide)))
      replace OUTS := Lib.hid (OUTS.out.keep KT8.out (by decide) (by decide))
      have DL8 := Lib.hid (show (done ++ [{ ins[j] with wit := ws }]).length = j + 1 by rw [List.length_append, List.length_singleton, DL.out])
      clear KT8 HO8 HG8 B8 GN E N I W7 W1 DL
      refine hK _ _ S8.out ?_
      clear hK K S1 S8
      try simp only [Act.put, List.getElem_toArray, List.getElem_cons_succ, List.getElem_cons_zero, List.setIfInBounds_toArray, List.set_cons_zero, List.set_cons_succ]
      refine wpAnyH_done (by kernel_rfl) ?_ _
      go_wp2_with fail
      go_roundg (n - (j + 1))
      case measure => omega
      case rel => exact ⟨j + 1, _, u7, r7, _, by omega, by go_num, DL8, N8, I8, OUTS, HA, E8, PW⟩
    · obtain rfl : j = n := by omega
      obtain ⟨ins', hins⟩ : ∃ ins', ins' = mix done ins j := ⟨_, rfl⟩
      have PW2 : Hid (pWits ins r5 = .good ins' r6) := Lib.hid (by
        have hd : ins.drop j = [] := List.drop_eq_nil_of_le (by rw [← HN.out]; exact Nat.le_refl _)
        rw [PW.out, hins]
        unfold mix
        rw [hd]
        rfl)
      have LI : Hid (ins'.length = j) := Lib.hid (by
        have hd : ins.drop j = [] := List.drop_eq_nil_of_le (by rw [← HN.out]; exact Nat.le_refl _)
        rw [hins]
        unfold mix
        rw [hd, List.append_nil, DL.out])
      rw [← hins] at I
      have INS : Hid (InsOwn W.heap.size wr (.slice p1 j c1) ins') := Lib.hid (by rw [← LI.out]; exact ⟨p1, g1', c1, V, rfl, by rw [LI.out]; omega, by rw [LI.out]; exact N.out, I.out⟩)
      clear hins PW N I DL
      go_wp2_with (first
        | (refine mem_load_cell (v := .slice p1 j c1) E 25 rfl (.tmp 40) rfl rfl List.mem_cons_self Try.underlying25 rfl l1 ?_)
        | (go_at_call 38; refine (CF.out _ _ INS.out.at).mono ?_; rintro e4 w4 ⟨rfl, hb⟩; replace INS := Lib.hid (INS.out.below hb); replace OUTS := Lib.hid (OUTS.out.below hb); replace E := Lib.hid (E.out.call hb); clear hb)
        | (go_at_call 64; refine (need_any _ _ _ _).mono ?_; rintro e2 w2 ⟨rfl, ⟨hc, rr, rfl⟩ | ⟨hc, rfl⟩⟩; case inr => exact ⟨rfl, RdPost.bad ((Res.bg HR1.out).trans ((Res.bg HR2.out).trans ((Res.bg HR3.out).trans ((if_neg HNE.out).trans ((Res.bg HR5.out).trans (Res.bb ((if_pos rfl).trans ((Res.bg PW2.out).trans (if_neg (by rw [hc]; decide)))))))))) E.out.ronly⟩
           (have HC := Lib.hid hc; clear hc))
        | (go_at_call 60; refine (pnum4 (Lib.hid (E.out.rnext R.out HA.out))).mono ?_; intro e1 w4 h1; rcases h1.cases with ⟨er, hr, rfl, ho⟩ | ⟨a9, r9, v9, u9, hr, rfl, ha, hb, rfl⟩; case inl => exact ⟨rfl, RdPost.bad ((Res.bg HR1.out).trans ((Res.bg HR2.out).trans ((Res.bg HR3.out).trans ((if_neg HNE.out).trans ((Res.bg HR5.out).trans ((Res.bg ((if_pos rfl).trans ((Res.bg PW2.out).trans (if_pos HC.out)))).trans (Res.bb hr))))))) (E.out.ronly.trans ho)⟩
           (have HR9 := Lib.hid hr; have HN9 := num4_ok hr HA.out; have cw9 : IntKind.u32.wrap (a9 : Int) = (a9 : Int) := by rw [IntKind.wrap_u32]; omega
            replace HA := Lib.hid ha; have KT := rkeep (E.out.rbox R.out.box) hb; replace INS := Lib.hid (INS.out.keep KT (by decide) (by decide) (by decide)); replace OUTS := Lib.hid (OUTS.out.keep KT (by decide) (by decide)); replace E := Lib.hid (E.out.rcall R.out.box hb); clear KT hr ha hb h1))
        | (refine mem_store_cellk (v := .int .u32 (a9 : Int)) 0 E 24 rfl (.tmp 47) (.tmp 46) rfl rfl rfl rfl (by kernel_rfl) rfl rfl (by rw [arr_size]; omega) ?_; clear E; intro w7 E KT; simp only [List.set_cons_zero, List.set_cons_succ, arr_ups] at E; replace INS := Lib.hid (INS.out.keep KT.out (by decide) (by decide) (by decide)); replace OUTS := Lib.hid (OUTS.out.keep KT.out (by decide) (by decide)); clear KT)
        | (refine mem_load_row E 28 rfl (.tmp 3) rfl rfl List.mem_cons_self Try.underlying28 rfl (by simp only [arr_size]; kernel_rfl) ?_)
        | (refine mem_store_rowk 1 E 28 rfl (.tmp 2) (.tmp 48) rfl rfl rfl rfl (by kernel_rfl) (by simp only [arr_size]) (all_of (ups_one ONE.out rfl)) ?_; clear E; intro w14 E KT; simp only [List.set_cons_zero, List.set_cons_succ] at E; replace INS := Lib.hid (INS.out.keep KT.out (by decide) (by decide) (by decide)); replace OUTS := Lib.hid (OUTS.out.keep KT.out (by decide) (by decide)); clear KT))
      refine bodyPost_ret (results_cell_row (fn := Try.f24) rfl _ _ b0 28 _ (0, 0) _ rfl (E.out.get (List.mem_cons_of_mem _ List.mem_cons_self)) Try.underlying28 rfl (by rw [arr_size]; kernel_rfl)) rfl ?_
      refine RdPost.good ((Res.bg HR1.out).trans ((Res.bg HR2.out).trans ((Res.bg HR3.out).trans ((if_neg HNE.out).trans ((Res.bg HR5.out).trans ((Res.bg ((if_pos rfl).trans ((Res.bg PW2.out).trans (if_pos HC.out)))).trans (Res.bg HR9.out))))))) HA.out E.out ⟨_, rfl, ?_⟩
      exact ⟨by rw [ups_ne _ _ (by omega)]; exact VER.out, VB.out, by rw [ups_ne _ _ (by omega), V1.out]; exact INS.out, by rw [ups_ne _ _ (by omega), V2.out]; exact OUTS.out, by rw [ups_at]; rfl, HN9⟩
end
end Go.Proofs.Ytllndneplkigpaa
