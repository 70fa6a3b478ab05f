/- For every hash and every slice of texts: the filter that is built of the first sixty texts is that of the same ones from the last to the first, once more from the first to the last, and an empty one behind; the call returns true. The table that the row lists (that of package sip) is laid as the card ties it. No other condition. -/
import Derived.Test.YtoopcmcmjaikhaaDoorFvs
import Derived.Test.YtoopcmcmjaikhaaDoorFco
import Derived.Test.YtoopcmcmjaikhaaDoorZA
import Derived.Test.YtoopcmcmjaikhaaDoorLt2
import Derived.Test.YtoopcmcmjaikhaaDoorTie
import Derived.Test.YtoopcmcmjaikhaaDoorCards
import Derived.Lay
import Derived.ShutString
import Derived.ChangeOld
import Derived.Below
import Derived.SevenTiedAt
set_option linter.unusedVariables false
set_option linter.unusedSimpArgs false
namespace Go.Proofs.YtoopcmcmjaikhaaDoor.filterOrders
open Go.ChangeShapes Go.WideShapes Go.ChangeAt Go.RowKit Go.Lib Go.Sort Go.Proofs.YtoopcmcmjaikhaaDoor

set_option maxRecDepth 100000
theorem own : ownKnob Tryd.prog.godebug = none := by kernel_rfl
theorem infoLists : (Tryd.prog.info? 30).map (fun i => (i.zero, i.size, i.bytes)) = some (some (.slice none 0 0), 1, 24) := by kernel_rfl
theorem text_nil (w : World) : TextAt w (.slice none 0 0) [] := ⟨none, 0, 0, 0, rfl, by decide, Row.nothing w _ (lf_lt fun x hx => by cases hx)⟩
theorem one3 (p q r : Option Addr) (a b c d e f i : Nat) (hi : i < 3) : (lv [.slice p a b, .slice q c d, .slice r e f] i).oneCell' = true := by
  match i, hi with
  | 0, _ => rfl
  | 1, _ => rfl
  | 2, _ => rfl
  | j + 3, hi => exact absurd hi (by omega)
theorem cat3 {B B1 B2 : Nat} {w : World} {p pr q pn : Option Addr} {g c gr cr g2 o2 c2 gn cn m : Nat} {l : List Value} (N : VOwn 30 1 B w p g 3 c (lv [.slice pr m cr, .slice q m c2, .slice pn 1 cn])) (hl : l.length = m) (VR : VOwn 32 1 B1 w pr gr m cr (lv l.reverse)) (R : VRow 1 w q g2 o2 m c2 (lv l)) (VN : VOwn 32 1 B2 w pn gn 1 cn (fun _ => .slice none 0 0)) (hm : m ≤ 1000) : Calls Tryd.prog 26 #[.slice p 3 c] w fun e w' => (∃ p' g' c', e = .returned (.slice p' (m + m + 1) c') ∧ VOwn 32 1 w.heap.size w' p' g' (m + m + 1) c' (lv (l.reverse ++ l ++ [.slice none 0 0]))) ∧ Below w.heap.size w w' := by
  have e : ([l.reverse, l, [Value.slice none 0 0]] : List (List Value)).flatten = l.reverse ++ l ++ [.slice none 0 0] := by simp
  have el : (l.reverse ++ l ++ [Value.slice none 0 0]).length = m + m + 1 := by simp [hl]; omega
  have h := catbb_any (ls := [l.reverse, l, [.slice none 0 0]]) (Lib.hid N.row) rfl (by decide) (fun j hj => by
    match j, hj with
    | 0, _ => exact ⟨pr, gr, 0, cr, by simp [lv, hl], by simpa [hl] using VR.row⟩
    | 1, _ => exact ⟨q, g2, o2, c2, by simp [lv, hl], by simpa [hl] using R⟩
    | 2, _ => exact ⟨pn, gn, 0, cn, by simp [lv], VN.row.to fun i hi => by
        obtain rfl : i = 0 := by omega
        rfl⟩
    | j + 3, h => exact absurd h (by simp)) (by rw [e, el]; omega)
  rw [e, el] at h
  exact h
theorem nodup_step {acc : List (List Nat)} {t : List Nat} (h : acc.Nodup) : (stepO acc t).Nodup := by
  unfold stepO
  split
  · exact h
  · rename_i q
    refine List.nodup_append.2 ⟨h, by simp, fun a ha b hb => ?_⟩
    rw [List.mem_singleton] at hb
    rintro rfl
    exact q (.inr (hb ▸ ha))
theorem nodup_fold : ∀ (ts acc : List (List Nat)), acc.Nodup → (ts.foldl stepO acc).Nodup
  | [], acc, h => h
  | t :: ts, acc, h => nodup_fold ts _ (nodup_step h)
theorem once_perm {ts us : List (List Nat)} (h : ∀ x, x.length ≠ 0 → (x ∈ ts ↔ x ∈ us)) : (onceL ts).Perm (onceL us) :=
  (List.perm_ext_iff_of_nodup (nodup_fold _ _ List.nodup_nil) (nodup_fold _ _ List.nodup_nil)).2 fun x => by
    show x ∈ onceL ts ↔ x ∈ onceL us
    rw [mem_once, mem_once]
    constructor
    · exact fun q => ⟨(h x q.2).1 q.1, q.2⟩
    · exact fun q => ⟨(h x q.2).2 q.1, q.2⟩
theorem fB_perm {k0 k1 : Nat} {L K : List (List Nat)} (h : L.Perm K) : fB k0 k1 L = fB k0 k1 K := by
  unfold fB
  have e : sortN (fnumsL k0 k1 L) = sortN (fnumsL k0 k1 K) := by
    refine sortN_unique ((sortN_perm _).trans ?_) (sortN_sorted _)
    unfold fnumsL
    rw [h.length_eq]
    exact h.map _
  rw [h.length_eq, e]
set_option maxHeartbeats 32000000 in
theorem walk (W : World) (hL : laidMetH Tryd.prog sipLaid W) (t0 : List Nat) (w0 : IsH t0) (v1 : Value) (t1 : List (List Nat)) (w1 : TextsAt W v1 t1) :
    Calls Tryd.prog 7 #[.agg (arr 32 (bv (lf t0))), v1] W fun e w' => e = .returned (.bool true) ∧ Below W.heap.size W w' := by
  have E := Lib.hid (Mem.nil W)
  have LL := Lib.hid (of_sip hL)
  have HX := Lib.hid (show ∀ i, lf t0 i < 256 from lf_lt w0.2)
  obtain ⟨p, g, o, c, V, hv, hc, RV, hi⟩ := id w1
  subst hv
  obtain ⟨m, hm⟩ : ∃ m, m = min t1.length 60 := ⟨_, rfl⟩
  obtain ⟨q, hq, hmc, A2⟩ := texts_take w1 (m := m) (by omega)
  have hml : (t1.take m).length = m := by rw [List.length_take]; omega
  obtain ⟨ts, hts⟩ : ∃ ts, ts = t1.take m := ⟨_, rfl⟩
  rw [← hts] at A2 hml
  rw [hml] at A2
  have A := Lib.hid A2
  have CUTS := Lib.hid (show ∀ w, (Instr.sliceAt 30 (.slice p t1.length c) none (some (.int .i64 ((m : Nat) : Int))) none).run Tryd.prog w = .ok (.slice q m c) w from fun w => run_cut Tryd.underlying30 (by intro w; kernel_rfl) hq hmc w)
  obtain ⟨N, hN⟩ : ∃ N, N = t1.length := ⟨_, rfl⟩
  rw [← hN] at CUTS ⊢
  have MIN := Lib.hid (show min (N : Int) 60 = ((m : Nat) : Int) by omega)
  have hm60 : m ≤ 60 := by omega
  obtain ⟨F, hF⟩ : ∃ F, F = fB (key0 (lf t0)) (key1 (lf t0)) (onceL ts) := ⟨_, rfl⟩
  have hol : (onceL ts).length ≤ 60 := Nat.le_trans (once_any_len ts) (by omega)
  obtain ⟨us, hus⟩ : ∃ us, us = ts.reverse ++ ts ++ [[]] := ⟨_, rfl⟩
  have hF2 : F = fB (key0 (lf t0)) (key1 (lf t0)) (onceL us) := by
    rw [hF]
    refine fB_perm (once_perm fun x hx => ?_)
    rw [hus]
    simp only [List.mem_append, List.mem_reverse, List.mem_singleton, or_self]
    constructor
    · exact .inl
    · rintro (h | h)
      · exact h
      · rw [h] at hx
        exact absurd rfl hx
  have hul : us.length = m + m + 1 := by rw [hus]; simp [hml]; omega
  have C1 := Lib.hid (show ∀ w, Below W.heap.size W w → Calls Tryd.prog 13 #[.agg (arr 32 (bv (lf t0))), .slice q m c] w fun e w' => (∃ pf gf cf, e = .returned (.tuple #[.slice pf F.length cf, .int .i64 0]) ∧ Row w' pf gf 0 F.length cf (lf F)) ∧ Below w.heap.size w w' from fun w hb => by
    rw [hF]
    refine (fibuild_any (Lib.hid (A.out.below hb)) (Lib.hid (LL.out.below hb)) HX.out (Nat.le_trans hol (by decide))).mono ?_
    rintro e w' ⟨⟨pf, gf, cf, rfl, hO⟩, hb2⟩
    exact ⟨⟨pf, gf, cf, rfl, hO.row⟩, hb2⟩)
  obtain ⟨p2, g2, o2, c2, l, hv2, hll, RV2, TL⟩ := texts_lv A.out
  rw [hml] at hv2 hll RV2
  injection hv2 with e1 _ e3
  subst e1 e3
  have RR := Lib.hid RV2
  have MM := Lib.hid (show m ≤ 60 ∧ l.length = m from ⟨hm60, hll⟩)
  have CC := Lib.hid (show ∀ w, Below W.heap.size W w → Calls Tryd.prog 24 #[.slice q m c] w fun e w' => (∃ p' g' c', e = .returned (.slice p' m c') ∧ VOwn 32 1 w.heap.size w' p' g' m c' (lv l)) ∧ Below w.heap.size w w' from fun w hb => clbb_any (Lib.hid (RR.out.below hb)) (by omega))
  have HE := Lib.hid (show ∀ v, v ∈ l → encS (decS v) = v from fun v hv => by
    obtain ⟨i, hi, rfl⟩ := List.mem_iff_getElem.1 hv
    exact decS_text (TL.2 i hi (by rw [← TL.1]; exact hi)))
  have C2 := Lib.hid (show ∀ w B p' g' c', Below W.heap.size W w → VOwn 32 1 B w p' g' (m + m + 1) c' (lv (l.reverse ++ l ++ [.slice none 0 0])) → Calls Tryd.prog 13 #[.agg (arr 32 (bv (lf t0))), .slice p' (m + m + 1) c'] w fun e w' => (∃ pf gf cf, e = .returned (.tuple #[.slice pf F.length cf, .int .i64 0]) ∧ Row w' pf gf 0 F.length cf (lf F)) ∧ Below w.heap.size w w' from fun w B p' g' c' hb hV => by
    rw [hF2]
    have el : (l.reverse ++ l ++ [Value.slice none 0 0]).length = m + m + 1 := by simp [hll]; omega
    have T2 : TextsAt w (.slice p' (m + m + 1) c') us := by
      have hV2 := hV
      rw [← el] at hV2 ⊢
      refine lv_texts hV2 ?_ (by rw [hul]; omega)
      rw [hus]
      exact ((TL.reverse.append TL).append ⟨rfl, fun i hi hi' => by
        obtain rfl : i = 0 := by simp at hi; omega
        exact text_nil W⟩).below hb
    refine (fibuild_any (Lib.hid T2) (Lib.hid (LL.out.below hb)) HX.out (Nat.le_trans (once_any_len us) (by omega))).mono ?_
    rintro e w' ⟨⟨pf, gf, cf, rfl, hO⟩, hb2⟩
    exact ⟨⟨pf, gf, cf, rfl, hO.row⟩, hb2⟩)
  clear hL w0 w1 hc RV hi hm hq hmc A2 hml hts hN A LL HX hm60 hF hol hus hF2 hul hll RV2 TL
  go_enter Tryd.func7, Tryd.ntmps7
  go_upto_region 5 with (first
    | ((with_reducible refine wpList_at 2 rfl ?_); refine mem_box E 23 rfl _ rfl rfl (arr_cells' 32 (bv (lf t0))) ?_; clear E; intro b3 w3 E)
    | ((with_reducible refine wpList_at 13 rfl ?_); refine wpList_kn rfl (.int .i64 ((m : Nat) : Int)) (by exact exec_min rfl rfl rfl rfl MIN.out) ?_)
    | ((with_reducible refine wpList_at 14 rfl ?_); refine wpList_kn rfl (.slice q m c) (by exact exec_sl rfl (CUTS.out _)) ?_)
    | ((with_reducible refine wpList_at 16 rfl ?_); refine mem_load_row E 23 rfl (.tmp 2) rfl rfl List.mem_cons_self Tryd.underlying23 rfl (by rw [arr_size]; kernel_rfl) ?_)
    | (go_at_call 13; with_reducible refine (C1.out _ E.out.below).mono ?_; rintro e w4 ⟨⟨pf, gf, cf, rfl, hR⟩, hb⟩; have RF := Lib.hid hR; replace E := Lib.hid (E.out.call hb); clear hR hb)
    | (go_at_call 24; with_reducible refine (CC.out _ E.out.below).mono ?_; rintro e w6 ⟨⟨p6, g6, c6, rfl, hV⟩, hb⟩; have VC := Lib.hid hV; have HC := Lib.hid hb; clear hV hb)
    | (go_at_call 25; with_reducible refine (revbb_any VC.out MM.out.2 HE.out).mono ?_; rintro e w7 ⟨rfl, hV, hb⟩; have VR := Lib.hid hV; have HC7 := Lib.hid (HC.out.trans (hb _ (Nat.le_refl _))); replace RF := Lib.hid (RF.out.below HC7.out); replace E := Lib.hid (E.out.call HC7.out); clear hV hb VC HC HC7))
  refine wp_region_T (Φ := fun X => Mem W [(b3, 23, arr 32 (bv (lf t0)))] X ∧ Row X pf gf 0 F.length cf (lf F) ∧ VOwn 32 1 w4.heap.size X p6 g6 m c6 (lv l.reverse)) (S := fun X => Mem W [(b3, 23, arr 32 (bv (lf t0)))] X) (Lib.hid ⟨E.out, RF.out, VR.out⟩) (fun X h => ⟨h.1.drew, h.2.1.below ((Below.refl _ _).drew), h.2.2.below ((Below.refl _ _).drew)⟩) (fun X h => h.1) (by kernel_rfl) ?_
  clear E RF VR
  intro wx TT S0
  have RF := Lib.hid TT.out.2.1
  have VR := Lib.hid TT.out.2.2
  clear TT
  refine hm_load_row 0 26 23 (.tmp 2) rfl rfl (by kernel_rfl) (by kernel_rfl) (by kernel_rfl) (fun _ _ _ h => h) rfl rfl rfl (fun X hX => hX.get List.mem_cons_self) Tryd.underlying23 rfl (by rw [arr_size]; kernel_rfl) S0.out ?_
  try simp only [Act.put, List.getElem_toArray, List.getElem_cons_succ, List.getElem_cons_zero, List.setIfInBounds_toArray, List.set_cons_zero, List.set_cons_succ]
  refine hm_run 1 27 (.slice p6 m c6) rfl rfl (by kernel_rfl) (by kernel_rfl) (by kernel_rfl) (fun _ _ _ h => h) rfl (fun _ _ => rfl) S0.out ?_
  try simp only [Act.put, List.getElem_toArray, List.getElem_cons_succ, List.getElem_cons_zero, List.setIfInBounds_toArray, List.set_cons_zero, List.set_cons_succ]
  refine hm_run 2 28 (.slice q m c) rfl rfl (by kernel_rfl) (by kernel_rfl) (by kernel_rfl) (fun _ _ _ h => h) rfl (fun _ _ => rfl) S0.out ?_
  try simp only [Act.put, List.getElem_toArray, List.getElem_cons_succ, List.getElem_cons_zero, List.setIfInBounds_toArray, List.set_cons_zero, List.set_cons_succ]
  refine hm_one (i := 3) (by kernel_rfl) ?_
  refine hm_step 3 rfl (by kernel_rfl) fun K hK => ?_
  try simp only [Act.put, List.getElem_toArray, List.getElem_cons_succ, List.getElem_cons_zero, List.setIfInBounds_toArray, List.set_cons_zero, List.set_cons_succ]
  refine mo_vbs 30 32 1 1 _ rfl (fun _ => .slice none 0 0) (fun i _ => rfl) (by unfold maxLen; omega) (ps := #[(0, .slice none 0 0)]) (by kernel_rfl) (fun W => run_bs1v Tryd.underlying30 infoText3 _ rfl W) rfl ?_
  intro p8 g8 w8 N8 hb8
  replace RF := Lib.hid (RF.out.below hb8.out)
  replace VR := Lib.hid (VR.out.below hb8.out)
  have S3_3 := Lib.hid (S0.out.call hb8.out)
  clear hb8
  refine hK _ _ S3_3.out ?_
  clear hK K
  try simp only [Act.put, List.getElem_toArray, List.getElem_cons_succ, List.getElem_cons_zero, List.setIfInBounds_toArray, List.set_cons_zero, List.set_cons_succ]
  refine hm_one (i := 4) (by kernel_rfl) ?_
  refine hm_step 4 rfl (by kernel_rfl) fun K hK => ?_
  try simp only [Act.put, List.getElem_toArray, List.getElem_cons_succ, List.getElem_cons_zero, List.setIfInBounds_toArray, List.set_cons_zero, List.set_cons_succ]
  refine mo_vbs 90 30 1 3 _ rfl (lv [.slice p6 m c6, .slice q m c, .slice p8 1 1]) (fun i hi => one3 _ _ _ _ _ _ _ _ _ i (by omega)) (by unfold maxLen; omega) (ps := #[(0, .slice p6 m c6), (1, .slice q m c), (2, .slice p8 1 1)]) (by kernel_rfl) (cs := #[.slice p6 m c6, .slice q m c, .slice p8 1 1]) (fun W => by kernel_rfl) rfl ?_
  intro p9 g9 w9 N9 hb9
  replace RF := Lib.hid (RF.out.below hb9.out)
  replace VR := Lib.hid (VR.out.below hb9.out)
  replace N8 := Lib.hid (N8.out.below hb9.out)
  have S4_4 := Lib.hid (S3_3.out.call hb9.out)
  clear hb9
  refine hK _ _ S4_4.out ?_
  clear hK K
  try simp only [Act.put, List.getElem_toArray, List.getElem_cons_succ, List.getElem_cons_zero, List.setIfInBounds_toArray, List.set_cons_zero, List.set_cons_succ]
  refine hm_one (i := 5) (by kernel_rfl) ?_
  refine hm_step 5 rfl (by kernel_rfl) fun K hK => ?_
  try simp only [Act.put, List.getElem_toArray, List.getElem_cons_succ, List.getElem_cons_zero, List.setIfInBounds_toArray, List.set_cons_zero, List.set_cons_succ]
  go_simp
  go_at_call 26
  refine (cat3 N9.out MM.out.2 VR.out (RR.out.below S4_4.out.below) N8.out (Nat.le_trans MM.out.1 (by decide))).mono ?_
  rintro e w10 ⟨⟨p10, g10, c10, rfl, hV⟩, hb⟩
  have VX := Lib.hid hV
  replace RF := Lib.hid (RF.out.below hb)
  have S5_5 := Lib.hid (S4_4.out.call hb)
  clear hV hb N9 N8 VR
  refine hK _ _ S5_5.out ?_
  clear hK K
  try simp only [Act.put, List.getElem_toArray, List.getElem_cons_succ, List.getElem_cons_zero, List.setIfInBounds_toArray, List.set_cons_zero, List.set_cons_succ]
  refine hm_one (i := 6) (by kernel_rfl) ?_
  refine hm_step 6 rfl (by kernel_rfl) fun K hK => ?_
  try simp only [Act.put, List.getElem_toArray, List.getElem_cons_succ, List.getElem_cons_zero, List.setIfInBounds_toArray, List.set_cons_zero, List.set_cons_succ]
  go_simp
  go_at_call 13
  refine (C2.out _ _ _ _ _ S5_5.out.below VX.out).mono ?_
  rintro e w11 ⟨⟨pf2, gf2, cf2, rfl, hR⟩, hb⟩
  have RF2 := Lib.hid hR
  replace RF := Lib.hid (RF.out.below hb)
  have S6_6 := Lib.hid (S5_5.out.call hb)
  clear hR hb
  refine hK _ _ S6_6.out ?_
  clear hK K
  try simp only [Act.put, List.getElem_toArray, List.getElem_cons_succ, List.getElem_cons_zero, List.setIfInBounds_toArray, List.set_cons_zero, List.set_cons_succ]
  refine hm_run 7 25 (.tuple #[.slice pf2 F.length cf2, .int .i64 0]) rfl rfl (by kernel_rfl) (by kernel_rfl) (by kernel_rfl) (fun _ _ _ h => h) rfl (fun _ _ => rfl) S6_6.out ?_
  try simp only [Act.put, List.getElem_toArray, List.getElem_cons_succ, List.getElem_cons_zero, List.setIfInBounds_toArray, List.set_cons_zero, List.set_cons_succ]
  refine hm_run 8 33 (.slice pf2 F.length cf2) rfl rfl (by kernel_rfl) (by kernel_rfl) (by kernel_rfl) (fun _ _ _ h => h) rfl (fun _ _ => rfl) S6_6.out ?_
  try simp only [Act.put, List.getElem_toArray, List.getElem_cons_succ, List.getElem_cons_zero, List.setIfInBounds_toArray, List.set_cons_zero, List.set_cons_succ]
  refine hm_run 9 34 (.int .i64 0) rfl rfl (by kernel_rfl) (by kernel_rfl) (by kernel_rfl) (fun _ _ _ h => h) rfl (fun _ _ => rfl) S6_6.out ?_
  try simp only [Act.put, List.getElem_toArray, List.getElem_cons_succ, List.getElem_cons_zero, List.setIfInBounds_toArray, List.set_cons_zero, List.set_cons_succ]
  refine hm_run 10 8 (.slice pf2 F.length cf2) rfl rfl (by kernel_rfl) (by kernel_rfl) (by kernel_rfl) (fun _ _ _ h => h) rfl (fun _ _ => rfl) S6_6.out ?_
  try simp only [Act.put, List.getElem_toArray, List.getElem_cons_succ, List.getElem_cons_zero, List.setIfInBounds_toArray, List.set_cons_zero, List.set_cons_succ]
  refine hm_run 11 9 (.int .i64 0) rfl rfl (by kernel_rfl) (by kernel_rfl) (by kernel_rfl) (fun _ _ _ h => h) rfl (fun _ _ => rfl) S6_6.out ?_
  try simp only [Act.put, List.getElem_toArray, List.getElem_cons_succ, List.getElem_cons_zero, List.setIfInBounds_toArray, List.set_cons_zero, List.set_cons_succ]
  refine wpAnyH_done (by kernel_rfl) ?_ _
  have E := S6_6
  clear S6_6
  go_wp2_with (first
    | (go_at_call 15; refine (equal_any RF RF2 rfl (Lib.hid fun _ _ => rfl)).mono ?_; rintro e w12 ⟨rfl, rfl⟩)
    | (go_at_call 17; refine (awake12_any _).mono ?_; rintro e w13 ⟨rfl, hb⟩; replace E := Lib.hid (E.out.call hb); clear hb))
  go_ret
  exact ⟨rfl, E.out.below⟩

set_option maxRecDepth 100000 in
theorem lifted (os : Os) (started : os.Started) (H : Type) (enc : TypeId × Value → H) :
    ReturnsInHanded {} Tryd.checked os 7 .any (fun w args => (Rows.filterOrdersSpec.pre enc Tryd.prog Tryd.f7 [] false w args ∧ laidMetH Tryd.prog sipLaid w) ∧ sizedMet enc Tryd.prog Tryd.f7 (OpenSpec.ofChange Rows.filterOrdersSpec) false w args)
      (Rows.filterOrdersSpec.post enc Tryd.prog Tryd.f7 false true false false) := by
  refine returnsInHanded_of_change_and (C := Tryd.checked) (X := fun w _ => laidMetH Tryd.prog sipLaid w) (fun _ _ _ hh h => h.of_heap hh) own started (by kernel_rfl) Tryd.func7
    (ChangeSpec.witness_shaped (enc := enc) (C := Tryd.checked) (os := os) (X := fun w _ => laidMetH Tryd.prog sipLaid w) false (World.laidAll Tryd.prog os sipLaid) #[.agg #[.int .u8 0, .int .u8 0, .int .u8 0, .int .u8 0, .int .u8 0, .int .u8 0, .int .u8 0, .int .u8 0, .int .u8 0, .int .u8 0, .int .u8 0, .int .u8 0, .int .u8 0, .int .u8 0, .int .u8 0, .int .u8 0, .int .u8 0, .int .u8 0, .int .u8 0, .int .u8 0, .int .u8 0, .int .u8 0, .int .u8 0, .int .u8 0, .int .u8 0, .int .u8 0, .int .u8 0, .int .u8 0, .int .u8 0, .int .u8 0, .int .u8 0, .int .u8 0], .slice none 0 0] 8 (World.laidAll_os _ _ _)
      (World.shaped_of_ZipB (by kernel_rfl) (by kernel_rfl)) (by kernel_rfl) (by kernel_rfl) (by kernel_rfl)
      (by rw [MakeChecks.laidMetH_plain _ _ _ (by kernel_rfl)]; exact laidMet_laidAll _ (by kernel_rfl) (by kernel_rfl))) ?_
  intro W base args ds gs before hval0 hW _ hsz0 hL _
  have hval : ∀ (j : Nat) t v, Tryd.f7.params[j]? = some t → args[j]? = some v → Value.okWide Tryd.prog W .any base t v := hval0
  have hsz : (DataW.weightsEach Tryd.prog (Tryd.f7.params.toList ++ Rows.filterOrdersSpec.plain.varTypes Tryd.prog) (ds ++ gs)).all (· ≤ reachBytes) = true := hsz0
  have hW' := hW
  obtain ⟨p, q, hA0, hV, rfl, hfz, hnd⟩ := hW
  have hA : DataW.TrodAll enc Tryd.prog W 0 (fun _ => true) true Tryd.f7.params.toList args.toList ds p := hA0
  rw [Tryd.params7] at hA hval hsz
  obtain ⟨v0, vs0, d0, ds0, p0, q0, hargs, rfl, rfl, h0, r0⟩ := trodAll_cons hA
  obtain ⟨v1, vs1, d1, ds1, p1, q1, rfl, rfl, rfl, h1, r1⟩ := trodAll_cons r0
  obtain ⟨rfl, rfl, rfl⟩ := trodAll_nil r1
  obtain rfl : args = #[v0, v1] := by cases args; simp_all
  obtain ⟨rfl, rfl⟩ := trodVars_none hV
  have k0 := h0
  have lt0 : ∀ x ∈ p0, x.block < W.heap.size := by obtain ⟨m, hm⟩ := k0; exact DataW.trod_lt m _ _ _ hm
  obtain ⟨t0, w0, rfl⟩ := open_hash_arg (hval 0 23 v0 rfl rfl) h0
  have k1 := h1
  have lt1 : ∀ x ∈ p1, x.block < W.heap.size := by obtain ⟨m, hm⟩ := k1; exact DataW.trod_lt m _ _ _ hm
  obtain ⟨t1, w1⟩ := open_texts_arg (j := 1) (hval 1 30 v1 rfl rfl) h1 hsz rfl rfl
  clear hA0 hval0 hsz0
  simp only [List.append_nil] at hW'
  refine (walk W hL t0 w0 v1 t1 w1).mono fun e W' ⟨he, bel⟩ => ?_
  subst he
  exact ⟨_, rfl, _, _, _, [], _, [], hW', trodAll_mk1 (shut_bool Tryd.underlying4 _), (trodAll_cons_mk (Below.trod laidOut (by kernel_rfl) (of_decide_eq_true (by kernel_rfl)) k0 bel lt0) (trodAll_cons_mk (Below.trod laidOut (by kernel_rfl) (of_decide_eq_true (by kernel_rfl)) k1 bel lt1) trodAll_mk0)), rfl, bel.frame _, fun h => by cases h⟩

theorem over : Rows.FilterOrdersSaid :=
  OpenClaim.holds_of_wide 7 Tryd.f7 rfl rfl rfl rfl rfl rfl rfl ⟨rfl, rfl, rfl, rfl, rfl⟩ rfl rfl rfl rfl rfl (by kernel_rfl) Tryd.func7 (by kernel_rfl)
    (of_decide_eq_true (by kernel_rfl)) (by unfold Func.isWrapper; first | (rw [if_pos (by decide +kernel)]; kernel_rfl) | (rw [if_neg (by decide +kernel)]; exact ⟨rfl, rfl⟩))
    (fun os started H enc _ => lifted os started H enc)

/-- The tied card. -/
theorem card_holds : Rows.FilterOrdersCardSaid :=
  Claim7.holds_tied_plain_at .later [] [.data] true (true, "0199c94cb409754160ff1d9dd08a3fca2d5985d0812adfda39cfc780a5302024") false
    over (fun _ h => by cases h) (by kernel_rfl) (fun _ h => by cases h) filterOrders_row_tie rfl ⟨rfl, rfl⟩ (by kernel_rfl) rfl
    (fun f fn hf hfn => by
      obtain rfl : f = 7 := Option.some.inj ((show Tryd.prog.funcNamed "sporran/sporranlaw12.FilterOrders" = some 7 by kernel_rfl).symm.trans hf) |>.symm
      obtain rfl : fn = Tryd.f7 := (Option.some.inj (Tryd.func7.symm.trans hfn)).symm
      exact ⟨by kernel_rfl, fun j t ht => by
        rw [Tryd.params7] at ht
        have hm : t ∈ [23, 30] := by simpa using Array.mem_of_getElem? ht
        have hall : ([23, 30].all fun u => !Tryd.prog.wantsStandIn u) = true := by kernel_rfl
        exact (show Tryd.prog.wantsStandIn t = false by simpa using List.all_eq_true.1 hall t hm)⟩)
    (by kernel_rfl)
#print axioms card_holds
end Go.Proofs.YtoopcmcmjaikhaaDoor.filterOrders
