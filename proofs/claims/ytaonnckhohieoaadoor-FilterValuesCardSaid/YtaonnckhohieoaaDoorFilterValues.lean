/- For every slice of bytes (nil too): the numbers in a filter, or the error, are the document's; the bytes stay; the call returns true. The table that the row lists (that of package sip) is laid as the card ties it. No other condition. -/
import Derived.Test.YtaonnckhohieoaaDoorFi
import Derived.Test.YtaonnckhohieoaaDoorOp
import Derived.Test.YtaonnckhohieoaaDoorXm
import Derived.Test.YtaonnckhohieoaaDoorTie
import Derived.Test.YtaonnckhohieoaaDoorCards
import Derived.ShutString
import Derived.ChangeOld
import Derived.Below
import Derived.SevenTiedAt
set_option linter.unusedVariables false
set_option linter.unusedSimpArgs false
namespace Go.Proofs.YtaonnckhohieoaaDoor.filterValues
open Go.ChangeShapes Go.WideShapes Go.ChangeAt Go.RowKit Go.Lib Go.Sort Go.Proofs.YtaonnckhohieoaaDoor

set_option maxRecDepth 100000
theorem own : ownKnob Tryd.prog.godebug = none := by kernel_rfl
def viLaid : List (String × DataW Unit) := [("sporran/sip.startWords", Rows.laid_sporran_sip_startWords)]
theorem exec_nei {o : Oper} {ev : Operand → Value} {W : World} {x y : Operand} {a : Int} (ho : o.op = .binOp .neq 3 x y 3) (hx : ev x = .int .i64 a) (hy : ev y = .int .i64 a) : (execOp ev o).run Tryd.prog W = .ok (.value (.bool false)) W := by
  unfold execOp
  simp [ho, hx, hy, go_sem, Tryd.underlying3]
theorem exec_eqE {o : Oper} {ev : Operand → Value} {W : World} {x y : Operand} {a : Int} (ho : o.op = .binOp .eql 25 x y 25) (hx : ev x = .int .i64 a) (hy : ev y = .int .i64 a) : (execOp ev o).run Tryd.prog W = .ok (.value (.bool true)) W := by
  unfold execOp
  simp [ho, hx, hy, go_sem, Tryd.underlying25]
set_option maxHeartbeats 8000000 in
theorem eq64_any {w : World} {B B2 : Nat} {p p2 : Option Addr} {g g2 n c c2 : Nat} {x : Nat → Nat} (N : Hid (VOwn 29 1 B w p g n c (wv x))) (N2 : Hid (VOwn 29 1 B2 w p2 g2 n c2 (wv x))) : Calls Tryd.prog 7 #[.slice p n c, .slice p2 n c2] w fun e w' => e = .returned (.bool true) ∧ Below w.heap.size w w' := by
  have NB0 := Lib.hid (show n ≤ maxLen from Nat.le_trans N.out.row.le N.out.row.cap)
  have HB0 := Lib.hid (Below.refl w.heap.size w)
  go_enter Tryd.func7, Tryd.ntmps7
  go_wp2_with (first
    | ((with_reducible refine wpL_at 10 rfl ?_); refine wpList_known rfl (.bool false) _ (exec_nei rfl rfl rfl) ?_))
  go_loopg [13] n (fun k i wr => ∃ j : Nat, j + k = n ∧ i = .int .i64 (j : Int) ∧ Hid (Below w.heap.size w wr))
  case atStart => exact ⟨0, by omega, rfl, HB0⟩
  case round =>
    clear HB0
    obtain ⟨j, hj, rfl, HB⟩ := hrel
    obtain ⟨kk, hkk⟩ : ∃ kk : Nat, kk = gk := ⟨_, rfl⟩
    rw [← hkk] at hj
    by_cases hlt : j < n
    · have HLT := Lib.hid hlt
      have NB := Lib.hid (show j < 9223372036854775807 by have := NB0.out; unfold maxLen at this; omega)
      obtain rfl := N.out.row.head (by omega)
      obtain rfl := N2.out.row.head (by omega)
      obtain ⟨y, hy⟩ : ∃ y, y = x j := ⟨_, rfl⟩
      have CL := Lib.hid (show wr.cell? ⟨g, 0 + j * 1, none⟩ = some (.int .u64 (y : Int)) ∧ wr.cell? ⟨g2, 0 + j * 1, none⟩ = some (.int .u64 (y : Int)) by
        have h1 := (N.out.below HB.out).row.cell j (by omega)
        have h2 := (N2.out.below HB.out).row.cell j (by omega)
        rw [Nat.mul_one, hy]
        exact ⟨h1, h2⟩)
      have cl : (j : Int) < (n : Int) := by omega
      clear hy
      go_upto_region 6 with fail
      refine wp_region_T (Φ := fun X => Below wr.heap.size wr X) (S := fun X => X.cell? ⟨g, 0 + j * 1, none⟩ = some (.int .u64 (y : Int)) ∧ X.cell? ⟨g2, 0 + j * 1, none⟩ = some (.int .u64 (y : Int))) (Lib.hid (Below.refl _ _)) (fun _ h => h.drew) (fun X h => ⟨(h.cell (cell_lt CL.out.1)).trans CL.out.1, (h.cell (cell_lt CL.out.2)).trans CL.out.2⟩) (by kernel_rfl) ?_
      intro wx TT S0
      clear CL
      refine hm_run 0 16 (.slice (some ⟨g, 0, none⟩) n c) rfl rfl (by kernel_rfl) (by kernel_rfl) (by kernel_rfl) (fun _ _ _ h => h) rfl (fun _ _ => rfl) S0.out ?_
      try simp only [Act.put, List.getElem_toArray, List.getElem_cons_succ, List.getElem_cons_zero, List.setIfInBounds_toArray, List.set_cons_zero, List.set_cons_succ]
      refine hm_run 1 17 (.int .i64 (j : Int)) rfl rfl (by kernel_rfl) (by kernel_rfl) (by kernel_rfl) (fun _ _ _ h => h) rfl (fun _ _ => rfl) S0.out ?_
      try simp only [Act.put, List.getElem_toArray, List.getElem_cons_succ, List.getElem_cons_zero, List.setIfInBounds_toArray, List.set_cons_zero, List.set_cons_succ]
      refine hm_run 2 18 (.pointer (some ⟨g, 0 + j * 1, none⟩)) rfl rfl (by kernel_rfl) (by kernel_rfl) (by kernel_rfl) (fun _ _ _ h => h) rfl (fun W _ => exec_ix rfl (run_ix Tryd.underlying24 (by kernel_rfl) HLT.out rfl W)) S0.out ?_
      try simp only [Act.put, List.getElem_toArray, List.getElem_cons_succ, List.getElem_cons_zero, List.setIfInBounds_toArray, List.set_cons_zero, List.set_cons_succ]
      refine hm_run 3 19 (.int .u64 (y : Int)) rfl rfl (by kernel_rfl) (by kernel_rfl) (by kernel_rfl) (fun _ _ _ h => h) rfl (fun W hW => exec_load rfl (run_load_one Tryd.underlying29 rfl hW.1)) S0.out ?_
      try simp only [Act.put, List.getElem_toArray, List.getElem_cons_succ, List.getElem_cons_zero, List.setIfInBounds_toArray, List.set_cons_zero, List.set_cons_succ]
      refine hm_run 4 20 (.slice (some ⟨g2, 0, none⟩) n c2) rfl rfl (by kernel_rfl) (by kernel_rfl) (by kernel_rfl) (fun _ _ _ h => h) rfl (fun _ _ => rfl) S0.out ?_
      try simp only [Act.put, List.getElem_toArray, List.getElem_cons_succ, List.getElem_cons_zero, List.setIfInBounds_toArray, List.set_cons_zero, List.set_cons_succ]
      refine hm_run 5 21 (.int .i64 (j : Int)) rfl rfl (by kernel_rfl) (by kernel_rfl) (by kernel_rfl) (fun _ _ _ h => h) rfl (fun _ _ => rfl) S0.out ?_
      try simp only [Act.put, List.getElem_toArray, List.getElem_cons_succ, List.getElem_cons_zero, List.setIfInBounds_toArray, List.set_cons_zero, List.set_cons_succ]
      refine hm_run 6 22 (.pointer (some ⟨g2, 0 + j * 1, none⟩)) rfl rfl (by kernel_rfl) (by kernel_rfl) (by kernel_rfl) (fun _ _ _ h => h) rfl (fun W _ => exec_ix rfl (run_ix Tryd.underlying24 (by kernel_rfl) HLT.out rfl W)) S0.out ?_
      try simp only [Act.put, List.getElem_toArray, List.getElem_cons_succ, List.getElem_cons_zero, List.setIfInBounds_toArray, List.set_cons_zero, List.set_cons_succ]
      refine hm_run 7 23 (.int .u64 (y : Int)) rfl rfl (by kernel_rfl) (by kernel_rfl) (by kernel_rfl) (fun _ _ _ h => h) rfl (fun W hW => exec_load rfl (run_load_one Tryd.underlying29 rfl hW.2)) S0.out ?_
      try simp only [Act.put, List.getElem_toArray, List.getElem_cons_succ, List.getElem_cons_zero, List.setIfInBounds_toArray, List.set_cons_zero, List.set_cons_succ]
      refine hm_run 8 24 (.bool false) rfl rfl (by kernel_rfl) (by kernel_rfl) (by kernel_rfl) (fun _ _ _ h => h) rfl (fun _ _ => exec_neu rfl rfl rfl (by simp)) S0.out ?_
      try simp only [Act.put, List.getElem_toArray, List.getElem_cons_succ, List.getElem_cons_zero, List.setIfInBounds_toArray, List.set_cons_zero, List.set_cons_succ]
      refine wpAnyH_done (by kernel_rfl) ?_ _
      go_wp2
      go_roundg (kk - 1)
      case measure => omega
      case rel => exact ⟨j + 1, by omega, (by have h9 := NB.out; congr 1; unfold wrap64; omega), Lib.hid (HB.out.trans (TT.out.mono HB.out.size))⟩
    · obtain rfl : j = n := by omega
      have cl : ¬ (j : Int) < (j : Int) := by omega
      clear hj hkk
      go_wp2
      go_ret
      exact ⟨rfl, HB.out⟩
def rl (r : Option (List Nat)) : List Nat := r.getD []
def re (r : Option (List Nat)) : Int := if r.isSome then 0 else 120
theorem vend {W w' : World} {r : Option (List Nat)} {e : Ending} (h : VEnd W r e w') : ∃ p g c, e = .returned (.tuple #[.slice p (rl r).length c, .int .i64 (re r)]) ∧ VOwn 29 1 W.heap.size w' p g (rl r).length c (wv (lf (rl r))) ∧ Below W.heap.size W w' := by
  cases r with
  | none => exact ⟨none, 0, 0, h.1, vown_nothing _ _ _ _ _ h.2.size, h.2⟩
  | some l =>
    obtain ⟨p, g, c, he, N, hb⟩ := h
    exact ⟨p, g, c, he, N, hb⟩
set_option maxHeartbeats 8000000 in
theorem walk (W : World) (hL : laidMetH Tryd.prog viLaid W) (a0 : Option Addr) (g0 o0 n0 c0 : Nat) (x0 : Nat → Nat) (w0 : Row W a0 g0 o0 n0 c0 x0) (m0 : c0 ≤ 140737488351232) :
    Calls Tryd.prog 3 #[.slice a0 n0 c0] W fun e w' => e = .returned (.bool true) ∧ Below W.heap.size W w' := by
  have E := Lib.hid (Below.refl W.heap.size W)
  have HN := Lib.hid (show n0 ≤ 140737488351232 from Nat.le_trans w0.le m0)
  have R0 := Lib.hid w0
  obtain ⟨r, hr⟩ : ∃ r, r = vres n0 x0 := ⟨_, rfl⟩
  have FV := Lib.hid (fun w (p : Option Addr) (g o c : Nat) (q : Row w p g o n0 c x0) => (fival_any (Lib.hid q) HN.out).mono fun e w' h => vend h)
  have RV := Lib.hid (fun w (p : Option Addr) (g o c : Nat) (q : Row w p g o n0 c x0) => (rfival_any (Lib.hid q) HN.out).mono fun e w' h => vend h)
  rw [← hr] at FV RV
  obtain ⟨l, hl⟩ : ∃ l, l = rl r := ⟨_, rfl⟩
  obtain ⟨er, her⟩ : ∃ er, er = re r := ⟨_, rfl⟩
  rw [← hl, ← her] at FV RV
  obtain ⟨m, hm⟩ : ∃ m, m = l.length := ⟨_, rfl⟩
  rw [← hm] at FV RV
  clear hL w0 m0 hr hl her hm
  go_enter Tryd.func3, Tryd.ntmps3
  go_wp2_with (first
    | (go_at_call 4; refine (clone_any R0 (by have := HN.out; omega)).mono ?_; rintro e w2 ⟨p2, g2, c2, rfl, N2, hb2⟩; have R2 := Lib.hid N2.row; replace E := Lib.hid (E.out.trans (hb2.mono E.out.size)); replace R0 := Lib.hid (R0.out.below hb2); clear N2 hb2)
    | (go_at_call 5; refine (FV.out _ _ _ _ _ R2.out).mono ?_; rintro e w3 ⟨p3, g3, c3, rfl, N3x, hb⟩; have N3 := Lib.hid N3x; replace R2 := Lib.hid (R2.out.below hb); replace R0 := Lib.hid (R0.out.below hb); replace E := Lib.hid (E.out.trans (hb.mono E.out.size)); clear N3x hb)
    | (go_at_call 6; refine (RV.out _ _ _ _ _ R0.out).mono ?_; rintro e w4 ⟨p4, g4, c4, rfl, N4x, hb⟩; have N4 := Lib.hid N4x; replace N3 := Lib.hid (N3.out.below hb); replace R2 := Lib.hid (R2.out.below hb); replace R0 := Lib.hid (R0.out.below hb); replace E := Lib.hid (E.out.trans (hb.mono E.out.size)); clear N4x hb)
    | (go_at_call 7; refine (eq64_any N3 N4).mono ?_; rintro e w5 ⟨rfl, hb⟩; replace R2 := Lib.hid (R2.out.below hb); replace R0 := Lib.hid (R0.out.below hb); replace E := Lib.hid (E.out.trans (hb.mono E.out.size)); clear hb)
    | ((with_reducible refine wpL_at 26 rfl ?_); refine wpList_known rfl (.bool true) _ (exec_eqE rfl rfl rfl) ?_)
    | ((with_reducible refine wpL_at 26 rfl ?_); refine wpList_kn rfl (.bool true) (by exact exec_eqE rfl rfl rfl) ?_)
    | (go_at_call 8; refine (equal_any R2 R0 rfl (Lib.hid fun _ _ => rfl)).mono ?_; rintro e w6 ⟨rfl, rfl⟩)
    | (go_at_call 9; refine (awake12_any _).mono ?_; rintro e w7 ⟨rfl, hb⟩; replace E := Lib.hid (E.out.trans (hb.mono E.out.size)); clear hb))
  go_ret
  exact ⟨rfl, E.out⟩

set_option maxRecDepth 100000 in
theorem lifted (os : Os) (started : os.Started) (H : Type) (enc : TypeId × Value → H) :
    ReturnsInHanded {} Tryd.checked os 3 .any (fun w args => (Rows.filterValuesSpec.pre enc Tryd.prog Tryd.f3 [] false w args ∧ laidMetH Tryd.prog viLaid w) ∧ sizedMet enc Tryd.prog Tryd.f3 (OpenSpec.ofChange Rows.filterValuesSpec) false w args)
      (Rows.filterValuesSpec.post enc Tryd.prog Tryd.f3 false true false false) := by
  refine returnsInHanded_of_change_and (C := Tryd.checked) (X := fun w _ => laidMetH Tryd.prog viLaid w) (fun _ _ _ hh h => h.of_heap hh) own started (by kernel_rfl) Tryd.func3
    (ChangeSpec.witness_shaped (enc := enc) (C := Tryd.checked) (os := os) (X := fun w _ => laidMetH Tryd.prog viLaid w) false (World.laidAll Tryd.prog os viLaid) #[.slice none 0 0] 8 (World.laidAll_os _ _ _)
      (World.shaped_of_ZipB (by kernel_rfl) (by kernel_rfl)) (by kernel_rfl) (by kernel_rfl) (by kernel_rfl)
      (by rw [MakeChecks.laidMetH_plain _ _ _ (by kernel_rfl)]; exact laidMet_laidAll _ (by kernel_rfl) (by kernel_rfl))) ?_
  intro W base args ds gs before hval0 hW _ hsz0 hL _
  have hval : ∀ (j : Nat) t v, Tryd.f3.params[j]? = some t → args[j]? = some v → Value.okWide Tryd.prog W .any base t v := hval0
  have hsz : (DataW.weightsEach Tryd.prog (Tryd.f3.params.toList ++ Rows.filterValuesSpec.plain.varTypes Tryd.prog) (ds ++ gs)).all (· ≤ reachBytes) = true := hsz0
  have hW' := hW
  obtain ⟨p, q, hA0, hV, rfl, hfz, hnd⟩ := hW
  have hA : DataW.TrodAll enc Tryd.prog W 0 (fun _ => true) true Tryd.f3.params.toList args.toList ds p := hA0
  rw [Tryd.params3] at hA hval hsz
  obtain ⟨v0, vs0, d0, ds0, p0, q0, hargs, rfl, rfl, h0, r0⟩ := trodAll_cons hA
  obtain ⟨rfl, rfl, rfl⟩ := trodAll_nil r0
  obtain rfl : args = #[v0] := by cases args; simp_all
  obtain ⟨rfl, rfl⟩ := trodVars_none hV
  have k0 := h0
  have lt0 : ∀ x ∈ p0, x.block < W.heap.size := by obtain ⟨m, hm⟩ := k0; exact DataW.trod_lt m _ _ _ hm
  obtain ⟨a0, g0, o0, n0, c0, x0, rfl, w0, m0⟩ := open_row (j := 0) (hval 0 22 v0 rfl rfl) h0 hsz rfl rfl
  clear hA0 hval0 hsz0
  simp only [List.append_nil] at hW'
  refine (walk W hL a0 g0 o0 n0 c0 x0 w0 m0).mono fun e W' ⟨he, bel⟩ => ?_
  subst he
  exact ⟨_, rfl, _, _, _, [], _, [], hW', trodAll_mk1 (shut_bool Tryd.underlying4 _), (trodAll_cons_mk (Below.trod laidOut (by kernel_rfl) (of_decide_eq_true (by kernel_rfl)) k0 bel lt0) trodAll_mk0), rfl, bel.frame _, fun h => by cases h⟩

theorem over : Rows.FilterValuesSaid :=
  OpenClaim.holds_of_wide 3 Tryd.f3 rfl rfl rfl rfl rfl rfl rfl ⟨rfl, rfl, rfl, rfl, rfl⟩ rfl rfl rfl rfl rfl (by kernel_rfl) Tryd.func3 (by kernel_rfl)
    (of_decide_eq_true (by kernel_rfl)) (by unfold Func.isWrapper; first | (rw [if_pos (by decide +kernel)]; kernel_rfl) | (rw [if_neg (by decide +kernel)]; exact ⟨rfl, rfl⟩))
    (fun os started H enc _ => lifted os started H enc)

/-- The tied card. -/
theorem card_holds : Rows.FilterValuesCardSaid :=
  Claim7.holds_tied_plain_at .later [] [.data] true (true, "8178a8920832ddad5a44d137d8e19b620b80af962b6087f73e142a635fae903d") false
    over (fun _ h => by cases h) (by kernel_rfl) (fun _ h => by cases h) filterValues_row_tie rfl ⟨rfl, rfl⟩ (by kernel_rfl) rfl
    (fun f fn hf hfn => by
      obtain rfl : f = 3 := Option.some.inj ((show Tryd.prog.funcNamed "sporran/sporranlaw12.FilterValues" = some 3 by kernel_rfl).symm.trans hf) |>.symm
      obtain rfl : fn = Tryd.f3 := (Option.some.inj (Tryd.func3.symm.trans hfn)).symm
      exact ⟨by kernel_rfl, fun j t ht => by
        rw [Tryd.params3] at ht
        have hm : t ∈ [22] := by simpa using Array.mem_of_getElem? ht
        have hall : ([22].all fun u => !Tryd.prog.wantsStandIn u) = true := by kernel_rfl
        exact (show Tryd.prog.wantsStandIn t = false by simpa using List.all_eq_true.1 hall t hm)⟩)
    (by kernel_rfl)
#print axioms card_holds
end Go.Proofs.YtaonnckhohieoaaDoor.filterValues
