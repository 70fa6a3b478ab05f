/- For every hash, every slice of bytes (nil too) and every slice of texts: whether one of the first sixty texts is likely in the bytes, or the error, is the document's; the call returns true. The table that the row lists (that of package sip) is laid as the card ties it. No other condition. -/
import Derived.Test.YtfnfdfhmdepgoaaDoorFm
import Derived.Test.YtfnfdfhmdepgoaaDoorZA
import Derived.Test.YtfnfdfhmdepgoaaDoorLt2
import Derived.Test.YtfnfdfhmdepgoaaDoorTie
import Derived.Test.YtfnfdfhmdepgoaaDoorCards
import Derived.Lay
import Derived.ShutString
import Derived.ChangeOld
import Derived.Below
import Derived.SevenTiedAt
set_option linter.unusedVariables false
set_option linter.unusedSimpArgs false
namespace Go.Proofs.YtfnfdfhmdepgoaaDoor.filterMatches
open Go.ChangeShapes Go.WideShapes Go.ChangeAt Go.RowKit Go.Lib Go.Sort Go.Proofs.YtfnfdfhmdepgoaaDoor

set_option maxRecDepth 100000
theorem own : ownKnob Tryd.prog.godebug = none := by kernel_rfl
theorem exec_eqE {o : Oper} {ev : Operand → Value} {W : World} {x y : Operand} {a : Int} (ho : o.op = .binOp .eql 27 x y 27) (hx : ev x = .int .i64 a) (hy : ev y = .int .i64 a) : (execOp ev o).run Tryd.prog W = .ok (.value (.bool true)) W := by
  unfold execOp
  simp [ho, hx, hy, go_sem, Tryd.underlying27]
theorem run_cut {S T k : Nat} (hS : Tryd.prog.underlying S = some (.slice T)) (hk : ∀ w, (sizeOf T).run Tryd.prog w = .ok k w) {p q : Option Addr} {n c h : Nat} (hs : sliced p 0 h c k = .slice q h c) (h2 : h ≤ c) (w : World) : (Instr.sliceAt S (.slice p n c) none (some (.int .i64 ((h : Nat) : Int))) none).run Tryd.prog w = .ok (.slice q h c) w := by
  have he : Tryd.prog.elem S = T := by simp [Program.elem, hS]
  have ht : Tryd.prog.underlying S = some (.slice (Tryd.prog.elem S)) := by rw [he]; exact hS
  have hb : (Instr.sliceBounds true n c none (some (.int .i64 (h : Int))) none).run Tryd.prog w = .ok (0, h, c) w := by simp [Instr.sliceBounds, run_sliceBound, h2]
  rw [run_sliceAt_slice w S _ _ _ _ ht, run_slice_any w S p n c ht, hb]
  simp only [Result.andThen_ok, he, hk, hs]
theorem exec_eqB {o : Oper} {ev : Operand → Value} {W : World} {x y : Operand} {a : Bool} (ho : o.op = .binOp .eql 4 x y 4) (hx : ev x = .bool a) (hy : ev y = .bool a) : (execOp ev o).run Tryd.prog W = .ok (.value (.bool true)) W := by
  unfold execOp
  simp [ho, hx, hy, go_sem, Tryd.underlying4]
/-- The first ones. -/
theorem texts_take {w : World} {p : Option Addr} {c m : Nat} {ts : List (List Nat)} (A : TextsAt w (.slice p ts.length c) ts) (hm : m ≤ ts.length) : ∃ q, sliced p 0 m c 1 = .slice q m c ∧ m ≤ c ∧ TextsAt w (.slice q (ts.take m).length c) (ts.take m) := by
  obtain ⟨p2, g, o, c2, V, hv, hc, R, hi⟩ := A
  injection hv with e1 _ e3
  subst e1 e3
  have hl : (ts.take m).length = m := by rw [List.length_take]; omega
  obtain ⟨q, hq, R2⟩ := R.slice (l := 0) (h := m) (m := c) (by omega) hm (by have := R.le; omega) (Nat.le_refl _)
  refine ⟨q, by simpa using hq, by have := R.le; omega, q, g, o, c, V, rfl, by rw [hl]; omega, ?_, fun i h => ?_⟩
  · rw [hl]
    have R3 := R2.to (U := V) (fun i hi => by simp)
    simpa using R3
  · rw [List.getElem_take]
    exact hi i (by omega)
set_option maxHeartbeats 8000000 in
theorem walk (W : World) (hL : laidMetH Tryd.prog sipLaid W) (t0 : List Nat) (w0 : IsH t0) (a1 : Option Addr) (g1 o1 n1 c1 : Nat) (x1 : Nat → Nat) (w1 : Row W a1 g1 o1 n1 c1 x1) (m1 : c1 ≤ 140737488351232) (v2 : Value) (t2 : List (List Nat)) (w2 : TextsAt W v2 t2) :
    Calls Tryd.prog 5 #[.agg (arr 32 (bv (lf t0))), .slice a1 n1 c1, v2] W fun e w' => e = .returned (.bool true) ∧ Below W.heap.size W w' := by
  have E := Lib.hid (Mem.nil W)
  have LL := Lib.hid (of_sip hL)
  have HX := Lib.hid (show ∀ i, lf t0 i < 256 from lf_lt w0.2)
  have HN := Lib.hid (show n1 ≤ 140737488351232 from Nat.le_trans w1.le m1)
  have R1 := Lib.hid w1
  obtain ⟨p, g, o, c, V, hv, hc, RV, hi⟩ := id w2
  subst hv
  obtain ⟨m, hm⟩ : ∃ m, m = min t2.length 60 := ⟨_, rfl⟩
  obtain ⟨q, hq, hmc, A2⟩ := texts_take w2 (m := m) (by omega)
  have hml : (t2.take m).length = m := by rw [List.length_take]; omega
  obtain ⟨ts, hts⟩ : ∃ ts, ts = t2.take m := ⟨_, rfl⟩
  rw [← hts] at A2 hml
  rw [hml] at A2
  have A := Lib.hid A2
  have CUTS := Lib.hid (show ∀ w, (Instr.sliceAt 24 (.slice p t2.length c) none (some (.int .i64 ((m : Nat) : Int))) none).run Tryd.prog w = .ok (.slice q m c) w from fun w => run_cut Tryd.underlying24 (by intro w; kernel_rfl) hq hmc w)
  obtain ⟨N, hN⟩ : ∃ N, N = t2.length := ⟨_, rfl⟩
  rw [← hN] at CUTS ⊢
  have MIN := Lib.hid (show min (N : Int) 60 = ((m : Nat) : Int) by omega)
  obtain ⟨r, hr⟩ : ∃ r, r = mres (key0 (lf t0)) (key1 (lf t0)) (vres n1 x1) ts := ⟨_, rfl⟩
  have FM := Lib.hid (show ∀ w, Below W.heap.size W w → Calls Tryd.prog 20 #[.agg (arr 32 (bv (lf t0))), .slice a1 n1 c1, .slice q m c] w fun e w' => e = .returned (.tuple #[.bool r.1, .int .i64 r.2]) ∧ Below w.heap.size w w' from fun w hb => by
    rw [hr]
    exact fimatch_any HX.out (Lib.hid (R1.out.below hb)) HN.out (Lib.hid (A.out.below hb)) (Lib.hid (LL.out.below hb)))
  have RM := Lib.hid (show ∀ w, Below W.heap.size W w → Calls Tryd.prog 21 #[.agg (arr 32 (bv (lf t0))), .slice a1 n1 c1, .slice q m c] w fun e w' => e = .returned (.tuple #[.bool r.1, .int .i64 r.2]) ∧ Below w.heap.size w w' from fun w hb => by
    rw [hr]
    exact rmatch_any HX.out (Lib.hid (R1.out.below hb)) HN.out (Lib.hid (A.out.below hb)))
  obtain ⟨f, er⟩ := r
  simp only [] at FM RM
  clear hL w0 w1 m1 w2 hc RV hi hm hq hmc A2 hml hts hN hr A R1 LL HX HN
  go_enter Tryd.func5, Tryd.ntmps5
  go_wp2_with (first
    | ((with_reducible refine wpList_at 3 rfl ?_); refine mem_box E 23 rfl _ rfl rfl (arr_cells' 32 (bv (lf t0))) ?_; clear E; intro b3 w3 E)
    | ((with_reducible refine wpList_at 14 rfl ?_); refine wpList_kn rfl (.int .i64 ((m : Nat) : Int)) (by exact exec_min rfl rfl rfl rfl MIN.out) ?_)
    | ((with_reducible refine wpList_at 15 rfl ?_); refine wpList_kn rfl (.slice q m c) (by exact exec_sl rfl (CUTS.out _)) ?_)
    | ((with_reducible refine wpList_at 17 rfl ?_); refine mem_load_row E 23 rfl (.tmp 3) rfl rfl List.mem_cons_self Tryd.underlying23 rfl (by rw [arr_size]; kernel_rfl) ?_)
    | ((with_reducible refine wpList_at 24 rfl ?_); refine mem_load_row E 23 rfl (.tmp 3) rfl rfl List.mem_cons_self Tryd.underlying23 rfl (by rw [arr_size]; kernel_rfl) ?_)
    | (go_at_call 20; refine (FM.out _ E.out.below).mono ?_; rintro e w4 ⟨rfl, hb⟩; replace E := Lib.hid (E.out.call hb); clear hb)
    | (go_at_call 21; refine (RM.out _ E.out.below).mono ?_; rintro e w5 ⟨rfl, hb⟩; replace E := Lib.hid (E.out.call hb); clear hb)
    | ((with_reducible refine wpList_at 32 rfl ?_); refine wpList_kn rfl (.bool true) (by exact exec_eqB rfl rfl rfl) ?_)
    | ((with_reducible refine wpList_at 36 rfl ?_); refine wpList_kn rfl (.bool true) (by exact exec_eqE rfl rfl rfl) ?_)
    | (go_at_call 14; refine (awake12_any _).mono ?_; rintro e w7 ⟨rfl, hb⟩; replace E := Lib.hid (E.out.call hb); clear hb))
  go_ret
  exact ⟨rfl, E.out.below⟩

set_option maxRecDepth 100000 in
theorem lifted (os : Os) (started : os.Started) (H : Type) (enc : TypeId × Value → H) :
    ReturnsInHanded {} Tryd.checked os 5 .any (fun w args => (Rows.filterMatchesSpec.pre enc Tryd.prog Tryd.f5 [] false w args ∧ laidMetH Tryd.prog sipLaid w) ∧ sizedMet enc Tryd.prog Tryd.f5 (OpenSpec.ofChange Rows.filterMatchesSpec) false w args)
      (Rows.filterMatchesSpec.post enc Tryd.prog Tryd.f5 false true false false) := by
  refine returnsInHanded_of_change_and (C := Tryd.checked) (X := fun w _ => laidMetH Tryd.prog sipLaid w) (fun _ _ _ hh h => h.of_heap hh) own started (by kernel_rfl) Tryd.func5
    (ChangeSpec.witness_shaped (enc := enc) (C := Tryd.checked) (os := os) (X := fun w _ => laidMetH Tryd.prog sipLaid w) false (World.laidAll Tryd.prog os sipLaid) #[.agg #[.int .u8 0, .int .u8 0, .int .u8 0, .int .u8 0, .int .u8 0, .int .u8 0, .int .u8 0, .int .u8 0, .int .u8 0, .int .u8 0, .int .u8 0, .int .u8 0, .int .u8 0, .int .u8 0, .int .u8 0, .int .u8 0, .int .u8 0, .int .u8 0, .int .u8 0, .int .u8 0, .int .u8 0, .int .u8 0, .int .u8 0, .int .u8 0, .int .u8 0, .int .u8 0, .int .u8 0, .int .u8 0, .int .u8 0, .int .u8 0, .int .u8 0, .int .u8 0], .slice none 0 0, .slice none 0 0] 8 (World.laidAll_os _ _ _)
      (World.shaped_of_ZipB (by kernel_rfl) (by kernel_rfl)) (by kernel_rfl) (by kernel_rfl) (by kernel_rfl)
      (by rw [MakeChecks.laidMetH_plain _ _ _ (by kernel_rfl)]; exact laidMet_laidAll _ (by kernel_rfl) (by kernel_rfl))) ?_
  intro W base args ds gs before hval0 hW _ hsz0 hL _
  have hval : ∀ (j : Nat) t v, Tryd.f5.params[j]? = some t → args[j]? = some v → Value.okWide Tryd.prog W .any base t v := hval0
  have hsz : (DataW.weightsEach Tryd.prog (Tryd.f5.params.toList ++ Rows.filterMatchesSpec.plain.varTypes Tryd.prog) (ds ++ gs)).all (· ≤ reachBytes) = true := hsz0
  have hW' := hW
  obtain ⟨p, q, hA0, hV, rfl, hfz, hnd⟩ := hW
  have hA : DataW.TrodAll enc Tryd.prog W 0 (fun _ => true) true Tryd.f5.params.toList args.toList ds p := hA0
  rw [Tryd.params5] at hA hval hsz
  obtain ⟨v0, vs0, d0, ds0, p0, q0, hargs, rfl, rfl, h0, r0⟩ := trodAll_cons hA
  obtain ⟨v1, vs1, d1, ds1, p1, q1, rfl, rfl, rfl, h1, r1⟩ := trodAll_cons r0
  obtain ⟨v2, vs2, d2, ds2, p2, q2, rfl, rfl, rfl, h2, r2⟩ := trodAll_cons r1
  obtain ⟨rfl, rfl, rfl⟩ := trodAll_nil r2
  obtain rfl : args = #[v0, v1, v2] := by cases args; simp_all
  obtain ⟨rfl, rfl⟩ := trodVars_none hV
  have k0 := h0
  have lt0 : ∀ x ∈ p0, x.block < W.heap.size := by obtain ⟨m, hm⟩ := k0; exact DataW.trod_lt m _ _ _ hm
  obtain ⟨t0, w0, rfl⟩ := open_hash_arg (hval 0 23 v0 rfl rfl) h0
  have k1 := h1
  have lt1 : ∀ x ∈ p1, x.block < W.heap.size := by obtain ⟨m, hm⟩ := k1; exact DataW.trod_lt m _ _ _ hm
  obtain ⟨a1, g1, o1, n1, c1, x1, rfl, w1, m1⟩ := open_row (j := 1) (hval 1 26 v1 rfl rfl) h1 hsz rfl rfl
  have k2 := h2
  have lt2 : ∀ x ∈ p2, x.block < W.heap.size := by obtain ⟨m, hm⟩ := k2; exact DataW.trod_lt m _ _ _ hm
  obtain ⟨t2, w2⟩ := open_texts_arg (j := 2) (hval 2 24 v2 rfl rfl) h2 hsz rfl rfl
  clear hA0 hval0 hsz0
  simp only [List.append_nil] at hW'
  refine (walk W hL t0 w0 a1 g1 o1 n1 c1 x1 w1 m1 v2 t2 w2).mono fun e W' ⟨he, bel⟩ => ?_
  subst he
  exact ⟨_, rfl, _, _, _, [], _, [], hW', trodAll_mk1 (shut_bool Tryd.underlying4 _), (trodAll_cons_mk (Below.trod laidOut (by kernel_rfl) (of_decide_eq_true (by kernel_rfl)) k0 bel lt0) (trodAll_cons_mk (Below.trod laidOut (by kernel_rfl) (of_decide_eq_true (by kernel_rfl)) k1 bel lt1) (trodAll_cons_mk (Below.trod laidOut (by kernel_rfl) (of_decide_eq_true (by kernel_rfl)) k2 bel lt2) trodAll_mk0))), rfl, bel.frame _, fun h => by cases h⟩

theorem over : Rows.FilterMatchesSaid :=
  OpenClaim.holds_of_wide 5 Tryd.f5 rfl rfl rfl rfl rfl rfl rfl ⟨rfl, rfl, rfl, rfl, rfl⟩ rfl rfl rfl rfl rfl (by kernel_rfl) Tryd.func5 (by kernel_rfl)
    (of_decide_eq_true (by kernel_rfl)) (by unfold Func.isWrapper; first | (rw [if_pos (by decide +kernel)]; kernel_rfl) | (rw [if_neg (by decide +kernel)]; exact ⟨rfl, rfl⟩))
    (fun os started H enc _ => lifted os started H enc)

/-- The tied card. -/
theorem card_holds : Rows.FilterMatchesCardSaid :=
  Claim7.holds_tied_plain_at .later [] [.data] true (true, "0026defc136159f87352b3cac9c0b6996331b533e9e9fb2788c60476b3d9b763") false
    over (fun _ h => by cases h) (by kernel_rfl) (fun _ h => by cases h) filterMatches_row_tie rfl ⟨rfl, rfl⟩ (by kernel_rfl) rfl
    (fun f fn hf hfn => by
      obtain rfl : f = 5 := Option.some.inj ((show Tryd.prog.funcNamed "sporran/sporranlaw12.FilterMatches" = some 5 by kernel_rfl).symm.trans hf) |>.symm
      obtain rfl : fn = Tryd.f5 := (Option.some.inj (Tryd.func5.symm.trans hfn)).symm
      exact ⟨by kernel_rfl, fun j t ht => by
        rw [Tryd.params5] at ht
        have hm : t ∈ [23, 26, 24] := by simpa using Array.mem_of_getElem? ht
        have hall : ([23, 26, 24].all fun u => !Tryd.prog.wantsStandIn u) = true := by kernel_rfl
        exact (show Tryd.prog.wantsStandIn t = false by simpa using List.all_eq_true.1 hall t hm)⟩)
    (by kernel_rfl)
#print axioms card_holds
end Go.Proofs.YtfnfdfhmdepgoaaDoor.filterMatches
