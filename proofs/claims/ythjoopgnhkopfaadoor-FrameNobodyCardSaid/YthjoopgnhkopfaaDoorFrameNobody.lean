/- For every slice of bytes (nil too): a reader that no call made, the nil one and the empty one, has no frames, the error for it, and nothing left; a small frame is written; the call returns true. The tables that the row lists (those of package sha, and two of the library's on UTF-8, one of them pinned) are laid as the card ties them. No other condition. -/
import Derived.Test.YthjoopgnhkopfaaDoorFz
import Derived.Lay
import Derived.Test.YthjoopgnhkopfaaDoorTie
import Derived.Test.YthjoopgnhkopfaaDoorCards
import Derived.ShutString
import Derived.ChangeOld
import Derived.Below
import Derived.SevenTiedAt
section
set_option maxRecDepth 100000
namespace Go.Proofs.YthjoopgnhkopfaaDoor.S
open Go.ChangeShapes Go.WideShapes Go.ChangeAt Go.RowKit

/-- What the rows over frames list. -/
def frLaid : List (String × DataW Unit) := [("unicode/utf8.acceptRanges", Rows.laid_unicode_utf8_acceptRanges), ("sporran/sha.startWords", Rows.laid_sporran_sha_startWords), ("sporran/sha.roundWords", Rows.laid_sporran_sha_roundWords), ("unicode/utf8.first", Rows.laid_unicode_utf8_first)]
theorem of_fr {W : World} (h : laidMetH Tryd.prog frLaid W) : SLaid W ∧ KLaid W := by
  rw [MakeChecks.laidMetH_plain _ _ _ (by kernel_rfl)] at h
  obtain ⟨ps, ⟨_, _, _, _, _, _, _, _, _, _, ⟨g0, t0, cs0, f0, p0, q0, hg0, ht0, hv0, hd0, ⟨g1, t1, cs1, f1, p1, q1, hg1, ht1, hv1, hd1, _, _⟩, _⟩, _⟩, _, _⟩ := h
  obtain rfl := Option.some.inj (gStart.symm.trans hg0)
  obtain rfl := Option.some.inj (tStart.symm.trans ht0)
  obtain rfl := Option.some.inj (gRound.symm.trans hg1)
  obtain rfl := Option.some.inj (tRound.symm.trans ht1)
  constructor
  · intro i hi
    have hd : DataW.trod _ Tryd.prog W 0 _ _ f0 201 cs0.toList = some (.agg (startList.map fun z => .lit (.int .u32 z)), p0) := hd0
    have hz : startList[i]? = some (startList.getD i 0) := by
      rw [List.getD_eq_getElem?_getD, List.getElem?_eq_getElem (by show i < 8; exact hi)]; rfl
    have h1 := ints_of_trod Tryd.underlying201 Tryd.underlying22 cU32 hd i _ hz
    rw [World.var?_cell hg0 hv0 i]
    have e : rv H0 i = .int .u32 (startList.getD i 0) := by
      match i, hi with
      | 0, _ => rfl
      | 1, _ => rfl
      | 2, _ => rfl
      | 3, _ => rfl
      | 4, _ => rfl
      | 5, _ => rfl
      | 6, _ => rfl
      | 7, _ => rfl
    rw [e]
    simpa using h1
  · intro i hi
    rw [roundList] at hd1
    have hz : kList[i]? = some (kWord i) := by
      unfold kWord
      rw [List.getD_eq_getElem?_getD, List.getElem?_eq_getElem (by show i < 64; exact hi)]; rfl
    have h1 := ints_of_trod Tryd.underlying232 Tryd.underlying22 cU32 hd1 i _ hz
    rw [World.var?_cell hg1 hv1 i]
    simpa using h1
end Go.Proofs.YthjoopgnhkopfaaDoor.S
end
set_option linter.unusedVariables false
set_option linter.unusedSimpArgs false
namespace Go.Proofs.YthjoopgnhkopfaaDoor.frameNobody
open Go.ChangeShapes Go.WideShapes Go.ChangeAt Go.RowKit Go.Lib Go.Sort Go.Proofs.YthjoopgnhkopfaaDoor

theorem infoPFR : (Tryd.prog.info? 51).map (fun i => (i.zero, i.size, i.bytes)) = some (some (.pointer none), 1, 8) := by kernel_rfl
theorem built_frd : Tryd.prog.built 75 (#[] : Array (Nat × Value)).toList = some #[.pointer none] := by kernel_rfl
section
variable {ops : Array Oper} {rest : List Oper} {Q : Exit → Act → World → Prop} {op : Oper} {a : Act} {w w0 : World} {l : List (Nat × TypeId × Array Value)}
theorem mem_bs2 (E : Hid (Mem w0 l w)) (hw : Region.wanted op (yielded ops a.tmps) = true) {S T bytes : Nat} {z : Value} (hS : Tryd.prog.underlying S = some (.slice T)) (hT : (Tryd.prog.info? T).map (fun i => (i.zero, i.size, i.bytes)) = some (some z, 1, bytes)) (parts : Array (Nat × Operand)) (ho : op.op = .buildSlice S 2 parts) {x y : Value} (hp : (parts.map fun (i, y) => (i, a.eval y)) = #[(0, x), (1, y)]) (hx : x.cells = #[x]) (hy : y.cells = #[y])
    (k : ∀ b w', Hid (Mem w0 ((b, T, #[x, y]) :: l) w') → wpList Tryd.prog ops Q rest (a.put op.dst (.slice (some ⟨b, 0, none⟩) 2 2)) w') : wpList Tryd.prog ops Q (op :: rest) a w :=
  wpList_known3 hw _ _ (exec_bs ho hp (run_bs2v hS hT x y hx hy w)) (k _ _ (Lib.hid (E.out.new T _)))
end
def intOf : Value → Int | .int _ q => q | _ => 0
/-- A reader that no call made. -/
def Un (w : World) (v : Value) : Prop := v = .pointer none ∨ ∃ b, v = .pointer (some ⟨b, 0, none⟩) ∧ w.heap[b]? = some (.cells #[.pointer none] 75 (0, 0))
set_option maxRecDepth 100000 in
set_option maxHeartbeats 2000000 in
theorem made_un {w : World} {v : Value} (h : Un w v) : Calls Tryd.prog 51 #[v] w fun e w' => e = .returned (.bool false) ∧ w = w' := by
  rcases h with rfl | ⟨b, rfl, hb⟩
  · go_enter Tryd.func51, Tryd.ntmps51
    go_wp2
    go_ret
    exact ⟨rfl, rfl⟩
  · have c0 := cell_of_here hb 0 (v := .pointer none) rfl
    clear hb
    go_enter Tryd.func51, Tryd.ntmps51
    go_wp2
    go_ret
    exact ⟨rfl, rfl⟩
set_option maxRecDepth 100000 in
set_option maxHeartbeats 2000000 in
theorem feed_un {w : World} {v u : Value} (h : Un w v) : Calls Tryd.prog 24 #[v, u] w fun e w' => e = .returned (.tuple #[.slice none 0 0, .int .i64 2]) ∧ w = w' := by
  have M := Lib.hid (made_un h)
  clear h
  go_enter Tryd.func24, Tryd.ntmps24
  go_wp2_with (go_at_call 51; refine M.out.mono ?_; rintro e w2 ⟨rfl, rfl⟩)
  go_ret2
  exact ⟨rfl, rfl⟩
set_option maxRecDepth 100000 in
set_option maxHeartbeats 2000000 in
theorem left_un {w : World} {v : Value} (h : Un w v) : Calls Tryd.prog 28 #[v] w fun e w' => e = .returned (.int .i64 0) ∧ w = w' := by
  have M := Lib.hid (made_un h)
  clear h
  go_enter Tryd.func28, Tryd.ntmps28
  go_wp2_with (go_at_call 51; refine M.out.mono ?_; rintro e w2 ⟨rfl, rfl⟩)
  go_ret
  exact ⟨rfl, rfl⟩
set_option maxRecDepth 100000 in
set_option maxHeartbeats 8000000 in
theorem walk (W : World) (hL : laidMetH Tryd.prog S.frLaid W) (u : Value) :
    Calls Tryd.prog 9 #[u] W fun e w' => e = .returned (.bool true) ∧ Below W.heap.size W w' := by
  have KL := Lib.hid (show S.Both W from S.of_fr hL)
  have E := Lib.hid (Mem.nil W)
  clear hL
  go_enter Tryd.func9, Tryd.ntmps9
  go_upto_region 2 with (first
    | (refine wpList_bld 75 _ rfl rfl (ps := #[]) (by kernel_rfl) built_frd ?_)
    | (refine mem_box (c := #[.pointer none]) E 75 rfl _ rfl rfl rfl ?_; clear E; intro b1 w1 E)
    | (refine mem_bs2 (x := .pointer none) (y := .pointer (some ⟨b1, 0, none⟩)) E rfl Tryd.underlying76 infoPFR _ rfl (by kernel_rfl) rfl rfl ?_; clear E; intro b2 w2 E))
  have E2 := E
  clear E
  have U0 : Un w2 (.pointer none) := .inl rfl
  have U1 : Un w2 (.pointer (some ⟨b1, 0, none⟩)) := .inr ⟨b1, rfl, E2.out.get (List.mem_cons_of_mem _ List.mem_cons_self)⟩
  have F0 := Lib.hid (fun u => feed_un (u := u) U0)
  have F1 := Lib.hid (fun u => feed_un (u := u) U1)
  have L0 := Lib.hid (left_un U0)
  have L1 := Lib.hid (left_un U1)
  clear U0 U1
  go_loop [11] (fun i => ∃ j : Nat, j ≤ 2 ∧ i = .int .i64 (j : Int)) (fun i => 2 - (intOf i).toNat)
  case atStart => exact ⟨0, by omega, rfl⟩
  case round =>
    obtain ⟨j, hj, rfl⟩ := hrel
    match j, hj with
    | 0, _ =>
      go_wp2_with (first
        | (refine wpList_ix (k := 1) (j := 0) Tryd.underlying76 (by kernel_rfl) (.tmp 9) (.tmp 11) rfl rfl rfl rfl (by omega) rfl ?_)
        | (refine mem_load_cell E2 51 rfl (.tmp 13) rfl rfl List.mem_cons_self Tryd.underlying51 rfl (v := .pointer none) rfl ?_)
        | (go_at_call 24; refine (F0.out _).mono ?_; rintro e w3 ⟨rfl, rfl⟩)
        | (go_at_call 28; refine L0.out.mono ?_; rintro e w3 ⟨rfl, rfl⟩))
      go_round
      case rel => exact ⟨1, by omega, rfl⟩
      case measure => simp [intOf]
    | 1, _ =>
      go_wp2_with (first
        | (refine wpList_ix (k := 1) (j := 1) Tryd.underlying76 (by kernel_rfl) (.tmp 9) (.tmp 11) rfl rfl rfl rfl (by omega) rfl ?_)
        | (refine mem_load_cell E2 51 rfl (.tmp 13) rfl rfl List.mem_cons_self Tryd.underlying51 rfl (v := .pointer (some ⟨b1, 0, none⟩)) rfl ?_)
        | (go_at_call 24; refine (F1.out _).mono ?_; rintro e w3 ⟨rfl, rfl⟩)
        | (go_at_call 28; refine L1.out.mono ?_; rintro e w3 ⟨rfl, rfl⟩))
      go_round
      case rel => exact ⟨2, by omega, rfl⟩
      case measure => simp [intOf]
    | 2, _ =>
      go_wp2_with (go_at_call 29; refine (awake9_any _ (Lib.hid (KL.out.below E2.out.below))).mono ?_; rintro e w5 ⟨rfl, hb⟩; have E5 := Lib.hid (E2.out.call hb); clear hb)
      go_ret
      exact ⟨rfl, E5.out.below⟩

set_option maxRecDepth 100000 in
theorem lifted (os : Os) (started : os.Started) (H : Type) (enc : TypeId × Value → H) :
    ReturnsInHanded {} Tryd.checked os 9 .any (fun w args => (Rows.frameNobodySpec.pre enc Tryd.prog Tryd.f9 [] false w args ∧ laidMetH Tryd.prog S.frLaid w) ∧ sizedMet enc Tryd.prog Tryd.f9 (OpenSpec.ofChange Rows.frameNobodySpec) false w args)
      (Rows.frameNobodySpec.post enc Tryd.prog Tryd.f9 false true false false) := by
  refine returnsInHanded_of_change_and (C := Tryd.checked) (X := fun w _ => laidMetH Tryd.prog S.frLaid w) (fun _ _ _ hh h => h.of_heap hh) own started (by kernel_rfl) Tryd.func9
    (ChangeSpec.witness_shaped (enc := enc) (C := Tryd.checked) (os := os) (X := fun w _ => laidMetH Tryd.prog S.frLaid w) false (World.laidAll Tryd.prog os S.frLaid) #[.slice none 0 0] 8 (World.laidAll_os _ _ _)
      (World.shaped_of_ZipB (by kernel_rfl) (by kernel_rfl)) (by kernel_rfl) (by kernel_rfl) (by kernel_rfl)
      (by rw [MakeChecks.laidMetH_plain _ _ _ (by kernel_rfl)]; exact laidMet_laidAll _ (by kernel_rfl) (by kernel_rfl))) ?_
  intro W base args ds gs before hval0 hW _ hsz0 hL _
  have hval : ∀ (j : Nat) t v, Tryd.f9.params[j]? = some t → args[j]? = some v → Value.okWide Tryd.prog W .any base t v := hval0
  have hsz : (DataW.weightsEach Tryd.prog (Tryd.f9.params.toList ++ Rows.frameNobodySpec.plain.varTypes Tryd.prog) (ds ++ gs)).all (· ≤ reachBytes) = true := hsz0
  have hW' := hW
  obtain ⟨p, q, hA0, hV, rfl, hfz, hnd⟩ := hW
  have hA : DataW.TrodAll enc Tryd.prog W 0 (fun _ => true) true Tryd.f9.params.toList args.toList ds p := hA0
  rw [Tryd.params9] at hA hval hsz
  obtain ⟨v0, vs0, d0, ds0, p0, q0, hargs, rfl, rfl, h0, r0⟩ := trodAll_cons hA
  obtain ⟨rfl, rfl, rfl⟩ := trodAll_nil r0
  obtain rfl : args = #[v0] := by cases args; simp_all
  obtain ⟨rfl, rfl⟩ := trodVars_none hV
  have k0 := h0
  have lt0 : ∀ x ∈ p0, x.block < W.heap.size := by obtain ⟨m, hm⟩ := k0; exact DataW.trod_lt m _ _ _ hm
  obtain ⟨a0, g0, o0, n0, c0, x0, rfl, w0, m0⟩ := open_row (j := 0) (hval 0 31 v0 rfl rfl) h0 hsz rfl rfl
  clear hA0 hval0 hsz0
  simp only [List.append_nil] at hW'
  refine (walk W hL _).mono fun e W' ⟨he, bel⟩ => ?_
  subst he
  exact ⟨_, rfl, _, _, _, [], _, [], hW', trodAll_mk1 (shut_bool Tryd.underlying4 _), (trodAll_cons_mk (Below.trod laidOut (by kernel_rfl) (of_decide_eq_true (by kernel_rfl)) k0 bel lt0) trodAll_mk0), rfl, bel.frame _, fun h => by cases h⟩

theorem over : Rows.FrameNobodySaid :=
  OpenClaim.holds_of_wide 9 Tryd.f9 rfl rfl rfl rfl rfl rfl rfl ⟨rfl, rfl, rfl, rfl, rfl⟩ rfl rfl rfl rfl rfl (by kernel_rfl) Tryd.func9 (by kernel_rfl)
    (of_decide_eq_true (by kernel_rfl)) (by unfold Func.isWrapper; first | (rw [if_pos (by decide +kernel)]; kernel_rfl) | (rw [if_neg (by decide +kernel)]; exact ⟨rfl, rfl⟩))
    (fun os started H enc _ => lifted os started H enc)

/-- The tied card. -/
theorem card_holds : Rows.FrameNobodyCardSaid :=
  Claim7.holds_tied_plain_at .later [] [.data, .data, .data, .pinned] true (true, "8b007ec6b4685376d20415a98b64e0492654737d0938b9bf786b72599ea20e36") true
    over (fun _ h => by cases h) (by kernel_rfl) (fun _ h => by cases h) frameNobody_row_tie rfl ⟨rfl, rfl⟩ (by kernel_rfl) rfl
    (fun f fn hf hfn => by
      obtain rfl : f = 9 := Option.some.inj ((show Tryd.prog.funcNamed "sporran/sporranlaw09.FrameNobody" = some 9 by kernel_rfl).symm.trans hf) |>.symm
      obtain rfl : fn = Tryd.f9 := (Option.some.inj (Tryd.func9.symm.trans hfn)).symm
      exact ⟨by kernel_rfl, fun j t ht => by
        rw [Tryd.params9] at ht
        have hm : t ∈ [31] := by simpa using Array.mem_of_getElem? ht
        have hall : ([31].all fun u => !Tryd.prog.wantsStandIn u) = true := by kernel_rfl
        exact (show Tryd.prog.wantsStandIn t = false by simpa using List.all_eq_true.1 hall t hm)⟩)
    (by kernel_rfl)
#print axioms card_holds
end Go.Proofs.YthjoopgnhkopfaaDoor.frameNobody
