/- For every call that may be done: a writer and a reader that no call made, the nil ones and the plain ones, answer the error for it and nothing else; the call returns true. No condition. -/
import Derived.Test.YtmjaimiehhgidaaRib
import Derived.ShutString
import Derived.ChangeOld
import Derived.Below
import Derived.SizedLaws
set_option linter.unusedVariables false
set_option linter.unusedSimpArgs false
namespace Go.Proofs.Ytmjaimiehhgidaa.riceNobody
open Go.ChangeShapes Go.WideShapes Go.ChangeAt Go.RowKit Go.Lib Go.Sort Go.Proofs.Ytmjaimiehhgidaa

set_option maxRecDepth 100000
theorem infoPW : (Try.prog.info? 23).map (fun i => (i.zero, i.size, i.bytes)) = some (some (.pointer none), 1, 8) := by kernel_rfl
theorem infoPR : (Try.prog.info? 42).map (fun i => (i.zero, i.size, i.bytes)) = some (some (.pointer none), 1, 8) := by kernel_rfl
theorem built_w : Try.prog.built 50 (#[] : Array (Nat × Value)).toList = some #[.nilFunc, .nilFunc] := by kernel_rfl
theorem built_r : Try.prog.built 53 (#[] : Array (Nat × Value)).toList = some #[.bool false, .slice none 0 0, .int .i64 0] := by kernel_rfl
theorem eqErr (w : World) : True := trivial
def intOf : Value → Int | .int _ q => q | _ => 0
set_option maxHeartbeats 8000000 in
theorem walk (W : World) (a b c : Int) (ok : DoOk a b c) :
    Calls Try.prog 6 #[.agg #[.int .i64 a, .int .i64 b, .int .u64 c]] W fun e w' => e = .returned (.bool true) ∧ Below W.heap.size W w' := by
  have E := Lib.hid (Mem.nil W)
  clear ok
  go_enter Try.func6, Try.ntmps6
  go_upto_region 2 with (first
    | (refine mem_box E 31 rfl _ rfl rfl (c := #[.int .i64 a, .int .i64 b, .int .u64 c]) rfl ?_; clear E; intro b1 w1 E)
    | (refine wpList_bld 50 _ rfl rfl (ps := #[]) (by kernel_rfl) built_w ?_)
    | (refine mem_box E 50 rfl _ rfl rfl (c := #[.nilFunc, .nilFunc]) rfl ?_; clear E; intro b2 w2 E)
    | (refine mem_bs2 (x := .pointer none) (y := .pointer (some ⟨b2, 0, none⟩)) E rfl Try.underlying51 infoPW _ rfl (by kernel_rfl) rfl rfl ?_; clear E; intro b3 w3 E))
  have U0 : UnW w3 (.pointer none) := .inl rfl
  have U1 : UnW w3 (.pointer (some ⟨b2, 0, none⟩)) := .inr ⟨b2, rfl, E.out.get (List.mem_cons_of_mem _ List.mem_cons_self)⟩
  have A1 := Lib.hid (fun v (h : UnW w3 v) x => wbit_un h x)
  have A2 := Lib.hid (fun v (h : UnW w3 v) x y => wbits_un h x y)
  have A3 := Lib.hid (fun v (h : UnW w3 v) x y => wrice_un h x y)
  have A4 := Lib.hid (fun v (h : UnW w3 v) => wbytes_un h)
  have UU := Lib.hid (And.intro U0 U1)
  clear U0 U1
  go_loop [17] (fun i => ∃ j : Nat, j ≤ 2 ∧ i = .int .i64 (j : Int)) (fun i => 2 - (intOf i).toNat)
  case atStart => exact ⟨0, by omega, rfl⟩
  case round =>
    obtain ⟨j, hj, rfl⟩ := hrel
    match j, hj with
    | 0, _ =>
      go_wp2_with (first
        | (refine wpList_ix (k := 1) (j := 0) Try.underlying51 (by kernel_rfl) (.tmp 15) (.tmp 17) rfl rfl rfl rfl (by omega) rfl ?_)
        | (refine mem_load_cell E 23 rfl (.tmp 19) rfl rfl List.mem_cons_self Try.underlying23 rfl (v := .pointer none) rfl ?_)
        | (refine mem_load_cell E 29 rfl _ rfl rfl (List.mem_cons_of_mem _ (List.mem_cons_of_mem _ List.mem_cons_self)) Try.underlying29 rfl (v := .int .u64 c) rfl ?_)
        | (refine mem_load_cell E 3 rfl _ rfl rfl (List.mem_cons_of_mem _ (List.mem_cons_of_mem _ List.mem_cons_self)) Try.underlying3 rfl (v := .int .i64 b) rfl ?_)
        | (go_at_call 8; refine (A1.out _ UU.out.1 _).mono ?_; rintro e w4 ⟨rfl, rfl⟩)
        | (go_at_call 10; refine (A2.out _ UU.out.1 _ _).mono ?_; rintro e w4 ⟨rfl, rfl⟩)
        | (go_at_call 12; refine (A3.out _ UU.out.1 _ _).mono ?_; rintro e w4 ⟨rfl, rfl⟩)
        | (go_at_call 15; refine (A4.out _ UU.out.1).mono ?_; rintro e w4 ⟨rfl, rfl⟩))
      go_round
      case rel => exact ⟨1, by omega, rfl⟩
      case measure => simp [intOf]
    | 1, _ =>
      go_wp2_with (first
        | (refine wpList_ix (k := 1) (j := 1) Try.underlying51 (by kernel_rfl) (.tmp 15) (.tmp 17) rfl rfl rfl rfl (by omega) rfl ?_)
        | (refine mem_load_cell E 23 rfl (.tmp 19) rfl rfl List.mem_cons_self Try.underlying23 rfl (v := .pointer (some ⟨b2, 0, none⟩)) rfl ?_)
        | (refine mem_load_cell E 29 rfl _ rfl rfl (List.mem_cons_of_mem _ (List.mem_cons_of_mem _ List.mem_cons_self)) Try.underlying29 rfl (v := .int .u64 c) rfl ?_)
        | (refine mem_load_cell E 3 rfl _ rfl rfl (List.mem_cons_of_mem _ (List.mem_cons_of_mem _ List.mem_cons_self)) Try.underlying3 rfl (v := .int .i64 b) rfl ?_)
        | (go_at_call 8; refine (A1.out _ UU.out.2 _).mono ?_; rintro e w4 ⟨rfl, rfl⟩)
        | (go_at_call 10; refine (A2.out _ UU.out.2 _ _).mono ?_; rintro e w4 ⟨rfl, rfl⟩)
        | (go_at_call 12; refine (A3.out _ UU.out.2 _ _).mono ?_; rintro e w4 ⟨rfl, rfl⟩)
        | (go_at_call 15; refine (A4.out _ UU.out.2).mono ?_; rintro e w4 ⟨rfl, rfl⟩))
      go_round
      case rel => exact ⟨2, by omega, rfl⟩
      case measure => simp [intOf]
    | 2, _ =>
      go_upto_region 8 with (first
        | (refine wpList_bld 53 _ rfl rfl (ps := #[]) (by kernel_rfl) built_r ?_)
        | (refine mem_box E 53 rfl _ rfl rfl (c := #[.bool false, .slice none 0 0, .int .i64 0]) rfl ?_; clear E; intro b4 w4 E)
        | (refine mem_bs2 (x := .pointer none) (y := .pointer (some ⟨b4, 0, none⟩)) E rfl Try.underlying54 infoPR _ rfl (by kernel_rfl) rfl rfl ?_; clear E; intro b5 w5 E))
      have U0 : UnR w5 (.pointer none) := .inl rfl
      have U1 : UnR w5 (.pointer (some ⟨b4, 0, none⟩)) := .inr ⟨b4, rfl, E.out.get (List.mem_cons_of_mem _ List.mem_cons_self)⟩
      have B1 := Lib.hid (fun v (h : UnR w5 v) => rbit_un h)
      have B2 := Lib.hid (fun v (h : UnR w5 v) x => rbits_un h x)
      have B3 := Lib.hid (fun v (h : UnR w5 v) x y => rrice_un h x y)
      have B4 := Lib.hid (fun v (h : UnR w5 v) => rleft_un h)
      have UV := Lib.hid (And.intro U0 U1)
      clear U0 U1 UU A1 A2 A3 A4
      go_loop [53] (fun i => ∃ j : Nat, j ≤ 2 ∧ i = .int .i64 (j : Int)) (fun i => 2 - (intOf i).toNat)
      case atStart => exact ⟨0, by omega, rfl⟩
      case round =>
        obtain ⟨j, hj, rfl⟩ := hrel
        match j, hj with
        | 0, _ =>
          go_wp2_with (first
            | (refine wpList_ix (k := 1) (j := 0) Try.underlying54 (by kernel_rfl) (.tmp 51) (.tmp 53) rfl rfl rfl rfl (by omega) rfl ?_)
            | (refine mem_load_cell E 42 rfl (.tmp 55) rfl rfl List.mem_cons_self Try.underlying42 rfl (v := .pointer none) rfl ?_)
            | (refine mem_load_cell E 29 rfl _ rfl rfl (List.mem_cons_of_mem _ (List.mem_cons_of_mem _ (List.mem_cons_of_mem _ (List.mem_cons_of_mem _ List.mem_cons_self)))) Try.underlying29 rfl (v := .int .u64 c) rfl ?_)
            | (refine mem_load_cell E 3 rfl _ rfl rfl (List.mem_cons_of_mem _ (List.mem_cons_of_mem _ (List.mem_cons_of_mem _ (List.mem_cons_of_mem _ List.mem_cons_self)))) Try.underlying3 rfl (v := .int .i64 b) rfl ?_)
            | (go_at_call 21; refine (B1.out _ UV.out.1).mono ?_; rintro e w6 ⟨rfl, rfl⟩)
            | (go_at_call 20; refine (B2.out _ UV.out.1 _).mono ?_; rintro e w6 ⟨rfl, rfl⟩)
            | (go_at_call 18; refine (B3.out _ UV.out.1 _ _).mono ?_; rintro e w6 ⟨rfl, rfl⟩)
            | (go_at_call 19; refine (B4.out _ UV.out.1).mono ?_; rintro e w6 ⟨rfl, rfl⟩))
          go_round
          case rel => exact ⟨1, by omega, rfl⟩
          case measure => simp [intOf]
        | 1, _ =>
          go_wp2_with (first
            | (refine wpList_ix (k := 1) (j := 1) Try.underlying54 (by kernel_rfl) (.tmp 51) (.tmp 53) rfl rfl rfl rfl (by omega) rfl ?_)
            | (refine mem_load_cell E 42 rfl (.tmp 55) rfl rfl List.mem_cons_self Try.underlying42 rfl (v := .pointer (some ⟨b4, 0, none⟩)) rfl ?_)
            | (refine mem_load_cell E 29 rfl _ rfl rfl (List.mem_cons_of_mem _ (List.mem_cons_of_mem _ (List.mem_cons_of_mem _ (List.mem_cons_of_mem _ List.mem_cons_self)))) Try.underlying29 rfl (v := .int .u64 c) rfl ?_)
            | (refine mem_load_cell E 3 rfl _ rfl rfl (List.mem_cons_of_mem _ (List.mem_cons_of_mem _ (List.mem_cons_of_mem _ (List.mem_cons_of_mem _ List.mem_cons_self)))) Try.underlying3 rfl (v := .int .i64 b) rfl ?_)
            | (go_at_call 21; refine (B1.out _ UV.out.2).mono ?_; rintro e w6 ⟨rfl, rfl⟩)
            | (go_at_call 20; refine (B2.out _ UV.out.2 _).mono ?_; rintro e w6 ⟨rfl, rfl⟩)
            | (go_at_call 18; refine (B3.out _ UV.out.2 _ _).mono ?_; rintro e w6 ⟨rfl, rfl⟩)
            | (go_at_call 19; refine (B4.out _ UV.out.2).mono ?_; rintro e w6 ⟨rfl, rfl⟩))
          go_round
          case rel => exact ⟨2, by omega, rfl⟩
          case measure => simp [intOf]
        | 2, _ =>
          go_wp2
          go_ret
          exact ⟨rfl, E.out.below⟩

set_option maxRecDepth 100000 in
theorem lifted (os : Os) (started : os.Started) (H : Type) (enc : TypeId × Value → H) :
    ReturnsInHanded {} Try.checked os 6 .any (Rows.riceNobodySpec.pre6 enc Try.prog Try.f6 Rows.riceNobodyRow.domain false) (Rows.riceNobodySpec.post enc Try.prog Try.f6 false true false false) := by
  refine returnsInHanded_of_change_sized (C := Try.checked) own started (by kernel_rfl) Try.func6
    (ChangeSpec.witness6 (enc := enc) (C := Try.checked) false ⟨#[], #[.agg #[.int .i64 0, .int .i64 0, .int .u64 0]], []⟩ 8 (by kernel_rfl) (by kernel_rfl) (by kernel_rfl) (by kernel_rfl)) ?_
  intro W base args ds gs before hval0 hW hcnd hsz0 _
  have hval : ∀ (j : Nat) t v, Try.f6.params[j]? = some t → args[j]? = some v → Value.okWide Try.prog W .any base t v := hval0
  have hsz : (DataW.weightsEach Try.prog (Try.f6.params.toList ++ Rows.riceNobodySpec.plain.varTypes Try.prog) (ds ++ gs)).all (· ≤ reachBytes) = true := hsz0
  have hW' := hW
  obtain ⟨p, q, hA0, hV, rfl, hfz, hnd⟩ := hW
  have hA : DataW.TrodAll enc Try.prog W 0 (fun _ => true) true Try.f6.params.toList args.toList ds p := hA0
  rw [Try.params6] at hA hval hsz
  obtain ⟨v0, vs0, d0, ds0, p0, q0, hargs, rfl, rfl, h0, r0⟩ := trodAll_cons hA
  obtain ⟨rfl, rfl, rfl⟩ := trodAll_nil r0
  obtain rfl : args = #[v0] := by cases args; simp_all
  obtain ⟨rfl, rfl⟩ := trodVars_none hV
  have k0 := h0
  have lt0 : ∀ x ∈ p0, x.block < W.heap.size := by obtain ⟨m, hm⟩ := k0; exact DataW.trod_lt m _ _ _ hm
  obtain ⟨a0, b0, c0, rfl, w0⟩ := open_do (hval 0 31 v0 rfl rfl) h0
  clear hA0 hval0 hsz0
  simp only [List.append_nil] at hW'
  refine (walk W a0 b0 c0 w0).mono fun e W' ⟨he, bel⟩ => ?_
  subst he
  exact ⟨_, rfl, _, _, _, [], _, [], hW', trodAll_mk1 (shut_bool Try.underlying4 _), (trodAll_cons_mk (Below.trod laidOut (by kernel_rfl) (of_decide_eq_true (by kernel_rfl)) k0 bel lt0) trodAll_mk0), rfl, bel.frame _, fun h => by cases h⟩

theorem over : Rows.riceNobodyRow.holds Try.pinned (OpenSpec.ofChange Rows.riceNobodySpec) :=
  OpenClaim.holds_of_wide 6 Try.f6 rfl rfl rfl rfl rfl rfl rfl ⟨rfl, rfl, rfl, rfl, rfl⟩ rfl rfl rfl rfl rfl (by kernel_rfl) Try.func6 (by kernel_rfl)
    (of_decide_eq_true (by kernel_rfl)) (by unfold Func.isWrapper; first | (rw [if_pos (by decide +kernel)]; kernel_rfl) | (rw [if_neg (by decide +kernel)]; exact ⟨rfl, rfl⟩))
    (fun os started H enc _ => lifted os started H enc)

/-- The statement. -/
theorem proved : Rows.RiceNobodySaid :=
  over
#print axioms proved
end Go.Proofs.Ytmjaimiehhgidaa.riceNobody
