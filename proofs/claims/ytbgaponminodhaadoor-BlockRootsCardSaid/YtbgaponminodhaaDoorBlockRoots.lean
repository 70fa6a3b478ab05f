/- For every slice of hashes (nil too), of which the law keeps the first 300: the root of a copy, and whether it may be of others, are the document's; the copy stays; the root of one hash is it, of no others; the call returns true. The two tables of package sha are laid as the program's text lays them; the card ties them to that text. No other condition. -/
import Derived.Test.YtbgaponminodhaaDoorHx
import Derived.Test.YtbgaponminodhaaDoorSSame
import Derived.Test.YtbgaponminodhaaDoorTie
import Derived.Test.YtbgaponminodhaaDoorCards
import Derived.ShutString
import Derived.ChangeOld
import Derived.Below
import Derived.SevenTiedAt
set_option linter.unusedVariables false
set_option linter.unusedSimpArgs false
namespace Go.Proofs.YtbgaponminodhaaDoor.blockRoots
open Go.ChangeShapes Go.WideShapes Go.ChangeAt Go.RowKit Go.Lib Go.Sort Go.Proofs.YtbgaponminodhaaDoor

theorem exec_eql {P : Program} {o : Oper} {ev : Operand → Value} {T R : TypeId} {x y : Operand} {a b : Array Value} {W : World} (ho : o.op = .binOp .eql T x y R) (hx : ev x = .agg a) (hy : ev y = .agg b) (hm : P.eqGuardType P.depth T = false) {r : Bool} (h : (Op.equalIn 10000 T (.agg a) (.agg b)).run P W = .ok r W) : (execOp ev o).run P W = .ok (.value (.bool r)) W := by
  unfold execOp
  simp only [ho, hx, hy, Sem.run_bind, run_eqGuard_agg W .eql T x y a b hm, run_eql_struct, h, Result.andThen_ok]
  rfl
set_option maxRecDepth 100000 in
set_option maxHeartbeats 8000000 in
theorem walk (W : World) (hL : laidMetH Tryd.prog S.shaLaid W) (a0 : Option Addr) (g0 o0 n0 c0 : Nat) (x0 : Nat → List Nat) (w0 : HRow W a0 g0 o0 n0 c0 x0) (m0 : c0 * 32 ≤ 140737488351232) :
    Calls Tryd.prog 6 #[.slice a0 n0 c0] W fun e w' => e = .returned (.bool true) ∧ Below W.heap.size W w' := by
  have KL := Lib.hid (show S.Both W from S.of_sha hL)
  have le := w0.row.le
  obtain ⟨m, hm⟩ : ∃ m, m = min n0 300 := ⟨_, rfl⟩
  have hm1 : m ≤ n0 := by omega
  have hm2 : m ≤ 300 := by omega
  have MIN : Hid (min n0 300 = m) := Lib.hid hm.symm
  have H7 : IsH (lf7 7) := isH_lf7 7 (by omega)
  obtain ⟨p0, hp0, R0⟩ := w0.row.slice (l := 0) (h := m) (m := c0) (by omega) hm1 (by omega) (Nat.le_refl _)
  have R := Lib.hid (HRow.of (R0.to (U := hv x0) fun i _ => by rw [Nat.zero_mul, Nat.zero_add]) w0.is)
  simp only [Nat.sub_zero, Nat.zero_mul, Nat.add_zero] at R hp0
  have SL : ∀ w : World, (Instr.sliceAt 56 (.slice a0 n0 c0) none (some (.int .i64 ((m : Nat) : Int))) none).run Tryd.prog w = .ok (.slice p0 m c0) w := fun w => run_hslice hp0 (by omega) w
  have E := Lib.hid (Mem.nil W)
  have ISH := Lib.hid (isH_rootOf x0 m w0.is)
  have hcap : c0 * 32 ≤ 140737488351232 := m0
  have HC := Lib.hid hcap
  have EQ0 := eq_hash Tryd.underlying33 ISH.out ISH.out
  have EQ7 := eq_hash Tryd.underlying33 H7 H7
  clear hm w0 m0 R0 hp0 hL hcap
  go_enter Tryd.func6, Tryd.ntmps6
  go_wp2_with (first
    | (refine mem_known rfl (.int .i64 ((m : Nat) : Int)) _ (exec_min rfl rfl rfl rfl (by have := MIN.out; omega)) ?_)
    | (refine mem_known rfl (.slice p0 m c0) _ (exec_sl rfl (SL _)) ?_)
    | (go_at_call 26; refine (hclone_any R (by omega)).mono ?_; rintro e w1 ⟨p1, g1, c1, rfl, N1, hb⟩; have RG := Lib.hid (HRow.of N1.row R.out.is); have A := Lib.hid (E.out.call hb).below; replace R := Lib.hid (R.out.below A.out); replace KL := Lib.hid (KL.out.below A.out); clear E; have E := Lib.hid (Mem.nil w1); clear hb N1)
    | (go_at_call 27; (with_reducible refine (merkle_all (Lib.hid (RG.out.below E.out.below)) (by omega) (Lib.hid (KL.out.below E.out.below))).mono ?_); rintro e w2 ⟨rfl, hb⟩; replace E := Lib.hid (E.out.call hb); clear hb)
    | (go_at_call 28; refine (rmerkle_all (Lib.hid (R.out.below E.out.below)) (by omega)).mono ?_; rintro e w3 ⟨rfl, hb⟩; replace E := Lib.hid (E.out.call hb); clear hb)
    | (refine wpList_bld 33 _ rfl rfl (ps := #[(0, .int .u8 7)]) (by kernel_rfl) (built_lf7 7) ?_)
    | (refine wpList_vbs 56 33 32 1 rfl _ rfl (hv (fun _ => lf7 7)) (fun i _ => rfl) (by unfold maxLen; omega) (ps := #[(0, .agg (arr 32 (bv (lf (lf7 7)))))]) (by kernel_rfl) (fun W => run_bs1 Tryd.underlying56 infoHash3 (by omega) (by omega) _ (arr_size _ _) W) (one_hash _).symm ?_; intro p7 g7 w7 N7 hb; have R7 := Lib.hid (HRow.of N7.out.row (fun _ => H7)); replace E := Lib.hid (E.out.call hb.out); clear hb N7)
    | (go_at_call 27; (with_reducible refine (merkle_any R7 (by omega) (by omega) (Lib.hid (KL.out.below E.out.below))).mono ?_); rintro e w8 ⟨rfl, hb⟩; replace E := Lib.hid (E.out.call hb); rw [mroot_one (fun _ => lf7 7) (n := 1) (by omega)]; clear hb)
    | (refine mem_alloc E 33 rfl rfl infoHash ?_; clear E; intro bx wx E; simp only [arr_cells'] at E)
    | (go_at_call 29; refine (heq_any (Lib.hid (RG.out.below E.out.below)) (Lib.hid (R.out.below E.out.below)) (by omega)).mono ?_; rintro e w9 ⟨rfl, hb⟩; replace E := Lib.hid (E.out.call hb); clear hb)
    | (refine mem_load_row E 33 rfl (.tmp 4) rfl rfl (List.mem_cons_of_mem _ (List.mem_cons_of_mem _ List.mem_cons_self)) Tryd.underlying33 rfl (by simp only [arr_size]; kernel_rfl) ?_)
    | (refine mem_load_row E 33 rfl (.tmp 6) rfl rfl (List.mem_cons_of_mem _ List.mem_cons_self) Tryd.underlying33 rfl (by simp only [arr_size]; kernel_rfl) ?_)
    | (refine mem_load_row E 33 rfl (.tmp 8) rfl rfl List.mem_cons_self Tryd.underlying33 rfl (by simp only [arr_size]; kernel_rfl) ?_)
    | (refine mem_store_row 0 E 33 rfl _ _ rfl rfl rfl rfl (by kernel_rfl) (by simp only [arr_size]) (bv_one _ _) ?_; clear E; intro wy E; simp only [List.set_cons_zero, List.set_cons_succ] at E))
  go_ret
  exact ⟨rfl, A.out.trans (E.out.below.mono A.out.size)⟩

set_option maxRecDepth 100000 in
theorem lifted (os : Os) (started : os.Started) (H : Type) (enc : TypeId × Value → H) :
    ReturnsInHanded {} Tryd.checked os 6 .any (fun w args => (Rows.blockRootsSpec.pre enc Tryd.prog Tryd.f6 [] false w args ∧ laidMetH Tryd.prog S.shaLaid w) ∧ sizedMet enc Tryd.prog Tryd.f6 (OpenSpec.ofChange Rows.blockRootsSpec) false w args)
      (Rows.blockRootsSpec.post enc Tryd.prog Tryd.f6 false true false false) := by
  refine returnsInHanded_of_change_and (C := Tryd.checked) (X := fun w _ => laidMetH Tryd.prog S.shaLaid w) (fun _ _ _ hh h => h.of_heap hh) own started (by kernel_rfl) Tryd.func6
    (ChangeSpec.witness_shaped (enc := enc) (C := Tryd.checked) (os := os) (X := fun w _ => laidMetH Tryd.prog S.shaLaid w) false (World.doorLaid Tryd.prog 400 os) #[.slice none 0 0] 8 rfl (World.shaped_of_RefB (by kernel_rfl) (by kernel_rfl)) (by kernel_rfl) (by kernel_rfl) (by kernel_rfl) (S.sha_door_met os _)) ?_
  intro W base args ds gs before hval0 hW _ hsz0 hL _
  have hval : ∀ (j : Nat) t v, Tryd.f6.params[j]? = some t → args[j]? = some v → Value.okWide Tryd.prog W .any base t v := hval0
  have hsz : (DataW.weightsEach Tryd.prog (Tryd.f6.params.toList ++ Rows.blockRootsSpec.plain.varTypes Tryd.prog) (ds ++ gs)).all (· ≤ reachBytes) = true := hsz0
  have hW' := hW
  obtain ⟨p, q, hA0, hV, rfl, hfz, hnd⟩ := hW
  have hA : DataW.TrodAll enc Tryd.prog W 0 (fun _ => true) true Tryd.f6.params.toList args.toList ds p := hA0
  rw [Tryd.params6] at hA hval hsz
  obtain ⟨v0, vs0, d0, ds0, p0, q0, hargs, rfl, rfl, h0, r0⟩ := trodAll_cons hA
  obtain ⟨rfl, rfl, rfl⟩ := trodAll_nil r0
  obtain rfl : args = #[v0] := by cases args; simp_all
  obtain ⟨rfl, rfl⟩ := trodVars_none hV
  have k0 := h0
  have lt0 : ∀ x ∈ p0, x.block < W.heap.size := by obtain ⟨m, hm⟩ := k0; exact DataW.trod_lt m _ _ _ hm
  obtain ⟨a0, g0, o0, n0, c0, x0, rfl, w0, m0⟩ := open_hashes (j := 0) (hval 0 56 v0 rfl rfl) h0 hsz rfl rfl
  clear hA0 hval0 hsz0
  simp only [List.append_nil] at hW'
  refine (walk W hL a0 g0 o0 n0 c0 x0 w0 m0).mono fun e W' ⟨he, bel⟩ => ?_
  subst he
  exact ⟨_, rfl, _, _, _, [], _, [], hW', trodAll_mk1 (shut_bool Tryd.underlying4 _), (trodAll_cons_mk (Below.trod laidOut (by kernel_rfl) (of_decide_eq_true (by kernel_rfl)) k0 bel lt0) trodAll_mk0), rfl, bel.frame _, fun h => by cases h⟩

theorem over : Rows.BlockRootsSaid :=
  OpenClaim.holds_of_wide 6 Tryd.f6 rfl rfl rfl rfl rfl rfl rfl ⟨rfl, rfl, rfl, rfl, rfl⟩ rfl rfl rfl rfl rfl (by kernel_rfl) Tryd.func6 (by kernel_rfl)
    (of_decide_eq_true (by kernel_rfl)) (by unfold Func.isWrapper; first | (rw [if_pos (by decide +kernel)]; kernel_rfl) | (rw [if_neg (by decide +kernel)]; exact ⟨rfl, rfl⟩))
    (fun os started H enc _ => lifted os started H enc)

/-- The tied card. -/
theorem card_holds : Rows.BlockRootsCardSaid :=
  Claim7.holds_tied_plain_at .later [] [.data, .data] true (true, "7ccba953929a0e641241f0409568356732a9483e623cf9ba9616743207be038d") false
    over (fun _ h => by cases h) (by kernel_rfl) (fun _ h => by cases h) blockRoots_row_tie rfl ⟨rfl, rfl⟩ (by kernel_rfl) rfl
    (fun f fn hf hfn => by
      obtain rfl : f = 6 := Option.some.inj ((show Tryd.prog.funcNamed "sporran/sporranlaw08.BlockRoots" = some 6 by kernel_rfl).symm.trans hf) |>.symm
      obtain rfl : fn = Tryd.f6 := (Option.some.inj (Tryd.func6.symm.trans hfn)).symm
      exact ⟨by kernel_rfl, fun j t ht => by
        rw [Tryd.params6] at ht
        have hm : t ∈ [56] := by simpa using Array.mem_of_getElem? ht
        have hall : ([56].all fun u => !Tryd.prog.wantsStandIn u) = true := by kernel_rfl
        exact (show Tryd.prog.wantsStandIn t = false by simpa using List.all_eq_true.1 hall t hm)⟩)
    (by kernel_rfl)
#print axioms card_holds
end Go.Proofs.YtbgaponminodhaaDoor.blockRoots
