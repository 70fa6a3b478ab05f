/- For every slice of hashes (nil too), of which the law keeps the first 200: if their number is no power of two, the hashes with the last ones written once more have the same root, and the program tells that it may be of others; else the root of one hash is it, of no others; the call returns true. The two tables of package sha are laid as the program's text lays them; the card ties them to that text. No other condition. -/
import Derived.Test.YtbgaponminodhaaDoorTw
import Derived.Test.YtbgaponminodhaaDoorSSame
import Derived.Test.YtbgaponminodhaaDoorTie
import Derived.Test.YtbgaponminodhaaDoorCards
import Derived.ShutString
import Derived.ChangeOld
import Derived.Below
import Derived.SevenTiedAt
set_option linter.unusedVariables false
set_option linter.unusedSimpArgs false
namespace Go.Proofs.YtbgaponminodhaaDoor.blockTwice
open Go.ChangeShapes Go.WideShapes Go.ChangeAt Go.RowKit Go.Lib Go.Sort Go.Proofs.YtbgaponminodhaaDoor

set_option maxRecDepth 100000 in
set_option maxHeartbeats 8000000 in
theorem walk (W : World) (hL : laidMetH Tryd.prog S.shaLaid W) (a0 : Option Addr) (g0 o0 n0 c0 : Nat) (x0 : Nat → List Nat) (w0 : HRow W a0 g0 o0 n0 c0 x0) (m0 : c0 * 32 ≤ 140737488351232) :
    Calls Tryd.prog 7 #[.slice a0 n0 c0] W fun e w' => e = .returned (.bool true) ∧ Below W.heap.size W w' := by
  have KL := Lib.hid (show S.Both W from S.of_sha hL)
  have le := w0.row.le
  obtain ⟨m, hm⟩ : ∃ m, m = min n0 200 := ⟨_, rfl⟩
  have hm1 : m ≤ n0 := by omega
  have hm2 : m ≤ 200 := by omega
  have MIN : Hid (min n0 200 = m) := Lib.hid hm.symm
  have H9 : IsH (lf7 9) := isH_lf7 9 (by omega)
  obtain ⟨p0, hp0, R0⟩ := w0.row.slice (l := 0) (h := m) (m := c0) (by omega) hm1 (by omega) (Nat.le_refl _)
  have R := Lib.hid (HRow.of (R0.to (U := hv x0) fun i _ => by rw [Nat.zero_mul, Nat.zero_add]) w0.is)
  simp only [Nat.sub_zero, Nat.zero_mul, Nat.add_zero] at R hp0
  have SL : ∀ w : World, (Instr.sliceAt 56 (.slice a0 n0 c0) none (some (.int .i64 ((m : Nat) : Int))) none).run Tryd.prog w = .ok (.slice p0 m c0) w := fun w => run_hslice hp0 (by omega) w
  have E := Lib.hid (Mem.nil W)
  have ISX := Lib.hid w0.is
  have HC := Lib.hid m0
  have EQ9 := eq_hash Tryd.underlying33 H9 H9
  have hc3 : m ≤ c0 := by omega
  clear hm w0 m0 R0 hp0 hL
  go_enter Tryd.func7, Tryd.ntmps7
  go_wp2_with (first
    | (refine mem_known rfl (.int .i64 ((m : Nat) : Int)) _ (exec_min rfl rfl rfl rfl (by have := MIN.out; omega)) ?_)
    | (refine mem_known rfl (.slice p0 m c0) _ (exec_sl rfl (SL _)) ?_))
  clear SL MIN
  go_loopg [3] m (fun k s wr => ∃ e n : Nat, s = .int .i64 (n : Int) ∧ m = 2 ^ e * n ∧ n ≤ k ∧ Hid (Mem W [] wr))
  case atStart => exact ⟨0, m, rfl, by rw [Nat.pow_zero, Nat.one_mul], Nat.le_refl _, E⟩
  case round =>
    clear E
    obtain ⟨e, n, rfl, hmn, hk, E⟩ := hrel
    obtain ⟨kk, rfl⟩ : ∃ kk : Nat, kk = gk := ⟨_, rfl⟩
    have MN := Lib.hid hmn
    have hnm : n ≤ m := by rw [hmn]; exact Nat.le_mul_of_pos_left n (Nat.two_pow_pos e)
    clear hmn
    by_cases h1 : 1 < n
    · have hlt : (1 : Int) < (n : Int) := by omega
      rcases Nat.mod_two_eq_zero_or_one n with hev | hodd
      · have hr : (n : Int).tmod 2 = 0 := by rw [Int.tmod_eq_emod_of_nonneg (by omega)]; omega
        have hq : (n : Int).tdiv 2 = ((n / 2 : Nat) : Int) := by rw [Int.tdiv_eq_ediv_of_nonneg (by omega)]; omega
        have MN2 := Lib.hid (show m = 2 ^ (e + 1) * (n / 2) by rw [MN.out, Nat.pow_succ, Nat.mul_assoc, show 2 * (n / 2) = n by omega])
        go_wp2
        go_roundg (n / 2)
        case measure => omega
        case rel => exact ⟨e + 1, n / 2, by first | go_num | (congr 1; unfold wrap64; omega), MN2.out, Nat.le_refl _, E⟩
      · have hr : (n : Int).tmod 2 = 1 := by rw [Int.tmod_eq_emod_of_nonneg (by omega)]; omega
        obtain ⟨w, hw⟩ : ∃ w, w = 2 ^ e := ⟨_, rfl⟩
        have hw0 : 0 < w := by rw [hw]; exact Nat.two_pow_pos e
        have mw : m = w * n := by rw [hw]; exact MN.out
        have hwm : w ≤ m := by rw [mw]; exact Nat.le_mul_of_pos_right w (by omega)
        have hm3 : 1 < m := by rw [mw]; exact Nat.lt_of_lt_of_le h1 (Nat.le_mul_of_pos_left n hw0)
        have hq : (m : Int).tdiv (n : Int) = ((w : Nat) : Int) := by rw [Int.tdiv_eq_ediv_of_nonneg (by omega), mw]; rw [show ((w * n : Nat) : Int) = (w : Int) * (n : Int) by simp, Int.mul_ediv_cancel _ (by omega)]
        have TWX := Lib.hid (show (mroot (ext x0 m w) (m + w)).1 = (mroot x0 m).1 ∧ (mroot (ext x0 m w) (m + w)).2 = true by
          have := twice n hodd (by omega) e x0
          rwa [← hw, ← mw] at this)
        have hn0 : (n : Int) ≠ 0 := by omega
        have hn0' : ¬ ((n : Int) = 0) := by omega
        have hc := HC.out
        have EQM := eq_hash Tryd.underlying33 (isH_root x0 ISX.out m m) (isH_root x0 ISX.out m m)
        change ∀ w : World, (Op.equalIn 10000 33 (.agg (arr 32 (bv (lf (mroot x0 m).1)))) (.agg (arr 32 (bv (lf (mroot x0 m).1))))).run Tryd.prog w = _ at EQM
        obtain ⟨pL, hpL, RL0⟩ := R.out.row.slice (l := m - w) (h := m) (m := c0) (by omega) (Nat.le_refl _) (by omega) (Nat.le_refl _)
        have ew : m - (m - w) = w := by omega
        have SLL := Lib.hid (run_hslice_l hpL (by omega))
        rw [ew] at SLL RL0
        have RL := Lib.hid RL0
        clear ew hpL RL0 mw hw MN hk
        go_upto_region 9 with fail
        refine wp_region_memS (S := fun _ => True) E (by kernel_rfl) ?_
        clear E
        intro wx E1
        refine hm_run 0 47 _ rfl rfl (by kernel_rfl) (by kernel_rfl) (by kernel_rfl) (fun _ _ _ h => h) rfl (fun _ _ => rfl) trivial ?_
        try simp only [Act.put, List.getElem_toArray, List.getElem_cons_succ, List.getElem_cons_zero, List.setIfInBounds_toArray, List.set_cons_zero, List.set_cons_succ]
        refine hm_run 2 49 _ rfl rfl (by kernel_rfl) (by kernel_rfl) (by kernel_rfl) (fun _ _ _ h => h) rfl (fun _ _ => rfl) trivial ?_
        try simp only [Act.put, List.getElem_toArray, List.getElem_cons_succ, List.getElem_cons_zero, List.setIfInBounds_toArray, List.set_cons_zero, List.set_cons_succ]
        refine hm_run 3 50 _ rfl rfl (by kernel_rfl) (by kernel_rfl) (by kernel_rfl) (fun _ _ _ h => h) rfl (fun _ _ => rfl) trivial ?_
        try simp only [Act.put, List.getElem_toArray, List.getElem_cons_succ, List.getElem_cons_zero, List.setIfInBounds_toArray, List.set_cons_zero, List.set_cons_succ]
        refine hm_run 4 51 (.int .i64 ((m : Nat) : Int)) rfl rfl (by kernel_rfl) (by kernel_rfl) (by kernel_rfl) (fun _ _ _ h => h) rfl (fun W _ => exec_len Tryd.underlying56 rfl rfl) trivial ?_
        try simp only [Act.put, List.getElem_toArray, List.getElem_cons_succ, List.getElem_cons_zero, List.setIfInBounds_toArray, List.set_cons_zero, List.set_cons_succ]
        refine hm_run 5 52 _ rfl rfl (by kernel_rfl) (by kernel_rfl) (by kernel_rfl) (fun _ _ _ h => h) rfl (fun _ _ => rfl) trivial ?_
        try simp only [Act.put, List.getElem_toArray, List.getElem_cons_succ, List.getElem_cons_zero, List.setIfInBounds_toArray, List.set_cons_zero, List.set_cons_succ]
        refine hm_run 6 53 (.int .i64 ((m - w : Nat) : Int)) rfl rfl (by kernel_rfl) (by kernel_rfl) (by kernel_rfl) (fun _ _ _ h => h) rfl (fun W _ => exec_sub rfl rfl rfl (by rw [IntKind.wrap_i64]; omega)) trivial ?_
        try simp only [Act.put, List.getElem_toArray, List.getElem_cons_succ, List.getElem_cons_zero, List.setIfInBounds_toArray, List.set_cons_zero, List.set_cons_succ]
        refine hm_run 7 54 (.slice pL w (c0 - (m - w))) rfl rfl (by kernel_rfl) (by kernel_rfl) (by kernel_rfl) (fun _ _ _ h => h) rfl (fun W _ => exec_sl rfl (SLL.out W)) trivial ?_
        try simp only [Act.put, List.getElem_toArray, List.getElem_cons_succ, List.getElem_cons_zero, List.setIfInBounds_toArray, List.set_cons_zero, List.set_cons_succ]
        refine hm_one (i := 1) (by kernel_rfl) ?_
        refine hm_step 1 rfl (by kernel_rfl) fun K hK => ?_
        try simp only [Act.put, List.getElem_toArray, List.getElem_cons_succ, List.getElem_cons_zero, List.setIfInBounds_toArray, List.set_cons_zero, List.set_cons_succ]
        go_simp
        go_at_call 26
        refine (hclone_any (Lib.hid (R.out.below E1.out.below)) (by omega)).mono ?_
        rintro e w3 ⟨p3, g3, c3, rfl, N3, hb3⟩
        have E7_1 := Lib.hid (E1.out.call hb3)
        have NN3 := Lib.hid (N3.mono E1.out.below.size)
        clear hb3 N3
        refine hK _ _ trivial ?_
        clear hK K
        try simp only [Act.put, List.getElem_toArray, List.getElem_cons_succ, List.getElem_cons_zero, List.setIfInBounds_toArray, List.set_cons_zero, List.set_cons_succ]
        refine hm_one (i := 8) (by kernel_rfl) ?_
        refine hm_step 8 rfl (by kernel_rfl) fun K hK => ?_
        try simp only [Act.put, List.getElem_toArray, List.getElem_cons_succ, List.getElem_cons_zero, List.setIfInBounds_toArray, List.set_cons_zero, List.set_cons_succ]
        refine mo_vapp 56 33 32 32 Tryd.underlying56 infoHash3 rfl (by omega) (.tmp 48) (.tmp 54) rfl rfl NN3 rfl (Lib.hid (RL.out.below E7_1.out.below)) (by unfold maxLen; omega) (by omega) ?_
        intro p4 g4 c4 w4 N4 hg4
        have B4 := Lib.hid (E7_1.out.below.trans (NN3.out.under hg4.out (Nat.le_refl _) (E7_1.out.below.size)))
        have E8_8 := E7_1
        clear hg4 NN3
        refine hK _ _ trivial ?_
        clear hK K
        try simp only [Act.put, List.getElem_toArray, List.getElem_cons_succ, List.getElem_cons_zero, List.setIfInBounds_toArray, List.set_cons_zero, List.set_cons_succ]
        refine hm_run 9 7 _ rfl rfl (by kernel_rfl) (by kernel_rfl) (by kernel_rfl) (fun _ _ _ h => h) rfl (fun _ _ => rfl) trivial ?_
        try simp only [Act.put, List.getElem_toArray, List.getElem_cons_succ, List.getElem_cons_zero, List.setIfInBounds_toArray, List.set_cons_zero, List.set_cons_succ]
        refine wpAnyH_done (by kernel_rfl) ?_ _
        have RX := Lib.hid (HRow.of (N4.out.row.to (ext_cells x0 m w hwm)) (isH_ext ISX.out m w))
        clear N4
        replace R := Lib.hid (R.out.below B4.out)
        replace KL := Lib.hid (KL.out.below B4.out)
        have E := Lib.hid (Mem.nil w4)
        go_wp2_with (first
          | (go_at_call 27; (with_reducible refine (merkle_any (Lib.hid (R.out.below E.out.below)) (by omega) (by omega) (Lib.hid (KL.out.below E.out.below))).mono ?_); rintro e w5 ⟨rfl, hb⟩; replace E := Lib.hid (E.out.call hb); clear hb)
          | (go_at_call 27; (with_reducible refine (merkle_any (Lib.hid (RX.out.below E.out.below)) (by omega) (by omega) (Lib.hid (KL.out.below E.out.below))).mono ?_); rintro e w6 ⟨rfl, hb⟩; rw [TWX.out.1, TWX.out.2]; replace E := Lib.hid (E.out.call hb); clear hb)
          | (refine mem_alloc E 33 rfl rfl infoHash ?_; clear E; intro bx wx E; simp only [arr_cells'] at E)
          | (refine mem_store_row 0 E 33 rfl _ _ rfl rfl rfl rfl (by kernel_rfl) (by simp only [arr_size]) (bv_one _ _) ?_; clear E; intro wy E; simp only [List.set_cons_zero, List.set_cons_succ] at E)
          | (refine mem_load_row E 33 rfl (.tmp 8) rfl rfl (List.mem_cons_of_mem _ List.mem_cons_self) Tryd.underlying33 rfl (by simp only [arr_size]; kernel_rfl) ?_)
          | (refine mem_load_row E 33 rfl (.tmp 10) rfl rfl List.mem_cons_self Tryd.underlying33 rfl (by simp only [arr_size]; kernel_rfl) ?_))
        go_ret
        exact ⟨rfl, B4.out.trans (E.out.below.mono B4.out.size)⟩
    · have hlt : ¬ ((1 : Int) < (n : Int)) := by omega
      have h2 : (n : Int) < 2 := by omega
      go_wp2_with (first
        | (refine wpList_bld 33 _ rfl rfl (ps := #[(0, .int .u8 9)]) (by kernel_rfl) (built_lf7 9) ?_)
        | (refine wpList_vbs 56 33 32 1 rfl _ rfl (hv (fun _ => lf7 9)) (fun i _ => rfl) (by unfold maxLen; omega) (ps := #[(0, .agg (arr 32 (bv (lf (lf7 9)))))]) (by kernel_rfl) (fun W => run_bs1 Tryd.underlying56 infoHash3 (by omega) (by omega) _ (arr_size _ _) W) (one_hash _).symm ?_; intro p7 g7 w7 N7 hb; have R7 := Lib.hid (HRow.of N7.out.row (fun _ => H9)); replace E := Lib.hid (E.out.call hb.out); clear hb N7)
        | (go_at_call 27; (with_reducible refine (merkle_any R7 (by omega) (by omega) (Lib.hid (KL.out.below E.out.below))).mono ?_); rintro e w8 ⟨rfl, hb⟩; replace E := Lib.hid (E.out.call hb); rw [mroot_one (fun _ => lf7 9) (n := 1) (by omega)]; clear hb)
        | (refine mem_alloc E 33 rfl rfl infoHash ?_; clear E; intro bx wx E; simp only [arr_cells'] at E)
        | (refine mem_load_row E 33 rfl (.tmp 4) rfl rfl List.mem_cons_self Tryd.underlying33 rfl (by simp only [arr_size]; kernel_rfl) ?_)
        | (refine mem_store_row 0 E 33 rfl _ _ rfl rfl rfl rfl (by kernel_rfl) (by simp only [arr_size]) (bv_one _ _) ?_; clear E; intro wy E; simp only [List.set_cons_zero, List.set_cons_succ] at E))
      go_ret
      exact ⟨rfl, E.out.below⟩

set_option maxRecDepth 100000 in
theorem lifted (os : Os) (started : os.Started) (H : Type) (enc : TypeId × Value → H) :
    ReturnsInHanded {} Tryd.checked os 7 .any (fun w args => (Rows.blockTwiceSpec.pre enc Tryd.prog Tryd.f7 [] false w args ∧ laidMetH Tryd.prog S.shaLaid w) ∧ sizedMet enc Tryd.prog Tryd.f7 (OpenSpec.ofChange Rows.blockTwiceSpec) false w args)
      (Rows.blockTwiceSpec.post enc Tryd.prog Tryd.f7 false true false false) := by
  refine returnsInHanded_of_change_and (C := Tryd.checked) (X := fun w _ => laidMetH Tryd.prog S.shaLaid w) (fun _ _ _ hh h => h.of_heap hh) own started (by kernel_rfl) Tryd.func7
    (ChangeSpec.witness_shaped (enc := enc) (C := Tryd.checked) (os := os) (X := fun w _ => laidMetH Tryd.prog S.shaLaid w) false (World.doorLaid Tryd.prog 400 os) #[.slice none 0 0] 8 rfl (World.shaped_of_RefB (by kernel_rfl) (by kernel_rfl)) (by kernel_rfl) (by kernel_rfl) (by kernel_rfl) (S.sha_door_met os _)) ?_
  intro W base args ds gs before hval0 hW _ hsz0 hL _
  have hval : ∀ (j : Nat) t v, Tryd.f7.params[j]? = some t → args[j]? = some v → Value.okWide Tryd.prog W .any base t v := hval0
  have hsz : (DataW.weightsEach Tryd.prog (Tryd.f7.params.toList ++ Rows.blockTwiceSpec.plain.varTypes Tryd.prog) (ds ++ gs)).all (· ≤ reachBytes) = true := hsz0
  have hW' := hW
  obtain ⟨p, q, hA0, hV, rfl, hfz, hnd⟩ := hW
  have hA : DataW.TrodAll enc Tryd.prog W 0 (fun _ => true) true Tryd.f7.params.toList args.toList ds p := hA0
  rw [Tryd.params7] at hA hval hsz
  obtain ⟨v0, vs0, d0, ds0, p0, q0, hargs, rfl, rfl, h0, r0⟩ := trodAll_cons hA
  obtain ⟨rfl, rfl, rfl⟩ := trodAll_nil r0
  obtain rfl : args = #[v0] := by cases args; simp_all
  obtain ⟨rfl, rfl⟩ := trodVars_none hV
  have k0 := h0
  have lt0 : ∀ x ∈ p0, x.block < W.heap.size := by obtain ⟨m, hm⟩ := k0; exact DataW.trod_lt m _ _ _ hm
  obtain ⟨a0, g0, o0, n0, c0, x0, rfl, w0, m0⟩ := open_hashes (j := 0) (hval 0 56 v0 rfl rfl) h0 hsz rfl rfl
  clear hA0 hval0 hsz0
  simp only [List.append_nil] at hW'
  refine (walk W hL a0 g0 o0 n0 c0 x0 w0 m0).mono fun e W' ⟨he, bel⟩ => ?_
  subst he
  exact ⟨_, rfl, _, _, _, [], _, [], hW', trodAll_mk1 (shut_bool Tryd.underlying4 _), (trodAll_cons_mk (Below.trod laidOut (by kernel_rfl) (of_decide_eq_true (by kernel_rfl)) k0 bel lt0) trodAll_mk0), rfl, bel.frame _, fun h => by cases h⟩

theorem over : Rows.BlockTwiceSaid :=
  OpenClaim.holds_of_wide 7 Tryd.f7 rfl rfl rfl rfl rfl rfl rfl ⟨rfl, rfl, rfl, rfl, rfl⟩ rfl rfl rfl rfl rfl (by kernel_rfl) Tryd.func7 (by kernel_rfl)
    (of_decide_eq_true (by kernel_rfl)) (by unfold Func.isWrapper; first | (rw [if_pos (by decide +kernel)]; kernel_rfl) | (rw [if_neg (by decide +kernel)]; exact ⟨rfl, rfl⟩))
    (fun os started H enc _ => lifted os started H enc)

/-- The tied card. -/
theorem card_holds : Rows.BlockTwiceCardSaid :=
  Claim7.holds_tied_plain_at .later [] [.data, .data] true (true, "7ccba953929a0e641241f0409568356732a9483e623cf9ba9616743207be038d") false
    over (fun _ h => by cases h) (by kernel_rfl) (fun _ h => by cases h) blockTwice_row_tie rfl ⟨rfl, rfl⟩ (by kernel_rfl) rfl
    (fun f fn hf hfn => by
      obtain rfl : f = 7 := Option.some.inj ((show Tryd.prog.funcNamed "sporran/sporranlaw08.BlockTwice" = some 7 by kernel_rfl).symm.trans hf) |>.symm
      obtain rfl : fn = Tryd.f7 := (Option.some.inj (Tryd.func7.symm.trans hfn)).symm
      exact ⟨by kernel_rfl, fun j t ht => by
        rw [Tryd.params7] at ht
        have hm : t ∈ [56] := by simpa using Array.mem_of_getElem? ht
        have hall : ([56].all fun u => !Tryd.prog.wantsStandIn u) = true := by kernel_rfl
        exact (show Tryd.prog.wantsStandIn t = false by simpa using List.all_eq_true.1 hall t hm)⟩)
    (by kernel_rfl)
#print axioms card_holds
end Go.Proofs.YtbgaponminodhaaDoor.blockTwice
