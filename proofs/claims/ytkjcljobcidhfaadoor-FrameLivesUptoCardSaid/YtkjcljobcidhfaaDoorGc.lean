/- The frame at the beginning of bytes, the program's: a whole one. -/
import Derived.Test.YtkjcljobcidhfaaDoorGb
set_option linter.unusedSimpArgs false
set_option linter.unusedVariables false
set_option maxRecDepth 100000
namespace Go.Proofs.YtkjcljobcidhfaaDoor
open Go.RowKit Go.Lib Go.Sort

theorem nb_fr (b2 : Nat) : ∀ q, q ∈ [((b2, 42, fr0) : Nat × TypeId × Array Value)] → q.2.1 ≠ 5 := fun q hq => by
  obtain rfl := List.mem_singleton.1 hq
  show 42 ≠ 5
  decide
theorem load_r4 {w : World} {g o n c : Nat} {x : Nat → Nat} {p : Option Addr} (R : Row w p g o n c x) (h : 4 ≤ n) : (Instr.loadAt 67 (.pointer (some ⟨g, o, none⟩))).run Tryd.prog w = .ok (.agg (arr 4 (bv x))) w := by
  have hr : w.rangeAt g o (arr 4 (bv x)).toList := fun j v hj => by
    have hj4 : j < 4 := by
      have := (List.getElem?_eq_some_iff.1 hj).1
      rw [Array.length_toList, arr_size] at this
      exact this
    rw [Array.getElem?_toList, arr_get 4 _ j hj4] at hj
    obtain rfl := Option.some.inj hj
    exact R.cell j (by omega)
  simpa using run_loadAt_mid (P := Tryd.prog) w g o 67 (arr 4 (bv x)).toList _ hr Tryd.underlying67 rfl (by rw [Array.length_toList, arr_size]; kernel_rfl)

set_option maxHeartbeats 8000000 in
theorem first_sum {W : World} {p p0 p24 p4 p16 : Option Addr} {n c c0 c4 c24 g24 o24 g20 o20 c20 k0 c16 L k m : Nat} {s : ByteArray} (h : 24 ≤ n) {pay : List Nat} {y20 : Nat → Nat}
    (S4 : Hid (∀ W', (Instr.sliceAt 26 (.slice p n c) (some (.int .i64 4)) (some (.int .i64 16)) none).run Tryd.prog W' = .ok (.slice p4 12 c4) W'))
    (T4 : Hid (∀ w', Below W.heap.size W w' → Calls Tryd.prog 29 #[.slice p4 12 c4, .string ⟨#[0]⟩] w' fun e w'' => e = .returned (.slice p4 k c4) ∧ w' = w''))
    (V4 : Hid (∀ w', Below W.heap.size W w' → (convert 26 9 (.slice p4 k c4)).run Tryd.prog w' = .ok (.string s) w'))
    (S0 : Hid (∀ W', (Instr.sliceAt 26 (.slice p n c) none (some (.int .i64 4)) none).run Tryd.prog W' = .ok (.slice p0 4 c0) W'))
    (N0 : Hid (∀ w', Below W.heap.size W w' → Calls Tryd.prog 30 #[.slice p0 4 c0] w' fun e w'' => e = .returned (.int .u64 (m : Int)) ∧ w' = w''))
    (I : Hid (∀ w', Calls Tryd.prog 26 #[.string s] w' fun e w'' => e = .returned (.bool true) ∧ Below w'.heap.size w' w'')) (hm : m = 3652501241)
    (S16 : Hid (∀ W', (Instr.sliceAt 26 (.slice p n c) (some (.int .i64 16)) (some (.int .i64 20)) none).run Tryd.prog W' = .ok (.slice p16 4 c16) W'))
    (N16 : Hid (∀ w', Below W.heap.size W w' → Calls Tryd.prog 30 #[.slice p16 4 c16] w' fun e w'' => e = .returned (.int .u64 (L : Int)) ∧ w' = w'')) (hl : L ≤ 200000) (hw : 24 + L ≤ n) (hlp : L = pay.length)
    (S24 : Hid (∀ W', (Instr.sliceAt 26 (.slice p n c) (some (.int .i64 24)) (some (.int .i64 ((24 + L : Nat) : Int))) none).run Tryd.prog W' = .ok (.slice p24 L c24) W'))
    (R24 : Hid (Row W p24 g24 o24 L c24 (lf pay)))
    (S20 : Hid (∀ W', (Instr.sliceAt 26 (.slice p n c) (some (.int .i64 20)) (some (.int .i64 24)) none).run Tryd.prog W' = .ok (.slice (some ⟨g20, o20, none⟩) 4 c20) W'))
    (R20 : Hid (Row W (some ⟨g20, o20, none⟩) g20 o20 4 c20 y20))
    (EQ : Hid (∀ W', (Op.equalIn 10000 67 (.agg (arr 4 (bv (lf (dbl pay))))) (.agg (arr 4 (bv y20)))).run Tryd.prog W' = .ok false W'))
    (LL : Hid (S.Both W)) : Calls Tryd.prog 18 #[.slice p n c] W (FirstEnd W (.bad 92)) := by
  have E := Lib.hid (Mem.nil W)
  have HL := Lib.hid (show decide ((n : Int) < 24) = false from decide_eq_false (by omega))
  clear h
  have HM := Lib.hid (show decide ((m : Int) = 3652501241) = !false from decide_eq_true (by omega))
  clear hm
  have HG := Lib.hid (show decide ((200000 : Int) < (L : Int)) = false from decide_eq_false (by omega))
  have HG2 := Lib.hid (show (L : Int) ≤ 9223372036854775807 by omega)
  have HG3 := Lib.hid (show IntKind.i64.wrap ((24 : Int) + (L : Int)) = ((24 + L : Nat) : Int) by rw [IntKind.wrap_i64]; omega)
  have HW := Lib.hid (show decide ((n : Int) < ((24 + L : Nat) : Int)) = false from decide_eq_false (by omega))
  have HG4 := Lib.hid hl
  have HLL := Lib.hid hlp
  have NB := Lib.hid nb_fr
  clear hl hw hlp
  go_enter Tryd.func18, Tryd.ntmps18
  go_upto_region 13 with (first
      | (refine mem_alloc E 42 rfl rfl infoFr ?_; clear E; intro b2 w2 E2; have E := Lib.hid (show Mem W [(b2, 42, fr0)] w2 from E2.out); clear E2)
      | ((with_reducible refine wpList_at 11 rfl ?_); refine wpList_kn rfl (.bool false) (by exact exec_lssi rfl rfl rfl HL.out) ?_)
      | ((with_reducible refine wpList_at 14 rfl ?_); refine wpList_kn rfl (.slice p4 12 c4) (by exact exec_sl rfl (S4.out _)) ?_)
      | (go_at_call 29; (with_reducible refine (T4.out _ E.out.below).mono ?_); rintro e w4 ⟨rfl, rfl⟩)
      | ((with_reducible refine wpList_at 16 rfl ?_); refine wpList_kn rfl (.string s) (by exact exec_cvs rfl (V4.out _ E.out.below)) ?_)
      | ((with_reducible refine wpList_at 18 rfl ?_); refine wpList_kn rfl (.slice p0 4 c0) (by exact exec_sl rfl (S0.out _)) ?_)
      | (go_at_call 30; (with_reducible refine (N0.out _ E.out.below).mono ?_); rintro e w4 ⟨rfl, rfl⟩)
      | ((with_reducible refine wpList_at 20 rfl ?_); refine wpList_kn rfl (.bool false) (by exact exec_neq64 rfl rfl rfl HM.out) ?_)
      | (go_at_call 26; refine (I.out _).mono ?_; rintro e w4 ⟨rfl, hb⟩; replace E := Lib.hid (E.out.call hb); clear hb)
      | ((with_reducible refine wpList_at 28 rfl ?_); refine wpList_kn rfl (.slice p16 4 c16) (by exact exec_sl rfl (S16.out _)) ?_)
      | (go_at_call 30; (with_reducible refine (N16.out _ E.out.below).mono ?_); rintro e w4 ⟨rfl, rfl⟩)
      | ((with_reducible refine wpList_at 31 rfl ?_); refine wpList_kn rfl (.bool false) (by exact exec_gtr64 rfl rfl rfl HG.out) ?_)
      | ((with_reducible refine wpList_at 34 rfl ?_); refine wpList_kn rfl (.int .i64 (L : Int)) (by exact exec_cvi rfl rfl HG2.out) ?_)
      | ((with_reducible refine wpList_at 35 rfl ?_); refine wpList_kn rfl (.int .i64 ((24 + L : Nat) : Int)) (by exact exec_add rfl rfl rfl HG3.out) ?_)
      | ((with_reducible refine wpList_at 39 rfl ?_); refine wpList_kn rfl (.bool false) (by exact exec_lssi rfl rfl rfl HW.out) ?_)
      | ((with_reducible refine wpList_at 43 rfl ?_); refine wpList_kn rfl (.slice p24 L c24) (by exact exec_sl rfl (S24.out _)) ?_)
      | ((with_reducible refine wpList_at 44 rfl ?_); refine wpList_wb rfl (.const (.slice none 0 0)) (.tmp 43) rfl (Lib.hid (Wb.none E.out (NB.out _))) rfl rfl rfl (Lib.hid (R24.out.below E.out.below)) (by have := HG4.out; (try simp only [List.length_nil]); omega) ?_; intro p8 g8 c8 w8 z8 Z8 K8))
  have e8 : z8 = pay := by rw [Z8.out, List.nil_append, HLL.out, tl_lf]
  clear Z8
  subst e8
  clear E
  have K := K8
  clear K8
  have SM := Lib.hid (show ∀ w', Below w8.heap.size w8 w' → Calls Tryd.prog 28 #[.slice p8 z8.length c8] w' fun e w'' => e = .returned (.agg (arr 4 (bv (lf (dbl z8))))) ∧ Below w'.heap.size w' w'' from fun w' hb => sumof_l (Lib.hid (K.out.row.below hb)) (by have := HLL.out; have := HG4.out; omega) (Lib.hid (LL.out.below (K.out.mem.call hb).below)))
  have R20' := Lib.hid (R20.out.below K.out.mem.below)
  refine wp_region_quiet_below (by kernel_rfl) (by kernel_rfl) ?_
  quiet_step (fail)
  quiet_step (exact Calls.regrown_of (SM.out _ (below_regrown _ _ _)))
  quiet_step (fail)
  refine wpQuiet_pure (.slice (some ⟨g20, o20, none⟩) 4 c20) rfl (fun w => exec_sl rfl (S20.out w)) ?_
  refine wpQuiet_pure (.pointer (some ⟨g20, o20, none⟩)) rfl (fun w => exec_arr rfl (run_arr4 _ _ _ (by omega) w)) ?_
  refine wpQuiet_load_at 67 (.tmp 49) rfl rfl _ rfl (.agg (arr 4 (bv y20))) (fun w3 hC => by obtain ⟨pz, rfl⟩ := hC; exact load_r4 (R20'.out.below (below_regrown w8 pz.d pz.os)) (by omega)) ?_
  refine wpQuiet_pure (.bool (!false)) rfl (fun w => exec_neqA rfl rfl rfl (by kernel_rfl) (EQ.out w)) ?_
  refine wpQuiet_nil ?_
  intro _ hw'
  obtain ⟨⟨dq, osq⟩, hw''⟩ := hw'
  subst hw''
  replace K := Lib.hid (K.out.call (below_regrown w8 dq osq))
  clear SM R20' R20 R24 EQ
  simp only [Bool.not_true, Bool.not_false]
  go_wp2_with (first
      | ((with_reducible refine wpList_at 52 rfl ?_); refine wpList_bld 42 _ rfl rfl (ps := #[]) (by kernel_rfl) built_fr0 ?_)
      | ((with_reducible refine wpList_atn rfl ?_); refine wb_store_row 0 K 42 rfl (.tmp 2) (.tmp 52) rfl rfl rfl rfl (by kernel_rfl) rfl fr0_one ?_; clear K; intro w9 K9; have K := Lib.hid (show Wb W [(b2, 42, fr0)] p8 g8 c8 z8 w9 from K9.out); clear K9))
  exact bodyPost_ret (res_ctt (fn := Tryd.f18) rfl _ _ _ rfl (K.out.mem.get List.mem_cons_self) Tryd.underlying42 rfl (by kernel_rfl)) rfl ⟨K.out.mem.below, rfl⟩

set_option maxHeartbeats 8000000 in
theorem first_good {W : World} {p p0 p24 p4 p16 : Option Addr} {n c c0 c4 c24 g24 o24 g20 o20 c20 k0 c16 L k m : Nat} {s : ByteArray} (h : 24 ≤ n) {pay : List Nat} {y20 : Nat → Nat}
    (S4 : Hid (∀ W', (Instr.sliceAt 26 (.slice p n c) (some (.int .i64 4)) (some (.int .i64 16)) none).run Tryd.prog W' = .ok (.slice p4 12 c4) W'))
    (T4 : Hid (∀ w', Below W.heap.size W w' → Calls Tryd.prog 29 #[.slice p4 12 c4, .string ⟨#[0]⟩] w' fun e w'' => e = .returned (.slice p4 k c4) ∧ w' = w''))
    (V4 : Hid (∀ w', Below W.heap.size W w' → (convert 26 9 (.slice p4 k c4)).run Tryd.prog w' = .ok (.string s) w'))
    (S0 : Hid (∀ W', (Instr.sliceAt 26 (.slice p n c) none (some (.int .i64 4)) none).run Tryd.prog W' = .ok (.slice p0 4 c0) W'))
    (N0 : Hid (∀ w', Below W.heap.size W w' → Calls Tryd.prog 30 #[.slice p0 4 c0] w' fun e w'' => e = .returned (.int .u64 (m : Int)) ∧ w' = w''))
    (I : Hid (∀ w', Calls Tryd.prog 26 #[.string s] w' fun e w'' => e = .returned (.bool true) ∧ Below w'.heap.size w' w'')) (hm : m = 3652501241)
    (S16 : Hid (∀ W', (Instr.sliceAt 26 (.slice p n c) (some (.int .i64 16)) (some (.int .i64 20)) none).run Tryd.prog W' = .ok (.slice p16 4 c16) W'))
    (N16 : Hid (∀ w', Below W.heap.size W w' → Calls Tryd.prog 30 #[.slice p16 4 c16] w' fun e w'' => e = .returned (.int .u64 (L : Int)) ∧ w' = w'')) (hl : L ≤ 200000) (hw : 24 + L ≤ n) (hlp : L = pay.length)
    (S24 : Hid (∀ W', (Instr.sliceAt 26 (.slice p n c) (some (.int .i64 24)) (some (.int .i64 ((24 + L : Nat) : Int))) none).run Tryd.prog W' = .ok (.slice p24 L c24) W'))
    (R24 : Hid (Row W p24 g24 o24 L c24 (lf pay)))
    (S20 : Hid (∀ W', (Instr.sliceAt 26 (.slice p n c) (some (.int .i64 20)) (some (.int .i64 24)) none).run Tryd.prog W' = .ok (.slice (some ⟨g20, o20, none⟩) 4 c20) W'))
    (R20 : Hid (Row W (some ⟨g20, o20, none⟩) g20 o20 4 c20 y20))
    (EQ : Hid (∀ W', (Op.equalIn 10000 67 (.agg (arr 4 (bv (lf (dbl pay))))) (.agg (arr 4 (bv y20)))).run Tryd.prog W' = .ok true W'))
    (LL : Hid (S.Both W)) : Calls Tryd.prog 18 #[.slice p n c] W (FirstEnd W (.frame k0 s pay)) := by
  have E := Lib.hid (Mem.nil W)
  have HL := Lib.hid (show decide ((n : Int) < 24) = false from decide_eq_false (by omega))
  clear h
  have HM := Lib.hid (show decide ((m : Int) = 3652501241) = !false from decide_eq_true (by omega))
  clear hm
  have HG := Lib.hid (show decide ((200000 : Int) < (L : Int)) = false from decide_eq_false (by omega))
  have HG2 := Lib.hid (show (L : Int) ≤ 9223372036854775807 by omega)
  have HG3 := Lib.hid (show IntKind.i64.wrap ((24 : Int) + (L : Int)) = ((24 + L : Nat) : Int) by rw [IntKind.wrap_i64]; omega)
  have HW := Lib.hid (show decide ((n : Int) < ((24 + L : Nat) : Int)) = false from decide_eq_false (by omega))
  have HG4 := Lib.hid hl
  have HLL := Lib.hid hlp
  have NB := Lib.hid nb_fr
  clear hl hw hlp
  go_enter Tryd.func18, Tryd.ntmps18
  go_upto_region 13 with (first
      | (refine mem_alloc E 42 rfl rfl infoFr ?_; clear E; intro b2 w2 E2; have E := Lib.hid (show Mem W [(b2, 42, fr0)] w2 from E2.out); clear E2)
      | ((with_reducible refine wpList_at 11 rfl ?_); refine wpList_kn rfl (.bool false) (by exact exec_lssi rfl rfl rfl HL.out) ?_)
      | ((with_reducible refine wpList_at 14 rfl ?_); refine wpList_kn rfl (.slice p4 12 c4) (by exact exec_sl rfl (S4.out _)) ?_)
      | (go_at_call 29; (with_reducible refine (T4.out _ E.out.below).mono ?_); rintro e w4 ⟨rfl, rfl⟩)
      | ((with_reducible refine wpList_at 16 rfl ?_); refine wpList_kn rfl (.string s) (by exact exec_cvs rfl (V4.out _ E.out.below)) ?_)
      | ((with_reducible refine wpList_at 18 rfl ?_); refine wpList_kn rfl (.slice p0 4 c0) (by exact exec_sl rfl (S0.out _)) ?_)
      | (go_at_call 30; (with_reducible refine (N0.out _ E.out.below).mono ?_); rintro e w4 ⟨rfl, rfl⟩)
      | ((with_reducible refine wpList_at 20 rfl ?_); refine wpList_kn rfl (.bool false) (by exact exec_neq64 rfl rfl rfl HM.out) ?_)
      | (go_at_call 26; refine (I.out _).mono ?_; rintro e w4 ⟨rfl, hb⟩; replace E := Lib.hid (E.out.call hb); clear hb)
      | ((with_reducible refine wpList_at 28 rfl ?_); refine wpList_kn rfl (.slice p16 4 c16) (by exact exec_sl rfl (S16.out _)) ?_)
      | (go_at_call 30; (with_reducible refine (N16.out _ E.out.below).mono ?_); rintro e w4 ⟨rfl, rfl⟩)
      | ((with_reducible refine wpList_at 31 rfl ?_); refine wpList_kn rfl (.bool false) (by exact exec_gtr64 rfl rfl rfl HG.out) ?_)
      | ((with_reducible refine wpList_at 34 rfl ?_); refine wpList_kn rfl (.int .i64 (L : Int)) (by exact exec_cvi rfl rfl HG2.out) ?_)
      | ((with_reducible refine wpList_at 35 rfl ?_); refine wpList_kn rfl (.int .i64 ((24 + L : Nat) : Int)) (by exact exec_add rfl rfl rfl HG3.out) ?_)
      | ((with_reducible refine wpList_at 39 rfl ?_); refine wpList_kn rfl (.bool false) (by exact exec_lssi rfl rfl rfl HW.out) ?_)
      | ((with_reducible refine wpList_at 43 rfl ?_); refine wpList_kn rfl (.slice p24 L c24) (by exact exec_sl rfl (S24.out _)) ?_)
      | ((with_reducible refine wpList_at 44 rfl ?_); refine wpList_wb rfl (.const (.slice none 0 0)) (.tmp 43) rfl (Lib.hid (Wb.none E.out (NB.out _))) rfl rfl rfl (Lib.hid (R24.out.below E.out.below)) (by have := HG4.out; (try simp only [List.length_nil]); omega) ?_; intro p8 g8 c8 w8 z8 Z8 K8))
  have e8 : z8 = pay := by rw [Z8.out, List.nil_append, HLL.out, tl_lf]
  clear Z8
  subst e8
  clear E
  have K := K8
  clear K8
  have SM := Lib.hid (show ∀ w', Below w8.heap.size w8 w' → Calls Tryd.prog 28 #[.slice p8 z8.length c8] w' fun e w'' => e = .returned (.agg (arr 4 (bv (lf (dbl z8))))) ∧ Below w'.heap.size w' w'' from fun w' hb => sumof_l (Lib.hid (K.out.row.below hb)) (by have := HLL.out; have := HG4.out; omega) (Lib.hid (LL.out.below (K.out.mem.call hb).below)))
  have R20' := Lib.hid (R20.out.below K.out.mem.below)
  refine wp_region_quiet_below (by kernel_rfl) (by kernel_rfl) ?_
  quiet_step (fail)
  quiet_step (exact Calls.regrown_of (SM.out _ (below_regrown _ _ _)))
  quiet_step (fail)
  refine wpQuiet_pure (.slice (some ⟨g20, o20, none⟩) 4 c20) rfl (fun w => exec_sl rfl (S20.out w)) ?_
  refine wpQuiet_pure (.pointer (some ⟨g20, o20, none⟩)) rfl (fun w => exec_arr rfl (run_arr4 _ _ _ (by omega) w)) ?_
  refine wpQuiet_load_at 67 (.tmp 49) rfl rfl _ rfl (.agg (arr 4 (bv y20))) (fun w3 hC => by obtain ⟨pz, rfl⟩ := hC; exact load_r4 (R20'.out.below (below_regrown w8 pz.d pz.os)) (by omega)) ?_
  refine wpQuiet_pure (.bool (!true)) rfl (fun w => exec_neqA rfl rfl rfl (by kernel_rfl) (EQ.out w)) ?_
  refine wpQuiet_nil ?_
  intro _ hw'
  obtain ⟨⟨dq, osq⟩, hw''⟩ := hw'
  subst hw''
  replace K := Lib.hid (K.out.call (below_regrown w8 dq osq))
  clear SM R20' R20 R24 EQ
  simp only [Bool.not_true, Bool.not_false]
  go_wp2_with (first
      | ((with_reducible refine wpList_at 55 rfl ?_); refine wpList_bld 42 _ rfl rfl (ps := #[(0, .string s), (1, .slice p8 z8.length c8)]) (by kernel_rfl) (built_frv _ _ _ _) ?_)
      | ((with_reducible refine wpList_atn rfl ?_); refine wb_store_row 0 K 42 rfl (.tmp 2) (.tmp 55) rfl rfl rfl rfl (by kernel_rfl) rfl (frV_one _ _ _ _) ?_; clear K; intro w9 K9; have K := Lib.hid (show Wb W [(b2, 42, frV s (.slice p8 z8.length c8))] p8 g8 c8 z8 w9 from K9.out); clear K9))
  exact bodyPost_ret (res_ctt (fn := Tryd.f18) rfl _ _ _ rfl (K.out.mem.get List.mem_cons_self) Tryd.underlying42 rfl (by kernel_rfl)) rfl ⟨K.out.mem.below, p8, g8, c8, by have := HLL.out; subst this; rfl, K.out.own⟩
theorem lows_congr {x y : Nat → Nat} : ∀ {n : Nat}, (∀ i, i < n → x i = y i) → lows x n = lows y n
  | 0, _ => rfl
  | n + 1, h => by
    unfold lows
    rw [h n (by omega), lows_congr fun i hi => h i (by omega)]
theorem isCom_congr {x y : Nat → Nat} {n : Nat} (h : ∀ i, i < n → x i = y i) : isCom x n = isCom y n := by
  unfold isCom
  rw [lows_congr h]

theorem sl_of {W : World} {p : Option Addr} {g o n c : Nat} {x : Nat → Nat} (R : Row W p g o n c x) (l h : Nat) (h1 : l ≤ h) (h2 : h ≤ n) : ∃ p', (∀ W', (Instr.sliceAt 26 (.slice p n c) (some (.int .i64 (l : Int))) (some (.int .i64 (h : Int))) none).run Tryd.prog W' = .ok (.slice p' (h - l) (c - l)) W') ∧ Row W p' g (o + l) (h - l) (c - l) (fun i => x (l + i)) := by
  have := R.le
  obtain ⟨p', e, R'⟩ := R.slice h1 h2 (by omega) (Nat.le_refl c)
  exact ⟨p', fun W' => by rw [run_sl (bounds_lh h1 (by omega)), e], R'⟩
theorem sl_of0 {W : World} {p : Option Addr} {g o n c : Nat} {x : Nat → Nat} (R : Row W p g o n c x) (h : Nat) (h2 : h ≤ n) : ∃ p', (∀ W', (Instr.sliceAt 26 (.slice p n c) none (some (.int .i64 (h : Int))) none).run Tryd.prog W' = .ok (.slice p' h c) W') ∧ Row W p' g o h c x := by
  have := R.le
  obtain ⟨p', e, R'⟩ := R.slice (Nat.zero_le h) h2 (by omega) (Nat.le_refl c)
  simp only [Nat.sub_zero, Nat.add_zero, Nat.zero_add] at e R'
  exact ⟨p', fun W' => by rw [run_sl (bounds_h (by omega)), e], R'⟩
theorem first_any {W : World} {p : Option Addr} {g o c : Nat} {zs : List Nat} (R : Hid (Row W p g o zs.length c (lf zs))) (hn : zs.length ≤ 140737488351232) (L : Hid (S.Both W)) : Calls Tryd.prog 18 #[.slice p zs.length c] W (FirstEnd W (pFirst zs)) := by
  by_cases h24 : zs.length < 24
  · rw [show pFirst zs = .wait from by unfold pFirst; rw [if_pos h24]]
    exact first_short h24
  have h24' : 24 ≤ zs.length := by omega
  obtain ⟨p4, S4, R4⟩ := sl_of R.out 4 16 (by omega) (by omega)
  obtain ⟨p0, S0, R0⟩ := sl_of0 R.out 4 (by omega)
  obtain ⟨p16, S16, R16⟩ := sl_of R.out 16 20 (by omega) (by omega)
  obtain ⟨p20, S20, R20⟩ := sl_of R.out 20 24 (by omega) (by omega)
  have T4 := Lib.hid (show ∀ w', Below W.heap.size W w' → Calls Tryd.prog 29 #[.slice p4 12 (c - 4), .string ⟨#[0]⟩] w' fun e w'' => e = .returned (.slice p4 (trimLen (cmdX zs) 12) (c - 4)) ∧ w' = w'' from fun w' hb => (trimr_any (R4.below hb) (by omega)).mono fun e w'' ⟨h1, h2⟩ => ⟨by
      rw [h1, trim_len _ (cmdX zs) fun i hi => by
        rw [List.getElem_map, List.getElem_range]
        have := R4.byte i
        show (UInt8.ofNat (lf zs (4 + i))).toNat = lf zs (4 + i)
        simp [UInt8.toNat_ofNat]
        omega]
      rw [List.length_map, List.length_range], h2.symm⟩)
  have kl := trimLen_le (cmdX zs) 12
  have V4 := Lib.hid (show ∀ w', Below W.heap.size W w' → (convert 26 9 (.slice p4 (trimLen (cmdX zs) 12) (c - 4))).run Tryd.prog w' = .ok (.string (strX (cmdX zs) (trimLen (cmdX zs) 12))) w' from fun w' hb => by
    have r := R4.below hb
    exact row_strX (⟨by have := r.le; omega, r.cap, fun e => by have := r.nil e; omega, fun _ => r.head (by omega), fun i hi => r.cell i (by omega), r.byte⟩ : Row w' p4 g (o + 4) (trimLen (cmdX zs) 12) (c - 4) (cmdX zs)))
  have N0 := Lib.hid (show ∀ w', Below W.heap.size W w' → Calls Tryd.prog 30 #[.slice p0 4 c] w' fun e w'' => e = .returned (.int .u64 ((ofBytes (lf zs) 4 : Nat) : Int)) ∧ w' = w'' from fun w' hb => bnum_any (Lib.hid (R0.below hb)) (by omega))
  have N16 := Lib.hid (show ∀ w', Below W.heap.size W w' → Calls Tryd.prog 30 #[.slice p16 4 (c - 16)] w' fun e w'' => e = .returned (.int .u64 ((lenX zs : Nat) : Int)) ∧ w' = w'' from fun w' hb => bnum_any (Lib.hid (R16.below hb)) (by omega))
  have I0 := fun w' => iscom_any w' (strX (cmdX zs) (trimLen (cmdX zs) 12)) (by rw [strX_size]; omega)
  have cmdB : ∀ i, cmdX zs i < 256 := fun i => R4.byte i
  have ci : isCom (sb (strX (cmdX zs) (trimLen (cmdX zs) 12))) (strX (cmdX zs) (trimLen (cmdX zs) 12)).size = isCom (cmdX zs) (trimLen (cmdX zs) 12) := by
    rw [strX_size]
    exact isCom_congr fun i hi => strX_sb cmdB hi
  rw [ci] at I0
  by_cases hm : ofBytes (lf zs) 4 = 3652501241
  · by_cases hc : isCom (cmdX zs) (trimLen (cmdX zs) 12) = true
    · rw [hc] at I0
      have hg : ¬ (¬ ofBytes (lf zs) 4 = 3652501241 ∨ isCom (cmdX zs) (trimLen (cmdX zs) 12) = false) := by simp [hm, hc]
      by_cases hl : 200000 < lenX zs
      · rw [show pFirst zs = .bad 91 from by unfold pFirst; rw [if_neg h24, if_neg hg, if_pos hl]]
        exact first_long h24' (Lib.hid S4) T4 V4 (Lib.hid S0) N0 (Lib.hid I0) hm (Lib.hid S16) N16 hl
      by_cases hw : zs.length < 24 + lenX zs
      · rw [show pFirst zs = .wait from by unfold pFirst; rw [if_neg h24, if_neg hg, if_neg hl, if_pos hw]]
        exact first_wait h24' (Lib.hid S4) T4 V4 (Lib.hid S0) N0 (Lib.hid I0) hm (Lib.hid S16) N16 (by omega) hw
      obtain ⟨p24, S24, R24⟩ := sl_of R.out 24 (24 + lenX zs) (by omega) (by omega)
      rw [Nat.add_sub_cancel_left] at S24 R24
      have pl : (payX zs).length = lenX zs := by unfold payX; rw [List.length_take, List.length_drop]; omega
      have R24' := Lib.hid (R24.to (y := lf (payX zs)) (fun i hi => by
        unfold payX
        unfold lf
        simp only [List.getD_eq_getElem?_getD, List.getElem?_take, List.getElem?_drop, if_pos hi]) (lf_lt fun x hx => isB_row R.out x (List.mem_of_mem_drop (List.mem_of_mem_take hx))))
      obtain rfl := R20.head (by omega)
      by_cases hs : sum4 (payX zs) = (zs.drop 20).take 4
      · rw [show pFirst zs = .frame (trimLen (cmdX zs) 12) (strX (cmdX zs) (trimLen (cmdX zs) 12)) (payX zs) from by unfold pFirst; rw [if_neg h24, if_neg hg, if_neg hl, if_neg hw, if_pos hs]]
        exact first_good h24' (Lib.hid S4) T4 V4 (Lib.hid S0) N0 (Lib.hid I0) hm (Lib.hid S16) N16 (by omega) (by omega) pl.symm (Lib.hid S24) R24' (Lib.hid S20) (Lib.hid R20) (Lib.hid fun W' => by
          rw [eq_bytes Tryd.underlying67]
          congr 1
          rw [List.all_eq_true]
          intro i hi
          have hi := List.mem_range.1 hi
          have e := congrArg (fun l => lf l i) hs
          simp only [sum4, lf_tl _ hi] at e
          rw [e, beq_iff_eq]
          unfold lf
          simp only [List.getD_eq_getElem?_getD, List.getElem?_take, List.getElem?_drop, if_pos hi]) L
      · rw [show pFirst zs = .bad 92 from by unfold pFirst; rw [if_neg h24, if_neg hg, if_neg hl, if_neg hw, if_neg hs]]
        exact first_sum (k0 := 0) h24' (Lib.hid S4) T4 V4 (Lib.hid S0) N0 (Lib.hid I0) hm (Lib.hid S16) N16 (by omega) (by omega) pl.symm (Lib.hid S24) R24' (Lib.hid S20) (Lib.hid R20) (Lib.hid fun W' => by
          rw [eq_bytes Tryd.underlying67]
          congr 1
          refine Bool.eq_false_iff.2 fun ht => hs ?_
          rw [List.all_eq_true] at ht
          refine lf_inj (by rw [sum4_length, List.length_take, List.length_drop]; omega) fun i hi => ?_
          rw [sum4_length] at hi
          have e := ht i (List.mem_range.2 hi)
          rw [beq_iff_eq] at e
          simp only [sum4, lf_tl _ hi]
          have e2 := Int.ofNat.inj e
          rw [e2]
          unfold lf
          simp only [List.getD_eq_getElem?_getD, List.getElem?_take, List.getElem?_drop, if_pos hi]) L
    · have hc := Bool.eq_false_iff.2 hc
      rw [hc] at I0
      rw [show pFirst zs = .bad 90 from by unfold pFirst; rw [if_neg h24, if_pos (.inr hc)]]
      exact first_com h24' (Lib.hid S4) T4 V4 (Lib.hid S0) N0 (Lib.hid I0) hm
  · rw [show pFirst zs = .bad 90 from by unfold pFirst; rw [if_neg h24, if_pos (.inl hm)]]
    exact first_magic h24' (Lib.hid S4) T4 V4 (Lib.hid S0) N0 hm
end Go.Proofs.YtkjcljobcidhfaaDoor
