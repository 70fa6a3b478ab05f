/- For every header and every slice of bytes (nil too): the header's bytes and its ID are the document's; the header of a copy of the bytes, what stands behind it and the error are the document's; the copy reads as it did, and the call returns true. The two tables of package sha are laid as the program's text lays them; the card ties them to that text. No other condition. -/
import Derived.Test.YthnddiimkgahgaaDoorRb
import Derived.Test.YthnddiimkgahgaaDoorRc
import Derived.Test.YthnddiimkgahgaaDoorHp
import Derived.Test.YthnddiimkgahgaaDoorTie
import Derived.Test.YthnddiimkgahgaaDoorCards
import Derived.ShutString
import Derived.ChangeOld
import Derived.Below
import Derived.SevenTiedAt
namespace Go.Proofs.YthnddiimkgahgaaDoor.headerTells
open Go.ChangeShapes Go.WideShapes Go.ChangeAt Go.RowKit Go.Lib Go.Sort Go.Proofs.YthnddiimkgahgaaDoor
set_option linter.unusedVariables false
set_option linter.unusedSimpArgs false

theorem exec_eql {P : Program} {o : Oper} {ev : Operand → Value} {T R : TypeId} {x y : Operand} {a b : Array Value} {W : World} (ho : o.op = .binOp .eql T x y R) (hx : ev x = .agg a) (hy : ev y = .agg b) (hm : P.eqGuardType P.depth T = false) (h : (Op.equalIn 10000 T (.agg a) (.agg b)).run P W = .ok true W) : (execOp ev o).run P W = .ok (.value (.bool true)) W := by
  unfold execOp
  simp only [ho, hx, hy, Sem.run_bind, run_eqGuard_agg W .eql T x y a b hm, run_eql_struct, h, Result.andThen_ok]
  rfl
set_option maxRecDepth 100000 in
set_option maxHeartbeats 16000000 in
theorem walk_long {W : World} {f0 : Hd} (ok : Hid f0.Ok) {g0 o0 n1 c0 : Nat} {x1 : Nat → Nat} (RB : Hid (Row W (some ⟨g0, o0, none⟩) g0 o0 n1 c0 x1)) (le : n1 ≤ 140737488351232) (KL : Hid (S.Both W)) (h : 80 ≤ n1) :
    Calls Tryd.prog 3 #[.agg (arr 68 (hc f0)), .slice (some ⟨g0, o0, none⟩) n1 c0] W fun e w' => e = .returned (.bool true) ∧ Below W.heap.size W w' := by
  have E := Lib.hid (Mem.nil W)
  go_enter Tryd.func3, Tryd.ntmps3
  go_upto_region 4 with (first
      | (refine mem_box E 26 rfl _ rfl rfl (by exact arr_cells' 68 (hc f0)) ?_; clear E; intro b2 w2 E)
      | (go_at_call 4; refine (clone_any (Lib.hid (RB.out.below E.out.below)) (by omega)).mono ?_; rintro e w3 ⟨p1, g1, c1, rfl, N1, hb⟩; obtain rfl := N1.row.head (by omega); have RG := Lib.hid N1.row; replace E := Lib.hid (E.out.call hb); clear hb N1)
      | (go_at_call 5; refine (hdec_long RG h (by omega)).mono ?_; rintro e wA ⟨p2, g2, c2, rfl, R4', hb⟩; have R4 := Lib.hid R4'; replace RG := Lib.hid (RG.out.below hb); have A := Lib.hid (E.out.call hb); clear E; have E := Lib.hid (Mem.nil wA); clear hb R4')
      | (refine mem_alloc E 26 rfl rfl infoH ?_; clear E; intro b6 w6 E; simp only [arr_cells'] at E)
      | (refine mem_store_row 0 E 26 rfl _ _ rfl rfl rfl rfl (by kernel_rfl) (by simp only [arr_size]) (by exact hc_one _) ?_; clear E; intro w7 E; simp only [List.set_cons_zero, List.set_cons_succ] at E)
      | (go_at_call 6; refine (rhdec_long (Lib.hid (RB.out.below (A.out.call E.out.below).below)) h (by omega)).mono ?_; rintro e wB ⟨p3, g3, c3, rfl, R5', hb⟩; have R5 := Lib.hid R5'; have Bm := Lib.hid (E.out.call hb); clear E; have E := Lib.hid (Mem.nil wB); clear hb R5'))
  have GA := Lib.hid (fun (Wx : World) (hW : Mem wB [(b6, 26, arr 68 (hc (hdOf x1)))] Wx) => A.out.call (Bm.out.below.trans (hW.below.mono Bm.out.below.size)))
  have GB := Lib.hid (fun (Wx : World) (hW : Mem wB [(b6, 26, arr 68 (hc (hdOf x1)))] Wx) => Bm.out.call hW.below)
  refine wp_region_memS (S := fun Wx => Mem wB [(b6, 26, arr 68 (hc (hdOf x1)))] Wx) E (by kernel_rfl) ?_
  clear E
  intro wx E0
  refine hm_run 0 26 (.agg (arr 68 (hc f0))) rfl rfl (by kernel_rfl) (by kernel_rfl) (by kernel_rfl) (fun _ _ _ h => h) rfl (fun Wx hW => exec_load rfl (load_hdr (GA.out Wx hW) List.mem_cons_self)) (E0.out) ?_
  try simp only [Act.put, List.getElem_toArray, List.getElem_cons_succ, List.getElem_cons_zero, List.setIfInBounds_toArray, List.set_cons_zero, List.set_cons_succ]
  refine hm_run 2 28 (.agg (arr 68 (hc f0))) rfl rfl (by kernel_rfl) (by kernel_rfl) (by kernel_rfl) (fun _ _ _ h => h) rfl (fun Wx hW => exec_load rfl (load_hdr (GA.out Wx hW) List.mem_cons_self)) (E0.out) ?_
  try simp only [Act.put, List.getElem_toArray, List.getElem_cons_succ, List.getElem_cons_zero, List.setIfInBounds_toArray, List.set_cons_zero, List.set_cons_succ]
  refine hm_one (i := 1) (by kernel_rfl) ?_
  refine hm_step 1 rfl (by kernel_rfl) fun K hK => ?_
  try simp only [Act.put, List.getElem_toArray, List.getElem_cons_succ, List.getElem_cons_zero, List.setIfInBounds_toArray, List.set_cons_zero, List.set_cons_succ]
  go_simp
  go_at_call 8
  refine (henc_any ok _).mono ?_
  rintro e wa ⟨pa, ga, ca, rfl, Na', hb⟩
  have Na := Lib.hid Na'.row
  have E2_1 := Lib.hid (E0.out.call hb)
  clear hb Na'
  refine hK _ _ (E2_1.out) ?_
  clear hK K
  try simp only [Act.put, List.getElem_toArray, List.getElem_cons_succ, List.getElem_cons_zero, List.setIfInBounds_toArray, List.set_cons_zero, List.set_cons_succ]
  refine hm_one (i := 3) (by kernel_rfl) ?_
  refine hm_step 3 rfl (by kernel_rfl) fun K hK => ?_
  try simp only [Act.put, List.getElem_toArray, List.getElem_cons_succ, List.getElem_cons_zero, List.setIfInBounds_toArray, List.set_cons_zero, List.set_cons_succ]
  go_simp
  go_at_call 9
  refine (rhenc_any ok _).mono ?_
  rintro e wb ⟨pb, gb, cb, rfl, Nb', hb⟩
  have Nb := Lib.hid Nb'.row
  replace Na := Lib.hid (Na.out.below hb)
  have E3_3 := Lib.hid (E2_1.out.call hb)
  clear hb Nb'
  refine hK _ _ (E3_3.out) ?_
  clear hK K
  try simp only [Act.put, List.getElem_toArray, List.getElem_cons_succ, List.getElem_cons_zero, List.setIfInBounds_toArray, List.set_cons_zero, List.set_cons_succ]
  refine hm_one (i := 4) (by kernel_rfl) ?_
  refine hm_step 4 rfl (by kernel_rfl) fun K hK => ?_
  try simp only [Act.put, List.getElem_toArray, List.getElem_cons_succ, List.getElem_cons_zero, List.setIfInBounds_toArray, List.set_cons_zero, List.set_cons_succ]
  go_simp
  go_at_call 7
  refine (equal_any Na Nb rfl (Lib.hid fun _ _ => rfl)).mono ?_
  rintro e wq ⟨rfl, rfl⟩
  have E4_4 := E3_3
  refine hK _ _ (E4_4.out) ?_
  clear hK K
  try simp only [Act.put, List.getElem_toArray, List.getElem_cons_succ, List.getElem_cons_zero, List.setIfInBounds_toArray, List.set_cons_zero, List.set_cons_succ]
  refine hm_run 5 31 (.bool true) rfl rfl (by kernel_rfl) (by kernel_rfl) (by kernel_rfl) (fun _ _ _ h => h) rfl (fun _ _ => rfl) (E4_4.out) ?_
  try simp only [Act.put, List.getElem_toArray, List.getElem_cons_succ, List.getElem_cons_zero, List.setIfInBounds_toArray, List.set_cons_zero, List.set_cons_succ]
  refine hm_run 6 32 (.agg (arr 68 (hc f0))) rfl rfl (by kernel_rfl) (by kernel_rfl) (by kernel_rfl) (fun _ _ _ h => h) rfl (fun Wx hW => exec_load rfl (load_hdr (GA.out Wx hW) List.mem_cons_self)) (E4_4.out) ?_
  try simp only [Act.put, List.getElem_toArray, List.getElem_cons_succ, List.getElem_cons_zero, List.setIfInBounds_toArray, List.set_cons_zero, List.set_cons_succ]
  refine hm_run 8 34 (.agg (arr 68 (hc f0))) rfl rfl (by kernel_rfl) (by kernel_rfl) (by kernel_rfl) (fun _ _ _ h => h) rfl (fun Wx hW => exec_load rfl (load_hdr (GA.out Wx hW) List.mem_cons_self)) (E4_4.out) ?_
  try simp only [Act.put, List.getElem_toArray, List.getElem_cons_succ, List.getElem_cons_zero, List.setIfInBounds_toArray, List.set_cons_zero, List.set_cons_succ]
  refine hm_one (i := 7) (by kernel_rfl) ?_
  refine hm_step 7 rfl (by kernel_rfl) fun K hK => ?_
  try simp only [Act.put, List.getElem_toArray, List.getElem_cons_succ, List.getElem_cons_zero, List.setIfInBounds_toArray, List.set_cons_zero, List.set_cons_succ]
  go_simp
  go_at_call 10
  refine (id_any ok (Lib.hid (KL.out.below (GA.out _ E4_4.out).below))).mono ?_
  rintro e wd ⟨rfl, hb⟩
  have E8_7 := Lib.hid (E4_4.out.call hb)
  clear hb
  refine hK _ _ (E8_7.out) ?_
  clear hK K
  try simp only [Act.put, List.getElem_toArray, List.getElem_cons_succ, List.getElem_cons_zero, List.setIfInBounds_toArray, List.set_cons_zero, List.set_cons_succ]
  refine hm_one (i := 9) (by kernel_rfl) ?_
  refine hm_step 9 rfl (by kernel_rfl) fun K hK => ?_
  try simp only [Act.put, List.getElem_toArray, List.getElem_cons_succ, List.getElem_cons_zero, List.setIfInBounds_toArray, List.set_cons_zero, List.set_cons_succ]
  go_simp
  go_at_call 11
  refine (rid_any ok).mono ?_
  rintro e we ⟨rfl, hb⟩
  have E9_9 := Lib.hid (E8_7.out.call hb)
  clear hb
  refine hK _ _ (E9_9.out) ?_
  clear hK K
  try simp only [Act.put, List.getElem_toArray, List.getElem_cons_succ, List.getElem_cons_zero, List.setIfInBounds_toArray, List.set_cons_zero, List.set_cons_succ]
  refine hm_run 10 36 (.bool true) rfl rfl (by kernel_rfl) (by kernel_rfl) (by kernel_rfl) (fun _ _ _ h => h) rfl (fun Wx _ => exec_eql rfl rfl rfl (by kernel_rfl) (S.sum2_same (hx f0) 80 Wx)) (E9_9.out) ?_
  try simp only [Act.put, List.getElem_toArray, List.getElem_cons_succ, List.getElem_cons_zero, List.setIfInBounds_toArray, List.set_cons_zero, List.set_cons_succ]
  refine hm_run 11 37 (.bool true) rfl rfl (by kernel_rfl) (by kernel_rfl) (by kernel_rfl) (fun _ _ _ h => h) rfl (fun _ _ => rfl) (E9_9.out) ?_
  try simp only [Act.put, List.getElem_toArray, List.getElem_cons_succ, List.getElem_cons_zero, List.setIfInBounds_toArray, List.set_cons_zero, List.set_cons_succ]
  refine hm_run 12 38 (.bool true) rfl rfl (by kernel_rfl) (by kernel_rfl) (by kernel_rfl) (fun _ _ _ h => h) rfl (fun _ _ => rfl) (E9_9.out) ?_
  try simp only [Act.put, List.getElem_toArray, List.getElem_cons_succ, List.getElem_cons_zero, List.setIfInBounds_toArray, List.set_cons_zero, List.set_cons_succ]
  refine hm_run 13 39 (.agg (arr 68 (hc (hdOf x1)))) rfl rfl (by kernel_rfl) (by kernel_rfl) (by kernel_rfl) (fun _ _ _ h => h) rfl (fun Wx hW => exec_load rfl (load_hdr (GB.out Wx hW) List.mem_cons_self)) (E9_9.out) ?_
  try simp only [Act.put, List.getElem_toArray, List.getElem_cons_succ, List.getElem_cons_zero, List.setIfInBounds_toArray, List.set_cons_zero, List.set_cons_succ]
  refine hm_run 14 40 (.agg (arr 68 (hc (hdOf x1)))) rfl rfl (by kernel_rfl) (by kernel_rfl) (by kernel_rfl) (fun _ _ _ h => h) rfl (fun Wx hW => exec_load rfl (load_hdr hW List.mem_cons_self)) (E9_9.out) ?_
  try simp only [Act.put, List.getElem_toArray, List.getElem_cons_succ, List.getElem_cons_zero, List.setIfInBounds_toArray, List.set_cons_zero, List.set_cons_succ]
  refine hm_run 15 41 (.bool true) rfl rfl (by kernel_rfl) (by kernel_rfl) (by kernel_rfl) (fun _ _ _ h => h) rfl (fun Wx _ => exec_eql rfl rfl rfl (by kernel_rfl) (same_hdr (hdOf x1) Wx)) (E9_9.out) ?_
  try simp only [Act.put, List.getElem_toArray, List.getElem_cons_succ, List.getElem_cons_zero, List.setIfInBounds_toArray, List.set_cons_zero, List.set_cons_succ]
  refine hm_run 16 42 (.bool true) rfl rfl (by kernel_rfl) (by kernel_rfl) (by kernel_rfl) (fun _ _ _ h => h) rfl (fun _ _ => rfl) (E9_9.out) ?_
  try simp only [Act.put, List.getElem_toArray, List.getElem_cons_succ, List.getElem_cons_zero, List.setIfInBounds_toArray, List.set_cons_zero, List.set_cons_succ]
  refine hm_run 17 43 (.bool true) rfl rfl (by kernel_rfl) (by kernel_rfl) (by kernel_rfl) (fun _ _ _ h => h) rfl (fun _ _ => rfl) (E9_9.out) ?_
  try simp only [Act.put, List.getElem_toArray, List.getElem_cons_succ, List.getElem_cons_zero, List.setIfInBounds_toArray, List.set_cons_zero, List.set_cons_succ]
  refine hm_run 18 44 (.slice p2 (n1 - 80) c2) rfl rfl (by kernel_rfl) (by kernel_rfl) (by kernel_rfl) (fun _ _ _ h => h) rfl (fun _ _ => rfl) (E9_9.out) ?_
  try simp only [Act.put, List.getElem_toArray, List.getElem_cons_succ, List.getElem_cons_zero, List.setIfInBounds_toArray, List.set_cons_zero, List.set_cons_succ]
  refine hm_run 19 45 (.slice p3 (n1 - 80) c3) rfl rfl (by kernel_rfl) (by kernel_rfl) (by kernel_rfl) (fun _ _ _ h => h) rfl (fun _ _ => rfl) (E9_9.out) ?_
  try simp only [Act.put, List.getElem_toArray, List.getElem_cons_succ, List.getElem_cons_zero, List.setIfInBounds_toArray, List.set_cons_zero, List.set_cons_succ]
  refine hm_one (i := 20) (by kernel_rfl) ?_
  refine hm_step 20 rfl (by kernel_rfl) fun K hK => ?_
  try simp only [Act.put, List.getElem_toArray, List.getElem_cons_succ, List.getElem_cons_zero, List.setIfInBounds_toArray, List.set_cons_zero, List.set_cons_succ]
  go_simp
  go_at_call 7
  refine (equal_any (Lib.hid (R4.out.below (GB.out _ E9_9.out).below)) (Lib.hid (R5.out.below E9_9.out.below)) rfl (Lib.hid fun _ _ => rfl)).mono ?_
  rintro e wq ⟨rfl, rfl⟩
  have E20_20 := E9_9
  refine hK _ _ (E20_20.out) ?_
  clear hK K
  try simp only [Act.put, List.getElem_toArray, List.getElem_cons_succ, List.getElem_cons_zero, List.setIfInBounds_toArray, List.set_cons_zero, List.set_cons_succ]
  refine hm_run 21 47 (.bool true) rfl rfl (by kernel_rfl) (by kernel_rfl) (by kernel_rfl) (fun _ _ _ h => h) rfl (fun _ _ => rfl) (E20_20.out) ?_
  try simp only [Act.put, List.getElem_toArray, List.getElem_cons_succ, List.getElem_cons_zero, List.setIfInBounds_toArray, List.set_cons_zero, List.set_cons_succ]
  refine hm_run 22 48 (.bool true) rfl rfl (by kernel_rfl) (by kernel_rfl) (by kernel_rfl) (fun _ _ _ h => h) rfl (fun _ _ => rfl) (E20_20.out) ?_
  try simp only [Act.put, List.getElem_toArray, List.getElem_cons_succ, List.getElem_cons_zero, List.setIfInBounds_toArray, List.set_cons_zero, List.set_cons_succ]
  refine hm_run 23 49 _ rfl rfl (by kernel_rfl) (by kernel_rfl) (by kernel_rfl) (fun _ _ _ h => h) rfl (fun _ _ => rfl) (E20_20.out) ?_
  try simp only [Act.put, List.getElem_toArray, List.getElem_cons_succ, List.getElem_cons_zero, List.setIfInBounds_toArray, List.set_cons_zero, List.set_cons_succ]
  refine hm_run 24 50 _ rfl rfl (by kernel_rfl) (by kernel_rfl) (by kernel_rfl) (fun _ _ _ h => h) rfl (fun _ _ => rfl) (E20_20.out) ?_
  try simp only [Act.put, List.getElem_toArray, List.getElem_cons_succ, List.getElem_cons_zero, List.setIfInBounds_toArray, List.set_cons_zero, List.set_cons_succ]
  refine hm_run 25 51 (.bool true) rfl rfl (by kernel_rfl) (by kernel_rfl) (by kernel_rfl) (fun _ _ _ h => h) rfl (fun _ _ => by first | rfl | kernel_rfl) (E20_20.out) ?_
  try simp only [Act.put, List.getElem_toArray, List.getElem_cons_succ, List.getElem_cons_zero, List.setIfInBounds_toArray, List.set_cons_zero, List.set_cons_succ]
  refine hm_run 26 52 (.bool true) rfl rfl (by kernel_rfl) (by kernel_rfl) (by kernel_rfl) (fun _ _ _ h => h) rfl (fun _ _ => rfl) (E20_20.out) ?_
  try simp only [Act.put, List.getElem_toArray, List.getElem_cons_succ, List.getElem_cons_zero, List.setIfInBounds_toArray, List.set_cons_zero, List.set_cons_succ]
  refine hm_run 27 53 (.bool true) rfl rfl (by kernel_rfl) (by kernel_rfl) (by kernel_rfl) (fun _ _ _ h => h) rfl (fun _ _ => rfl) (E20_20.out) ?_
  try simp only [Act.put, List.getElem_toArray, List.getElem_cons_succ, List.getElem_cons_zero, List.setIfInBounds_toArray, List.set_cons_zero, List.set_cons_succ]
  refine hm_run 28 54 (.slice (some ⟨g1, 0, none⟩) n1 c1) rfl rfl (by kernel_rfl) (by kernel_rfl) (by kernel_rfl) (fun _ _ _ h => h) rfl (fun _ _ => rfl) (E20_20.out) ?_
  try simp only [Act.put, List.getElem_toArray, List.getElem_cons_succ, List.getElem_cons_zero, List.setIfInBounds_toArray, List.set_cons_zero, List.set_cons_succ]
  refine hm_run 29 55 (.slice (some ⟨g0, o0, none⟩) n1 c0) rfl rfl (by kernel_rfl) (by kernel_rfl) (by kernel_rfl) (fun _ _ _ h => h) rfl (fun _ _ => rfl) (E20_20.out) ?_
  try simp only [Act.put, List.getElem_toArray, List.getElem_cons_succ, List.getElem_cons_zero, List.setIfInBounds_toArray, List.set_cons_zero, List.set_cons_succ]
  refine hm_one (i := 30) (by kernel_rfl) ?_
  refine hm_step 30 rfl (by kernel_rfl) fun K hK => ?_
  try simp only [Act.put, List.getElem_toArray, List.getElem_cons_succ, List.getElem_cons_zero, List.setIfInBounds_toArray, List.set_cons_zero, List.set_cons_succ]
  go_simp
  go_at_call 7
  refine (equal_any (Lib.hid (RG.out.below (GB.out _ E20_20.out).below)) (Lib.hid (RB.out.below (GA.out _ E20_20.out).below)) rfl (Lib.hid fun _ _ => rfl)).mono ?_
  rintro e wq ⟨rfl, rfl⟩
  have E30_30 := E20_20
  refine hK _ _ (E30_30.out) ?_
  clear hK K
  try simp only [Act.put, List.getElem_toArray, List.getElem_cons_succ, List.getElem_cons_zero, List.setIfInBounds_toArray, List.set_cons_zero, List.set_cons_succ]
  refine hm_run 31 57 (.bool true) rfl rfl (by kernel_rfl) (by kernel_rfl) (by kernel_rfl) (fun _ _ _ h => h) rfl (fun _ _ => rfl) (E30_30.out) ?_
  try simp only [Act.put, List.getElem_toArray, List.getElem_cons_succ, List.getElem_cons_zero, List.setIfInBounds_toArray, List.set_cons_zero, List.set_cons_succ]
  refine hm_run 32 4 _ rfl rfl (by kernel_rfl) (by kernel_rfl) (by kernel_rfl) (fun _ _ _ h => h) rfl (fun _ _ => rfl) (E30_30.out) ?_
  try simp only [Act.put, List.getElem_toArray, List.getElem_cons_succ, List.getElem_cons_zero, List.setIfInBounds_toArray, List.set_cons_zero, List.set_cons_succ]
  refine wpAnyH_done (by kernel_rfl) ?_ _
  go_wp2_with fail
  go_ret
  exact ⟨rfl, (GA.out _ E30_30.out).below⟩

set_option maxRecDepth 100000 in
set_option maxHeartbeats 16000000 in
theorem walk_short {W : World} {f0 : Hd} (ok : Hid f0.Ok) {a1 : Option Addr} {g0 o0 n1 c0 : Nat} {x1 : Nat → Nat} (RB : Hid (Row W a1 g0 o0 n1 c0 x1)) (le : n1 ≤ 140737488351232) (KL : Hid (S.Both W)) (h : n1 < 80) :
    Calls Tryd.prog 3 #[.agg (arr 68 (hc f0)), .slice a1 n1 c0] W fun e w' => e = .returned (.bool true) ∧ Below W.heap.size W w' := by
  have E := Lib.hid (Mem.nil W)
  go_enter Tryd.func3, Tryd.ntmps3
  go_upto_region 4 with (first
      | (refine mem_box E 26 rfl _ rfl rfl (by exact arr_cells' 68 (hc f0)) ?_; clear E; intro b2 w2 E)
      | (go_at_call 4; refine (clone_any (Lib.hid (RB.out.below E.out.below)) (by omega)).mono ?_; rintro e w3 ⟨p1, g1, c1, rfl, N1, hb⟩; have RG := Lib.hid N1.row; replace E := Lib.hid (E.out.call hb); clear hb N1)
      | (go_at_call 5; refine (hdec_short h).mono ?_; rintro e wA ⟨rfl, hb⟩; replace RG := Lib.hid (RG.out.below hb); have A := Lib.hid (E.out.call hb); clear E; have E := Lib.hid (Mem.nil wA); clear hb)
      | (refine mem_alloc E 26 rfl rfl infoH ?_; clear E; intro b6 w6 E; simp only [arr_cells'] at E)
      | (refine mem_store_row 0 E 26 rfl _ _ rfl rfl rfl rfl (by kernel_rfl) (by simp only [arr_size]) (by exact hc_one _) ?_; clear E; intro w7 E; simp only [List.set_cons_zero, List.set_cons_succ] at E)
      | (go_at_call 6; refine (rhdec_short h).mono ?_; rintro e wB ⟨rfl, hb⟩; have Bm := Lib.hid (E.out.call hb); clear E; have E := Lib.hid (Mem.nil wB); clear hb))
  have GA := Lib.hid (fun (Wx : World) (hW : Mem wB [(b6, 26, arr 68 (hc h0))] Wx) => A.out.call (Bm.out.below.trans (hW.below.mono Bm.out.below.size)))
  have GB := Lib.hid (fun (Wx : World) (hW : Mem wB [(b6, 26, arr 68 (hc h0))] Wx) => Bm.out.call hW.below)
  refine wp_region_memS (S := fun Wx => Mem wB [(b6, 26, arr 68 (hc h0))] Wx) E (by kernel_rfl) ?_
  clear E
  intro wx E0
  refine hm_run 0 26 (.agg (arr 68 (hc f0))) rfl rfl (by kernel_rfl) (by kernel_rfl) (by kernel_rfl) (fun _ _ _ h => h) rfl (fun Wx hW => exec_load rfl (load_hdr (GA.out Wx hW) List.mem_cons_self)) (E0.out) ?_
  try simp only [Act.put, List.getElem_toArray, List.getElem_cons_succ, List.getElem_cons_zero, List.setIfInBounds_toArray, List.set_cons_zero, List.set_cons_succ]
  refine hm_run 2 28 (.agg (arr 68 (hc f0))) rfl rfl (by kernel_rfl) (by kernel_rfl) (by kernel_rfl) (fun _ _ _ h => h) rfl (fun Wx hW => exec_load rfl (load_hdr (GA.out Wx hW) List.mem_cons_self)) (E0.out) ?_
  try simp only [Act.put, List.getElem_toArray, List.getElem_cons_succ, List.getElem_cons_zero, List.setIfInBounds_toArray, List.set_cons_zero, List.set_cons_succ]
  refine hm_one (i := 1) (by kernel_rfl) ?_
  refine hm_step 1 rfl (by kernel_rfl) fun K hK => ?_
  try simp only [Act.put, List.getElem_toArray, List.getElem_cons_succ, List.getElem_cons_zero, List.setIfInBounds_toArray, List.set_cons_zero, List.set_cons_succ]
  go_simp
  go_at_call 8
  refine (henc_any ok _).mono ?_
  rintro e wa ⟨pa, ga, ca, rfl, Na', hb⟩
  have Na := Lib.hid Na'.row
  have E2_1 := Lib.hid (E0.out.call hb)
  clear hb Na'
  refine hK _ _ (E2_1.out) ?_
  clear hK K
  try simp only [Act.put, List.getElem_toArray, List.getElem_cons_succ, List.getElem_cons_zero, List.setIfInBounds_toArray, List.set_cons_zero, List.set_cons_succ]
  refine hm_one (i := 3) (by kernel_rfl) ?_
  refine hm_step 3 rfl (by kernel_rfl) fun K hK => ?_
  try simp only [Act.put, List.getElem_toArray, List.getElem_cons_succ, List.getElem_cons_zero, List.setIfInBounds_toArray, List.set_cons_zero, List.set_cons_succ]
  go_simp
  go_at_call 9
  refine (rhenc_any ok _).mono ?_
  rintro e wb ⟨pb, gb, cb, rfl, Nb', hb⟩
  have Nb := Lib.hid Nb'.row
  replace Na := Lib.hid (Na.out.below hb)
  have E3_3 := Lib.hid (E2_1.out.call hb)
  clear hb Nb'
  refine hK _ _ (E3_3.out) ?_
  clear hK K
  try simp only [Act.put, List.getElem_toArray, List.getElem_cons_succ, List.getElem_cons_zero, List.setIfInBounds_toArray, List.set_cons_zero, List.set_cons_succ]
  refine hm_one (i := 4) (by kernel_rfl) ?_
  refine hm_step 4 rfl (by kernel_rfl) fun K hK => ?_
  try simp only [Act.put, List.getElem_toArray, List.getElem_cons_succ, List.getElem_cons_zero, List.setIfInBounds_toArray, List.set_cons_zero, List.set_cons_succ]
  go_simp
  go_at_call 7
  refine (equal_any Na Nb rfl (Lib.hid fun _ _ => rfl)).mono ?_
  rintro e wq ⟨rfl, rfl⟩
  have E4_4 := E3_3
  refine hK _ _ (E4_4.out) ?_
  clear hK K
  try simp only [Act.put, List.getElem_toArray, List.getElem_cons_succ, List.getElem_cons_zero, List.setIfInBounds_toArray, List.set_cons_zero, List.set_cons_succ]
  refine hm_run 5 31 (.bool true) rfl rfl (by kernel_rfl) (by kernel_rfl) (by kernel_rfl) (fun _ _ _ h => h) rfl (fun _ _ => rfl) (E4_4.out) ?_
  try simp only [Act.put, List.getElem_toArray, List.getElem_cons_succ, List.getElem_cons_zero, List.setIfInBounds_toArray, List.set_cons_zero, List.set_cons_succ]
  refine hm_run 6 32 (.agg (arr 68 (hc f0))) rfl rfl (by kernel_rfl) (by kernel_rfl) (by kernel_rfl) (fun _ _ _ h => h) rfl (fun Wx hW => exec_load rfl (load_hdr (GA.out Wx hW) List.mem_cons_self)) (E4_4.out) ?_
  try simp only [Act.put, List.getElem_toArray, List.getElem_cons_succ, List.getElem_cons_zero, List.setIfInBounds_toArray, List.set_cons_zero, List.set_cons_succ]
  refine hm_run 8 34 (.agg (arr 68 (hc f0))) rfl rfl (by kernel_rfl) (by kernel_rfl) (by kernel_rfl) (fun _ _ _ h => h) rfl (fun Wx hW => exec_load rfl (load_hdr (GA.out Wx hW) List.mem_cons_self)) (E4_4.out) ?_
  try simp only [Act.put, List.getElem_toArray, List.getElem_cons_succ, List.getElem_cons_zero, List.setIfInBounds_toArray, List.set_cons_zero, List.set_cons_succ]
  refine hm_one (i := 7) (by kernel_rfl) ?_
  refine hm_step 7 rfl (by kernel_rfl) fun K hK => ?_
  try simp only [Act.put, List.getElem_toArray, List.getElem_cons_succ, List.getElem_cons_zero, List.setIfInBounds_toArray, List.set_cons_zero, List.set_cons_succ]
  go_simp
  go_at_call 10
  refine (id_any ok (Lib.hid (KL.out.below (GA.out _ E4_4.out).below))).mono ?_
  rintro e wd ⟨rfl, hb⟩
  have E8_7 := Lib.hid (E4_4.out.call hb)
  clear hb
  refine hK _ _ (E8_7.out) ?_
  clear hK K
  try simp only [Act.put, List.getElem_toArray, List.getElem_cons_succ, List.getElem_cons_zero, List.setIfInBounds_toArray, List.set_cons_zero, List.set_cons_succ]
  refine hm_one (i := 9) (by kernel_rfl) ?_
  refine hm_step 9 rfl (by kernel_rfl) fun K hK => ?_
  try simp only [Act.put, List.getElem_toArray, List.getElem_cons_succ, List.getElem_cons_zero, List.setIfInBounds_toArray, List.set_cons_zero, List.set_cons_succ]
  go_simp
  go_at_call 11
  refine (rid_any ok).mono ?_
  rintro e we ⟨rfl, hb⟩
  have E9_9 := Lib.hid (E8_7.out.call hb)
  clear hb
  refine hK _ _ (E9_9.out) ?_
  clear hK K
  try simp only [Act.put, List.getElem_toArray, List.getElem_cons_succ, List.getElem_cons_zero, List.setIfInBounds_toArray, List.set_cons_zero, List.set_cons_succ]
  refine hm_run 10 36 (.bool true) rfl rfl (by kernel_rfl) (by kernel_rfl) (by kernel_rfl) (fun _ _ _ h => h) rfl (fun Wx _ => exec_eql rfl rfl rfl (by kernel_rfl) (S.sum2_same (hx f0) 80 Wx)) (E9_9.out) ?_
  try simp only [Act.put, List.getElem_toArray, List.getElem_cons_succ, List.getElem_cons_zero, List.setIfInBounds_toArray, List.set_cons_zero, List.set_cons_succ]
  refine hm_run 11 37 (.bool true) rfl rfl (by kernel_rfl) (by kernel_rfl) (by kernel_rfl) (fun _ _ _ h => h) rfl (fun _ _ => rfl) (E9_9.out) ?_
  try simp only [Act.put, List.getElem_toArray, List.getElem_cons_succ, List.getElem_cons_zero, List.setIfInBounds_toArray, List.set_cons_zero, List.set_cons_succ]
  refine hm_run 12 38 (.bool true) rfl rfl (by kernel_rfl) (by kernel_rfl) (by kernel_rfl) (fun _ _ _ h => h) rfl (fun _ _ => rfl) (E9_9.out) ?_
  try simp only [Act.put, List.getElem_toArray, List.getElem_cons_succ, List.getElem_cons_zero, List.setIfInBounds_toArray, List.set_cons_zero, List.set_cons_succ]
  refine hm_run 13 39 (.agg (arr 68 (hc h0))) rfl rfl (by kernel_rfl) (by kernel_rfl) (by kernel_rfl) (fun _ _ _ h => h) rfl (fun Wx hW => exec_load rfl (load_hdr (GB.out Wx hW) List.mem_cons_self)) (E9_9.out) ?_
  try simp only [Act.put, List.getElem_toArray, List.getElem_cons_succ, List.getElem_cons_zero, List.setIfInBounds_toArray, List.set_cons_zero, List.set_cons_succ]
  refine hm_run 14 40 (.agg (arr 68 (hc h0))) rfl rfl (by kernel_rfl) (by kernel_rfl) (by kernel_rfl) (fun _ _ _ h => h) rfl (fun Wx hW => exec_load rfl (load_hdr hW List.mem_cons_self)) (E9_9.out) ?_
  try simp only [Act.put, List.getElem_toArray, List.getElem_cons_succ, List.getElem_cons_zero, List.setIfInBounds_toArray, List.set_cons_zero, List.set_cons_succ]
  refine hm_run 15 41 (.bool true) rfl rfl (by kernel_rfl) (by kernel_rfl) (by kernel_rfl) (fun _ _ _ h => h) rfl (fun Wx _ => exec_eql rfl rfl rfl (by kernel_rfl) (same_hdr h0 Wx)) (E9_9.out) ?_
  try simp only [Act.put, List.getElem_toArray, List.getElem_cons_succ, List.getElem_cons_zero, List.setIfInBounds_toArray, List.set_cons_zero, List.set_cons_succ]
  refine hm_run 16 42 (.bool true) rfl rfl (by kernel_rfl) (by kernel_rfl) (by kernel_rfl) (fun _ _ _ h => h) rfl (fun _ _ => rfl) (E9_9.out) ?_
  try simp only [Act.put, List.getElem_toArray, List.getElem_cons_succ, List.getElem_cons_zero, List.setIfInBounds_toArray, List.set_cons_zero, List.set_cons_succ]
  refine hm_run 17 43 (.bool true) rfl rfl (by kernel_rfl) (by kernel_rfl) (by kernel_rfl) (fun _ _ _ h => h) rfl (fun _ _ => rfl) (E9_9.out) ?_
  try simp only [Act.put, List.getElem_toArray, List.getElem_cons_succ, List.getElem_cons_zero, List.setIfInBounds_toArray, List.set_cons_zero, List.set_cons_succ]
  refine hm_run 18 44 (.slice none 0 0) rfl rfl (by kernel_rfl) (by kernel_rfl) (by kernel_rfl) (fun _ _ _ h => h) rfl (fun _ _ => rfl) (E9_9.out) ?_
  try simp only [Act.put, List.getElem_toArray, List.getElem_cons_succ, List.getElem_cons_zero, List.setIfInBounds_toArray, List.set_cons_zero, List.set_cons_succ]
  refine hm_run 19 45 (.slice none 0 0) rfl rfl (by kernel_rfl) (by kernel_rfl) (by kernel_rfl) (fun _ _ _ h => h) rfl (fun _ _ => rfl) (E9_9.out) ?_
  try simp only [Act.put, List.getElem_toArray, List.getElem_cons_succ, List.getElem_cons_zero, List.setIfInBounds_toArray, List.set_cons_zero, List.set_cons_succ]
  refine hm_one (i := 20) (by kernel_rfl) ?_
  refine hm_step 20 rfl (by kernel_rfl) fun K hK => ?_
  try simp only [Act.put, List.getElem_toArray, List.getElem_cons_succ, List.getElem_cons_zero, List.setIfInBounds_toArray, List.set_cons_zero, List.set_cons_succ]
  go_simp
  go_at_call 7
  refine (equal_any (Lib.hid (Row.nothing _ (fun _ => 0) (fun _ => by omega))) (Lib.hid (Row.nothing _ (fun _ => 0) (fun _ => by omega))) rfl (Lib.hid fun _ _ => rfl)).mono ?_
  rintro e wq ⟨rfl, rfl⟩
  have E20_20 := E9_9
  refine hK _ _ (E20_20.out) ?_
  clear hK K
  try simp only [Act.put, List.getElem_toArray, List.getElem_cons_succ, List.getElem_cons_zero, List.setIfInBounds_toArray, List.set_cons_zero, List.set_cons_succ]
  refine hm_run 21 47 (.bool true) rfl rfl (by kernel_rfl) (by kernel_rfl) (by kernel_rfl) (fun _ _ _ h => h) rfl (fun _ _ => rfl) (E20_20.out) ?_
  try simp only [Act.put, List.getElem_toArray, List.getElem_cons_succ, List.getElem_cons_zero, List.setIfInBounds_toArray, List.set_cons_zero, List.set_cons_succ]
  refine hm_run 22 48 (.bool true) rfl rfl (by kernel_rfl) (by kernel_rfl) (by kernel_rfl) (fun _ _ _ h => h) rfl (fun _ _ => rfl) (E20_20.out) ?_
  try simp only [Act.put, List.getElem_toArray, List.getElem_cons_succ, List.getElem_cons_zero, List.setIfInBounds_toArray, List.set_cons_zero, List.set_cons_succ]
  refine hm_run 23 49 _ rfl rfl (by kernel_rfl) (by kernel_rfl) (by kernel_rfl) (fun _ _ _ h => h) rfl (fun _ _ => rfl) (E20_20.out) ?_
  try simp only [Act.put, List.getElem_toArray, List.getElem_cons_succ, List.getElem_cons_zero, List.setIfInBounds_toArray, List.set_cons_zero, List.set_cons_succ]
  refine hm_run 24 50 _ rfl rfl (by kernel_rfl) (by kernel_rfl) (by kernel_rfl) (fun _ _ _ h => h) rfl (fun _ _ => rfl) (E20_20.out) ?_
  try simp only [Act.put, List.getElem_toArray, List.getElem_cons_succ, List.getElem_cons_zero, List.setIfInBounds_toArray, List.set_cons_zero, List.set_cons_succ]
  refine hm_run 25 51 (.bool true) rfl rfl (by kernel_rfl) (by kernel_rfl) (by kernel_rfl) (fun _ _ _ h => h) rfl (fun _ _ => by first | rfl | kernel_rfl) (E20_20.out) ?_
  try simp only [Act.put, List.getElem_toArray, List.getElem_cons_succ, List.getElem_cons_zero, List.setIfInBounds_toArray, List.set_cons_zero, List.set_cons_succ]
  refine hm_run 26 52 (.bool true) rfl rfl (by kernel_rfl) (by kernel_rfl) (by kernel_rfl) (fun _ _ _ h => h) rfl (fun _ _ => rfl) (E20_20.out) ?_
  try simp only [Act.put, List.getElem_toArray, List.getElem_cons_succ, List.getElem_cons_zero, List.setIfInBounds_toArray, List.set_cons_zero, List.set_cons_succ]
  refine hm_run 27 53 (.bool true) rfl rfl (by kernel_rfl) (by kernel_rfl) (by kernel_rfl) (fun _ _ _ h => h) rfl (fun _ _ => rfl) (E20_20.out) ?_
  try simp only [Act.put, List.getElem_toArray, List.getElem_cons_succ, List.getElem_cons_zero, List.setIfInBounds_toArray, List.set_cons_zero, List.set_cons_succ]
  refine hm_run 28 54 (.slice p1 n1 c1) rfl rfl (by kernel_rfl) (by kernel_rfl) (by kernel_rfl) (fun _ _ _ h => h) rfl (fun _ _ => rfl) (E20_20.out) ?_
  try simp only [Act.put, List.getElem_toArray, List.getElem_cons_succ, List.getElem_cons_zero, List.setIfInBounds_toArray, List.set_cons_zero, List.set_cons_succ]
  refine hm_run 29 55 (.slice a1 n1 c0) rfl rfl (by kernel_rfl) (by kernel_rfl) (by kernel_rfl) (fun _ _ _ h => h) rfl (fun _ _ => rfl) (E20_20.out) ?_
  try simp only [Act.put, List.getElem_toArray, List.getElem_cons_succ, List.getElem_cons_zero, List.setIfInBounds_toArray, List.set_cons_zero, List.set_cons_succ]
  refine hm_one (i := 30) (by kernel_rfl) ?_
  refine hm_step 30 rfl (by kernel_rfl) fun K hK => ?_
  try simp only [Act.put, List.getElem_toArray, List.getElem_cons_succ, List.getElem_cons_zero, List.setIfInBounds_toArray, List.set_cons_zero, List.set_cons_succ]
  go_simp
  go_at_call 7
  refine (equal_any (Lib.hid (RG.out.below (GB.out _ E20_20.out).below)) (Lib.hid (RB.out.below (GA.out _ E20_20.out).below)) rfl (Lib.hid fun _ _ => rfl)).mono ?_
  rintro e wq ⟨rfl, rfl⟩
  have E30_30 := E20_20
  refine hK _ _ (E30_30.out) ?_
  clear hK K
  try simp only [Act.put, List.getElem_toArray, List.getElem_cons_succ, List.getElem_cons_zero, List.setIfInBounds_toArray, List.set_cons_zero, List.set_cons_succ]
  refine hm_run 31 57 (.bool true) rfl rfl (by kernel_rfl) (by kernel_rfl) (by kernel_rfl) (fun _ _ _ h => h) rfl (fun _ _ => rfl) (E30_30.out) ?_
  try simp only [Act.put, List.getElem_toArray, List.getElem_cons_succ, List.getElem_cons_zero, List.setIfInBounds_toArray, List.set_cons_zero, List.set_cons_succ]
  refine hm_run 32 4 _ rfl rfl (by kernel_rfl) (by kernel_rfl) (by kernel_rfl) (fun _ _ _ h => h) rfl (fun _ _ => rfl) (E30_30.out) ?_
  try simp only [Act.put, List.getElem_toArray, List.getElem_cons_succ, List.getElem_cons_zero, List.setIfInBounds_toArray, List.set_cons_zero, List.set_cons_succ]
  refine wpAnyH_done (by kernel_rfl) ?_ _
  go_wp2_with fail
  go_ret
  exact ⟨rfl, (GA.out _ E30_30.out).below⟩


theorem walk (f0 : Hd) (ok : f0.Ok) (a1 : Option Addr) (g1 o1 n1 c1 : Nat) (x1 : Nat → Nat) (W : World) (R : Row W a1 g1 o1 n1 c1 x1) (hc' : c1 ≤ 140737488351232) (hL : laidMetH Tryd.prog S.shaLaid W) :
    Calls Tryd.prog 3 #[.agg (arr 68 (hc f0)), .slice a1 n1 c1] W fun e w' => e = .returned (.bool true) ∧ Below W.heap.size W w' := by
  have KL := Lib.hid (show S.Both W from S.of_sha hL)
  by_cases h : n1 < 80
  · exact walk_short (Lib.hid ok) (Lib.hid R) (Nat.le_trans R.le hc') KL h
  · obtain rfl := R.head (by omega)
    exact walk_long (Lib.hid ok) (Lib.hid R) (Nat.le_trans R.le hc') KL (by omega)

set_option maxRecDepth 100000 in
theorem lifted (os : Os) (started : os.Started) (H : Type) (enc : TypeId × Value → H) :
    ReturnsInHanded {} Tryd.checked os 3 .any (fun w args => (Rows.headerTellsSpec.pre enc Tryd.prog Tryd.f3 [] false w args ∧ laidMetH Tryd.prog S.shaLaid w) ∧ sizedMet enc Tryd.prog Tryd.f3 (OpenSpec.ofChange Rows.headerTellsSpec) false w args)
      (Rows.headerTellsSpec.post enc Tryd.prog Tryd.f3 false true false false) := by
  refine returnsInHanded_of_change_and (C := Tryd.checked) (X := fun w _ => laidMetH Tryd.prog S.shaLaid w) (fun _ _ _ hh h => h.of_heap hh) own started (by kernel_rfl) Tryd.func3
    (ChangeSpec.witness_shaped (enc := enc) (C := Tryd.checked) (os := os) (X := fun w _ => laidMetH Tryd.prog S.shaLaid w) false (World.doorLaid Tryd.prog 400 os) #[.agg #[.int .u32 0, .int .u8 0, .int .u8 0, .int .u8 0, .int .u8 0, .int .u8 0, .int .u8 0, .int .u8 0, .int .u8 0, .int .u8 0, .int .u8 0, .int .u8 0, .int .u8 0, .int .u8 0, .int .u8 0, .int .u8 0, .int .u8 0, .int .u8 0, .int .u8 0, .int .u8 0, .int .u8 0, .int .u8 0, .int .u8 0, .int .u8 0, .int .u8 0, .int .u8 0, .int .u8 0, .int .u8 0, .int .u8 0, .int .u8 0, .int .u8 0, .int .u8 0, .int .u8 0, .int .u8 0, .int .u8 0, .int .u8 0, .int .u8 0, .int .u8 0, .int .u8 0, .int .u8 0, .int .u8 0, .int .u8 0, .int .u8 0, .int .u8 0, .int .u8 0, .int .u8 0, .int .u8 0, .int .u8 0, .int .u8 0, .int .u8 0, .int .u8 0, .int .u8 0, .int .u8 0, .int .u8 0, .int .u8 0, .int .u8 0, .int .u8 0, .int .u8 0, .int .u8 0, .int .u8 0, .int .u8 0, .int .u8 0, .int .u8 0, .int .u8 0, .int .u8 0, .int .u32 0, .int .u32 0, .int .u32 0], .slice none 0 0] 8 rfl (World.shaped_of_RefB (by kernel_rfl) (by kernel_rfl)) (by kernel_rfl) (by kernel_rfl) (by kernel_rfl) (S.sha_door_met os _)) ?_
  intro W base args ds gs before hval0 hW _ hsz0 hL _
  have hval : ∀ (j : Nat) t v, Tryd.f3.params[j]? = some t → args[j]? = some v → Value.okWide Tryd.prog W .any base t v := hval0
  have hsz : (DataW.weightsEach Tryd.prog (Tryd.f3.params.toList ++ Rows.headerTellsSpec.plain.varTypes Tryd.prog) (ds ++ gs)).all (· ≤ reachBytes) = true := hsz0
  have hW' := hW
  obtain ⟨p, q, hA0, hV, rfl, hfz, hnd⟩ := hW
  have hA : DataW.TrodAll enc Tryd.prog W 0 (fun _ => true) true Tryd.f3.params.toList args.toList ds p := hA0
  rw [Tryd.params3] at hA hval hsz
  obtain ⟨v0, vs0, d0, ds0, p0, q0, hargs, rfl, rfl, h0', r0⟩ := trodAll_cons hA
  obtain ⟨v1, vs1, d1, ds1, p1, q1, rfl, rfl, rfl, h1, r1⟩ := trodAll_cons r0
  obtain ⟨rfl, rfl, rfl⟩ := trodAll_nil r1
  obtain rfl : args = #[v0, v1] := by cases args; simp_all
  obtain ⟨rfl, rfl⟩ := trodVars_none hV
  have k0 := h0'
  have lt0 : ∀ x ∈ p0, x.block < W.heap.size := by obtain ⟨m, hm⟩ := k0; exact DataW.trod_lt m _ _ _ hm
  have k1 := h1
  have lt1 : ∀ x ∈ p1, x.block < W.heap.size := by obtain ⟨m, hm⟩ := k1; exact DataW.trod_lt m _ _ _ hm
  obtain ⟨f0, rfl, w0⟩ := open_hdr (hval 0 26 v0 rfl rfl) h0'
  obtain ⟨a1, g1, o1, n1, c1, x1, rfl, w1, m1⟩ := open_row (j := 1) (hval 1 27 v1 rfl rfl) h1 hsz rfl rfl
  clear hA0 hval0 hsz0
  refine (walk f0 w0 a1 g1 o1 n1 c1 x1 W w1 m1 hL).mono fun e W' ⟨he, bel⟩ => ?_
  subst he
  exact ⟨_, rfl, _, _, _, [], _, [], hW', trodAll_mk1 (shut_bool Tryd.underlying4 _), (trodAll_cons_mk (Below.trod laidOut (by kernel_rfl) (of_decide_eq_true (by kernel_rfl)) k0 bel lt0) (trodAll_cons_mk (Below.trod laidOut (by kernel_rfl) (of_decide_eq_true (by kernel_rfl)) k1 bel lt1) trodAll_mk0)), rfl, bel.frame _, fun h => by cases h⟩

theorem over : Rows.HeaderTellsSaid :=
  OpenClaim.holds_of_wide 3 Tryd.f3 rfl rfl rfl rfl rfl rfl rfl ⟨rfl, rfl, rfl, rfl, rfl⟩ rfl rfl rfl rfl rfl (by kernel_rfl) Tryd.func3 (by kernel_rfl)
    (of_decide_eq_true (by kernel_rfl)) (by unfold Func.isWrapper; first | (rw [if_pos (by decide +kernel)]; kernel_rfl) | (rw [if_neg (by decide +kernel)]; exact ⟨rfl, rfl⟩))
    (fun os started H enc _ => lifted os started H enc)

/-- The tied card. -/
theorem card_holds : Rows.HeaderTellsCardSaid :=
  Claim7.holds_tied_plain_at .later [] [.data, .data] true (true, "b035fb4cd31cd79926c4e9793d2fc657735209b7e51710f279203c4a206d7c4a") false
    over (fun _ h => by cases h) (by kernel_rfl) (fun _ h => by cases h) headerTells_row_tie rfl ⟨rfl, rfl⟩ (by kernel_rfl) rfl
    (fun f fn hf hfn => by
      obtain rfl : f = 3 := Option.some.inj ((show Tryd.prog.funcNamed "sporran/sporranlaw06.HeaderTells" = some 3 by kernel_rfl).symm.trans hf) |>.symm
      obtain rfl : fn = Tryd.f3 := (Option.some.inj (Tryd.func3.symm.trans hfn)).symm
      exact ⟨by kernel_rfl, fun j t ht => by
        rw [Tryd.params3] at ht
        have hm : t ∈ [26, 27] := by simpa using Array.mem_of_getElem? ht
        have hall : ([26, 27].all fun u => !Tryd.prog.wantsStandIn u) = true := by kernel_rfl
        exact (show Tryd.prog.wantsStandIn t = false by simpa using List.all_eq_true.1 hall t hm)⟩)
    (by kernel_rfl)
#print axioms card_holds
end Go.Proofs.YthnddiimkgahgaaDoor.headerTells
