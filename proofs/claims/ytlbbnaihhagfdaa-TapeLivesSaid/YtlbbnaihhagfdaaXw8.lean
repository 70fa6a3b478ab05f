/- More calls done on both tapes. -/
import Derived.Test.YtlbbnaihhagfdaaXv8
set_option linter.unusedSimpArgs false
set_option linter.unusedVariables false
set_option maxRecDepth 100000
namespace Go.Proofs.Ytlbbnaihhagfdaa
open Go.RowKit Go.Lib Go.Sort

set_option maxHeartbeats 8000000
theorem does_cut (W : World) (D : World) (a : Ad) (t : St) (J0 : Jo D a t W) (op n : Int) (hn : -9223372036854775808 ≤ n ∧ n ≤ 9223372036854775807) (u rv : Int) (x1' : IntKind.u64.wrap op = u) (x3' : u.tmod 9 = rv) (x4' : IntKind.i64.wrap rv = 5) (q : Option Addr) (h o m d : Nat) (y : Nat → Nat) (R : Row W q h o m d y) (hm : m ≤ 140737488351232) (hR : 0 < m → ¬ a.blk h) :
    Calls Try.prog 12 #[.pointer (some ⟨a.bt, 0, none⟩), .pointer (some ⟨a.bx, 0, none⟩), .agg #[.int .i64 op, .int .i64 n, .slice q m d]] W fun e w' => e = .returned (.bool true) ∧ Does D a W w' := by
  have E := Lib.hid (Mem.nil W)
  have ok := J0.ok
  have HN := Lib.hid hn
  obtain ⟨bt, bs, bx, p, g, c, p2, g2, c2⟩ := a
  have T0 := J0.T
  have X0 := J0.X
  have A0 := Lib.hid J0.ap
  have OK := Lib.hid ok
  have BL := Lib.hid (fun k (hk : Ad.blk ⟨bt, bs, bx, p, g, c, p2, g2, c2⟩ k) => (J0.blk_lt hk))
  have RR := Lib.hid R
  have HM := Lib.hid hm
  have HR := Lib.hid hR
  have JJ := Lib.hid J0
  have TA := Lib.hid T0
  have XA := Lib.hid X0
  clear J0 R hm hR ok hn T0 X0
  go_enter Try.func12, Try.ntmps12
  go_upto_region 1 with ((with_reducible refine wpList_at 5 rfl ?_); refine mem_box E 32 rfl _ rfl rfl (c := #[.int .i64 op, .int .i64 n, .slice q m d]) rfl ?_; intro b5 w1 E1; try simp only [Act.put, List.setIfInBounds_toArray, List.set_cons_zero, List.set_cons_succ])
  have BX : Hid (w1.heap[b5]? = some (.cells #[.int .i64 op, .int .i64 n, .slice q m d] 32 (0, 0)) ∧ W.heap.size ≤ b5) := Lib.hid ⟨E1.out.get List.mem_cons_self, E1.out.ge _ List.mem_cons_self⟩
  have T1 := Lib.hid (TA.out.call E1.out.below)
  have X1 := Lib.hid (XA.out.call E1.out.below)
  have B1 := Lib.hid E1.out.below
  have LB1 := Lib.hid (heap_lt BX.out.1)
  have NB : Hid (b5 ≠ bs ∧ b5 ≠ bx ∧ some b5 ≠ ob p ∧ some b5 ≠ ob p2) := Lib.hid ⟨fun e => by have := (BL.out b5 (.inr (.inl e))).1; have := BX.out.2; omega, fun e => by have := (BL.out b5 (.inr (.inr (.inl e)))).1; have := BX.out.2; omega, fun e => by have := (BL.out b5 (.inr (.inr (.inr (.inl e.symm))))).1; have := BX.out.2; omega, fun e => by have := (BL.out b5 (.inr (.inr (.inr (.inr e.symm))))).1; have := BX.out.2; omega⟩
  clear E E1 TA XA
  go_upto_region 19 with ((with_reducible refine wpList_at 11 rfl ?_); refine wpList_ld1 3 (.tmp 10) rfl rfl rfl Try.underlying3 rfl (cell_of_here BX.out.1 0 rfl) ?_; try simp only [Act.put, List.setIfInBounds_toArray, List.set_cons_zero, List.set_cons_succ])
  refine wp_region_T (Φ := fun X => TS D bt bs t p g c X ∧ XS D bx t p2 g2 c2 X ∧ X.heap[b5]? = some (.cells #[.int .i64 op, .int .i64 n, .slice q m d] 32 (0, 0)) ∧ Below w1.heap.size w1 X) (S := fun X => X.heap[b5]? = some (.cells #[.int .i64 op, .int .i64 n, .slice q m d] 32 (0, 0))) (Lib.hid ⟨T1.out, X1.out, BX.out.1, Below.refl _ _⟩) (fun _ h => ⟨h.1.drew, h.2.1.drew, h.2.2.1, h.2.2.2.drew⟩) (fun _ h => h.2.2.1) (by kernel_rfl) ?_
  intro w5 TT S0
  refine hm_run 0 62 (.pointer (some ⟨bt, 0, none⟩)) rfl rfl (by kernel_rfl) (by kernel_rfl) (by kernel_rfl) (fun _ _ _ h => h) rfl (fun _ _ => rfl) S0.out ?_
  try simp only [Act.put, List.getElem_toArray, List.getElem_cons_succ, List.getElem_cons_zero, List.setIfInBounds_toArray, List.set_cons_zero, List.set_cons_succ]
  refine hm_run 1 63 (.pointer (some ⟨b5, 1, none⟩)) rfl rfl (by kernel_rfl) (by kernel_rfl) (by kernel_rfl) (fun _ _ _ h => h) rfl (fun _ _ => rfl) S0.out ?_
  try simp only [Act.put, List.getElem_toArray, List.getElem_cons_succ, List.getElem_cons_zero, List.setIfInBounds_toArray, List.set_cons_zero, List.set_cons_succ]
  refine hm_run 2 64 (.int .i64 n) rfl rfl (by kernel_rfl) (by kernel_rfl) (by kernel_rfl) (fun _ _ _ h => h) rfl (fun W hW => exec_load rfl (run_load_one Try.underlying3 rfl (cell_of_here hW 1 rfl))) S0.out ?_
  try simp only [Act.put, List.getElem_toArray, List.getElem_cons_succ, List.getElem_cons_zero, List.setIfInBounds_toArray, List.set_cons_zero, List.set_cons_succ]
  refine hm_run 4 66 (.pointer (some ⟨bx, 0, none⟩)) rfl rfl (by kernel_rfl) (by kernel_rfl) (by kernel_rfl) (fun _ _ _ h => h) rfl (fun _ _ => rfl) S0.out ?_
  try simp only [Act.put, List.getElem_toArray, List.getElem_cons_succ, List.getElem_cons_zero, List.setIfInBounds_toArray, List.set_cons_zero, List.set_cons_succ]
  refine hm_run 5 67 (.pointer (some ⟨b5, 1, none⟩)) rfl rfl (by kernel_rfl) (by kernel_rfl) (by kernel_rfl) (fun _ _ _ h => h) rfl (fun _ _ => rfl) S0.out ?_
  try simp only [Act.put, List.getElem_toArray, List.getElem_cons_succ, List.getElem_cons_zero, List.setIfInBounds_toArray, List.set_cons_zero, List.set_cons_succ]
  refine hm_run 6 68 (.int .i64 n) rfl rfl (by kernel_rfl) (by kernel_rfl) (by kernel_rfl) (fun _ _ _ h => h) rfl (fun W hW => exec_load rfl (run_load_one Try.underlying3 rfl (cell_of_here hW 1 rfl))) S0.out ?_
  try simp only [Act.put, List.getElem_toArray, List.getElem_cons_succ, List.getElem_cons_zero, List.setIfInBounds_toArray, List.set_cons_zero, List.set_cons_succ]
  refine hm_one (i := 3) (by kernel_rfl) ?_
  refine hm_step 3 rfl (by kernel_rfl) fun K hK => ?_
  try simp only [Act.put, List.getElem_toArray, List.getElem_cons_succ, List.getElem_cons_zero, List.setIfInBounds_toArray, List.set_cons_zero, List.set_cons_succ]
  go_simp
  go_at_call 24
  refine (tcut_all (Lib.hid TT.out.1) OK.out n).mono ?_
  rintro e w6 ⟨rfl, hT⟩
  obtain ⟨p6, g6, c6, hT6, hX6, hA6, hF6, hL6⟩ := t_step TT.out.1 TT.out.2.1 A0.out hT
  have T6 := Lib.hid hT6
  have X6 := Lib.hid hX6
  have A6 := Lib.hid hA6
  have F6 := Lib.hid ((Fr.below TT.out.2.2.2).same hF6)
  have L6 : Hid (Lies w1 (ob p) (ob p6)) := Lib.hid (fun j e => (hL6 j e).imp id fun q => Nat.le_trans TT.out.2.2.2.size q)
  have S3_6 := Lib.hid ((hF6.block b5 (heap_lt S0.out) NB.out.1 NB.out.2.2.1).trans S0.out)
  clear hT hT6 hX6 hA6 hF6 hL6
  refine hK _ _ S3_6.out ?_
  clear hK K
  try simp only [Act.put, List.getElem_toArray, List.getElem_cons_succ, List.getElem_cons_zero, List.setIfInBounds_toArray, List.set_cons_zero, List.set_cons_succ]
  refine hm_one (i := 7) (by kernel_rfl) ?_
  refine hm_step 7 rfl (by kernel_rfl) fun K hK => ?_
  try simp only [Act.put, List.getElem_toArray, List.getElem_cons_succ, List.getElem_cons_zero, List.setIfInBounds_toArray, List.set_cons_zero, List.set_cons_succ]
  go_simp
  go_at_call 29
  refine (xcut_all X6 OK.out n).mono ?_
  rintro e w7 ⟨rfl, hX⟩
  obtain ⟨p7, g7, c7, hX7, hT7, hA7, hF7, hL7⟩ := x_step T6.out X6.out A6.out hX
  have T7 := Lib.hid hT7
  have X7 := Lib.hid hX7
  have A7 := Lib.hid hA7
  have F7 := Lib.hid hF7
  have L7 := Lib.hid hL7
  have S7_7 := Lib.hid ((hF7.block b5 (heap_lt S3_6.out) NB.out.2.1 (by simp)).trans S3_6.out)
  clear hX hT7 hX7 hA7 hF7 hL7
  refine hK _ _ S7_7.out ?_
  clear hK K
  try simp only [Act.put, List.getElem_toArray, List.getElem_cons_succ, List.getElem_cons_zero, List.setIfInBounds_toArray, List.set_cons_zero, List.set_cons_succ]
  refine hm_run 8 70 (.bool true) rfl rfl (by kernel_rfl) (by kernel_rfl) (by kernel_rfl) (fun _ _ _ h => h) rfl (fun _ _ => exec_eqerr rfl rfl rfl) S7_7.out ?_
  try simp only [Act.put, List.getElem_toArray, List.getElem_cons_succ, List.getElem_cons_zero, List.setIfInBounds_toArray, List.set_cons_zero, List.set_cons_succ]
  refine hm_run 9 6 (.bool true) rfl rfl (by kernel_rfl) (by kernel_rfl) (by kernel_rfl) (fun _ _ _ h => h) rfl (fun _ _ => rfl) S7_7.out ?_
  try simp only [Act.put, List.getElem_toArray, List.getElem_cons_succ, List.getElem_cons_zero, List.setIfInBounds_toArray, List.set_cons_zero, List.set_cons_succ]
  refine wpAnyH_done (by kernel_rfl) ?_ _
  go_wp2
  go_ret
  exact ⟨rfl, does_tx B1.out (cutF_ok OK.out) BL.out T7.out X7.out A7.out (chg_tx F6.out F7.out) L6.out (fun j e => (L7.out j e).imp id fun q => Nat.le_trans F6.out.size q)⟩
theorem does_fuse (W : World) (D : World) (a : Ad) (t : St) (J0 : Jo D a t W) (op n : Int) (hn : -9223372036854775808 ≤ n ∧ n ≤ 9223372036854775807) (u rv : Int) (x1' : IntKind.u64.wrap op = u) (x3' : u.tmod 9 = rv) (x4' : IntKind.i64.wrap rv = 6) (q : Option Addr) (h o m d : Nat) (y : Nat → Nat) (R : Row W q h o m d y) (hm : m ≤ 140737488351232) (hR : 0 < m → ¬ a.blk h) :
    Calls Try.prog 12 #[.pointer (some ⟨a.bt, 0, none⟩), .pointer (some ⟨a.bx, 0, none⟩), .agg #[.int .i64 op, .int .i64 n, .slice q m d]] W fun e w' => e = .returned (.bool true) ∧ Does D a W w' := by
  have E := Lib.hid (Mem.nil W)
  have ok := J0.ok
  have HN := Lib.hid hn
  obtain ⟨bt, bs, bx, p, g, c, p2, g2, c2⟩ := a
  have T0 := J0.T
  have X0 := J0.X
  have A0 := Lib.hid J0.ap
  have OK := Lib.hid ok
  have BL := Lib.hid (fun k (hk : Ad.blk ⟨bt, bs, bx, p, g, c, p2, g2, c2⟩ k) => (J0.blk_lt hk))
  have RR := Lib.hid R
  have HM := Lib.hid hm
  have HR := Lib.hid hR
  have JJ := Lib.hid J0
  have TA := Lib.hid T0
  have XA := Lib.hid X0
  clear J0 R hm hR ok hn T0 X0
  go_enter Try.func12, Try.ntmps12
  go_upto_region 1 with ((with_reducible refine wpList_at 5 rfl ?_); refine mem_box E 32 rfl _ rfl rfl (c := #[.int .i64 op, .int .i64 n, .slice q m d]) rfl ?_; intro b5 w1 E1; try simp only [Act.put, List.setIfInBounds_toArray, List.set_cons_zero, List.set_cons_succ])
  have BX : Hid (w1.heap[b5]? = some (.cells #[.int .i64 op, .int .i64 n, .slice q m d] 32 (0, 0)) ∧ W.heap.size ≤ b5) := Lib.hid ⟨E1.out.get List.mem_cons_self, E1.out.ge _ List.mem_cons_self⟩
  have T1 := Lib.hid (TA.out.call E1.out.below)
  have X1 := Lib.hid (XA.out.call E1.out.below)
  have B1 := Lib.hid E1.out.below
  have LB1 := Lib.hid (heap_lt BX.out.1)
  have NB : Hid (b5 ≠ bs ∧ b5 ≠ bx ∧ some b5 ≠ ob p ∧ some b5 ≠ ob p2) := Lib.hid ⟨fun e => by have := (BL.out b5 (.inr (.inl e))).1; have := BX.out.2; omega, fun e => by have := (BL.out b5 (.inr (.inr (.inl e)))).1; have := BX.out.2; omega, fun e => by have := (BL.out b5 (.inr (.inr (.inr (.inl e.symm))))).1; have := BX.out.2; omega, fun e => by have := (BL.out b5 (.inr (.inr (.inr (.inr e.symm))))).1; have := BX.out.2; omega⟩
  clear E E1 TA XA
  go_upto_region 21 with ((with_reducible refine wpList_at 11 rfl ?_); refine wpList_ld1 3 (.tmp 10) rfl rfl rfl Try.underlying3 rfl (cell_of_here BX.out.1 0 rfl) ?_; try simp only [Act.put, List.setIfInBounds_toArray, List.set_cons_zero, List.set_cons_succ])
  refine wp_region_T (Φ := fun X => TS D bt bs t p g c X ∧ XS D bx t p2 g2 c2 X ∧ X.heap[b5]? = some (.cells #[.int .i64 op, .int .i64 n, .slice q m d] 32 (0, 0)) ∧ Below w1.heap.size w1 X) (S := fun X => X.heap[b5]? = some (.cells #[.int .i64 op, .int .i64 n, .slice q m d] 32 (0, 0))) (Lib.hid ⟨T1.out, X1.out, BX.out.1, Below.refl _ _⟩) (fun _ h => ⟨h.1.drew, h.2.1.drew, h.2.2.1, h.2.2.2.drew⟩) (fun _ h => h.2.2.1) (by kernel_rfl) ?_
  intro w5 TT S0
  refine hm_run 0 73 (.pointer (some ⟨bt, 0, none⟩)) rfl rfl (by kernel_rfl) (by kernel_rfl) (by kernel_rfl) (fun _ _ _ h => h) rfl (fun _ _ => rfl) S0.out ?_
  try simp only [Act.put, List.getElem_toArray, List.getElem_cons_succ, List.getElem_cons_zero, List.setIfInBounds_toArray, List.set_cons_zero, List.set_cons_succ]
  refine hm_run 1 74 (.pointer (some ⟨b5, 1, none⟩)) rfl rfl (by kernel_rfl) (by kernel_rfl) (by kernel_rfl) (fun _ _ _ h => h) rfl (fun _ _ => rfl) S0.out ?_
  try simp only [Act.put, List.getElem_toArray, List.getElem_cons_succ, List.getElem_cons_zero, List.setIfInBounds_toArray, List.set_cons_zero, List.set_cons_succ]
  refine hm_run 2 75 (.int .i64 n) rfl rfl (by kernel_rfl) (by kernel_rfl) (by kernel_rfl) (fun _ _ _ h => h) rfl (fun W hW => exec_load rfl (run_load_one Try.underlying3 rfl (cell_of_here hW 1 rfl))) S0.out ?_
  try simp only [Act.put, List.getElem_toArray, List.getElem_cons_succ, List.getElem_cons_zero, List.setIfInBounds_toArray, List.set_cons_zero, List.set_cons_succ]
  refine hm_run 4 77 (.pointer (some ⟨bx, 0, none⟩)) rfl rfl (by kernel_rfl) (by kernel_rfl) (by kernel_rfl) (fun _ _ _ h => h) rfl (fun _ _ => rfl) S0.out ?_
  try simp only [Act.put, List.getElem_toArray, List.getElem_cons_succ, List.getElem_cons_zero, List.setIfInBounds_toArray, List.set_cons_zero, List.set_cons_succ]
  refine hm_run 5 78 (.pointer (some ⟨b5, 1, none⟩)) rfl rfl (by kernel_rfl) (by kernel_rfl) (by kernel_rfl) (fun _ _ _ h => h) rfl (fun _ _ => rfl) S0.out ?_
  try simp only [Act.put, List.getElem_toArray, List.getElem_cons_succ, List.getElem_cons_zero, List.setIfInBounds_toArray, List.set_cons_zero, List.set_cons_succ]
  refine hm_run 6 79 (.int .i64 n) rfl rfl (by kernel_rfl) (by kernel_rfl) (by kernel_rfl) (fun _ _ _ h => h) rfl (fun W hW => exec_load rfl (run_load_one Try.underlying3 rfl (cell_of_here hW 1 rfl))) S0.out ?_
  try simp only [Act.put, List.getElem_toArray, List.getElem_cons_succ, List.getElem_cons_zero, List.setIfInBounds_toArray, List.set_cons_zero, List.set_cons_succ]
  refine hm_one (i := 3) (by kernel_rfl) ?_
  refine hm_step 3 rfl (by kernel_rfl) fun K hK => ?_
  try simp only [Act.put, List.getElem_toArray, List.getElem_cons_succ, List.getElem_cons_zero, List.setIfInBounds_toArray, List.set_cons_zero, List.set_cons_succ]
  go_simp
  go_at_call 23
  refine (tfuse_all (Lib.hid TT.out.1) n).mono ?_
  rintro e w6 ⟨rfl, hT⟩
  obtain ⟨p6, g6, c6, hT6, hX6, hA6, hF6, hL6⟩ := t_step TT.out.1 TT.out.2.1 A0.out hT
  have T6 := Lib.hid hT6
  have X6 := Lib.hid hX6
  have A6 := Lib.hid hA6
  have F6 := Lib.hid ((Fr.below TT.out.2.2.2).same hF6)
  have L6 : Hid (Lies w1 (ob p) (ob p6)) := Lib.hid (fun j e => (hL6 j e).imp id fun q => Nat.le_trans TT.out.2.2.2.size q)
  have S3_6 := Lib.hid ((hF6.block b5 (heap_lt S0.out) NB.out.1 NB.out.2.2.1).trans S0.out)
  clear hT hT6 hX6 hA6 hF6 hL6
  refine hK _ _ S3_6.out ?_
  clear hK K
  try simp only [Act.put, List.getElem_toArray, List.getElem_cons_succ, List.getElem_cons_zero, List.setIfInBounds_toArray, List.set_cons_zero, List.set_cons_succ]
  refine hm_one (i := 7) (by kernel_rfl) ?_
  refine hm_step 7 rfl (by kernel_rfl) fun K hK => ?_
  try simp only [Act.put, List.getElem_toArray, List.getElem_cons_succ, List.getElem_cons_zero, List.setIfInBounds_toArray, List.set_cons_zero, List.set_cons_succ]
  go_simp
  go_at_call 30
  refine (xfuse_all X6 n).mono ?_
  rintro e w7 ⟨rfl, hX⟩
  obtain ⟨p7, g7, c7, hX7, hT7, hA7, hF7, hL7⟩ := x_step T6.out X6.out A6.out hX
  have T7 := Lib.hid hT7
  have X7 := Lib.hid hX7
  have A7 := Lib.hid hA7
  have F7 := Lib.hid hF7
  have L7 := Lib.hid hL7
  have S7_7 := Lib.hid ((hF7.block b5 (heap_lt S3_6.out) NB.out.2.1 (by simp)).trans S3_6.out)
  clear hX hT7 hX7 hA7 hF7 hL7
  refine hK _ _ S7_7.out ?_
  clear hK K
  try simp only [Act.put, List.getElem_toArray, List.getElem_cons_succ, List.getElem_cons_zero, List.setIfInBounds_toArray, List.set_cons_zero, List.set_cons_succ]
  refine hm_run 8 81 (.bool true) rfl rfl (by kernel_rfl) (by kernel_rfl) (by kernel_rfl) (fun _ _ _ h => h) rfl (fun _ _ => exec_eqerr rfl rfl rfl) S7_7.out ?_
  try simp only [Act.put, List.getElem_toArray, List.getElem_cons_succ, List.getElem_cons_zero, List.setIfInBounds_toArray, List.set_cons_zero, List.set_cons_succ]
  refine hm_run 9 6 (.bool true) rfl rfl (by kernel_rfl) (by kernel_rfl) (by kernel_rfl) (fun _ _ _ h => h) rfl (fun _ _ => rfl) S7_7.out ?_
  try simp only [Act.put, List.getElem_toArray, List.getElem_cons_succ, List.getElem_cons_zero, List.setIfInBounds_toArray, List.set_cons_zero, List.set_cons_succ]
  refine wpAnyH_done (by kernel_rfl) ?_ _
  go_wp2
  go_ret
  exact ⟨rfl, does_tx B1.out (fuseF_ok HN.out.2 OK.out) BL.out T7.out X7.out A7.out (chg_tx F6.out F7.out) L6.out (fun j e => (L7.out j e).imp id fun q => Nat.le_trans F6.out.size q)⟩
theorem does_room (W : World) (D : World) (a : Ad) (t : St) (J0 : Jo D a t W) (op n : Int) (hn : -9223372036854775808 ≤ n ∧ n ≤ 9223372036854775807) (u rv : Int) (x1' : IntKind.u64.wrap op = u) (x3' : u.tmod 9 = rv) (x4' : IntKind.i64.wrap rv = 7) (q : Option Addr) (h o m d : Nat) (y : Nat → Nat) (R : Row W q h o m d y) (hm : m ≤ 140737488351232) (hR : 0 < m → ¬ a.blk h) :
    Calls Try.prog 12 #[.pointer (some ⟨a.bt, 0, none⟩), .pointer (some ⟨a.bx, 0, none⟩), .agg #[.int .i64 op, .int .i64 n, .slice q m d]] W fun e w' => e = .returned (.bool true) ∧ Does D a W w' := by
  have E := Lib.hid (Mem.nil W)
  have ok := J0.ok
  have HN := Lib.hid hn
  obtain ⟨bt, bs, bx, p, g, c, p2, g2, c2⟩ := a
  have T0 := J0.T
  have X0 := J0.X
  have A0 := Lib.hid J0.ap
  have OK := Lib.hid ok
  have BL := Lib.hid (fun k (hk : Ad.blk ⟨bt, bs, bx, p, g, c, p2, g2, c2⟩ k) => (J0.blk_lt hk))
  have RR := Lib.hid R
  have HM := Lib.hid hm
  have HR := Lib.hid hR
  have JJ := Lib.hid J0
  have TA := Lib.hid T0
  have XA := Lib.hid X0
  clear J0 R hm hR ok hn T0 X0
  go_enter Try.func12, Try.ntmps12
  go_upto_region 1 with ((with_reducible refine wpList_at 5 rfl ?_); refine mem_box E 32 rfl _ rfl rfl (c := #[.int .i64 op, .int .i64 n, .slice q m d]) rfl ?_; intro b5 w1 E1; try simp only [Act.put, List.setIfInBounds_toArray, List.set_cons_zero, List.set_cons_succ])
  have BX : Hid (w1.heap[b5]? = some (.cells #[.int .i64 op, .int .i64 n, .slice q m d] 32 (0, 0)) ∧ W.heap.size ≤ b5) := Lib.hid ⟨E1.out.get List.mem_cons_self, E1.out.ge _ List.mem_cons_self⟩
  have T1 := Lib.hid (TA.out.call E1.out.below)
  have X1 := Lib.hid (XA.out.call E1.out.below)
  have B1 := Lib.hid E1.out.below
  have LB1 := Lib.hid (heap_lt BX.out.1)
  have NB : Hid (b5 ≠ bs ∧ b5 ≠ bx ∧ some b5 ≠ ob p ∧ some b5 ≠ ob p2) := Lib.hid ⟨fun e => by have := (BL.out b5 (.inr (.inl e))).1; have := BX.out.2; omega, fun e => by have := (BL.out b5 (.inr (.inr (.inl e)))).1; have := BX.out.2; omega, fun e => by have := (BL.out b5 (.inr (.inr (.inr (.inl e.symm))))).1; have := BX.out.2; omega, fun e => by have := (BL.out b5 (.inr (.inr (.inr (.inr e.symm))))).1; have := BX.out.2; omega⟩
  clear E E1 TA XA
  go_upto_region 23 with ((with_reducible refine wpList_at 11 rfl ?_); refine wpList_ld1 3 (.tmp 10) rfl rfl rfl Try.underlying3 rfl (cell_of_here BX.out.1 0 rfl) ?_; try simp only [Act.put, List.setIfInBounds_toArray, List.set_cons_zero, List.set_cons_succ])
  refine wp_region_T (Φ := fun X => TS D bt bs t p g c X ∧ XS D bx t p2 g2 c2 X ∧ X.heap[b5]? = some (.cells #[.int .i64 op, .int .i64 n, .slice q m d] 32 (0, 0)) ∧ Below w1.heap.size w1 X) (S := fun X => X.heap[b5]? = some (.cells #[.int .i64 op, .int .i64 n, .slice q m d] 32 (0, 0))) (Lib.hid ⟨T1.out, X1.out, BX.out.1, Below.refl _ _⟩) (fun _ h => ⟨h.1.drew, h.2.1.drew, h.2.2.1, h.2.2.2.drew⟩) (fun _ h => h.2.2.1) (by kernel_rfl) ?_
  intro w5 TT S0
  refine hm_run 0 84 (.pointer (some ⟨bt, 0, none⟩)) rfl rfl (by kernel_rfl) (by kernel_rfl) (by kernel_rfl) (fun _ _ _ h => h) rfl (fun _ _ => rfl) S0.out ?_
  try simp only [Act.put, List.getElem_toArray, List.getElem_cons_succ, List.getElem_cons_zero, List.setIfInBounds_toArray, List.set_cons_zero, List.set_cons_succ]
  refine hm_run 1 85 (.pointer (some ⟨b5, 1, none⟩)) rfl rfl (by kernel_rfl) (by kernel_rfl) (by kernel_rfl) (fun _ _ _ h => h) rfl (fun _ _ => rfl) S0.out ?_
  try simp only [Act.put, List.getElem_toArray, List.getElem_cons_succ, List.getElem_cons_zero, List.setIfInBounds_toArray, List.set_cons_zero, List.set_cons_succ]
  refine hm_run 2 86 (.int .i64 n) rfl rfl (by kernel_rfl) (by kernel_rfl) (by kernel_rfl) (fun _ _ _ h => h) rfl (fun W hW => exec_load rfl (run_load_one Try.underlying3 rfl (cell_of_here hW 1 rfl))) S0.out ?_
  try simp only [Act.put, List.getElem_toArray, List.getElem_cons_succ, List.getElem_cons_zero, List.setIfInBounds_toArray, List.set_cons_zero, List.set_cons_succ]
  refine hm_run 4 88 (.pointer (some ⟨bx, 0, none⟩)) rfl rfl (by kernel_rfl) (by kernel_rfl) (by kernel_rfl) (fun _ _ _ h => h) rfl (fun _ _ => rfl) S0.out ?_
  try simp only [Act.put, List.getElem_toArray, List.getElem_cons_succ, List.getElem_cons_zero, List.setIfInBounds_toArray, List.set_cons_zero, List.set_cons_succ]
  refine hm_run 5 89 (.pointer (some ⟨b5, 1, none⟩)) rfl rfl (by kernel_rfl) (by kernel_rfl) (by kernel_rfl) (fun _ _ _ h => h) rfl (fun _ _ => rfl) S0.out ?_
  try simp only [Act.put, List.getElem_toArray, List.getElem_cons_succ, List.getElem_cons_zero, List.setIfInBounds_toArray, List.set_cons_zero, List.set_cons_succ]
  refine hm_run 6 90 (.int .i64 n) rfl rfl (by kernel_rfl) (by kernel_rfl) (by kernel_rfl) (fun _ _ _ h => h) rfl (fun W hW => exec_load rfl (run_load_one Try.underlying3 rfl (cell_of_here hW 1 rfl))) S0.out ?_
  try simp only [Act.put, List.getElem_toArray, List.getElem_cons_succ, List.getElem_cons_zero, List.setIfInBounds_toArray, List.set_cons_zero, List.set_cons_succ]
  refine hm_one (i := 3) (by kernel_rfl) ?_
  refine hm_step 3 rfl (by kernel_rfl) fun K hK => ?_
  try simp only [Act.put, List.getElem_toArray, List.getElem_cons_succ, List.getElem_cons_zero, List.setIfInBounds_toArray, List.set_cons_zero, List.set_cons_succ]
  go_simp
  go_at_call 25
  refine (troom_all (Lib.hid TT.out.1) n).mono ?_
  rintro e w6 ⟨rfl, hT⟩
  obtain ⟨p6, g6, c6, hT6, hX6, hA6, hF6, hL6⟩ := t_step TT.out.1 TT.out.2.1 A0.out hT
  have T6 := Lib.hid hT6
  have X6 := Lib.hid hX6
  have A6 := Lib.hid hA6
  have F6 := Lib.hid ((Fr.below TT.out.2.2.2).same hF6)
  have L6 : Hid (Lies w1 (ob p) (ob p6)) := Lib.hid (fun j e => (hL6 j e).imp id fun q => Nat.le_trans TT.out.2.2.2.size q)
  have S3_6 := Lib.hid ((hF6.block b5 (heap_lt S0.out) NB.out.1 NB.out.2.2.1).trans S0.out)
  clear hT hT6 hX6 hA6 hF6 hL6
  refine hK _ _ S3_6.out ?_
  clear hK K
  try simp only [Act.put, List.getElem_toArray, List.getElem_cons_succ, List.getElem_cons_zero, List.setIfInBounds_toArray, List.set_cons_zero, List.set_cons_succ]
  refine hm_one (i := 7) (by kernel_rfl) ?_
  refine hm_step 7 rfl (by kernel_rfl) fun K hK => ?_
  try simp only [Act.put, List.getElem_toArray, List.getElem_cons_succ, List.getElem_cons_zero, List.setIfInBounds_toArray, List.set_cons_zero, List.set_cons_succ]
  go_simp
  go_at_call 31
  refine (xroom_all X6 n).mono ?_
  rintro e w7 ⟨rfl, hX⟩
  obtain ⟨p7, g7, c7, hX7, hT7, hA7, hF7, hL7⟩ := x_step T6.out X6.out A6.out hX
  have T7 := Lib.hid hT7
  have X7 := Lib.hid hX7
  have A7 := Lib.hid hA7
  have F7 := Lib.hid hF7
  have L7 := Lib.hid hL7
  have S7_7 := Lib.hid ((hF7.block b5 (heap_lt S3_6.out) NB.out.2.1 (by simp)).trans S3_6.out)
  clear hX hT7 hX7 hA7 hF7 hL7
  refine hK _ _ S7_7.out ?_
  clear hK K
  try simp only [Act.put, List.getElem_toArray, List.getElem_cons_succ, List.getElem_cons_zero, List.setIfInBounds_toArray, List.set_cons_zero, List.set_cons_succ]
  refine hm_run 8 92 (.bool true) rfl rfl (by kernel_rfl) (by kernel_rfl) (by kernel_rfl) (fun _ _ _ h => h) rfl (fun _ _ => exec_eqerr rfl rfl rfl) S7_7.out ?_
  try simp only [Act.put, List.getElem_toArray, List.getElem_cons_succ, List.getElem_cons_zero, List.setIfInBounds_toArray, List.set_cons_zero, List.set_cons_succ]
  refine hm_run 9 6 (.bool true) rfl rfl (by kernel_rfl) (by kernel_rfl) (by kernel_rfl) (fun _ _ _ h => h) rfl (fun _ _ => rfl) S7_7.out ?_
  try simp only [Act.put, List.getElem_toArray, List.getElem_cons_succ, List.getElem_cons_zero, List.setIfInBounds_toArray, List.set_cons_zero, List.set_cons_succ]
  refine wpAnyH_done (by kernel_rfl) ?_ _
  go_wp2
  go_ret
  exact ⟨rfl, does_tx B1.out (roomF_ok OK.out) BL.out T7.out X7.out A7.out (chg_tx F6.out F7.out) L6.out (fun j e => (L7.out j e).imp id fun q => Nat.le_trans F6.out.size q)⟩
section
variable {D w w1 : World} {bt bs bx : Nat} {p : Option Addr} {g c : Nat} {xs : List Nat} {v : Value} {s r u k : Int} {f : Bool} {S : Nat → Prop}
theorem tq_keep (T : Tq D bt bs v s r f k p g c xs w) (h : Chg S w w1) (hn : ∀ j, j = bt ∨ j = bs ∨ ob p = some j → ¬ S j) (hD : ∀ j, S j → D.heap.size ≤ j) : Tq D bt bs v s r f k p g c xs w1 := by
  have hB : Below D.heap.size w w1 := ⟨h.os, h.tape, h.output, h.size, fun k hk => h.block k (Nat.lt_of_lt_of_le hk T.mem.below.size) (fun e => by have := hD k e; omega)⟩
  refine wb_keep T hB (fun q hq => ?_) (fun j e => h.block j (T.lies j e).2 (hn j (.inr (.inr e))))
  have hq2 : q = (bt, 53, #[.pointer (some ⟨bs, 0, none⟩)]) ∨ q = (bs, 59, #[v, .int .i64 s, .int .i64 r, .bool f, .int .i64 k]) := by simpa using hq
  rcases hq2 with rfl | rfl
  · exact h.block _ (heap_lt T.cT) (hn _ (.inl rfl))
  · exact h.block _ (heap_lt T.cS) (hn _ (.inr (.inl rfl)))
theorem xq_keep (X : Xq D bx v s r u p g c xs w) (h : Chg S w w1) (hn : ∀ j, j = bx ∨ ob p = some j → ¬ S j) (hD : ∀ j, S j → D.heap.size ≤ j) : Xq D bx v s r u p g c xs w1 := by
  have hB : Below D.heap.size w w1 := ⟨h.os, h.tape, h.output, h.size, fun k hk => h.block k (Nat.lt_of_lt_of_le hk X.mem.below.size) (fun e => by have := hD k e; omega)⟩
  refine wb_keep X hB (fun q hq => ?_) (fun j e => h.block j (X.lies j e).2 (hn j (.inr e)))
  obtain rfl : q = _ := by simpa using hq
  exact h.block _ (heap_lt X.cX) (hn _ (.inl rfl))
end
theorem xor_lt {x : Nat} (h : x < 256) : x ^^^ 1 < 256 := Nat.xor_lt_two_pow (n := 8) h (by omega)
theorem does_app0 (W : World) (D : World) (a : Ad) (t : St) (J0 : Jo D a t W) (op n : Int) (hn : -9223372036854775808 ≤ n ∧ n ≤ 9223372036854775807) (u rv : Int) (x1' : IntKind.u64.wrap op = u) (x3' : u.tmod 9 = rv) (x4' : IntKind.i64.wrap rv = 0) (q : Option Addr) (h o m d : Nat) (y : Nat → Nat) (R : Row W q h o m d y) (hm : m ≤ 140737488351232) (hR : 0 < m → ¬ a.blk h) :
    Calls Try.prog 12 #[.pointer (some ⟨a.bt, 0, none⟩), .pointer (some ⟨a.bx, 0, none⟩), .agg #[.int .i64 op, .int .i64 n, .slice q m d]] W fun e w' => e = .returned (.bool true) ∧ Does D a W w' := by
  have E := Lib.hid (Mem.nil W)
  have ok := J0.ok
  have HN := Lib.hid hn
  obtain ⟨bt, bs, bx, p, g, c, p2, g2, c2⟩ := a
  have T0 := J0.T
  have X0 := J0.X
  have A0 := Lib.hid J0.ap
  have OK := Lib.hid ok
  have BL := Lib.hid (fun k (hk : Ad.blk ⟨bt, bs, bx, p, g, c, p2, g2, c2⟩ k) => (J0.blk_lt hk))
  have RR := Lib.hid R
  have HM := Lib.hid hm
  have HR := Lib.hid hR
  have JJ := Lib.hid J0
  have TA := Lib.hid T0
  have XA := Lib.hid X0
  clear J0 R hm hR ok hn T0 X0
  go_enter Try.func12, Try.ntmps12
  go_upto_region 1 with ((with_reducible refine wpList_at 5 rfl ?_); refine mem_box E 32 rfl _ rfl rfl (c := #[.int .i64 op, .int .i64 n, .slice q m d]) rfl ?_; intro b5 w1 E1; try simp only [Act.put, List.setIfInBounds_toArray, List.set_cons_zero, List.set_cons_succ])
  have BX : Hid (w1.heap[b5]? = some (.cells #[.int .i64 op, .int .i64 n, .slice q m d] 32 (0, 0)) ∧ W.heap.size ≤ b5) := Lib.hid ⟨E1.out.get List.mem_cons_self, E1.out.ge _ List.mem_cons_self⟩
  have T1 := Lib.hid (TA.out.call E1.out.below)
  have X1 := Lib.hid (XA.out.call E1.out.below)
  have B1 := Lib.hid E1.out.below
  have LB1 := Lib.hid (heap_lt BX.out.1)
  have NB : Hid (b5 ≠ bs ∧ b5 ≠ bx ∧ some b5 ≠ ob p ∧ some b5 ≠ ob p2) := Lib.hid ⟨fun e => by have := (BL.out b5 (.inr (.inl e))).1; have := BX.out.2; omega, fun e => by have := (BL.out b5 (.inr (.inr (.inl e)))).1; have := BX.out.2; omega, fun e => by have := (BL.out b5 (.inr (.inr (.inr (.inl e.symm))))).1; have := BX.out.2; omega, fun e => by have := (BL.out b5 (.inr (.inr (.inr (.inr e.symm))))).1; have := BX.out.2; omega⟩
  clear E E1 TA XA
  go_upto_region 11 with (first
    | ((with_reducible refine wpList_at 11 rfl ?_); refine wpList_ld1 3 (.tmp 10) rfl rfl rfl Try.underlying3 rfl (cell_of_here BX.out.1 0 rfl) ?_; try simp only [Act.put, List.setIfInBounds_toArray, List.set_cons_zero, List.set_cons_succ])
    | ((with_reducible refine wpList_at 30 rfl ?_); refine wpList_ld1 22 (.tmp 29) rfl rfl rfl Try.underlying22 rfl (cell_of_here BX.out.1 2 rfl) ?_; try simp only [Act.put, List.setIfInBounds_toArray, List.set_cons_zero, List.set_cons_succ])
    | (go_at_call 22; refine (clone_any (Lib.hid (RR.out.below B1.out)) (by have := HM.out; omega)).mono ?_; rintro e w2 ⟨pg, gg, cg, rfl, hN, hb⟩; have N2 := Lib.hid hN; have T2 := Lib.hid (T1.out.call hb); have X2 := Lib.hid (X1.out.call hb); have B2 := Lib.hid hb; replace BX := Lib.hid (And.intro ((hb.block b5 (heap_lt BX.out.1)).trans BX.out.1) BX.out.2); clear hN hb)
    | (go_at_call 14; refine (tapp_all T2 OK.out (Lib.hid N2.out.row) HM.out (fun h0 => ⟨fun e => by have := (T1.out.lies _ e.symm).2; have := (own_ge N2.out h0).1; omega, fun e => by have := heap_lt T1.out.cS; have := (own_ge N2.out h0).1; omega⟩)).mono ?_; rintro e w3 ⟨rfl, hT⟩; obtain ⟨p', g', c', hT', hX', hA', hF', hL'⟩ := t_step T2.out X2.out A0.out hT; have T3 := Lib.hid hT'; have X3 := Lib.hid hX'; have A3 := Lib.hid hA'; have F3 := Lib.hid hF'; have L3 := Lib.hid hL'; replace BX := Lib.hid (And.intro ((hF'.block b5 (heap_lt BX.out.1) NB.out.1 NB.out.2.2.1).trans BX.out.1) BX.out.2); clear hT hT' hX' hA' hF' hL'))
  clear x1' x3' x4'
  have LB5 : Hid (b5 < w1.heap.size) := LB1
  have N3 : Hid (Own w1.heap.size w3 pg gg m cg y) := Lib.hid (own_keep N2.out F3.out.size fun k e => by
    have hk := World.ownsRow.lt N2.out.own k (by rw [ob_own]; exact e)
    refine F3.out.block k hk.2 (fun e2 => ?_) (fun e2 => ?_)
    · have := heap_lt T1.out.cS; omega
    · have := (T1.out.lies k e2.symm).2; omega)
  have GG : Hid (0 < m → w1.heap.size ≤ gg ∧ gg < w2.heap.size) := Lib.hid fun h0 => World.ownsRow.lt N2.out.own gg (by rw [ob_own]; exact (own_ge N2.out h0).2)
  have M47 : m ≤ 140737488351232 := HM.out
  go_loopg [37] m (fun k i wr => ∃ (z : Nat) (x' : Nat → Nat), z + k = m ∧ i = .int .i64 (z : Int) ∧ Hid (Own w1.heap.size wr pg gg m cg x') ∧ Hid (Chg (fun k => 0 < m ∧ k = gg) w3 wr))
  case atStart => exact ⟨0, y, by omega, rfl, N3, Lib.hid (Chg.refl _ _)⟩
  case round =>
    clear N3
    obtain ⟨z, x', hz, rfl, N4, F4⟩ := hrel
    obtain ⟨kk, rfl⟩ : ∃ kk : Nat, kk = gk := ⟨_, rfl⟩
    by_cases hlt : z < m
    · obtain rfl := N4.out.row.head (by omega)
      have CC := Lib.hid (N4.out.row.cell z hlt)
      have XB := Lib.hid (N4.out.byte z)
      go_wp2_with (first
        | ((with_reducible refine wpList_at 42 rfl ?_); refine wpList_ix (k := 1) (j := z) Try.underlying22 (by kernel_rfl) (.tmp 40) (.tmp 41) rfl rfl rfl rfl hlt rfl ?_; rw [Nat.mul_one, Nat.zero_add]; try simp only [Act.put, List.setIfInBounds_toArray, List.set_cons_zero, List.set_cons_succ])
        | ((with_reducible refine wpList_at 43 rfl ?_); refine wpList_ld1 5 (.tmp 42) rfl rfl rfl Try.underlying5 rfl (by have := CC.out; rw [Nat.zero_add] at this; exact this) ?_; try simp only [Act.put, List.setIfInBounds_toArray, List.set_cons_zero, List.set_cons_succ])
        | ((with_reducible refine wpList_at 44 rfl ?_); refine wpList_known4 rfl (.int .u8 ((x' z ^^^ 1 : Nat) : Int)) _ (exec_xor8 rfl rfl rfl XB.out) ?_; try simp only [Act.put, List.setIfInBounds_toArray, List.set_cons_zero, List.set_cons_succ])
        | ((with_reducible refine wpList_at 45 rfl ?_); refine wpList_ix (k := 1) (j := z) Try.underlying22 (by kernel_rfl) (.tmp 40) (.tmp 41) rfl rfl rfl rfl hlt rfl ?_; rw [Nat.mul_one, Nat.zero_add]; try simp only [Act.put, List.setIfInBounds_toArray, List.set_cons_zero, List.set_cons_succ])
        | ((with_reducible refine wpList_atn rfl ?_); refine wpList_bputf (v := x' z ^^^ 1) rfl (.tmp 45) (.tmp 44) rfl N4 rfl rfl hlt (xor_lt XB.out) ?_; intro w5 N5 F5))
      go_roundg (m - (z + 1))
      case measure => omega
      case rel => exact ⟨z + 1, _, by omega, by go_num, N5, Lib.hid (F4.out.trans (Chg.fr F5.out) (fun j _ hs => by
        rcases hs with e | e
        · exact ⟨by omega, e⟩
        · cases e))⟩
    · have T4 : Hid (TS D bt bs (appF t (tl y m)).2 p' g' c' wr) := Lib.hid (tq_keep T3.out F4.out (fun k hk hs => by
        have := GG.out hs.1
        have := heap_lt T1.out.cS
        have := heap_lt T1.out.cT
        rcases hk with e | e | e
        · omega
        · omega
        · rcases L3.out k e with e2 | e2
          · have := (T1.out.lies k e2).2; omega
          · omega) (fun k hs => by have := GG.out hs.1; have := T1.out.mem.below.size; omega))
      have X4 : Hid (XS D bx t p2 g2 c2 wr) := Lib.hid (xq_keep X3.out F4.out (fun k hk hs => by
        have := GG.out hs.1
        have := heap_lt X1.out.cX
        rcases hk with e | e
        · omega
        · have := (X1.out.lies k e).2; omega) (fun k hs => by have := GG.out hs.1; have := T1.out.mem.below.size; omega))
      have BX4 : Hid (wr.heap[b5]? = some (.cells #[.int .i64 op, .int .i64 n, .slice q m d] 32 (0, 0)) ∧ W.heap.size ≤ b5) := Lib.hid ⟨(F4.out.block b5 (heap_lt BX.out.1) (fun hs => by have := GG.out hs.1; have := LB5.out; omega)).trans BX.out.1, BX.out.2⟩
      have R4 : Hid (Row wr q h o m d y) := Lib.hid (row_keep RR.out fun h0 => by
        have hlt : h < W.heap.size := cell_lt (RR.out.cell 0 h0)
        have hn := HR.out h0
        have s1 := B1.out.size
        have s2 := B2.out.size
        rw [F4.out.block h (by have := F3.out.size; omega) (fun hs => by have := GG.out hs.1; omega), F3.out.block h (by omega) (fun e => hn (.inr (.inl e))) (fun e => hn (.inr (.inr (.inr (.inl e.symm))))), B2.out.block h (by omega), B1.out.block h hlt])
      have HF : Hid (0 < m → h ≠ bx) := Lib.hid fun h0 e => HR.out h0 (.inr (.inr (.inl e)))
      have CH : Hid (Chg (fun k => k = bs ∨ k = bx ∨ some k = ob p ∨ W.heap.size ≤ k) w1 wr) := Lib.hid (((Chg.below B2.out : Chg (fun k => k = bs ∨ k = bx ∨ some k = ob p ∨ W.heap.size ≤ k) w1 w2).trans (Chg.fr F3.out) (fun j _ hs => by
        rcases hs with e | e
        · exact .inl e
        · exact .inr (.inr (.inl e)))).trans F4.out (fun j _ hs => .inr (.inr (.inr (by have := GG.out hs.1; have := B1.out.size; omega)))))
      have LL : Hid (Lies w1 (ob p) (ob p')) := Lib.hid fun j e => (L3.out j e).imp id fun q => Nat.le_trans B2.out.size q
      clear BX T3 X3
      have BX := BX4
      clear BX4
      go_wp2_with (first
        | ((with_reducible refine wpList_at 50 rfl ?_); refine wpList_ld1 22 (.tmp 49) rfl rfl rfl Try.underlying22 rfl (cell_of_here BX.out.1 2 rfl) ?_; try simp only [Act.put, List.setIfInBounds_toArray, List.set_cons_zero, List.set_cons_succ])
        | (go_at_call 15; refine (xapp_all X4 OK.out R4 HM.out HF.out).mono ?_; rintro e w5 ⟨rfl, hX⟩; obtain ⟨p'', g'', c'', hX', hT', hA', hF', hL'⟩ := x_step T4.out X4.out A3.out hX; have T5 := Lib.hid hT'; have X5 := Lib.hid hX'; have A5 := Lib.hid hA'; have F5 := Lib.hid hF'; have L5 := Lib.hid hL'; replace BX := Lib.hid (And.intro ((hF'.block b5 (heap_lt BX.out.1) NB.out.2.1 (by simp)).trans BX.out.1) BX.out.2); clear hX hT' hX' hA' hF' hL')
        | ((with_reducible refine wpList_at 52 rfl ?_); refine wpList_known4 rfl (.bool true) _ (exec_eqerr rfl rfl rfl) ?_; try simp only [Act.put, List.setIfInBounds_toArray, List.set_cons_zero, List.set_cons_succ]))
      go_ret
      refine ⟨rfl, does_tx B1.out (appF_ok OK.out) BL.out T5.out X5.out A5.out (CH.out.trans (Chg.fr F5.out) (fun j _ hs => ?_)) LL.out (fun j e => (L5.out j e).imp id fun q => Nat.le_trans CH.out.size q)⟩
      rcases hs with e | e
      · exact .inr (.inl e)
      · cases e
end Go.Proofs.Ytlbbnaihhagfdaa
