/- For every slice of bytes (nil too) and every two hashes: a filter's hash and the header that it makes behind another one are the document's; the filter of nothing is one byte; the call returns true. The tables that the row lists (those of packages sha and sip) are laid as the card ties them. No other condition. -/
import Derived.Test.YtbhmolpmlkemdaaDoorFi
import Derived.Test.YtbhmolpmlkemdaaDoorOp
import Derived.Test.YtbhmolpmlkemdaaDoorTie
import Derived.Test.YtbhmolpmlkemdaaDoorCards
import Derived.ShutString
import Derived.ChangeOld
import Derived.Below
import Derived.SevenTiedAt
set_option linter.unusedVariables false
set_option linter.unusedSimpArgs false
namespace Go.Proofs.YtbhmolpmlkemdaaDoor.filterSums
open Go.ChangeShapes Go.WideShapes Go.ChangeAt Go.RowKit Go.Lib Go.Sort Go.Proofs.YtbhmolpmlkemdaaDoor

set_option maxRecDepth 100000
theorem own : ownKnob Tryd.prog.godebug = none := by kernel_rfl
theorem exec_eql {P : Program} {o : Oper} {ev : Operand → Value} {T R : TypeId} {x y : Operand} {a b : Array Value} {W : World} (ho : o.op = .binOp .eql T x y R) (hx : ev x = .agg a) (hy : ev y = .agg b) (hm : P.eqGuardType P.depth T = false) (h : (Op.equalIn 10000 T (.agg a) (.agg b)).run P W = .ok true W) : (execOp ev o).run P W = .ok (.value (.bool true)) W := by
  unfold execOp
  simp only [ho, hx, hy, Sem.run_bind, run_eqGuard_agg W .eql T x y a b hm, run_eql_struct, h, Result.andThen_ok]
  rfl
def byv (z : Nat) : Value := .int .u8 ((z : Nat) : Int)
section
variable {H : Type} {enc : TypeId × Value → H} {W : World} {base : Nat}
theorem open_u8' {fuel : Nat} {cs : List Value} {x : DataW H × List MemPlace} (h : DataW.trod enc Tryd.prog W base (fun _ => true) true fuel 5 cs = some x) : ∃ z : Nat, z < 256 ∧ cs = [.int .u8 (z : Int)] := by
  obtain ⟨n, rfl, _, hw⟩ := DataW.trod_int Tryd.underlying5 h
  simp [Lit.wf, IntKind.min, IntKind.max, IntKind.bits, IntKind.signed] at hw
  exact ⟨n.toNat, by omega, by congr 2; omega⟩
theorem open_id' {fuel : Nat} {cs : List Value} {x : DataW H × List MemPlace} (h : DataW.trod enc Tryd.prog W base (fun _ => true) true fuel 24 cs = some x) : cs.length = 32 ∧ ∃ a : List Nat, a.length = 32 ∧ IsB a ∧ ∀ j, j < 32 → cs[j]? = some (byv (lf a j)) := by
  obtain ⟨xs, m, _, _, hl, hx, hi⟩ := DataW.trod_array Tryd.underlying24 h
  have hC : Tryd.prog.cellsOf 24 = 32 := by kernel_rfl
  rw [hC] at hl
  have key : ∀ i : Nat, ∃ z : Nat, z < 256 ∧ (i < 32 → cs[i]? = some (.int .u8 (z : Int))) := fun i => by
    by_cases h32 : i < 32
    · have h1 := hi i h32
      rw [cellsB, Nat.mul_one, List.getElem?_eq_getElem (by omega)] at h1
      obtain ⟨z, hz, e⟩ := open_u8' h1
      refine ⟨z, hz, fun _ => ?_⟩
      rw [List.drop_eq_getElem_cons (by omega)] at e
      simp only [List.take_succ_cons, List.take_zero, List.cons.injEq, and_true] at e
      rw [List.getElem?_eq_getElem (by omega), e]
    · exact ⟨0, by omega, fun h => absurd h h32⟩
  obtain ⟨f, hf⟩ := Classical.axiomOfChoice key
  refine ⟨hl, tl f 32, tl_length _ _, isB_tl (fun i => (hf i).1) 32, fun j hj => ?_⟩
  rw [lf_tl f hj]
  exact (hf j).2 hj
end
theorem okWide_hash {W : World} {base : Nat} {v : Value} (h : Value.okWide Tryd.prog W .any base 24 v) : ∃ cs, v = .agg cs := by
  simp only [Value.okWide, Tryd.underlying24] at h
  obtain ⟨cs, h1, _⟩ := h
  exact ⟨cs, h1⟩
theorem open_hash_arg {H : Type} {enc : TypeId × Value → H} {W : World} {base : Nat} {v : Value} {d : DataW H} {p : List MemPlace} {b0 : Nat}
    (hv : Value.okWide Tryd.prog W .any b0 24 v) (hd : DataW.Trod enc Tryd.prog W base (fun _ => true) true 24 v d p) : ∃ a : List Nat, IsH a ∧ v = .agg (arr 32 (bv (lf a))) := by
  obtain ⟨cs, rfl⟩ := okWide_hash hv
  obtain ⟨fuel, hf⟩ := hd
  obtain ⟨hl, a, ha, hb, hj⟩ := open_id' hf
  refine ⟨a, ⟨ha, hb⟩, ?_⟩
  congr 1
  apply Array.ext_getElem?
  intro i
  have h4 : cs.size = 32 := by simpa [Value.cells] using hl
  rcases Nat.lt_or_ge i 32 with q | q
  · have := hj i q
    rw [arr_get 32 _ i q]
    simpa [Value.cells, byv, bv] using this
  · rw [Array.getElem?_eq_none (by omega), Array.getElem?_eq_none (by rw [arr_size]; exact q)]
def putC : Array Value → Nat → List Value → Array Value
  | c, _, [] => c
  | c, o, v :: r => putC (c.setIfInBounds o v) (o + 1) r

theorem ld_hash {W : World} {b T : Nat} {f : Nat → Nat} (hb : W.heap[b]? = some (.cells (arr 32 (bv f)) T (0, 0))) : (Instr.loadAt 24 (.pointer (some ⟨b, 0, none⟩))).run Tryd.prog W = .ok (.agg (arr 32 (bv f))) W := by
  have := run_loadAt_mid (P := Tryd.prog) W b 0 24 (arr 32 (bv f)).toList _ (range_all hb) Tryd.underlying24 rfl (by rw [Array.length_toList, arr_size]; kernel_rfl)
  simpa using this
set_option maxHeartbeats 16000000 in
theorem walk (W : World) (hL : laidMetH Tryd.prog S.fiLaid W) (a0 : Option Addr) (g0 o0 n0 c0 : Nat) (x0 : Nat → Nat) (w0 : Row W a0 g0 o0 n0 c0 x0) (m0 : c0 ≤ 140737488351232) (v1 : Value) (t1 : List Nat) (h1 : IsH t1) (e1 : v1 = .agg (arr 32 (bv (lf t1)))) (v2 : Value) (t2 : List Nat) (h2 : IsH t2) (e2 : v2 = .agg (arr 32 (bv (lf t2)))) :
    Calls Tryd.prog 3 #[.slice a0 n0 c0, v1, v2] W fun e w' => e = .returned (.bool true) ∧ Below W.heap.size W w' := by
  subst e1 e2
  have KL := Lib.hid (show S.Both W from S.of_fi hL)
  have E := Lib.hid (Mem.nil W)
  have H1 := Lib.hid h1
  have H2 := Lib.hid h2
  obtain ⟨l0, hl0⟩ : ∃ l, l = tl x0 n0 := ⟨_, rfl⟩
  have R0 : Row W a0 g0 o0 l0.length c0 (lf l0) := by
    rw [hl0, tl_length]
    exact w0.to (fun i hi => (lf_tl _ hi).symm) (lf_lt (isB_tl w0.byte n0))
  have le := w0.le
  have hl : n0 = l0.length := by rw [hl0, tl_length]
  have DSa := Lib.hid (fun w (hb : Below W.heap.size W w) => fisum_any (Lib.hid (R0.below hb)) (by omega) (Lib.hid (KL.out.below hb)))
  have DSx := Lib.hid (fun w (hb : Below W.heap.size W w) => rfisum_any (Lib.hid (R0.below hb)) (by omega))
  rw [← hl] at DSa DSx
  clear hL h1 h2 hl R0 w0 hl0 m0 le
  go_enter Tryd.func3, Tryd.ntmps3
  go_upto_region 1 with (first
    | ((with_reducible refine wpList_at 4 rfl ?_); refine mem_box E 24 rfl _ rfl rfl (arr_cells' 32 (bv (lf t1))) ?_; clear E; intro b4 w4 E)
    | ((with_reducible refine wpList_at 5 rfl ?_); refine mem_box E 24 rfl _ rfl rfl (arr_cells' 32 (bv (lf t2))) ?_; clear E; intro b5 w5 E))
  have CX := Lib.hid (And.intro (E.out.get (b := b4) (T := 24) (c := arr 32 (bv (lf t1))) (List.mem_cons_of_mem _ List.mem_cons_self)) (E.out.get (b := b5) (T := 24) (c := arr 32 (bv (lf t2))) List.mem_cons_self))
  refine wp_region_T (Φ := fun X => Below w5.heap.size w5 X) (S := fun X => X.heap[b4]? = some (.cells (arr 32 (bv (lf t1))) 24 (0, 0)) ∧ X.heap[b5]? = some (.cells (arr 32 (bv (lf t2))) 24 (0, 0))) (Lib.hid (Below.refl _ _)) (fun _ h => h.drew) (fun X h => ⟨(h.block b4 (heap_lt CX.out.1)).trans CX.out.1, (h.block b5 (heap_lt CX.out.2)).trans CX.out.2⟩) (by kernel_rfl) ?_
  intro wx TT S0
  clear CX
  refine hm_run 0 7 (.slice a0 n0 c0) rfl rfl (by kernel_rfl) (by kernel_rfl) (by kernel_rfl) (fun _ _ _ h => h) rfl (fun _ _ => rfl) S0.out ?_
  try simp only [Act.put, List.getElem_toArray, List.getElem_cons_succ, List.getElem_cons_zero, List.setIfInBounds_toArray, List.set_cons_zero, List.set_cons_succ]
  refine hm_run 2 9 (.slice a0 n0 c0) rfl rfl (by kernel_rfl) (by kernel_rfl) (by kernel_rfl) (fun _ _ _ h => h) rfl (fun _ _ => rfl) S0.out ?_
  try simp only [Act.put, List.getElem_toArray, List.getElem_cons_succ, List.getElem_cons_zero, List.setIfInBounds_toArray, List.set_cons_zero, List.set_cons_succ]
  refine hm_one (i := 1) (by kernel_rfl) ?_
  refine hm_step 1 rfl (by kernel_rfl) fun K hK => ?_
  try simp only [Act.put, List.getElem_toArray, List.getElem_cons_succ, List.getElem_cons_zero, List.setIfInBounds_toArray, List.set_cons_zero, List.set_cons_succ]
  go_simp
  go_at_call 4
  refine (DSa.out _ (E.out.below.trans (TT.out.mono E.out.below.size))).mono ?_
  rintro e w7 ⟨rfl, hb7⟩
  replace TT := Lib.hid (TT.out.trans (hb7.mono TT.out.size))
  have S1_2 := Lib.hid (show w7.heap[b4]? = some (.cells (arr 32 (bv (lf t1))) 24 (0, 0)) ∧ w7.heap[b5]? = some (.cells (arr 32 (bv (lf t2))) 24 (0, 0)) from ⟨(hb7.block b4 (heap_lt S0.out.1)).trans S0.out.1, (hb7.block b5 (heap_lt S0.out.2)).trans S0.out.2⟩)
  clear hb7
  refine hK _ _ S1_2.out ?_
  clear hK K
  try simp only [Act.put, List.getElem_toArray, List.getElem_cons_succ, List.getElem_cons_zero, List.setIfInBounds_toArray, List.set_cons_zero, List.set_cons_succ]
  refine hm_one (i := 3) (by kernel_rfl) ?_
  refine hm_step 3 rfl (by kernel_rfl) fun K hK => ?_
  try simp only [Act.put, List.getElem_toArray, List.getElem_cons_succ, List.getElem_cons_zero, List.setIfInBounds_toArray, List.set_cons_zero, List.set_cons_succ]
  go_simp
  go_at_call 5
  refine (DSx.out _ (E.out.below.trans (TT.out.mono E.out.below.size))).mono ?_
  rintro e w7 ⟨rfl, hb7⟩
  replace TT := Lib.hid (TT.out.trans (hb7.mono TT.out.size))
  have S3_3 := Lib.hid (show w7.heap[b4]? = some (.cells (arr 32 (bv (lf t1))) 24 (0, 0)) ∧ w7.heap[b5]? = some (.cells (arr 32 (bv (lf t2))) 24 (0, 0)) from ⟨(hb7.block b4 (heap_lt S1_2.out.1)).trans S1_2.out.1, (hb7.block b5 (heap_lt S1_2.out.2)).trans S1_2.out.2⟩)
  clear hb7
  refine hK _ _ S3_3.out ?_
  clear hK K
  try simp only [Act.put, List.getElem_toArray, List.getElem_cons_succ, List.getElem_cons_zero, List.setIfInBounds_toArray, List.set_cons_zero, List.set_cons_succ]
  refine hm_run 4 11 (.bool true) rfl rfl (by kernel_rfl) (by kernel_rfl) (by kernel_rfl) (fun _ _ _ h => h) rfl (fun W _ => exec_eql rfl rfl rfl (by kernel_rfl) (same_bytes Tryd.underlying24 _ W)) S3_3.out ?_
  try simp only [Act.put, List.getElem_toArray, List.getElem_cons_succ, List.getElem_cons_zero, List.setIfInBounds_toArray, List.set_cons_zero, List.set_cons_succ]
  refine hm_run 5 12 (.bool true) rfl rfl (by kernel_rfl) (by kernel_rfl) (by kernel_rfl) (fun _ _ _ h => h) rfl (fun _ _ => rfl) S3_3.out ?_
  try simp only [Act.put, List.getElem_toArray, List.getElem_cons_succ, List.getElem_cons_zero, List.setIfInBounds_toArray, List.set_cons_zero, List.set_cons_succ]
  refine hm_run 6 13 (.agg (arr 32 (bv (lf t1)))) rfl rfl (by kernel_rfl) (by kernel_rfl) (by kernel_rfl) (fun _ _ _ h => h) rfl (fun W hW => exec_load rfl (ld_hash hW.1)) S3_3.out ?_
  try simp only [Act.put, List.getElem_toArray, List.getElem_cons_succ, List.getElem_cons_zero, List.setIfInBounds_toArray, List.set_cons_zero, List.set_cons_succ]
  refine hm_run 7 14 (.agg (arr 32 (bv (lf t2)))) rfl rfl (by kernel_rfl) (by kernel_rfl) (by kernel_rfl) (fun _ _ _ h => h) rfl (fun W hW => exec_load rfl (ld_hash hW.2)) S3_3.out ?_
  try simp only [Act.put, List.getElem_toArray, List.getElem_cons_succ, List.getElem_cons_zero, List.setIfInBounds_toArray, List.set_cons_zero, List.set_cons_succ]
  refine hm_run 9 16 (.agg (arr 32 (bv (lf t1)))) rfl rfl (by kernel_rfl) (by kernel_rfl) (by kernel_rfl) (fun _ _ _ h => h) rfl (fun W hW => exec_load rfl (ld_hash hW.1)) S3_3.out ?_
  try simp only [Act.put, List.getElem_toArray, List.getElem_cons_succ, List.getElem_cons_zero, List.setIfInBounds_toArray, List.set_cons_zero, List.set_cons_succ]
  refine hm_run 10 17 (.agg (arr 32 (bv (lf t2)))) rfl rfl (by kernel_rfl) (by kernel_rfl) (by kernel_rfl) (fun _ _ _ h => h) rfl (fun W hW => exec_load rfl (ld_hash hW.2)) S3_3.out ?_
  try simp only [Act.put, List.getElem_toArray, List.getElem_cons_succ, List.getElem_cons_zero, List.setIfInBounds_toArray, List.set_cons_zero, List.set_cons_succ]
  refine hm_one (i := 8) (by kernel_rfl) ?_
  refine hm_step 8 rfl (by kernel_rfl) fun K hK => ?_
  try simp only [Act.put, List.getElem_toArray, List.getElem_cons_succ, List.getElem_cons_zero, List.setIfInBounds_toArray, List.set_cons_zero, List.set_cons_succ]
  go_simp
  go_at_call 6
  refine (chain_any H1.out H2.out (Lib.hid (KL.out.below (E.out.below.trans (TT.out.mono E.out.below.size))))).mono ?_
  rintro e w7 ⟨rfl, hb7⟩
  replace TT := Lib.hid (TT.out.trans (hb7.mono TT.out.size))
  have S8_10 := Lib.hid (show w7.heap[b4]? = some (.cells (arr 32 (bv (lf t1))) 24 (0, 0)) ∧ w7.heap[b5]? = some (.cells (arr 32 (bv (lf t2))) 24 (0, 0)) from ⟨(hb7.block b4 (heap_lt S3_3.out.1)).trans S3_3.out.1, (hb7.block b5 (heap_lt S3_3.out.2)).trans S3_3.out.2⟩)
  clear hb7
  refine hK _ _ S8_10.out ?_
  clear hK K
  try simp only [Act.put, List.getElem_toArray, List.getElem_cons_succ, List.getElem_cons_zero, List.setIfInBounds_toArray, List.set_cons_zero, List.set_cons_succ]
  refine hm_one (i := 11) (by kernel_rfl) ?_
  refine hm_step 11 rfl (by kernel_rfl) fun K hK => ?_
  try simp only [Act.put, List.getElem_toArray, List.getElem_cons_succ, List.getElem_cons_zero, List.setIfInBounds_toArray, List.set_cons_zero, List.set_cons_succ]
  go_simp
  go_at_call 7
  refine (rchain_any H1.out H2.out).mono ?_
  rintro e w7 ⟨rfl, hb7⟩
  replace TT := Lib.hid (TT.out.trans (hb7.mono TT.out.size))
  have S11_11 := Lib.hid (show w7.heap[b4]? = some (.cells (arr 32 (bv (lf t1))) 24 (0, 0)) ∧ w7.heap[b5]? = some (.cells (arr 32 (bv (lf t2))) 24 (0, 0)) from ⟨(hb7.block b4 (heap_lt S8_10.out.1)).trans S8_10.out.1, (hb7.block b5 (heap_lt S8_10.out.2)).trans S8_10.out.2⟩)
  clear hb7
  refine hK _ _ S11_11.out ?_
  clear hK K
  try simp only [Act.put, List.getElem_toArray, List.getElem_cons_succ, List.getElem_cons_zero, List.setIfInBounds_toArray, List.set_cons_zero, List.set_cons_succ]
  refine hm_run 12 19 (.bool true) rfl rfl (by kernel_rfl) (by kernel_rfl) (by kernel_rfl) (fun _ _ _ h => h) rfl (fun W _ => exec_eql rfl rfl rfl (by kernel_rfl) (same_bytes Tryd.underlying24 _ W)) S11_11.out ?_
  try simp only [Act.put, List.getElem_toArray, List.getElem_cons_succ, List.getElem_cons_zero, List.setIfInBounds_toArray, List.set_cons_zero, List.set_cons_succ]
  refine hm_run 13 20 (.bool true) rfl rfl (by kernel_rfl) (by kernel_rfl) (by kernel_rfl) (fun _ _ _ h => h) rfl (fun _ _ => rfl) S11_11.out ?_
  try simp only [Act.put, List.getElem_toArray, List.getElem_cons_succ, List.getElem_cons_zero, List.setIfInBounds_toArray, List.set_cons_zero, List.set_cons_succ]
  refine hm_run 14 21 (.bool true) rfl rfl (by kernel_rfl) (by kernel_rfl) (by kernel_rfl) (fun _ _ _ h => h) rfl (fun _ _ => rfl) S11_11.out ?_
  try simp only [Act.put, List.getElem_toArray, List.getElem_cons_succ, List.getElem_cons_zero, List.setIfInBounds_toArray, List.set_cons_zero, List.set_cons_succ]
  refine hm_one (i := 15) (by kernel_rfl) ?_
  refine hm_step 15 rfl (by kernel_rfl) fun K hK => ?_
  try simp only [Act.put, List.getElem_toArray, List.getElem_cons_succ, List.getElem_cons_zero, List.setIfInBounds_toArray, List.set_cons_zero, List.set_cons_succ]
  go_simp
  go_at_call 8
  refine (awake12_any _).mono ?_
  rintro e w7 ⟨rfl, hb7⟩
  replace TT := Lib.hid (TT.out.trans (hb7.mono TT.out.size))
  have S15_15 := Lib.hid (show w7.heap[b4]? = some (.cells (arr 32 (bv (lf t1))) 24 (0, 0)) ∧ w7.heap[b5]? = some (.cells (arr 32 (bv (lf t2))) 24 (0, 0)) from ⟨(hb7.block b4 (heap_lt S11_11.out.1)).trans S11_11.out.1, (hb7.block b5 (heap_lt S11_11.out.2)).trans S11_11.out.2⟩)
  clear hb7
  refine hK _ _ S15_15.out ?_
  clear hK K
  try simp only [Act.put, List.getElem_toArray, List.getElem_cons_succ, List.getElem_cons_zero, List.setIfInBounds_toArray, List.set_cons_zero, List.set_cons_succ]
  refine hm_run 16 23 (.bool true) rfl rfl (by kernel_rfl) (by kernel_rfl) (by kernel_rfl) (fun _ _ _ h => h) rfl (fun _ _ => rfl) S15_15.out ?_
  try simp only [Act.put, List.getElem_toArray, List.getElem_cons_succ, List.getElem_cons_zero, List.setIfInBounds_toArray, List.set_cons_zero, List.set_cons_succ]
  refine hm_run 17 6 (.bool true) rfl rfl (by kernel_rfl) (by kernel_rfl) (by kernel_rfl) (fun _ _ _ h => h) rfl (fun _ _ => rfl) S15_15.out ?_
  try simp only [Act.put, List.getElem_toArray, List.getElem_cons_succ, List.getElem_cons_zero, List.setIfInBounds_toArray, List.set_cons_zero, List.set_cons_succ]
  refine wpAnyH_done (by kernel_rfl) ?_ _
  go_wp2_with fail
  go_ret
  exact ⟨rfl, (E.out.below.trans (TT.out.mono E.out.below.size))⟩

set_option maxRecDepth 100000 in
theorem lifted (os : Os) (started : os.Started) (H : Type) (enc : TypeId × Value → H) :
    ReturnsInHanded {} Tryd.checked os 3 .any (fun w args => (Rows.filterSumsSpec.pre enc Tryd.prog Tryd.f3 [] false w args ∧ laidMetH Tryd.prog S.fiLaid w) ∧ sizedMet enc Tryd.prog Tryd.f3 (OpenSpec.ofChange Rows.filterSumsSpec) false w args)
      (Rows.filterSumsSpec.post enc Tryd.prog Tryd.f3 false true false false) := by
  refine returnsInHanded_of_change_and (C := Tryd.checked) (X := fun w _ => laidMetH Tryd.prog S.fiLaid w) (fun _ _ _ hh h => h.of_heap hh) own started (by kernel_rfl) Tryd.func3
    (ChangeSpec.witness_shaped (enc := enc) (C := Tryd.checked) (os := os) (X := fun w _ => laidMetH Tryd.prog S.fiLaid w) false (World.laidAll Tryd.prog os S.fiLaid) #[.slice none 0 0, .agg #[.int .u8 0, .int .u8 0, .int .u8 0, .int .u8 0, .int .u8 0, .int .u8 0, .int .u8 0, .int .u8 0, .int .u8 0, .int .u8 0, .int .u8 0, .int .u8 0, .int .u8 0, .int .u8 0, .int .u8 0, .int .u8 0, .int .u8 0, .int .u8 0, .int .u8 0, .int .u8 0, .int .u8 0, .int .u8 0, .int .u8 0, .int .u8 0, .int .u8 0, .int .u8 0, .int .u8 0, .int .u8 0, .int .u8 0, .int .u8 0, .int .u8 0, .int .u8 0], .agg #[.int .u8 0, .int .u8 0, .int .u8 0, .int .u8 0, .int .u8 0, .int .u8 0, .int .u8 0, .int .u8 0, .int .u8 0, .int .u8 0, .int .u8 0, .int .u8 0, .int .u8 0, .int .u8 0, .int .u8 0, .int .u8 0, .int .u8 0, .int .u8 0, .int .u8 0, .int .u8 0, .int .u8 0, .int .u8 0, .int .u8 0, .int .u8 0, .int .u8 0, .int .u8 0, .int .u8 0, .int .u8 0, .int .u8 0, .int .u8 0, .int .u8 0, .int .u8 0]] 8 (World.laidAll_os _ _ _)
      (World.shaped_of_ZipB (by kernel_rfl) (by kernel_rfl)) (by kernel_rfl) (by kernel_rfl) (by kernel_rfl)
      (by rw [MakeChecks.laidMetH_plain _ _ _ (by kernel_rfl)]; exact laidMet_laidAll _ (by kernel_rfl) (by kernel_rfl))) ?_
  intro W base args ds gs before hval0 hW _ hsz0 hL _
  have hval : ∀ (j : Nat) t v, Tryd.f3.params[j]? = some t → args[j]? = some v → Value.okWide Tryd.prog W .any base t v := hval0
  have hsz : (DataW.weightsEach Tryd.prog (Tryd.f3.params.toList ++ Rows.filterSumsSpec.plain.varTypes Tryd.prog) (ds ++ gs)).all (· ≤ reachBytes) = true := hsz0
  have hW' := hW
  obtain ⟨p, q, hA0, hV, rfl, hfz, hnd⟩ := hW
  have hA : DataW.TrodAll enc Tryd.prog W 0 (fun _ => true) true Tryd.f3.params.toList args.toList ds p := hA0
  rw [Tryd.params3] at hA hval hsz
  obtain ⟨v0, vs0, d0, ds0, p0, q0, hargs, rfl, rfl, h0, r0⟩ := trodAll_cons hA
  obtain ⟨v1, vs1, d1, ds1, p1, q1, rfl, rfl, rfl, h1, r1⟩ := trodAll_cons r0
  obtain ⟨v2, vs2, d2, ds2, p2, q2, rfl, rfl, rfl, h2, r2⟩ := trodAll_cons r1
  obtain ⟨rfl, rfl, rfl⟩ := trodAll_nil r2
  obtain rfl : args = #[v0, v1, v2] := by cases args; simp_all
  obtain ⟨rfl, rfl⟩ := trodVars_none hV
  have k0 := h0
  have lt0 : ∀ x ∈ p0, x.block < W.heap.size := by obtain ⟨m, hm⟩ := k0; exact DataW.trod_lt m _ _ _ hm
  obtain ⟨a0, g0, o0, n0, c0, x0, rfl, w0, m0⟩ := open_row (j := 0) (hval 0 22 v0 rfl rfl) h0 hsz rfl rfl
  have k1 := h1
  have lt1 : ∀ x ∈ p1, x.block < W.heap.size := by obtain ⟨m, hm⟩ := k1; exact DataW.trod_lt m _ _ _ hm
  obtain ⟨t1, w1, e1⟩ := open_hash_arg (hval 1 24 v1 rfl rfl) h1
  have k2 := h2
  have lt2 : ∀ x ∈ p2, x.block < W.heap.size := by obtain ⟨m, hm⟩ := k2; exact DataW.trod_lt m _ _ _ hm
  obtain ⟨t2, w2, e2⟩ := open_hash_arg (hval 2 24 v2 rfl rfl) h2
  clear hA0 hval0 hsz0
  simp only [List.append_nil] at hW'
  refine (walk W hL a0 g0 o0 n0 c0 x0 w0 m0 v1 t1 w1 e1 v2 t2 w2 e2).mono fun e W' ⟨he, bel⟩ => ?_
  subst he
  exact ⟨_, rfl, _, _, _, [], _, [], hW', trodAll_mk1 (shut_bool Tryd.underlying4 _), (trodAll_cons_mk (Below.trod laidOut (by kernel_rfl) (of_decide_eq_true (by kernel_rfl)) k0 bel lt0) (trodAll_cons_mk (Below.trod laidOut (by kernel_rfl) (of_decide_eq_true (by kernel_rfl)) k1 bel lt1) (trodAll_cons_mk (Below.trod laidOut (by kernel_rfl) (of_decide_eq_true (by kernel_rfl)) k2 bel lt2) trodAll_mk0))), rfl, bel.frame _, fun h => by cases h⟩

theorem over : Rows.FilterSumsSaid :=
  OpenClaim.holds_of_wide 3 Tryd.f3 rfl rfl rfl rfl rfl rfl rfl ⟨rfl, rfl, rfl, rfl, rfl⟩ rfl rfl rfl rfl rfl (by kernel_rfl) Tryd.func3 (by kernel_rfl)
    (of_decide_eq_true (by kernel_rfl)) (by unfold Func.isWrapper; first | (rw [if_pos (by decide +kernel)]; kernel_rfl) | (rw [if_neg (by decide +kernel)]; exact ⟨rfl, rfl⟩))
    (fun os started H enc _ => lifted os started H enc)

/-- The tied card. -/
theorem card_holds : Rows.FilterSumsCardSaid :=
  Claim7.holds_tied_plain_at .later [] [.data, .data, .data] true (true, "125da39a8ff05783131d3fc7b88ba3c9fb84d6d2be29fca4aedc0b6a376515e5") false
    over (fun _ h => by cases h) (by kernel_rfl) (fun _ h => by cases h) filterSums_row_tie rfl ⟨rfl, rfl⟩ (by kernel_rfl) rfl
    (fun f fn hf hfn => by
      obtain rfl : f = 3 := Option.some.inj ((show Tryd.prog.funcNamed "sporran/sporranlaw12.FilterSums" = some 3 by kernel_rfl).symm.trans hf) |>.symm
      obtain rfl : fn = Tryd.f3 := (Option.some.inj (Tryd.func3.symm.trans hfn)).symm
      exact ⟨by kernel_rfl, fun j t ht => by
        rw [Tryd.params3] at ht
        have hm : t ∈ [22, 24] := by simpa using Array.mem_of_getElem? ht
        have hall : ([22, 24].all fun u => !Tryd.prog.wantsStandIn u) = true := by kernel_rfl
        exact (show Tryd.prog.wantsStandIn t = false by simpa using List.all_eq_true.1 hall t hm)⟩)
    (by kernel_rfl)
#print axioms card_holds
end Go.Proofs.YtbhmolpmlkemdaaDoor.filterSums
