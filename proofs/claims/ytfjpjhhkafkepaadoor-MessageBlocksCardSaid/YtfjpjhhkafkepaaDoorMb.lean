/- The message of a block: Encode. -/
import Derived.Test.YtfjpjhhkafkepaaDoorMa
import Derived.Test.YtfjpjhhkafkepaaDoorRbe
set_option linter.unusedSimpArgs false
set_option linter.unusedVariables false
set_option maxRecDepth 100000
namespace Go.Proofs.YtfjpjhhkafkepaaDoor
open Go.RowKit Go.Lib Go.Sort Go.WideShapes

theorem exec_neqE {o : Oper} {ev : Operand → Value} {W : World} {x y : Operand} {a b : Int} {q : Bool} (ho : o.op = .binOp .neq 33 x y 33) (hx : ev x = .int .i64 a) (hy : ev y = .int .i64 b) (hq : decide (a = b) = !q) : (execOp ev o).run Tryd.prog W = .ok (.value (.bool q)) W := by
  obtain rfl : q = !decide (a = b) := by rw [hq]; simp
  unfold execOp
  by_cases h : a = b
  · subst h
    simp [ho, hx, hy, go_sem, Tryd.underlying33]
  · simp [ho, hx, hy, go_sem, Tryd.underlying33, h]
theorem exec_gtri {o : Oper} {ev : Operand → Value} {W : World} {x y : Operand} {a b : Int} {q : Bool} (ho : o.op = .binOp .gtr 3 x y 3) (hx : ev x = .int .i64 a) (hy : ev y = .int .i64 b) (hq : decide (b < a) = q) : (execOp ev o).run Tryd.prog W = .ok (.value (.bool q)) W := by
  subst hq
  unfold execOp
  by_cases h : b < a
  · simp [ho, hx, hy, go_sem, Tryd.underlying3, h]
  · simp [ho, hx, hy, go_sem, Tryd.underlying3, h]
/-- What a block's Encode answers: the error and the bytes. -/
noncomputable def bres (t : TBlk) : Int × List Nat := if 2000 < t.txs.length ∨ t.txs.any (fun x => !canB x) = true then (1, []) else if 200000 < (blkB t).length then (91, []) else (0, blkB t)
theorem bres_len (t : TBlk) : (bres t).2.length ≤ 200000 := by
  unfold bres
  split
  · simp
  · split
    · simp
    · simp only
      omega
def BRes (W : World) (t : TBlk) (e : Ending) (w' : World) : Prop := ∃ p g c, e = .returned (.tuple #[.slice p (bres t).2.length c, .int .i64 (bres t).1]) ∧ Own W.heap.size w' p g (bres t).2.length c (lf (bres t).2) ∧ Below W.heap.size W w'
theorem BEnc.res {W w' : World} {t : TBlk} {e : Ending} (h : BEnc W t e w') : BRes W t e w' := by
  unfold BEnc at h
  unfold BRes bres
  split at h
  · rename_i h1
    rw [if_pos h1]
    exact ⟨none, 0, 0, h.1, own_nothing _ _ _ (lf_lt isB_nil) h.2.size, h.2⟩
  · rename_i h1
    rw [if_neg h1]
    split at h
    · rename_i h2
      rw [if_pos h2]
      exact ⟨none, 0, 0, h.1, own_nothing _ _ _ (lf_lt isB_nil) h.2.size, h.2⟩
    · rename_i h2
      rw [if_neg h2]
      exact h
theorem benc_res {W : World} {v : Value} {t : TBlk} (A : Hid (BlkAt W v t)) : Calls Tryd.prog 21 #[v] W (BRes W t) := (benc_any A).mono fun _ _ h => h.res
theorem rbenc_res {W : World} {v : Value} {t : TBlk} (A : Hid (BlkAt W v t)) : Calls Tryd.prog 5 #[v] W (BRes W t) := (rbenc_any A).mono fun _ _ h => h.res
theorem built_msgb (V : Nat → Value) : Tryd.prog.built 40 (#[(0, .int .i64 12), (8, .agg (arr 69 V))] : Array (Nat × Value)).toList = some (arr 139 (msgV 12 V)) := by kernel_rfl
theorem blk_mid {W : World} {b T : Nat} {V : Nat → Value} (hb : W.heap[b]? = some (.cells (arr 139 (msgV 12 V)) T (0, 0))) : (Instr.loadAt 29 (.pointer (some ⟨b, 70, none⟩))).run Tryd.prog W = .ok (.agg (arr 69 V)) W := by
  have hr : W.rangeAt b 70 (vs V 69) := fun j v hj => by
    obtain ⟨h, rfl⟩ := vs_get _ _ _ _ hj
    rw [cell_of_here hb (70 + j) (arr_get 139 _ (70 + j) (by omega))]
    unfold msgV
    rw [if_neg (by omega), if_neg (by omega), if_neg (by omega), if_neg (by omega), if_neg (by omega), Nat.add_sub_cancel_left]
  have := run_loadAt_mid (P := Tryd.prog) W b 70 29 (vs V 69) _ hr Tryd.underlying29 rfl (by rw [vs_length]; kernel_rfl)
  rwa [vs_arr] at this
/-- The parts of a block's layout. -/
def pj (j : Nat) : Int := if j = 0 then 9 else 0
theorem plen_any {w : World} {M : Nat → Value} (j : Nat) : Calls Tryd.prog 8 #[.int .i64 (pj j), .agg (arr 139 M)] w fun e w' => e = .returned (.int .i64 0) ∧ Below w.heap.size w w' := by
  have E := Lib.hid (Mem.nil w)
  unfold pj
  split
  · go_enter Tryd.func8, Tryd.ntmps8
    go_wp2_with ((with_reducible refine wpList_at 3 rfl ?_); refine mem_box E 40 rfl _ rfl rfl (arr_cells' 139 M) ?_; clear E; intro b3 w3 E)
    go_ret
    exact ⟨rfl, E.out.below⟩
  · go_enter Tryd.func8, Tryd.ntmps8
    go_wp2_with ((with_reducible refine wpList_at 3 rfl ?_); refine mem_box E 40 rfl _ rfl rfl (arr_cells' 139 M) ?_; clear E; intro b3 w3 E)
    go_ret
    exact ⟨rfl, E.out.below⟩
set_option maxHeartbeats 4000000 in
theorem pbytes_none {w : World} {M : Nat → Value} : Calls Tryd.prog 9 #[.int .i64 0, .agg (arr 139 M)] w fun e w' => e = .returned (.tuple #[.slice none 0 0, .int .i64 0]) ∧ Below w.heap.size w w' := by
  have E := Lib.hid (Mem.nil w)
  go_enter Tryd.func9, Tryd.ntmps9
  go_wp2_with ((with_reducible refine wpList_at 3 rfl ?_); refine mem_box E 40 rfl _ rfl rfl (arr_cells' 139 M) ?_; clear E; intro b3 w3 E)
  go_ret2
  exact ⟨rfl, E.out.below⟩
set_option maxHeartbeats 4000000 in
theorem pbytes_body {w : World} {V : Nat → Value} {t : TBlk} (A : Hid (BlkAt w (.agg (arr 69 V)) t)) : Calls Tryd.prog 9 #[.int .i64 9, .agg (arr 139 (msgV 12 V))] w (BRes w t) := by
  have E := Lib.hid (Mem.nil w)
  go_enter Tryd.func9, Tryd.ntmps9
  go_wp2_with (first
    | ((with_reducible refine wpList_at 3 rfl ?_); refine mem_box E 40 rfl _ rfl rfl (arr_cells' 139 (msgV 12 V)) ?_; clear E; intro b3 w3 E)
    | ((with_reducible refine wpList_at 59 rfl ?_); refine wpList_ld 29 (.tmp 58) rfl rfl rfl (blk_mid (E.out.get List.mem_cons_self)) ?_)
    | (go_at_call 21; refine (benc_res (Lib.hid (A.out.below E.out.below))).mono ?_; rintro e w4 ⟨p, g, c, rfl, N, hb⟩; have NN4 := Lib.hid (N.mono E.out.below.size); have B4 := Lib.hid (E.out.below.trans (hb.mono E.out.below.size)); clear N hb))
  go_ret2
  exact ⟨p, g, c, rfl, NN4.out, B4.out⟩
/-- What a part of a block's message gives. -/
noncomputable def pres (t : TBlk) (j : Nat) : Int × List Nat := if j = 0 then bres t else (0, [])
theorem pres_zero {t : TBlk} (h : (bres t).1 = 0) (j : Nat) : (pres t j).1 = 0 := by
  unfold pres
  split
  · exact h
  · rfl
theorem pres_len (t : TBlk) (j : Nat) : (pres t j).2.length ≤ 200000 := by
  unfold pres
  split
  · exact bres_len t
  · simp
theorem pbytes_any {w : World} {V : Nat → Value} {t : TBlk} (A : Hid (BlkAt w (.agg (arr 69 V)) t)) (j : Nat) : Calls Tryd.prog 9 #[.int .i64 (pj j), .agg (arr 139 (msgV 12 V))] w fun e w' => ∃ p g c, e = .returned (.tuple #[.slice p (pres t j).2.length c, .int .i64 (pres t j).1]) ∧ Own w.heap.size w' p g (pres t j).2.length c (lf (pres t j).2) ∧ Below w.heap.size w w' := by
  unfold pj pres
  split
  · exact pbytes_body A
  · refine pbytes_none.mono ?_
    rintro e w' ⟨rfl, hb⟩
    exact ⟨none, 0, 0, rfl, own_nothing _ _ _ (lf_lt isB_nil) hb.size, hb⟩
theorem lay_at12 (w : World) : (Instr.indexAt 50 (.pointer (some ⟨0, 0, none⟩)) (.int .i64 12)).run Tryd.prog w = .ok (.pointer (some ⟨0, 96, none⟩)) w := by kernel_rfl
theorem par12_index (j : Nat) (hj : j < 6) (w : World) : (Instr.index 47 (.agg (arr 6 fun i => mcell 12 (1 + i))) (.int .i64 (j : Int))).run Tryd.prog w = .ok (.int .i64 (pj j)) w := by
  match j, hj with
  | 0, _ => (show _ = _; kernel_rfl)
  | 1, _ => (show _ = _; kernel_rfl)
  | 2, _ => (show _ = _; kernel_rfl)
  | 3, _ => (show _ = _; kernel_rfl)
  | 4, _ => (show _ = _; kernel_rfl)
  | 5, _ => (show _ = _; kernel_rfl)
theorem par12_load {W : World} {b : Nat} (hb : W.heap[b]? = some (.cells (arr 8 (mcell 12)) 49 (0, 0))) : (Instr.loadAt 47 (.pointer (some ⟨b, 1, none⟩))).run Tryd.prog W = .ok (.agg (arr 6 fun i => mcell 12 (1 + i))) W := by
  have hr : W.rangeAt b 1 (vs (fun i => mcell 12 (1 + i)) 6) := fun j v hj => by
    obtain ⟨h, rfl⟩ := vs_get _ _ _ _ hj
    exact cell_of_here hb (1 + j) (arr_get 8 _ (1 + j) (by omega))
  have := run_loadAt_mid (P := Tryd.prog) W b 1 47 (vs (fun i => mcell 12 (1 + i)) 6) _ hr Tryd.underlying47 rfl (by rw [vs_length]; kernel_rfl)
  rwa [vs_arr] at this
theorem own_keepK {B : Nat} {w w' : World} {T : TypeId} {p : Option Addr} {g n c : Nat} {x : Nat → Nat} (h : Own B w p g n c x) (k : KeepT T w w') (hT : (5 : TypeId) ≠ T) : Own B w' p g n c x := ⟨ownsRow_keep h.own k hT, h.spot, h.byte, Nat.le_trans h.low k.size⟩
theorem own_join {B : Nat} {w : World} {p : Option Addr} {g c n m : Nat} {xs ys zs : List Nat} (N : Own B w p g (n + m) c (cat (lf ys) n (lf zs))) (hn : n = ys.length) (hm : m = zs.length) (h : ys ++ zs = xs) : Own B w p g xs.length c (lf xs) := by
  subst hn hm h
  rw [List.length_append]
  exact N.to (fun i hi => lf_cat _ _ _) fun i => by have := N.byte i; rwa [lf_cat] at this
theorem nb3 (a b d : Nat) (x y z : Array Value) : ∀ q, q ∈ [(a, (49 : TypeId), x), (b, 32, y), (d, 40, z)] → q.2.1 ≠ 5 := fun q hq => by
  simp only [List.mem_cons, List.not_mem_nil, or_false] at hq
  rcases hq with rfl | rfl | rfl
  · show (49 : TypeId) ≠ 5; decide
  · show (32 : TypeId) ≠ 5; decide
  · show (40 : TypeId) ≠ 5; decide
theorem plen_nine {w : World} {M : Nat → Value} : Calls Tryd.prog 8 #[.int .i64 9, .agg (arr 139 M)] w fun e w' => e = .returned (.int .i64 0) ∧ Below w.heap.size w w' := plen_any 0
def fV (s : ByteArray) (v : Value) : Nat → Value := fun i => if i = 0 then .string s else v
theorem infoFV : (Tryd.prog.info? 32).map (fun i => (i.zero, i.size)) = some (some (.agg (arr 2 (fV ⟨#[]⟩ (.slice none 0 0)))), 2) := by kernel_rfl
theorem built_fV0 : Tryd.prog.built 32 (#[] : Array (Nat × Value)).toList = some (arr 2 (fV ⟨#[]⟩ (.slice none 0 0))) := by kernel_rfl
theorem built_fV (s : ByteArray) (p : Option Addr) (n c : Nat) : Tryd.prog.built 32 (#[(0, .string s), (1, .slice p n c)] : Array (Nat × Value)).toList = some (arr 2 (fV s (.slice p n c))) := by kernel_rfl
theorem fV_one (s : ByteArray) (p : Option Addr) (n c : Nat) : (arr 2 (fV s (.slice p n c))).all (·.oneCell') = true := Array.all_eq_true_iff_forall_mem.2 fun v hv => by
  simp only [arr, List.mem_toArray, List.mem_map] at hv
  obtain ⟨i, _, rfl⟩ := hv
  unfold fV
  split <;> rfl
/-- What Encode answers of a block's message. -/
noncomputable def fres (t : TBlk) (p : Option Addr) (c : Nat) : Value := if (bres t).1 = 0 then .agg (arr 2 (fV (mcom 12) (.slice p (bres t).2.length c))) else .agg (arr 2 (fV ⟨#[]⟩ (.slice none 0 0)))
def MEnd (W : World) (t : TBlk) (e : Ending) (w' : World) : Prop := ∃ p g c, e = .returned (.tuple #[fres t p c, .int .i64 (bres t).1]) ∧ Own W.heap.size w' p g (bres t).2.length c (lf (bres t).2) ∧ Below W.heap.size W w'
set_option maxHeartbeats 16000000 in
theorem menc_good {W : World} {V : Nat → Value} {t : TBlk} (A : Hid (BlkAt W (.agg (arr 69 V)) t)) (L : Hid (MLaid W)) (h0 : (bres t).1 = 0) : Calls Tryd.prog 4 #[.agg (arr 139 (msgV 12 V))] W (MEnd W t) := by
  have E := Lib.hid (Mem.nil W)
  have H0 := Lib.hid h0
  clear h0
  obtain ⟨xs, hxs⟩ : ∃ xs, xs = (bres t).2 := ⟨_, rfl⟩
  have XS := Lib.hid hxs
  have XL := Lib.hid (show xs.length ≤ 200000 by rw [hxs]; exact bres_len t)
  clear hxs
  go_enter Tryd.func4, Tryd.ntmps4
  go_wp2_with (first
    | ((with_reducible refine wpList_at 1 rfl ?_); refine mem_box E 40 rfl _ rfl rfl (arr_cells' 139 (msgV 12 V)) ?_; clear E; intro b1 w1 E)
    | ((with_reducible refine wpList_at 2 rfl ?_); refine mem_alloc E 32 rfl rfl infoFV ?_; clear E; intro b2 w2 E; simp only [arr_cells'] at E)
    | ((with_reducible refine wpList_at 11 rfl ?_); refine mem_load_cell E 3 rfl (.tmp 10) rfl rfl (List.mem_cons_of_mem _ List.mem_cons_self) Tryd.underlying3 rfl (v := .int .i64 12) rfl ?_)
    | ((with_reducible refine wpList_at 15 rfl ?_); refine mem_load_cell E 3 rfl (.tmp 14) rfl rfl (List.mem_cons_of_mem _ List.mem_cons_self) Tryd.underlying3 rfl (v := .int .i64 12) rfl ?_)
    | ((with_reducible refine wpList_at 20 rfl ?_); refine mem_load_cell E 3 rfl (.tmp 19) rfl rfl (List.mem_cons_of_mem _ List.mem_cons_self) Tryd.underlying3 rfl (v := .int .i64 12) rfl ?_)
    | ((with_reducible refine wpList_at 21 rfl ?_); refine wpList_kn rfl (.pointer (some ⟨0, 96, none⟩)) (by exact exec_ix rfl (lay_at12 _)) ?_)
    | ((with_reducible refine wpList_at 22 rfl ?_); refine wpList_ld 49 (.tmp 21) rfl rfl rfl (show _ = Result.ok (.agg (arr 8 (mcell 12))) _ from (L.out.below E.out.below).one (j := 12) (by omega)) ?_)
    | ((with_reducible refine wpList_at 4 rfl ?_); refine mem_alloc E 49 rfl rfl infoLay ?_; clear E; intro b4 w4 E; simp only [arr_cells'] at E)
    | ((with_reducible refine wpList_atn rfl ?_); refine mem_store_row 0 E 49 rfl (.tmp 4) (.tmp 22) rfl rfl rfl rfl (by kernel_rfl) (by simp only [arr_size]) (lay_one _) ?_; clear E; intro w5 E; simp only [List.set_cons_zero] at E)
    | ((with_reducible refine wpList_at 24 rfl ?_); refine wpList_ld 47 (.tmp 23) rfl rfl rfl (par12_load (E.out.get List.mem_cons_self)) ?_))
  go_loopg [5, 25] 6 (fun k pl i wr => ∃ (j : Nat) (p : Option Addr) (g n c : Nat) (ys : List Nat), j + k = 6 ∧ i = .int .i64 (j : Int) ∧ pl = .slice p n c ∧ Hid (n = ys.length) ∧ Hid (Mem W [(b4, 49, arr 8 (mcell 12)), (b2, 32, arr 2 (fV ⟨#[]⟩ (.slice none 0 0))), (b1, 40, arr 139 (msgV 12 V))] wr) ∧ Hid (Own W.heap.size wr p g ys.length c (lf ys)) ∧ Hid (ys = if j = 0 then [] else xs))
  case atStart => exact ⟨0, none, 0, 0, 0, [], by omega, rfl, rfl, Lib.hid rfl, E, Lib.hid (own_nothing _ _ _ (lf_lt isB_nil) E.out.below.size), Lib.hid rfl⟩
  case round =>
    clear E
    obtain ⟨j, p, g, n, c, ys, hj, rfl, rfl, HN, E2, N2, YS⟩ := hrel
    obtain ⟨kk, hkk⟩ : ∃ kk : Nat, kk = gk := ⟨_, rfl⟩
    rw [← hkk] at hj
    by_cases hlt : j < 6
    · have PI := Lib.hid (fun W => par12_index j hlt W)
      have P0 := Lib.hid (pres_zero H0.out j)
      have PY := Lib.hid (show ys ++ (pres t j).2 = xs ∧ ys.length + (pres t j).2.length = xs.length by
        rw [YS.out, XS.out]
        unfold pres
        split <;> simp)
      go_upto_region 8 with (first
        | ((with_reducible refine wpList_at 27 rfl ?_); refine wpList_kn rfl (.int .i64 (pj j)) (by exact exec_indexL rfl (PI.out _)) ?_))
      have CX := Lib.hid (And.intro (E2.out.get (b := b1) (T := 40) (c := arr 139 (msgV 12 V)) (List.mem_cons_of_mem _ (List.mem_cons_of_mem _ List.mem_cons_self))) (E2.out.get (b := b4) (T := 49) (c := arr 8 (mcell 12)) List.mem_cons_self))
      refine wp_region_T (Φ := fun X => Below wr.heap.size wr X) (S := fun X => X.heap[b1]? = some (.cells (arr 139 (msgV 12 V)) 40 (0, 0)) ∧ X.heap[b4]? = some (.cells (arr 8 (mcell 12)) 49 (0, 0))) (Lib.hid (Below.refl _ _)) (fun _ h => h.drew) (fun X h => ⟨(h.block b1 (heap_lt CX.out.1)).trans CX.out.1, (h.block b4 (heap_lt CX.out.2)).trans CX.out.2⟩) (by kernel_rfl) ?_
      intro wx TT S0
      clear CX
      refine hm_run 0 28 (.int .i64 (pj j)) rfl rfl (by kernel_rfl) (by kernel_rfl) (by kernel_rfl) (fun _ _ _ h => h) rfl (fun _ _ => rfl) S0.out ?_
      try simp only [Act.put, List.getElem_toArray, List.getElem_cons_succ, List.getElem_cons_zero, List.setIfInBounds_toArray, List.set_cons_zero, List.set_cons_succ]
      refine hm_run 1 29 (.agg (arr 139 (msgV 12 V))) rfl rfl (by kernel_rfl) (by kernel_rfl) (by kernel_rfl) (fun _ _ _ h => h) rfl (fun W hW => exec_load rfl (load_msg hW.1)) S0.out ?_
      try simp only [Act.put, List.getElem_toArray, List.getElem_cons_succ, List.getElem_cons_zero, List.setIfInBounds_toArray, List.set_cons_zero, List.set_cons_succ]
      refine hm_run 3 31 (.pointer (some ⟨b4, 7, none⟩)) rfl rfl (by kernel_rfl) (by kernel_rfl) (by kernel_rfl) (fun _ _ _ h => h) rfl (fun _ _ => rfl) S0.out ?_
      try simp only [Act.put, List.getElem_toArray, List.getElem_cons_succ, List.getElem_cons_zero, List.setIfInBounds_toArray, List.set_cons_zero, List.set_cons_succ]
      refine hm_run 4 32 (.int .i64 0) rfl rfl (by kernel_rfl) (by kernel_rfl) (by kernel_rfl) (fun _ _ _ h => h) rfl (fun W hW => exec_load rfl (run_load_one Tryd.underlying3 rfl (cell_of_here hW.2 7 rfl))) S0.out ?_
      try simp only [Act.put, List.getElem_toArray, List.getElem_cons_succ, List.getElem_cons_zero, List.setIfInBounds_toArray, List.set_cons_zero, List.set_cons_succ]
      refine hm_one (i := 2) (by kernel_rfl) ?_
      refine hm_step 2 rfl (by kernel_rfl) fun K hK => ?_
      try simp only [Act.put, List.getElem_toArray, List.getElem_cons_succ, List.getElem_cons_zero, List.setIfInBounds_toArray, List.set_cons_zero, List.set_cons_succ]
      go_simp
      go_at_call 8
      refine (plen_any j).mono ?_
      rintro e w7 ⟨rfl, hb7⟩
      replace TT := Lib.hid (TT.out.trans (hb7.mono TT.out.size))
      have S2_4 := Lib.hid (show w7.heap[b1]? = some (.cells (arr 139 (msgV 12 V)) 40 (0, 0)) ∧ w7.heap[b4]? = some (.cells (arr 8 (mcell 12)) 49 (0, 0)) from ⟨(hb7.block b1 (heap_lt S0.out.1)).trans S0.out.1, (hb7.block b4 (heap_lt S0.out.2)).trans S0.out.2⟩)
      clear hb7
      refine hK _ _ S2_4.out ?_
      clear hK K
      try simp only [Act.put, List.getElem_toArray, List.getElem_cons_succ, List.getElem_cons_zero, List.setIfInBounds_toArray, List.set_cons_zero, List.set_cons_succ]
      refine hm_run 5 33 (.bool false) rfl rfl (by kernel_rfl) (by kernel_rfl) (by kernel_rfl) (fun _ _ _ h => h) rfl (fun _ _ => exec_gtri rfl rfl rfl rfl) S2_4.out ?_
      try simp only [Act.put, List.getElem_toArray, List.getElem_cons_succ, List.getElem_cons_zero, List.setIfInBounds_toArray, List.set_cons_zero, List.set_cons_succ]
      refine wpAnyH_done (by kernel_rfl) ?_ _
      have E3 := Lib.hid (E2.out.call TT.out)
      have N3 := Lib.hid (N2.out.below TT.out)
      obtain ⟨zs, hzs⟩ : ∃ zs, zs = (pres t j).2 := ⟨_, rfl⟩
      have PB := Lib.hid (pbytes_any (t := t) (V := V) (Lib.hid (A.out.below E3.out.below)) j)
      rw [P0.out, ← hzs] at PB
      rw [← hzs] at PY
      obtain ⟨m, hm⟩ : ∃ m, m = zs.length := ⟨_, rfl⟩
      have HM := Lib.hid hm
      rw [← hm] at PB
      rw [← HN.out] at N3
      clear hzs hm
      go_wp2_with (first
          | ((with_reducible refine wpList_at 37 rfl ?_); refine mem_load_row E3 40 rfl (.tmp 1) rfl rfl (List.mem_cons_of_mem _ (List.mem_cons_of_mem _ List.mem_cons_self)) Tryd.underlying40 rfl (by rw [arr_size]; kernel_rfl) ?_)
          | (go_at_call 9; refine PB.out.mono ?_; rintro e w8 ⟨p8, g8, c8, rfl, N8x, hb8⟩; have N8 := Lib.hid N8x.row; replace N3 := Lib.hid (N3.out.below hb8); replace E3 := Lib.hid (E3.out.call hb8); clear N8x hb8)
          | ((with_reducible refine wpList_at 47 rfl ?_); refine wpList_appk rfl (.tmp 45) (.tmp 46) rfl rfl N3 rfl N8 (by have := PY.out.2; have := XL.out; have := HN.out; have := HM.out; omega) ?_; intro p9 g9 c9 w9 N9 hb9 kp9))
      have E9 := Lib.hid (E3.out.keeps (nb3 _ _ _ _ _ _) hb9.out kp9.out)
      go_roundg (kk - 1)
      case measure => omega
      case rel => exact ⟨j + 1, p9, g9, n + m, c9, xs, by omega, by go_num, rfl, Lib.hid (by have := PY.out.2; have := HN.out; have := HM.out; omega), E9, Lib.hid (own_join N9.out HN.out HM.out PY.out.1), Lib.hid rfl⟩
    · obtain rfl : j = 6 := by omega
      have YX : ys = xs := YS.out
      subst YX
      have LD := Lib.hid (E2.out.get (b := b4) (T := 49) (c := arr 8 (mcell 12)) List.mem_cons_self)
      go_wp2_with (first
        | ((with_reducible refine wpList_at 50 rfl ?_); refine mem_load_cell E2 9 rfl (.tmp 49) rfl rfl List.mem_cons_self Tryd.underlying9 rfl (v := .string (mcom 12)) rfl ?_)
        | ((with_reducible refine wpList_at 52 rfl ?_); refine wpList_bld 32 _ rfl rfl (ps := #[(0, .string (mcom 12)), (1, .slice p n c)]) (by kernel_rfl) (built_fV _ _ _ _) ?_)
        | ((with_reducible refine wpList_atn rfl ?_); refine mem_store_rowk 1 E2 32 rfl (.tmp 2) (.tmp 52) rfl rfl rfl rfl (by kernel_rfl) (by simp only [arr_size]) (fV_one _ _ _ _) ?_; intro w11 E11 KT11; simp only [List.set_cons_zero, List.set_cons_succ] at E11; replace N2 := Lib.hid (own_keepK N2.out KT11.out (by decide))))
      refine bodyPost_ret (res_row_tmp (fn := Tryd.f4) rfl _ _ b2 2 32 _ _ rfl (E11.out.get (List.mem_cons_of_mem _ List.mem_cons_self)) Tryd.underlying32 rfl (by kernel_rfl)) rfl ?_
      refine ⟨p, g, c, ?_, by have := N2.out; rw [XS.out] at this; exact this, E11.out.below⟩
      unfold fres
      rw [H0.out, if_pos rfl, HN.out, XS.out]
      rfl
set_option maxHeartbeats 16000000 in
theorem menc_bad {W : World} {V : Nat → Value} {t : TBlk} (A : Hid (BlkAt W (.agg (arr 69 V)) t)) (L : Hid (MLaid W)) (h0 : ¬ (bres t).1 = 0) : Calls Tryd.prog 4 #[.agg (arr 139 (msgV 12 V))] W (MEnd W t) := by
  have E := Lib.hid (Mem.nil W)
  have H0 := Lib.hid h0
  have HE := Lib.hid (show decide ((bres t).1 = 0) = !true from decide_eq_false h0)
  clear h0
  go_enter Tryd.func4, Tryd.ntmps4
  go_wp2_with (first
    | ((with_reducible refine wpList_at 1 rfl ?_); refine mem_box E 40 rfl _ rfl rfl (arr_cells' 139 (msgV 12 V)) ?_; clear E; intro b1 w1 E)
    | ((with_reducible refine wpList_at 2 rfl ?_); refine mem_alloc E 32 rfl rfl infoFV ?_; clear E; intro b2 w2 E; simp only [arr_cells'] at E)
    | ((with_reducible refine wpList_at 11 rfl ?_); refine mem_load_cell E 3 rfl (.tmp 10) rfl rfl (List.mem_cons_of_mem _ List.mem_cons_self) Tryd.underlying3 rfl (v := .int .i64 12) rfl ?_)
    | ((with_reducible refine wpList_at 15 rfl ?_); refine mem_load_cell E 3 rfl (.tmp 14) rfl rfl (List.mem_cons_of_mem _ List.mem_cons_self) Tryd.underlying3 rfl (v := .int .i64 12) rfl ?_)
    | ((with_reducible refine wpList_at 20 rfl ?_); refine mem_load_cell E 3 rfl (.tmp 19) rfl rfl (List.mem_cons_of_mem _ List.mem_cons_self) Tryd.underlying3 rfl (v := .int .i64 12) rfl ?_)
    | ((with_reducible refine wpList_at 21 rfl ?_); refine wpList_kn rfl (.pointer (some ⟨0, 96, none⟩)) (by exact exec_ix rfl (lay_at12 _)) ?_)
    | ((with_reducible refine wpList_at 22 rfl ?_); refine wpList_ld 49 (.tmp 21) rfl rfl rfl (show _ = Result.ok (.agg (arr 8 (mcell 12))) _ from (L.out.below E.out.below).one (j := 12) (by omega)) ?_)
    | ((with_reducible refine wpList_at 4 rfl ?_); refine mem_alloc E 49 rfl rfl infoLay ?_; clear E; intro b4 w4 E; simp only [arr_cells'] at E)
    | ((with_reducible refine wpList_atn rfl ?_); refine mem_store_row 0 E 49 rfl (.tmp 4) (.tmp 22) rfl rfl rfl rfl (by kernel_rfl) (by simp only [arr_size]) (lay_one _) ?_; clear E; intro w5 E; simp only [List.set_cons_zero] at E)
    | ((with_reducible refine wpList_at 24 rfl ?_); refine wpList_ld 47 (.tmp 23) rfl rfl rfl (par12_load (E.out.get List.mem_cons_self)) ?_))
  go_loopg [5, 25] 0 (fun k pl i wr => i = .int .i64 0 ∧ pl = .slice none 0 0 ∧ Hid (Mem W [(b4, 49, arr 8 (mcell 12)), (b2, 32, arr 2 (fV ⟨#[]⟩ (.slice none 0 0))), (b1, 40, arr 139 (msgV 12 V))] wr))
  case atStart => exact ⟨rfl, rfl, E⟩
  case round =>
    clear E
    obtain ⟨rfl, rfl, E2⟩ := hrel
    go_upto_region 8 with (first
      | ((with_reducible refine wpList_at 27 rfl ?_); refine wpList_kn rfl (.int .i64 9) (by exact exec_indexL rfl (par12_index 0 (by omega) _)) ?_))
    have CX := Lib.hid (And.intro (E2.out.get (b := b1) (T := 40) (c := arr 139 (msgV 12 V)) (List.mem_cons_of_mem _ (List.mem_cons_of_mem _ List.mem_cons_self))) (E2.out.get (b := b4) (T := 49) (c := arr 8 (mcell 12)) List.mem_cons_self))
    refine wp_region_T (Φ := fun X => Below wr.heap.size wr X) (S := fun X => X.heap[b1]? = some (.cells (arr 139 (msgV 12 V)) 40 (0, 0)) ∧ X.heap[b4]? = some (.cells (arr 8 (mcell 12)) 49 (0, 0))) (Lib.hid (Below.refl _ _)) (fun _ h => h.drew) (fun X h => ⟨(h.block b1 (heap_lt CX.out.1)).trans CX.out.1, (h.block b4 (heap_lt CX.out.2)).trans CX.out.2⟩) (by kernel_rfl) ?_
    intro wx TT S0
    clear CX
    refine hm_run 0 28 (.int .i64 9) rfl rfl (by kernel_rfl) (by kernel_rfl) (by kernel_rfl) (fun _ _ _ h => h) rfl (fun _ _ => rfl) S0.out ?_
    try simp only [Act.put, List.getElem_toArray, List.getElem_cons_succ, List.getElem_cons_zero, List.setIfInBounds_toArray, List.set_cons_zero, List.set_cons_succ]
    refine hm_run 1 29 (.agg (arr 139 (msgV 12 V))) rfl rfl (by kernel_rfl) (by kernel_rfl) (by kernel_rfl) (fun _ _ _ h => h) rfl (fun W hW => exec_load rfl (load_msg hW.1)) S0.out ?_
    try simp only [Act.put, List.getElem_toArray, List.getElem_cons_succ, List.getElem_cons_zero, List.setIfInBounds_toArray, List.set_cons_zero, List.set_cons_succ]
    refine hm_run 3 31 (.pointer (some ⟨b4, 7, none⟩)) rfl rfl (by kernel_rfl) (by kernel_rfl) (by kernel_rfl) (fun _ _ _ h => h) rfl (fun _ _ => rfl) S0.out ?_
    try simp only [Act.put, List.getElem_toArray, List.getElem_cons_succ, List.getElem_cons_zero, List.setIfInBounds_toArray, List.set_cons_zero, List.set_cons_succ]
    refine hm_run 4 32 (.int .i64 0) rfl rfl (by kernel_rfl) (by kernel_rfl) (by kernel_rfl) (fun _ _ _ h => h) rfl (fun W hW => exec_load rfl (run_load_one Tryd.underlying3 rfl (cell_of_here hW.2 7 rfl))) S0.out ?_
    try simp only [Act.put, List.getElem_toArray, List.getElem_cons_succ, List.getElem_cons_zero, List.setIfInBounds_toArray, List.set_cons_zero, List.set_cons_succ]
    refine hm_one (i := 2) (by kernel_rfl) ?_
    refine hm_step 2 rfl (by kernel_rfl) fun K hK => ?_
    try simp only [Act.put, List.getElem_toArray, List.getElem_cons_succ, List.getElem_cons_zero, List.setIfInBounds_toArray, List.set_cons_zero, List.set_cons_succ]
    go_simp
    go_at_call 8
    refine plen_nine.mono ?_
    rintro e w7 ⟨rfl, hb7⟩
    replace TT := Lib.hid (TT.out.trans (hb7.mono TT.out.size))
    have S2_4 := Lib.hid (show w7.heap[b1]? = some (.cells (arr 139 (msgV 12 V)) 40 (0, 0)) ∧ w7.heap[b4]? = some (.cells (arr 8 (mcell 12)) 49 (0, 0)) from ⟨(hb7.block b1 (heap_lt S0.out.1)).trans S0.out.1, (hb7.block b4 (heap_lt S0.out.2)).trans S0.out.2⟩)
    clear hb7
    refine hK _ _ S2_4.out ?_
    clear hK K
    try simp only [Act.put, List.getElem_toArray, List.getElem_cons_succ, List.getElem_cons_zero, List.setIfInBounds_toArray, List.set_cons_zero, List.set_cons_succ]
    refine hm_run 5 33 (.bool false) rfl rfl (by kernel_rfl) (by kernel_rfl) (by kernel_rfl) (fun _ _ _ h => h) rfl (fun _ _ => exec_gtri rfl rfl rfl rfl) S2_4.out ?_
    try simp only [Act.put, List.getElem_toArray, List.getElem_cons_succ, List.getElem_cons_zero, List.setIfInBounds_toArray, List.set_cons_zero, List.set_cons_succ]
    refine wpAnyH_done (by kernel_rfl) ?_ _
    have E3 := Lib.hid (E2.out.call TT.out)
    go_wp2_with (first
        | ((with_reducible refine wpList_at 37 rfl ?_); refine mem_load_row E3 40 rfl (.tmp 1) rfl rfl (List.mem_cons_of_mem _ (List.mem_cons_of_mem _ List.mem_cons_self)) Tryd.underlying40 rfl (by rw [arr_size]; kernel_rfl) ?_)
        | (go_at_call 9; refine (pbytes_body (Lib.hid (A.out.below E3.out.below))).mono ?_; rintro e w8 ⟨p8, g8, c8, rfl, N8x, hb8⟩; have N8 := Lib.hid (N8x.mono E3.out.below.size); replace E3 := Lib.hid (E3.out.call hb8); clear N8x hb8)
        | ((with_reducible refine wpList_at 42 rfl ?_); refine wpList_kn rfl (.bool true) (by exact exec_neqE rfl rfl rfl HE.out) ?_)
        | ((with_reducible refine wpList_at 43 rfl ?_); refine wpList_bld 32 _ rfl rfl (ps := #[]) (by kernel_rfl) built_fV0 ?_)
        | ((with_reducible refine wpList_atn rfl ?_); refine mem_store_rowk 1 E3 32 rfl (.tmp 2) (.tmp 43) rfl rfl rfl rfl (by kernel_rfl) (by simp only [arr_size]) (fV_one _ _ _ _) ?_; intro w11 E11 KT11; simp only [List.set_cons_zero, List.set_cons_succ] at E11; replace N8 := Lib.hid (own_keepK N8.out KT11.out (by decide))))
    refine bodyPost_ret (res_row_tmp (fn := Tryd.f4) rfl _ _ b2 2 32 _ _ rfl (E11.out.get (List.mem_cons_of_mem _ List.mem_cons_self)) Tryd.underlying32 rfl (by kernel_rfl)) rfl ?_
    refine ⟨p8, g8, c8, ?_, N8.out, E11.out.below⟩
    unfold fres
    rw [if_neg H0.out]
    rfl
theorem menc_any {W : World} {V : Nat → Value} {t : TBlk} (A : Hid (BlkAt W (.agg (arr 69 V)) t)) (L : Hid (MLaid W)) : Calls Tryd.prog 4 #[.agg (arr 139 (msgV 12 V))] W (MEnd W t) := by
  by_cases h : (bres t).1 = 0
  · exact menc_good A L h
  · exact menc_bad A L h
end Go.Proofs.YtfjpjhhkafkepaaDoor
