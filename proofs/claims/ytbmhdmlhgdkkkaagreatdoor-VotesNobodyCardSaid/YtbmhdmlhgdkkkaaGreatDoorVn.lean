/- What a filter that is not there is asked: the program's, for votes that no call made. -/
import Derived.Test.YtbmhdmlhgdkkkaaGreatDoorDl
import Derived.Lay
import Derived.Deep.MidRow
import Derived.OwnWalk
set_option linter.unusedSimpArgs false
set_option linter.unusedVariables false
set_option maxRecDepth 100000
namespace Go.Proofs.YtbmhdmlhgdkkkaaGreatDoor.S
open Go.ChangeShapes Go.WideShapes Go.ChangeAt Go.RowKit

/-- What the row lists. -/
def vnLaid : List (String × DataW Unit) := [("math/bits.deBruijn32tab", Rows.laid_math_bits_deBruijn32tab), ("math/bits.deBruijn64tab", Rows.laid_math_bits_deBruijn64tab), ("internal/strconv.uint64pow10", Rows.laid_internal_strconv_uint64pow10), ("sporran/sip.startWords", Rows.laid_sporran_sip_startWords), ("sporran/sha.startWords", Rows.laid_sporran_sha_startWords), ("sporran/sha.roundWords", Rows.laid_sporran_sha_roundWords)]
theorem of_vn {W : World} (h : laidMetH Tryz.prog vnLaid W) : SLaid W ∧ KLaid W := by
  rw [MakeChecks.laidMetH_plain _ _ _ (by kernel_rfl)] at h
  obtain ⟨ps, ⟨_, _, _, _, _, _, _, _, _, _, ⟨_, _, _, _, _, _, _, _, _, _, ⟨_, _, _, _, _, _, _, _, _, _, ⟨_, _, _, _, _, _, _, _, _, _, ⟨g0, t0, cs0, f0, p0, q0, hg0, ht0, hv0, hd0, ⟨g1, t1, cs1, f1, p1, q1, hg1, ht1, hv1, hd1, _, _⟩, _⟩, _⟩, _⟩, _⟩, _⟩, _, _⟩ := h
  obtain rfl := Option.some.inj (gStart.symm.trans hg0)
  obtain rfl := Option.some.inj (tStart.symm.trans ht0)
  obtain rfl := Option.some.inj (gRound.symm.trans hg1)
  obtain rfl := Option.some.inj (tRound.symm.trans ht1)
  constructor
  · intro i hi
    have hd : DataW.trod _ Tryz.prog W 0 _ _ f0 145 cs0.toList = some (.agg (startList.map fun z => .lit (.int .u32 z)), p0) := hd0
    have hz : startList[i]? = some (startList.getD i 0) := by
      rw [List.getD_eq_getElem?_getD, List.getElem?_eq_getElem (by show i < 8; exact hi)]; rfl
    have h1 := ints_of_trod Tryz.underlying145 Tryz.underlying42 cU32 hd i _ hz
    rw [World.var?_cell hg0 hv0 i]
    have e : rv H0 i = .int .u32 (startList.getD i 0) := by
      match i, hi with
      | 0, _ => rfl
      | 1, _ => rfl
      | 2, _ => rfl
      | 3, _ => rfl
      | 4, _ => rfl
      | 5, _ => rfl
      | 6, _ => rfl
      | 7, _ => rfl
    rw [e]
    simpa using h1
  · intro i hi
    rw [roundList] at hd1
    have hz : kList[i]? = some (kWord i) := by
      unfold kWord
      rw [List.getD_eq_getElem?_getD, List.getElem?_eq_getElem (by show i < 64; exact hi)]; rfl
    have h1 := ints_of_trod Tryz.underlying175 Tryz.underlying42 cU32 hd1 i _ hz
    rw [World.var?_cell hg1 hv1 i]
    simpa using h1
end Go.Proofs.YtbmhdmlhgdkkkaaGreatDoor.S
namespace Go.Proofs.YtbmhdmlhgdkkkaaGreatDoor
open Go.ChangeShapes Go.WideShapes Go.RowKit Go.Lib Go.Sort

theorem wp_region_T {P : Program} {ops : Array Oper} {Q : Exit → Act → World → Prop} {Φ S : World → Prop} {w : World} {id : Nat} {a : Act} (hT : Hid (Φ w)) (hd : ∀ w, Φ w → Φ w.drew) (hS : ∀ w, Φ w → S w) (hm : P.follows .mixedOrders = true)
    (h : ∀ w', Hid (Φ w') → Hid (S w') → wpAnyH P .any ops Q S ops.size (Array.replicate ops.size false) a w') : (Code.region id ops true).wp P Q a w :=
  wp_region_held hm (h _ (hd _ hT.out) (hS _ (hd _ hT.out)))
theorem Mem.nilB {w0 w : World} (hb : Below w0.heap.size w0 w) : Mem w0 [] w := ⟨hb, fun _ h => (by cases h), List.nodup_nil, fun _ h => by cases h⟩
section
variable {ops : Array Oper} {rest : List Oper} {Q : Exit → Act → World → Prop} {op : Oper} {a : Act} {w : World}
theorem wpList_at {P : Program} (t : Nat) (hd : op.dst = some t) (h : wpList P ops Q (op :: rest) a w) : wpList P ops Q (op :: rest) a w := h
theorem wpList_atn {P : Program} (hd : op.dst = none) (h : wpList P ops Q (op :: rest) a w) : wpList P ops Q (op :: rest) a w := h
theorem wpList_kn {P : Program} (hw : Region.wanted op (yielded ops a.tmps) = true) (v : Value) (hrun : (execOp a.eval op).run P w = .ok (.value v) w) (h : wpList P ops Q rest (a.put op.dst v) w) : wpList P ops Q (op :: rest) a w := BigFrame.wpList_want hw fun K hK => mo_known v w hrun (hK _ _ h)
end
theorem res_ctt {P : Program} {fn : Func} {p q u : Tmp} {ty : TypeId} (h : fn.results = #[.cell p ty, .tmp u, .tmp q]) (tmps : Array Value) (w : World) {g T : Nat} {cs : Array Value} (d : TypeDesc)
    (hp : tmps.getD p undef = .pointer (some ⟨g, 0, none⟩)) (hg : w.heap[g]? = some (.cells cs T (0, 0))) (hu : P.underlying ty = some d) (hd : (match d with | .struct _ | .array _ _ => true | _ => false) = true) (hi : (P.info? ty).map (·.size) = some cs.size) :
    (results fn tmps).run P w = .ok (.tuple #[.agg cs, tmps.getD u undef, tmps.getD q undef]) w := by
  have hp' : tmps[p]?.getD undef = .pointer (some ⟨g, 0, none⟩) := by simpa using hp
  have e := run_loadVar_row (P := P) w g T ty cs (0, 0) d hg hu hd hi
  simp [results, h, hp', asAddr, e]
theorem exec_neqA {o : Oper} {ev : Operand → Value} {T R : TypeId} {x y : Operand} {a b : Array Value} {W : World} (ho : o.op = .binOp .neq T x y R) (hx : ev x = .agg a) (hy : ev y = .agg b) (hm : Tryz.prog.eqGuardType Tryz.prog.depth T = false) {r : Bool} (h : (Op.equalIn 10000 T (.agg a) (.agg b)).run Tryz.prog W = .ok r W) : (execOp ev o).run Tryz.prog W = .ok (.value (.bool (!r))) W := by
  unfold execOp
  simp only [ho, hx, hy, Sem.run_bind, run_eqGuard_agg W .neq T x y a b hm, run_neq_struct, h, Result.andThen_ok]
  rfl
theorem exec_neqE {o : Oper} {ev : Operand → Value} {W : World} {x y : Operand} {a b : Int} {q : Bool} (ho : o.op = .binOp .neq 31 x y 31) (hx : ev x = .int .i64 a) (hy : ev y = .int .i64 b) (hq : decide (a = b) = !q) : (execOp ev o).run Tryz.prog W = .ok (.value (.bool q)) W := by
  obtain rfl : q = !decide (a = b) := by rw [hq]; simp
  unfold execOp
  by_cases h : a = b
  · subst h
    simp [ho, hx, hy, go_sem, Tryz.underlying31]
  · simp [ho, hx, hy, go_sem, Tryz.underlying31, h]
theorem exec_eqli {o : Oper} {ev : Operand → Value} {W : World} {x y : Operand} {a b : Int} {q : Bool} (ho : o.op = .binOp .eql 3 x y 3) (hx : ev x = .int .i64 a) (hy : ev y = .int .i64 b) (hq : decide (a = b) = q) : (execOp ev o).run Tryz.prog W = .ok (.value (.bool q)) W := by
  subst hq
  unfold execOp
  by_cases h : a = b
  · subst h
    simp [ho, hx, hy, go_sem, Tryz.underlying3]
  · simp [ho, hx, hy, go_sem, Tryz.underlying3, h]
theorem exec_gtri {o : Oper} {ev : Operand → Value} {W : World} {x y : Operand} {a b : Int} {q : Bool} (ho : o.op = .binOp .gtr 3 x y 3) (hx : ev x = .int .i64 a) (hy : ev y = .int .i64 b) (hq : decide (b < a) = q) : (execOp ev o).run Tryz.prog W = .ok (.value (.bool q)) W := by
  subst hq
  unfold execOp
  by_cases h : b < a
  · simp [ho, hx, hy, go_sem, Tryz.underlying3, h]
  · simp [ho, hx, hy, go_sem, Tryz.underlying3, h]
def byv (z : Nat) : Value := .int .u8 ((z : Nat) : Int)
theorem hash_mid {W : World} {b o : Nat} {a : List Nat} {V : Nat → Value} {n T : Nat} (hb : W.heap[b]? = some (.cells (arr n V) T (0, 0))) (ho : o + 32 ≤ n) (hV : ∀ j, j < 32 → V (o + j) = byv (lf a j)) : (Instr.loadAt 23 (.pointer (some ⟨b, o, none⟩))).run Tryz.prog W = .ok (.agg (arr 32 (bv (lf a)))) W := by
  have hr : W.rangeAt b o (vs (bv (lf a)) 32) := fun j v hj => by
    obtain ⟨h, rfl⟩ := vs_get _ _ _ _ hj
    rw [cell_of_here hb (o + j) (arr_get n V (o + j) (by omega)), hV j h]
    rfl
  have := run_loadAt_mid (P := Tryz.prog) W b o 23 (vs (bv (lf a)) 32) _ hr Tryz.underlying23 rfl (by rw [vs_length]; kernel_rfl)
  rwa [vs_arr] at this
theorem infoIdV : (Tryz.prog.info? 23).map (fun i => (i.zero, i.size)) = some (some (.agg (arr 32 (bv fun _ => 0))), 32) := by kernel_rfl
theorem id_oneV (n : Nat) (f : Nat → Nat) : (arr n (bv f)).all (·.oneCell') = true := Array.all_eq_true_iff_forall_mem.2 fun v hv => by
  simp only [arr, List.mem_toArray, List.mem_map] at hv
  obtain ⟨i, _, rfl⟩ := hv
  rfl
theorem rowNil (w : World) : Row w none 0 0 ([] : List Nat).length 0 (lf []) := Row.nothing _ _ (lf_lt isB_nil)
set_option maxHeartbeats 4000000 in
/-- The sum of a filter of no bytes. -/
theorem fisum_nil {w : World} (L : Hid (S.Both w)) : Calls Tryz.prog 14 #[.slice none 0 0] w fun e w' => e = .returned (.agg (arr 32 (bv (lf (dbl []))))) ∧ Below w.heap.size w w' := by
  have E := Lib.hid (Mem.nil w)
  go_enter Tryz.func14, Tryz.ntmps14
  go_wp2_with (first
    | (refine mem_alloc E 23 rfl rfl infoIdV ?_; clear E; intro b3 w3 E; simp only [arr_cells'] at E)
    | (go_at_call 22; refine (double_l (l := []) (Lib.hid (rowNil _)) (by decide) (Lib.hid (L.out.below E.out.below))).mono ?_; rintro e w5 ⟨rfl, hb⟩; replace E := Lib.hid (E.out.call hb); clear hb)
    | (refine mem_store_row 0 E 23 rfl (.tmp 2) (.tmp 4) rfl rfl rfl rfl (by kernel_rfl) (by simp only [arr_size]) (by exact id_oneV _ _) ?_; clear E; intro w6 E; simp only [List.set_cons_zero, List.set_cons_succ] at E))
  exact bodyPost_ret (results_cell_row (fn := Tryz.f14) rfl _ _ b3 23 _ (0, 0) _ rfl (E.out.get List.mem_cons_self) Tryz.underlying23 rfl (by rw [arr_size]; kernel_rfl)) rfl ⟨rfl, E.out.below⟩
theorem split_nil {w : World} : Calls Tryz.prog 37 #[.slice none 0 0] w fun e w' => e = .returned (.tuple #[.int .u64 0, .slice none 0 0, .int .i64 50]) ∧ w = w' := by
  go_enter Tryz.func37, Tryz.ntmps37
  go_wp2_with fail
  go_ret3
  exact ⟨rfl, rfl⟩
set_option maxHeartbeats 4000000 in
theorem sdec_nil {w : World} : Calls Tryz.prog 23 #[.slice none 0 0] w fun e w' => e = .returned (.tuple #[.int .u64 0, .slice none 0 0, .int .i64 50]) ∧ w = w' := by
  go_enter Tryz.func23, Tryz.ntmps23
  go_wp2_with (go_at_call 37; refine split_nil.mono ?_; rintro e w2 ⟨rfl, rfl⟩)
  go_ret3
  exact ⟨rfl, rfl⟩
set_option maxHeartbeats 4000000 in
theorem fivals_nil {w : World} : Calls Tryz.prog 15 #[.slice none 0 0] w fun e w' => e = .returned (.tuple #[.slice none 0 0, .int .i64 120]) ∧ w = w' := by
  go_enter Tryz.func15, Tryz.ntmps15
  go_wp2_with (go_at_call 23; refine sdec_nil.mono ?_; rintro e w2 ⟨rfl, rfl⟩)
  go_ret2
  exact ⟨rfl, rfl⟩
set_option maxHeartbeats 8000000 in
/-- Bytes that are none lie, whatever is said of them. -/
theorem lies_nil {w : World} {cs : Array Value} {a : List Nat} (L : Hid (S.Both w)) : Calls Tryz.prog 10 #[.agg cs, .slice none 0 0, .agg (arr 32 (bv (lf a)))] w fun e w' => e = .returned (.bool true) ∧ Below w.heap.size w w' := by
  have E := Lib.hid (Mem.nil w)
  obtain ⟨r, hr⟩ : ∃ r, r = (List.range 32).all fun i => ((lf (dbl []) i : Nat) : Int) == ((lf a i : Nat) : Int) := ⟨_, rfl⟩
  have HR := Lib.hid (fun W => eq_bytes (T := 23) (N := 32) Tryz.underlying23 (lf (dbl [])) (lf a) W)
  rw [← hr] at HR
  clear hr
  go_enter Tryz.func10, Tryz.ntmps10
  go_upto_region 1 with (first
    | ((with_reducible refine wpList_at 3 rfl ?_); refine mem_box (c := cs) E 47 rfl _ rfl rfl rfl ?_; clear E; intro b3 w3 E)
    | ((with_reducible refine wpList_at 5 rfl ?_); refine mem_box (c := arr 32 (bv (lf a))) E 23 rfl _ rfl rfl rfl ?_; clear E; intro b5 w5 E))
  have CX := Lib.hid (E.out.get List.mem_cons_self)
  refine wp_region_T (Φ := fun X => Below w5.heap.size w5 X) (S := fun X => X.heap[b5]? = some (.cells (arr 32 (bv (lf a))) 23 (0, 0))) (Lib.hid (Below.refl _ _)) (fun _ h => h.drew) (fun X h => (h.block b5 (heap_lt CX.out)).trans CX.out) (by kernel_rfl) ?_
  intro wx TT S0
  clear CX
  refine hm_run 0 10 (.slice none 0 0) rfl rfl (by kernel_rfl) (by kernel_rfl) (by kernel_rfl) (fun _ _ _ h => h) rfl (fun _ _ => rfl) S0.out ?_
  try simp only [Act.put, List.getElem_toArray, List.getElem_cons_succ, List.getElem_cons_zero, List.setIfInBounds_toArray, List.set_cons_zero, List.set_cons_succ]
  refine hm_run 2 12 (.agg (arr 32 (bv (lf a)))) rfl rfl (by kernel_rfl) (by kernel_rfl) (by kernel_rfl) (fun _ _ _ h => h) rfl (fun W hW => exec_load rfl (hash_mid hW (by omega) (fun j _ => by rw [Nat.zero_add]; rfl))) S0.out ?_
  try simp only [Act.put, List.getElem_toArray, List.getElem_cons_succ, List.getElem_cons_zero, List.setIfInBounds_toArray, List.set_cons_zero, List.set_cons_succ]
  refine hm_one (i := 1) (by kernel_rfl) ?_
  refine hm_step 1 rfl (by kernel_rfl) fun K hK => ?_
  try simp only [Act.put, List.getElem_toArray, List.getElem_cons_succ, List.getElem_cons_zero, List.setIfInBounds_toArray, List.set_cons_zero, List.set_cons_succ]
  go_simp
  go_at_call 14
  refine (fisum_nil (Lib.hid (L.out.below (E.out.below.trans (TT.out.mono E.out.below.size))))).mono ?_
  rintro e w7 ⟨rfl, hb7⟩
  have E7 := Lib.hid ((E.out.call TT.out).call hb7)
  have S1_2 := Lib.hid (show w7.heap[b5]? = _ from (hb7.block b5 (heap_lt S0.out)).trans S0.out)
  clear hb7
  refine hK _ _ S1_2.out ?_
  clear hK K
  try simp only [Act.put, List.getElem_toArray, List.getElem_cons_succ, List.getElem_cons_zero, List.setIfInBounds_toArray, List.set_cons_zero, List.set_cons_succ]
  refine hm_run 3 13 (.bool (!r)) rfl rfl (by kernel_rfl) (by kernel_rfl) (by kernel_rfl) (fun _ _ _ h => h) rfl (fun W _ => exec_neqA rfl rfl rfl (by kernel_rfl) (HR.out W)) S1_2.out ?_
  try simp only [Act.put, List.getElem_toArray, List.getElem_cons_succ, List.getElem_cons_zero, List.setIfInBounds_toArray, List.set_cons_zero, List.set_cons_succ]
  refine wpAnyH_done (by kernel_rfl) ?_ _
  cases r
  · go_wp2_with fail
    go_ret
    exact ⟨rfl, E7.out.below⟩
  · go_wp2_with (go_at_call 15; refine fivals_nil.mono ?_; rintro e w8 ⟨rfl, rfl⟩)
    go_ret
    exact ⟨rfl, E7.out.below⟩
/-- Votes that no call made. -/
def Un (w : World) (v : Value) : Prop := v = .pointer none ∨ ∃ b, v = .pointer (some ⟨b, 0, none⟩) ∧ w.heap[b]? = some (.cells #[.pointer none] 29 (0, 0))
theorem Un.below {w w' : World} {v : Value} (h : Un w v) (hb : Below w.heap.size w w') : Un w' v := h.imp id fun ⟨b, e, hh⟩ => ⟨b, e, (hb.block b (heap_lt hh)).trans hh⟩
set_option maxHeartbeats 2000000 in
theorem made_un {w : World} {v : Value} (h : Un w v) : Calls Tryz.prog 11 #[v] w fun e w' => e = .returned (.bool false) ∧ w = w' := by
  rcases h with rfl | ⟨b, rfl, hb⟩
  · go_enter Tryz.func11, Tryz.ntmps11
    go_wp2
    go_ret
    exact ⟨rfl, rfl⟩
  · have c0 := cell_of_here hb 0 (v := .pointer none) rfl
    clear hb
    go_enter Tryz.func11, Tryz.ntmps11
    go_wp2
    go_ret
    exact ⟨rfl, rfl⟩
set_option maxHeartbeats 2000000 in
theorem vote_un {w : World} {v : Value} {u : Value} {cs : Array Value} (h : Un w v) : Calls Tryz.prog 4 #[v, u, .agg cs] w fun e w' => e = .returned (.int .i64 2) ∧ Below w.heap.size w w' := by
  have M := Lib.hid (made_un h)
  have E := Lib.hid (Mem.nil w)
  have UU := Lib.hid h
  clear h
  go_enter Tryz.func4, Tryz.ntmps4
  go_wp2_with (first
    | ((with_reducible refine wpList_at 5 rfl ?_); refine mem_box (c := cs) E 23 rfl _ rfl rfl rfl ?_; clear E; intro b5 w5 E)
    | (go_at_call 11; refine (made_un (UU.out.below E.out.below)).mono ?_; rintro e w2 ⟨rfl, rfl⟩))
  go_ret
  exact ⟨rfl, E.out.below⟩
set_option maxHeartbeats 2000000 in
theorem leave_un {w : World} {v : Value} {u : Value} (h : Un w v) : Calls Tryz.prog 5 #[v, u] w fun e w' => e = .returned (.int .i64 2) ∧ Below w.heap.size w w' := by
  have M := Lib.hid (made_un h)
  have E := Lib.hid (Mem.nil w)
  have UU := Lib.hid h
  clear h
  go_enter Tryz.func5, Tryz.ntmps5
  go_wp2_with (first
    | (go_at_call 11; refine (made_un (UU.out.below E.out.below)).mono ?_; rintro e w2 ⟨rfl, rfl⟩))
  go_ret
  exact ⟨rfl, E.out.below⟩
set_option maxHeartbeats 2000000 in
theorem has_un {w : World} {v : Value} {u : Value} (h : Un w v) : Calls Tryz.prog 6 #[v, u] w fun e w' => e = .returned (.bool false) ∧ Below w.heap.size w w' := by
  have M := Lib.hid (made_un h)
  have E := Lib.hid (Mem.nil w)
  have UU := Lib.hid h
  clear h
  go_enter Tryz.func6, Tryz.ntmps6
  go_wp2_with (first
    | (go_at_call 11; refine (made_un (UU.out.below E.out.below)).mono ?_; rintro e w2 ⟨rfl, rfl⟩))
  go_ret
  exact ⟨rfl, E.out.below⟩
set_option maxHeartbeats 2000000 in
theorem sums_un {w : World} {v : Value}  (h : Un w v) : Calls Tryz.prog 7 #[v] w fun e w' => e = .returned (.slice none 0 0) ∧ Below w.heap.size w w' := by
  have M := Lib.hid (made_un h)
  have E := Lib.hid (Mem.nil w)
  have UU := Lib.hid h
  clear h
  go_enter Tryz.func7, Tryz.ntmps7
  go_wp2_with (first
    | (go_at_call 11; refine (made_un (UU.out.below E.out.below)).mono ?_; rintro e w2 ⟨rfl, rfl⟩))
  go_ret
  exact ⟨rfl, E.out.below⟩
set_option maxHeartbeats 2000000 in
theorem peers_un {w : World} {v : Value} {cs : Array Value} (h : Un w v) : Calls Tryz.prog 8 #[v, .agg cs] w fun e w' => e = .returned (.slice none 0 0) ∧ Below w.heap.size w w' := by
  have M := Lib.hid (made_un h)
  have E := Lib.hid (Mem.nil w)
  have UU := Lib.hid h
  clear h
  go_enter Tryz.func8, Tryz.ntmps8
  go_wp2_with (first
    | ((with_reducible refine wpList_at 3 rfl ?_); refine mem_box (c := cs) E 23 rfl _ rfl rfl rfl ?_; clear E; intro b5 w5 E)
    | (go_at_call 11; refine (made_un (UU.out.below E.out.below)).mono ?_; rintro e w2 ⟨rfl, rfl⟩))
  go_ret
  exact ⟨rfl, E.out.below⟩
theorem texts_nil {w : World} : Calls Tryz.prog 9 #[.slice none 0 0] w fun e w' => e = .returned (.slice none 0 0) ∧ w = w' := by
  go_enter Tryz.func9, Tryz.ntmps9
  go_wp2_with fail
  go_loop [3, 8] (fun o i => o = .slice none 0 0 ∧ i = .int .i64 0) (fun _ _ => 0)
  case atStart => exact ⟨rfl, rfl⟩
  case round =>
    obtain ⟨rfl, rfl⟩ := hrel
    go_wp2_with fail
    go_ret
    exact ⟨rfl, rfl⟩
section
variable {H : Type} {enc : TypeId × Value → H} {W : World} {base : Nat}
theorem open_u8' {fuel : Nat} {cs : List Value} {x : DataW H × List MemPlace} (h : DataW.trod enc Tryz.prog W base (fun _ => true) true fuel 5 cs = some x) : ∃ z : Nat, z < 256 ∧ cs = [.int .u8 (z : Int)] := by
  obtain ⟨n, rfl, _, hw⟩ := DataW.trod_int Tryz.underlying5 h
  simp [Lit.wf, IntKind.min, IntKind.max, IntKind.bits, IntKind.signed] at hw
  exact ⟨n.toNat, by omega, by congr 2; omega⟩
theorem open_id' {fuel : Nat} {cs : List Value} {x : DataW H × List MemPlace} (h : DataW.trod enc Tryz.prog W base (fun _ => true) true fuel 23 cs = some x) : cs.length = 32 ∧ ∃ a : List Nat, a.length = 32 ∧ IsB a ∧ ∀ j, j < 32 → cs[j]? = some (byv (lf a j)) := by
  obtain ⟨xs, m, _, _, hl, hx, hi⟩ := DataW.trod_array Tryz.underlying23 h
  have hC : Tryz.prog.cellsOf 23 = 32 := by kernel_rfl
  rw [hC] at hl
  have key : ∀ i : Nat, ∃ z : Nat, z < 256 ∧ (i < 32 → cs[i]? = some (.int .u8 (z : Int))) := fun i => by
    by_cases h32 : i < 32
    · have h1 := hi i h32
      rw [cellsB, Nat.mul_one, List.getElem?_eq_getElem (by omega)] at h1
      obtain ⟨z, hz, e⟩ := open_u8' h1
      refine ⟨z, hz, fun _ => ?_⟩
      rw [List.drop_eq_getElem_cons (by omega)] at e
      simp only [List.take_succ_cons, List.take_zero, List.cons.injEq, and_true] at e
      rw [List.getElem?_eq_getElem (by omega), e]
    · exact ⟨0, by omega, fun h => absurd h h32⟩
  obtain ⟨f, hf⟩ := Classical.axiomOfChoice key
  refine ⟨hl, tl f 32, tl_length _ _, isB_tl (fun i => (hf i).1) 32, fun j hj => ?_⟩
  rw [lf_tl f hj]
  exact (hf j).2 hj
theorem field_at {T : TypeId} {L : List (TypeId × Nat)} (h : (Tryz.prog.fieldsOf T).toList.map (fun f => (f.type, f.offset)) = L) {j : Nat} {ty : TypeId} {o : Nat} (hj : L[j]? = some (ty, o)) : ∃ f, (Tryz.prog.fieldsOf T)[j]? = some f ∧ f.type = ty ∧ f.offset = o := by
  rw [← h, List.getElem?_map] at hj
  obtain ⟨f, hf, e⟩ := Option.map_eq_some_iff.1 hj
  refine ⟨f, by simpa using hf, ?_, ?_⟩
  · exact congrArg Prod.fst e
  · exact congrArg Prod.snd e
theorem do_fields : (Tryz.prog.fieldsOf 25).toList.map (fun f => (f.type, f.offset)) = [(3, 0), (23, 1), (4, 33)] := by kernel_rfl
theorem do_is : Tryz.prog.underlying 25 = some (.struct (Tryz.prog.fieldsOf 25)) := by kernel_rfl
theorem cells_h : Tryz.prog.cellsOf 23 = 32 := by kernel_rfl
/-- An argument of the type Do: its cells, those of a hash among them. -/
theorem open_do {b0 : Nat} {v : Value} {d : DataW H} {p : List MemPlace} (hv : Value.okWide Tryz.prog W .any b0 25 v) (hd : DataW.Trod enc Tryz.prog W base (fun _ => true) true 25 v d p) : ∃ (V : Nat → Value) (a : List Nat), v = .agg (arr 34 V) ∧ ∀ j, j < 32 → V (1 + j) = byv (lf a j) := by
  obtain ⟨cs, rfl, hsz⟩ := okWide_struct do_is hv
  have h34 : Tryz.prog.cellsOf 25 = 34 := by kernel_rfl
  rw [h34] at hsz
  obtain ⟨fuel, hf⟩ := hd
  obtain ⟨xs, n, _, hx, _, hxl, hi⟩ := DataW.trod_struct do_is hf
  obtain ⟨f, hff, e1, e2⟩ := field_at do_fields (j := 1) rfl
  have hjl : 1 < xs.length := by rw [hxl]; exact (Array.getElem?_eq_some_iff.1 hff).1
  have h1 := hi 1 f hff
  rw [List.getElem?_eq_getElem hjl, e1, e2, cells_h] at h1
  obtain ⟨_, a, _, _, ha⟩ := open_id' h1
  refine ⟨fun j => cs.getD j undef, a, ?_, fun j hj => ?_⟩
  · congr 1
    apply Array.ext_getElem?
    intro i
    rcases Nat.lt_or_ge i 34 with q | q
    · rw [arr_get 34 _ i q, Array.getElem?_eq_getElem (by omega)]
      simp [Array.getD, show i < cs.size by omega]
    · rw [Array.getElem?_eq_none (by omega), Array.getElem?_eq_none (by rw [arr_size]; exact q)]
  · have h := ha j hj
    have hj2 : 1 + j < cs.size := by omega
    simp only [Value.cells, List.getElem?_take, List.getElem?_drop, if_pos hj, Array.getElem?_toList] at h
    rw [Array.getElem?_eq_getElem hj2] at h
    simp only [Array.getD, dif_pos hj2]
    exact Option.some.inj h
end
end Go.Proofs.YtbmhdmlhgdkkkaaGreatDoor
