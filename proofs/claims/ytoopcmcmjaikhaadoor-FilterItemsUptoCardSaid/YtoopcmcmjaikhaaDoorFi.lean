/- A filter's hash and the header that it makes, both sides; the filter of nothing. -/
import Derived.Test.YtoopcmcmjaikhaaDoorWy
import Derived.Test.YtoopcmcmjaikhaaDoorNb
import Derived.Test.YtoopcmcmjaikhaaDoorZN
import Derived.Test.YtoopcmcmjaikhaaDoorZA
import Derived.Lay
import Derived.Deep.LoopGhost
import Derived.Carry
set_option linter.unusedSimpArgs false
set_option linter.unusedVariables false
set_option maxRecDepth 100000
namespace Go.Proofs.YtoopcmcmjaikhaaDoor.S
open Go.ChangeShapes Go.WideShapes Go.ChangeAt Go.RowKit

end Go.Proofs.YtoopcmcmjaikhaaDoor.S
namespace Go.Proofs.YtoopcmcmjaikhaaDoor
open Go.ChangeShapes Go.WideShapes Go.RowKit Go.Lib Go.Sort

theorem wp_region_T {P : Program} {ops : Array Oper} {Q : Exit → Act → World → Prop} {Φ S : World → Prop} {w : World} {id : Nat} {a : Act} (hT : Hid (Φ w)) (hd : ∀ w, Φ w → Φ w.drew) (hS : ∀ w, Φ w → S w) (hm : P.follows .mixedOrders = true)
    (h : ∀ w', Hid (Φ w') → Hid (S w') → wpAnyH P .any ops Q S ops.size (Array.replicate ops.size false) a w') : (Code.region id ops true).wp P Q a w :=
  wp_region_held hm (h _ (hd _ hT.out) (hS _ (hd _ hT.out)))
section
variable {ops : Array Oper} {rest : List Oper} {Q : Exit → Act → World → Prop} {op : Oper} {a : Act} {w : World}
theorem wpList_at {P : Program} (t : Nat) (hd : op.dst = some t) (h : wpList P ops Q (op :: rest) a w) : wpList P ops Q (op :: rest) a w := h
theorem wpList_atn {P : Program} (hd : op.dst = none) (h : wpList P ops Q (op :: rest) a w) : wpList P ops Q (op :: rest) a w := h
theorem wpList_kn {P : Program} (hw : Region.wanted op (yielded ops a.tmps) = true) (v : Value) (hrun : (execOp a.eval op).run P w = .ok (.value v) w) (h : wpList P ops Q rest (a.put op.dst v) w) : wpList P ops Q (op :: rest) a w := BigFrame.wpList_want hw fun K hK => mo_known v w hrun (hK _ _ h)
end
theorem res_ctt {P : Program} {fn : Func} {p q u : Tmp} {ty : TypeId} (h : fn.results = #[.cell p ty, .tmp u, .tmp q]) (tmps : Array Value) (w : World) {g T : Nat} {cs : Array Value} (d : TypeDesc)
    (hp : tmps.getD p undef = .pointer (some ⟨g, 0, none⟩)) (hg : w.heap[g]? = some (.cells cs T (0, 0))) (hu : P.underlying ty = some d) (hd : (match d with | .struct _ | .array _ _ => true | _ => false) = true) (hi : (P.info? ty).map (·.size) = some cs.size) :
    (results fn tmps).run P w = .ok (.tuple #[.agg cs, tmps.getD u undef, tmps.getD q undef]) w := by
  have hp' : tmps[p]?.getD undef = .pointer (some ⟨g, 0, none⟩) := by simpa using hp
  have e := run_loadVar_row (P := P) w g T ty cs (0, 0) d hg hu hd hi
  simp [results, h, hp', asAddr, e]
theorem id_oneV (n : Nat) (f : Nat → Nat) : (arr n (bv f)).all (·.oneCell') = true := Array.all_eq_true_iff_forall_mem.2 fun v hv => by
  simp only [arr, List.mem_toArray, List.mem_map] at hv
  obtain ⟨i, _, rfl⟩ := hv
  rfl
theorem mo_bs0 {Q : Exit → Act → World → Prop} {op : Oper} {a : Act} {w w0 : World} {l : List (Nat × TypeId × Array Value)} {K : Act → World → Prop} (ho : op.op = .buildSlice 32 0 #[]) (E : Hid (Mem w0 l w)) (nb : ∀ q, q ∈ l → q.2.1 ≠ 5)
    (k : ∀ p g w', Hid (Wb w0 l p g 0 [] w') → K (a.put op.dst (.slice p 0 0)) w') : op.wp Tryd.prog a w K Q := by
  refine mo_known (.slice (some ⟨w.heap.size, 0, none⟩) 0 0) (w.alloc (.cells #[] 5)) ?_ (k _ _ _ (Lib.hid (Wb.start E.out nb (own_start w (lf []) (lf_lt isB_nil)) (below_new w _))))
  unfold execOp
  simp only [ho, Array.map_empty, Sem.run_bind, run_bs0 Tryd.underlying32 infoB w, Result.andThen_ok]
  rfl
/-- Two cells. -/
def two (a b : Value) : Nat → Value := fun i => if i = 0 then a else b
theorem two_one {a b : Value} (ha : a.oneCell' = true) (hb : b.oneCell' = true) : ∀ i, i < 2 * 1 → (two a b i).oneCell' = true := fun i _ => by
  unfold two
  split
  · exact ha
  · exact hb
theorem hm_three {P : Program} {ops : Array Oper} {Q : Exit → Act → World → Prop} {md : Region.Mode} {S : World → Prop} {fuel : Nat} {listed : Array Bool} {a : Act} {w : World} {i j k : Nat} (hr : Region.ready md ops listed = [i, j, k]) (h1 : wpOp P ops Q i (fun a' w' => S w' ∧ wpAnyH P md ops Q S fuel (listed.setIfInBounds i true) a' w') a w)
    (h2 : wpOp P ops Q j (fun a' w' => S w' ∧ wpAnyH P md ops Q S fuel (listed.setIfInBounds j true) a' w') a w) (h3 : wpOp P ops Q k (fun a' w' => S w' ∧ wpAnyH P md ops Q S fuel (listed.setIfInBounds k true) a' w') a w) : wpAnyH P md ops Q S (fuel + 1) listed a w :=
  wpAnyH_all hr (by simp) fun q hq => by
    have : q = i ∨ q = j ∨ q = k := by simpa using hq
    rcases this with rfl | rfl | rfl
    · exact h1
    · exact h2
    · exact h3
theorem exec_mkmap {o : Oper} {ev : Operand → Value} {W : World} {T : TypeId} (ho : o.op = .makeMap T none) : (execOp ev o).run Tryd.prog W = .ok (.value (.map (some W.heap.size))) (W.alloc (.map #[] 0)) := by
  unfold execOp
  simp only [ho]
  rfl
set_option maxHeartbeats 4000000 in
theorem once_nil {w : World} : Calls Tryd.prog 33 #[.slice none 0 0] w fun e w' => e = .returned (.slice none 0 0) ∧ Below w.heap.size w w' := by
  go_enter Tryd.func33, Tryd.ntmps33
  go_wp2_with (first
    | ((with_reducible refine wpList_at 9 rfl ?_); refine mem_known rfl _ _ (exec_mkmap rfl) ?_))
  go_loop [4, 12] (fun o i => o = .slice none 0 0 ∧ i = .int .i64 0) (fun _ _ => 0)
  case atStart => exact ⟨rfl, rfl⟩
  case round =>
    obtain ⟨rfl, rfl⟩ := hrel
    go_wp2_with fail
    go_ret
    exact ⟨rfl, below_new w _⟩
theorem run_h8 (b : Nat) (w : World) : (Instr.sliceAt 23 (.pointer (some ⟨b, 0, none⟩)) none (some (.int .i64 8)) none).run Tryd.prog w = .ok (.slice (some ⟨b, 0, none⟩) 8 32) w := by kernel_rfl
theorem run_h16 (b : Nat) (w : World) : (Instr.sliceAt 23 (.pointer (some ⟨b, 0, none⟩)) (some (.int .i64 8)) (some (.int .i64 16)) none).run Tryd.prog w = .ok (.slice (some ⟨b, 8, none⟩) 8 24) w := by kernel_rfl
theorem row_h8 {w : World} {b T : Nat} (hh : w.heap[b]? = some (.cells (arr 32 (bv fun _ => 0)) T (0, 0))) : Row w (some ⟨b, 0, none⟩) b 0 8 32 (fun _ => 0) :=
  ⟨by omega, by unfold maxLen; omega, fun e => (by cases e), fun _ => rfl, fun i hi => cell_of_here hh _ (arr_get 32 _ _ (by omega)), fun _ => by omega⟩
theorem row_h16 {w : World} {b T : Nat} (hh : w.heap[b]? = some (.cells (arr 32 (bv fun _ => 0)) T (0, 0))) : Row w (some ⟨b, 8, none⟩) b 8 8 24 (fun _ => 0) :=
  ⟨by omega, by unfold maxLen; omega, fun e => (by cases e), fun _ => rfl, fun i hi => cell_of_here hh _ (arr_get 32 _ _ (by omega)), fun _ => by omega⟩
set_option maxHeartbeats 16000000 in
theorem fnums_zero {w : World} : Calls Tryd.prog 34 #[.agg (arr 32 (bv fun _ => 0)), .int .i64 0] w fun e w' => (∃ v, e = .returned v) ∧ Below w.heap.size w w' := by
  have E := Lib.hid (Mem.nil w)
  go_enter Tryd.func34, Tryd.ntmps34
  go_upto_region 1 with (first
    | ((with_reducible refine wpList_at 2 rfl ?_); refine mem_box E 23 rfl _ rfl rfl (arr_cells' 32 (bv fun _ => 0)) ?_; clear E; intro b2 w2 E))
  refine wp_region_T (Φ := fun X => Below w2.heap.size w2 X) (S := fun _ => True) (Lib.hid (Below.refl _ _)) (fun _ h => h.drew) (fun _ _ => trivial) (by kernel_rfl) ?_
  intro wx TT S0
  replace E := Lib.hid (E.out.call TT.out)
  refine hm_run 0 8 (.slice (some ⟨b2, 0, none⟩) 8 32) rfl rfl (by kernel_rfl) (by kernel_rfl) (by kernel_rfl) (fun _ _ _ h => h) rfl (fun W _ => exec_sl rfl (run_h8 b2 W)) S0.out ?_
  try simp only [Act.put, List.getElem_toArray, List.getElem_cons_succ, List.getElem_cons_zero, List.setIfInBounds_toArray, List.set_cons_zero, List.set_cons_succ]
  refine hm_run 2 10 (.slice (some ⟨b2, 8, none⟩) 8 24) rfl rfl (by kernel_rfl) (by kernel_rfl) (by kernel_rfl) (fun _ _ _ h => h) rfl (fun W _ => exec_sl rfl (run_h16 b2 W)) S0.out ?_
  try simp only [Act.put, List.getElem_toArray, List.getElem_cons_succ, List.getElem_cons_zero, List.setIfInBounds_toArray, List.set_cons_zero, List.set_cons_succ]
  refine hm_three (i := 1) (j := 4) (k := 5) (by kernel_rfl) ?_ ?_ ?_
  · refine hm_step 1 rfl (by kernel_rfl) fun K hK => ?_
    try simp only [Act.put, List.getElem_toArray, List.getElem_cons_succ, List.getElem_cons_zero, List.setIfInBounds_toArray, List.set_cons_zero, List.set_cons_succ]
    go_simp
    go_at_call 63
    refine (bnum_any (Lib.hid (row_h8 (E.out.get (b := b2) (by first | exact List.mem_cons_self | exact List.mem_cons_of_mem _ List.mem_cons_self | exact List.mem_cons_of_mem _ (List.mem_cons_of_mem _ List.mem_cons_self))))) (by omega)).mono ?_
    rintro e w7 ⟨rfl, rfl⟩
    have S1_2 := S0
    refine hK _ _ S1_2.out ?_
    clear hK K
    try simp only [Act.put, List.getElem_toArray, List.getElem_cons_succ, List.getElem_cons_zero, List.setIfInBounds_toArray, List.set_cons_zero, List.set_cons_succ]
    refine hm_three (i := 3) (j := 4) (k := 5) (by kernel_rfl) ?_ ?_ ?_
    · refine hm_step 3 rfl (by kernel_rfl) fun K hK => ?_
      try simp only [Act.put, List.getElem_toArray, List.getElem_cons_succ, List.getElem_cons_zero, List.setIfInBounds_toArray, List.set_cons_zero, List.set_cons_succ]
      go_simp
      go_at_call 63
      refine (bnum_any (Lib.hid (row_h16 (E.out.get (b := b2) (by first | exact List.mem_cons_self | exact List.mem_cons_of_mem _ List.mem_cons_self | exact List.mem_cons_of_mem _ (List.mem_cons_of_mem _ List.mem_cons_self))))) (by omega)).mono ?_
      rintro e w7 ⟨rfl, rfl⟩
      have S3_3 := S1_2
      refine hK _ _ S3_3.out ?_
      clear hK K
      try simp only [Act.put, List.getElem_toArray, List.getElem_cons_succ, List.getElem_cons_zero, List.setIfInBounds_toArray, List.set_cons_zero, List.set_cons_succ]
      refine hm_two (i := 4) (j := 5) (by kernel_rfl) ?_ ?_
      · refine hm_step 4 rfl (by kernel_rfl) fun K hK => ?_
        try simp only [Act.put, List.getElem_toArray, List.getElem_cons_succ, List.getElem_cons_zero, List.setIfInBounds_toArray, List.set_cons_zero, List.set_cons_succ]
        refine mo_alloc E 59 rfl (z := .int .u64 0) (n := 1) (by kernel_rfl) ?_
        clear E
        intro b5 w8 E
        have S4_4 := S3_3
        refine hK _ _ S4_4.out ?_
        clear hK K
        try simp only [Act.put, List.getElem_toArray, List.getElem_cons_succ, List.getElem_cons_zero, List.setIfInBounds_toArray, List.set_cons_zero, List.set_cons_succ]
        refine hm_one (i := 5) (by kernel_rfl) ?_
        refine hm_step 5 rfl (by kernel_rfl) fun K hK => ?_
        try simp only [Act.put, List.getElem_toArray, List.getElem_cons_succ, List.getElem_cons_zero, List.setIfInBounds_toArray, List.set_cons_zero, List.set_cons_succ]
        refine mo_alloc E 59 rfl (z := .int .u64 0) (n := 1) (by kernel_rfl) ?_
        clear E
        intro b6 w8 E
        have S5_5 := S4_4
        refine hK _ _ S5_5.out ?_
        clear hK K
        try simp only [Act.put, List.getElem_toArray, List.getElem_cons_succ, List.getElem_cons_zero, List.setIfInBounds_toArray, List.set_cons_zero, List.set_cons_succ]
        refine hm_one (i := 6) (by kernel_rfl) ?_
        refine hm_step 6 rfl (by kernel_rfl) fun K hK => ?_
        try simp only [Act.put, List.getElem_toArray, List.getElem_cons_succ, List.getElem_cons_zero, List.setIfInBounds_toArray, List.set_cons_zero, List.set_cons_succ]
        first | refine mo_store_cell 0 E 59 (.tmp 5) (.tmp 9) rfl rfl rfl rfl (by kernel_rfl) rfl rfl rfl rfl ?_ | refine mo_store_cell 1 E 59 (.tmp 5) (.tmp 9) rfl rfl rfl rfl (by kernel_rfl) rfl rfl rfl rfl ?_
        clear E
        intro w9 E
        simp only [List.set_cons_zero, List.set_cons_succ] at E
        have S6_6 := S5_5
        refine hK _ _ S6_6.out ?_
        clear hK K
        try simp only [Act.put, List.getElem_toArray, List.getElem_cons_succ, List.getElem_cons_zero, List.setIfInBounds_toArray, List.set_cons_zero, List.set_cons_succ]
        refine hm_one (i := 7) (by kernel_rfl) ?_
        refine hm_step 7 rfl (by kernel_rfl) fun K hK => ?_
        try simp only [Act.put, List.getElem_toArray, List.getElem_cons_succ, List.getElem_cons_zero, List.setIfInBounds_toArray, List.set_cons_zero, List.set_cons_succ]
        first | refine mo_store_cell 0 E 59 (.tmp 6) (.tmp 11) rfl rfl rfl rfl (by kernel_rfl) rfl rfl rfl rfl ?_ | refine mo_store_cell 1 E 59 (.tmp 6) (.tmp 11) rfl rfl rfl rfl (by kernel_rfl) rfl rfl rfl rfl ?_
        clear E
        intro w9 E
        simp only [List.set_cons_zero, List.set_cons_succ] at E
        have S7_7 := S6_6
        refine hK _ _ S7_7.out ?_
        clear hK K
        try simp only [Act.put, List.getElem_toArray, List.getElem_cons_succ, List.getElem_cons_zero, List.setIfInBounds_toArray, List.set_cons_zero, List.set_cons_succ]
        refine wpAnyH_done (by kernel_rfl) ?_ _
        go_wp2_with (first | (refine mem_alloc E 59 rfl rfl (z := .int .u64 0) (n := 1) (by kernel_rfl) ?_; clear E; intro b7 w11 E) | (refine mem_store_cell 0 E 59 rfl (.tmp 7) (.tmp 14) rfl rfl rfl rfl (by kernel_rfl) rfl rfl rfl rfl ?_; clear E; intro w12 E))
        go_ret
        exact ⟨⟨_, rfl⟩, E.out.below⟩
      · refine hm_step 5 rfl (by kernel_rfl) fun K hK => ?_
        try simp only [Act.put, List.getElem_toArray, List.getElem_cons_succ, List.getElem_cons_zero, List.setIfInBounds_toArray, List.set_cons_zero, List.set_cons_succ]
        refine mo_alloc E 59 rfl (z := .int .u64 0) (n := 1) (by kernel_rfl) ?_
        clear E
        intro b6 w8 E
        have S5_4 := S3_3
        refine hK _ _ S5_4.out ?_
        clear hK K
        try simp only [Act.put, List.getElem_toArray, List.getElem_cons_succ, List.getElem_cons_zero, List.setIfInBounds_toArray, List.set_cons_zero, List.set_cons_succ]
        refine hm_one (i := 4) (by kernel_rfl) ?_
        refine hm_step 4 rfl (by kernel_rfl) fun K hK => ?_
        try simp only [Act.put, List.getElem_toArray, List.getElem_cons_succ, List.getElem_cons_zero, List.setIfInBounds_toArray, List.set_cons_zero, List.set_cons_succ]
        refine mo_alloc E 59 rfl (z := .int .u64 0) (n := 1) (by kernel_rfl) ?_
        clear E
        intro b5 w8 E
        have S4_5 := S5_4
        refine hK _ _ S4_5.out ?_
        clear hK K
        try simp only [Act.put, List.getElem_toArray, List.getElem_cons_succ, List.getElem_cons_zero, List.setIfInBounds_toArray, List.set_cons_zero, List.set_cons_succ]
        refine hm_one (i := 6) (by kernel_rfl) ?_
        refine hm_step 6 rfl (by kernel_rfl) fun K hK => ?_
        try simp only [Act.put, List.getElem_toArray, List.getElem_cons_succ, List.getElem_cons_zero, List.setIfInBounds_toArray, List.set_cons_zero, List.set_cons_succ]
        first | refine mo_store_cell 0 E 59 (.tmp 5) (.tmp 9) rfl rfl rfl rfl (by kernel_rfl) rfl rfl rfl rfl ?_ | refine mo_store_cell 1 E 59 (.tmp 5) (.tmp 9) rfl rfl rfl rfl (by kernel_rfl) rfl rfl rfl rfl ?_
        clear E
        intro w9 E
        simp only [List.set_cons_zero, List.set_cons_succ] at E
        have S6_6 := S4_5
        refine hK _ _ S6_6.out ?_
        clear hK K
        try simp only [Act.put, List.getElem_toArray, List.getElem_cons_succ, List.getElem_cons_zero, List.setIfInBounds_toArray, List.set_cons_zero, List.set_cons_succ]
        refine hm_one (i := 7) (by kernel_rfl) ?_
        refine hm_step 7 rfl (by kernel_rfl) fun K hK => ?_
        try simp only [Act.put, List.getElem_toArray, List.getElem_cons_succ, List.getElem_cons_zero, List.setIfInBounds_toArray, List.set_cons_zero, List.set_cons_succ]
        first | refine mo_store_cell 0 E 59 (.tmp 6) (.tmp 11) rfl rfl rfl rfl (by kernel_rfl) rfl rfl rfl rfl ?_ | refine mo_store_cell 1 E 59 (.tmp 6) (.tmp 11) rfl rfl rfl rfl (by kernel_rfl) rfl rfl rfl rfl ?_
        clear E
        intro w9 E
        simp only [List.set_cons_zero, List.set_cons_succ] at E
        have S7_7 := S6_6
        refine hK _ _ S7_7.out ?_
        clear hK K
        try simp only [Act.put, List.getElem_toArray, List.getElem_cons_succ, List.getElem_cons_zero, List.setIfInBounds_toArray, List.set_cons_zero, List.set_cons_succ]
        refine wpAnyH_done (by kernel_rfl) ?_ _
        go_wp2_with (first | (refine mem_alloc E 59 rfl rfl (z := .int .u64 0) (n := 1) (by kernel_rfl) ?_; clear E; intro b7 w11 E) | (refine mem_store_cell 0 E 59 rfl (.tmp 7) (.tmp 14) rfl rfl rfl rfl (by kernel_rfl) rfl rfl rfl rfl ?_; clear E; intro w12 E))
        go_ret
        exact ⟨⟨_, rfl⟩, E.out.below⟩
    · refine hm_step 4 rfl (by kernel_rfl) fun K hK => ?_
      try simp only [Act.put, List.getElem_toArray, List.getElem_cons_succ, List.getElem_cons_zero, List.setIfInBounds_toArray, List.set_cons_zero, List.set_cons_succ]
      refine mo_alloc E 59 rfl (z := .int .u64 0) (n := 1) (by kernel_rfl) ?_
      clear E
      intro b5 w8 E
      have S4_3 := S1_2
      refine hK _ _ S4_3.out ?_
      clear hK K
      try simp only [Act.put, List.getElem_toArray, List.getElem_cons_succ, List.getElem_cons_zero, List.setIfInBounds_toArray, List.set_cons_zero, List.set_cons_succ]
      refine hm_two (i := 3) (j := 5) (by kernel_rfl) ?_ ?_
      · refine hm_step 3 rfl (by kernel_rfl) fun K hK => ?_
        try simp only [Act.put, List.getElem_toArray, List.getElem_cons_succ, List.getElem_cons_zero, List.setIfInBounds_toArray, List.set_cons_zero, List.set_cons_succ]
        go_simp
        go_at_call 63
        refine (bnum_any (Lib.hid (row_h16 (E.out.get (b := b2) (by first | exact List.mem_cons_self | exact List.mem_cons_of_mem _ List.mem_cons_self | exact List.mem_cons_of_mem _ (List.mem_cons_of_mem _ List.mem_cons_self))))) (by omega)).mono ?_
        rintro e w7 ⟨rfl, rfl⟩
        have S3_4 := S4_3
        refine hK _ _ S3_4.out ?_
        clear hK K
        try simp only [Act.put, List.getElem_toArray, List.getElem_cons_succ, List.getElem_cons_zero, List.setIfInBounds_toArray, List.set_cons_zero, List.set_cons_succ]
        refine hm_one (i := 5) (by kernel_rfl) ?_
        refine hm_step 5 rfl (by kernel_rfl) fun K hK => ?_
        try simp only [Act.put, List.getElem_toArray, List.getElem_cons_succ, List.getElem_cons_zero, List.setIfInBounds_toArray, List.set_cons_zero, List.set_cons_succ]
        refine mo_alloc E 59 rfl (z := .int .u64 0) (n := 1) (by kernel_rfl) ?_
        clear E
        intro b6 w8 E
        have S5_5 := S3_4
        refine hK _ _ S5_5.out ?_
        clear hK K
        try simp only [Act.put, List.getElem_toArray, List.getElem_cons_succ, List.getElem_cons_zero, List.setIfInBounds_toArray, List.set_cons_zero, List.set_cons_succ]
        refine hm_one (i := 6) (by kernel_rfl) ?_
        refine hm_step 6 rfl (by kernel_rfl) fun K hK => ?_
        try simp only [Act.put, List.getElem_toArray, List.getElem_cons_succ, List.getElem_cons_zero, List.setIfInBounds_toArray, List.set_cons_zero, List.set_cons_succ]
        first | refine mo_store_cell 0 E 59 (.tmp 5) (.tmp 9) rfl rfl rfl rfl (by kernel_rfl) rfl rfl rfl rfl ?_ | refine mo_store_cell 1 E 59 (.tmp 5) (.tmp 9) rfl rfl rfl rfl (by kernel_rfl) rfl rfl rfl rfl ?_
        clear E
        intro w9 E
        simp only [List.set_cons_zero, List.set_cons_succ] at E
        have S6_6 := S5_5
        refine hK _ _ S6_6.out ?_
        clear hK K
        try simp only [Act.put, List.getElem_toArray, List.getElem_cons_succ, List.getElem_cons_zero, List.setIfInBounds_toArray, List.set_cons_zero, List.set_cons_succ]
        refine hm_one (i := 7) (by kernel_rfl) ?_
        refine hm_step 7 rfl (by kernel_rfl) fun K hK => ?_
        try simp only [Act.put, List.getElem_toArray, List.getElem_cons_succ, List.getElem_cons_zero, List.setIfInBounds_toArray, List.set_cons_zero, List.set_cons_succ]
        first | refine mo_store_cell 0 E 59 (.tmp 6) (.tmp 11) rfl rfl rfl rfl (by kernel_rfl) rfl rfl rfl rfl ?_ | refine mo_store_cell 1 E 59 (.tmp 6) (.tmp 11) rfl rfl rfl rfl (by kernel_rfl) rfl rfl rfl rfl ?_
        clear E
        intro w9 E
        simp only [List.set_cons_zero, List.set_cons_succ] at E
        have S7_7 := S6_6
        refine hK _ _ S7_7.out ?_
        clear hK K
        try simp only [Act.put, List.getElem_toArray, List.getElem_cons_succ, List.getElem_cons_zero, List.setIfInBounds_toArray, List.set_cons_zero, List.set_cons_succ]
        refine wpAnyH_done (by kernel_rfl) ?_ _
        go_wp2_with (first | (refine mem_alloc E 59 rfl rfl (z := .int .u64 0) (n := 1) (by kernel_rfl) ?_; clear E; intro b7 w11 E) | (refine mem_store_cell 0 E 59 rfl (.tmp 7) (.tmp 14) rfl rfl rfl rfl (by kernel_rfl) rfl rfl rfl rfl ?_; clear E; intro w12 E))
        go_ret
        exact ⟨⟨_, rfl⟩, E.out.below⟩
      · refine hm_step 5 rfl (by kernel_rfl) fun K hK => ?_
        try simp only [Act.put, List.getElem_toArray, List.getElem_cons_succ, List.getElem_cons_zero, List.setIfInBounds_toArray, List.set_cons_zero, List.set_cons_succ]
        refine mo_alloc E 59 rfl (z := .int .u64 0) (n := 1) (by kernel_rfl) ?_
        clear E
        intro b6 w8 E
        have S5_4 := S4_3
        refine hK _ _ S5_4.out ?_
        clear hK K
        try simp only [Act.put, List.getElem_toArray, List.getElem_cons_succ, List.getElem_cons_zero, List.setIfInBounds_toArray, List.set_cons_zero, List.set_cons_succ]
        refine hm_one (i := 3) (by kernel_rfl) ?_
        refine hm_step 3 rfl (by kernel_rfl) fun K hK => ?_
        try simp only [Act.put, List.getElem_toArray, List.getElem_cons_succ, List.getElem_cons_zero, List.setIfInBounds_toArray, List.set_cons_zero, List.set_cons_succ]
        go_simp
        go_at_call 63
        refine (bnum_any (Lib.hid (row_h16 (E.out.get (b := b2) (by first | exact List.mem_cons_self | exact List.mem_cons_of_mem _ List.mem_cons_self | exact List.mem_cons_of_mem _ (List.mem_cons_of_mem _ List.mem_cons_self))))) (by omega)).mono ?_
        rintro e w7 ⟨rfl, rfl⟩
        have S3_5 := S5_4
        refine hK _ _ S3_5.out ?_
        clear hK K
        try simp only [Act.put, List.getElem_toArray, List.getElem_cons_succ, List.getElem_cons_zero, List.setIfInBounds_toArray, List.set_cons_zero, List.set_cons_succ]
        refine hm_one (i := 6) (by kernel_rfl) ?_
        refine hm_step 6 rfl (by kernel_rfl) fun K hK => ?_
        try simp only [Act.put, List.getElem_toArray, List.getElem_cons_succ, List.getElem_cons_zero, List.setIfInBounds_toArray, List.set_cons_zero, List.set_cons_succ]
        first | refine mo_store_cell 0 E 59 (.tmp 5) (.tmp 9) rfl rfl rfl rfl (by kernel_rfl) rfl rfl rfl rfl ?_ | refine mo_store_cell 1 E 59 (.tmp 5) (.tmp 9) rfl rfl rfl rfl (by kernel_rfl) rfl rfl rfl rfl ?_
        clear E
        intro w9 E
        simp only [List.set_cons_zero, List.set_cons_succ] at E
        have S6_6 := S3_5
        refine hK _ _ S6_6.out ?_
        clear hK K
        try simp only [Act.put, List.getElem_toArray, List.getElem_cons_succ, List.getElem_cons_zero, List.setIfInBounds_toArray, List.set_cons_zero, List.set_cons_succ]
        refine hm_one (i := 7) (by kernel_rfl) ?_
        refine hm_step 7 rfl (by kernel_rfl) fun K hK => ?_
        try simp only [Act.put, List.getElem_toArray, List.getElem_cons_succ, List.getElem_cons_zero, List.setIfInBounds_toArray, List.set_cons_zero, List.set_cons_succ]
        first | refine mo_store_cell 0 E 59 (.tmp 6) (.tmp 11) rfl rfl rfl rfl (by kernel_rfl) rfl rfl rfl rfl ?_ | refine mo_store_cell 1 E 59 (.tmp 6) (.tmp 11) rfl rfl rfl rfl (by kernel_rfl) rfl rfl rfl rfl ?_
        clear E
        intro w9 E
        simp only [List.set_cons_zero, List.set_cons_succ] at E
        have S7_7 := S6_6
        refine hK _ _ S7_7.out ?_
        clear hK K
        try simp only [Act.put, List.getElem_toArray, List.getElem_cons_succ, List.getElem_cons_zero, List.setIfInBounds_toArray, List.set_cons_zero, List.set_cons_succ]
        refine wpAnyH_done (by kernel_rfl) ?_ _
        go_wp2_with (first | (refine mem_alloc E 59 rfl rfl (z := .int .u64 0) (n := 1) (by kernel_rfl) ?_; clear E; intro b7 w11 E) | (refine mem_store_cell 0 E 59 rfl (.tmp 7) (.tmp 14) rfl rfl rfl rfl (by kernel_rfl) rfl rfl rfl rfl ?_; clear E; intro w12 E))
        go_ret
        exact ⟨⟨_, rfl⟩, E.out.below⟩
    · refine hm_step 5 rfl (by kernel_rfl) fun K hK => ?_
      try simp only [Act.put, List.getElem_toArray, List.getElem_cons_succ, List.getElem_cons_zero, List.setIfInBounds_toArray, List.set_cons_zero, List.set_cons_succ]
      refine mo_alloc E 59 rfl (z := .int .u64 0) (n := 1) (by kernel_rfl) ?_
      clear E
      intro b6 w8 E
      have S5_3 := S1_2
      refine hK _ _ S5_3.out ?_
      clear hK K
      try simp only [Act.put, List.getElem_toArray, List.getElem_cons_succ, List.getElem_cons_zero, List.setIfInBounds_toArray, List.set_cons_zero, List.set_cons_succ]
      refine hm_two (i := 3) (j := 4) (by kernel_rfl) ?_ ?_
      · refine hm_step 3 rfl (by kernel_rfl) fun K hK => ?_
        try simp only [Act.put, List.getElem_toArray, List.getElem_cons_succ, List.getElem_cons_zero, List.setIfInBounds_toArray, List.set_cons_zero, List.set_cons_succ]
        go_simp
        go_at_call 63
        refine (bnum_any (Lib.hid (row_h16 (E.out.get (b := b2) (by first | exact List.mem_cons_self | exact List.mem_cons_of_mem _ List.mem_cons_self | exact List.mem_cons_of_mem _ (List.mem_cons_of_mem _ List.mem_cons_self))))) (by omega)).mono ?_
        rintro e w7 ⟨rfl, rfl⟩
        have S3_4 := S5_3
        refine hK _ _ S3_4.out ?_
        clear hK K
        try simp only [Act.put, List.getElem_toArray, List.getElem_cons_succ, List.getElem_cons_zero, List.setIfInBounds_toArray, List.set_cons_zero, List.set_cons_succ]
        refine hm_one (i := 4) (by kernel_rfl) ?_
        refine hm_step 4 rfl (by kernel_rfl) fun K hK => ?_
        try simp only [Act.put, List.getElem_toArray, List.getElem_cons_succ, List.getElem_cons_zero, List.setIfInBounds_toArray, List.set_cons_zero, List.set_cons_succ]
        refine mo_alloc E 59 rfl (z := .int .u64 0) (n := 1) (by kernel_rfl) ?_
        clear E
        intro b5 w8 E
        have S4_5 := S3_4
        refine hK _ _ S4_5.out ?_
        clear hK K
        try simp only [Act.put, List.getElem_toArray, List.getElem_cons_succ, List.getElem_cons_zero, List.setIfInBounds_toArray, List.set_cons_zero, List.set_cons_succ]
        refine hm_one (i := 6) (by kernel_rfl) ?_
        refine hm_step 6 rfl (by kernel_rfl) fun K hK => ?_
        try simp only [Act.put, List.getElem_toArray, List.getElem_cons_succ, List.getElem_cons_zero, List.setIfInBounds_toArray, List.set_cons_zero, List.set_cons_succ]
        first | refine mo_store_cell 0 E 59 (.tmp 5) (.tmp 9) rfl rfl rfl rfl (by kernel_rfl) rfl rfl rfl rfl ?_ | refine mo_store_cell 1 E 59 (.tmp 5) (.tmp 9) rfl rfl rfl rfl (by kernel_rfl) rfl rfl rfl rfl ?_
        clear E
        intro w9 E
        simp only [List.set_cons_zero, List.set_cons_succ] at E
        have S6_6 := S4_5
        refine hK _ _ S6_6.out ?_
        clear hK K
        try simp only [Act.put, List.getElem_toArray, List.getElem_cons_succ, List.getElem_cons_zero, List.setIfInBounds_toArray, List.set_cons_zero, List.set_cons_succ]
        refine hm_one (i := 7) (by kernel_rfl) ?_
        refine hm_step 7 rfl (by kernel_rfl) fun K hK => ?_
        try simp only [Act.put, List.getElem_toArray, List.getElem_cons_succ, List.getElem_cons_zero, List.setIfInBounds_toArray, List.set_cons_zero, List.set_cons_succ]
        first | refine mo_store_cell 0 E 59 (.tmp 6) (.tmp 11) rfl rfl rfl rfl (by kernel_rfl) rfl rfl rfl rfl ?_ | refine mo_store_cell 1 E 59 (.tmp 6) (.tmp 11) rfl rfl rfl rfl (by kernel_rfl) rfl rfl rfl rfl ?_
        clear E
        intro w9 E
        simp only [List.set_cons_zero, List.set_cons_succ] at E
        have S7_7 := S6_6
        refine hK _ _ S7_7.out ?_
        clear hK K
        try simp only [Act.put, List.getElem_toArray, List.getElem_cons_succ, List.getElem_cons_zero, List.setIfInBounds_toArray, List.set_cons_zero, List.set_cons_succ]
        refine wpAnyH_done (by kernel_rfl) ?_ _
        go_wp2_with (first | (refine mem_alloc E 59 rfl rfl (z := .int .u64 0) (n := 1) (by kernel_rfl) ?_; clear E; intro b7 w11 E) | (refine mem_store_cell 0 E 59 rfl (.tmp 7) (.tmp 14) rfl rfl rfl rfl (by kernel_rfl) rfl rfl rfl rfl ?_; clear E; intro w12 E))
        go_ret
        exact ⟨⟨_, rfl⟩, E.out.below⟩
      · refine hm_step 4 rfl (by kernel_rfl) fun K hK => ?_
        try simp only [Act.put, List.getElem_toArray, List.getElem_cons_succ, List.getElem_cons_zero, List.setIfInBounds_toArray, List.set_cons_zero, List.set_cons_succ]
        refine mo_alloc E 59 rfl (z := .int .u64 0) (n := 1) (by kernel_rfl) ?_
        clear E
        intro b5 w8 E
        have S4_4 := S5_3
        refine hK _ _ S4_4.out ?_
        clear hK K
        try simp only [Act.put, List.getElem_toArray, List.getElem_cons_succ, List.getElem_cons_zero, List.setIfInBounds_toArray, List.set_cons_zero, List.set_cons_succ]
        refine hm_one (i := 3) (by kernel_rfl) ?_
        refine hm_step 3 rfl (by kernel_rfl) fun K hK => ?_
        try simp only [Act.put, List.getElem_toArray, List.getElem_cons_succ, List.getElem_cons_zero, List.setIfInBounds_toArray, List.set_cons_zero, List.set_cons_succ]
        go_simp
        go_at_call 63
        refine (bnum_any (Lib.hid (row_h16 (E.out.get (b := b2) (by first | exact List.mem_cons_self | exact List.mem_cons_of_mem _ List.mem_cons_self | exact List.mem_cons_of_mem _ (List.mem_cons_of_mem _ List.mem_cons_self))))) (by omega)).mono ?_
        rintro e w7 ⟨rfl, rfl⟩
        have S3_5 := S4_4
        refine hK _ _ S3_5.out ?_
        clear hK K
        try simp only [Act.put, List.getElem_toArray, List.getElem_cons_succ, List.getElem_cons_zero, List.setIfInBounds_toArray, List.set_cons_zero, List.set_cons_succ]
        refine hm_one (i := 6) (by kernel_rfl) ?_
        refine hm_step 6 rfl (by kernel_rfl) fun K hK => ?_
        try simp only [Act.put, List.getElem_toArray, List.getElem_cons_succ, List.getElem_cons_zero, List.setIfInBounds_toArray, List.set_cons_zero, List.set_cons_succ]
        first | refine mo_store_cell 0 E 59 (.tmp 5) (.tmp 9) rfl rfl rfl rfl (by kernel_rfl) rfl rfl rfl rfl ?_ | refine mo_store_cell 1 E 59 (.tmp 5) (.tmp 9) rfl rfl rfl rfl (by kernel_rfl) rfl rfl rfl rfl ?_
        clear E
        intro w9 E
        simp only [List.set_cons_zero, List.set_cons_succ] at E
        have S6_6 := S3_5
        refine hK _ _ S6_6.out ?_
        clear hK K
        try simp only [Act.put, List.getElem_toArray, List.getElem_cons_succ, List.getElem_cons_zero, List.setIfInBounds_toArray, List.set_cons_zero, List.set_cons_succ]
        refine hm_one (i := 7) (by kernel_rfl) ?_
        refine hm_step 7 rfl (by kernel_rfl) fun K hK => ?_
        try simp only [Act.put, List.getElem_toArray, List.getElem_cons_succ, List.getElem_cons_zero, List.setIfInBounds_toArray, List.set_cons_zero, List.set_cons_succ]
        first | refine mo_store_cell 0 E 59 (.tmp 6) (.tmp 11) rfl rfl rfl rfl (by kernel_rfl) rfl rfl rfl rfl ?_ | refine mo_store_cell 1 E 59 (.tmp 6) (.tmp 11) rfl rfl rfl rfl (by kernel_rfl) rfl rfl rfl rfl ?_
        clear E
        intro w9 E
        simp only [List.set_cons_zero, List.set_cons_succ] at E
        have S7_7 := S6_6
        refine hK _ _ S7_7.out ?_
        clear hK K
        try simp only [Act.put, List.getElem_toArray, List.getElem_cons_succ, List.getElem_cons_zero, List.setIfInBounds_toArray, List.set_cons_zero, List.set_cons_succ]
        refine wpAnyH_done (by kernel_rfl) ?_ _
        go_wp2_with (first | (refine mem_alloc E 59 rfl rfl (z := .int .u64 0) (n := 1) (by kernel_rfl) ?_; clear E; intro b7 w11 E) | (refine mem_store_cell 0 E 59 rfl (.tmp 7) (.tmp 14) rfl rfl rfl rfl (by kernel_rfl) rfl rfl rfl rfl ?_; clear E; intro w12 E))
        go_ret
        exact ⟨⟨_, rfl⟩, E.out.below⟩
  · refine hm_step 4 rfl (by kernel_rfl) fun K hK => ?_
    try simp only [Act.put, List.getElem_toArray, List.getElem_cons_succ, List.getElem_cons_zero, List.setIfInBounds_toArray, List.set_cons_zero, List.set_cons_succ]
    refine mo_alloc E 59 rfl (z := .int .u64 0) (n := 1) (by kernel_rfl) ?_
    clear E
    intro b5 w8 E
    have S4_2 := S0
    refine hK _ _ S4_2.out ?_
    clear hK K
    try simp only [Act.put, List.getElem_toArray, List.getElem_cons_succ, List.getElem_cons_zero, List.setIfInBounds_toArray, List.set_cons_zero, List.set_cons_succ]
    refine hm_two (i := 1) (j := 5) (by kernel_rfl) ?_ ?_
    · refine hm_step 1 rfl (by kernel_rfl) fun K hK => ?_
      try simp only [Act.put, List.getElem_toArray, List.getElem_cons_succ, List.getElem_cons_zero, List.setIfInBounds_toArray, List.set_cons_zero, List.set_cons_succ]
      go_simp
      go_at_call 63
      refine (bnum_any (Lib.hid (row_h8 (E.out.get (b := b2) (by first | exact List.mem_cons_self | exact List.mem_cons_of_mem _ List.mem_cons_self | exact List.mem_cons_of_mem _ (List.mem_cons_of_mem _ List.mem_cons_self))))) (by omega)).mono ?_
      rintro e w7 ⟨rfl, rfl⟩
      have S1_3 := S4_2
      refine hK _ _ S1_3.out ?_
      clear hK K
      try simp only [Act.put, List.getElem_toArray, List.getElem_cons_succ, List.getElem_cons_zero, List.setIfInBounds_toArray, List.set_cons_zero, List.set_cons_succ]
      refine hm_two (i := 3) (j := 5) (by kernel_rfl) ?_ ?_
      · refine hm_step 3 rfl (by kernel_rfl) fun K hK => ?_
        try simp only [Act.put, List.getElem_toArray, List.getElem_cons_succ, List.getElem_cons_zero, List.setIfInBounds_toArray, List.set_cons_zero, List.set_cons_succ]
        go_simp
        go_at_call 63
        refine (bnum_any (Lib.hid (row_h16 (E.out.get (b := b2) (by first | exact List.mem_cons_self | exact List.mem_cons_of_mem _ List.mem_cons_self | exact List.mem_cons_of_mem _ (List.mem_cons_of_mem _ List.mem_cons_self))))) (by omega)).mono ?_
        rintro e w7 ⟨rfl, rfl⟩
        have S3_4 := S1_3
        refine hK _ _ S3_4.out ?_
        clear hK K
        try simp only [Act.put, List.getElem_toArray, List.getElem_cons_succ, List.getElem_cons_zero, List.setIfInBounds_toArray, List.set_cons_zero, List.set_cons_succ]
        refine hm_one (i := 5) (by kernel_rfl) ?_
        refine hm_step 5 rfl (by kernel_rfl) fun K hK => ?_
        try simp only [Act.put, List.getElem_toArray, List.getElem_cons_succ, List.getElem_cons_zero, List.setIfInBounds_toArray, List.set_cons_zero, List.set_cons_succ]
        refine mo_alloc E 59 rfl (z := .int .u64 0) (n := 1) (by kernel_rfl) ?_
        clear E
        intro b6 w8 E
        have S5_5 := S3_4
        refine hK _ _ S5_5.out ?_
        clear hK K
        try simp only [Act.put, List.getElem_toArray, List.getElem_cons_succ, List.getElem_cons_zero, List.setIfInBounds_toArray, List.set_cons_zero, List.set_cons_succ]
        refine hm_one (i := 6) (by kernel_rfl) ?_
        refine hm_step 6 rfl (by kernel_rfl) fun K hK => ?_
        try simp only [Act.put, List.getElem_toArray, List.getElem_cons_succ, List.getElem_cons_zero, List.setIfInBounds_toArray, List.set_cons_zero, List.set_cons_succ]
        first | refine mo_store_cell 0 E 59 (.tmp 5) (.tmp 9) rfl rfl rfl rfl (by kernel_rfl) rfl rfl rfl rfl ?_ | refine mo_store_cell 1 E 59 (.tmp 5) (.tmp 9) rfl rfl rfl rfl (by kernel_rfl) rfl rfl rfl rfl ?_
        clear E
        intro w9 E
        simp only [List.set_cons_zero, List.set_cons_succ] at E
        have S6_6 := S5_5
        refine hK _ _ S6_6.out ?_
        clear hK K
        try simp only [Act.put, List.getElem_toArray, List.getElem_cons_succ, List.getElem_cons_zero, List.setIfInBounds_toArray, List.set_cons_zero, List.set_cons_succ]
        refine hm_one (i := 7) (by kernel_rfl) ?_
        refine hm_step 7 rfl (by kernel_rfl) fun K hK => ?_
        try simp only [Act.put, List.getElem_toArray, List.getElem_cons_succ, List.getElem_cons_zero, List.setIfInBounds_toArray, List.set_cons_zero, List.set_cons_succ]
        first | refine mo_store_cell 0 E 59 (.tmp 6) (.tmp 11) rfl rfl rfl rfl (by kernel_rfl) rfl rfl rfl rfl ?_ | refine mo_store_cell 1 E 59 (.tmp 6) (.tmp 11) rfl rfl rfl rfl (by kernel_rfl) rfl rfl rfl rfl ?_
        clear E
        intro w9 E
        simp only [List.set_cons_zero, List.set_cons_succ] at E
        have S7_7 := S6_6
        refine hK _ _ S7_7.out ?_
        clear hK K
        try simp only [Act.put, List.getElem_toArray, List.getElem_cons_succ, List.getElem_cons_zero, List.setIfInBounds_toArray, List.set_cons_zero, List.set_cons_succ]
        refine wpAnyH_done (by kernel_rfl) ?_ _
        go_wp2_with (first | (refine mem_alloc E 59 rfl rfl (z := .int .u64 0) (n := 1) (by kernel_rfl) ?_; clear E; intro b7 w11 E) | (refine mem_store_cell 0 E 59 rfl (.tmp 7) (.tmp 14) rfl rfl rfl rfl (by kernel_rfl) rfl rfl rfl rfl ?_; clear E; intro w12 E))
        go_ret
        exact ⟨⟨_, rfl⟩, E.out.below⟩
      · refine hm_step 5 rfl (by kernel_rfl) fun K hK => ?_
        try simp only [Act.put, List.getElem_toArray, List.getElem_cons_succ, List.getElem_cons_zero, List.setIfInBounds_toArray, List.set_cons_zero, List.set_cons_succ]
        refine mo_alloc E 59 rfl (z := .int .u64 0) (n := 1) (by kernel_rfl) ?_
        clear E
        intro b6 w8 E
        have S5_4 := S1_3
        refine hK _ _ S5_4.out ?_
        clear hK K
        try simp only [Act.put, List.getElem_toArray, List.getElem_cons_succ, List.getElem_cons_zero, List.setIfInBounds_toArray, List.set_cons_zero, List.set_cons_succ]
        refine hm_one (i := 3) (by kernel_rfl) ?_
        refine hm_step 3 rfl (by kernel_rfl) fun K hK => ?_
        try simp only [Act.put, List.getElem_toArray, List.getElem_cons_succ, List.getElem_cons_zero, List.setIfInBounds_toArray, List.set_cons_zero, List.set_cons_succ]
        go_simp
        go_at_call 63
        refine (bnum_any (Lib.hid (row_h16 (E.out.get (b := b2) (by first | exact List.mem_cons_self | exact List.mem_cons_of_mem _ List.mem_cons_self | exact List.mem_cons_of_mem _ (List.mem_cons_of_mem _ List.mem_cons_self))))) (by omega)).mono ?_
        rintro e w7 ⟨rfl, rfl⟩
        have S3_5 := S5_4
        refine hK _ _ S3_5.out ?_
        clear hK K
        try simp only [Act.put, List.getElem_toArray, List.getElem_cons_succ, List.getElem_cons_zero, List.setIfInBounds_toArray, List.set_cons_zero, List.set_cons_succ]
        refine hm_one (i := 6) (by kernel_rfl) ?_
        refine hm_step 6 rfl (by kernel_rfl) fun K hK => ?_
        try simp only [Act.put, List.getElem_toArray, List.getElem_cons_succ, List.getElem_cons_zero, List.setIfInBounds_toArray, List.set_cons_zero, List.set_cons_succ]
        first | refine mo_store_cell 0 E 59 (.tmp 5) (.tmp 9) rfl rfl rfl rfl (by kernel_rfl) rfl rfl rfl rfl ?_ | refine mo_store_cell 1 E 59 (.tmp 5) (.tmp 9) rfl rfl rfl rfl (by kernel_rfl) rfl rfl rfl rfl ?_
        clear E
        intro w9 E
        simp only [List.set_cons_zero, List.set_cons_succ] at E
        have S6_6 := S3_5
        refine hK _ _ S6_6.out ?_
        clear hK K
        try simp only [Act.put, List.getElem_toArray, List.getElem_cons_succ, List.getElem_cons_zero, List.setIfInBounds_toArray, List.set_cons_zero, List.set_cons_succ]
        refine hm_one (i := 7) (by kernel_rfl) ?_
        refine hm_step 7 rfl (by kernel_rfl) fun K hK => ?_
        try simp only [Act.put, List.getElem_toArray, List.getElem_cons_succ, List.getElem_cons_zero, List.setIfInBounds_toArray, List.set_cons_zero, List.set_cons_succ]
        first | refine mo_store_cell 0 E 59 (.tmp 6) (.tmp 11) rfl rfl rfl rfl (by kernel_rfl) rfl rfl rfl rfl ?_ | refine mo_store_cell 1 E 59 (.tmp 6) (.tmp 11) rfl rfl rfl rfl (by kernel_rfl) rfl rfl rfl rfl ?_
        clear E
        intro w9 E
        simp only [List.set_cons_zero, List.set_cons_succ] at E
        have S7_7 := S6_6
        refine hK _ _ S7_7.out ?_
        clear hK K
        try simp only [Act.put, List.getElem_toArray, List.getElem_cons_succ, List.getElem_cons_zero, List.setIfInBounds_toArray, List.set_cons_zero, List.set_cons_succ]
        refine wpAnyH_done (by kernel_rfl) ?_ _
        go_wp2_with (first | (refine mem_alloc E 59 rfl rfl (z := .int .u64 0) (n := 1) (by kernel_rfl) ?_; clear E; intro b7 w11 E) | (refine mem_store_cell 0 E 59 rfl (.tmp 7) (.tmp 14) rfl rfl rfl rfl (by kernel_rfl) rfl rfl rfl rfl ?_; clear E; intro w12 E))
        go_ret
        exact ⟨⟨_, rfl⟩, E.out.below⟩
    · refine hm_step 5 rfl (by kernel_rfl) fun K hK => ?_
      try simp only [Act.put, List.getElem_toArray, List.getElem_cons_succ, List.getElem_cons_zero, List.setIfInBounds_toArray, List.set_cons_zero, List.set_cons_succ]
      refine mo_alloc E 59 rfl (z := .int .u64 0) (n := 1) (by kernel_rfl) ?_
      clear E
      intro b6 w8 E
      have S5_3 := S4_2
      refine hK _ _ S5_3.out ?_
      clear hK K
      try simp only [Act.put, List.getElem_toArray, List.getElem_cons_succ, List.getElem_cons_zero, List.setIfInBounds_toArray, List.set_cons_zero, List.set_cons_succ]
      refine hm_one (i := 1) (by kernel_rfl) ?_
      refine hm_step 1 rfl (by kernel_rfl) fun K hK => ?_
      try simp only [Act.put, List.getElem_toArray, List.getElem_cons_succ, List.getElem_cons_zero, List.setIfInBounds_toArray, List.set_cons_zero, List.set_cons_succ]
      go_simp
      go_at_call 63
      refine (bnum_any (Lib.hid (row_h8 (E.out.get (b := b2) (by first | exact List.mem_cons_self | exact List.mem_cons_of_mem _ List.mem_cons_self | exact List.mem_cons_of_mem _ (List.mem_cons_of_mem _ List.mem_cons_self))))) (by omega)).mono ?_
      rintro e w7 ⟨rfl, rfl⟩
      have S1_4 := S5_3
      refine hK _ _ S1_4.out ?_
      clear hK K
      try simp only [Act.put, List.getElem_toArray, List.getElem_cons_succ, List.getElem_cons_zero, List.setIfInBounds_toArray, List.set_cons_zero, List.set_cons_succ]
      refine hm_one (i := 3) (by kernel_rfl) ?_
      refine hm_step 3 rfl (by kernel_rfl) fun K hK => ?_
      try simp only [Act.put, List.getElem_toArray, List.getElem_cons_succ, List.getElem_cons_zero, List.setIfInBounds_toArray, List.set_cons_zero, List.set_cons_succ]
      go_simp
      go_at_call 63
      refine (bnum_any (Lib.hid (row_h16 (E.out.get (b := b2) (by first | exact List.mem_cons_self | exact List.mem_cons_of_mem _ List.mem_cons_self | exact List.mem_cons_of_mem _ (List.mem_cons_of_mem _ List.mem_cons_self))))) (by omega)).mono ?_
      rintro e w7 ⟨rfl, rfl⟩
      have S3_5 := S1_4
      refine hK _ _ S3_5.out ?_
      clear hK K
      try simp only [Act.put, List.getElem_toArray, List.getElem_cons_succ, List.getElem_cons_zero, List.setIfInBounds_toArray, List.set_cons_zero, List.set_cons_succ]
      refine hm_one (i := 6) (by kernel_rfl) ?_
      refine hm_step 6 rfl (by kernel_rfl) fun K hK => ?_
      try simp only [Act.put, List.getElem_toArray, List.getElem_cons_succ, List.getElem_cons_zero, List.setIfInBounds_toArray, List.set_cons_zero, List.set_cons_succ]
      first | refine mo_store_cell 0 E 59 (.tmp 5) (.tmp 9) rfl rfl rfl rfl (by kernel_rfl) rfl rfl rfl rfl ?_ | refine mo_store_cell 1 E 59 (.tmp 5) (.tmp 9) rfl rfl rfl rfl (by kernel_rfl) rfl rfl rfl rfl ?_
      clear E
      intro w9 E
      simp only [List.set_cons_zero, List.set_cons_succ] at E
      have S6_6 := S3_5
      refine hK _ _ S6_6.out ?_
      clear hK K
      try simp only [Act.put, List.getElem_toArray, List.getElem_cons_succ, List.getElem_cons_zero, List.setIfInBounds_toArray, List.set_cons_zero, List.set_cons_succ]
      refine hm_one (i := 7) (by kernel_rfl) ?_
      refine hm_step 7 rfl (by kernel_rfl) fun K hK => ?_
      try simp only [Act.put, List.getElem_toArray, List.getElem_cons_succ, List.getElem_cons_zero, List.setIfInBounds_toArray, List.set_cons_zero, List.set_cons_succ]
      first | refine mo_store_cell 0 E 59 (.tmp 6) (.tmp 11) rfl rfl rfl rfl (by kernel_rfl) rfl rfl rfl rfl ?_ | refine mo_store_cell 1 E 59 (.tmp 6) (.tmp 11) rfl rfl rfl rfl (by kernel_rfl) rfl rfl rfl rfl ?_
      clear E
      intro w9 E
      simp only [List.set_cons_zero, List.set_cons_succ] at E
      have S7_7 := S6_6
      refine hK _ _ S7_7.out ?_
      clear hK K
      try simp only [Act.put, List.getElem_toArray, List.getElem_cons_succ, List.getElem_cons_zero, List.setIfInBounds_toArray, List.set_cons_zero, List.set_cons_succ]
      refine wpAnyH_done (by kernel_rfl) ?_ _
      go_wp2_with (first | (refine mem_alloc E 59 rfl rfl (z := .int .u64 0) (n := 1) (by kernel_rfl) ?_; clear E; intro b7 w11 E) | (refine mem_store_cell 0 E 59 rfl (.tmp 7) (.tmp 14) rfl rfl rfl rfl (by kernel_rfl) rfl rfl rfl rfl ?_; clear E; intro w12 E))
      go_ret
      exact ⟨⟨_, rfl⟩, E.out.below⟩
  · refine hm_step 5 rfl (by kernel_rfl) fun K hK => ?_
    try simp only [Act.put, List.getElem_toArray, List.getElem_cons_succ, List.getElem_cons_zero, List.setIfInBounds_toArray, List.set_cons_zero, List.set_cons_succ]
    refine mo_alloc E 59 rfl (z := .int .u64 0) (n := 1) (by kernel_rfl) ?_
    clear E
    intro b6 w8 E
    have S5_2 := S0
    refine hK _ _ S5_2.out ?_
    clear hK K
    try simp only [Act.put, List.getElem_toArray, List.getElem_cons_succ, List.getElem_cons_zero, List.setIfInBounds_toArray, List.set_cons_zero, List.set_cons_succ]
    refine hm_two (i := 1) (j := 4) (by kernel_rfl) ?_ ?_
    · refine hm_step 1 rfl (by kernel_rfl) fun K hK => ?_
      try simp only [Act.put, List.getElem_toArray, List.getElem_cons_succ, List.getElem_cons_zero, List.setIfInBounds_toArray, List.set_cons_zero, List.set_cons_succ]
      go_simp
      go_at_call 63
      refine (bnum_any (Lib.hid (row_h8 (E.out.get (b := b2) (by first | exact List.mem_cons_self | exact List.mem_cons_of_mem _ List.mem_cons_self | exact List.mem_cons_of_mem _ (List.mem_cons_of_mem _ List.mem_cons_self))))) (by omega)).mono ?_
      rintro e w7 ⟨rfl, rfl⟩
      have S1_3 := S5_2
      refine hK _ _ S1_3.out ?_
      clear hK K
      try simp only [Act.put, List.getElem_toArray, List.getElem_cons_succ, List.getElem_cons_zero, List.setIfInBounds_toArray, List.set_cons_zero, List.set_cons_succ]
      refine hm_two (i := 3) (j := 4) (by kernel_rfl) ?_ ?_
      · refine hm_step 3 rfl (by kernel_rfl) fun K hK => ?_
        try simp only [Act.put, List.getElem_toArray, List.getElem_cons_succ, List.getElem_cons_zero, List.setIfInBounds_toArray, List.set_cons_zero, List.set_cons_succ]
        go_simp
        go_at_call 63
        refine (bnum_any (Lib.hid (row_h16 (E.out.get (b := b2) (by first | exact List.mem_cons_self | exact List.mem_cons_of_mem _ List.mem_cons_self | exact List.mem_cons_of_mem _ (List.mem_cons_of_mem _ List.mem_cons_self))))) (by omega)).mono ?_
        rintro e w7 ⟨rfl, rfl⟩
        have S3_4 := S1_3
        refine hK _ _ S3_4.out ?_
        clear hK K
        try simp only [Act.put, List.getElem_toArray, List.getElem_cons_succ, List.getElem_cons_zero, List.setIfInBounds_toArray, List.set_cons_zero, List.set_cons_succ]
        refine hm_one (i := 4) (by kernel_rfl) ?_
        refine hm_step 4 rfl (by kernel_rfl) fun K hK => ?_
        try simp only [Act.put, List.getElem_toArray, List.getElem_cons_succ, List.getElem_cons_zero, List.setIfInBounds_toArray, List.set_cons_zero, List.set_cons_succ]
        refine mo_alloc E 59 rfl (z := .int .u64 0) (n := 1) (by kernel_rfl) ?_
        clear E
        intro b5 w8 E
        have S4_5 := S3_4
        refine hK _ _ S4_5.out ?_
        clear hK K
        try simp only [Act.put, List.getElem_toArray, List.getElem_cons_succ, List.getElem_cons_zero, List.setIfInBounds_toArray, List.set_cons_zero, List.set_cons_succ]
        refine hm_one (i := 6) (by kernel_rfl) ?_
        refine hm_step 6 rfl (by kernel_rfl) fun K hK => ?_
        try simp only [Act.put, List.getElem_toArray, List.getElem_cons_succ, List.getElem_cons_zero, List.setIfInBounds_toArray, List.set_cons_zero, List.set_cons_succ]
        first | refine mo_store_cell 0 E 59 (.tmp 5) (.tmp 9) rfl rfl rfl rfl (by kernel_rfl) rfl rfl rfl rfl ?_ | refine mo_store_cell 1 E 59 (.tmp 5) (.tmp 9) rfl rfl rfl rfl (by kernel_rfl) rfl rfl rfl rfl ?_
        clear E
        intro w9 E
        simp only [List.set_cons_zero, List.set_cons_succ] at E
        have S6_6 := S4_5
        refine hK _ _ S6_6.out ?_
        clear hK K
        try simp only [Act.put, List.getElem_toArray, List.getElem_cons_succ, List.getElem_cons_zero, List.setIfInBounds_toArray, List.set_cons_zero, List.set_cons_succ]
        refine hm_one (i := 7) (by kernel_rfl) ?_
        refine hm_step 7 rfl (by kernel_rfl) fun K hK => ?_
        try simp only [Act.put, List.getElem_toArray, List.getElem_cons_succ, List.getElem_cons_zero, List.setIfInBounds_toArray, List.set_cons_zero, List.set_cons_succ]
        first | refine mo_store_cell 0 E 59 (.tmp 6) (.tmp 11) rfl rfl rfl rfl (by kernel_rfl) rfl rfl rfl rfl ?_ | refine mo_store_cell 1 E 59 (.tmp 6) (.tmp 11) rfl rfl rfl rfl (by kernel_rfl) rfl rfl rfl rfl ?_
        clear E
        intro w9 E
        simp only [List.set_cons_zero, List.set_cons_succ] at E
        have S7_7 := S6_6
        refine hK _ _ S7_7.out ?_
        clear hK K
        try simp only [Act.put, List.getElem_toArray, List.getElem_cons_succ, List.getElem_cons_zero, List.setIfInBounds_toArray, List.set_cons_zero, List.set_cons_succ]
        refine wpAnyH_done (by kernel_rfl) ?_ _
        go_wp2_with (first | (refine mem_alloc E 59 rfl rfl (z := .int .u64 0) (n := 1) (by kernel_rfl) ?_; clear E; intro b7 w11 E) | (refine mem_store_cell 0 E 59 rfl (.tmp 7) (.tmp 14) rfl rfl rfl rfl (by kernel_rfl) rfl rfl rfl rfl ?_; clear E; intro w12 E))
        go_ret
        exact ⟨⟨_, rfl⟩, E.out.below⟩
      · refine hm_step 4 rfl (by kernel_rfl) fun K hK => ?_
        try simp only [Act.put, List.getElem_toArray, List.getElem_cons_succ, List.getElem_cons_zero, List.setIfInBounds_toArray, List.set_cons_zero, List.set_cons_succ]
        refine mo_alloc E 59 rfl (z := .int .u64 0) (n := 1) (by kernel_rfl) ?_
        clear E
        intro b5 w8 E
        have S4_4 := S1_3
        refine hK _ _ S4_4.out ?_
        clear hK K
        try simp only [Act.put, List.getElem_toArray, List.getElem_cons_succ, List.getElem_cons_zero, List.setIfInBounds_toArray, List.set_cons_zero, List.set_cons_succ]
        refine hm_one (i := 3) (by kernel_rfl) ?_
        refine hm_step 3 rfl (by kernel_rfl) fun K hK => ?_
        try simp only [Act.put, List.getElem_toArray, List.getElem_cons_succ, List.getElem_cons_zero, List.setIfInBounds_toArray, List.set_cons_zero, List.set_cons_succ]
        go_simp
        go_at_call 63
        refine (bnum_any (Lib.hid (row_h16 (E.out.get (b := b2) (by first | exact List.mem_cons_self | exact List.mem_cons_of_mem _ List.mem_cons_self | exact List.mem_cons_of_mem _ (List.mem_cons_of_mem _ List.mem_cons_self))))) (by omega)).mono ?_
        rintro e w7 ⟨rfl, rfl⟩
        have S3_5 := S4_4
        refine hK _ _ S3_5.out ?_
        clear hK K
        try simp only [Act.put, List.getElem_toArray, List.getElem_cons_succ, List.getElem_cons_zero, List.setIfInBounds_toArray, List.set_cons_zero, List.set_cons_succ]
        refine hm_one (i := 6) (by kernel_rfl) ?_
        refine hm_step 6 rfl (by kernel_rfl) fun K hK => ?_
        try simp only [Act.put, List.getElem_toArray, List.getElem_cons_succ, List.getElem_cons_zero, List.setIfInBounds_toArray, List.set_cons_zero, List.set_cons_succ]
        first | refine mo_store_cell 0 E 59 (.tmp 5) (.tmp 9) rfl rfl rfl rfl (by kernel_rfl) rfl rfl rfl rfl ?_ | refine mo_store_cell 1 E 59 (.tmp 5) (.tmp 9) rfl rfl rfl rfl (by kernel_rfl) rfl rfl rfl rfl ?_
        clear E
        intro w9 E
        simp only [List.set_cons_zero, List.set_cons_succ] at E
        have S6_6 := S3_5
        refine hK _ _ S6_6.out ?_
        clear hK K
        try simp only [Act.put, List.getElem_toArray, List.getElem_cons_succ, List.getElem_cons_zero, List.setIfInBounds_toArray, List.set_cons_zero, List.set_cons_succ]
        refine hm_one (i := 7) (by kernel_rfl) ?_
        refine hm_step 7 rfl (by kernel_rfl) fun K hK => ?_
        try simp only [Act.put, List.getElem_toArray, List.getElem_cons_succ, List.getElem_cons_zero, List.setIfInBounds_toArray, List.set_cons_zero, List.set_cons_succ]
        first | refine mo_store_cell 0 E 59 (.tmp 6) (.tmp 11) rfl rfl rfl rfl (by kernel_rfl) rfl rfl rfl rfl ?_ | refine mo_store_cell 1 E 59 (.tmp 6) (.tmp 11) rfl rfl rfl rfl (by kernel_rfl) rfl rfl rfl rfl ?_
        clear E
        intro w9 E
        simp only [List.set_cons_zero, List.set_cons_succ] at E
        have S7_7 := S6_6
        refine hK _ _ S7_7.out ?_
        clear hK K
        try simp only [Act.put, List.getElem_toArray, List.getElem_cons_succ, List.getElem_cons_zero, List.setIfInBounds_toArray, List.set_cons_zero, List.set_cons_succ]
        refine wpAnyH_done (by kernel_rfl) ?_ _
        go_wp2_with (first | (refine mem_alloc E 59 rfl rfl (z := .int .u64 0) (n := 1) (by kernel_rfl) ?_; clear E; intro b7 w11 E) | (refine mem_store_cell 0 E 59 rfl (.tmp 7) (.tmp 14) rfl rfl rfl rfl (by kernel_rfl) rfl rfl rfl rfl ?_; clear E; intro w12 E))
        go_ret
        exact ⟨⟨_, rfl⟩, E.out.below⟩
    · refine hm_step 4 rfl (by kernel_rfl) fun K hK => ?_
      try simp only [Act.put, List.getElem_toArray, List.getElem_cons_succ, List.getElem_cons_zero, List.setIfInBounds_toArray, List.set_cons_zero, List.set_cons_succ]
      refine mo_alloc E 59 rfl (z := .int .u64 0) (n := 1) (by kernel_rfl) ?_
      clear E
      intro b5 w8 E
      have S4_3 := S5_2
      refine hK _ _ S4_3.out ?_
      clear hK K
      try simp only [Act.put, List.getElem_toArray, List.getElem_cons_succ, List.getElem_cons_zero, List.setIfInBounds_toArray, List.set_cons_zero, List.set_cons_succ]
      refine hm_one (i := 1) (by kernel_rfl) ?_
      refine hm_step 1 rfl (by kernel_rfl) fun K hK => ?_
      try simp only [Act.put, List.getElem_toArray, List.getElem_cons_succ, List.getElem_cons_zero, List.setIfInBounds_toArray, List.set_cons_zero, List.set_cons_succ]
      go_simp
      go_at_call 63
      refine (bnum_any (Lib.hid (row_h8 (E.out.get (b := b2) (by first | exact List.mem_cons_self | exact List.mem_cons_of_mem _ List.mem_cons_self | exact List.mem_cons_of_mem _ (List.mem_cons_of_mem _ List.mem_cons_self))))) (by omega)).mono ?_
      rintro e w7 ⟨rfl, rfl⟩
      have S1_4 := S4_3
      refine hK _ _ S1_4.out ?_
      clear hK K
      try simp only [Act.put, List.getElem_toArray, List.getElem_cons_succ, List.getElem_cons_zero, List.setIfInBounds_toArray, List.set_cons_zero, List.set_cons_succ]
      refine hm_one (i := 3) (by kernel_rfl) ?_
      refine hm_step 3 rfl (by kernel_rfl) fun K hK => ?_
      try simp only [Act.put, List.getElem_toArray, List.getElem_cons_succ, List.getElem_cons_zero, List.setIfInBounds_toArray, List.set_cons_zero, List.set_cons_succ]
      go_simp
      go_at_call 63
      refine (bnum_any (Lib.hid (row_h16 (E.out.get (b := b2) (by first | exact List.mem_cons_self | exact List.mem_cons_of_mem _ List.mem_cons_self | exact List.mem_cons_of_mem _ (List.mem_cons_of_mem _ List.mem_cons_self))))) (by omega)).mono ?_
      rintro e w7 ⟨rfl, rfl⟩
      have S3_5 := S1_4
      refine hK _ _ S3_5.out ?_
      clear hK K
      try simp only [Act.put, List.getElem_toArray, List.getElem_cons_succ, List.getElem_cons_zero, List.setIfInBounds_toArray, List.set_cons_zero, List.set_cons_succ]
      refine hm_one (i := 6) (by kernel_rfl) ?_
      refine hm_step 6 rfl (by kernel_rfl) fun K hK => ?_
      try simp only [Act.put, List.getElem_toArray, List.getElem_cons_succ, List.getElem_cons_zero, List.setIfInBounds_toArray, List.set_cons_zero, List.set_cons_succ]
      first | refine mo_store_cell 0 E 59 (.tmp 5) (.tmp 9) rfl rfl rfl rfl (by kernel_rfl) rfl rfl rfl rfl ?_ | refine mo_store_cell 1 E 59 (.tmp 5) (.tmp 9) rfl rfl rfl rfl (by kernel_rfl) rfl rfl rfl rfl ?_
      clear E
      intro w9 E
      simp only [List.set_cons_zero, List.set_cons_succ] at E
      have S6_6 := S3_5
      refine hK _ _ S6_6.out ?_
      clear hK K
      try simp only [Act.put, List.getElem_toArray, List.getElem_cons_succ, List.getElem_cons_zero, List.setIfInBounds_toArray, List.set_cons_zero, List.set_cons_succ]
      refine hm_one (i := 7) (by kernel_rfl) ?_
      refine hm_step 7 rfl (by kernel_rfl) fun K hK => ?_
      try simp only [Act.put, List.getElem_toArray, List.getElem_cons_succ, List.getElem_cons_zero, List.setIfInBounds_toArray, List.set_cons_zero, List.set_cons_succ]
      first | refine mo_store_cell 0 E 59 (.tmp 6) (.tmp 11) rfl rfl rfl rfl (by kernel_rfl) rfl rfl rfl rfl ?_ | refine mo_store_cell 1 E 59 (.tmp 6) (.tmp 11) rfl rfl rfl rfl (by kernel_rfl) rfl rfl rfl rfl ?_
      clear E
      intro w9 E
      simp only [List.set_cons_zero, List.set_cons_succ] at E
      have S7_7 := S6_6
      refine hK _ _ S7_7.out ?_
      clear hK K
      try simp only [Act.put, List.getElem_toArray, List.getElem_cons_succ, List.getElem_cons_zero, List.setIfInBounds_toArray, List.set_cons_zero, List.set_cons_succ]
      refine wpAnyH_done (by kernel_rfl) ?_ _
      go_wp2_with (first | (refine mem_alloc E 59 rfl rfl (z := .int .u64 0) (n := 1) (by kernel_rfl) ?_; clear E; intro b7 w11 E) | (refine mem_store_cell 0 E 59 rfl (.tmp 7) (.tmp 14) rfl rfl rfl rfl (by kernel_rfl) rfl rfl rfl rfl ?_; clear E; intro w12 E))
      go_ret
      exact ⟨⟨_, rfl⟩, E.out.below⟩
theorem blen_zero {w : World} : Calls Tryd.prog 108 #[.int .u64 0] w fun e w' => (∃ v, e = .returned v) ∧ w = w' := by
  go_enter Tryd.func108, Tryd.ntmps108
  go_wp2_with fail
  go_ret
  exact ⟨⟨_, rfl⟩, rfl⟩
theorem blen0 {w : World} : Calls Tryd.prog 68 #[.int .u64 0] w fun e w' => (∃ v, e = .returned v) ∧ w = w' := by
  go_enter Tryd.func68, Tryd.ntmps68
  go_wp2_with (go_at_call 108; refine blen_zero.mono ?_; rintro e w2 ⟨⟨v, rfl⟩, rfl⟩)
  go_ret
  exact ⟨⟨_, rfl⟩, rfl⟩
theorem ins_nil {w : World} {p : Option Addr} {c : Nat} : Calls Tryd.prog 99 #[.slice p 0 c, .int .i64 0, .int .i64 0] w fun e w' => e = .returned (.tuple #[]) ∧ w = w' := by
  go_enter Tryd.func99, Tryd.ntmps99
  go_wp2_with fail
  go_loop [6] (fun i => i = .int .i64 1) (fun _ => 0)
  case atStart => rfl
  case round =>
    obtain rfl := hrel
    go_wp2_with fail
    go_end0
    exact ⟨rfl, rfl⟩
set_option maxHeartbeats 4000000 in
theorem pdq_nil {w : World} {p : Option Addr} {c : Nat} {v : Value} : Calls Tryd.prog 67 #[.slice p 0 c, .int .i64 0, .int .i64 0, v] w fun e w' => e = .returned (.tuple #[]) ∧ w = w' := by
  go_enter Tryd.func67, Tryd.ntmps67
  go_wp2_with fail
  go_loop [1, 2] (fun i j => i = .int .i64 0 ∧ j = .int .i64 0) (fun _ _ => 0)
  case atStart => exact ⟨rfl, rfl⟩
  case round =>
    obtain ⟨rfl, rfl⟩ := hrel
    go_wp2_with (go_at_call 99; refine ins_nil.mono ?_; rintro e w2 ⟨rfl, rfl⟩)
    refine bodyPost_ret (results_none rfl _ _ _) rfl ?_
    exact ⟨rfl, rfl⟩
set_option maxHeartbeats 4000000 in
theorem sort_nil {w : World} {p : Option Addr} {c : Nat} : Calls Tryd.prog 35 #[.slice p 0 c] w fun e w' => e = .returned (.tuple #[]) ∧ w = w' := by
  go_enter Tryd.func35, Tryd.ntmps35
  go_wp2_with (first
    | (go_at_call 68; refine blen0.mono ?_; rintro e w2 ⟨⟨v, rfl⟩, rfl⟩)
    | (go_at_call 67; refine pdq_nil.mono ?_; rintro e w2 ⟨rfl, rfl⟩))
  go_end0
  exact ⟨rfl, rfl⟩
theorem mk_zero (w : World) : (Instr.makeSlice 54 (.int .i64 0) (.int .i64 0)).run Tryd.prog w = .ok (.slice (some ⟨w.heap.size, 0, none⟩) 0 0) (w.alloc (.cells #[] 59)) := by kernel_rfl
theorem exec_mkz {o : Oper} {ev : Operand → Value} {x y : Operand} {W : World} (ho : o.op = .makeSlice 54 x y) (hx : ev x = .int .i64 0) (hy : ev y = .int .i64 0) : (execOp ev o).run Tryd.prog W = .ok (.value (.slice (some ⟨W.heap.size, 0, none⟩) 0 0)) (W.alloc (.cells #[] 59)) := by
  unfold execOp
  simp only [ho, hx, hy, Sem.run_bind, mk_zero W, Result.andThen_ok]
  rfl
theorem wpList_mkz {ops : Array Oper} {rest : List Oper} {Q : Exit → Act → World → Prop} {op : Oper} {a : Act} {w : World} {x y : Operand} (hg : op.guard = none) (ho : op.op = .makeSlice 54 x y) (hx : a.eval x = .int .i64 0) (hy : a.eval y = .int .i64 0)
    (k : ∀ p w', Hid (Below w.heap.size w w') → wpList Tryd.prog ops Q rest (a.put op.dst (.slice p 0 0)) w') : wpList Tryd.prog ops Q (op :: rest) a w := mem_known hg _ _ (exec_mkz ho hx hy) (k _ _ (Lib.hid (below_new w _)))
theorem wid_zero : wid 0 = 1 := by decide
theorem senc_zero (w : World) : Calls Tryd.prog 38 #[.int .u64 0] w fun e w' => ∃ p g c, e = .returned (.slice p 1 c) ∧ Own w.heap.size w' p g 1 c (lf [0]) ∧ Below w.heap.size w w' := (show Calls Tryd.prog 38 #[.int .u64 0] w _ from encode_any 0 w).mono fun e w' h => by
  obtain ⟨p, g, c, he, N, hb⟩ := h
  rw [wid_zero] at he N
  exact ⟨p, g, c, he, N.to (fun i hi => by
    obtain rfl : i = 0 := by omega
    decide) (lf_lt fun x hx => by obtain rfl := List.mem_singleton.1 hx; omega), hb⟩
theorem pk_nil : pk [] = [] := by decide
set_option maxHeartbeats 16000000 in
theorem build_nil {w : World} : Calls Tryd.prog 13 #[.agg (arr 32 (bv fun _ => 0)), .slice none 0 0] w fun e w' => ∃ p g c, e = .returned (.tuple #[.slice p 1 c, .int .i64 0]) ∧ Own w.heap.size w' p g 1 c (lf [0]) ∧ Below w.heap.size w w' := by
  have E := Lib.hid (Mem.nil w)
  go_enter Tryd.func13, Tryd.ntmps13
  go_wp2_with (first
    | ((with_reducible refine wpList_at 2 rfl ?_); refine mem_box E 23 rfl _ rfl rfl (arr_cells' 32 (bv fun _ => 0)) ?_; clear E; intro b2 w2 E)
    | (go_at_call 33; refine once_nil.mono ?_; rintro e w3 ⟨rfl, hb⟩; replace E := Lib.hid (E.out.call hb); clear hb)
    | ((with_reducible refine wpList_at 20 rfl ?_); refine mem_load_row E 23 rfl (.tmp 2) rfl rfl List.mem_cons_self Tryd.underlying23 rfl (by rw [arr_size]; kernel_rfl) ?_)
    | (go_at_call 34; refine fnums_zero.mono ?_; rintro e w4 ⟨⟨vn, rfl⟩, hb⟩; replace E := Lib.hid (E.out.call hb); clear hb)
    | ((with_reducible refine wpList_at 26 rfl ?_); refine wpList_mkz rfl rfl rfl rfl ?_; intro p5 w5 hb5; replace E := Lib.hid (E.out.call hb5.out); clear hb5))
  go_loop [7, 29] (fun x i => x = .slice p5 0 0 ∧ i = .int .i64 0) (fun _ _ => 0)
  case atStart => exact ⟨rfl, rfl⟩
  case round =>
    obtain ⟨rfl, rfl⟩ := hrel
    go_wp2_with (first
      | (go_at_call 35; refine sort_nil.mono ?_; rintro e w6 ⟨rfl, rfl⟩)
      | (go_at_call 36; refine (rinew_any _).mono ?_; rintro e w7 ⟨b7, bf, bw, rfl, hW, hb⟩; have WT := Lib.hid hW; replace E := Lib.hid (E.out.call hb); clear hW hb))
    go_loop [45] (fun i => i = .int .i64 0) (fun _ => 0)
    case atStart => rfl
    case round =>
      obtain rfl := hrel
      go_wp2_with (first
        | (go_at_call 38; refine (senc_zero _).mono ?_; rintro e w8 ⟨p8, g8, c8, rfl, N8x, hb⟩; have N8 := Lib.hid (N8x.mono E.out.below.size); replace WT := Lib.hid (WT.out.call hb); replace E := Lib.hid (E.out.call hb); clear hb N8x)
        | (go_at_call 39; refine (wbytes_any WT.out).mono ?_; rintro e w9 ⟨p9, g9, c9, rfl, N9x, hb⟩; rw [pk_nil] at N9x ⊢; have R9 := Lib.hid N9x.row; replace N8 := Lib.hid (N8.out.below hb); replace E := Lib.hid (E.out.call hb); clear hb N9x WT)
        | ((with_reducible refine wpList_at 65 rfl ?_); refine wpList_app (.inr rfl) (.tmp 62) (.tmp 64) rfl rfl N8 rfl R9 (by simp) ?_; intro p10 g10 c10 w10 N10 hb10))
      go_ret2
      exact ⟨p10, g10, c10, rfl, N10.out.to (fun i hi => by
        have : i = 0 := by simp at hi; omega
        subst this
        rfl) (lf_lt fun x hx => by obtain rfl := List.mem_singleton.1 hx; omega), E.out.below.trans hb10.out⟩
theorem bs_zero1 (W : World) : (Instr.buildSlice 32 1 #[(0, .int .u8 0)]).run Tryd.prog W = .ok (.slice (some ⟨W.heap.size, 0, none⟩) 1 1) (W.alloc (.cells #[.int .u8 0] 5)) := by kernel_rfl
theorem row_z1 (w : World) : Row (w.alloc (.cells #[.int .u8 0] 5)) (some ⟨w.heap.size, 0, none⟩) w.heap.size 0 1 1 (lf [0]) :=
  ⟨by omega, by unfold maxLen; omega, fun e => (by cases e), fun _ => rfl, fun i hi => by
    obtain rfl : i = 0 := by omega
    exact cell_of_here (here_new w #[.int .u8 0] 5) 0 rfl, lf_lt fun x hx => by obtain rfl := List.mem_singleton.1 hx; omega⟩
theorem exec_bsz {o : Oper} {ev : Operand → Value} {W W' : World} {T : TypeId} {m : Nat} {parts : Array (Nat × Operand)} (ho : o.op = .buildSlice T m parts) {ps : Array (Nat × Value)} (hp : (parts.map fun (i, y) => (i, ev y)) = ps) {v : Value} (h : (Instr.buildSlice T m ps).run Tryd.prog W = .ok v W') : (execOp ev o).run Tryd.prog W = .ok (.value v) W' := by
  unfold execOp
  simp only [ho, hp, Sem.run_bind, h, Result.andThen_ok]
  rfl
theorem wpList_bsz {ops : Array Oper} {rest : List Oper} {Q : Exit → Act → World → Prop} {op : Oper} {a : Act} {w : World} {parts : Array (Nat × Operand)} (hw : Region.wanted op (yielded ops a.tmps) = true) (ho : op.op = .buildSlice 32 1 parts) (hp : (parts.map fun (i, y) => (i, a.eval y)) = #[(0, .int .u8 0)])
    (k : ∀ p g w', Hid (Row w' p g 0 1 1 (lf [0])) → Hid (Below w.heap.size w w') → wpList Tryd.prog ops Q rest (a.put op.dst (.slice p 1 1)) w') : wpList Tryd.prog ops Q (op :: rest) a w :=
  BigFrame.wpList_want hw fun K hK => mo_known _ _ (exec_bsz ho hp (bs_zero1 w)) (hK _ _ (k _ _ _ (Lib.hid (row_z1 w)) (Lib.hid (below_new w _))))
set_option maxHeartbeats 8000000 in
theorem awake12_any (w : World) : Calls Tryd.prog 17 #[] w fun e w' => e = .returned (.bool true) ∧ Below w.heap.size w w' := by
  go_enter Tryd.func17, Tryd.ntmps17
  go_wp2_with (first
    | ((with_reducible refine wpList_at 4 rfl ?_); refine wpList_bld 23 _ rfl rfl (ps := #[]) (by kernel_rfl) built_hash0 ?_)
    | (go_at_call 13; refine build_nil.mono ?_; rintro e w2 ⟨p2, g2, c2, rfl, N2, hb⟩; have R2 := Lib.hid N2.row; have HB := Lib.hid hb; clear N2 hb)
    | ((with_reducible refine wpList_at 12 rfl ?_); refine wpList_bsz rfl rfl (by kernel_rfl) ?_; intro p3 g3 w3 R3 hb3; replace R2 := Lib.hid (R2.out.below hb3.out); replace HB := Lib.hid (HB.out.trans (hb3.out.mono HB.out.size)); clear hb3)
    | (go_at_call 15; refine (equal_any R2 R3 rfl (Lib.hid fun _ _ => rfl)).mono ?_; rintro e w4 ⟨rfl, rfl⟩))
  go_ret
  exact ⟨rfl, HB.out⟩
end Go.Proofs.YtoopcmcmjaikhaaDoor

