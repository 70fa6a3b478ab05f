/- For every call that may be done: a tape that no call made, the nil one and the plain one, answers the error for it, has no bytes and no copy; the call returns true. No condition. -/
import Derived.Test.YtlbbnaihhagfdaaTq
import Derived.Test.YtlbbnaihhagfdaaBs
import Derived.Test.YtlbbnaihhagfdaaOp
import Derived.Lib.SmallJoins
import Derived.ShutString
import Derived.ChangeOld
import Derived.Below
import Derived.SizedLaws
set_option linter.unusedVariables false
set_option linter.unusedSimpArgs false
namespace Go.Proofs.Ytlbbnaihhagfdaa.tapeNobody
open Go.ChangeShapes Go.WideShapes Go.ChangeAt Go.RowKit Go.Lib Go.Sort Go.Proofs.Ytlbbnaihhagfdaa

set_option maxRecDepth 100000
theorem open_tdo0 {H : Type} {enc : TypeId × Value → H} {W : World} {base : Nat} {v : Value} {d : DataW H} {p : List MemPlace}
    (hv : Value.okWide Try.prog W .any base 32 v) (hd : DataW.Trod enc Try.prog W 0 (fun _ => true) true 32 v d p) : ∃ (a b : Int) (c : Value), v = .agg #[.int .i64 a, .int .i64 b, c] := by
  obtain ⟨c0, c1, c2, y0, y1, y2, m, rfl, rfl, rfl, h0, h1, h2⟩ := Joins.open_agg3 Try.underlying32 (by kernel_rfl) (by kernel_rfl) hv hd
  obtain ⟨a, e0, _, w0⟩ := DataW.trod_int Try.underlying3 h0
  obtain ⟨b, e1, _, w1⟩ := DataW.trod_int Try.underlying3 h1
  injection e0 with e0
  injection e1 with e1
  subst e0 e1
  exact ⟨a, b, c2, rfl⟩
theorem infoPT : (Try.prog.info? 24).map (fun i => (i.zero, i.size, i.bytes)) = some (some (.pointer none), 1, 8) := by kernel_rfl
theorem built_t : Try.prog.built 53 (#[] : Array (Nat × Value)).toList = some #[.pointer none] := by kernel_rfl
def intOf : Value → Int | .int _ q => q | _ => 0
theorem below_drew (w : World) : Below w.heap.size w w.drew := ⟨rfl, rfl, rfl, Nat.le_refl _, fun _ _ => rfl⟩
section
variable {ops : Array Oper} {rest : List Oper} {Q : Exit → Act → World → Prop} {op : Oper} {a : Act} {w w0 : World} {l : List (Nat × TypeId × Array Value)}
theorem wpList_knownN {P : Program} (hw : Region.wanted op (yielded ops a.tmps) = true) (v : Value) (w' : World) (hrun : (execOp a.eval op).run P w = .ok (.value v) w') (h : wpList P ops Q rest (a.put op.dst v) w') : wpList P ops Q (op :: rest) a w :=
  BigFrame.wpList_want hw fun _ hK => mo_known v w' hrun (hK _ _ h)
theorem mem_bsn (E : Hid (Mem w0 l w)) (hw : Region.wanted op (yielded ops a.tmps) = true) {S T m : Nat} (parts : Array (Nat × Operand)) (ho : op.op = .buildSlice S m parts) {ps : Array (Nat × Value)} (hp : (parts.map fun (i, y) => (i, a.eval y)) = ps) {cs : Array Value}
    (hr : ∀ w : World, (Instr.buildSlice S m ps).run Try.prog w = .ok (.slice (some ⟨w.heap.size, 0, none⟩) m m) (w.alloc (.cells cs T)))
    (k : ∀ b w', Hid (Mem w0 ((b, T, cs) :: l) w') → Hid (Below w.heap.size w w') → wpList Try.prog ops Q rest (a.put op.dst (.slice (some ⟨b, 0, none⟩) m m)) w') : wpList Try.prog ops Q (op :: rest) a w := by
  refine wpList_knownN hw _ _ ?_ (k _ _ (Lib.hid (E.out.new T _)) (Lib.hid (below_new w _)))
  unfold execOp
  simp only [ho, hp, Sem.run_bind, hr w, Result.andThen_ok]
  rfl
theorem mo_bsn {K : Act → World → Prop} (E : Hid (Mem w0 l w)) {S T m : Nat} (parts : Array (Nat × Operand)) (ho : op.op = .buildSlice S m parts) {ps : Array (Nat × Value)} (hp : (parts.map fun (i, y) => (i, a.eval y)) = ps) {cs : Array Value}
    (hr : ∀ w : World, (Instr.buildSlice S m ps).run Try.prog w = .ok (.slice (some ⟨w.heap.size, 0, none⟩) m m) (w.alloc (.cells cs T)))
    (k : ∀ b w', Hid (Mem w0 ((b, T, cs) :: l) w') → Hid (Below w.heap.size w w') → K (a.put op.dst (.slice (some ⟨b, 0, none⟩) m m)) w') : op.wp Try.prog a w K Q := by
  refine mo_known _ _ ?_ (k _ _ (Lib.hid (E.out.new T _)) (Lib.hid (below_new w _)))
  unfold execOp
  simp only [ho, hp, Sem.run_bind, hr w, Result.andThen_ok]
  rfl
theorem run_six (w : World) : (Instr.buildSlice 55 6 #[(0, .int .i64 2), (1, .int .i64 2), (2, .int .i64 2), (3, .int .i64 2), (4, .int .i64 2), (5, .int .i64 2)]).run Try.prog w = .ok (.slice (some ⟨w.heap.size, 0, none⟩) 6 6) (w.alloc (.cells #[.int .i64 2, .int .i64 2, .int .i64 2, .int .i64 2, .int .i64 2, .int .i64 2] 25)) := by kernel_rfl
theorem run_two (b : Nat) (w : World) : (Instr.buildSlice 54 2 #[(0, .pointer none), (1, .pointer (some ⟨b, 0, none⟩))]).run Try.prog w = .ok (.slice (some ⟨w.heap.size, 0, none⟩) 2 2) (w.alloc (.cells #[.pointer none, .pointer (some ⟨b, 0, none⟩)] 24)) := run_bs2v Try.underlying54 infoPT _ _ rfl rfl w
theorem six_at (j : Nat) (h : j < 6) : (#[.int .i64 2, .int .i64 2, .int .i64 2, .int .i64 2, .int .i64 2, .int .i64 2] : Array Value)[j]? = some (.int .i64 2) := by
  match j, h with
  | 0, _ => rfl
  | 1, _ => rfl
  | 2, _ => rfl
  | 3, _ => rfl
  | 4, _ => rfl
  | 5, _ => rfl
end

set_option maxHeartbeats 8000000 in
theorem walk (W : World) (a b : Int) (c : Value) :
    Calls Try.prog 7 #[.agg #[.int .i64 a, .int .i64 b, c]] W fun e w' => e = .returned (.bool true) ∧ Below W.heap.size W w' := by
  have E := Lib.hid (Mem.nil W)
  have HC := Lib.hid (show c = c from rfl)
  go_enter Try.func7, Try.ntmps7
  go_upto_region 1 with (first
    | ((with_reducible refine wpList_at 1 rfl ?_); refine mem_box E 32 rfl _ rfl rfl (c := #[.int .i64 a, .int .i64 b, c]) rfl ?_; clear E; intro b1 w1 E))
  go_upto_region 2 with (first
    | ((with_reducible refine wpList_at 7 rfl ?_); refine wpList_bld 53 _ rfl rfl (ps := #[]) (by kernel_rfl) built_t ?_)
    | ((with_reducible refine wpList_at 8 rfl ?_); refine mem_box E 53 rfl _ rfl rfl (c := #[.pointer none]) rfl ?_; clear E; intro b2 w2 E)
    | ((with_reducible refine wpList_at 9 rfl ?_); refine mem_bsn (ps := #[(0, .pointer none), (1, .pointer (some ⟨b2, 0, none⟩))]) E rfl _ rfl (by kernel_rfl) (run_two b2) ?_; clear E; intro b3 w3 E B3))
  have HB : Hid ((b1, 32, #[.int .i64 a, .int .i64 b, c]) ∈ [(b3, 24, #[.pointer none, .pointer (some ⟨b2, 0, none⟩)]), (b2, 53, #[.pointer none]), (b1, 32, #[.int .i64 a, .int .i64 b, c])]) := Lib.hid (by simp)
  have HM : Hid ((b3, 24, #[.pointer none, .pointer (some ⟨b2, 0, none⟩)]) ∈ [(b3, 24, #[.pointer none, .pointer (some ⟨b2, 0, none⟩)]), (b2, 53, #[.pointer none]), (b1, 32, #[.int .i64 a, .int .i64 b, c])]) := Lib.hid (by simp)
  have UU : Hid (UnT w3 (.pointer none) ∧ UnT w3 (.pointer (some ⟨b2, 0, none⟩))) := Lib.hid ⟨.inl rfl, .inr ⟨b2, rfl, E.out.get (List.mem_cons_of_mem _ List.mem_cons_self)⟩⟩
  clear B3
  go_loopg [11] 2 (fun k i wr => ∃ j : Nat, j + k = 2 ∧ i = .int .i64 (j : Int) ∧ Hid (Mem W [(b3, 24, #[.pointer none, .pointer (some ⟨b2, 0, none⟩)]), (b2, 53, #[.pointer none]), (b1, 32, #[.int .i64 a, .int .i64 b, c])] wr) ∧ Hid (UnT wr (.pointer none) ∧ UnT wr (.pointer (some ⟨b2, 0, none⟩))))
  case atStart => exact ⟨0, by omega, rfl, E, UU⟩
  case round =>
    clear E UU
    obtain ⟨j, hj, rfl, E, UU⟩ := hrel
    obtain ⟨kk, rfl⟩ : ∃ kk : Nat, kk = gk := ⟨_, rfl⟩
    rcases (show j = 0 ∨ j = 1 ∨ j = 2 by omega) with rfl | rfl | rfl
    · skip
      go_upto_region 4 with (first
        | ((with_reducible refine wpList_at 13 rfl ?_); refine wpList_ix (k := 1) (j := 0) Try.underlying54 (by kernel_rfl) (.tmp 9) (.tmp 11) rfl rfl rfl rfl (by omega) rfl ?_; try simp only [Act.put, List.setIfInBounds_toArray, List.set_cons_zero, List.set_cons_succ])
        | ((with_reducible refine wpList_at 14 rfl ?_); refine mem_load_cell E 24 rfl (.tmp 13) rfl rfl HM.out Try.underlying24 rfl (v := .pointer none) rfl ?_; try simp only [Act.put, List.setIfInBounds_toArray, List.set_cons_zero, List.set_cons_succ]))
      refine wp_region_T (Φ := fun X => Mem W [(b3, 24, #[.pointer none, .pointer (some ⟨b2, 0, none⟩)]), (b2, 53, #[.pointer none]), (b1, 32, #[.int .i64 a, .int .i64 b, c])] X ∧ UnT X (.pointer none) ∧ UnT X (.pointer (some ⟨b2, 0, none⟩))) (S := fun X => Mem W [(b3, 24, #[.pointer none, .pointer (some ⟨b2, 0, none⟩)]), (b2, 53, #[.pointer none]), (b1, 32, #[.int .i64 a, .int .i64 b, c])] X ∧ UnT X (.pointer none) ∧ UnT X (.pointer (some ⟨b2, 0, none⟩))) (Lib.hid ⟨E.out, UU.out.1, UU.out.2⟩) (fun _ h => ⟨h.1.drew, h.2.1.below (below_drew _), h.2.2.below (below_drew _)⟩) (fun _ h => h) (by kernel_rfl) ?_
      clear E UU
      intro w4 TT S0
      refine hm_run 0 15 (.pointer none) rfl rfl (by kernel_rfl) (by kernel_rfl) (by kernel_rfl) (fun _ _ _ h => h) rfl (fun _ _ => rfl) S0.out ?_
      try simp only [Act.put, List.getElem_toArray, List.getElem_cons_succ, List.getElem_cons_zero, List.setIfInBounds_toArray, List.set_cons_zero, List.set_cons_succ]
      refine hm_run 1 16 (.pointer (some ⟨b1, 2, none⟩)) rfl rfl (by kernel_rfl) (by kernel_rfl) (by kernel_rfl) (fun _ _ _ h => h) rfl (fun _ _ => rfl) S0.out ?_
      try simp only [Act.put, List.getElem_toArray, List.getElem_cons_succ, List.getElem_cons_zero, List.setIfInBounds_toArray, List.set_cons_zero, List.set_cons_succ]
      refine hm_run 2 17 (c) rfl rfl (by kernel_rfl) (by kernel_rfl) (by kernel_rfl) (fun _ _ _ h => h) rfl (fun W hW => exec_load rfl (run_load_one Try.underlying22 rfl (cell_of_here (hW.1.get HB.out) 2 rfl))) S0.out ?_
      try simp only [Act.put, List.getElem_toArray, List.getElem_cons_succ, List.getElem_cons_zero, List.setIfInBounds_toArray, List.set_cons_zero, List.set_cons_succ]
      refine hm_run 4 19 (.pointer none) rfl rfl (by kernel_rfl) (by kernel_rfl) (by kernel_rfl) (fun _ _ _ h => h) rfl (fun _ _ => rfl) S0.out ?_
      try simp only [Act.put, List.getElem_toArray, List.getElem_cons_succ, List.getElem_cons_zero, List.setIfInBounds_toArray, List.set_cons_zero, List.set_cons_succ]
      refine hm_run 6 21 (.pointer none) rfl rfl (by kernel_rfl) (by kernel_rfl) (by kernel_rfl) (fun _ _ _ h => h) rfl (fun _ _ => rfl) S0.out ?_
      try simp only [Act.put, List.getElem_toArray, List.getElem_cons_succ, List.getElem_cons_zero, List.setIfInBounds_toArray, List.set_cons_zero, List.set_cons_succ]
      refine hm_run 7 22 (.pointer (some ⟨b1, 1, none⟩)) rfl rfl (by kernel_rfl) (by kernel_rfl) (by kernel_rfl) (fun _ _ _ h => h) rfl (fun _ _ => rfl) S0.out ?_
      try simp only [Act.put, List.getElem_toArray, List.getElem_cons_succ, List.getElem_cons_zero, List.setIfInBounds_toArray, List.set_cons_zero, List.set_cons_succ]
      refine hm_run 8 23 (.int .i64 b) rfl rfl (by kernel_rfl) (by kernel_rfl) (by kernel_rfl) (fun _ _ _ h => h) rfl (fun W hW => exec_load rfl (run_load_one Try.underlying3 rfl (cell_of_here (hW.1.get HB.out) 1 rfl))) S0.out ?_
      try simp only [Act.put, List.getElem_toArray, List.getElem_cons_succ, List.getElem_cons_zero, List.setIfInBounds_toArray, List.set_cons_zero, List.set_cons_succ]
      refine hm_run 10 25 (.pointer none) rfl rfl (by kernel_rfl) (by kernel_rfl) (by kernel_rfl) (fun _ _ _ h => h) rfl (fun _ _ => rfl) S0.out ?_
      try simp only [Act.put, List.getElem_toArray, List.getElem_cons_succ, List.getElem_cons_zero, List.setIfInBounds_toArray, List.set_cons_zero, List.set_cons_succ]
      refine hm_run 11 26 (.pointer (some ⟨b1, 1, none⟩)) rfl rfl (by kernel_rfl) (by kernel_rfl) (by kernel_rfl) (fun _ _ _ h => h) rfl (fun _ _ => rfl) S0.out ?_
      try simp only [Act.put, List.getElem_toArray, List.getElem_cons_succ, List.getElem_cons_zero, List.setIfInBounds_toArray, List.set_cons_zero, List.set_cons_succ]
      refine hm_run 12 27 (.int .i64 b) rfl rfl (by kernel_rfl) (by kernel_rfl) (by kernel_rfl) (fun _ _ _ h => h) rfl (fun W hW => exec_load rfl (run_load_one Try.underlying3 rfl (cell_of_here (hW.1.get HB.out) 1 rfl))) S0.out ?_
      try simp only [Act.put, List.getElem_toArray, List.getElem_cons_succ, List.getElem_cons_zero, List.setIfInBounds_toArray, List.set_cons_zero, List.set_cons_succ]
      refine hm_run 14 29 (.pointer none) rfl rfl (by kernel_rfl) (by kernel_rfl) (by kernel_rfl) (fun _ _ _ h => h) rfl (fun _ _ => rfl) S0.out ?_
      try simp only [Act.put, List.getElem_toArray, List.getElem_cons_succ, List.getElem_cons_zero, List.setIfInBounds_toArray, List.set_cons_zero, List.set_cons_succ]
      refine hm_run 15 30 (.pointer (some ⟨b1, 1, none⟩)) rfl rfl (by kernel_rfl) (by kernel_rfl) (by kernel_rfl) (fun _ _ _ h => h) rfl (fun _ _ => rfl) S0.out ?_
      try simp only [Act.put, List.getElem_toArray, List.getElem_cons_succ, List.getElem_cons_zero, List.setIfInBounds_toArray, List.set_cons_zero, List.set_cons_succ]
      refine hm_run 16 31 (.int .i64 b) rfl rfl (by kernel_rfl) (by kernel_rfl) (by kernel_rfl) (fun _ _ _ h => h) rfl (fun W hW => exec_load rfl (run_load_one Try.underlying3 rfl (cell_of_here (hW.1.get HB.out) 1 rfl))) S0.out ?_
      try simp only [Act.put, List.getElem_toArray, List.getElem_cons_succ, List.getElem_cons_zero, List.setIfInBounds_toArray, List.set_cons_zero, List.set_cons_succ]
      refine hm_run 18 33 (.pointer none) rfl rfl (by kernel_rfl) (by kernel_rfl) (by kernel_rfl) (fun _ _ _ h => h) rfl (fun _ _ => rfl) S0.out ?_
      try simp only [Act.put, List.getElem_toArray, List.getElem_cons_succ, List.getElem_cons_zero, List.setIfInBounds_toArray, List.set_cons_zero, List.set_cons_succ]
      refine hm_run 19 34 (.pointer (some ⟨b1, 1, none⟩)) rfl rfl (by kernel_rfl) (by kernel_rfl) (by kernel_rfl) (fun _ _ _ h => h) rfl (fun _ _ => rfl) S0.out ?_
      try simp only [Act.put, List.getElem_toArray, List.getElem_cons_succ, List.getElem_cons_zero, List.setIfInBounds_toArray, List.set_cons_zero, List.set_cons_succ]
      refine hm_run 20 35 (.int .i64 b) rfl rfl (by kernel_rfl) (by kernel_rfl) (by kernel_rfl) (fun _ _ _ h => h) rfl (fun W hW => exec_load rfl (run_load_one Try.underlying3 rfl (cell_of_here (hW.1.get HB.out) 1 rfl))) S0.out ?_
      try simp only [Act.put, List.getElem_toArray, List.getElem_cons_succ, List.getElem_cons_zero, List.setIfInBounds_toArray, List.set_cons_zero, List.set_cons_succ]
      refine hm_run 24 39 _ rfl rfl (by kernel_rfl) (by kernel_rfl) (by kernel_rfl) (fun _ _ _ h => h) rfl (fun _ _ => rfl) S0.out ?_
      try simp only [Act.put, List.getElem_toArray, List.getElem_cons_succ, List.getElem_cons_zero, List.setIfInBounds_toArray, List.set_cons_zero, List.set_cons_succ]
      refine hm_one (i := 3) (by kernel_rfl) ?_
      refine hm_step 3 rfl (by kernel_rfl) fun K hK => ?_
      try simp only [Act.put, List.getElem_toArray, List.getElem_cons_succ, List.getElem_cons_zero, List.setIfInBounds_toArray, List.set_cons_zero, List.set_cons_succ]
      go_simp
      go_at_call 14
      refine (app_un S0.out.2.1 _).mono ?_
      rintro e w' ⟨rfl, rfl⟩
      have S3_17 := S0
      refine hK _ _ S3_17.out ?_
      clear hK K
      try simp only [Act.put, List.getElem_toArray, List.getElem_cons_succ, List.getElem_cons_zero, List.setIfInBounds_toArray, List.set_cons_zero, List.set_cons_succ]
      refine hm_one (i := 5) (by kernel_rfl) ?_
      refine hm_step 5 rfl (by kernel_rfl) fun K hK => ?_
      try simp only [Act.put, List.getElem_toArray, List.getElem_cons_succ, List.getElem_cons_zero, List.setIfInBounds_toArray, List.set_cons_zero, List.set_cons_succ]
      go_simp
      go_at_call 17
      refine (sync_un S3_17.out.2.1).mono ?_
      rintro e w' ⟨rfl, rfl⟩
      have S5_18 := S3_17
      refine hK _ _ S5_18.out ?_
      clear hK K
      try simp only [Act.put, List.getElem_toArray, List.getElem_cons_succ, List.getElem_cons_zero, List.setIfInBounds_toArray, List.set_cons_zero, List.set_cons_succ]
      refine hm_one (i := 9) (by kernel_rfl) ?_
      refine hm_step 9 rfl (by kernel_rfl) fun K hK => ?_
      try simp only [Act.put, List.getElem_toArray, List.getElem_cons_succ, List.getElem_cons_zero, List.setIfInBounds_toArray, List.set_cons_zero, List.set_cons_succ]
      go_simp
      go_at_call 24
      refine (cut_un S5_18.out.2.1 _).mono ?_
      rintro e w' ⟨rfl, rfl⟩
      have S9_19 := S5_18
      refine hK _ _ S9_19.out ?_
      clear hK K
      try simp only [Act.put, List.getElem_toArray, List.getElem_cons_succ, List.getElem_cons_zero, List.setIfInBounds_toArray, List.set_cons_zero, List.set_cons_succ]
      refine hm_one (i := 13) (by kernel_rfl) ?_
      refine hm_step 13 rfl (by kernel_rfl) fun K hK => ?_
      try simp only [Act.put, List.getElem_toArray, List.getElem_cons_succ, List.getElem_cons_zero, List.setIfInBounds_toArray, List.set_cons_zero, List.set_cons_succ]
      go_simp
      go_at_call 23
      refine (fuse_un S9_19.out.2.1 _).mono ?_
      rintro e w' ⟨rfl, rfl⟩
      have S13_20 := S9_19
      refine hK _ _ S13_20.out ?_
      clear hK K
      try simp only [Act.put, List.getElem_toArray, List.getElem_cons_succ, List.getElem_cons_zero, List.setIfInBounds_toArray, List.set_cons_zero, List.set_cons_succ]
      refine hm_one (i := 17) (by kernel_rfl) ?_
      refine hm_step 17 rfl (by kernel_rfl) fun K hK => ?_
      try simp only [Act.put, List.getElem_toArray, List.getElem_cons_succ, List.getElem_cons_zero, List.setIfInBounds_toArray, List.set_cons_zero, List.set_cons_succ]
      go_simp
      go_at_call 25
      refine (room_un S13_20.out.2.1 _).mono ?_
      rintro e w' ⟨rfl, rfl⟩
      have S17_21 := S13_20
      refine hK _ _ S17_21.out ?_
      clear hK K
      try simp only [Act.put, List.getElem_toArray, List.getElem_cons_succ, List.getElem_cons_zero, List.setIfInBounds_toArray, List.set_cons_zero, List.set_cons_succ]
      refine hm_one (i := 21) (by kernel_rfl) ?_
      refine hm_step 21 rfl (by kernel_rfl) fun K hK => ?_
      try simp only [Act.put, List.getElem_toArray, List.getElem_cons_succ, List.getElem_cons_zero, List.setIfInBounds_toArray, List.set_cons_zero, List.set_cons_succ]
      go_simp
      go_at_call 19
      refine (crash_un S17_21.out.2.1 _).mono ?_
      rintro e w' ⟨rfl, rfl⟩
      have S21_22 := S17_21
      refine hK _ _ S21_22.out ?_
      clear hK K
      try simp only [Act.put, List.getElem_toArray, List.getElem_cons_succ, List.getElem_cons_zero, List.setIfInBounds_toArray, List.set_cons_zero, List.set_cons_succ]
      refine hm_one (i := 22) (by kernel_rfl) ?_
      refine hm_step 22 rfl (by kernel_rfl) fun K hK => ?_
      try simp only [Act.put, List.getElem_toArray, List.getElem_cons_succ, List.getElem_cons_zero, List.setIfInBounds_toArray, List.set_cons_zero, List.set_cons_succ]
      refine mo_bsn (ps := #[(0, .int .i64 2), (1, .int .i64 2), (2, .int .i64 2), (3, .int .i64 2), (4, .int .i64 2), (5, .int .i64 2)]) (Lib.hid S21_22.out.1) _ rfl (by kernel_rfl) run_six ?_
      intro b5 w5 E5 B5
      have S22_23 := Lib.hid (And.intro E5.out.tail (And.intro (S21_22.out.2.1.below B5.out) (S21_22.out.2.2.below B5.out)))
      have U5 := Lib.hid S22_23.out.2
      refine hK _ _ S22_23.out ?_
      clear hK K
      try simp only [Act.put, List.getElem_toArray, List.getElem_cons_succ, List.getElem_cons_zero, List.setIfInBounds_toArray, List.set_cons_zero, List.set_cons_succ]
      refine hm_run 23 38 (.int .i64 6) rfl rfl (by kernel_rfl) (by kernel_rfl) (by kernel_rfl) (fun _ _ _ h => h) rfl (fun _ _ => exec_len Try.underlying55 rfl rfl) S22_23.out ?_
      try simp only [Act.put, List.getElem_toArray, List.getElem_cons_succ, List.getElem_cons_zero, List.setIfInBounds_toArray, List.set_cons_zero, List.set_cons_succ]
      refine wpAnyH_done (by kernel_rfl) ?_ _
      go_wp2
      go_loopg [39] 6 (fun k i wr => ∃ j : Nat, j + k = 6 ∧ i = .int .i64 (j : Int) ∧ Hid (Mem W ((b5, 25, #[.int .i64 2, .int .i64 2, .int .i64 2, .int .i64 2, .int .i64 2, .int .i64 2]) :: [(b3, 24, #[.pointer none, .pointer (some ⟨b2, 0, none⟩)]), (b2, 53, #[.pointer none]), (b1, 32, #[.int .i64 a, .int .i64 b, c])]) wr) ∧ Hid (UnT wr (.pointer none) ∧ UnT wr (.pointer (some ⟨b2, 0, none⟩))))
      case atStart => exact ⟨0, by omega, rfl, E5, U5⟩
      case round =>
        clear E5 U5
        obtain ⟨j1, hj1, rfl, E6, U6⟩ := hrel
        obtain ⟨k2, rfl⟩ : ∃ k2 : Nat, k2 = gk := ⟨_, rfl⟩
        by_cases hlt : j1 < 6
        · have S6 := six_at j1 hlt
          go_wp2_with (first
            | ((with_reducible refine wpList_at 41 rfl ?_); refine wpList_ix (k := 1) (j := j1) Try.underlying55 (by kernel_rfl) (.tmp 37) (.tmp 39) rfl rfl rfl rfl hlt rfl ?_; rw [Nat.mul_one, Nat.zero_add]; try simp only [Act.put, List.setIfInBounds_toArray, List.set_cons_zero, List.set_cons_succ])
            | ((with_reducible refine wpList_at 42 rfl ?_); refine mem_load_cell E6 25 rfl (.tmp 41) rfl rfl List.mem_cons_self Try.underlying25 rfl S6 ?_; try simp only [Act.put, List.setIfInBounds_toArray, List.set_cons_zero, List.set_cons_succ]))
          go_roundg (6 - (j1 + 1))
          case measure => omega
          case rel => exact ⟨j1 + 1, by omega, by go_num, E6, U6⟩
        · obtain rfl : j1 = 6 := by omega
          go_wp2_with (first
            | (go_at_call 21; refine (bytes_un U6.out.1).mono ?_; rintro e w6 ⟨rfl, rfl⟩)
            | (go_at_call 18; refine (synced_un U6.out.1).mono ?_; rintro e w6 ⟨rfl, rfl⟩)
            | (go_at_call 10; refine (copy_un U6.out.1).mono ?_; rintro e w6 ⟨rfl, rfl⟩))
          go_roundg 1
          case measure => omega
          case rel => exact ⟨1, by omega, rfl, Lib.hid E6.out.tail, U6⟩
    · skip
      go_upto_region 4 with (first
        | ((with_reducible refine wpList_at 13 rfl ?_); refine wpList_ix (k := 1) (j := 1) Try.underlying54 (by kernel_rfl) (.tmp 9) (.tmp 11) rfl rfl rfl rfl (by omega) rfl ?_; try simp only [Act.put, List.setIfInBounds_toArray, List.set_cons_zero, List.set_cons_succ])
        | ((with_reducible refine wpList_at 14 rfl ?_); refine mem_load_cell E 24 rfl (.tmp 13) rfl rfl HM.out Try.underlying24 rfl (v := .pointer (some ⟨b2, 0, none⟩)) rfl ?_; try simp only [Act.put, List.setIfInBounds_toArray, List.set_cons_zero, List.set_cons_succ]))
      refine wp_region_T (Φ := fun X => Mem W [(b3, 24, #[.pointer none, .pointer (some ⟨b2, 0, none⟩)]), (b2, 53, #[.pointer none]), (b1, 32, #[.int .i64 a, .int .i64 b, c])] X ∧ UnT X (.pointer none) ∧ UnT X (.pointer (some ⟨b2, 0, none⟩))) (S := fun X => Mem W [(b3, 24, #[.pointer none, .pointer (some ⟨b2, 0, none⟩)]), (b2, 53, #[.pointer none]), (b1, 32, #[.int .i64 a, .int .i64 b, c])] X ∧ UnT X (.pointer none) ∧ UnT X (.pointer (some ⟨b2, 0, none⟩))) (Lib.hid ⟨E.out, UU.out.1, UU.out.2⟩) (fun _ h => ⟨h.1.drew, h.2.1.below (below_drew _), h.2.2.below (below_drew _)⟩) (fun _ h => h) (by kernel_rfl) ?_
      clear E UU
      intro w4 TT S0
      refine hm_run 0 15 (.pointer (some ⟨b2, 0, none⟩)) rfl rfl (by kernel_rfl) (by kernel_rfl) (by kernel_rfl) (fun _ _ _ h => h) rfl (fun _ _ => rfl) S0.out ?_
      try simp only [Act.put, List.getElem_toArray, List.getElem_cons_succ, List.getElem_cons_zero, List.setIfInBounds_toArray, List.set_cons_zero, List.set_cons_succ]
      refine hm_run 1 16 (.pointer (some ⟨b1, 2, none⟩)) rfl rfl (by kernel_rfl) (by kernel_rfl) (by kernel_rfl) (fun _ _ _ h => h) rfl (fun _ _ => rfl) S0.out ?_
      try simp only [Act.put, List.getElem_toArray, List.getElem_cons_succ, List.getElem_cons_zero, List.setIfInBounds_toArray, List.set_cons_zero, List.set_cons_succ]
      refine hm_run 2 17 (c) rfl rfl (by kernel_rfl) (by kernel_rfl) (by kernel_rfl) (fun _ _ _ h => h) rfl (fun W hW => exec_load rfl (run_load_one Try.underlying22 rfl (cell_of_here (hW.1.get HB.out) 2 rfl))) S0.out ?_
      try simp only [Act.put, List.getElem_toArray, List.getElem_cons_succ, List.getElem_cons_zero, List.setIfInBounds_toArray, List.set_cons_zero, List.set_cons_succ]
      refine hm_run 4 19 (.pointer (some ⟨b2, 0, none⟩)) rfl rfl (by kernel_rfl) (by kernel_rfl) (by kernel_rfl) (fun _ _ _ h => h) rfl (fun _ _ => rfl) S0.out ?_
      try simp only [Act.put, List.getElem_toArray, List.getElem_cons_succ, List.getElem_cons_zero, List.setIfInBounds_toArray, List.set_cons_zero, List.set_cons_succ]
      refine hm_run 6 21 (.pointer (some ⟨b2, 0, none⟩)) rfl rfl (by kernel_rfl) (by kernel_rfl) (by kernel_rfl) (fun _ _ _ h => h) rfl (fun _ _ => rfl) S0.out ?_
      try simp only [Act.put, List.getElem_toArray, List.getElem_cons_succ, List.getElem_cons_zero, List.setIfInBounds_toArray, List.set_cons_zero, List.set_cons_succ]
      refine hm_run 7 22 (.pointer (some ⟨b1, 1, none⟩)) rfl rfl (by kernel_rfl) (by kernel_rfl) (by kernel_rfl) (fun _ _ _ h => h) rfl (fun _ _ => rfl) S0.out ?_
      try simp only [Act.put, List.getElem_toArray, List.getElem_cons_succ, List.getElem_cons_zero, List.setIfInBounds_toArray, List.set_cons_zero, List.set_cons_succ]
      refine hm_run 8 23 (.int .i64 b) rfl rfl (by kernel_rfl) (by kernel_rfl) (by kernel_rfl) (fun _ _ _ h => h) rfl (fun W hW => exec_load rfl (run_load_one Try.underlying3 rfl (cell_of_here (hW.1.get HB.out) 1 rfl))) S0.out ?_
      try simp only [Act.put, List.getElem_toArray, List.getElem_cons_succ, List.getElem_cons_zero, List.setIfInBounds_toArray, List.set_cons_zero, List.set_cons_succ]
      refine hm_run 10 25 (.pointer (some ⟨b2, 0, none⟩)) rfl rfl (by kernel_rfl) (by kernel_rfl) (by kernel_rfl) (fun _ _ _ h => h) rfl (fun _ _ => rfl) S0.out ?_
      try simp only [Act.put, List.getElem_toArray, List.getElem_cons_succ, List.getElem_cons_zero, List.setIfInBounds_toArray, List.set_cons_zero, List.set_cons_succ]
      refine hm_run 11 26 (.pointer (some ⟨b1, 1, none⟩)) rfl rfl (by kernel_rfl) (by kernel_rfl) (by kernel_rfl) (fun _ _ _ h => h) rfl (fun _ _ => rfl) S0.out ?_
      try simp only [Act.put, List.getElem_toArray, List.getElem_cons_succ, List.getElem_cons_zero, List.setIfInBounds_toArray, List.set_cons_zero, List.set_cons_succ]
      refine hm_run 12 27 (.int .i64 b) rfl rfl (by kernel_rfl) (by kernel_rfl) (by kernel_rfl) (fun _ _ _ h => h) rfl (fun W hW => exec_load rfl (run_load_one Try.underlying3 rfl (cell_of_here (hW.1.get HB.out) 1 rfl))) S0.out ?_
      try simp only [Act.put, List.getElem_toArray, List.getElem_cons_succ, List.getElem_cons_zero, List.setIfInBounds_toArray, List.set_cons_zero, List.set_cons_succ]
      refine hm_run 14 29 (.pointer (some ⟨b2, 0, none⟩)) rfl rfl (by kernel_rfl) (by kernel_rfl) (by kernel_rfl) (fun _ _ _ h => h) rfl (fun _ _ => rfl) S0.out ?_
      try simp only [Act.put, List.getElem_toArray, List.getElem_cons_succ, List.getElem_cons_zero, List.setIfInBounds_toArray, List.set_cons_zero, List.set_cons_succ]
      refine hm_run 15 30 (.pointer (some ⟨b1, 1, none⟩)) rfl rfl (by kernel_rfl) (by kernel_rfl) (by kernel_rfl) (fun _ _ _ h => h) rfl (fun _ _ => rfl) S0.out ?_
      try simp only [Act.put, List.getElem_toArray, List.getElem_cons_succ, List.getElem_cons_zero, List.setIfInBounds_toArray, List.set_cons_zero, List.set_cons_succ]
      refine hm_run 16 31 (.int .i64 b) rfl rfl (by kernel_rfl) (by kernel_rfl) (by kernel_rfl) (fun _ _ _ h => h) rfl (fun W hW => exec_load rfl (run_load_one Try.underlying3 rfl (cell_of_here (hW.1.get HB.out) 1 rfl))) S0.out ?_
      try simp only [Act.put, List.getElem_toArray, List.getElem_cons_succ, List.getElem_cons_zero, List.setIfInBounds_toArray, List.set_cons_zero, List.set_cons_succ]
      refine hm_run 18 33 (.pointer (some ⟨b2, 0, none⟩)) rfl rfl (by kernel_rfl) (by kernel_rfl) (by kernel_rfl) (fun _ _ _ h => h) rfl (fun _ _ => rfl) S0.out ?_
      try simp only [Act.put, List.getElem_toArray, List.getElem_cons_succ, List.getElem_cons_zero, List.setIfInBounds_toArray, List.set_cons_zero, List.set_cons_succ]
      refine hm_run 19 34 (.pointer (some ⟨b1, 1, none⟩)) rfl rfl (by kernel_rfl) (by kernel_rfl) (by kernel_rfl) (fun _ _ _ h => h) rfl (fun _ _ => rfl) S0.out ?_
      try simp only [Act.put, List.getElem_toArray, List.getElem_cons_succ, List.getElem_cons_zero, List.setIfInBounds_toArray, List.set_cons_zero, List.set_cons_succ]
      refine hm_run 20 35 (.int .i64 b) rfl rfl (by kernel_rfl) (by kernel_rfl) (by kernel_rfl) (fun _ _ _ h => h) rfl (fun W hW => exec_load rfl (run_load_one Try.underlying3 rfl (cell_of_here (hW.1.get HB.out) 1 rfl))) S0.out ?_
      try simp only [Act.put, List.getElem_toArray, List.getElem_cons_succ, List.getElem_cons_zero, List.setIfInBounds_toArray, List.set_cons_zero, List.set_cons_succ]
      refine hm_run 24 39 _ rfl rfl (by kernel_rfl) (by kernel_rfl) (by kernel_rfl) (fun _ _ _ h => h) rfl (fun _ _ => rfl) S0.out ?_
      try simp only [Act.put, List.getElem_toArray, List.getElem_cons_succ, List.getElem_cons_zero, List.setIfInBounds_toArray, List.set_cons_zero, List.set_cons_succ]
      refine hm_one (i := 3) (by kernel_rfl) ?_
      refine hm_step 3 rfl (by kernel_rfl) fun K hK => ?_
      try simp only [Act.put, List.getElem_toArray, List.getElem_cons_succ, List.getElem_cons_zero, List.setIfInBounds_toArray, List.set_cons_zero, List.set_cons_succ]
      go_simp
      go_at_call 14
      refine (app_un S0.out.2.2 _).mono ?_
      rintro e w' ⟨rfl, rfl⟩
      have S3_17 := S0
      refine hK _ _ S3_17.out ?_
      clear hK K
      try simp only [Act.put, List.getElem_toArray, List.getElem_cons_succ, List.getElem_cons_zero, List.setIfInBounds_toArray, List.set_cons_zero, List.set_cons_succ]
      refine hm_one (i := 5) (by kernel_rfl) ?_
      refine hm_step 5 rfl (by kernel_rfl) fun K hK => ?_
      try simp only [Act.put, List.getElem_toArray, List.getElem_cons_succ, List.getElem_cons_zero, List.setIfInBounds_toArray, List.set_cons_zero, List.set_cons_succ]
      go_simp
      go_at_call 17
      refine (sync_un S3_17.out.2.2).mono ?_
      rintro e w' ⟨rfl, rfl⟩
      have S5_18 := S3_17
      refine hK _ _ S5_18.out ?_
      clear hK K
      try simp only [Act.put, List.getElem_toArray, List.getElem_cons_succ, List.getElem_cons_zero, List.setIfInBounds_toArray, List.set_cons_zero, List.set_cons_succ]
      refine hm_one (i := 9) (by kernel_rfl) ?_
      refine hm_step 9 rfl (by kernel_rfl) fun K hK => ?_
      try simp only [Act.put, List.getElem_toArray, List.getElem_cons_succ, List.getElem_cons_zero, List.setIfInBounds_toArray, List.set_cons_zero, List.set_cons_succ]
      go_simp
      go_at_call 24
      refine (cut_un S5_18.out.2.2 _).mono ?_
      rintro e w' ⟨rfl, rfl⟩
      have S9_19 := S5_18
      refine hK _ _ S9_19.out ?_
      clear hK K
      try simp only [Act.put, List.getElem_toArray, List.getElem_cons_succ, List.getElem_cons_zero, List.setIfInBounds_toArray, List.set_cons_zero, List.set_cons_succ]
      refine hm_one (i := 13) (by kernel_rfl) ?_
      refine hm_step 13 rfl (by kernel_rfl) fun K hK => ?_
      try simp only [Act.put, List.getElem_toArray, List.getElem_cons_succ, List.getElem_cons_zero, List.setIfInBounds_toArray, List.set_cons_zero, List.set_cons_succ]
      go_simp
      go_at_call 23
      refine (fuse_un S9_19.out.2.2 _).mono ?_
      rintro e w' ⟨rfl, rfl⟩
      have S13_20 := S9_19
      refine hK _ _ S13_20.out ?_
      clear hK K
      try simp only [Act.put, List.getElem_toArray, List.getElem_cons_succ, List.getElem_cons_zero, List.setIfInBounds_toArray, List.set_cons_zero, List.set_cons_succ]
      refine hm_one (i := 17) (by kernel_rfl) ?_
      refine hm_step 17 rfl (by kernel_rfl) fun K hK => ?_
      try simp only [Act.put, List.getElem_toArray, List.getElem_cons_succ, List.getElem_cons_zero, List.setIfInBounds_toArray, List.set_cons_zero, List.set_cons_succ]
      go_simp
      go_at_call 25
      refine (room_un S13_20.out.2.2 _).mono ?_
      rintro e w' ⟨rfl, rfl⟩
      have S17_21 := S13_20
      refine hK _ _ S17_21.out ?_
      clear hK K
      try simp only [Act.put, List.getElem_toArray, List.getElem_cons_succ, List.getElem_cons_zero, List.setIfInBounds_toArray, List.set_cons_zero, List.set_cons_succ]
      refine hm_one (i := 21) (by kernel_rfl) ?_
      refine hm_step 21 rfl (by kernel_rfl) fun K hK => ?_
      try simp only [Act.put, List.getElem_toArray, List.getElem_cons_succ, List.getElem_cons_zero, List.setIfInBounds_toArray, List.set_cons_zero, List.set_cons_succ]
      go_simp
      go_at_call 19
      refine (crash_un S17_21.out.2.2 _).mono ?_
      rintro e w' ⟨rfl, rfl⟩
      have S21_22 := S17_21
      refine hK _ _ S21_22.out ?_
      clear hK K
      try simp only [Act.put, List.getElem_toArray, List.getElem_cons_succ, List.getElem_cons_zero, List.setIfInBounds_toArray, List.set_cons_zero, List.set_cons_succ]
      refine hm_one (i := 22) (by kernel_rfl) ?_
      refine hm_step 22 rfl (by kernel_rfl) fun K hK => ?_
      try simp only [Act.put, List.getElem_toArray, List.getElem_cons_succ, List.getElem_cons_zero, List.setIfInBounds_toArray, List.set_cons_zero, List.set_cons_succ]
      refine mo_bsn (ps := #[(0, .int .i64 2), (1, .int .i64 2), (2, .int .i64 2), (3, .int .i64 2), (4, .int .i64 2), (5, .int .i64 2)]) (Lib.hid S21_22.out.1) _ rfl (by kernel_rfl) run_six ?_
      intro b5 w5 E5 B5
      have S22_23 := Lib.hid (And.intro E5.out.tail (And.intro (S21_22.out.2.1.below B5.out) (S21_22.out.2.2.below B5.out)))
      have U5 := Lib.hid S22_23.out.2
      refine hK _ _ S22_23.out ?_
      clear hK K
      try simp only [Act.put, List.getElem_toArray, List.getElem_cons_succ, List.getElem_cons_zero, List.setIfInBounds_toArray, List.set_cons_zero, List.set_cons_succ]
      refine hm_run 23 38 (.int .i64 6) rfl rfl (by kernel_rfl) (by kernel_rfl) (by kernel_rfl) (fun _ _ _ h => h) rfl (fun _ _ => exec_len Try.underlying55 rfl rfl) S22_23.out ?_
      try simp only [Act.put, List.getElem_toArray, List.getElem_cons_succ, List.getElem_cons_zero, List.setIfInBounds_toArray, List.set_cons_zero, List.set_cons_succ]
      refine wpAnyH_done (by kernel_rfl) ?_ _
      go_wp2
      go_loopg [39] 6 (fun k i wr => ∃ j : Nat, j + k = 6 ∧ i = .int .i64 (j : Int) ∧ Hid (Mem W ((b5, 25, #[.int .i64 2, .int .i64 2, .int .i64 2, .int .i64 2, .int .i64 2, .int .i64 2]) :: [(b3, 24, #[.pointer none, .pointer (some ⟨b2, 0, none⟩)]), (b2, 53, #[.pointer none]), (b1, 32, #[.int .i64 a, .int .i64 b, c])]) wr) ∧ Hid (UnT wr (.pointer none) ∧ UnT wr (.pointer (some ⟨b2, 0, none⟩))))
      case atStart => exact ⟨0, by omega, rfl, E5, U5⟩
      case round =>
        clear E5 U5
        obtain ⟨j1, hj1, rfl, E6, U6⟩ := hrel
        obtain ⟨k2, rfl⟩ : ∃ k2 : Nat, k2 = gk := ⟨_, rfl⟩
        by_cases hlt : j1 < 6
        · have S6 := six_at j1 hlt
          go_wp2_with (first
            | ((with_reducible refine wpList_at 41 rfl ?_); refine wpList_ix (k := 1) (j := j1) Try.underlying55 (by kernel_rfl) (.tmp 37) (.tmp 39) rfl rfl rfl rfl hlt rfl ?_; rw [Nat.mul_one, Nat.zero_add]; try simp only [Act.put, List.setIfInBounds_toArray, List.set_cons_zero, List.set_cons_succ])
            | ((with_reducible refine wpList_at 42 rfl ?_); refine mem_load_cell E6 25 rfl (.tmp 41) rfl rfl List.mem_cons_self Try.underlying25 rfl S6 ?_; try simp only [Act.put, List.setIfInBounds_toArray, List.set_cons_zero, List.set_cons_succ]))
          go_roundg (6 - (j1 + 1))
          case measure => omega
          case rel => exact ⟨j1 + 1, by omega, by go_num, E6, U6⟩
        · obtain rfl : j1 = 6 := by omega
          go_wp2_with (first
            | (go_at_call 21; refine (bytes_un U6.out.2).mono ?_; rintro e w6 ⟨rfl, rfl⟩)
            | (go_at_call 18; refine (synced_un U6.out.2).mono ?_; rintro e w6 ⟨rfl, rfl⟩)
            | (go_at_call 10; refine (copy_un U6.out.2).mono ?_; rintro e w6 ⟨rfl, rfl⟩))
          go_roundg 0
          case measure => omega
          case rel => exact ⟨2, by omega, rfl, Lib.hid E6.out.tail, U6⟩
    · skip
      go_wp2
      go_ret
      exact ⟨rfl, E.out.below⟩

set_option maxRecDepth 100000 in
theorem lifted (os : Os) (started : os.Started) (H : Type) (enc : TypeId × Value → H) :
    ReturnsInHanded {} Try.checked os 7 .any (Rows.tapeNobodySpec.pre6 enc Try.prog Try.f7 Rows.tapeNobodyRow.domain false) (Rows.tapeNobodySpec.post enc Try.prog Try.f7 false true false false) := by
  refine returnsInHanded_of_change_sized (C := Try.checked) own started (by kernel_rfl) Try.func7
    (ChangeSpec.witness6 (enc := enc) (C := Try.checked) false ⟨#[], #[.agg #[.int .i64 0, .int .i64 0, .slice none 0 0]], []⟩ 8 (by kernel_rfl) (by kernel_rfl) (by kernel_rfl) (by kernel_rfl)) ?_
  intro W base args ds gs before hval0 hW hcnd hsz0 _
  have hval : ∀ (j : Nat) t v, Try.f7.params[j]? = some t → args[j]? = some v → Value.okWide Try.prog W .any base t v := hval0
  have hsz : (DataW.weightsEach Try.prog (Try.f7.params.toList ++ Rows.tapeNobodySpec.plain.varTypes Try.prog) (ds ++ gs)).all (· ≤ reachBytes) = true := hsz0
  have hW' := hW
  obtain ⟨p, q, hA0, hV, rfl, hfz, hnd⟩ := hW
  have hA : DataW.TrodAll enc Try.prog W 0 (fun _ => true) true Try.f7.params.toList args.toList ds p := hA0
  rw [Try.params7] at hA hval hsz
  obtain ⟨v0, vs0, d0, ds0, p0, q0, hargs, rfl, rfl, h0, r0⟩ := trodAll_cons hA
  obtain ⟨rfl, rfl, rfl⟩ := trodAll_nil r0
  obtain rfl : args = #[v0] := by cases args; simp_all
  obtain ⟨rfl, rfl⟩ := trodVars_none hV
  have k0 := h0
  have lt0 : ∀ x ∈ p0, x.block < W.heap.size := by obtain ⟨m, hm⟩ := k0; exact DataW.trod_lt m _ _ _ hm
  obtain ⟨a0, b0, c0, rfl⟩ := open_tdo0 (hval 0 32 v0 rfl rfl) h0
  clear hA0 hval0 hsz0
  simp only [List.append_nil] at hW'
  refine (walk W a0 b0 c0).mono fun e W' ⟨he, bel⟩ => ?_
  subst he
  exact ⟨_, rfl, _, _, _, [], _, [], hW', trodAll_mk1 (shut_bool Try.underlying4 _), (trodAll_cons_mk (Below.trod laidOut (by kernel_rfl) (of_decide_eq_true (by kernel_rfl)) k0 bel lt0) trodAll_mk0), rfl, bel.frame _, fun h => by cases h⟩

theorem over : Rows.tapeNobodyRow.holds Try.pinned (OpenSpec.ofChange Rows.tapeNobodySpec) :=
  OpenClaim.holds_of_wide 7 Try.f7 rfl rfl rfl rfl rfl rfl rfl ⟨rfl, rfl, rfl, rfl, rfl⟩ rfl rfl rfl rfl rfl (by kernel_rfl) Try.func7 (by kernel_rfl)
    (of_decide_eq_true (by kernel_rfl)) (by unfold Func.isWrapper; first | (rw [if_pos (by decide +kernel)]; kernel_rfl) | (rw [if_neg (by decide +kernel)]; exact ⟨rfl, rfl⟩))
    (fun os started H enc _ => lifted os started H enc)

/-- The statement. -/
theorem proved : Rows.TapeNobodySaid :=
  over
#print axioms proved
end Go.Proofs.Ytlbbnaihhagfdaa.tapeNobody
