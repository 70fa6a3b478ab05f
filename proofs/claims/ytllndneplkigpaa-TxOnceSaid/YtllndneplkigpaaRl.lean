/- tx.Decode: parts.Read's deferred closure, which catches a reader that gives up. -/
import Derived.Test.YtllndneplkigpaaRk
set_option linter.unusedSimpArgs false
set_option linter.unusedVariables false
set_option maxRecDepth 100000
namespace Go.Proofs.Ytllndneplkigpaa
open Go.RowKit Go.Lib Go.Sort

theorem run_assert (e : Int) (w : World) : (Instr.typeAssert (.iface 29 (.int .i64 e)) 20 29 true).run Try.prog w = .ok (.tuple #[.int .i64 e, .bool true]) w := by
  simp [Instr.typeAssert, go_sem, Try.underlying29]
theorem exec_ta {P : Program} {o : Oper} {ev : Operand → Value} {W : World} {x : Operand} {S T : TypeId} {c : Bool} (ho : o.op = .typeAssert x S T c) {v : Value} (h : (Instr.typeAssert (ev x) S T c).run P W = .ok v W) : (execOp ev o).run P W = .ok (.value v) W := by
  unfold execOp
  simp only [ho, Sem.run_bind, h, Result.andThen_ok]
  rfl
/-- A panic of a reader's, before it is recovered, and then. -/
abbrev quitM (e : Int) (r : Bool) : FrameMode := .panicking [{ v := .iface 29 (.int .i64 e), recovered := r }]
theorem catcht_idle (p : Addr) (w : World) :
    CallsD Try.prog 59 #[.pointer (some p)] .returning w fun e u' w' => e = .returned (.tuple #[]) ∧ u' = .returning ∧ w' = w := by
  refine callsD_of_wpS Try.func59 rfl fun c₀ cs hu => ?_
  apply wpS_seq
  apply wpS_region
  simp [wpOpsS, go_sem, recoverD, hu, Try.ntmps59, Exit.thenS]
  refine wpS_of_wp ?_
  go_wp2
  cases c₀
  simp_all [bodyPostS, results, Try.results59]
set_option maxHeartbeats 4000000 in
theorem catcht_quit (b : Nat) (e x : Int) (w0 w : World) (l : List (Nat × TypeId × Array Value)) (E0 : Mem w0 ((b, 29, #[.int .i64 x]) :: l) w) :
    CallsD Try.prog 59 #[.pointer (some ⟨b, 0, none⟩)] (quitM e false) w fun en u' w' => en = .returned (.tuple #[]) ∧ u' = quitM e true ∧ Mem w0 ((b, 29, #[.int .i64 e]) :: l) w' := by
  refine callsD_of_wpS Try.func59 rfl fun c₀ cs hu => ?_
  apply wpS_seq
  apply wpS_region
  simp [wpOpsS, go_sem, recoverD, hu, Try.ntmps59, Exit.thenS]
  refine wpS_of_wp (Go.wp_mono (Q := fun e1 a1 w1 => e1 = .normal ∧ a1.defers = [] ∧ Mem w0 ((b, 29, #[.int .i64 e]) :: l) w1) ?_ ?_)
  · change Code.wp Try.prog _ _ { tmps := #[.pointer (some ⟨b, 0, none⟩), undef, undef, undef, .iface 29 (.int .i64 e), undef, undef, undef, undef, undef, undef], defers := [] } w
    have E := Lib.hid E0
    clear E0 hu
    go_wp2_with (first
      | (refine mem_known rfl (.tuple #[.int .i64 e, .bool true]) _ (exec_ta rfl (by exact run_assert e _)) ?_)
      | (refine mem_store_cell (v := .int .i64 e) (u := .int .i64 x) (c' := #[.int .i64 e]) 0 E 29 rfl (.tmp 0) (.tmp 10) rfl rfl rfl rfl (by kernel_rfl) rfl rfl rfl rfl ?_; clear E; intro w5 E; simp only [List.set_cons_zero] at E))
    exact E.out
  · rintro e1 a1 w1 ⟨rfl, hd, hM⟩
    cases c₀
    simp_all [bodyPostS, results, Try.results59]
theorem res_cell3 {P : Program} {fn : Func} {p q u : Tmp} {ty ty2 : TypeId} (h : fn.results = #[.cell p ty, .tmp u, .cell q ty2]) (tmps : Array Value) (w : World) {g g2 T T2 : Nat} {cs : Array Value} {v2 : Value} (d : TypeDesc) (d2 : TypeDesc)
    (hp : tmps.getD p undef = .pointer (some ⟨g, 0, none⟩)) (hg : w.heap[g]? = some (.cells cs T (0, 0))) (hu : P.underlying ty = some d) (hd : (match d with | .struct _ | .array _ _ => true | _ => false) = true) (hi : (P.info? ty).map (·.size) = some cs.size)
    (hq : tmps.getD q undef = .pointer (some ⟨g2, 0, none⟩)) (hg2 : w.heap[g2]? = some (.cells #[v2] T2 (0, 0))) (hu2 : P.underlying ty2 = some d2) (hd2 : d2.isRow = false) :
    (results fn tmps).run P w = .ok (.tuple #[.agg cs, tmps.getD u undef, v2]) w := by
  have hp' : tmps[p]?.getD undef = .pointer (some ⟨g, 0, none⟩) := by simpa using hp
  have hq' : tmps[q]?.getD undef = .pointer (some ⟨g2, 0, none⟩) := by simpa using hq
  have e := run_loadVar_row (P := P) w g T ty cs (0, 0) d hg hu hd hi
  have e2 : (loadVar ty2 ⟨g2, 0, none⟩).run P w = .ok v2 w := by
    have := run_load_one (P := P) hu2 hd2 (cell_of_here hg2 0 rfl)
    simpa [Instr.loadAt, Instr.sureAddr, Sem.run_bind] using this
  simp [results, h, hp', hq', asAddr, e, e2]
theorem Mem.only_rest {w0 w w' : World} {l : List (Nat × TypeId × Array Value)} {b T : Nat} {c : Array Value} (E : Mem w0 ((b, T, c) :: l) w) (h : Only b w w') : Mem w0 l w' := by
  refine ⟨E.below.trans (h.below (E.ge _ List.mem_cons_self) E.below.size), fun p hp => ?_, E.tail.nd, E.tail.ge⟩
  refine h.heap (fun e => ?_) (E.has p (List.mem_cons_of_mem _ hp))
  have := (List.nodup_cons.1 E.nd).1
  exact this (List.mem_map.2 ⟨p, hp, e⟩)
theorem Mem.rturn {w0 w w' : World} {l : List (Nat × TypeId × Array Value)} {b T : Nat} {c c' : Array Value} (E : Mem w0 ((b, T, c) :: l) w) (h : Below w.heap.size (rb w b c') w') : Mem w0 ((b, T, c') :: l) w' := by
  have hb := E.get List.mem_cons_self
  refine E.turn (i := 0) rfl ?_ (below_rb_only h)
  rw [h.block b (heap_lt hb)]
  exact rb_heap hb c'
/-- What a decoder leaves: the part, and what stands behind, in memory of its own; or the error. -/
def DecPost {α : Type} (W : World) (z : Value) (Rel : Nat → World → Value → α → Prop) (r : Res α) (e : Ending) (w' : World) : Prop :=
  match r with
  | .bad er => e = .returned (.tuple #[z, .slice none 0 0, .int .i64 er]) ∧ Below W.heap.size W w'
  | .good a rest => ∃ v p g c, e = .returned (.tuple #[v, .slice p rest.length c, .int .i64 0]) ∧ Rel W.heap.size w' v a ∧ Own W.heap.size w' p g rest.length c (lf rest) ∧ Below W.heap.size W w'
theorem load_whole {w : World} {b T ty n : Nat} {V : Nat → Value} {d : TypeDesc} (h : w.heap[b]? = some (.cells (arr n V) T (0, 0))) (hu : Try.prog.underlying ty = some d) (hd : d.isRow = true) (hs : (Try.prog.info? ty).map (·.size) = some n) : (Instr.loadAt ty (.pointer (some ⟨b, 0, none⟩))).run Try.prog w = .ok (.agg (arr n V)) w := by
  simpa using run_loadAt_mid (P := Try.prog) w b 0 ty (arr n V).toList d (range_all h) hu hd (by rw [Array.length_toList, arr_size]; exact hs)
/-- As Q asks, and no panic. -/
def noPanic (Q : Exit → Act → World → Prop) : Exit → Act → World → Prop
  | .panic _, _, _ => False
  | e, a, w => Q e a w
theorem noPanic_of {Q : Exit → Act → World → Prop} : ∀ e a w, noPanic Q e a w → Q e a w := fun e a w h => by
  cases e <;> first | exact h | exact h.elim
section
variable {K : Act → World → Prop} {Q : Exit → Act → World → Prop} {op : Oper} {a : Act} {w w0 : World} {l : List (Nat × TypeId × Array Value)}
theorem mo_store_cell2 (i : Nat) (E : Hid (Mem w0 l w)) (ty : TypeId) (x y : Operand) (ho : op.op = .store ty x y) {b T j : Nat} {c c' : Array Value} {v u : Value} (hx : a.eval x = .pointer (some ⟨b, j, none⟩)) (hy : a.eval y = v) (hi : l[i]? = some (b, T, c))
    (hs : (Try.prog.info? ty).map (·.size) = some 1) (h1 : v.cells = #[v]) (h2 : v.oneCell' = true) (hu : c[j]? = some u) (hc : c.setIfInBounds j v = c')
    (h : ∀ w', Hid (Mem w0 (l.set i (b, T, c')) w') → Hid (KeepT T w w') → K (a.put op.dst undef) w') : op.wp Try.prog a w K Q := by
  have hg := E.out.get (List.mem_of_getElem? hi)
  have hH : Holds b T c' w (w.setCell ⟨b, j, none⟩ v) := (Holds.start hg).set hc
  unfold Oper.wp execOp
  simp only [ho, hx, hy, Sem.run_bind, Sem.run_pure, run_store_one hs h1 h2 (cell_of_here hg j hu) (free_of_here hg j), Result.andThen_ok]
  exact h _ (Lib.hid (E.out.turn hi hH.here hH.only)) (Lib.hid (KeepT.of_only hg hH.only))
end
theorem TxOwn.mono {B B' : Nat} {w : World} {V : Nat → Value} {t : TTx} (h : TxOwn B w V t) (hB : B' ≤ B) : TxOwn B' w V t := ⟨h.ver, h.verB, h.ins.mono hB, h.outs.mono hB, h.lock, h.lockB⟩
theorem txz_one : ∀ j, j < 4 → (txz j).oneCell' = true := fun j _ => by unfold txz; split <;> rfl
theorem own_keep {B : Nat} {w w' : World} {T : TypeId} {p : Option Addr} {g n c : Nat} {x : Nat → Nat} (h : Own B w p g n c x) (k : KeepT T w w') (hT : (5 : TypeId) ≠ T) : Own B w' p g n c x := ⟨ownsRow_keep h.own k hT, h.spot, h.byte, Nat.le_trans h.low k.size⟩
theorem TxOwn.one {B : Nat} {w : World} {V : Nat → Value} {t : TTx} (h : TxOwn B w V t) : ∀ j, j < 4 → (V j).oneCell' = true := h.at.one
set_option maxHeartbeats 4000000 in
theorem preadt_bad {W : World} {v : Value} {xs : List Nat} (A : Hid (TextAt W v xs)) {er : Int} (hb : pTx xs = .bad er) : Calls Try.prog 23 #[v, .func (.func 24) #[] #[]] W (DecPost W (.agg (arr 4 txz)) TxV (pTx xs)) := by
  have E := Lib.hid (Mem.nil W)
  obtain ⟨p, c, rfl, hl⟩ := A.out.slice
  have HB := Lib.hid hb
  have hmf : ∀ (fn : Fn) (first cap : Array Value) (w : World), (Instr.makeFunc fn first cap).run Try.prog w = .ok (.func fn first cap) w := fun _ _ _ _ => rfl
  clear hb
  go_enter_defers Try.func23, Try.ntmps23
  go_wp2_with (first
    | (refine mem_alloc E 28 rfl rfl infoTxz ?_; clear E; intro b4 w4 E; simp only [arr_cells'] at E)
    | (refine mem_alloc E 29 rfl rfl (z := .int .i64 0) (n := 1) (by kernel_rfl) ?_; clear E; intro b6 w6 E)
    | (refine wpList_build_to rfl 101 _ rfl #[(0, .slice p xs.length c)] (by kernel_rfl) #[.slice p xs.length c] (by kernel_rfl) ?_)
    | (refine mem_box E 101 rfl _ rfl rfl (c := #[.slice p xs.length c]) rfl ?_; clear E; intro b7 w7 E)
    | (go_at_call 24; refine (ptx_any (D := W) (u := .slice p xs.length c) (xs := xs) (Lib.hid ⟨A.out, E.out.get List.mem_cons_self, E.out.ge _ List.mem_cons_self, E.out.below⟩)).mono ?_; intro e1 w8 h1; rw [HB.out] at h1; obtain ⟨rfl, ho⟩ := h1; have E8 := Lib.hid (E.out.only_rest ho); clear ho E))
  refine leaves_cons (f := 59) (args := #[.pointer (some ⟨b6, 0, none⟩)]) (by simp) (by simp [go_sem]) ?_
  refine (catcht_quit b6 er 0 W w8 _ E8.out).mono ?_
  rintro e u' w'' ⟨rfl, rfl, hM⟩
  refine ⟨_, res_cell3 (fn := Try.f23) rfl _ _ _ _ rfl (hM.get (List.mem_cons_of_mem _ List.mem_cons_self)) Try.underlying28 rfl (by rw [arr_size]; kernel_rfl) rfl (hM.get List.mem_cons_self) Try.underlying29 rfl, ?_⟩
  rw [HB.out]
  exact ⟨rfl, hM.below⟩
set_option maxHeartbeats 8000000 in
theorem preadt_good {W : World} {v : Value} {xs : List Nat} (A : Hid (TextAt W v xs)) {t} {r : List Nat} (hb : pTx xs = .good t r) : Calls Try.prog 23 #[v, .func (.func 24) #[] #[]] W (DecPost W (.agg (arr 4 txz)) TxV (pTx xs)) := by
  have E := Lib.hid (Mem.nil W)
  obtain ⟨p, c, rfl, hl⟩ := A.out.slice
  have HB := Lib.hid hb
  have hmf : ∀ (fn : Fn) (first cap : Array Value) (w : World), (Instr.makeFunc fn first cap).run Try.prog w = .ok (.func fn first cap) w := fun _ _ _ _ => rfl
  clear hb
  go_enter_defers Try.func23, Try.ntmps23
  go_upto_region 4 with (first
    | (refine mem_alloc E 28 rfl rfl infoTxz ?_; clear E; intro b4 w4 E; simp only [arr_cells'] at E)
    | (refine mem_alloc E 29 rfl rfl (z := .int .i64 0) (n := 1) (by kernel_rfl) ?_; clear E; intro b6 w6 E)
    | (refine wpList_build_to rfl 101 _ rfl #[(0, .slice p xs.length c)] (by kernel_rfl) #[.slice p xs.length c] (by kernel_rfl) ?_)
    | (refine mem_box E 101 rfl _ rfl rfl (c := #[.slice p xs.length c]) rfl ?_; clear E; intro b7 w7 E)
    | (go_at_call 24; refine (ptx_any (D := W) (u := .slice p xs.length c) (xs := xs) (Lib.hid ⟨A.out, E.out.get List.mem_cons_self, E.out.ge _ List.mem_cons_self, E.out.below⟩)).mono ?_; intro e1 w8 h1; rw [HB.out] at h1; obtain ⟨v1, u1, rfl, ha, hbb, V, rfl, hV⟩ := h1; have TX := Lib.hid (hV.mono E.out.below.size); have HA := Lib.hid ha; replace E := Lib.hid (E.out.rturn hbb); clear ha hbb hV)
    | (refine mem_store_rowk 2 E 28 rfl (.tmp 4) (.tmp 14) rfl rfl rfl rfl (by kernel_rfl) (by simp only [arr_size]) (all_of TX.out.one) ?_; clear E; intro w9 E KT; simp only [List.set_cons_zero, List.set_cons_succ] at E; replace TX := Lib.hid (TX.out.keep KT.out (by decide) (by decide) (by decide) (by decide)); clear KT))
  refine Go.wp_mono (Q := noPanic _) ?_ noPanic_of
  have E1 := Lib.hid (Mem.nil w9)
  refine wp_region_memS (S := fun W' => W'.heap[b4]? = some (.cells (arr 4 V) 28 (0, 0)) ∧ W'.heap[b7]? = some (.cells #[u1] 101 (0, 0))) E1 (by kernel_rfl) ?_
  clear E1
  intro wx E0
  replace E := Lib.hid (E.out.call E0.out.below)
  replace TX := Lib.hid (TX.out.below E0.out.below)
  have RA := Lib.hid (HA.out.below E.out.below)
  obtain ⟨pr, cr, rfl, hlr⟩ := HA.out.slice
  obtain ⟨pr', gr, orr, cr', hvr, hlr', RW⟩ := RA.out
  injection hvr with q1 q2 q3
  subst q1 q3
  have RR := Lib.hid RW
  have S0 := Lib.hid (And.intro (E.out.get (List.mem_cons_of_mem _ (List.mem_cons_of_mem _ List.mem_cons_self))) (E.out.get List.mem_cons_self))
  clear E0 RA RW q2 hlr'
  try simp only [Act.put, List.getElem_toArray, List.getElem_cons_succ, List.getElem_cons_zero, List.setIfInBounds_toArray, List.set_cons_zero, List.set_cons_succ]
  refine hm_run 0 15 (.agg (arr 4 V)) rfl rfl (by kernel_rfl) (by kernel_rfl) (by kernel_rfl) (fun _ _ _ h => h) rfl (fun W' hW => exec_load rfl (load_whole hW.1 Try.underlying28 rfl (by kernel_rfl))) S0.out ?_
  try simp only [Act.put, List.getElem_toArray, List.getElem_cons_succ, List.getElem_cons_zero, List.setIfInBounds_toArray, List.set_cons_zero, List.set_cons_succ]
  refine hm_run 1 16 (.pointer (some ⟨b7, 0, none⟩)) rfl rfl (by kernel_rfl) (by kernel_rfl) (by kernel_rfl) (fun _ _ _ h => h) rfl (fun _ _ => rfl) S0.out ?_
  try simp only [Act.put, List.getElem_toArray, List.getElem_cons_succ, List.getElem_cons_zero, List.setIfInBounds_toArray, List.set_cons_zero, List.set_cons_succ]
  refine hm_run 2 17 (.pointer (some ⟨b7, 0, none⟩)) rfl rfl (by kernel_rfl) (by kernel_rfl) (by kernel_rfl) (fun _ _ _ h => h) rfl (fun _ _ => rfl) S0.out ?_
  try simp only [Act.put, List.getElem_toArray, List.getElem_cons_succ, List.getElem_cons_zero, List.setIfInBounds_toArray, List.set_cons_zero, List.set_cons_succ]
  refine hm_run 3 18 (.pointer (some ⟨b7, 0, none⟩)) rfl rfl (by kernel_rfl) (by kernel_rfl) (by kernel_rfl) (fun _ _ _ h => h) rfl (fun _ _ => rfl) S0.out ?_
  try simp only [Act.put, List.getElem_toArray, List.getElem_cons_succ, List.getElem_cons_zero, List.setIfInBounds_toArray, List.set_cons_zero, List.set_cons_succ]
  refine hm_run 4 19 (.slice pr r.length cr) rfl rfl (by kernel_rfl) (by kernel_rfl) (by kernel_rfl) (fun _ _ _ h => h) rfl (fun W' hW => exec_load rfl (run_load_one Try.underlying22 rfl (cell_of_here hW.2 0 rfl))) S0.out ?_
  try simp only [Act.put, List.getElem_toArray, List.getElem_cons_succ, List.getElem_cons_zero, List.setIfInBounds_toArray, List.set_cons_zero, List.set_cons_succ]
  refine hm_one (i := 5) (by kernel_rfl) ?_
  refine hm_step 5 rfl (by kernel_rfl) fun K hK => ?_
  try simp only [Act.put, List.getElem_toArray, List.getElem_cons_succ, List.getElem_cons_zero, List.setIfInBounds_toArray, List.set_cons_zero, List.set_cons_succ]
  go_simp
  go_at_call 8
  refine (clone_any RR (by omega)).mono ?_
  rintro e2 w10 ⟨p2, g2, c2, rfl, N2, hb2⟩
  have TS : Hid (TextOwn W.heap.size w10 (.slice p2 r.length c2) r) := Lib.hid ⟨p2, g2, c2, rfl, hlr, N2.mono E.out.below.size⟩
  replace E := Lib.hid (E.out.call hb2)
  replace TX := Lib.hid (TX.out.below hb2)
  have S1 := Lib.hid (And.intro (E.out.get (List.mem_cons_of_mem _ (List.mem_cons_of_mem _ List.mem_cons_self))) (E.out.get List.mem_cons_self))
  clear N2 hb2 S0
  refine hK _ _ S1.out ?_
  clear hK K
  try simp only [Act.put, List.getElem_toArray, List.getElem_cons_succ, List.getElem_cons_zero, List.setIfInBounds_toArray, List.set_cons_zero, List.set_cons_succ]
  refine hm_one (i := 6) (by kernel_rfl) ?_
  refine hm_step 6 rfl (by kernel_rfl) fun K hK => ?_
  try simp only [Act.put, List.getElem_toArray, List.getElem_cons_succ, List.getElem_cons_zero, List.setIfInBounds_toArray, List.set_cons_zero, List.set_cons_succ]
  refine mo_store_only 2 E 28 (.tmp 4) (.tmp 15) rfl rfl rfl rfl (by kernel_rfl) (by simp only [arr_size]) (all_of TX.out.one) ?_
  intro w11 E11 HO
  simp only [List.set_cons_zero, List.set_cons_succ] at E11
  have KT := Lib.hid (KeepT.of_only (E.out.get (List.mem_cons_of_mem _ (List.mem_cons_of_mem _ List.mem_cons_self))) HO.out)
  replace TX := Lib.hid (TX.out.keep KT.out (by decide) (by decide) (by decide) (by decide))
  replace TS := Lib.hid (TS.out.keep KT.out (by decide))
  have S2 := Lib.hid (And.intro (E11.out.get (List.mem_cons_of_mem _ (List.mem_cons_of_mem _ List.mem_cons_self))) (E11.out.get List.mem_cons_self))
  clear KT HO E S1
  refine hK _ _ S2.out ?_
  clear hK K
  try simp only [Act.put, List.getElem_toArray, List.getElem_cons_succ, List.getElem_cons_zero, List.setIfInBounds_toArray, List.set_cons_zero, List.set_cons_succ]
  refine hm_run 7 5 (.slice p2 r.length c2) rfl rfl (by kernel_rfl) (by kernel_rfl) (by kernel_rfl) (fun _ _ _ h => h) rfl (fun _ _ => rfl) S2.out ?_
  try simp only [Act.put, List.getElem_toArray, List.getElem_cons_succ, List.getElem_cons_zero, List.setIfInBounds_toArray, List.set_cons_zero, List.set_cons_succ]
  refine hm_one (i := 8) (by kernel_rfl) ?_
  refine hm_step 8 rfl (by kernel_rfl) fun K hK => ?_
  try simp only [Act.put, List.getElem_toArray, List.getElem_cons_succ, List.getElem_cons_zero, List.setIfInBounds_toArray, List.set_cons_zero, List.set_cons_succ]
  refine mo_store_cell2 1 E11 29 (.tmp 6) (.const (.int .i64 0)) rfl rfl rfl (v := .int .i64 0) (u := .int .i64 0) (c' := #[.int .i64 0]) rfl (by kernel_rfl) rfl rfl rfl rfl ?_
  intro w12 E12 KT
  simp only [List.set_cons_zero, List.set_cons_succ] at E12
  replace TX := Lib.hid (TX.out.keep KT.out (by decide) (by decide) (by decide) (by decide))
  replace TS := Lib.hid (TS.out.keep KT.out (by decide))
  have S3 := Lib.hid (And.intro (E12.out.get (List.mem_cons_of_mem _ (List.mem_cons_of_mem _ List.mem_cons_self))) (E12.out.get List.mem_cons_self))
  clear KT S2 E11
  refine hK _ _ S3.out ?_
  clear hK K
  try simp only [Act.put, List.getElem_toArray, List.getElem_cons_succ, List.getElem_cons_zero, List.setIfInBounds_toArray, List.set_cons_zero, List.set_cons_succ]
  refine wpAnyH_done (by kernel_rfl) ?_ _
  simp only [noPanic]
  go_wp2
  refine leaves_cons (f := 59) (args := #[.pointer (some ⟨b6, 0, none⟩)]) (by simp) (by simp [go_sem]) ?_
  refine (catcht_idle ⟨b6, 0, none⟩ _).mono ?_
  rintro e u' w'' ⟨rfl, rfl, rfl⟩
  refine ⟨_, res_cell3 (fn := Try.f23) rfl _ _ _ _ rfl S3.out.1 Try.underlying28 rfl (by rw [arr_size]; kernel_rfl) rfl (E12.out.get (List.mem_cons_of_mem _ List.mem_cons_self)) Try.underlying29 rfl, ?_⟩
  rw [HB.out]
  obtain ⟨p3, g3, c3, e3, _, N3⟩ := TS.out
  injection e3 with e4 e5 e6
  subst e4 e6
  exact ⟨_, p2, g3, c2, rfl, ⟨V, rfl, TX.out⟩, N3, E12.out.below⟩
theorem preadt_any {W : World} {v : Value} {xs : List Nat} (A : Hid (TextAt W v xs)) : Calls Try.prog 23 #[v, .func (.func 24) #[] #[]] W (DecPost W (.agg (arr 4 txz)) TxV (pTx xs)) := by
  cases h : pTx xs with
  | bad er => have := preadt_bad A h; rwa [h] at this
  | good t r => have := preadt_good A h; rwa [h] at this
set_option maxHeartbeats 2000000 in
theorem txdec_any {W : World} {v : Value} {xs : List Nat} (A : Hid (TextAt W v xs)) : Calls Try.prog 9 #[v] W (DecPost W (.agg (arr 4 txz)) TxV (pTx xs)) := by
  have E := Lib.hid (Mem.nil W)
  cases h : pTx xs with
  | bad er =>
    have HP := Lib.hid h
    clear h
    go_enter Try.func9, Try.ntmps9
    go_wp2_with (first
      | (refine mem_alloc E 28 rfl rfl infoTxz ?_; clear E; intro b4 w4 E; simp only [arr_cells'] at E)
      | (go_at_call 23; refine (preadt_any (Lib.hid (A.out.below E.out.below))).mono ?_; intro e1 w1 h1; rw [HP.out] at h1; obtain ⟨rfl, hb⟩ := h1; replace E := Lib.hid (E.out.call hb); clear hb)
      | (refine mem_store_row 0 E 28 rfl (.tmp 2) (.tmp 7) rfl rfl rfl rfl (by kernel_rfl) (by simp only [arr_size]) (all_of txz_one) ?_; clear E; intro w9 E; simp only [List.set_cons_zero, List.set_cons_succ] at E))
    exact bodyPost_ret (res_row_tmp_tmp (fn := Try.f9) rfl _ _ b4 4 28 _ _ rfl (E.out.get List.mem_cons_self) Try.underlying28 rfl (by kernel_rfl)) rfl ⟨rfl, E.out.below⟩
  | good t r =>
    have HP := Lib.hid h
    clear h
    go_enter Try.func9, Try.ntmps9
    go_wp2_with (first
      | (refine mem_alloc E 28 rfl rfl infoTxz ?_; clear E; intro b4 w4 E; simp only [arr_cells'] at E)
      | (go_at_call 23; refine (preadt_any (Lib.hid (A.out.below E.out.below))).mono ?_; intro e1 w1 h1; rw [HP.out] at h1; obtain ⟨v1, p1, g1, c1, rfl, ⟨V, rfl, hV⟩, hN, hb⟩ := h1; have TX := Lib.hid (hV.mono E.out.below.size); have HN := Lib.hid (hN.mono E.out.below.size); replace E := Lib.hid (E.out.call hb); clear hb hV hN)
      | (refine mem_store_rowk 0 E 28 rfl (.tmp 2) (.tmp 7) rfl rfl rfl rfl (by kernel_rfl) (by simp only [arr_size]) (all_of TX.out.one) ?_; clear E; intro w9 E KT; simp only [List.set_cons_zero, List.set_cons_succ] at E; replace TX := Lib.hid (TX.out.keep KT.out (by decide) (by decide) (by decide) (by decide)); replace HN := Lib.hid (own_keep HN.out KT.out (by decide)); clear KT))
    exact bodyPost_ret (res_row_tmp_tmp (fn := Try.f9) rfl _ _ b4 4 28 _ _ rfl (E.out.get List.mem_cons_self) Try.underlying28 rfl (by kernel_rfl)) rfl ⟨_, p1, g1, c1, rfl, ⟨V, rfl, TX.out⟩, HN.out, E.out.below⟩
end Go.Proofs.Ytllndneplkigpaa
