/- Read of a block: parts.Read's deferred closure; block.Decode. -/
import Derived.Test.YtllndneplkigpaaBf
set_option linter.unusedSimpArgs false
set_option linter.unusedVariables false
set_option maxRecDepth 100000
namespace Go.Proofs.Ytllndneplkigpaa
open Go.RowKit Go.Lib Go.Sort

theorem BlkOwn.keeps {T : TypeId} {B : Nat} {w w' : World} {V : Nat → Value} {t : TBlk} (h : BlkOwn B w V t) (k : KeepT T w w') (h1 : (5 : TypeId) ≠ T) (h2 : 22 ≠ T) (h3 : 67 ≠ T) (h4 : 70 ≠ T) (h5 : 28 ≠ T) : BlkOwn B w' V t :=
  ⟨h.hd, h.ok, TxsOwn.keep (v := V 68) h.txs k h1 h2 h3 h4 h5⟩
theorem BlkOwn.mono {B B' : Nat} {w : World} {V : Nat → Value} {t : TBlk} (h : BlkOwn B w V t) (hB : B' ≤ B) : BlkOwn B' w V t := ⟨h.hd, h.ok, TxsOwn.mono (v := V 68) h.txs hB⟩
theorem catchb_idle (p : Addr) (w : World) :
    CallsD Try.prog 77 #[.pointer (some p)] .returning w fun e u' w' => e = .returned (.tuple #[]) ∧ u' = .returning ∧ w' = w := by
  refine callsD_of_wpS Try.func77 rfl fun c₀ cs hu => ?_
  apply wpS_seq
  apply wpS_region
  simp [wpOpsS, go_sem, recoverD, hu, Try.ntmps77, Exit.thenS]
  refine wpS_of_wp ?_
  go_wp2
  cases c₀
  simp_all [bodyPostS, results, Try.results77]
set_option maxHeartbeats 4000000 in
theorem catchb_quit (b : Nat) (e x : Int) (w0 w : World) (l : List (Nat × TypeId × Array Value)) (E0 : Mem w0 ((b, 29, #[.int .i64 x]) :: l) w) :
    CallsD Try.prog 77 #[.pointer (some ⟨b, 0, none⟩)] (quitM e false) w fun en u' w' => en = .returned (.tuple #[]) ∧ u' = quitM e true ∧ Mem w0 ((b, 29, #[.int .i64 e]) :: l) w' := by
  refine callsD_of_wpS Try.func77 rfl fun c₀ cs hu => ?_
  apply wpS_seq
  apply wpS_region
  simp [wpOpsS, go_sem, recoverD, hu, Try.ntmps77, Exit.thenS]
  refine wpS_of_wp (Go.wp_mono (Q := fun e1 a1 w1 => e1 = .normal ∧ a1.defers = [] ∧ Mem w0 ((b, 29, #[.int .i64 e]) :: l) w1) ?_ ?_)
  · change Code.wp Try.prog _ _ { tmps := #[.pointer (some ⟨b, 0, none⟩), undef, undef, undef, .iface 29 (.int .i64 e), undef, undef, undef, undef, undef, undef], defers := [] } w
    have E := Lib.hid E0
    clear E0 hu
    go_wp2_with (first
      | (refine mem_known rfl (.tuple #[.int .i64 e, .bool true]) _ (exec_ta rfl (by exact run_assert e _)) ?_)
      | (refine mem_store_cell (v := .int .i64 e) (u := .int .i64 x) (c' := #[.int .i64 e]) 0 E 29 rfl (.tmp 0) (.tmp 10) rfl rfl rfl rfl (by kernel_rfl) rfl rfl rfl rfl ?_; clear E; intro w5 E; simp only [List.set_cons_zero] at E))
    exact E.out
  · rintro e1 a1 w1 ⟨rfl, hd, hM⟩
    cases c₀
    simp_all [bodyPostS, results, Try.results77]
set_option maxHeartbeats 4000000 in
theorem preadb_bad {W : World} {v : Value} {xs : List Nat} (A : Hid (TextAt W v xs)) (h2 : xs.length ≤ 200000) {er : Int} (hb : pBlk xs = .bad er) : Calls Try.prog 47 #[v, .func (.func 48) #[] #[]] W (DecPost W (.agg (arr 69 bz)) BlkV (pBlk xs)) := by
  have E := Lib.hid (Mem.nil W)
  obtain ⟨p, c, rfl, hl⟩ := A.out.slice
  have HB := Lib.hid hb
  have hmf : ∀ (fn : Fn) (first cap : Array Value) (w : World), (Instr.makeFunc fn first cap).run Try.prog w = .ok (.func fn first cap) w := fun _ _ _ _ => rfl
  clear hb
  go_enter_defers Try.func47, Try.ntmps47
  go_wp2_with (first
    | (refine mem_alloc E 41 rfl rfl infoBz ?_; clear E; intro b4 w4 E; simp only [arr_cells'] at E)
    | (refine mem_alloc E 29 rfl rfl (z := .int .i64 0) (n := 1) (by kernel_rfl) ?_; clear E; intro b6 w6 E)
    | (refine wpList_build_to rfl 101 _ rfl #[(0, .slice p xs.length c)] (by kernel_rfl) #[.slice p xs.length c] (by kernel_rfl) ?_)
    | (refine mem_box E 101 rfl _ rfl rfl (c := #[.slice p xs.length c]) rfl ?_; clear E; intro b7 w7 E)
    | (go_at_call 48; refine (bread_any (D := W) (u := .slice p xs.length c) (xs := xs) (Lib.hid ⟨A.out, E.out.get List.mem_cons_self, E.out.ge _ List.mem_cons_self, E.out.below⟩) h2).mono ?_; intro e1 w8 h1; rw [HB.out] at h1; obtain ⟨rfl, ho⟩ := h1; have E8 := Lib.hid (E.out.only_rest ho); clear ho E))
  refine leaves_cons (f := 77) (args := #[.pointer (some ⟨b6, 0, none⟩)]) (by simp) (by simp [go_sem]) ?_
  refine (catchb_quit b6 er 0 W w8 _ E8.out).mono ?_
  rintro e u' w'' ⟨rfl, rfl, hM⟩
  refine ⟨_, res_cell3 (fn := Try.f47) rfl _ _ _ _ rfl (hM.get (List.mem_cons_of_mem _ List.mem_cons_self)) blk_is rfl (by rw [arr_size]; kernel_rfl) rfl (hM.get List.mem_cons_self) Try.underlying29 rfl, ?_⟩
  rw [HB.out]
  exact ⟨rfl, hM.below⟩
set_option maxHeartbeats 8000000 in
theorem preadb_good {W : World} {v : Value} {xs : List Nat} (A : Hid (TextAt W v xs)) (h2 : xs.length ≤ 200000) {t} {r : List Nat} (hb : pBlk xs = .good t r) : Calls Try.prog 47 #[v, .func (.func 48) #[] #[]] W (DecPost W (.agg (arr 69 bz)) BlkV (pBlk xs)) := by
  have E := Lib.hid (Mem.nil W)
  obtain ⟨p, c, rfl, hl⟩ := A.out.slice
  have HB := Lib.hid hb
  have hmf : ∀ (fn : Fn) (first cap : Array Value) (w : World), (Instr.makeFunc fn first cap).run Try.prog w = .ok (.func fn first cap) w := fun _ _ _ _ => rfl
  clear hb
  go_enter_defers Try.func47, Try.ntmps47
  go_upto_region 4 with (first
    | (refine mem_alloc E 41 rfl rfl infoBz ?_; clear E; intro b4 w4 E; simp only [arr_cells'] at E)
    | (refine mem_alloc E 29 rfl rfl (z := .int .i64 0) (n := 1) (by kernel_rfl) ?_; clear E; intro b6 w6 E)
    | (refine wpList_build_to rfl 101 _ rfl #[(0, .slice p xs.length c)] (by kernel_rfl) #[.slice p xs.length c] (by kernel_rfl) ?_)
    | (refine mem_box E 101 rfl _ rfl rfl (c := #[.slice p xs.length c]) rfl ?_; clear E; intro b7 w7 E)
    | (go_at_call 48; refine (bread_any (D := W) (u := .slice p xs.length c) (xs := xs) (Lib.hid ⟨A.out, E.out.get List.mem_cons_self, E.out.ge _ List.mem_cons_self, E.out.below⟩) h2).mono ?_; intro e1 w8 h1; rw [HB.out] at h1; obtain ⟨v1, u1, rfl, ha, hbb, V, rfl, hV⟩ := h1; have TX := Lib.hid (hV.mono E.out.below.size); have HA := Lib.hid ha; replace E := Lib.hid (E.out.rturn hbb); clear ha hbb hV)
    | (refine mem_store_rowk 2 E 41 rfl (.tmp 4) (.tmp 14) rfl rfl rfl rfl (by kernel_rfl) (by simp only [arr_size]) (all_of (blk_ones TX.out.at)) ?_; clear E; intro w9 E KT; simp only [List.set_cons_zero, List.set_cons_succ] at E; replace TX := Lib.hid (TX.out.keeps KT.out (by decide) (by decide) (by decide) (by decide) (by decide)); clear KT))
  refine Go.wp_mono (Q := noPanic _) ?_ noPanic_of
  have E1 := Lib.hid (Mem.nil w9)
  refine wp_region_memS (S := fun W' => W'.heap[b4]? = some (.cells (arr 69 V) 41 (0, 0)) ∧ W'.heap[b7]? = some (.cells #[u1] 101 (0, 0))) E1 (by kernel_rfl) ?_
  clear E1
  intro wx E0
  replace E := Lib.hid (E.out.call E0.out.below)
  replace TX := Lib.hid (TX.out.below E0.out.below)
  have RA := Lib.hid (HA.out.below E.out.below)
  obtain ⟨pr, cr, rfl, hlr⟩ := HA.out.slice
  obtain ⟨pr', gr, orr, cr', hvr, hlr', RW⟩ := RA.out
  injection hvr with q1 q2 q3
  subst q1 q3
  have RR := Lib.hid RW
  have S0 := Lib.hid (And.intro (E.out.get (List.mem_cons_of_mem _ (List.mem_cons_of_mem _ List.mem_cons_self))) (E.out.get List.mem_cons_self))
  clear E0 RA RW q2 hlr'
  try simp only [Act.put, List.getElem_toArray, List.getElem_cons_succ, List.getElem_cons_zero, List.setIfInBounds_toArray, List.set_cons_zero, List.set_cons_succ]
  refine hm_run 0 15 (.agg (arr 69 V)) rfl rfl (by kernel_rfl) (by kernel_rfl) (by kernel_rfl) (fun _ _ _ h => h) rfl (fun W' hW => exec_load rfl (load_whole hW.1 blk_is rfl (by kernel_rfl))) S0.out ?_
  try simp only [Act.put, List.getElem_toArray, List.getElem_cons_succ, List.getElem_cons_zero, List.setIfInBounds_toArray, List.set_cons_zero, List.set_cons_succ]
  refine hm_run 1 16 (.pointer (some ⟨b7, 0, none⟩)) rfl rfl (by kernel_rfl) (by kernel_rfl) (by kernel_rfl) (fun _ _ _ h => h) rfl (fun _ _ => rfl) S0.out ?_
  try simp only [Act.put, List.getElem_toArray, List.getElem_cons_succ, List.getElem_cons_zero, List.setIfInBounds_toArray, List.set_cons_zero, List.set_cons_succ]
  refine hm_run 2 17 (.pointer (some ⟨b7, 0, none⟩)) rfl rfl (by kernel_rfl) (by kernel_rfl) (by kernel_rfl) (fun _ _ _ h => h) rfl (fun _ _ => rfl) S0.out ?_
  try simp only [Act.put, List.getElem_toArray, List.getElem_cons_succ, List.getElem_cons_zero, List.setIfInBounds_toArray, List.set_cons_zero, List.set_cons_succ]
  refine hm_run 3 18 (.pointer (some ⟨b7, 0, none⟩)) rfl rfl (by kernel_rfl) (by kernel_rfl) (by kernel_rfl) (fun _ _ _ h => h) rfl (fun _ _ => rfl) S0.out ?_
  try simp only [Act.put, List.getElem_toArray, List.getElem_cons_succ, List.getElem_cons_zero, List.setIfInBounds_toArray, List.set_cons_zero, List.set_cons_succ]
  refine hm_run 4 19 (.slice pr r.length cr) rfl rfl (by kernel_rfl) (by kernel_rfl) (by kernel_rfl) (fun _ _ _ h => h) rfl (fun W' hW => exec_load rfl (run_load_one Try.underlying22 rfl (cell_of_here hW.2 0 rfl))) S0.out ?_
  try simp only [Act.put, List.getElem_toArray, List.getElem_cons_succ, List.getElem_cons_zero, List.setIfInBounds_toArray, List.set_cons_zero, List.set_cons_succ]
  refine hm_one (i := 5) (by kernel_rfl) ?_
  refine hm_step 5 rfl (by kernel_rfl) fun K hK => ?_
  try simp only [Act.put, List.getElem_toArray, List.getElem_cons_succ, List.getElem_cons_zero, List.setIfInBounds_toArray, List.set_cons_zero, List.set_cons_succ]
  go_simp
  go_at_call 8
  refine (clone_any RR (by omega)).mono ?_
  rintro e2 w10 ⟨p2, g2, c2, rfl, N2, hb2⟩
  have TS : Hid (TextOwn W.heap.size w10 (.slice p2 r.length c2) r) := Lib.hid ⟨p2, g2, c2, rfl, hlr, N2.mono E.out.below.size⟩
  replace E := Lib.hid (E.out.call hb2)
  replace TX := Lib.hid (TX.out.below hb2)
  have S1 := Lib.hid (And.intro (E.out.get (List.mem_cons_of_mem _ (List.mem_cons_of_mem _ List.mem_cons_self))) (E.out.get List.mem_cons_self))
  clear N2 hb2 S0
  refine hK _ _ S1.out ?_
  clear hK K
  try simp only [Act.put, List.getElem_toArray, List.getElem_cons_succ, List.getElem_cons_zero, List.setIfInBounds_toArray, List.set_cons_zero, List.set_cons_succ]
  refine hm_one (i := 6) (by kernel_rfl) ?_
  refine hm_step 6 rfl (by kernel_rfl) fun K hK => ?_
  try simp only [Act.put, List.getElem_toArray, List.getElem_cons_succ, List.getElem_cons_zero, List.setIfInBounds_toArray, List.set_cons_zero, List.set_cons_succ]
  refine mo_store_only 2 E 41 (.tmp 4) (.tmp 15) rfl rfl rfl rfl (by kernel_rfl) (by simp only [arr_size]) (all_of (blk_ones TX.out.at)) ?_
  intro w11 E11 HO
  simp only [List.set_cons_zero, List.set_cons_succ] at E11
  have KT := Lib.hid (KeepT.of_only (E.out.get (List.mem_cons_of_mem _ (List.mem_cons_of_mem _ List.mem_cons_self))) HO.out)
  replace TX := Lib.hid (TX.out.keeps KT.out (by decide) (by decide) (by decide) (by decide) (by decide))
  replace TS := Lib.hid (TS.out.keep KT.out (by decide))
  have S2 := Lib.hid (And.intro (E11.out.get (List.mem_cons_of_mem _ (List.mem_cons_of_mem _ List.mem_cons_self))) (E11.out.get List.mem_cons_self))
  clear KT HO E S1
  refine hK _ _ S2.out ?_
  clear hK K
  try simp only [Act.put, List.getElem_toArray, List.getElem_cons_succ, List.getElem_cons_zero, List.setIfInBounds_toArray, List.set_cons_zero, List.set_cons_succ]
  refine hm_run 7 5 (.slice p2 r.length c2) rfl rfl (by kernel_rfl) (by kernel_rfl) (by kernel_rfl) (fun _ _ _ h => h) rfl (fun _ _ => rfl) S2.out ?_
  try simp only [Act.put, List.getElem_toArray, List.getElem_cons_succ, List.getElem_cons_zero, List.setIfInBounds_toArray, List.set_cons_zero, List.set_cons_succ]
  refine hm_one (i := 8) (by kernel_rfl) ?_
  refine hm_step 8 rfl (by kernel_rfl) fun K hK => ?_
  try simp only [Act.put, List.getElem_toArray, List.getElem_cons_succ, List.getElem_cons_zero, List.setIfInBounds_toArray, List.set_cons_zero, List.set_cons_succ]
  refine mo_store_cell2 1 E11 29 (.tmp 6) (.const (.int .i64 0)) rfl rfl rfl (v := .int .i64 0) (u := .int .i64 0) (c' := #[.int .i64 0]) rfl (by kernel_rfl) rfl rfl rfl rfl ?_
  intro w12 E12 KT
  simp only [List.set_cons_zero, List.set_cons_succ] at E12
  replace TX := Lib.hid (TX.out.keeps KT.out (by decide) (by decide) (by decide) (by decide) (by decide))
  replace TS := Lib.hid (TS.out.keep KT.out (by decide))
  have S3 := Lib.hid (And.intro (E12.out.get (List.mem_cons_of_mem _ (List.mem_cons_of_mem _ List.mem_cons_self))) (E12.out.get List.mem_cons_self))
  clear KT S2 E11
  refine hK _ _ S3.out ?_
  clear hK K
  try simp only [Act.put, List.getElem_toArray, List.getElem_cons_succ, List.getElem_cons_zero, List.setIfInBounds_toArray, List.set_cons_zero, List.set_cons_succ]
  refine wpAnyH_done (by kernel_rfl) ?_ _
  simp only [noPanic]
  go_wp2
  refine leaves_cons (f := 77) (args := #[.pointer (some ⟨b6, 0, none⟩)]) (by simp) (by simp [go_sem]) ?_
  refine (catchb_idle ⟨b6, 0, none⟩ _).mono ?_
  rintro e u' w'' ⟨rfl, rfl, rfl⟩
  refine ⟨_, res_cell3 (fn := Try.f47) rfl _ _ _ _ rfl S3.out.1 blk_is rfl (by rw [arr_size]; kernel_rfl) rfl (E12.out.get (List.mem_cons_of_mem _ List.mem_cons_self)) Try.underlying29 rfl, ?_⟩
  rw [HB.out]
  obtain ⟨p3, g3, c3, e3, _, N3⟩ := TS.out
  injection e3 with e4 e5 e6
  subst e4 e6
  exact ⟨_, p2, g3, c2, rfl, ⟨V, rfl, TX.out⟩, N3, E12.out.below⟩
theorem preadb_any {W : World} {v : Value} {xs : List Nat} (A : Hid (TextAt W v xs)) (h2 : xs.length ≤ 200000) : Calls Try.prog 47 #[v, .func (.func 48) #[] #[]] W (DecPost W (.agg (arr 69 bz)) BlkV (pBlk xs)) := by
  cases h : pBlk xs with
  | bad er => have := preadb_bad A h2 h; rwa [h] at this
  | good t r => have := preadb_good A h2 h; rwa [h] at this

/-- What block.Decode tells of bytes. -/
def pBlkL (xs : List Nat) : Res TBlk := if 200000 < xs.length then .bad 91 else pBlk xs
def BDec (W : World) (r : Res TBlk) (e : Ending) (w' : World) : Prop :=
  match r with
  | .bad er => e = .returned (.tuple #[.agg (arr 69 bz), .int .i64 er]) ∧ Below W.heap.size W w'
  | .good t _ => ∃ V, e = .returned (.tuple #[.agg (arr 69 V), .int .i64 0]) ∧ BlkOwn W.heap.size w' V t ∧ Below W.heap.size W w'
theorem res_blk {P : Program} {fn : Func} {p u : Tmp} {ty : TypeId} (h : fn.results = #[.cell p ty, .tmp u]) (tmps : Array Value) (w : World) {g T : Nat} {cs : Array Value} (d : TypeDesc)
    (hp : tmps.getD p undef = .pointer (some ⟨g, 0, none⟩)) (hg : w.heap[g]? = some (.cells cs T (0, 0))) (hu : P.underlying ty = some d) (hd : (match d with | .struct _ | .array _ _ => true | _ => false) = true) (hi : (P.info? ty).map (·.size) = some cs.size) :
    (results fn tmps).run P w = .ok (.tuple #[.agg cs, tmps.getD u undef]) w := by
  have hp' : tmps[p]?.getD undef = .pointer (some ⟨g, 0, none⟩) := by simpa using hp
  have e := run_loadVar_row (P := P) w g T ty cs (0, 0) d hg hu hd hi
  simp [results, h, hp', asAddr, e]
set_option maxHeartbeats 4000000 in
theorem bdec_any {W : World} {v : Value} {xs : List Nat} (A : Hid (TextAt W v xs)) : Calls Try.prog 17 #[v] W (BDec W (pBlkL xs)) := by
  have E := Lib.hid (Mem.nil W)
  obtain ⟨p, c, rfl, hl⟩ := A.out.slice
  by_cases h2 : 200000 < xs.length
  · have PL := Lib.hid (show pBlkL xs = .bad 91 from if_pos h2)
    have t2 : (200000 : Int) < ((xs.length : Nat) : Int) := by omega
    clear h2 A hl
    go_enter Try.func17, Try.ntmps17
    go_wp2_with (first
      | ((with_reducible refine wpList_at 2 rfl ?_); refine mem_alloc E 41 rfl rfl infoBz ?_; clear E; intro b4 w4 E; simp only [arr_cells'] at E)
      | ((with_reducible refine wpList_at 10 rfl ?_); refine wpList_bld 41 _ rfl rfl (ps := #[]) (by kernel_rfl) built_blk0 ?_)
      | ((with_reducible refine wpList_atn rfl ?_); refine mem_store_row 0 E 41 rfl (.tmp 2) (.tmp 10) rfl rfl rfl rfl (by kernel_rfl) (by simp only [arr_size]) (all_of bz_one) ?_; clear E; intro w9 E; simp only [List.set_cons_zero, List.set_cons_succ] at E))
    refine bodyPost_ret (res_blk (fn := Try.f17) rfl _ _ _ rfl (E.out.get List.mem_cons_self) blk_is rfl (by rw [arr_size]; kernel_rfl)) rfl ?_
    rw [PL.out]
    exact ⟨rfl, E.out.below⟩
  · have t2 : ¬ (200000 : Int) < ((xs.length : Nat) : Int) := by omega
    have PL := Lib.hid (show pBlkL xs = pBlk xs from if_neg h2)
    have CT := Lib.hid (show ∀ w', Below W.heap.size W w' → Calls Try.prog 47 #[.slice p xs.length c, .func (.func 48) #[] #[]] w' (DecPost w' (.agg (arr 69 bz)) BlkV (pBlk xs)) from fun w' hb => preadb_any (Lib.hid (A.out.below hb)) (by omega))
    clear h2 A hl
    cases h : pBlk xs with
    | bad er =>
      have HP := Lib.hid h
      clear h
      go_enter Try.func17, Try.ntmps17
      go_wp2_with (first
        | ((with_reducible refine wpList_at 2 rfl ?_); refine mem_alloc E 41 rfl rfl infoBz ?_; clear E; intro b2 w2 E; simp only [arr_cells'] at E)
        | (go_at_call 47; refine (CT.out _ E.out.below).mono ?_; intro e1 w1 h1; rw [HP.out] at h1; obtain ⟨rfl, hb⟩ := h1; replace E := Lib.hid (E.out.call hb); clear hb)
        | ((with_reducible refine wpList_at 4 rfl ?_); refine mem_alloc E 41 rfl rfl infoBz ?_; clear E; intro b4 w4 E; simp only [arr_cells'] at E)
        | ((with_reducible refine wpList_atn rfl ?_); refine mem_store_row 0 E 41 rfl (.tmp 4) (.tmp 14) rfl rfl rfl rfl (by kernel_rfl) (by simp only [arr_size]) (all_of bz_one) ?_; clear E; intro w9 E; simp only [List.set_cons_zero, List.set_cons_succ] at E)
        | ((with_reducible refine wpList_at 17 rfl ?_); refine mem_load_row E 41 rfl (.tmp 4) rfl rfl List.mem_cons_self blk_is rfl (by simp only [arr_size]; kernel_rfl) ?_)
        | ((with_reducible refine wpList_atn rfl ?_); refine mem_store_row 1 E 41 rfl (.tmp 2) (.tmp 17) rfl rfl rfl rfl (by kernel_rfl) (by simp only [arr_size]) (all_of bz_one) ?_; clear E; intro w9 E; simp only [List.set_cons_zero, List.set_cons_succ] at E))
      refine bodyPost_ret (res_blk (fn := Try.f17) rfl _ _ _ rfl (E.out.get (List.mem_cons_of_mem _ List.mem_cons_self)) blk_is rfl (by rw [arr_size]; kernel_rfl)) rfl ?_
      rw [PL.out, HP.out]
      exact ⟨rfl, E.out.below⟩
    | good t r =>
      have HP := Lib.hid h
      clear h
      go_enter Try.func17, Try.ntmps17
      go_wp2_with (first
        | ((with_reducible refine wpList_at 2 rfl ?_); refine mem_alloc E 41 rfl rfl infoBz ?_; clear E; intro b2 w2 E; simp only [arr_cells'] at E)
        | (go_at_call 47; refine (CT.out _ E.out.below).mono ?_; intro e1 w1 h1; rw [HP.out] at h1; obtain ⟨v1, p1, g1, c1, rfl, ⟨V, rfl, hV⟩, hN, hb⟩ := h1; have TX := Lib.hid (hV.mono E.out.below.size); replace E := Lib.hid (E.out.call hb); clear hb hV hN)
        | ((with_reducible refine wpList_at 4 rfl ?_); refine mem_allocb E 41 rfl rfl infoBz ?_; clear E; intro b4 w4 E hb4; simp only [arr_cells'] at E; replace TX := Lib.hid (TX.out.below hb4.out); clear hb4)
        | ((with_reducible refine wpList_atn rfl ?_); refine mem_store_rowk 0 E 41 rfl (.tmp 4) (.tmp 14) rfl rfl rfl rfl (by kernel_rfl) (by simp only [arr_size]) (all_of (blk_ones TX.out.at)) ?_; clear E; intro w9 E KT; simp only [List.set_cons_zero, List.set_cons_succ] at E; replace TX := Lib.hid (TX.out.keep KT.out); clear KT)
        | ((with_reducible refine wpList_at 17 rfl ?_); refine mem_load_row E 41 rfl (.tmp 4) rfl rfl List.mem_cons_self blk_is rfl (by simp only [arr_size]; kernel_rfl) ?_)
        | ((with_reducible refine wpList_atn rfl ?_); refine mem_store_rowk 1 E 41 rfl (.tmp 2) (.tmp 17) rfl rfl rfl rfl (by kernel_rfl) (by simp only [arr_size]) (all_of (blk_ones TX.out.at)) ?_; clear E; intro w9 E KT; simp only [List.set_cons_zero, List.set_cons_succ] at E; replace TX := Lib.hid (TX.out.keep KT.out); clear KT))
      refine bodyPost_ret (res_blk (fn := Try.f17) rfl _ _ _ rfl (E.out.get (List.mem_cons_of_mem _ List.mem_cons_self)) blk_is rfl (by rw [arr_size]; kernel_rfl)) rfl ?_
      rw [PL.out, HP.out]
      exact ⟨V, rfl, TX.out, E.out.below⟩
end Go.Proofs.Ytllndneplkigpaa
