/- For every slice of bytes and every list of such slices (nil too) that are of bulk at most 1048576: a reader that told a fault has no frames from then on, tells that fault again and has nothing left, whatever comes; 24 noughts are no frame's beginning: the fault of a wrong magic; the call returns true. The tables that the row lists (those of package sha, and two of the library's on UTF-8, one of them pinned) are laid as the card ties them. The second form: what comes in is of bulk at most 1048576. -/
import Derived.Test.YthfnejcnpbnonaaDoorGf
import Derived.Test.YthfnejcnpbnonaaDoorLu
import Derived.Test.YthfnejcnpbnonaaDoorSFLaid
import Derived.Test.YthfnejcnpbnonaaDoorTie
import Derived.Test.YthfnejcnpbnonaaDoorCards
import Derived.ProofKit
import Derived.OpenShut
import Derived.LaidMore
import Derived.Lay
import Derived.Stop.Joined
import Derived.Deep.DeepHandedRow
import Derived.BigQuiet
import Derived.Deep.LoopGhost
import Derived.ShutString
import Derived.ChangeOld
import Derived.Below
import Derived.SevenTiedAt
set_option linter.unusedVariables false
set_option linter.unusedSimpArgs false
namespace Go.Proofs.YthfnejcnpbnonaaDoor.frameFaults
open Go.ChangeShapes Go.WideShapes Go.ChangeAt Go.RowKit Go.Lib Go.Sort Go.Proofs.YthfnejcnpbnonaaDoor

set_option maxRecDepth 100000
theorem own : ownKnob Tryd.prog.godebug = none := by kernel_rfl
theorem feeds_end {zs r : List Nat} {fs : List (ByteArray × List Nat)} {e : Int} (h : Feeds zs fs r e) : (e = 0 ∧ r.length < 200024) ∨ (e ≠ 0 ∧ r = []) := by
  induction h with
  | @wait zs h =>
    refine .inl ⟨rfl, ?_⟩
    unfold pFirst at h
    repeat' split at h
    all_goals first | (cases h; done) | omega
  | bad h => exact .inr ⟨pFirst_err h, rfl⟩
  | frame h t ih => exact ih
theorem feeds_noughts : Feeds (List.replicate 24 0) [] [] 90 := .bad (by
  unfold pFirst
  rw [if_neg (by decide), if_pos (.inl (by decide +kernel))])
set_option maxHeartbeats 4000000 in
theorem feed_dead {D w : World} {br bu : Nat} {v u : Value} {er : Int} {p : Option Addr} {g c : Nat} {xs : List Nat} (T : Fq D br bu v er p g c xs w) (he : er ≠ 0) : Calls Tryd.prog 9 #[.pointer (some ⟨br, 0, none⟩), u] w fun e w' => e = .returned (.tuple #[.slice none 0 0, .int .i64 er]) ∧ Below w.heap.size w w' := by
  have M := Lib.hid (made_any T.cR)
  have HE := Lib.hid (show decide (er = 0) = !true from decide_eq_false he)
  have c0 := cell_of_here T.cR 0 (v := .pointer (some ⟨bu, 0, none⟩)) rfl
  have c1 := cell_of_here T.cU 1 (v := .int .i64 er) rfl
  clear T he
  go_enter Tryd.func9, Tryd.ntmps9
  go_upto_region 4 with (first
    | (go_at_call 16; refine M.out.mono ?_; rintro e w2 ⟨rfl, rfl⟩)
    | ((with_reducible refine wpList_at 20 rfl ?_); refine wpList_kn rfl (.bool true) (by exact exec_neqE rfl rfl rfl HE.out) ?_))
  go_quiet (fail)
  go_wp2_with fail
  go_ret2
  exact ⟨rfl, rfl, rfl, rfl, Nat.le_refl _, fun _ _ => rfl⟩
theorem make24 (w : World) : (Instr.makeSlice 26 (.int .i64 24) (.int .i64 24)).run Tryd.prog w = .ok (.slice (some ⟨w.heap.size, 0, none⟩) 24 24) (w.alloc (.cells (fbs (fun _ => 0) 24).toArray 5)) := by kernel_rfl
theorem exec_mk24 {o : Oper} {ev : Operand → Value} {x y : Operand} (ho : o.op = .makeSlice 26 x y) (hx : ev x = .int .i64 24) (hy : ev y = .int .i64 24) (W : World) : (execOp ev o).run Tryd.prog W = .ok (.value (.slice (some ⟨W.heap.size, 0, none⟩) 24 24)) (W.alloc (.cells (fbs (fun _ => 0) 24).toArray 5)) := by
  unfold execOp
  simp only [ho, hx, hy, Sem.run_bind, make24 W, Result.andThen_ok]
  rfl
theorem row24 (w : World) : Row (w.alloc (.cells (fbs (fun _ => 0) 24).toArray 5)) (some ⟨w.heap.size, 0, none⟩) w.heap.size 0 (List.replicate 24 0).length 24 (lf (List.replicate 24 0)) :=
  (own_new w (fun _ => 0) 24 (by unfold maxLen; omega) (fun _ => by omega)).row.to (fun i hi => by
    unfold lf
    rw [List.getD_eq_getElem?_getD, List.getElem?_replicate, if_pos hi]
    rfl) (lf_lt fun x hx => by
    obtain rfl := List.eq_of_mem_replicate hx
    omega)
theorem mo_mk24 {op : Oper} {a : Act} {w : World} {K : Act → World → Prop} {Q : Exit → Act → World → Prop} {x y : Operand} (ho : op.op = .makeSlice 26 x y) (hx : a.eval x = .int .i64 24) (hy : a.eval y = .int .i64 24)
    (k : ∀ p g w', Hid (Row w' p g 0 (List.replicate 24 0).length 24 (lf (List.replicate 24 0))) → Hid (Below w.heap.size w w') → K (a.put op.dst (.slice p 24 24)) w') : op.wp Tryd.prog a w K Q := mo_known _ _ (exec_mk24 ho hx hy w) (k _ _ _ (Lib.hid (row24 w)) (Lib.hid (below_new w _)))
/-- A reader between two calls. -/
def Live (W : World) (br bu : Nat) (er : Int) (w : World) : Prop := ∃ p g c r, Fp W br bu er p g c r w ∧ ((er = 0 ∧ r.length < 200024) ∨ (er ≠ 0 ∧ r = []))
theorem Live.of {W w w' : World} {br bu : Nat} {p : Option Addr} {zs : List Nat} {e : Ending} (h : FeedEnd W br bu p zs w e w') : ∃ er pf k cf, e = .returned (.tuple #[.slice pf k cf, .int .i64 er]) ∧ Live W br bu er w' := by
  obtain ⟨fs, r, er, pf, gf, cf, V, hF, he, _, p', g', c', T, _, _⟩ := h
  exact ⟨er, pf, _, cf, he, p', g', c', r, T, feeds_end hF⟩

set_option maxHeartbeats 8000000 in
theorem walk (W : World) (hL : laidMetH Tryd.prog S.frLaid W) (v0 : Value) (x0 : List Nat) (A0 : TextAt W v0 x0) (m0 : x0.length ≤ 60000000000000) (v1 : Value) (ts : List (List Nat)) (A1 : TextsAt W v1 ts) (m1 : ∀ i (h : i < ts.length), ts[i].length ≤ 60000000000000) :
    Calls Tryd.prog 5 #[v0, v1] W fun e W' => e = .returned (.bool true) ∧ Below W.heap.size W W' := by
  have KL := Lib.hid (show S.Both W from S.of_fr hL)
  clear hL
  obtain ⟨q0, h0, o0, d0, rfl, b0, R0⟩ := A0
  obtain ⟨pt, gt, ot, ct, V, rfl, bt, RT, AT⟩ := A1
  have R0 := Lib.hid R0
  have RT := Lib.hid RT
  have AT := Lib.hid AT
  have M0 := Lib.hid m0
  have M1 := Lib.hid m1
  have NEW1 := Lib.hid (frnew_any W)
  obtain ⟨n, hn⟩ : ∃ n, n = ts.length := ⟨_, rfl⟩
  have HN := Lib.hid hn
  rw [← hn] at RT bt
  rw [← hn]
  obtain ⟨n0, hn0⟩ : ∃ n, n = x0.length := ⟨_, rfl⟩
  have HN0 := Lib.hid hn0
  rw [← hn0]
  have bn : n ≤ 140737488355328 := by omega
  clear m0 m1 hn hn0 b0 bt
  go_enter Tryd.func5, Tryd.ntmps5
  go_upto_region 4 with (first
    | (go_at_call 7; refine NEW1.out.mono ?_; rintro e w1 ⟨br, bu, rfl, T1⟩; have T1 := Lib.hid T1; have FE := Lib.hid (feed_any T1 (R0.out.below T1.out.under0 |> Lib.hid) (by have := M0.out; simp only [List.length_nil]; omega) KL); rw [← HN0.out] at FE)
    | (go_at_call 9; refine FE.out.mono ?_; intro e w2 hE; obtain ⟨er, pf, kf, cf, rfl, hL⟩ := Live.of hE; have LV := Lib.hid hL; clear hE hL))
  clear NEW1 FE T1
  go_wp2_with fail
  go_loopg [7, 23] n (fun gk0 f i wr => ∃ (j : Nat) (er : Int), j + gk0 = n ∧ i = .int .i64 (j : Int) ∧ f = .int .i64 er ∧ Hid (Live W br bu er wr))
  case atStart => exact ⟨0, er, by omega, rfl, rfl, LV⟩
  case round =>
    clear LV
    obtain ⟨j, er, hj, rfl, rfl, LV⟩ := hrel
    obtain ⟨kk, hkk⟩ : ∃ kk : Nat, kk = gk := ⟨_, rfl⟩
    rw [← hkk] at hj
    by_cases hlt : j < n
    · obtain ⟨p, g, c, r, T, hr⟩ := LV.out
      have T := Lib.hid T
      have HL := Lib.hid hr
      have hjt : j < ts.length := by rw [← HN.out]; exact hlt
      have BW := Lib.hid T.out.under0
      obtain ⟨q, h, o, d, hv, bl, R⟩ := AT.out j hjt
      have R := Lib.hid (R.below BW.out)
      have MJ := Lib.hid (M1.out j hjt)
      have HV := Lib.hid (show wr.cell? ⟨gt, ot + j * 1, none⟩ = some (.slice q ts[j].length d) by
        rw [Nat.mul_one]
        rw [← hv]
        exact (RT.out.below BW.out).cell j (by omega))
      obtain rfl := RT.out.head (by omega)
      clear hv bl LV hr
      rcases HL.out with ⟨rfl, hr⟩ | ⟨he, rfl⟩
      · have FE := Lib.hid (feed_any T R (by have := MJ.out; omega) KL)
        obtain ⟨m, hm⟩ : ∃ m, m = ts[j].length := ⟨_, rfl⟩
        rw [← hm] at FE HV
        clear hm hr MJ R T HL
        go_wp2_with (first
          | ((with_reducible refine wpList_at 25 rfl ?_); refine wpList_ix (k := 1) (j := j) Tryd.underlying22 (by kernel_rfl) (.tmp 21) (.tmp 23) rfl rfl rfl rfl hlt rfl ?_)
          | ((with_reducible refine wpList_at 26 rfl ?_); refine wpList_ld1 26 (.tmp 25) rfl rfl rfl Tryd.underlying26 rfl HV.out ?_)
          | (go_at_call 9; refine FE.out.mono ?_; intro e w2 hE; obtain ⟨er2, pf2, kf2, cf2, rfl, hL⟩ := Live.of hE; have LV := Lib.hid hL; clear hE hL))
        go_roundg (kk - 1)
        case rel => exact ⟨j + 1, er2, by omega, by go_num, rfl, LV⟩
        case measure => omega
      · have FD := Lib.hid (fun u => feed_dead (u := u) T.out he)
        have HE := Lib.hid (show decide (er = 0) = !true from decide_eq_false he)
        have HE2 := Lib.hid (show decide (er = er) = !false from decide_eq_true rfl)
        have HER := Lib.hid he
        obtain ⟨m, hm⟩ : ∃ m, m = ts[j].length := ⟨_, rfl⟩
        rw [← hm] at HV
        clear hm he MJ R HL
        go_wp2_with (first
          | ((with_reducible refine wpList_at 25 rfl ?_); refine wpList_ix (k := 1) (j := j) Tryd.underlying22 (by kernel_rfl) (.tmp 21) (.tmp 23) rfl rfl rfl rfl hlt rfl ?_)
          | ((with_reducible refine wpList_at 26 rfl ?_); refine wpList_ld1 26 (.tmp 25) rfl rfl rfl Tryd.underlying26 rfl HV.out ?_)
          | (go_at_call 9; refine (FD.out _).mono ?_; rintro e w2 ⟨rfl, hb⟩; have FL := Lib.hid (left_any (T.out.call hb)); have LV := Lib.hid (show Live W br bu er w2 from ⟨p, g, c, [], T.out.call hb, .inr ⟨HER.out, rfl⟩⟩); clear hb)
          | (go_at_call 13; refine FL.out.mono ?_; rintro e w3 ⟨rfl, rfl⟩)
          | ((with_reducible refine wpList_at 34 rfl ?_); refine wpList_kn rfl (.bool true) (by exact exec_neqE rfl rfl rfl HE.out) ?_)
          | ((with_reducible refine wpList_at 38 rfl ?_); refine wpList_kn rfl (.bool false) (by exact exec_neqE rfl rfl rfl HE2.out) ?_))
        go_roundg (kk - 1)
        case rel => exact ⟨j + 1, er, by omega, by go_num, rfl, LV⟩
        case measure => omega
    · obtain rfl : j = n := by omega
      obtain ⟨p, g, c, r, T, hr⟩ := LV.out
      have BW := Lib.hid T.under0
      clear T hr LV
      go_upto_region 11 with fail
      have E := Lib.hid (Mem.nil wr)
      refine wp_region_mem E (by kernel_rfl) ?_
      clear E
      intro wx S0
      refine hm_two (i := 0) (j := 1) (by kernel_rfl) ?_ ?_
      · refine hm_step 0 rfl (by kernel_rfl) fun K hK => ?_
        try simp only [Act.put, List.getElem_toArray, List.getElem_cons_succ, List.getElem_cons_zero, List.setIfInBounds_toArray, List.set_cons_zero, List.set_cons_succ]
        go_simp
        have SD := S0
        have KD := Lib.hid (KL.out.below (BW.out.trans (S0.out.below.mono BW.out.size)))
        go_at_call 7
        refine (frnew_any _).mono ?_
        rintro e w3 ⟨br2, bu2, rfl, T2⟩
        have S0_0 := Lib.hid (S0.out.call T2.under0)
        try replace R2 := Lib.hid (R2.out.below T2.under0)
        have T2 := Lib.hid T2
        refine hK _ _ S0_0.out ?_
        clear hK K
        try simp only [Act.put, List.getElem_toArray, List.getElem_cons_succ, List.getElem_cons_zero, List.setIfInBounds_toArray, List.set_cons_zero, List.set_cons_succ]
        refine hm_one (i := 1) (by kernel_rfl) ?_
        refine hm_step 1 rfl (by kernel_rfl) fun K hK => ?_
        try simp only [Act.put, List.getElem_toArray, List.getElem_cons_succ, List.getElem_cons_zero, List.setIfInBounds_toArray, List.set_cons_zero, List.set_cons_succ]
        refine mo_mk24 rfl rfl rfl ?_
        intro p6 g6 w6 R2 hb6
        have S1_1 := Lib.hid (S0_0.out.call hb6.out)
        try replace T2 := Lib.hid (T2.out.call hb6.out)
        clear hb6
        refine hK _ _ S1_1.out ?_
        clear hK K
        try simp only [Act.put, List.getElem_toArray, List.getElem_cons_succ, List.getElem_cons_zero, List.setIfInBounds_toArray, List.set_cons_zero, List.set_cons_succ]
        refine hm_one (i := 2) (by kernel_rfl) ?_
        refine hm_step 2 rfl (by kernel_rfl) fun K hK => ?_
        try simp only [Act.put, List.getElem_toArray, List.getElem_cons_succ, List.getElem_cons_zero, List.setIfInBounds_toArray, List.set_cons_zero, List.set_cons_succ]
        go_simp
        go_at_call 9
        refine (feed_any (ys := List.replicate 24 0) T2 R2 (by decide) KD).mono ?_
        intro e w5 hE
        obtain ⟨fs5, r5, er5, pf5, gf5, cf5, V5, hF5, rfl, _, ⟨p5, g5, c5, T5, _, _⟩⟩ := hE
        obtain ⟨rfl, rfl, rfl⟩ := (show Feeds (List.replicate 24 0) fs5 r5 er5 from hF5).one feeds_noughts
        have S2_2 := Lib.hid (SD.out.call T5.under0)
        refine hK _ _ S2_2.out ?_
        clear hK K
        try simp only [Act.put, List.getElem_toArray, List.getElem_cons_succ, List.getElem_cons_zero, List.setIfInBounds_toArray, List.set_cons_zero, List.set_cons_succ]
        refine hm_run 3 52 (.tuple #[.slice pf5 0 cf5, .int .i64 90]) rfl rfl (by kernel_rfl) (by kernel_rfl) (by kernel_rfl) (fun _ _ _ h => h) rfl (fun _ _ => rfl) S2_2.out ?_
        try simp only [Act.put, List.getElem_toArray, List.getElem_cons_succ, List.getElem_cons_zero, List.setIfInBounds_toArray, List.set_cons_zero, List.set_cons_succ]
        refine hm_run 4 56 _ rfl rfl (by kernel_rfl) (by kernel_rfl) (by kernel_rfl) (fun _ _ _ h => h) rfl (fun _ _ => rfl) S2_2.out ?_
        try simp only [Act.put, List.getElem_toArray, List.getElem_cons_succ, List.getElem_cons_zero, List.setIfInBounds_toArray, List.set_cons_zero, List.set_cons_succ]
        refine hm_run 5 57 (.int .i64 90) rfl rfl (by kernel_rfl) (by kernel_rfl) (by kernel_rfl) (fun _ _ _ h => h) rfl (fun _ _ => rfl) S2_2.out ?_
        try simp only [Act.put, List.getElem_toArray, List.getElem_cons_succ, List.getElem_cons_zero, List.setIfInBounds_toArray, List.set_cons_zero, List.set_cons_succ]
        refine hm_run 6 12 _ rfl rfl (by kernel_rfl) (by kernel_rfl) (by kernel_rfl) (fun _ _ _ h => h) rfl (fun _ _ => rfl) S2_2.out ?_
        try simp only [Act.put, List.getElem_toArray, List.getElem_cons_succ, List.getElem_cons_zero, List.setIfInBounds_toArray, List.set_cons_zero, List.set_cons_succ]
        refine hm_run 7 13 (.int .i64 90) rfl rfl (by kernel_rfl) (by kernel_rfl) (by kernel_rfl) (fun _ _ _ h => h) rfl (fun _ _ => rfl) S2_2.out ?_
        try simp only [Act.put, List.getElem_toArray, List.getElem_cons_succ, List.getElem_cons_zero, List.setIfInBounds_toArray, List.set_cons_zero, List.set_cons_succ]
        refine wpAnyH_done (by kernel_rfl) ?_ _
        go_wp2_with fail
        go_ret
        exact ⟨rfl, BW.out.trans (S2_2.out.below.mono BW.out.size)⟩
      · refine hm_step 1 rfl (by kernel_rfl) fun K hK => ?_
        try simp only [Act.put, List.getElem_toArray, List.getElem_cons_succ, List.getElem_cons_zero, List.setIfInBounds_toArray, List.set_cons_zero, List.set_cons_succ]
        refine mo_mk24 rfl rfl rfl ?_
        intro p6 g6 w6 R2 hb6
        have S1_0 := Lib.hid (S0.out.call hb6.out)
        try replace T2 := Lib.hid (T2.out.call hb6.out)
        clear hb6
        refine hK _ _ S1_0.out ?_
        clear hK K
        try simp only [Act.put, List.getElem_toArray, List.getElem_cons_succ, List.getElem_cons_zero, List.setIfInBounds_toArray, List.set_cons_zero, List.set_cons_succ]
        refine hm_one (i := 0) (by kernel_rfl) ?_
        refine hm_step 0 rfl (by kernel_rfl) fun K hK => ?_
        try simp only [Act.put, List.getElem_toArray, List.getElem_cons_succ, List.getElem_cons_zero, List.setIfInBounds_toArray, List.set_cons_zero, List.set_cons_succ]
        go_simp
        have SD := S1_0
        have KD := Lib.hid (KL.out.below (BW.out.trans (S1_0.out.below.mono BW.out.size)))
        go_at_call 7
        refine (frnew_any _).mono ?_
        rintro e w3 ⟨br2, bu2, rfl, T2⟩
        have S0_1 := Lib.hid (S1_0.out.call T2.under0)
        try replace R2 := Lib.hid (R2.out.below T2.under0)
        have T2 := Lib.hid T2
        refine hK _ _ S0_1.out ?_
        clear hK K
        try simp only [Act.put, List.getElem_toArray, List.getElem_cons_succ, List.getElem_cons_zero, List.setIfInBounds_toArray, List.set_cons_zero, List.set_cons_succ]
        refine hm_one (i := 2) (by kernel_rfl) ?_
        refine hm_step 2 rfl (by kernel_rfl) fun K hK => ?_
        try simp only [Act.put, List.getElem_toArray, List.getElem_cons_succ, List.getElem_cons_zero, List.setIfInBounds_toArray, List.set_cons_zero, List.set_cons_succ]
        go_simp
        go_at_call 9
        refine (feed_any (ys := List.replicate 24 0) T2 R2 (by decide) KD).mono ?_
        intro e w5 hE
        obtain ⟨fs5, r5, er5, pf5, gf5, cf5, V5, hF5, rfl, _, ⟨p5, g5, c5, T5, _, _⟩⟩ := hE
        obtain ⟨rfl, rfl, rfl⟩ := (show Feeds (List.replicate 24 0) fs5 r5 er5 from hF5).one feeds_noughts
        have S2_2 := Lib.hid (SD.out.call T5.under0)
        refine hK _ _ S2_2.out ?_
        clear hK K
        try simp only [Act.put, List.getElem_toArray, List.getElem_cons_succ, List.getElem_cons_zero, List.setIfInBounds_toArray, List.set_cons_zero, List.set_cons_succ]
        refine hm_run 3 52 (.tuple #[.slice pf5 0 cf5, .int .i64 90]) rfl rfl (by kernel_rfl) (by kernel_rfl) (by kernel_rfl) (fun _ _ _ h => h) rfl (fun _ _ => rfl) S2_2.out ?_
        try simp only [Act.put, List.getElem_toArray, List.getElem_cons_succ, List.getElem_cons_zero, List.setIfInBounds_toArray, List.set_cons_zero, List.set_cons_succ]
        refine hm_run 4 56 _ rfl rfl (by kernel_rfl) (by kernel_rfl) (by kernel_rfl) (fun _ _ _ h => h) rfl (fun _ _ => rfl) S2_2.out ?_
        try simp only [Act.put, List.getElem_toArray, List.getElem_cons_succ, List.getElem_cons_zero, List.setIfInBounds_toArray, List.set_cons_zero, List.set_cons_succ]
        refine hm_run 5 57 (.int .i64 90) rfl rfl (by kernel_rfl) (by kernel_rfl) (by kernel_rfl) (fun _ _ _ h => h) rfl (fun _ _ => rfl) S2_2.out ?_
        try simp only [Act.put, List.getElem_toArray, List.getElem_cons_succ, List.getElem_cons_zero, List.setIfInBounds_toArray, List.set_cons_zero, List.set_cons_succ]
        refine hm_run 6 12 _ rfl rfl (by kernel_rfl) (by kernel_rfl) (by kernel_rfl) (fun _ _ _ h => h) rfl (fun _ _ => rfl) S2_2.out ?_
        try simp only [Act.put, List.getElem_toArray, List.getElem_cons_succ, List.getElem_cons_zero, List.setIfInBounds_toArray, List.set_cons_zero, List.set_cons_succ]
        refine hm_run 7 13 (.int .i64 90) rfl rfl (by kernel_rfl) (by kernel_rfl) (by kernel_rfl) (fun _ _ _ h => h) rfl (fun _ _ => rfl) S2_2.out ?_
        try simp only [Act.put, List.getElem_toArray, List.getElem_cons_succ, List.getElem_cons_zero, List.setIfInBounds_toArray, List.set_cons_zero, List.set_cons_succ]
        refine wpAnyH_done (by kernel_rfl) ?_ _
        go_wp2_with fail
        go_ret
        exact ⟨rfl, BW.out.trans (S2_2.out.below.mono BW.out.size)⟩

theorem contract (H : Type) (enc : TypeId × Value → H) (W : World) (base : Nat) (args : Array Value) (ds gs : List (DataW H)) (before : List MemPlace)
    (hval0 : ∀ (j : Nat) t v, Tryd.f5.params[j]? = some t → args[j]? = some v → Value.okWide Tryd.prog W .any base t v)
    (hW : DataW.Whole enc Tryd.prog Tryd.f5.params.toList Rows.frameFaultsSpec.vars false W args.toList ds gs before) (hk : Rows.uptoSmall H (ds ++ gs) = true) (hL : laidMetH Tryd.prog S.frLaid W) :
    Calls Tryd.prog 5 args W fun e W' => ∃ v, e = .returned v ∧ Rows.frameFaultsSpec.post enc Tryd.prog Tryd.f5 false true false false W args v W' := by
  have hval : ∀ (j : Nat) t v, Tryd.f5.params[j]? = some t → args[j]? = some v → Value.okWide Tryd.prog W .any base t v := hval0
  have hW' := hW
  obtain ⟨p, q, hA0, hV, rfl, hfz, hnd⟩ := hW
  have hA : DataW.TrodAll enc Tryd.prog W 0 (fun _ => true) true Tryd.f5.params.toList args.toList ds p := hA0
  rw [Tryd.params5] at hA hval
  obtain ⟨v0, vs0, d0, ds0, p0, q0, hargs, rfl, rfl, h0, r0⟩ := trodAll_cons hA
  obtain ⟨v1, vs1, d1, ds1, p1, q1, rfl, rfl, rfl, h1, r1⟩ := trodAll_cons r0
  obtain ⟨rfl, rfl, rfl⟩ := trodAll_nil r1
  obtain rfl : args = #[v0, v1] := by cases args; simp_all
  obtain ⟨rfl, rfl⟩ := trodVars_none hV
  have hb : Rows.uptoBulkAll ([d0, d1] ++ []) ≤ 1048576 := by simpa [Rows.uptoSmall] using hk
  have hb0 : Rows.uptoBulk d0 ≤ 1048576 := Nat.le_trans (bulk_part (by simp)) hb
  have k0 := h0
  have lt0 : ∀ x ∈ p0, x.block < W.heap.size := by obtain ⟨m, hm⟩ := k0; exact DataW.trod_lt m _ _ _ hm
  obtain ⟨t0, w0, m0⟩ := open_text_arg6 (hval 0 26 v0 rfl rfl) h0 hb0
  have hb1 : Rows.uptoBulk d1 ≤ 1048576 := Nat.le_trans (bulk_part (by simp)) hb
  have k1 := h1
  have lt1 : ∀ x ∈ p1, x.block < W.heap.size := by obtain ⟨m, hm⟩ := k1; exact DataW.trod_lt m _ _ _ hm
  obtain ⟨t1, w1, m1⟩ := open_texts_arg6 (hval 1 22 v1 rfl rfl) h1 hb1
  clear hA0 hval0
  simp only [List.append_nil] at hW'
  refine (walk W hL v0 t0 w0 m0 v1 t1 w1 m1).mono fun e W' ⟨he, bel⟩ => ?_
  subst he
  exact ⟨_, rfl, _, _, _, [], _, [], hW', trodAll_mk1 (shut_bool Tryd.underlying4 _), (trodAll_cons_mk (Below.trod laidOut (by kernel_rfl) (of_decide_eq_true (by kernel_rfl)) k0 bel lt0) (trodAll_cons_mk (Below.trod laidOut (by kernel_rfl) (of_decide_eq_true (by kernel_rfl)) k1 bel lt1) trodAll_mk0)), rfl, bel.frame _, fun h => by cases h⟩

theorem witness_row_sh {H : Type} {enc : TypeId × Value → H} {C : Checked} {os : Os} {f : FuncId} {fn : Func} {s : OpenSpec} {conds : List PathCond} {apart : Bool} {laid : List (String × DataW Unit)} (modest : Bool) (w0 : World) (args : Array Value) (hos : w0.os = os)
    (hsh : (w0.forCall (fun _ _ => 0) ⟨#[], args, []⟩).Shaped C.prog) (hok : Input.okWideB C.prog (w0.forCall (fun _ _ => 0) ⟨#[], args, []⟩) f ⟨#[], args, []⟩ = true)
    (hrow : s.preRow enc C.prog fn conds apart laid (w0.forCall (fun _ _ => 0) ⟨#[], args, []⟩).memory args) :
    ∃ (w : World) (tape : Tape) (i : Input), w.os = os ∧ (w.forCall tape i).Shaped C.prog ∧ i.vars = [] ∧ Input.okWide C.prog (w.forCall tape i) .any w.heap.size f i ∧
      s.preRow enc C.prog fn conds apart laid (w.forCall tape i).memory i.args ∧ ({ modest := modest } : Assume).holds C.prog (lone (Frame.enter C.prog f i.args .normal) [] (w.forCall tape i)) :=
  ⟨w0, fun _ _ => 0, ⟨#[], args, []⟩, hos, hsh, (Input.okWide_of_okWideB (base := 0) hok).1, (Input.okWide_of_okWideB hok).2, hrow, by
    simp only [Assume.holds]
    exact ⟨by simp, by simp, fun _ => Modest.zero, by simp, by simp⟩⟩

theorem reads (os : Os) {H : Type} (enc : TypeId × Value → H) : ∃ places, DataW.whole enc Tryd.prog ((World.laidAll Tryd.prog os S.frLaid).forCall (fun _ _ => 0) ⟨#[], #[.slice none 0 0, .slice none 0 0], []⟩).memory Tryd.f5.params.toList Rows.frameFaultsSpec.vars false #[.slice none 0 0, .slice none 0 0].toList 8 = some ([.nil, .nil], [], places) :=
  ⟨[], by kernel_rfl⟩

set_option maxRecDepth 100000 in
theorem lifted (os : Os) (started : os.Started) (H : Type) (enc : TypeId × Value → H) (F : Stop.Interp) :
    ReturnsInHanded {} Tryd.checked os 5 .any ((Rows.OpenSpec.upto Rows.frameFaultsSpec).preRow enc Tryd.prog Tryd.f5 Rows.frameFaultsUptoRow.domain false Rows.frameFaultsUptoRow.laid) (((Rows.OpenSpec.upto Rows.frameFaultsSpec).at F).post enc Tryd.prog Tryd.f5 false true false false) := by
  obtain ⟨places, hx⟩ := reads os enc
  refine returnsInHanded_of_row (C := Tryd.checked) (s := Rows.OpenSpec.upto Rows.frameFaultsSpec) own started (by kernel_rfl) Tryd.func5
    (witness_row_sh (enc := enc) (C := Tryd.checked) false (World.laidAll Tryd.prog os S.frLaid) #[.slice none 0 0, .slice none 0 0] (World.laidAll_os _ _ _) (World.shaped_of_ZipB (by kernel_rfl) (by kernel_rfl)) (by kernel_rfl)
      (OpenSpec.preRow_of_cond 8 hx (by kernel_rfl) (fun k hk => by cases hk; kernel_rfl) (by kernel_rfl) (by rw [MakeChecks.laidMetH_plain _ _ _ (by kernel_rfl)]; exact laidMet_laidAll _ (by kernel_rfl) (by kernel_rfl)))) ?_
  intro W base args ds gs before hval hW _ hcond _ hL _ _
  exact contract H enc W base args ds gs before hval hW (hcond _ rfl) hL

theorem over : Rows.FrameFaultsUptoSaid :=
  OpenClaim.holds_of_cond 5 Tryd.f5 rfl rfl rfl rfl rfl rfl rfl ⟨rfl, rfl, rfl, rfl, rfl⟩ rfl rfl rfl rfl rfl (by kernel_rfl) Tryd.func5 (by kernel_rfl)
    (of_decide_eq_true (by kernel_rfl)) (by unfold Func.isWrapper; first | (rw [if_pos (by decide +kernel)]; kernel_rfl) | (rw [if_neg (by decide +kernel)]; exact ⟨rfl, rfl⟩))
    (fun os started H enc _ F => by rw [OpenClaim.pre_eq_preRow]; exact lifted os started H enc F)

/-- The tied card. -/
theorem card_holds : Rows.FrameFaultsUptoCardSaid :=
  Claim7.holds_tied_plain_at .later [] [.data, .data, .data, .pinned] true (true, "f1b211d4871ea25ac7ccf62d4e8af954ae9a36901d175eac343dbf70e8321f11") false
    over (fun _ h => by cases h) (by kernel_rfl) (fun _ h => by cases h) frameFaultsUpto_row_tie rfl ⟨rfl, rfl⟩ (by kernel_rfl) rfl
    (fun f fn hf hfn => by
      obtain rfl : f = 5 := Option.some.inj ((show Tryd.prog.funcNamed "sporran/sporranlaw09.FrameFaults" = some 5 by kernel_rfl).symm.trans hf) |>.symm
      obtain rfl : fn = Tryd.f5 := (Option.some.inj (Tryd.func5.symm.trans hfn)).symm
      exact ⟨by kernel_rfl, fun j t ht => by
        rw [Tryd.params5] at ht
        have hm : t ∈ [26, 22] := by simpa using Array.mem_of_getElem? ht
        have hall : ([26, 22].all fun u => !Tryd.prog.wantsStandIn u) = true := by kernel_rfl
        exact (show Tryd.prog.wantsStandIn t = false by simpa using List.all_eq_true.1 hall t hm)⟩)
    (by kernel_rfl)
#print axioms card_holds
end Go.Proofs.YthfnejcnpbnonaaDoor.frameFaults
