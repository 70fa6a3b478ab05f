/- A text read, the program's and the document's: the walks. -/
import Derived.Test.YthnddiimkgahgaaSk
import Derived.Test.YthnddiimkgahgaaMo
set_option linter.unusedSimpArgs false
set_option linter.unusedVariables false
namespace Go.Proofs.Ythnddiimkgahgaa
open Go.RowKit Go.Lib Go.Sort

/-- The answer where there is no text. -/
abbrev noText (k : Nat) : Value := .tuple #[.slice none 0 0, .slice none 0 0, .int .i64 ((k : Nat) : Int)]
def ReadBad (w : World) (k : Nat) (e : Ending) (w' : World) : Prop := e = .returned (noText k) ∧ Below w.heap.size w w'
/-- A count that was read, and what stands behind it. -/
def Took (w : World) (v m : Nat) (y : Nat → Nat) (e : Ending) (w' : World) : Prop :=
  ∃ p g o c, e = .returned (.tuple #[.int .u64 ((v : Nat) : Int), .slice p m c, .int .i64 0]) ∧ Row w' p g o m c y ∧ Below w.heap.size w w'
def ReadGood (w : World) (v m : Nat) (y : Nat → Nat) (e : Ending) (w' : World) : Prop :=
  ∃ p g o c q h u d, e = .returned (.tuple #[.slice p v c, .slice q (m - v) d, .int .i64 0]) ∧ Row w' p g o v c y ∧ Row w' q h u (m - v) d (fun i => y (v + i)) ∧ Below w.heap.size w w'
theorem exec_slice {P : Program} {o : Oper} {ev : Operand → Value} {T : TypeId} {x : Operand} {lo hi mx : Option Operand} (ho : o.op = .slice T x lo hi mx) {v : Value} {W : World} (h : (Instr.sliceAt T (ev x) (lo.map ev) (hi.map ev) (mx.map ev)).run P W = .ok v W) : (execOp ev o).run P W = .ok (.value v) W := by
  unfold execOp
  simp only [ho, Sem.run_bind, h, Result.andThen_ok]
  rfl
theorem run_hm64 {p : Option Addr} {n c h m : Nat} (h2 : h ≤ m) (h3 : m ≤ c) (w : World) : (Instr.sliceAt 23 (.slice p n c) none (some (.int .u64 ((h : Nat) : Int))) (some (.int .u64 ((m : Nat) : Int)))).run Try.prog w = .ok (sliced p 0 h m 1) w := run_sl (by simp [Instr.sliceBounds, run_sliceBound, h2, h3])
theorem run_l64 {p : Option Addr} {n c l : Nat} (h1 : l ≤ n) (w : World) : (Instr.sliceAt 23 (.slice p n c) (some (.int .u64 ((l : Nat) : Int))) none none).run Try.prog w = .ok (sliced p l n c 1) w := run_sl (by simp [Instr.sliceBounds, run_sliceBound, h1])
set_option maxRecDepth 100000 in
set_option maxHeartbeats 2000000 in
theorem read_bad_walk {w : World} {a : Value} {most : Int} {k : Nat} (S : Hid (Calls Try.prog 24 #[a] w (DecBad w k))) (t0 : ((k : Int) != 0) = true) : Calls Try.prog 17 #[a, .int .i64 most] w (ReadBad w k) := by
  go_enter Try.func17, Try.ntmps17
  go_wp2_with (go_at_call 24; refine S.out.mono ?_; rintro e w1 ⟨rfl, hb⟩; have B := Lib.hid hb; clear hb)
  exact bodyPost_ret (res3 (fn := Try.f17) rfl _ _) rfl ⟨rfl, B.out⟩
set_option maxRecDepth 100000 in
set_option maxHeartbeats 2000000 in
theorem read_full_walk {w : World} {a : Value} {most : Int} {v m lim : Nat} {y : Nat → Nat} (S : Hid (Calls Try.prog 24 #[a] w (Took w v m y))) (hl : (if most < 0 then 0 else most) = ((lim : Nat) : Int)) (hl2 : ((lim : Nat) : Int) ≤ 9223372036854775807) (hm : ((m : Nat) : Int) ≤ 140737488355328) (t : lim < v) : Calls Try.prog 17 #[a, .int .i64 most] w (ReadBad w 4) := by
  go_enter Try.func17, Try.ntmps17
  go_wp2_with (go_at_call 24; refine S.out.mono ?_; rintro e w1 ⟨p1, g1, o1, c1, rfl, R1, hb⟩; have RP := Lib.hid R1; have B := Lib.hid hb; clear hb R1)
  exact bodyPost_ret (res3 (fn := Try.f17) rfl _ _) rfl ⟨rfl, B.out⟩
set_option maxRecDepth 100000 in
set_option maxHeartbeats 2000000 in
theorem read_short_walk {w : World} {a : Value} {most : Int} {v m lim : Nat} {y : Nat → Nat} (S : Hid (Calls Try.prog 24 #[a] w (Took w v m y))) (hl : (if most < 0 then 0 else most) = ((lim : Nat) : Int)) (hl2 : ((lim : Nat) : Int) ≤ 9223372036854775807) (hm : ((m : Nat) : Int) ≤ 140737488355328) (t : ¬ lim < v) (t2 : m < v) : Calls Try.prog 17 #[a, .int .i64 most] w (ReadBad w 50) := by
  go_enter Try.func17, Try.ntmps17
  go_wp2_with (go_at_call 24; refine S.out.mono ?_; rintro e w1 ⟨p1, g1, o1, c1, rfl, R1, hb⟩; have RP := Lib.hid R1; have B := Lib.hid hb; clear hb R1)
  exact bodyPost_ret (res3 (fn := Try.f17) rfl _ _) rfl ⟨rfl, B.out⟩
set_option maxRecDepth 100000 in
set_option maxHeartbeats 2000000 in
theorem read_ok_walk {w : World} {a : Value} {most : Int} {v m lim : Nat} {y : Nat → Nat} (S : Hid (Calls Try.prog 24 #[a] w (Took w v m y))) (hl : (if most < 0 then 0 else most) = ((lim : Nat) : Int)) (hl2 : ((lim : Nat) : Int) ≤ 9223372036854775807) (hm : ((m : Nat) : Int) ≤ 140737488355328) (t : ¬ lim < v) (t2 : ¬ m < v) : Calls Try.prog 17 #[a, .int .i64 most] w (ReadGood w v m y) := by
  have hvm : v ≤ m := by omega
  go_enter Try.func17, Try.ntmps17
  go_upto_region 8 with (go_at_call 24; refine S.out.mono ?_; rintro e w1 ⟨p1, g1, o1, c1, rfl, R1, hb⟩; have RP := Lib.hid R1; have B := Lib.hid hb; clear hb R1)
  have E := Lib.hid (Mem.nil w1)
  obtain ⟨p2, e2, R2⟩ := RP.out.slice (l := 0) (h := v) (m := v) (by omega) hvm (Nat.le_refl _) (Nat.le_trans hvm RP.out.le)
  obtain ⟨p3, e3, R3⟩ := RP.out.slice (l := v) (h := m) (m := c1) hvm (Nat.le_refl _) RP.out.le (Nat.le_refl _)
  have S2 : Hid (∀ W, (Instr.sliceAt 23 (.slice p1 m c1) none (some (.int .u64 ((v : Nat) : Int))) (some (.int .u64 ((v : Nat) : Int)))).run Try.prog W = .ok (.slice p2 v v) W) := Lib.hid fun W => by
    have := run_hm64 (p := p1) (n := m) (Nat.le_refl v) (Nat.le_trans hvm RP.out.le) W
    rw [e2] at this
    exact this
  have S3 : Hid (∀ W, (Instr.sliceAt 23 (.slice p1 m c1) (some (.int .u64 ((v : Nat) : Int))) none none).run Try.prog W = .ok (.slice p3 (m - v) (c1 - v)) W) := Lib.hid fun W => by
    have := run_l64 (p := p1) (n := m) (c := c1) hvm W
    rw [e3] at this
    exact this
  have RA := Lib.hid (show Row w1 p2 g1 o1 v v y by simpa using R2.to (y := y) (fun i _ => by rw [Nat.zero_add]) RP.out.byte)
  have RB := Lib.hid R3
  clear e2 R2 e3 R3
  refine wp_region_mem E (by kernel_rfl) ?_
  intro w0 E0
  refine hm_pure 0 29 (.slice p1 m c1) rfl rfl (by kernel_rfl) (by kernel_rfl) (by kernel_rfl) (fun _ _ _ h => h) rfl (fun _ => rfl) E0.out ?_
  try simp only [Act.put, List.setIfInBounds_toArray, List.set_cons_zero, List.set_cons_succ]
  refine hm_pure 1 30 (.int .u64 ((v : Nat) : Int)) rfl rfl (by kernel_rfl) (by kernel_rfl) (by kernel_rfl) (fun _ _ _ h => h) rfl (fun _ => rfl) E0.out ?_
  try simp only [Act.put, List.setIfInBounds_toArray, List.set_cons_zero, List.set_cons_succ]
  refine hm_pure 2 31 (.int .u64 ((v : Nat) : Int)) rfl rfl (by kernel_rfl) (by kernel_rfl) (by kernel_rfl) (fun _ _ _ h => h) rfl (fun _ => rfl) E0.out ?_
  try simp only [Act.put, List.setIfInBounds_toArray, List.set_cons_zero, List.set_cons_succ]
  refine hm_pure 3 32 (.slice p2 v v) rfl rfl (by kernel_rfl) (by kernel_rfl) (by kernel_rfl) (fun _ _ _ h => h) rfl (fun W => exec_slice rfl (S2.out W)) E0.out ?_
  try simp only [Act.put, List.setIfInBounds_toArray, List.set_cons_zero, List.set_cons_succ]
  refine hm_pure 5 34 (.slice p1 m c1) rfl rfl (by kernel_rfl) (by kernel_rfl) (by kernel_rfl) (fun _ _ _ h => h) rfl (fun _ => rfl) E0.out ?_
  try simp only [Act.put, List.setIfInBounds_toArray, List.set_cons_zero, List.set_cons_succ]
  refine hm_pure 6 35 (.int .u64 ((v : Nat) : Int)) rfl rfl (by kernel_rfl) (by kernel_rfl) (by kernel_rfl) (fun _ _ _ h => h) rfl (fun _ => rfl) E0.out ?_
  try simp only [Act.put, List.setIfInBounds_toArray, List.set_cons_zero, List.set_cons_succ]
  refine hm_pure 7 36 (.slice p3 (m - v) (c1 - v)) rfl rfl (by kernel_rfl) (by kernel_rfl) (by kernel_rfl) (fun _ _ _ h => h) rfl (fun W => exec_slice rfl (S3.out W)) E0.out ?_
  try simp only [Act.put, List.setIfInBounds_toArray, List.set_cons_zero, List.set_cons_succ]
  refine hm_one (i := 4) (by kernel_rfl) ?_
  refine hm_step 4 rfl (by kernel_rfl) fun K hK => ?_
  go_simp
  go_at_call 11
  refine (clone_any (Lib.hid (RA.out.below E0.out.below)) (by omega)).mono ?_
  rintro e wn ⟨pA, gA, cA, rfl, N1, hb⟩
  have NA := Lib.hid N1
  have E7_4 := Lib.hid (E0.out.call hb)
  clear hb N1
  refine hK _ _ E7_4.out ?_
  clear hK K
  try simp only [Act.put, List.setIfInBounds_toArray, List.set_cons_zero, List.set_cons_succ]
  refine hm_one (i := 8) (by kernel_rfl) ?_
  refine hm_step 8 rfl (by kernel_rfl) fun K hK => ?_
  go_simp
  go_at_call 11
  refine (clone_any (Lib.hid (RB.out.below E7_4.out.below)) (by omega)).mono ?_
  rintro e wm ⟨pB, gB, cB, rfl, N1, hb⟩
  have NB := Lib.hid N1
  replace NA := Lib.hid (NA.out.below hb)
  have E8_8 := Lib.hid (E7_4.out.call hb)
  clear hb N1
  refine hK _ _ E8_8.out ?_
  clear hK K
  try simp only [Act.put, List.setIfInBounds_toArray, List.set_cons_zero, List.set_cons_succ]
  refine hm_pure 9 4 _ rfl rfl (by kernel_rfl) (by kernel_rfl) (by kernel_rfl) (fun _ _ _ h => h) rfl (fun _ => rfl) E8_8.out ?_
  try simp only [Act.put, List.setIfInBounds_toArray, List.set_cons_zero, List.set_cons_succ]
  refine hm_pure 10 5 _ rfl rfl (by kernel_rfl) (by kernel_rfl) (by kernel_rfl) (fun _ _ _ h => h) rfl (fun _ => rfl) E8_8.out ?_
  try simp only [Act.put, List.setIfInBounds_toArray, List.set_cons_zero, List.set_cons_succ]
  refine hm_pure 11 6 _ rfl rfl (by kernel_rfl) (by kernel_rfl) (by kernel_rfl) (fun _ _ _ h => h) rfl (fun _ => rfl) E8_8.out ?_
  try simp only [Act.put, List.setIfInBounds_toArray, List.set_cons_zero, List.set_cons_succ]
  refine wpAnyH_done (by kernel_rfl) ?_ _
  go_wp2_with fail
  exact bodyPost_ret (res3 (fn := Try.f17) rfl _ _) rfl ⟨pA, gA, 0, cA, pB, gB, 0, cB, rfl, NA.out.row, NB.out.row, B.out.trans (E8_8.out.below.mono B.out.size)⟩
set_option maxRecDepth 100000 in
set_option maxHeartbeats 2000000 in
theorem rread_bad_walk {w : World} {a : Value} {most : Int} {k : Nat} (S : Hid (Calls Try.prog 13 #[a] w (DecBad w k))) (t0 : ((k : Int) != 0) = true) : Calls Try.prog 18 #[a, .int .i64 most] w (ReadBad w k) := by
  go_enter Try.func18, Try.ntmps18
  go_wp2_with (go_at_call 13; refine S.out.mono ?_; rintro e w1 ⟨rfl, hb⟩; have B := Lib.hid hb; clear hb)
  exact bodyPost_ret (res3 (fn := Try.f18) rfl _ _) rfl ⟨rfl, B.out⟩
set_option maxRecDepth 100000 in
set_option maxHeartbeats 2000000 in
theorem rread_full_walk {w : World} {a : Value} {most : Int} {v m lim : Nat} {y : Nat → Nat} (S : Hid (Calls Try.prog 13 #[a] w (Took w v m y))) (hl : (if most < 0 then 0 else most) = ((lim : Nat) : Int)) (hl2 : ((lim : Nat) : Int) ≤ 9223372036854775807) (hm : ((m : Nat) : Int) ≤ 140737488355328) (t : lim < v) : Calls Try.prog 18 #[a, .int .i64 most] w (ReadBad w 4) := by
  go_enter Try.func18, Try.ntmps18
  go_wp2_with (go_at_call 13; refine S.out.mono ?_; rintro e w1 ⟨p1, g1, o1, c1, rfl, R1, hb⟩; have RP := Lib.hid R1; have B := Lib.hid hb; clear hb R1)
  exact bodyPost_ret (res3 (fn := Try.f18) rfl _ _) rfl ⟨rfl, B.out⟩
set_option maxRecDepth 100000 in
set_option maxHeartbeats 2000000 in
theorem rread_short_walk {w : World} {a : Value} {most : Int} {v m lim : Nat} {y : Nat → Nat} (S : Hid (Calls Try.prog 13 #[a] w (Took w v m y))) (hl : (if most < 0 then 0 else most) = ((lim : Nat) : Int)) (hl2 : ((lim : Nat) : Int) ≤ 9223372036854775807) (hm : ((m : Nat) : Int) ≤ 140737488355328) (t : ¬ lim < v) (t2 : m < v) : Calls Try.prog 18 #[a, .int .i64 most] w (ReadBad w 50) := by
  go_enter Try.func18, Try.ntmps18
  go_wp2_with (go_at_call 13; refine S.out.mono ?_; rintro e w1 ⟨p1, g1, o1, c1, rfl, R1, hb⟩; have RP := Lib.hid R1; have B := Lib.hid hb; clear hb R1)
  exact bodyPost_ret (res3 (fn := Try.f18) rfl _ _) rfl ⟨rfl, B.out⟩
set_option maxRecDepth 100000 in
set_option maxHeartbeats 2000000 in
theorem rread_ok_walk {w : World} {a : Value} {most : Int} {v m lim : Nat} {y : Nat → Nat} (S : Hid (Calls Try.prog 13 #[a] w (Took w v m y))) (hl : (if most < 0 then 0 else most) = ((lim : Nat) : Int)) (hl2 : ((lim : Nat) : Int) ≤ 9223372036854775807) (hm : ((m : Nat) : Int) ≤ 140737488355328) (t : ¬ lim < v) (t2 : ¬ m < v) : Calls Try.prog 18 #[a, .int .i64 most] w (ReadGood w v m y) := by
  have hvm : v ≤ m := by omega
  go_enter Try.func18, Try.ntmps18
  go_upto_region 8 with (go_at_call 13; refine S.out.mono ?_; rintro e w1 ⟨p1, g1, o1, c1, rfl, R1, hb⟩; have RP := Lib.hid R1; have B := Lib.hid hb; clear hb R1)
  have E := Lib.hid (Mem.nil w1)
  obtain ⟨p2, e2, R2⟩ := RP.out.slice (l := 0) (h := v) (m := v) (by omega) hvm (Nat.le_refl _) (Nat.le_trans hvm RP.out.le)
  obtain ⟨p3, e3, R3⟩ := RP.out.slice (l := v) (h := m) (m := c1) hvm (Nat.le_refl _) RP.out.le (Nat.le_refl _)
  have S2 : Hid (∀ W, (Instr.sliceAt 23 (.slice p1 m c1) none (some (.int .u64 ((v : Nat) : Int))) (some (.int .u64 ((v : Nat) : Int)))).run Try.prog W = .ok (.slice p2 v v) W) := Lib.hid fun W => by
    have := run_hm64 (p := p1) (n := m) (Nat.le_refl v) (Nat.le_trans hvm RP.out.le) W
    rw [e2] at this
    exact this
  have S3 : Hid (∀ W, (Instr.sliceAt 23 (.slice p1 m c1) (some (.int .u64 ((v : Nat) : Int))) none none).run Try.prog W = .ok (.slice p3 (m - v) (c1 - v)) W) := Lib.hid fun W => by
    have := run_l64 (p := p1) (n := m) (c := c1) hvm W
    rw [e3] at this
    exact this
  have RA := Lib.hid (show Row w1 p2 g1 o1 v v y by simpa using R2.to (y := y) (fun i _ => by rw [Nat.zero_add]) RP.out.byte)
  have RB := Lib.hid R3
  clear e2 R2 e3 R3
  refine wp_region_mem E (by kernel_rfl) ?_
  intro w0 E0
  refine hm_pure 0 29 (.slice p1 m c1) rfl rfl (by kernel_rfl) (by kernel_rfl) (by kernel_rfl) (fun _ _ _ h => h) rfl (fun _ => rfl) E0.out ?_
  try simp only [Act.put, List.setIfInBounds_toArray, List.set_cons_zero, List.set_cons_succ]
  refine hm_pure 1 30 (.int .u64 ((v : Nat) : Int)) rfl rfl (by kernel_rfl) (by kernel_rfl) (by kernel_rfl) (fun _ _ _ h => h) rfl (fun _ => rfl) E0.out ?_
  try simp only [Act.put, List.setIfInBounds_toArray, List.set_cons_zero, List.set_cons_succ]
  refine hm_pure 2 31 (.int .u64 ((v : Nat) : Int)) rfl rfl (by kernel_rfl) (by kernel_rfl) (by kernel_rfl) (fun _ _ _ h => h) rfl (fun _ => rfl) E0.out ?_
  try simp only [Act.put, List.setIfInBounds_toArray, List.set_cons_zero, List.set_cons_succ]
  refine hm_pure 3 32 (.slice p2 v v) rfl rfl (by kernel_rfl) (by kernel_rfl) (by kernel_rfl) (fun _ _ _ h => h) rfl (fun W => exec_slice rfl (S2.out W)) E0.out ?_
  try simp only [Act.put, List.setIfInBounds_toArray, List.set_cons_zero, List.set_cons_succ]
  refine hm_pure 5 34 (.slice p1 m c1) rfl rfl (by kernel_rfl) (by kernel_rfl) (by kernel_rfl) (fun _ _ _ h => h) rfl (fun _ => rfl) E0.out ?_
  try simp only [Act.put, List.setIfInBounds_toArray, List.set_cons_zero, List.set_cons_succ]
  refine hm_pure 6 35 (.int .u64 ((v : Nat) : Int)) rfl rfl (by kernel_rfl) (by kernel_rfl) (by kernel_rfl) (fun _ _ _ h => h) rfl (fun _ => rfl) E0.out ?_
  try simp only [Act.put, List.setIfInBounds_toArray, List.set_cons_zero, List.set_cons_succ]
  refine hm_pure 7 36 (.slice p3 (m - v) (c1 - v)) rfl rfl (by kernel_rfl) (by kernel_rfl) (by kernel_rfl) (fun _ _ _ h => h) rfl (fun W => exec_slice rfl (S3.out W)) E0.out ?_
  try simp only [Act.put, List.setIfInBounds_toArray, List.set_cons_zero, List.set_cons_succ]
  refine hm_one (i := 4) (by kernel_rfl) ?_
  refine hm_step 4 rfl (by kernel_rfl) fun K hK => ?_
  try simp only [Act.put, List.getElem_toArray, List.getElem_cons_succ, List.getElem_cons_zero, List.setIfInBounds_toArray, List.set_cons_zero, List.set_cons_succ]
  refine mo_known (.slice (some ⟨w0.heap.size, 0, none⟩) 0 0) (w0.alloc (.cells #[] 5)) (by first | rfl | kernel_rfl) ?_
  have E7_4 := Lib.hid (E0.out.new 5 #[]).tail
  have NA := Lib.hid (own_start w0 (fun i => y (v + i)) RB.out.byte)
  refine hK _ _ E7_4.out ?_
  clear hK K
  try simp only [Act.put, List.setIfInBounds_toArray, List.set_cons_zero, List.set_cons_succ]
  refine hm_one (i := 8) (by kernel_rfl) ?_
  refine hm_step 8 rfl (by kernel_rfl) fun K hK => ?_
  try simp only [Act.put, List.getElem_toArray, List.getElem_cons_succ, List.getElem_cons_zero, List.setIfInBounds_toArray, List.set_cons_zero, List.set_cons_succ]
  refine mo_app (.tmp 33) (.tmp 36) rfl rfl NA rfl (Lib.hid (RB.out.below E7_4.out.below)) (by omega) ?_
  intro p4 g4 c4 w4 N4 hb
  have B4 := Lib.hid (((below_new w0 (.cells #[] 5)).mono E0.out.below.size).trans (hb.out.mono E0.out.below.size))
  have E8_8 := Lib.hid (Mem.mk (l := []) (E0.out.below.trans B4.out) (fun _ h => by cases h) List.nodup_nil (fun _ h => by cases h))
  simp only [Nat.zero_add] at N4 ⊢
  refine hK _ _ E8_8.out ?_
  clear hK K
  try simp only [Act.put, List.setIfInBounds_toArray, List.set_cons_zero, List.set_cons_succ]
  refine hm_pure 9 4 _ rfl rfl (by kernel_rfl) (by kernel_rfl) (by kernel_rfl) (fun _ _ _ h => h) rfl (fun _ => rfl) E8_8.out ?_
  try simp only [Act.put, List.setIfInBounds_toArray, List.set_cons_zero, List.set_cons_succ]
  refine hm_pure 10 5 _ rfl rfl (by kernel_rfl) (by kernel_rfl) (by kernel_rfl) (fun _ _ _ h => h) rfl (fun _ => rfl) E8_8.out ?_
  try simp only [Act.put, List.setIfInBounds_toArray, List.set_cons_zero, List.set_cons_succ]
  refine hm_pure 11 6 _ rfl rfl (by kernel_rfl) (by kernel_rfl) (by kernel_rfl) (fun _ _ _ h => h) rfl (fun _ => rfl) E8_8.out ?_
  try simp only [Act.put, List.setIfInBounds_toArray, List.set_cons_zero, List.set_cons_succ]
  refine wpAnyH_done (by kernel_rfl) ?_ _
  go_wp2_with fail
  exact bodyPost_ret (res3 (fn := Try.f18) rfl _ _) rfl ⟨p2, g1, o1, v, p4, g4, 0, c4, rfl, RA.out.below E8_8.out.below, (N4.out.to (fun i _ => cat_zero _ _ i) RB.out.byte).row, B.out.trans (E8_8.out.below.mono B.out.size)⟩
end Go.Proofs.Ythnddiimkgahgaa
