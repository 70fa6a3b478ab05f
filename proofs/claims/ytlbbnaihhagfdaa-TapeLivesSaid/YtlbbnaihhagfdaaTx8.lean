/- Crash and Copy of a tape; a new one. -/
import Derived.Test.YtlbbnaihhagfdaaTw8
set_option linter.unusedSimpArgs false
set_option linter.unusedVariables false
set_option maxRecDepth 100000
namespace Go.Proofs.Ytlbbnaihhagfdaa
open Go.RowKit Go.Lib Go.Sort

set_option maxHeartbeats 8000000
/-- A call that makes a tape. -/
def Makes (s r : Int) (f : Bool) (k : Int) (xs : List Nat) (w : World) (v : Value) (w' : World) : Prop := ∃ bt bs p g c, v = .pointer (some ⟨bt, 0, none⟩) ∧ Tp w bt bs s r f k p g c xs w' ∧ Below w.heap.size w w'
theorem infoST : (Try.prog.info? 59).map (fun i => (i.zero, i.size)) = some (some (.agg #[.slice none 0 0, .int .i64 0, .int .i64 0, .bool false, .int .i64 0]), 5) := by kernel_rfl
theorem built_st (p : Option Addr) (m c : Nat) (a b : Int) : Try.prog.built 59 (#[(0, .slice p m c), (1, .int .i64 a), (2, .int .i64 b)] : Array (Nat × Value)).toList = some #[.slice p m c, .int .i64 a, .int .i64 b, .bool false, .int .i64 0] := by kernel_rfl
theorem st_one {p : Option Addr} {m c : Nat} {a b k : Int} {f : Bool} : (#[.slice p m c, .int .i64 a, .int .i64 b, .bool f, .int .i64 k] : Array Value).all (·.oneCell') = true := by simp [Value.oneCell']
theorem built_tp (x : Option Addr) : Try.prog.built 53 (#[(0, .pointer x)] : Array (Nat × Value)).toList = some #[.pointer x] := by kernel_rfl
section
variable {D w : World} {bt bs : Nat} {v : Value} {r k : Int} {f : Bool} {p : Option Addr} {g c : Nat} {xs : List Nat} {q : Option Addr} {h o m d : Nat} {y : Nat → Nat}
theorem crash_any {s : Nat} (T : Hid (Tp D bt bs s r f k p g c xs w)) (hs : s ≤ xs.length) (hx : xs.length ≤ 140737488355328) (n : Int) (kk : Nat) (hkk : (kk : Int) = s + min (max n 0) (xs.length - s)) : Calls Try.prog 19 #[.pointer (some ⟨bt, 0, none⟩), .int .i64 n] w fun e w' => e = .returned (.int .i64 0) ∧ Turns D bt bs kk r false 0 p (xs.take kk) w w' := by
  obtain ⟨mx, hmx⟩ : ∃ mx, max n 0 = mx := ⟨_, rfl⟩
  obtain ⟨lo, hlo⟩ : ∃ lo : Int, IntKind.i64.wrap (((xs.length : Nat) : Int) - ((s : Nat) : Int)) = lo := ⟨_, rfl⟩
  have hl2 : lo = (xs.length : Int) - s := by rw [← hlo, IntWalk.i64_in _ (by omega)]
  obtain ⟨mn, hmn⟩ : ∃ mn, min mx lo = mn := ⟨_, rfl⟩
  have e1 : IntKind.i64.wrap (((s : Nat) : Int) + mn) = ((kk : Nat) : Int) := by rw [IntWalk.i64_in _ (by omega)]; omega
  have HMX := Lib.hid hmx
  have HLO := Lib.hid hlo
  have HMN := Lib.hid hmn
  have HE := Lib.hid e1
  have HKK := Lib.hid (show kk ≤ xs.length by omega)
  have HX := Lib.hid hx
  clear hmx hlo hl2 hmn e1 hkk hs hx
  go_enter Try.func19, Try.ntmps19
  go_upto_region 3 with (go_at_call 27; refine (made_any T).mono ?_; rintro e w2 ⟨rfl, rfl⟩)
  refine wp_region_T (Φ := fun X => Tp D bt bs s r f k p g c xs X ∧ Fr bs (ob p) w X) (S := fun X => Tp D bt bs s r f k p g c xs X) (Lib.hid ⟨T.out, Fr.refl _ _ _⟩) (fun _ h => ⟨h.1.drew, h.2.drew⟩) (fun _ h => h.1) (by kernel_rfl) ?_
  intro w5 TT S0
  refine hm_run 0 9 (.pointer (some ⟨bt, 0, none⟩)) rfl rfl (by kernel_rfl) (by kernel_rfl) (by kernel_rfl) (fun _ _ _ h => h) rfl (fun _ _ => rfl) S0.out ?_
  try simp only [Act.put, List.getElem_toArray, List.getElem_cons_succ, List.getElem_cons_zero, List.setIfInBounds_toArray, List.set_cons_zero, List.set_cons_succ]
  refine hm_run 1 10 (.pointer (some ⟨bt, 0, none⟩)) rfl rfl (by kernel_rfl) (by kernel_rfl) (by kernel_rfl) (fun _ _ _ h => h) rfl (fun _ _ => rfl) S0.out ?_
  try simp only [Act.put, List.getElem_toArray, List.getElem_cons_succ, List.getElem_cons_zero, List.setIfInBounds_toArray, List.set_cons_zero, List.set_cons_succ]
  refine hm_run 2 11 (.pointer (some ⟨bt, 0, none⟩)) rfl rfl (by kernel_rfl) (by kernel_rfl) (by kernel_rfl) (fun _ _ _ h => h) rfl (fun _ _ => rfl) S0.out ?_
  try simp only [Act.put, List.getElem_toArray, List.getElem_cons_succ, List.getElem_cons_zero, List.setIfInBounds_toArray, List.set_cons_zero, List.set_cons_succ]
  refine hm_run 3 12 (.pointer (some ⟨bs, 0, none⟩)) rfl rfl (by kernel_rfl) (by kernel_rfl) (by kernel_rfl) (fun _ _ _ h => h) rfl (fun W hW => exec_load rfl (run_load_one Try.underlying51 rfl (cell_of_here hW.cT 0 rfl))) S0.out ?_
  try simp only [Act.put, List.getElem_toArray, List.getElem_cons_succ, List.getElem_cons_zero, List.setIfInBounds_toArray, List.set_cons_zero, List.set_cons_succ]
  refine hm_run 4 13 (.pointer (some ⟨bs, 0, none⟩)) rfl rfl (by kernel_rfl) (by kernel_rfl) (by kernel_rfl) (fun _ _ _ h => h) rfl (fun _ _ => rfl) S0.out ?_
  try simp only [Act.put, List.getElem_toArray, List.getElem_cons_succ, List.getElem_cons_zero, List.setIfInBounds_toArray, List.set_cons_zero, List.set_cons_succ]
  refine hm_run 5 14 (.pointer (some ⟨bs, 0, none⟩)) rfl rfl (by kernel_rfl) (by kernel_rfl) (by kernel_rfl) (fun _ _ _ h => h) rfl (fun _ _ => rfl) S0.out ?_
  try simp only [Act.put, List.getElem_toArray, List.getElem_cons_succ, List.getElem_cons_zero, List.setIfInBounds_toArray, List.set_cons_zero, List.set_cons_succ]
  refine hm_run 6 15 (.slice p xs.length c) rfl rfl (by kernel_rfl) (by kernel_rfl) (by kernel_rfl) (fun _ _ _ h => h) rfl (fun W hW => exec_load rfl (run_load_one Try.underlying22 rfl (cell_of_here hW.cS 0 rfl))) S0.out ?_
  try simp only [Act.put, List.getElem_toArray, List.getElem_cons_succ, List.getElem_cons_zero, List.setIfInBounds_toArray, List.set_cons_zero, List.set_cons_succ]
  refine hm_run 7 16 (.int .i64 ((xs.length : Nat) : Int)) rfl rfl (by kernel_rfl) (by kernel_rfl) (by kernel_rfl) (fun _ _ _ h => h) rfl (fun _ _ => exec_len Try.underlying22 rfl rfl) S0.out ?_
  try simp only [Act.put, List.getElem_toArray, List.getElem_cons_succ, List.getElem_cons_zero, List.setIfInBounds_toArray, List.set_cons_zero, List.set_cons_succ]
  refine hm_run 8 17 (.pointer (some ⟨bt, 0, none⟩)) rfl rfl (by kernel_rfl) (by kernel_rfl) (by kernel_rfl) (fun _ _ _ h => h) rfl (fun _ _ => rfl) S0.out ?_
  try simp only [Act.put, List.getElem_toArray, List.getElem_cons_succ, List.getElem_cons_zero, List.setIfInBounds_toArray, List.set_cons_zero, List.set_cons_succ]
  refine hm_run 9 18 (.pointer (some ⟨bt, 0, none⟩)) rfl rfl (by kernel_rfl) (by kernel_rfl) (by kernel_rfl) (fun _ _ _ h => h) rfl (fun _ _ => rfl) S0.out ?_
  try simp only [Act.put, List.getElem_toArray, List.getElem_cons_succ, List.getElem_cons_zero, List.setIfInBounds_toArray, List.set_cons_zero, List.set_cons_succ]
  refine hm_run 10 19 (.pointer (some ⟨bt, 0, none⟩)) rfl rfl (by kernel_rfl) (by kernel_rfl) (by kernel_rfl) (fun _ _ _ h => h) rfl (fun _ _ => rfl) S0.out ?_
  try simp only [Act.put, List.getElem_toArray, List.getElem_cons_succ, List.getElem_cons_zero, List.setIfInBounds_toArray, List.set_cons_zero, List.set_cons_succ]
  refine hm_run 11 20 (.pointer (some ⟨bs, 0, none⟩)) rfl rfl (by kernel_rfl) (by kernel_rfl) (by kernel_rfl) (fun _ _ _ h => h) rfl (fun W hW => exec_load rfl (run_load_one Try.underlying51 rfl (cell_of_here hW.cT 0 rfl))) S0.out ?_
  try simp only [Act.put, List.getElem_toArray, List.getElem_cons_succ, List.getElem_cons_zero, List.setIfInBounds_toArray, List.set_cons_zero, List.set_cons_succ]
  refine hm_run 12 21 (.pointer (some ⟨bs, 0, none⟩)) rfl rfl (by kernel_rfl) (by kernel_rfl) (by kernel_rfl) (fun _ _ _ h => h) rfl (fun _ _ => rfl) S0.out ?_
  try simp only [Act.put, List.getElem_toArray, List.getElem_cons_succ, List.getElem_cons_zero, List.setIfInBounds_toArray, List.set_cons_zero, List.set_cons_succ]
  refine hm_run 13 22 (.pointer (some ⟨bs, 1, none⟩)) rfl rfl (by kernel_rfl) (by kernel_rfl) (by kernel_rfl) (fun _ _ _ h => h) rfl (fun _ _ => rfl) S0.out ?_
  try simp only [Act.put, List.getElem_toArray, List.getElem_cons_succ, List.getElem_cons_zero, List.setIfInBounds_toArray, List.set_cons_zero, List.set_cons_succ]
  refine hm_run 14 23 (.int .i64 (s : Int)) rfl rfl (by kernel_rfl) (by kernel_rfl) (by kernel_rfl) (fun _ _ _ h => h) rfl (fun W hW => exec_load rfl (run_load_one Try.underlying3 rfl (cell_of_here hW.cS 1 rfl))) S0.out ?_
  try simp only [Act.put, List.getElem_toArray, List.getElem_cons_succ, List.getElem_cons_zero, List.setIfInBounds_toArray, List.set_cons_zero, List.set_cons_succ]
  refine hm_run 15 24 (.int .i64 lo) rfl rfl (by kernel_rfl) (by kernel_rfl) (by kernel_rfl) (fun _ _ _ h => h) rfl (fun _ _ => exec_sub rfl rfl rfl HLO.out) S0.out ?_
  try simp only [Act.put, List.getElem_toArray, List.getElem_cons_succ, List.getElem_cons_zero, List.setIfInBounds_toArray, List.set_cons_zero, List.set_cons_succ]
  refine hm_run 16 5 (.int .i64 lo) rfl rfl (by kernel_rfl) (by kernel_rfl) (by kernel_rfl) (fun _ _ _ h => h) rfl (fun _ _ => rfl) S0.out ?_
  try simp only [Act.put, List.getElem_toArray, List.getElem_cons_succ, List.getElem_cons_zero, List.setIfInBounds_toArray, List.set_cons_zero, List.set_cons_succ]
  refine wpAnyH_done (by kernel_rfl) ?_ _
  go_upto_region 4 with fail
  have T2 := Lib.hid TT.out.1
  have F2 := Lib.hid TT.out.2
  clear TT S0
  refine wp_region_T (Φ := fun X => Tp D bt bs s r f k p g c xs X ∧ Fr bs (ob p) w X) (S := fun X => X.heap[bt]? = some (.cells #[.pointer (some ⟨bs, 0, none⟩)] 53 (0, 0)) ∧ (∃ v : Value, X.heap[bs]? = some (.cells #[v, .int .i64 (s : Int), .int .i64 r, .bool f, .int .i64 k] 59 (0, 0)) ∨ True)) (Lib.hid ⟨T2.out, F2.out⟩) (fun _ h => ⟨h.1.drew, h.2.drew⟩) (fun _ h => ⟨h.1.cT, ⟨undef, .inr trivial⟩⟩) (by kernel_rfl) ?_
  intro w5 TT S0
  refine hm_run 0 25 (.pointer (some ⟨bt, 0, none⟩)) rfl rfl (by kernel_rfl) (by kernel_rfl) (by kernel_rfl) (fun _ _ _ h => h) rfl (fun _ _ => rfl) S0.out ?_
  try simp only [Act.put, List.getElem_toArray, List.getElem_cons_succ, List.getElem_cons_zero, List.setIfInBounds_toArray, List.set_cons_zero, List.set_cons_succ]
  refine hm_run 1 26 (.pointer (some ⟨bt, 0, none⟩)) rfl rfl (by kernel_rfl) (by kernel_rfl) (by kernel_rfl) (fun _ _ _ h => h) rfl (fun _ _ => rfl) S0.out ?_
  try simp only [Act.put, List.getElem_toArray, List.getElem_cons_succ, List.getElem_cons_zero, List.setIfInBounds_toArray, List.set_cons_zero, List.set_cons_succ]
  refine hm_run 2 27 (.pointer (some ⟨bt, 0, none⟩)) rfl rfl (by kernel_rfl) (by kernel_rfl) (by kernel_rfl) (fun _ _ _ h => h) rfl (fun _ _ => rfl) S0.out ?_
  try simp only [Act.put, List.getElem_toArray, List.getElem_cons_succ, List.getElem_cons_zero, List.setIfInBounds_toArray, List.set_cons_zero, List.set_cons_succ]
  refine hm_run 3 28 (.pointer (some ⟨bs, 0, none⟩)) rfl rfl (by kernel_rfl) (by kernel_rfl) (by kernel_rfl) (fun _ _ _ h => h) rfl (fun W hW => exec_load rfl (run_load_one Try.underlying51 rfl (cell_of_here hW.1 0 rfl))) S0.out ?_
  try simp only [Act.put, List.getElem_toArray, List.getElem_cons_succ, List.getElem_cons_zero, List.setIfInBounds_toArray, List.set_cons_zero, List.set_cons_succ]
  refine hm_run 4 29 (.pointer (some ⟨bt, 0, none⟩)) rfl rfl (by kernel_rfl) (by kernel_rfl) (by kernel_rfl) (fun _ _ _ h => h) rfl (fun _ _ => rfl) S0.out ?_
  try simp only [Act.put, List.getElem_toArray, List.getElem_cons_succ, List.getElem_cons_zero, List.setIfInBounds_toArray, List.set_cons_zero, List.set_cons_succ]
  refine hm_run 5 30 (.pointer (some ⟨bt, 0, none⟩)) rfl rfl (by kernel_rfl) (by kernel_rfl) (by kernel_rfl) (fun _ _ _ h => h) rfl (fun _ _ => rfl) S0.out ?_
  try simp only [Act.put, List.getElem_toArray, List.getElem_cons_succ, List.getElem_cons_zero, List.setIfInBounds_toArray, List.set_cons_zero, List.set_cons_succ]
  refine hm_run 6 31 (.pointer (some ⟨bt, 0, none⟩)) rfl rfl (by kernel_rfl) (by kernel_rfl) (by kernel_rfl) (fun _ _ _ h => h) rfl (fun _ _ => rfl) S0.out ?_
  try simp only [Act.put, List.getElem_toArray, List.getElem_cons_succ, List.getElem_cons_zero, List.setIfInBounds_toArray, List.set_cons_zero, List.set_cons_succ]
  refine hm_run 7 32 (.pointer (some ⟨bs, 0, none⟩)) rfl rfl (by kernel_rfl) (by kernel_rfl) (by kernel_rfl) (fun _ _ _ h => h) rfl (fun W hW => exec_load rfl (run_load_one Try.underlying51 rfl (cell_of_here hW.1 0 rfl))) S0.out ?_
  try simp only [Act.put, List.getElem_toArray, List.getElem_cons_succ, List.getElem_cons_zero, List.setIfInBounds_toArray, List.set_cons_zero, List.set_cons_succ]
  refine hm_run 8 33 (.pointer (some ⟨bs, 0, none⟩)) rfl rfl (by kernel_rfl) (by kernel_rfl) (by kernel_rfl) (fun _ _ _ h => h) rfl (fun _ _ => rfl) S0.out ?_
  try simp only [Act.put, List.getElem_toArray, List.getElem_cons_succ, List.getElem_cons_zero, List.setIfInBounds_toArray, List.set_cons_zero, List.set_cons_succ]
  refine hm_run 9 34 (.pointer (some ⟨bs, 1, none⟩)) rfl rfl (by kernel_rfl) (by kernel_rfl) (by kernel_rfl) (fun _ _ _ h => h) rfl (fun _ _ => rfl) S0.out ?_
  try simp only [Act.put, List.getElem_toArray, List.getElem_cons_succ, List.getElem_cons_zero, List.setIfInBounds_toArray, List.set_cons_zero, List.set_cons_succ]
  refine hm_run 11 36 (.int .i64 n) rfl rfl (by kernel_rfl) (by kernel_rfl) (by kernel_rfl) (fun _ _ _ h => h) rfl (fun _ _ => rfl) S0.out ?_
  try simp only [Act.put, List.getElem_toArray, List.getElem_cons_succ, List.getElem_cons_zero, List.setIfInBounds_toArray, List.set_cons_zero, List.set_cons_succ]
  refine hm_run 12 37 (.int .i64 mx) rfl rfl (by kernel_rfl) (by kernel_rfl) (by kernel_rfl) (fun _ _ _ h => h) rfl (fun _ _ => exec_maxi rfl rfl rfl rfl HMX.out) S0.out ?_
  try simp only [Act.put, List.getElem_toArray, List.getElem_cons_succ, List.getElem_cons_zero, List.setIfInBounds_toArray, List.set_cons_zero, List.set_cons_succ]
  refine hm_run 13 38 (.int .i64 lo) rfl rfl (by kernel_rfl) (by kernel_rfl) (by kernel_rfl) (fun _ _ _ h => h) rfl (fun _ _ => rfl) S0.out ?_
  try simp only [Act.put, List.getElem_toArray, List.getElem_cons_succ, List.getElem_cons_zero, List.setIfInBounds_toArray, List.set_cons_zero, List.set_cons_succ]
  refine hm_run 14 39 (.int .i64 mn) rfl rfl (by kernel_rfl) (by kernel_rfl) (by kernel_rfl) (fun _ _ _ h => h) rfl (fun _ _ => exec_mini rfl rfl rfl rfl HMN.out) S0.out ?_
  try simp only [Act.put, List.getElem_toArray, List.getElem_cons_succ, List.getElem_cons_zero, List.setIfInBounds_toArray, List.set_cons_zero, List.set_cons_succ]
  refine hm_one (i := 10) (by kernel_rfl) ?_
  refine hm_step 10 rfl (by kernel_rfl) fun K hK => ?_
  try simp only [Act.put, List.getElem_toArray, List.getElem_cons_succ, List.getElem_cons_zero, List.setIfInBounds_toArray, List.set_cons_zero, List.set_cons_succ]
  refine mo_load_cell (Lib.hid TT.out.1.mem) 3 (.tmp 34) rfl rfl (List.mem_cons_of_mem _ List.mem_cons_self) Try.underlying3 rfl (v := .int .i64 (s : Int)) rfl ?_
  have S10_14 := S0
  refine hK _ _ S10_14.out ?_
  clear hK K
  try simp only [Act.put, List.getElem_toArray, List.getElem_cons_succ, List.getElem_cons_zero, List.setIfInBounds_toArray, List.set_cons_zero, List.set_cons_succ]
  refine hm_run 15 40 (.int .i64 (kk : Int)) rfl rfl (by kernel_rfl) (by kernel_rfl) (by kernel_rfl) (fun _ _ _ h => h) rfl (fun _ _ => exec_add rfl rfl rfl HE.out) S10_14.out ?_
  try simp only [Act.put, List.getElem_toArray, List.getElem_cons_succ, List.getElem_cons_zero, List.setIfInBounds_toArray, List.set_cons_zero, List.set_cons_succ]
  refine hm_one (i := 16) (by kernel_rfl) ?_
  refine hm_step 16 rfl (by kernel_rfl) fun K hK => ?_
  try simp only [Act.put, List.getElem_toArray, List.getElem_cons_succ, List.getElem_cons_zero, List.setIfInBounds_toArray, List.set_cons_zero, List.set_cons_succ]
  go_simp
  go_at_call 35
  refine (leave_any (Lib.hid TT.out.1) kk HKK.out HX.out).mono ?_
  rintro e w6 ⟨rfl, hT⟩
  have T6 := Lib.hid (hT.before TT.out.2)
  clear hT
  have S16_16 := Lib.hid (show w6.heap[bt]? = some (.cells #[.pointer (some ⟨bs, 0, none⟩)] 53 (0, 0)) ∧ (∃ v : Value, w6.heap[bs]? = some (.cells #[v, .int .i64 (s : Int), .int .i64 r, .bool f, .int .i64 k] 59 (0, 0)) ∨ True) from by obtain ⟨p6, g6, c6, T7, _, _⟩ := T6.out; exact ⟨T7.cT, undef, .inr trivial⟩)
  refine hK _ _ S16_16.out ?_
  clear hK K
  try simp only [Act.put, List.getElem_toArray, List.getElem_cons_succ, List.getElem_cons_zero, List.setIfInBounds_toArray, List.set_cons_zero, List.set_cons_succ]
  refine wpAnyH_done (by kernel_rfl) ?_ _
  go_upto_region 5 with fail
  obtain ⟨p6, g6, c6, T7, F7, L7⟩ := T6.out
  have T2 := Lib.hid T7
  have F2 := Lib.hid F7
  have L2 := Lib.hid L7
  clear T6 TT T7 F7 L7
  refine wp_region_T (Φ := fun X => Tp D bt bs kk r f k p6 g6 c6 (xs.take kk) X ∧ Fr bs (ob p) w X) (S := fun X => X.heap[bt]? = some (.cells #[.pointer (some ⟨bs, 0, none⟩)] 53 (0, 0))) (Lib.hid ⟨T2.out, F2.out⟩) (fun _ h => ⟨h.1.drew, h.2.drew⟩) (fun _ h => h.1.cT) (by kernel_rfl) ?_
  intro w5 TT S0
  refine hm_run 0 42 (.pointer (some ⟨bt, 0, none⟩)) rfl rfl (by kernel_rfl) (by kernel_rfl) (by kernel_rfl) (fun _ _ _ h => h) rfl (fun _ _ => rfl) S0.out ?_
  try simp only [Act.put, List.getElem_toArray, List.getElem_cons_succ, List.getElem_cons_zero, List.setIfInBounds_toArray, List.set_cons_zero, List.set_cons_succ]
  refine hm_run 1 43 (.pointer (some ⟨bt, 0, none⟩)) rfl rfl (by kernel_rfl) (by kernel_rfl) (by kernel_rfl) (fun _ _ _ h => h) rfl (fun _ _ => rfl) S0.out ?_
  try simp only [Act.put, List.getElem_toArray, List.getElem_cons_succ, List.getElem_cons_zero, List.setIfInBounds_toArray, List.set_cons_zero, List.set_cons_succ]
  refine hm_run 2 44 (.pointer (some ⟨bt, 0, none⟩)) rfl rfl (by kernel_rfl) (by kernel_rfl) (by kernel_rfl) (fun _ _ _ h => h) rfl (fun _ _ => rfl) S0.out ?_
  try simp only [Act.put, List.getElem_toArray, List.getElem_cons_succ, List.getElem_cons_zero, List.setIfInBounds_toArray, List.set_cons_zero, List.set_cons_succ]
  refine hm_run 3 45 (.pointer (some ⟨bs, 0, none⟩)) rfl rfl (by kernel_rfl) (by kernel_rfl) (by kernel_rfl) (fun _ _ _ h => h) rfl (fun W hW => exec_load rfl (run_load_one Try.underlying51 rfl (cell_of_here hW 0 rfl))) S0.out ?_
  try simp only [Act.put, List.getElem_toArray, List.getElem_cons_succ, List.getElem_cons_zero, List.setIfInBounds_toArray, List.set_cons_zero, List.set_cons_succ]
  refine hm_run 4 46 (.pointer (some ⟨bt, 0, none⟩)) rfl rfl (by kernel_rfl) (by kernel_rfl) (by kernel_rfl) (fun _ _ _ h => h) rfl (fun _ _ => rfl) S0.out ?_
  try simp only [Act.put, List.getElem_toArray, List.getElem_cons_succ, List.getElem_cons_zero, List.setIfInBounds_toArray, List.set_cons_zero, List.set_cons_succ]
  refine hm_run 5 47 (.pointer (some ⟨bt, 0, none⟩)) rfl rfl (by kernel_rfl) (by kernel_rfl) (by kernel_rfl) (fun _ _ _ h => h) rfl (fun _ _ => rfl) S0.out ?_
  try simp only [Act.put, List.getElem_toArray, List.getElem_cons_succ, List.getElem_cons_zero, List.setIfInBounds_toArray, List.set_cons_zero, List.set_cons_succ]
  refine hm_run 6 48 (.pointer (some ⟨bt, 0, none⟩)) rfl rfl (by kernel_rfl) (by kernel_rfl) (by kernel_rfl) (fun _ _ _ h => h) rfl (fun _ _ => rfl) S0.out ?_
  try simp only [Act.put, List.getElem_toArray, List.getElem_cons_succ, List.getElem_cons_zero, List.setIfInBounds_toArray, List.set_cons_zero, List.set_cons_succ]
  refine hm_run 7 49 (.pointer (some ⟨bs, 0, none⟩)) rfl rfl (by kernel_rfl) (by kernel_rfl) (by kernel_rfl) (fun _ _ _ h => h) rfl (fun W hW => exec_load rfl (run_load_one Try.underlying51 rfl (cell_of_here hW 0 rfl))) S0.out ?_
  try simp only [Act.put, List.getElem_toArray, List.getElem_cons_succ, List.getElem_cons_zero, List.setIfInBounds_toArray, List.set_cons_zero, List.set_cons_succ]
  refine hm_run 8 50 (.pointer (some ⟨bs, 0, none⟩)) rfl rfl (by kernel_rfl) (by kernel_rfl) (by kernel_rfl) (fun _ _ _ h => h) rfl (fun _ _ => rfl) S0.out ?_
  try simp only [Act.put, List.getElem_toArray, List.getElem_cons_succ, List.getElem_cons_zero, List.setIfInBounds_toArray, List.set_cons_zero, List.set_cons_succ]
  refine hm_run 9 51 (.pointer (some ⟨bs, 3, none⟩)) rfl rfl (by kernel_rfl) (by kernel_rfl) (by kernel_rfl) (fun _ _ _ h => h) rfl (fun _ _ => rfl) S0.out ?_
  try simp only [Act.put, List.getElem_toArray, List.getElem_cons_succ, List.getElem_cons_zero, List.setIfInBounds_toArray, List.set_cons_zero, List.set_cons_succ]
  refine hm_one (i := 10) (by kernel_rfl) ?_
  refine hm_step 10 rfl (by kernel_rfl) fun K hK => ?_
  try simp only [Act.put, List.getElem_toArray, List.getElem_cons_succ, List.getElem_cons_zero, List.setIfInBounds_toArray, List.set_cons_zero, List.set_cons_succ]
  refine mo_setc (v := .bool false) TT.out.1.cS 4 (.tmp 51) _ rfl rfl rfl (by kernel_rfl) rfl rfl rfl ?_
  have T6 := Lib.hid (TT.out.1.set3 (y := false))
  have S10_10 := Lib.hid T6.out.cT
  refine hK _ _ S10_10.out ?_
  clear hK K
  try simp only [Act.put, List.getElem_toArray, List.getElem_cons_succ, List.getElem_cons_zero, List.setIfInBounds_toArray, List.set_cons_zero, List.set_cons_succ]
  refine hm_run 11 52 (.pointer (some ⟨bs, 0, none⟩)) rfl rfl (by kernel_rfl) (by kernel_rfl) (by kernel_rfl) (fun _ _ _ h => h) rfl (fun _ _ => rfl) S10_10.out ?_
  try simp only [Act.put, List.getElem_toArray, List.getElem_cons_succ, List.getElem_cons_zero, List.setIfInBounds_toArray, List.set_cons_zero, List.set_cons_succ]
  refine hm_run 12 53 (.pointer (some ⟨bs, 4, none⟩)) rfl rfl (by kernel_rfl) (by kernel_rfl) (by kernel_rfl) (fun _ _ _ h => h) rfl (fun _ _ => rfl) S10_10.out ?_
  try simp only [Act.put, List.getElem_toArray, List.getElem_cons_succ, List.getElem_cons_zero, List.setIfInBounds_toArray, List.set_cons_zero, List.set_cons_succ]
  refine hm_one (i := 13) (by kernel_rfl) ?_
  refine hm_step 13 rfl (by kernel_rfl) fun K hK => ?_
  try simp only [Act.put, List.getElem_toArray, List.getElem_cons_succ, List.getElem_cons_zero, List.setIfInBounds_toArray, List.set_cons_zero, List.set_cons_succ]
  refine mo_setc (v := .int .i64 0) T6.out.cS 3 (.tmp 53) _ rfl rfl rfl (by kernel_rfl) rfl rfl rfl ?_
  have T8 := Lib.hid (T6.out.set4 (x := 0))
  have S13_13 := Lib.hid T8.out.cT
  refine hK _ _ S13_13.out ?_
  clear hK K
  try simp only [Act.put, List.getElem_toArray, List.getElem_cons_succ, List.getElem_cons_zero, List.setIfInBounds_toArray, List.set_cons_zero, List.set_cons_succ]
  refine wpAnyH_done (by kernel_rfl) ?_ _
  go_wp2
  go_ret
  exact ⟨rfl, p6, g6, c6, T8.out, (TT.out.2.set _ _).set _ _, L2.out⟩

theorem copy_any {s : Int} (T : Hid (Tp D bt bs s r f k p g c xs w)) (hx : xs.length ≤ 140737488355328) : Calls Try.prog 10 #[.pointer (some ⟨bt, 0, none⟩)] w fun e w' => ∃ v, e = .returned v ∧ Makes s r f k xs w v w' := by
  have E := Lib.hid (Mem.nil w)
  have HX := Lib.hid hx
  clear hx
  go_enter Try.func10, Try.ntmps10
  go_wp2_with (first
    | (go_at_call 27; refine (made_any T).mono ?_; rintro e w2 ⟨rfl, rfl⟩)
    | ((with_reducible refine wpList_at 10 rfl ?_); refine mem_load_cell (Lib.hid T.out.mem) 51 rfl (.tmp 9) rfl rfl List.mem_cons_self Try.underlying51 rfl (v := .pointer (some ⟨bs, 0, none⟩)) rfl ?_; try simp only [Act.put, List.setIfInBounds_toArray, List.set_cons_zero, List.set_cons_succ])
    | ((with_reducible refine wpList_at 12 rfl ?_); refine mem_load_row (Lib.hid T.out.mem) 59 rfl (.tmp 11) rfl rfl (List.mem_cons_of_mem _ List.mem_cons_self) Try.underlying59 rfl (by kernel_rfl) ?_; try simp only [Act.put, List.setIfInBounds_toArray, List.set_cons_zero, List.set_cons_succ])
    | ((with_reducible refine wpList_at 3 rfl ?_); refine mem_alloc E 59 rfl rfl infoST ?_; clear E; intro b3 w3 E; replace E : Hid (Mem w [(b3, 59, #[.slice none 0 0, .int .i64 0, .int .i64 0, .bool false, .int .i64 0])] w3) := E; try simp only [Act.put, List.setIfInBounds_toArray, List.set_cons_zero, List.set_cons_succ])
    | ((with_reducible refine wpList_atn rfl ?_); refine mem_store_row (c' := #[.slice p xs.length c, .int .i64 s, .int .i64 r, .bool f, .int .i64 k]) 0 E 59 rfl (.tmp 3) (.tmp 12) rfl rfl rfl rfl (by kernel_rfl) rfl st_one ?_; clear E; intro w4 E; simp only [List.set_cons_zero] at E)
    | ((with_reducible refine wpList_at 16 rfl ?_); refine mem_load_cell (Lib.hid (T.out.call E.out.below).mem) 51 rfl (.tmp 15) rfl rfl List.mem_cons_self Try.underlying51 rfl (v := .pointer (some ⟨bs, 0, none⟩)) rfl ?_; try simp only [Act.put, List.setIfInBounds_toArray, List.set_cons_zero, List.set_cons_succ])
    | ((with_reducible refine wpList_at 19 rfl ?_); refine mem_load_cell (Lib.hid (T.out.call E.out.below).mem) 22 rfl (.tmp 18) rfl rfl (List.mem_cons_of_mem _ List.mem_cons_self) Try.underlying22 rfl (v := .slice p xs.length c) rfl ?_; try simp only [Act.put, List.setIfInBounds_toArray, List.set_cons_zero, List.set_cons_succ])
    | (go_at_call 22; refine (clone_any (Lib.hid (T.out.call E.out.below).row) HX.out).mono ?_; rintro e w5 ⟨p5, g5, c5, rfl, N, hb⟩; have K := Lib.hid (Wb.start E.out (by simp) N hb); clear N hb)
    | ((with_reducible refine wpList_atn rfl ?_); refine wpList_setc (v := .slice p5 xs.length c5) (K.out.mem.get List.mem_cons_self) rfl 22 (.tmp 21) (.tmp 20) rfl rfl rfl (by kernel_rfl) rfl rfl rfl ?_; have K2 := Lib.hid (K.out.setc (i := 0) (j := 0) (v := .slice p5 xs.length c5) rfl rfl); simp only [List.set_cons_zero] at K2; generalize w5.setCell ⟨b3, 0, none⟩ (.slice p5 xs.length c5) = w6 at *)
    | ((with_reducible refine wpList_at 22 rfl ?_); refine wpList_bld 53 _ rfl rfl (ps := #[(0, .pointer (some ⟨b3, 0, none⟩))]) (by kernel_rfl) (built_tp _) ?_; try simp only [Act.put, List.setIfInBounds_toArray, List.set_cons_zero, List.set_cons_succ])
    | ((with_reducible refine wpList_at 23 rfl ?_); refine wb_box K2 53 (by decide) rfl _ rfl rfl (cs := #[.pointer (some ⟨b3, 0, none⟩)]) rfl ?_; intro b7 w7 K7; try simp only [Act.put, List.setIfInBounds_toArray, List.set_cons_zero, List.set_cons_succ]))
  go_ret
  exact ⟨_, rfl, b7, b3, p5, g5, c5, rfl, K7.out, K7.out.mem.below⟩
theorem of_bad (R : Hid (Row w q h o m d y)) (n : Int) (hn : ¬ (0 ≤ n ∧ n ≤ 16777216) ∨ n < m) : Calls Try.prog 8 #[.slice q m d, .int .i64 n] w fun e w' => e = .returned (.tuple #[.pointer none, .int .i64 1]) ∧ w = w' := by
  by_cases h1 : 0 ≤ n ∧ n ≤ 16777216
  · have h2 : n < m := by
      rcases hn with q | q
      · exact absurd h1 q
      · exact q
    have RM := Lib.hid (fun w => isroom_any n w)
    rw [decide_eq_true h1] at RM
    clear hn h1
    go_enter Try.func8, Try.ntmps8
    go_wp2_with (go_at_call 26; refine (RM.out _).mono ?_; rintro e w2 ⟨rfl, rfl⟩)
    go_ret2
    exact ⟨rfl, rfl⟩
  · have RM := Lib.hid (fun w => isroom_any n w)
    rw [decide_eq_false h1] at RM
    clear hn h1
    go_enter Try.func8, Try.ntmps8
    go_wp2_with (go_at_call 26; refine (RM.out _).mono ?_; rintro e w2 ⟨rfl, rfl⟩)
    go_ret2
    exact ⟨rfl, rfl⟩
theorem of_ok (R : Hid (Row w q h o m d y)) (n : Int) (hn : 0 ≤ n ∧ n ≤ 16777216) (hm : m ≤ n) : Calls Try.prog 8 #[.slice q m d, .int .i64 n] w fun e w' => ∃ v, e = .returned (.tuple #[v, .int .i64 0]) ∧ Makes m n false 0 (tl y m) w v w' := by
  have RM := Lib.hid (fun w => isroom_any n w)
  rw [decide_eq_true hn] at RM
  have E := Lib.hid (Mem.nil w)
  have h2 : ¬ (n < m) := by omega
  have HM := Lib.hid (show m ≤ 140737488355328 by omega)
  have EL := Lib.hid (tl_length y m)
  clear hn hm
  go_enter Try.func8, Try.ntmps8
  go_wp2_with (first
    | (go_at_call 26; refine (RM.out _).mono ?_; rintro e w2 ⟨rfl, rfl⟩)
    | (go_at_call 22; refine (clone_any R HM.out).mono ?_; rintro e w5 ⟨p5, g5, c5, rfl, N, hb⟩; have K := Lib.hid (Wb.start E.out (fun q hq => by cases hq) N.tl hb); clear N hb)
    | ((with_reducible refine wpList_at 20 rfl ?_); refine wpList_bld 59 _ rfl rfl (ps := #[(0, .slice p5 m c5), (1, .int .i64 m), (2, .int .i64 n)]) (by kernel_rfl) (built_st _ _ _ _ _) ?_; try simp only [Act.put, List.setIfInBounds_toArray, List.set_cons_zero, List.set_cons_succ])
    | ((with_reducible refine wpList_at 21 rfl ?_); refine wb_box K 59 (by decide) rfl _ rfl rfl (cs := #[.slice p5 m c5, .int .i64 m, .int .i64 n, .bool false, .int .i64 0]) rfl ?_; intro b6 w6 K6; try simp only [Act.put, List.setIfInBounds_toArray, List.set_cons_zero, List.set_cons_succ])
    | ((with_reducible refine wpList_at 22 rfl ?_); refine wpList_bld 53 _ rfl rfl (ps := #[(0, .pointer (some ⟨b6, 0, none⟩))]) (by kernel_rfl) (built_tp _) ?_; try simp only [Act.put, List.setIfInBounds_toArray, List.set_cons_zero, List.set_cons_succ])
    | ((with_reducible refine wpList_at 23 rfl ?_); refine wb_box K6 53 (by decide) rfl _ rfl rfl (cs := #[.pointer (some ⟨b6, 0, none⟩)]) rfl ?_; intro b7 w7 K7; try simp only [Act.put, List.setIfInBounds_toArray, List.set_cons_zero, List.set_cons_succ]))
  go_ret2
  refine ⟨_, rfl, b7, b6, p5, g5, c5, rfl, ?_, K7.out.mem.below⟩
  unfold Tp Tq
  rw [EL.out]
  exact K7.out
theorem new_ok (n : Int) (hn : 0 ≤ n ∧ n ≤ 16777216) : Calls Try.prog 16 #[.int .i64 n] w fun e w' => ∃ v, e = .returned (.tuple #[v, .int .i64 0]) ∧ Makes 0 n false 0 [] w v w' := by
  have C := Lib.hid (of_ok (w := w) (Lib.hid (Row.nothing w (fun _ => 0) (fun _ => by omega))) n hn hn.1)
  clear hn
  go_enter Try.func16, Try.ntmps16
  go_wp2_with (go_at_call 8; refine C.out.mono ?_; rintro e w2 ⟨v, rfl, hM⟩; have M := Lib.hid hM; clear hM)
  go_ret2
  exact ⟨_, rfl, M.out⟩
end
end Go.Proofs.Ytlbbnaihhagfdaa
