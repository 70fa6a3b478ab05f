/- More calls of the document's tape. -/
import Derived.Test.YtlbbnaihhagfdaaXr
set_option linter.unusedSimpArgs false
set_option linter.unusedVariables false
set_option maxRecDepth 100000
namespace Go.Proofs.Ytlbbnaihhagfdaa
open Go.RowKit Go.Lib Go.Sort

set_option maxHeartbeats 8000000
theorem infoXT (v : Value) : True := trivial
theorem built_x (p : Option Addr) (m c : Nat) (a b d : Int) : Try.prog.built 61 (#[(0, .slice p m c), (1, .int .i64 a), (2, .int .i64 b), (3, .int .i64 d)] : Array (Nat × Value)).toList = some #[.slice p m c, .int .i64 a, .int .i64 b, .int .i64 d] := by kernel_rfl
theorem row_fr {w w' : World} {q : Option Addr} {h o m d bx : Nat} {y : Nat → Nat} (R : Row w q h o m d y) (hh : 0 < m → h ≠ bx) (F : Fr bx none w w') : Row w' q h o m d y :=
  ⟨R.le, R.cap, R.nil, R.head, fun i hi => by
    have hc := R.cell i hi
    rw [World.cell?_of_block (w := w) (F.block h (cell_lt hc) (hh (by omega)) (by simp))]
    exact hc, R.byte⟩
section
variable {D w : World} {bx : Nat} {v : Value} {s r u : Int} {p : Option Addr} {g c : Nat} {xs : List Nat} {q : Option Addr} {h o m d : Nat} {y : Nat → Nat}
theorem Xq.turns {w2 w8 : World} {p8 : Option Addr} {g8 c8 : Nat} {zs : List Nat} {v2 : Value} {s2 r2 u2 : Int} (T : Xq D bx v2 s2 r2 u2 p g c xs w2) (F : Fr bx none w w2) (K : Wb w2 [] p8 g8 c8 zs w8) : XTurns D bx s2 r2 u2 zs w (w8.setCell ⟨bx, 0, none⟩ (.slice p8 zs.length c8)) := by
  obtain ⟨T8, L8⟩ := T.fresh K.own K.mem.below
  exact ⟨p8, g8, c8, T8.set0, (F.same (Fr.below K.mem.below)).set _ _, fun j e => Nat.le_trans F.size (L8 j e)⟩
theorem xapp_dead (T : Hid (Xq D bx v s r u p g c xs w)) (hu : -1 ≤ u ∧ u ≤ 9223372036854775807) (ho : xok u = false) (a : Value) : Calls Try.prog 15 #[.pointer (some ⟨bx, 0, none⟩), a] w fun e w' => e = .returned (.int .i64 150) ∧ Xq D bx v s r (xk u) p g c xs w' ∧ Fr bx none w w' := by
  have HU := Lib.hid hu
  have HO := Lib.hid ho
  clear hu ho
  go_enter Try.func15, Try.ntmps15
  go_wp2_with (go_at_call 34; refine (xburn_any T HU.out).mono ?_; rintro e w2 ⟨rfl, hT, hF⟩; rw [HO.out]; have T2 := Lib.hid hT; have F2 := Lib.hid hF; clear hT hF)
  go_ret
  exact ⟨rfl, T2.out, F2.out⟩
theorem xapp_full (T : Hid (Xp D bx s r u p g c xs w)) (hu : -1 ≤ u ∧ u ≤ 9223372036854775807) (ho : xok u = true) (hx : xs.length ≤ 140737488355328) (hr : 0 ≤ r ∧ r ≤ 16777216) (hm : m ≤ 140737488355328) (hf : ¬ (((xs.length + m : Nat) : Int) ≤ r)) : Calls Try.prog 15 #[.pointer (some ⟨bx, 0, none⟩), .slice q m d] w fun e w' => e = .returned (.int .i64 4) ∧ Xp D bx s r (xk u) p g c xs w' ∧ Fr bx none w w' := by
  have HU := Lib.hid hu
  have HO := Lib.hid ho
  clear hu ho
  obtain ⟨lo, hlo⟩ : ∃ lo : Int, IntKind.i64.wrap (r - ((xs.length : Nat) : Int)) = lo := ⟨_, rfl⟩
  have hl2 : lo = r - (xs.length : Int) := by rw [← hlo, IntWalk.i64_in _ (by omega)]
  have HL := Lib.hid hlo
  have HF := Lib.hid (show decide (lo < ((m : Nat) : Int)) = true by simp; omega)
  clear hlo hl2 hx hr hm hf
  go_enter Try.func15, Try.ntmps15
  go_upto_region 3 with (go_at_call 34; refine (xburn_any T HU.out).mono ?_; rintro e w2 ⟨rfl, hT, hF⟩; rw [HO.out]; have T2 := Lib.hid hT; have F2 := Lib.hid hF; clear hT hF)
  refine wp_region_T (Φ := fun X => Xp D bx s r (xk u) p g c xs X ∧ Fr bx none w X) (S := fun X => Xp D bx s r (xk u) p g c xs X) (Lib.hid ⟨T2.out, F2.out⟩) (fun _ h => ⟨h.1.drew, h.2.drew⟩) (fun _ h => h.1) (by kernel_rfl) ?_
  intro w5 TT S0
  refine hm_run 0 8 (.slice q m d) rfl rfl (by kernel_rfl) (by kernel_rfl) (by kernel_rfl) (fun _ _ _ h => h) rfl (fun _ _ => rfl) S0.out ?_
  try simp only [Act.put, List.getElem_toArray, List.getElem_cons_succ, List.getElem_cons_zero, List.setIfInBounds_toArray, List.set_cons_zero, List.set_cons_succ]
  refine hm_run 1 9 (.int .i64 ((m : Nat) : Int)) rfl rfl (by kernel_rfl) (by kernel_rfl) (by kernel_rfl) (fun _ _ _ h => h) rfl (fun _ _ => exec_len Try.underlying22 rfl rfl) S0.out ?_
  try simp only [Act.put, List.getElem_toArray, List.getElem_cons_succ, List.getElem_cons_zero, List.setIfInBounds_toArray, List.set_cons_zero, List.set_cons_succ]
  refine hm_run 2 10 (.pointer (some ⟨bx, 0, none⟩)) rfl rfl (by kernel_rfl) (by kernel_rfl) (by kernel_rfl) (fun _ _ _ h => h) rfl (fun _ _ => rfl) S0.out ?_
  try simp only [Act.put, List.getElem_toArray, List.getElem_cons_succ, List.getElem_cons_zero, List.setIfInBounds_toArray, List.set_cons_zero, List.set_cons_succ]
  refine hm_run 3 11 (.pointer (some ⟨bx, 0, none⟩)) rfl rfl (by kernel_rfl) (by kernel_rfl) (by kernel_rfl) (fun _ _ _ h => h) rfl (fun _ _ => rfl) S0.out ?_
  try simp only [Act.put, List.getElem_toArray, List.getElem_cons_succ, List.getElem_cons_zero, List.setIfInBounds_toArray, List.set_cons_zero, List.set_cons_succ]
  refine hm_run 4 12 (.pointer (some ⟨bx, 2, none⟩)) rfl rfl (by kernel_rfl) (by kernel_rfl) (by kernel_rfl) (fun _ _ _ h => h) rfl (fun _ _ => rfl) S0.out ?_
  try simp only [Act.put, List.getElem_toArray, List.getElem_cons_succ, List.getElem_cons_zero, List.setIfInBounds_toArray, List.set_cons_zero, List.set_cons_succ]
  refine hm_run 5 13 (.int .i64 r) rfl rfl (by kernel_rfl) (by kernel_rfl) (by kernel_rfl) (fun _ _ _ h => h) rfl (fun W hW => exec_load rfl (run_load_one Try.underlying3 rfl (cell_of_here hW.cX 2 rfl))) S0.out ?_
  try simp only [Act.put, List.getElem_toArray, List.getElem_cons_succ, List.getElem_cons_zero, List.setIfInBounds_toArray, List.set_cons_zero, List.set_cons_succ]
  refine hm_run 6 14 (.pointer (some ⟨bx, 0, none⟩)) rfl rfl (by kernel_rfl) (by kernel_rfl) (by kernel_rfl) (fun _ _ _ h => h) rfl (fun _ _ => rfl) S0.out ?_
  try simp only [Act.put, List.getElem_toArray, List.getElem_cons_succ, List.getElem_cons_zero, List.setIfInBounds_toArray, List.set_cons_zero, List.set_cons_succ]
  refine hm_run 7 15 (.pointer (some ⟨bx, 0, none⟩)) rfl rfl (by kernel_rfl) (by kernel_rfl) (by kernel_rfl) (fun _ _ _ h => h) rfl (fun _ _ => rfl) S0.out ?_
  try simp only [Act.put, List.getElem_toArray, List.getElem_cons_succ, List.getElem_cons_zero, List.setIfInBounds_toArray, List.set_cons_zero, List.set_cons_succ]
  refine hm_run 8 16 (.pointer (some ⟨bx, 0, none⟩)) rfl rfl (by kernel_rfl) (by kernel_rfl) (by kernel_rfl) (fun _ _ _ h => h) rfl (fun _ _ => rfl) S0.out ?_
  try simp only [Act.put, List.getElem_toArray, List.getElem_cons_succ, List.getElem_cons_zero, List.setIfInBounds_toArray, List.set_cons_zero, List.set_cons_succ]
  refine hm_run 9 17 (.slice p xs.length c) rfl rfl (by kernel_rfl) (by kernel_rfl) (by kernel_rfl) (fun _ _ _ h => h) rfl (fun W hW => exec_load rfl (run_load_one Try.underlying22 rfl (cell_of_here hW.cX 0 rfl))) S0.out ?_
  try simp only [Act.put, List.getElem_toArray, List.getElem_cons_succ, List.getElem_cons_zero, List.setIfInBounds_toArray, List.set_cons_zero, List.set_cons_succ]
  refine hm_run 10 18 (.int .i64 ((xs.length : Nat) : Int)) rfl rfl (by kernel_rfl) (by kernel_rfl) (by kernel_rfl) (fun _ _ _ h => h) rfl (fun _ _ => exec_len Try.underlying22 rfl rfl) S0.out ?_
  try simp only [Act.put, List.getElem_toArray, List.getElem_cons_succ, List.getElem_cons_zero, List.setIfInBounds_toArray, List.set_cons_zero, List.set_cons_succ]
  refine hm_run 11 19 (.int .i64 lo) rfl rfl (by kernel_rfl) (by kernel_rfl) (by kernel_rfl) (fun _ _ _ h => h) rfl (fun _ _ => exec_sub rfl rfl rfl HL.out) S0.out ?_
  try simp only [Act.put, List.getElem_toArray, List.getElem_cons_succ, List.getElem_cons_zero, List.setIfInBounds_toArray, List.set_cons_zero, List.set_cons_succ]
  refine hm_run 12 20 (.bool true) rfl rfl (by kernel_rfl) (by kernel_rfl) (by kernel_rfl) (fun _ _ _ h => h) rfl (fun _ _ => exec_gtri rfl rfl rfl HF.out) S0.out ?_
  try simp only [Act.put, List.getElem_toArray, List.getElem_cons_succ, List.getElem_cons_zero, List.setIfInBounds_toArray, List.set_cons_zero, List.set_cons_succ]
  refine wpAnyH_done (by kernel_rfl) ?_ _
  go_wp2
  go_ret
  exact ⟨rfl, TT.out.1, TT.out.2⟩

theorem xapp_ok (T : Hid (Xp D bx s r u p g c xs w)) (hu : -1 ≤ u ∧ u ≤ 9223372036854775807) (ho : xok u = true) (hx : xs.length ≤ 140737488355328) (hr : 0 ≤ r ∧ r ≤ 16777216) (R : Hid (Row w q h o m d y)) (hh : 0 < m → h ≠ bx) (hf : ((xs.length + m : Nat) : Int) ≤ r) : Calls Try.prog 15 #[.pointer (some ⟨bx, 0, none⟩), .slice q m d] w fun e w' => e = .returned (.int .i64 0) ∧ XTurns D bx s r (xk u) (xs ++ tl y m) w w' := by
  have HU := Lib.hid hu
  have HO := Lib.hid ho
  clear hu ho
  obtain ⟨lo, hlo⟩ : ∃ lo : Int, IntKind.i64.wrap (r - ((xs.length : Nat) : Int)) = lo := ⟨_, rfl⟩
  have hl2 : lo = r - (xs.length : Int) := by rw [← hlo, IntWalk.i64_in _ (by omega)]
  have HL := Lib.hid hlo
  have HF := Lib.hid (show decide (lo < ((m : Nat) : Int)) = false by simp; omega)
  have HS := Lib.hid (show xs.length + m ≤ 16777216 by omega)
  have HH := Lib.hid hh
  clear hlo hl2 hx hr hf hh
  go_enter Try.func15, Try.ntmps15
  go_upto_region 3 with (go_at_call 34; refine (xburn_any T HU.out).mono ?_; rintro e w2 ⟨rfl, hT, hF⟩; rw [HO.out]; have T2 := Lib.hid hT; have F2 := Lib.hid hF; clear hT hF)
  refine wp_region_T (Φ := fun X => Xp D bx s r (xk u) p g c xs X ∧ Fr bx none w X) (S := fun X => Xp D bx s r (xk u) p g c xs X) (Lib.hid ⟨T2.out, F2.out⟩) (fun _ h => ⟨h.1.drew, h.2.drew⟩) (fun _ h => h.1) (by kernel_rfl) ?_
  intro w5 TT S0
  refine hm_run 0 8 (.slice q m d) rfl rfl (by kernel_rfl) (by kernel_rfl) (by kernel_rfl) (fun _ _ _ h => h) rfl (fun _ _ => rfl) S0.out ?_
  try simp only [Act.put, List.getElem_toArray, List.getElem_cons_succ, List.getElem_cons_zero, List.setIfInBounds_toArray, List.set_cons_zero, List.set_cons_succ]
  refine hm_run 1 9 (.int .i64 ((m : Nat) : Int)) rfl rfl (by kernel_rfl) (by kernel_rfl) (by kernel_rfl) (fun _ _ _ h => h) rfl (fun _ _ => exec_len Try.underlying22 rfl rfl) S0.out ?_
  try simp only [Act.put, List.getElem_toArray, List.getElem_cons_succ, List.getElem_cons_zero, List.setIfInBounds_toArray, List.set_cons_zero, List.set_cons_succ]
  refine hm_run 2 10 (.pointer (some ⟨bx, 0, none⟩)) rfl rfl (by kernel_rfl) (by kernel_rfl) (by kernel_rfl) (fun _ _ _ h => h) rfl (fun _ _ => rfl) S0.out ?_
  try simp only [Act.put, List.getElem_toArray, List.getElem_cons_succ, List.getElem_cons_zero, List.setIfInBounds_toArray, List.set_cons_zero, List.set_cons_succ]
  refine hm_run 3 11 (.pointer (some ⟨bx, 0, none⟩)) rfl rfl (by kernel_rfl) (by kernel_rfl) (by kernel_rfl) (fun _ _ _ h => h) rfl (fun _ _ => rfl) S0.out ?_
  try simp only [Act.put, List.getElem_toArray, List.getElem_cons_succ, List.getElem_cons_zero, List.setIfInBounds_toArray, List.set_cons_zero, List.set_cons_succ]
  refine hm_run 4 12 (.pointer (some ⟨bx, 2, none⟩)) rfl rfl (by kernel_rfl) (by kernel_rfl) (by kernel_rfl) (fun _ _ _ h => h) rfl (fun _ _ => rfl) S0.out ?_
  try simp only [Act.put, List.getElem_toArray, List.getElem_cons_succ, List.getElem_cons_zero, List.setIfInBounds_toArray, List.set_cons_zero, List.set_cons_succ]
  refine hm_run 5 13 (.int .i64 r) rfl rfl (by kernel_rfl) (by kernel_rfl) (by kernel_rfl) (fun _ _ _ h => h) rfl (fun W hW => exec_load rfl (run_load_one Try.underlying3 rfl (cell_of_here hW.cX 2 rfl))) S0.out ?_
  try simp only [Act.put, List.getElem_toArray, List.getElem_cons_succ, List.getElem_cons_zero, List.setIfInBounds_toArray, List.set_cons_zero, List.set_cons_succ]
  refine hm_run 6 14 (.pointer (some ⟨bx, 0, none⟩)) rfl rfl (by kernel_rfl) (by kernel_rfl) (by kernel_rfl) (fun _ _ _ h => h) rfl (fun _ _ => rfl) S0.out ?_
  try simp only [Act.put, List.getElem_toArray, List.getElem_cons_succ, List.getElem_cons_zero, List.setIfInBounds_toArray, List.set_cons_zero, List.set_cons_succ]
  refine hm_run 7 15 (.pointer (some ⟨bx, 0, none⟩)) rfl rfl (by kernel_rfl) (by kernel_rfl) (by kernel_rfl) (fun _ _ _ h => h) rfl (fun _ _ => rfl) S0.out ?_
  try simp only [Act.put, List.getElem_toArray, List.getElem_cons_succ, List.getElem_cons_zero, List.setIfInBounds_toArray, List.set_cons_zero, List.set_cons_succ]
  refine hm_run 8 16 (.pointer (some ⟨bx, 0, none⟩)) rfl rfl (by kernel_rfl) (by kernel_rfl) (by kernel_rfl) (fun _ _ _ h => h) rfl (fun _ _ => rfl) S0.out ?_
  try simp only [Act.put, List.getElem_toArray, List.getElem_cons_succ, List.getElem_cons_zero, List.setIfInBounds_toArray, List.set_cons_zero, List.set_cons_succ]
  refine hm_run 9 17 (.slice p xs.length c) rfl rfl (by kernel_rfl) (by kernel_rfl) (by kernel_rfl) (fun _ _ _ h => h) rfl (fun W hW => exec_load rfl (run_load_one Try.underlying22 rfl (cell_of_here hW.cX 0 rfl))) S0.out ?_
  try simp only [Act.put, List.getElem_toArray, List.getElem_cons_succ, List.getElem_cons_zero, List.setIfInBounds_toArray, List.set_cons_zero, List.set_cons_succ]
  refine hm_run 10 18 (.int .i64 ((xs.length : Nat) : Int)) rfl rfl (by kernel_rfl) (by kernel_rfl) (by kernel_rfl) (fun _ _ _ h => h) rfl (fun _ _ => exec_len Try.underlying22 rfl rfl) S0.out ?_
  try simp only [Act.put, List.getElem_toArray, List.getElem_cons_succ, List.getElem_cons_zero, List.setIfInBounds_toArray, List.set_cons_zero, List.set_cons_succ]
  refine hm_run 11 19 (.int .i64 lo) rfl rfl (by kernel_rfl) (by kernel_rfl) (by kernel_rfl) (fun _ _ _ h => h) rfl (fun _ _ => exec_sub rfl rfl rfl HL.out) S0.out ?_
  try simp only [Act.put, List.getElem_toArray, List.getElem_cons_succ, List.getElem_cons_zero, List.setIfInBounds_toArray, List.set_cons_zero, List.set_cons_succ]
  refine hm_run 12 20 (.bool false) rfl rfl (by kernel_rfl) (by kernel_rfl) (by kernel_rfl) (fun _ _ _ h => h) rfl (fun _ _ => exec_gtri rfl rfl rfl HF.out) S0.out ?_
  try simp only [Act.put, List.getElem_toArray, List.getElem_cons_succ, List.getElem_cons_zero, List.setIfInBounds_toArray, List.set_cons_zero, List.set_cons_succ]
  refine wpAnyH_done (by kernel_rfl) ?_ _
  have T2 := Lib.hid TT.out.1
  have F2 := Lib.hid TT.out.2
  clear TT S0
  have K6 := Lib.hid (Wb.fresh0 w5)
  go_wp2_with (first
    | ((with_reducible refine wpList_at 26 rfl ?_); refine mem_load_cell (Lib.hid (T2.out.call K6.out.mem.below).mem) 22 rfl (.tmp 25) rfl rfl List.mem_cons_self Try.underlying22 rfl (v := .slice p xs.length c) rfl ?_; try simp only [Act.put, List.setIfInBounds_toArray, List.set_cons_zero, List.set_cons_succ])
    | ((with_reducible refine wpList_at 27 rfl ?_); refine wpList_wb rfl (.tmp 22) (.tmp 26) rfl K6 rfl rfl rfl (Lib.hid (T2.out.row.below K6.out.mem.below)) (by have := HS.out; simp; omega) ?_; intro p7 g7 c7 w7 zs Z7 K7; try simp only [Act.put, List.setIfInBounds_toArray, List.set_cons_zero, List.set_cons_succ])
    | ((with_reducible refine wpList_at 29 rfl ?_); refine wpList_wb rfl (.tmp 27) (.tmp 28) rfl K7 rfl rfl rfl (Lib.hid ((row_fr R.out HH.out F2.out).below K7.out.mem.below)) (by rw [Z7.out]; have := HS.out; simp [tl_length]; omega) ?_; intro p8 g8 c8 w8 zs2 Z8 K8; try simp only [Act.put, List.setIfInBounds_toArray, List.set_cons_zero, List.set_cons_succ])
    | ((with_reducible refine wpList_atn rfl ?_); refine wpList_setc (v := .slice p8 zs2.length c8) (T2.out.call K8.out.mem.below).cX rfl 22 (.tmp 31) (.tmp 29) rfl rfl rfl (by kernel_rfl) rfl rfl rfl ?_))
  go_ret
  refine ⟨rfl, ?_⟩
  have := T2.out.turns F2.out K8.out
  rw [show xs ++ tl y m = zs2 by rw [Z8.out, Z7.out, List.nil_append, tl_lf]]
  exact this
theorem xcut_bad (T : Hid (Xp D bx s r u p g c xs w)) (n : Int) (hn : ¬ (0 ≤ n ∧ n ≤ xs.length)) : Calls Try.prog 29 #[.pointer (some ⟨bx, 0, none⟩), .int .i64 n] w fun e w' => e = .returned (.int .i64 1) ∧ w = w' := by
  have d0 := cell_of_here T.out.cX 0 (v := .slice p xs.length c) rfl
  by_cases h1 : n < 0
  · clear hn
    go_enter Try.func29, Try.ntmps29
    go_wp2
    go_ret
    exact ⟨rfl, rfl⟩
  · have h2 : (xs.length : Int) < n := by omega
    clear hn
    go_enter Try.func29, Try.ntmps29
    go_wp2
    go_ret
    exact ⟨rfl, rfl⟩
theorem xcut_dead (T : Hid (Xp D bx s r u p g c xs w)) (hu : -1 ≤ u ∧ u ≤ 9223372036854775807) (ho : xok u = false) (n : Nat) (hn : n ≤ xs.length) : Calls Try.prog 29 #[.pointer (some ⟨bx, 0, none⟩), .int .i64 n] w fun e w' => e = .returned (.int .i64 150) ∧ Xp D bx s r (xk u) p g c xs w' ∧ Fr bx none w w' := by
  have HU := Lib.hid hu
  have HO := Lib.hid ho
  clear hu ho
  have d0 := cell_of_here T.out.cX 0 (v := .slice p xs.length c) rfl
  have h1 : ¬ ((n : Int) < 0) := by omega
  have h2 : ¬ ((xs.length : Int) < n) := by omega
  go_enter Try.func29, Try.ntmps29
  go_wp2_with (go_at_call 34; refine (xburn_any T HU.out).mono ?_; rintro e w2 ⟨rfl, hT, hF⟩; rw [HO.out]; have T2 := Lib.hid hT; have F2 := Lib.hid hF; clear hT hF)
  go_ret
  exact ⟨rfl, T2.out, F2.out⟩
theorem xcut_ok (T : Hid (Xp D bx s r u p g c xs w)) (hu : -1 ≤ u ∧ u ≤ 9223372036854775807) (ho : xok u = true) (n : Nat) (hn : n ≤ xs.length) (hx : xs.length ≤ 140737488355328) : Calls Try.prog 29 #[.pointer (some ⟨bx, 0, none⟩), .int .i64 n] w fun e w' => e = .returned (.int .i64 0) ∧ XTurns D bx n r (xk u) (xs.take n) w w' := by
  have HU := Lib.hid hu
  have HO := Lib.hid ho
  clear hu ho
  have d0 := cell_of_here T.out.cX 0 (v := .slice p xs.length c) rfl
  have h1 : ¬ ((n : Int) < 0) := by omega
  have h2 : ¬ ((xs.length : Int) < n) := by omega
  have R0 := T.out.row
  have SC := Lib.hid (fun W' => run_sl_take (w := W') (p := p) hn R0.le (fun h => (R0.nil h).2))
  have HN := Lib.hid hn
  have HX := Lib.hid hx
  clear hn hx R0
  go_enter Try.func29, Try.ntmps29
  go_wp2_with (first
    | (go_at_call 34; refine (xburn_any T HU.out).mono ?_; rintro e w2 ⟨rfl, hT, hF⟩; rw [HO.out]; have T2 := Lib.hid hT; have F2 := Lib.hid hF; have K6 := Lib.hid (Wb.fresh0 w2); clear hT hF)
    | ((with_reducible refine wpList_at 24 rfl ?_); refine mem_load_cell (Lib.hid (T2.out.call K6.out.mem.below).mem) 22 rfl (.tmp 23) rfl rfl List.mem_cons_self Try.underlying22 rfl (v := .slice p xs.length c) rfl ?_; try simp only [Act.put, List.setIfInBounds_toArray, List.set_cons_zero, List.set_cons_succ])
    | ((with_reducible refine wpList_at 26 rfl ?_); refine wpList_known4 rfl (.slice p n c) _ (exec_sl rfl (SC.out _)) ?_; try simp only [Act.put, List.setIfInBounds_toArray, List.set_cons_zero, List.set_cons_succ])
    | ((with_reducible refine wpList_at 27 rfl ?_); refine wpList_wb rfl (.tmp 20) (.tmp 26) rfl K6 rfl rfl rfl (Lib.hid ((T2.out.row.less HN.out).below K6.out.mem.below)) (by have := HX.out; have := HN.out; simp; omega) ?_; intro p7 g7 c7 w7 zs Z7 K7; try simp only [Act.put, List.setIfInBounds_toArray, List.set_cons_zero, List.set_cons_succ])
    | ((with_reducible refine wpList_atn rfl ?_); refine wpList_setc (v := .slice p7 zs.length c7) (T2.out.call K7.out.mem.below).cX rfl 22 (.tmp 29) (.tmp 27) rfl rfl rfl (by kernel_rfl) rfl rfl rfl ?_; have T8 := Lib.hid (T2.out.turns F2.out K7.out); generalize w7.setCell ⟨bx, 0, none⟩ (.slice p7 zs.length c7) = w8 at *; obtain ⟨p8, g8, c8, T9, F9, L9⟩ := T8.out; have T10 := Lib.hid T9; have F10 := Lib.hid F9; have L10 := Lib.hid L9; clear T9 F9 L9 T8 K7)
    | ((with_reducible refine wpList_atn rfl ?_); refine wpList_setc (v := .int .i64 n) T10.out.cX rfl 3 (.tmp 33) (.tmp 31) rfl rfl rfl (by kernel_rfl) rfl rfl rfl ?_))
  go_ret
  refine ⟨rfl, ?_⟩
  rw [show xs.take n = zs by rw [Z7.out, List.nil_append]; conv => lhs; rw [← tl_lf xs]
                             exact tl_take _ HN.out]
  exact ⟨p8, g8, c8, T10.out.set1, F10.out.set _ _, L10.out⟩
theorem xcrash_any {s : Nat} (T : Hid (Xp D bx s r u p g c xs w)) (hs : s ≤ xs.length) (hx : xs.length ≤ 140737488355328) (n : Int) (kk : Nat) (hkk : (kk : Int) = s + min (max n 0) (xs.length - s)) : Calls Try.prog 32 #[.pointer (some ⟨bx, 0, none⟩), .int .i64 n] w fun e w' => e = .returned (.tuple #[]) ∧ XTurns D bx kk r (-1) (xs.take kk) w w' := by
  obtain ⟨mx, hmx⟩ : ∃ mx, max n 0 = mx := ⟨_, rfl⟩
  obtain ⟨lo, hlo⟩ : ∃ lo : Int, IntKind.i64.wrap (((xs.length : Nat) : Int) - ((s : Nat) : Int)) = lo := ⟨_, rfl⟩
  have hl2 : lo = (xs.length : Int) - s := by rw [← hlo, IntWalk.i64_in _ (by omega)]
  obtain ⟨mn, hmn⟩ : ∃ mn, min mx lo = mn := ⟨_, rfl⟩
  have e1 : IntKind.i64.wrap (((s : Nat) : Int) + mn) = ((kk : Nat) : Int) := by rw [IntWalk.i64_in _ (by omega)]; omega
  have hk2 : kk ≤ xs.length := by omega
  have HMX := Lib.hid hmx
  have HLO := Lib.hid hlo
  have HMN := Lib.hid hmn
  have HE := Lib.hid e1
  have HN := Lib.hid hk2
  have HX := Lib.hid hx
  have R0 := T.out.row
  have SC := Lib.hid (fun W' => run_sl_take (w := W') (p := p) hk2 R0.le (fun h => (R0.nil h).2))
  clear hmx hlo hl2 hmn e1 hkk hs hx hk2 R0
  go_enter Try.func32, Try.ntmps32
  go_upto_region 0 with fail
  refine wp_region_T (Φ := fun X => Xp D bx s r u p g c xs X ∧ Fr bx none w X) (S := fun X => Xp D bx s r u p g c xs X) (Lib.hid ⟨T.out, Fr.refl _ _ _⟩) (fun _ h => ⟨h.1.drew, h.2.drew⟩) (fun _ h => h.1) (by kernel_rfl) ?_
  intro w5 TT S0
  refine hm_run 0 5 (.pointer (some ⟨bx, 0, none⟩)) rfl rfl (by kernel_rfl) (by kernel_rfl) (by kernel_rfl) (fun _ _ _ h => h) rfl (fun _ _ => rfl) S0.out ?_
  try simp only [Act.put, List.getElem_toArray, List.getElem_cons_succ, List.getElem_cons_zero, List.setIfInBounds_toArray, List.set_cons_zero, List.set_cons_succ]
  refine hm_run 1 6 (.pointer (some ⟨bx, 0, none⟩)) rfl rfl (by kernel_rfl) (by kernel_rfl) (by kernel_rfl) (fun _ _ _ h => h) rfl (fun _ _ => rfl) S0.out ?_
  try simp only [Act.put, List.getElem_toArray, List.getElem_cons_succ, List.getElem_cons_zero, List.setIfInBounds_toArray, List.set_cons_zero, List.set_cons_succ]
  refine hm_run 2 7 (.pointer (some ⟨bx, 1, none⟩)) rfl rfl (by kernel_rfl) (by kernel_rfl) (by kernel_rfl) (fun _ _ _ h => h) rfl (fun _ _ => rfl) S0.out ?_
  try simp only [Act.put, List.getElem_toArray, List.getElem_cons_succ, List.getElem_cons_zero, List.setIfInBounds_toArray, List.set_cons_zero, List.set_cons_succ]
  refine hm_run 3 8 (.int .i64 (s : Int)) rfl rfl (by kernel_rfl) (by kernel_rfl) (by kernel_rfl) (fun _ _ _ h => h) rfl (fun W hW => exec_load rfl (run_load_one Try.underlying3 rfl (cell_of_here hW.cX 1 rfl))) S0.out ?_
  try simp only [Act.put, List.getElem_toArray, List.getElem_cons_succ, List.getElem_cons_zero, List.setIfInBounds_toArray, List.set_cons_zero, List.set_cons_succ]
  refine hm_run 4 9 (.int .i64 n) rfl rfl (by kernel_rfl) (by kernel_rfl) (by kernel_rfl) (fun _ _ _ h => h) rfl (fun _ _ => rfl) S0.out ?_
  try simp only [Act.put, List.getElem_toArray, List.getElem_cons_succ, List.getElem_cons_zero, List.setIfInBounds_toArray, List.set_cons_zero, List.set_cons_succ]
  refine hm_run 5 10 (.int .i64 mx) rfl rfl (by kernel_rfl) (by kernel_rfl) (by kernel_rfl) (fun _ _ _ h => h) rfl (fun _ _ => exec_maxi rfl rfl rfl rfl HMX.out) S0.out ?_
  try simp only [Act.put, List.getElem_toArray, List.getElem_cons_succ, List.getElem_cons_zero, List.setIfInBounds_toArray, List.set_cons_zero, List.set_cons_succ]
  refine hm_run 6 11 (.pointer (some ⟨bx, 0, none⟩)) rfl rfl (by kernel_rfl) (by kernel_rfl) (by kernel_rfl) (fun _ _ _ h => h) rfl (fun _ _ => rfl) S0.out ?_
  try simp only [Act.put, List.getElem_toArray, List.getElem_cons_succ, List.getElem_cons_zero, List.setIfInBounds_toArray, List.set_cons_zero, List.set_cons_succ]
  refine hm_run 7 12 (.pointer (some ⟨bx, 0, none⟩)) rfl rfl (by kernel_rfl) (by kernel_rfl) (by kernel_rfl) (fun _ _ _ h => h) rfl (fun _ _ => rfl) S0.out ?_
  try simp only [Act.put, List.getElem_toArray, List.getElem_cons_succ, List.getElem_cons_zero, List.setIfInBounds_toArray, List.set_cons_zero, List.set_cons_succ]
  refine hm_run 8 13 (.pointer (some ⟨bx, 0, none⟩)) rfl rfl (by kernel_rfl) (by kernel_rfl) (by kernel_rfl) (fun _ _ _ h => h) rfl (fun _ _ => rfl) S0.out ?_
  try simp only [Act.put, List.getElem_toArray, List.getElem_cons_succ, List.getElem_cons_zero, List.setIfInBounds_toArray, List.set_cons_zero, List.set_cons_succ]
  refine hm_run 9 14 (.slice p xs.length c) rfl rfl (by kernel_rfl) (by kernel_rfl) (by kernel_rfl) (fun _ _ _ h => h) rfl (fun W hW => exec_load rfl (run_load_one Try.underlying22 rfl (cell_of_here hW.cX 0 rfl))) S0.out ?_
  try simp only [Act.put, List.getElem_toArray, List.getElem_cons_succ, List.getElem_cons_zero, List.setIfInBounds_toArray, List.set_cons_zero, List.set_cons_succ]
  refine hm_run 10 15 (.int .i64 ((xs.length : Nat) : Int)) rfl rfl (by kernel_rfl) (by kernel_rfl) (by kernel_rfl) (fun _ _ _ h => h) rfl (fun _ _ => exec_len Try.underlying22 rfl rfl) S0.out ?_
  try simp only [Act.put, List.getElem_toArray, List.getElem_cons_succ, List.getElem_cons_zero, List.setIfInBounds_toArray, List.set_cons_zero, List.set_cons_succ]
  refine hm_run 11 16 (.pointer (some ⟨bx, 0, none⟩)) rfl rfl (by kernel_rfl) (by kernel_rfl) (by kernel_rfl) (fun _ _ _ h => h) rfl (fun _ _ => rfl) S0.out ?_
  try simp only [Act.put, List.getElem_toArray, List.getElem_cons_succ, List.getElem_cons_zero, List.setIfInBounds_toArray, List.set_cons_zero, List.set_cons_succ]
  refine hm_run 12 17 (.pointer (some ⟨bx, 0, none⟩)) rfl rfl (by kernel_rfl) (by kernel_rfl) (by kernel_rfl) (fun _ _ _ h => h) rfl (fun _ _ => rfl) S0.out ?_
  try simp only [Act.put, List.getElem_toArray, List.getElem_cons_succ, List.getElem_cons_zero, List.setIfInBounds_toArray, List.set_cons_zero, List.set_cons_succ]
  refine hm_run 13 18 (.pointer (some ⟨bx, 1, none⟩)) rfl rfl (by kernel_rfl) (by kernel_rfl) (by kernel_rfl) (fun _ _ _ h => h) rfl (fun _ _ => rfl) S0.out ?_
  try simp only [Act.put, List.getElem_toArray, List.getElem_cons_succ, List.getElem_cons_zero, List.setIfInBounds_toArray, List.set_cons_zero, List.set_cons_succ]
  refine hm_run 14 19 (.int .i64 (s : Int)) rfl rfl (by kernel_rfl) (by kernel_rfl) (by kernel_rfl) (fun _ _ _ h => h) rfl (fun W hW => exec_load rfl (run_load_one Try.underlying3 rfl (cell_of_here hW.cX 1 rfl))) S0.out ?_
  try simp only [Act.put, List.getElem_toArray, List.getElem_cons_succ, List.getElem_cons_zero, List.setIfInBounds_toArray, List.set_cons_zero, List.set_cons_succ]
  refine hm_run 15 20 (.int .i64 lo) rfl rfl (by kernel_rfl) (by kernel_rfl) (by kernel_rfl) (fun _ _ _ h => h) rfl (fun _ _ => exec_sub rfl rfl rfl HLO.out) S0.out ?_
  try simp only [Act.put, List.getElem_toArray, List.getElem_cons_succ, List.getElem_cons_zero, List.setIfInBounds_toArray, List.set_cons_zero, List.set_cons_succ]
  refine hm_run 16 21 (.int .i64 mn) rfl rfl (by kernel_rfl) (by kernel_rfl) (by kernel_rfl) (fun _ _ _ h => h) rfl (fun _ _ => exec_mini rfl rfl rfl rfl HMN.out) S0.out ?_
  try simp only [Act.put, List.getElem_toArray, List.getElem_cons_succ, List.getElem_cons_zero, List.setIfInBounds_toArray, List.set_cons_zero, List.set_cons_succ]
  refine hm_run 17 22 (.int .i64 (kk : Int)) rfl rfl (by kernel_rfl) (by kernel_rfl) (by kernel_rfl) (fun _ _ _ h => h) rfl (fun _ _ => exec_add rfl rfl rfl HE.out) S0.out ?_
  try simp only [Act.put, List.getElem_toArray, List.getElem_cons_succ, List.getElem_cons_zero, List.setIfInBounds_toArray, List.set_cons_zero, List.set_cons_succ]
  refine hm_run 18 4 (.int .i64 (kk : Int)) rfl rfl (by kernel_rfl) (by kernel_rfl) (by kernel_rfl) (fun _ _ _ h => h) rfl (fun _ _ => rfl) S0.out ?_
  try simp only [Act.put, List.getElem_toArray, List.getElem_cons_succ, List.getElem_cons_zero, List.setIfInBounds_toArray, List.set_cons_zero, List.set_cons_succ]
  refine wpAnyH_done (by kernel_rfl) ?_ _
  have T2 := Lib.hid TT.out.1
  have F2 := Lib.hid TT.out.2
  clear TT S0
  have K6 := Lib.hid (Wb.fresh0 w5)
  go_wp2_with (first
    | ((with_reducible refine wpList_at 28 rfl ?_); refine mem_load_cell (Lib.hid (T2.out.call K6.out.mem.below).mem) 22 rfl (.tmp 27) rfl rfl List.mem_cons_self Try.underlying22 rfl (v := .slice p xs.length c) rfl ?_; try simp only [Act.put, List.setIfInBounds_toArray, List.set_cons_zero, List.set_cons_succ])
    | ((with_reducible refine wpList_at 30 rfl ?_); refine wpList_known4 rfl (.slice p kk c) _ (exec_sl rfl (SC.out _)) ?_; try simp only [Act.put, List.setIfInBounds_toArray, List.set_cons_zero, List.set_cons_succ])
    | ((with_reducible refine wpList_at 31 rfl ?_); refine wpList_wb rfl (.tmp 24) (.tmp 30) rfl K6 rfl rfl rfl (Lib.hid ((T2.out.row.less HN.out).below K6.out.mem.below)) (by have := HX.out; have := HN.out; simp; omega) ?_; intro p7 g7 c7 w7 zs Z7 K7; try simp only [Act.put, List.setIfInBounds_toArray, List.set_cons_zero, List.set_cons_succ])
    | ((with_reducible refine wpList_atn rfl ?_); refine wpList_setc (v := .slice p7 zs.length c7) (T2.out.call K7.out.mem.below).cX rfl 22 (.tmp 33) (.tmp 31) rfl rfl rfl (by kernel_rfl) rfl rfl rfl ?_; have T8 := Lib.hid (T2.out.turns F2.out K7.out); generalize w7.setCell ⟨bx, 0, none⟩ (.slice p7 zs.length c7) = w8 at *; obtain ⟨p8, g8, c8, T9, F9, L9⟩ := T8.out; have T10 := Lib.hid T9; have F10 := Lib.hid F9; have L10 := Lib.hid L9; clear T9 F9 L9 T8 K7)
    | ((with_reducible refine wpList_atn rfl ?_); refine wpList_setc (v := .int .i64 kk) T10.out.cX rfl 3 (.tmp 37) (.tmp 35) rfl rfl rfl (by kernel_rfl) rfl rfl rfl ?_; have T11 := Lib.hid (T10.out.set1 (x := kk)); have F11 := Lib.hid (F10.out.set 1 (.int .i64 kk)); generalize w8.setCell ⟨bx, 1, none⟩ (.int .i64 kk) = w9 at *; clear T10 F10)
    | ((with_reducible refine wpList_atn rfl ?_); refine wpList_setc (v := .int .i64 (-1)) T11.out.cX rfl 3 (.tmp 40) _ rfl rfl rfl (by kernel_rfl) rfl rfl rfl ?_))
  go_end0
  refine ⟨rfl, ?_⟩
  rw [show xs.take kk = zs by rw [Z7.out, List.nil_append]; conv => lhs; rw [← tl_lf xs]
                              exact tl_take _ HN.out]
  exact ⟨p8, g8, c8, T11.out.set3, F11.out.set _ _, L10.out⟩
end
end Go.Proofs.Ytlbbnaihhagfdaa
