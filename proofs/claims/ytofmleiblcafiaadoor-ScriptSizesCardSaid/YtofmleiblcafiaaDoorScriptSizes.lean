/- For every number and every slice of bytes: a kind takes just as many bytes as it says; the call returns true. The table of patterns is laid as the program's text lays it; the card ties it to that text. No other condition. -/
import Derived.Test.YtofmleiblcafiaaDoorPs
import Derived.Test.YtofmleiblcafiaaDoorTie
import Derived.Test.YtofmleiblcafiaaDoorCards
import Derived.ShutString
import Derived.ChangeOld
import Derived.Below
import Derived.SevenTiedAt
set_option linter.unusedVariables false
set_option linter.unusedSimpArgs false
namespace Go.Proofs.YtofmleiblcafiaaDoor.scriptSizes
open Go.ChangeShapes Go.WideShapes Go.ChangeAt Go.RowKit Go.Lib Go.Sort Go.Proofs.YtofmleiblcafiaaDoor

set_option maxRecDepth 100000
section
variable {ops : Array Oper} {rest : List Oper} {Q : Exit → Act → World → Prop} {op : Oper} {a : Act} {w w0 : World} {l : List (Nat × TypeId × Array Value)}
/-- A slice of written elements, in a new block. -/
theorem mem_bsn (E : Hid (Mem w0 l w)) (hw : Region.wanted op (yielded ops a.tmps) = true) {S T m : Nat} (parts : Array (Nat × Operand)) (ho : op.op = .buildSlice S m parts) {ps : Array (Nat × Value)} (hp : (parts.map fun (i, y) => (i, a.eval y)) = ps) {cs : Array Value}
    (hr : ∀ w : World, (Instr.buildSlice S m ps).run Tryd.prog w = .ok (.slice (some ⟨w.heap.size, 0, none⟩) m m) (w.alloc (.cells cs T)))
    (k : ∀ b w', Hid (Mem w0 ((b, T, cs) :: l) w') → wpList Tryd.prog ops Q rest (a.put op.dst (.slice (some ⟨b, 0, none⟩) m m)) w') : wpList Tryd.prog ops Q (op :: rest) a w := by
  refine wpList_known4 hw _ _ ?_ (k _ _ (Lib.hid (E.out.new T _)))
  unfold execOp
  simp only [ho, hp, Sem.run_bind, hr w, Result.andThen_ok]
  rfl
/-- Noughts. -/
theorem mem_zeros (E : Hid (Mem w0 l w)) (hw : Region.wanted op (yielded ops a.tmps) = true) (x y : Operand) (ho : op.op = .makeSlice 22 x y) (m : Nat) (hm : m ≤ maxLen) {k : Int} (hx : a.eval x = .int .i64 k) (hy : a.eval y = .int .i64 k)
    (hr : ∀ w : World, (Instr.makeSlice 22 (.int .i64 k) (.int .i64 k)).run Tryd.prog w = .ok (.slice (some ⟨w.heap.size, 0, none⟩) m m) (w.alloc (.cells (fbs (fun _ => 0) m).toArray 5)))
    (k : ∀ p g w', Hid (Own w.heap.size w' p g m m fun _ => 0) → Hid (Below w.heap.size w w') → wpList Tryd.prog ops Q rest (a.put op.dst (.slice p m m)) w') : wpList Tryd.prog ops Q (op :: rest) a w := by
  refine wpList_known4 hw _ _ ?_ (k _ _ _ (Lib.hid (own_new w (fun _ => 0) m hm fun _ => by omega)) (Lib.hid (below_new w _)))
  unfold execOp
  simp only [ho, hx, hy, Sem.run_bind, hr w, Result.andThen_ok]
  rfl
end
theorem run_five (w : World) : (Instr.buildSlice 34 5 #[(0, .int .i64 20), (1, .int .i64 20), (2, .int .i64 20), (3, .int .i64 32), (4, .int .i64 32)]).run Tryd.prog w = .ok (.slice (some ⟨w.heap.size, 0, none⟩) 5 5) (w.alloc (.cells #[.int .i64 20, .int .i64 20, .int .i64 20, .int .i64 32, .int .i64 32] 3)) := by kernel_rfl
theorem mk_some (j : Nat) (hj : j < 5) (b : List Nat) (h : b.length = cC j) : mkOf ((j + 1 : Nat) : Int) b = some (hL j ++ b ++ tL j) := mkOf_yes (by omega) rfl (by rw [cC_ok j hj]; simpa using h)
theorem mk_none (j : Nat) (hj : j < 5) (b : List Nat) (h : b.length ≠ cC j) : mkOf ((j + 1 : Nat) : Int) b = none := mkOf_no fun j' h' hk' => by
  obtain rfl : j' = j := by omega
  rw [cC_ok j' hj]
  simpa using h
theorem make20_0 (w : World) : (Instr.makeSlice 22 (.int .i64 20) (.int .i64 20)).run Tryd.prog w = .ok (.slice (some ⟨w.heap.size, 0, none⟩) 20 20) (w.alloc (.cells (fbs (fun _ => 0) 20).toArray 5)) := by kernel_rfl
set_option maxHeartbeats 8000000 in
theorem walk0 (W : World) (PL : Hid (PLaid W)) (a0 u rv : Int) (x1 : IntKind.u64.wrap a0 = u) (x3 : u.tmod 5 = rv) (x4 : IntKind.i64.wrap rv = 0) (a1 : Option Addr) (g1 o1 n1 c1 : Nat) (x1' : Nat → Nat) (R : Hid (Row W a1 g1 o1 n1 c1 x1')) (hn : n1 ≤ 140737488351232) :
    Calls Tryd.prog 6 #[.int .i64 a0, .slice a1 n1 c1] W fun e w' => e = .returned (.bool true) ∧ Below W.heap.size W w' := by
  have E := Lib.hid (Mem.nil W)
  obtain ⟨q, hq⟩ : ∃ q, q = decide (n1 = 20) := ⟨_, rfl⟩
  have HQ := Lib.hid (show (mkOf 1 (tl x1' n1)).isSome = q by
    by_cases h : n1 = 20
    · rw [show (mkOf 1 (tl x1' n1)) = _ from mk_some 0 (by omega) (tl x1' n1) (by rw [tl_length]; exact h), hq, decide_eq_true h]; rfl
    · rw [show (mkOf 1 (tl x1' n1)) = _ from mk_none 0 (by omega) (tl x1' n1) (by rw [tl_length]; exact h), hq, decide_eq_false h]; rfl)
  have HL : ((n1 : Int) == 20) = q := by
    rw [hq]
    by_cases h : n1 = 20
    · rw [decide_eq_true h]; simp; omega
    · rw [decide_eq_false h]; simp; omega
  have HZ := Lib.hid (show mkOf 1 (tl (fun _ => 0) 20) = some (hL 0 ++ tl (fun _ => 0) 20 ++ tL 0) from mk_some 0 (by omega) _ (tl_length _ _))
  have LZ := Lib.hid (show ((hL 0 ++ tl (fun _ => 0) 20 ++ tL 0).length : Int) > 20 by simp [tl_length, hL, tL]; try omega)
  clear hq
  go_enter Tryd.func6, Tryd.ntmps6
  clear E
  go_upto_region 2 with fail
  go_cut [0, 5] (fun s0 s5 wx => s0 = .int .i64 1 ∧ ∃ b, s5 = .slice (some ⟨b, 0, none⟩) 5 5 ∧ Hid (Mem W [(b, 3, #[.int .i64 20, .int .i64 20, .int .i64 20, .int .i64 32, .int .i64 32])] wx))
  case first =>
    go_wp2_with fail
    go_meet
    exact ⟨rfl, _, rfl, Lib.hid ((Mem.nil W).new 3 _)⟩
  case rest =>
  obtain ⟨rfl, b5, rfl, E⟩ := hcut
  clear x1 x3 x4
  go_wp2_with (first
    | ((with_reducible refine wpList_at 27 rfl ?_); refine wpList_ix (k := 1) (j := 0) Tryd.underlying34 (by kernel_rfl) (.tmp 24) (.tmp 26) rfl rfl rfl rfl (by omega) rfl ?_; try simp only [Act.put, List.setIfInBounds_toArray, List.set_cons_zero, List.set_cons_succ])
    | ((with_reducible refine wpList_at 39 rfl ?_); refine wpList_ix (k := 1) (j := 0) Tryd.underlying34 (by kernel_rfl) (.tmp 36) (.tmp 38) rfl rfl rfl rfl (by omega) rfl ?_; try simp only [Act.put, List.setIfInBounds_toArray, List.set_cons_zero, List.set_cons_succ])
    | ((with_reducible refine wpList_at 52 rfl ?_); refine wpList_ix (k := 1) (j := 0) Tryd.underlying34 (by kernel_rfl) (.tmp 49) (.tmp 51) rfl rfl rfl rfl (by omega) rfl ?_; try simp only [Act.put, List.setIfInBounds_toArray, List.set_cons_zero, List.set_cons_succ])
    | ((with_reducible refine wpList_at 28 rfl ?_); refine mem_load_cell E 3 rfl (.tmp 27) rfl rfl List.mem_cons_self Tryd.underlying3 rfl rfl ?_; try simp only [Act.put, List.setIfInBounds_toArray, List.set_cons_zero, List.set_cons_succ])
    | ((with_reducible refine wpList_at 40 rfl ?_); refine mem_load_cell E 3 rfl (.tmp 39) rfl rfl List.mem_cons_self Tryd.underlying3 rfl rfl ?_; try simp only [Act.put, List.setIfInBounds_toArray, List.set_cons_zero, List.set_cons_succ])
    | ((with_reducible refine wpList_at 53 rfl ?_); refine mem_load_cell E 3 rfl (.tmp 52) rfl rfl List.mem_cons_self Tryd.underlying3 rfl rfl ?_; try simp only [Act.put, List.setIfInBounds_toArray, List.set_cons_zero, List.set_cons_succ])
    | ((with_reducible refine wpList_at 29 rfl ?_); refine mem_zeros E rfl (.tmp 28) (.tmp 28) rfl 20 (by unfold maxLen; omega) rfl rfl make20_0 ?_; intro p6 g6 w6 N6 hb6; replace E := Lib.hid (E.out.call hb6.out); have R6 := Lib.hid N6.out.row; replace PL := Lib.hid (PL.out.below hb6.out); clear N6 hb6; try simp only [Act.put, List.setIfInBounds_toArray, List.set_cons_zero, List.set_cons_succ])
    | (go_at_call 17; refine (make_any (PL.out.below E.out.below) 1 (Lib.hid (R.out.below E.out.below)) hn).mono ?_; intro e w2 hE; obtain ⟨r2, ok2, p2, g2, c2, rfl, ho, hr, N, hb⟩ := hE; rw [HQ.out] at ho; subst ho; replace E := Lib.hid (E.out.call hb); have PL2 := Lib.hid (PL.out.below E.out.below); replace PL := PL2; clear PL2 hr N hb R)
    | (go_at_call 17; refine (make_any PL.out 1 R6 (by omega)).mono ?_; intro e w3 hE; obtain ⟨r3, ok3, p3, g3, c3, rfl, ho, hr, N, hb⟩ := hE; rw [HZ.out] at ho hr; subst ho hr; replace E := Lib.hid (E.out.call hb); have LZ2 := LZ.out; clear N hb R6))
  go_ret
  exact ⟨rfl, E.out.below⟩
theorem make20_1 (w : World) : (Instr.makeSlice 22 (.int .i64 20) (.int .i64 20)).run Tryd.prog w = .ok (.slice (some ⟨w.heap.size, 0, none⟩) 20 20) (w.alloc (.cells (fbs (fun _ => 0) 20).toArray 5)) := by kernel_rfl
set_option maxHeartbeats 8000000 in
theorem walk1 (W : World) (PL : Hid (PLaid W)) (a0 u rv : Int) (x1 : IntKind.u64.wrap a0 = u) (x3 : u.tmod 5 = rv) (x4 : IntKind.i64.wrap rv = 1) (a1 : Option Addr) (g1 o1 n1 c1 : Nat) (x1' : Nat → Nat) (R : Hid (Row W a1 g1 o1 n1 c1 x1')) (hn : n1 ≤ 140737488351232) :
    Calls Tryd.prog 6 #[.int .i64 a0, .slice a1 n1 c1] W fun e w' => e = .returned (.bool true) ∧ Below W.heap.size W w' := by
  have E := Lib.hid (Mem.nil W)
  obtain ⟨q, hq⟩ : ∃ q, q = decide (n1 = 20) := ⟨_, rfl⟩
  have HQ := Lib.hid (show (mkOf 2 (tl x1' n1)).isSome = q by
    by_cases h : n1 = 20
    · rw [show (mkOf 2 (tl x1' n1)) = _ from mk_some 1 (by omega) (tl x1' n1) (by rw [tl_length]; exact h), hq, decide_eq_true h]; rfl
    · rw [show (mkOf 2 (tl x1' n1)) = _ from mk_none 1 (by omega) (tl x1' n1) (by rw [tl_length]; exact h), hq, decide_eq_false h]; rfl)
  have HL : ((n1 : Int) == 20) = q := by
    rw [hq]
    by_cases h : n1 = 20
    · rw [decide_eq_true h]; simp; omega
    · rw [decide_eq_false h]; simp; omega
  have HZ := Lib.hid (show mkOf 2 (tl (fun _ => 0) 20) = some (hL 1 ++ tl (fun _ => 0) 20 ++ tL 1) from mk_some 1 (by omega) _ (tl_length _ _))
  have LZ := Lib.hid (show ((hL 1 ++ tl (fun _ => 0) 20 ++ tL 1).length : Int) > 20 by simp [tl_length, hL, tL]; try omega)
  clear hq
  go_enter Tryd.func6, Tryd.ntmps6
  clear E
  go_upto_region 2 with fail
  go_cut [0, 5] (fun s0 s5 wx => s0 = .int .i64 2 ∧ ∃ b, s5 = .slice (some ⟨b, 0, none⟩) 5 5 ∧ Hid (Mem W [(b, 3, #[.int .i64 20, .int .i64 20, .int .i64 20, .int .i64 32, .int .i64 32])] wx))
  case first =>
    go_wp2_with fail
    go_meet
    exact ⟨rfl, _, rfl, Lib.hid ((Mem.nil W).new 3 _)⟩
  case rest =>
  obtain ⟨rfl, b5, rfl, E⟩ := hcut
  clear x1 x3 x4
  go_wp2_with (first
    | ((with_reducible refine wpList_at 27 rfl ?_); refine wpList_ix (k := 1) (j := 1) Tryd.underlying34 (by kernel_rfl) (.tmp 24) (.tmp 26) rfl rfl rfl rfl (by omega) rfl ?_; try simp only [Act.put, List.setIfInBounds_toArray, List.set_cons_zero, List.set_cons_succ])
    | ((with_reducible refine wpList_at 39 rfl ?_); refine wpList_ix (k := 1) (j := 1) Tryd.underlying34 (by kernel_rfl) (.tmp 36) (.tmp 38) rfl rfl rfl rfl (by omega) rfl ?_; try simp only [Act.put, List.setIfInBounds_toArray, List.set_cons_zero, List.set_cons_succ])
    | ((with_reducible refine wpList_at 52 rfl ?_); refine wpList_ix (k := 1) (j := 1) Tryd.underlying34 (by kernel_rfl) (.tmp 49) (.tmp 51) rfl rfl rfl rfl (by omega) rfl ?_; try simp only [Act.put, List.setIfInBounds_toArray, List.set_cons_zero, List.set_cons_succ])
    | ((with_reducible refine wpList_at 28 rfl ?_); refine mem_load_cell E 3 rfl (.tmp 27) rfl rfl List.mem_cons_self Tryd.underlying3 rfl rfl ?_; try simp only [Act.put, List.setIfInBounds_toArray, List.set_cons_zero, List.set_cons_succ])
    | ((with_reducible refine wpList_at 40 rfl ?_); refine mem_load_cell E 3 rfl (.tmp 39) rfl rfl List.mem_cons_self Tryd.underlying3 rfl rfl ?_; try simp only [Act.put, List.setIfInBounds_toArray, List.set_cons_zero, List.set_cons_succ])
    | ((with_reducible refine wpList_at 53 rfl ?_); refine mem_load_cell E 3 rfl (.tmp 52) rfl rfl List.mem_cons_self Tryd.underlying3 rfl rfl ?_; try simp only [Act.put, List.setIfInBounds_toArray, List.set_cons_zero, List.set_cons_succ])
    | ((with_reducible refine wpList_at 29 rfl ?_); refine mem_zeros E rfl (.tmp 28) (.tmp 28) rfl 20 (by unfold maxLen; omega) rfl rfl make20_1 ?_; intro p6 g6 w6 N6 hb6; replace E := Lib.hid (E.out.call hb6.out); have R6 := Lib.hid N6.out.row; replace PL := Lib.hid (PL.out.below hb6.out); clear N6 hb6; try simp only [Act.put, List.setIfInBounds_toArray, List.set_cons_zero, List.set_cons_succ])
    | (go_at_call 17; refine (make_any (PL.out.below E.out.below) 2 (Lib.hid (R.out.below E.out.below)) hn).mono ?_; intro e w2 hE; obtain ⟨r2, ok2, p2, g2, c2, rfl, ho, hr, N, hb⟩ := hE; rw [HQ.out] at ho; subst ho; replace E := Lib.hid (E.out.call hb); have PL2 := Lib.hid (PL.out.below E.out.below); replace PL := PL2; clear PL2 hr N hb R)
    | (go_at_call 17; refine (make_any PL.out 2 R6 (by omega)).mono ?_; intro e w3 hE; obtain ⟨r3, ok3, p3, g3, c3, rfl, ho, hr, N, hb⟩ := hE; rw [HZ.out] at ho hr; subst ho hr; replace E := Lib.hid (E.out.call hb); have LZ2 := LZ.out; clear N hb R6))
  go_ret
  exact ⟨rfl, E.out.below⟩
theorem make20_2 (w : World) : (Instr.makeSlice 22 (.int .i64 20) (.int .i64 20)).run Tryd.prog w = .ok (.slice (some ⟨w.heap.size, 0, none⟩) 20 20) (w.alloc (.cells (fbs (fun _ => 0) 20).toArray 5)) := by kernel_rfl
set_option maxHeartbeats 8000000 in
theorem walk2 (W : World) (PL : Hid (PLaid W)) (a0 u rv : Int) (x1 : IntKind.u64.wrap a0 = u) (x3 : u.tmod 5 = rv) (x4 : IntKind.i64.wrap rv = 2) (a1 : Option Addr) (g1 o1 n1 c1 : Nat) (x1' : Nat → Nat) (R : Hid (Row W a1 g1 o1 n1 c1 x1')) (hn : n1 ≤ 140737488351232) :
    Calls Tryd.prog 6 #[.int .i64 a0, .slice a1 n1 c1] W fun e w' => e = .returned (.bool true) ∧ Below W.heap.size W w' := by
  have E := Lib.hid (Mem.nil W)
  obtain ⟨q, hq⟩ : ∃ q, q = decide (n1 = 20) := ⟨_, rfl⟩
  have HQ := Lib.hid (show (mkOf 3 (tl x1' n1)).isSome = q by
    by_cases h : n1 = 20
    · rw [show (mkOf 3 (tl x1' n1)) = _ from mk_some 2 (by omega) (tl x1' n1) (by rw [tl_length]; exact h), hq, decide_eq_true h]; rfl
    · rw [show (mkOf 3 (tl x1' n1)) = _ from mk_none 2 (by omega) (tl x1' n1) (by rw [tl_length]; exact h), hq, decide_eq_false h]; rfl)
  have HL : ((n1 : Int) == 20) = q := by
    rw [hq]
    by_cases h : n1 = 20
    · rw [decide_eq_true h]; simp; omega
    · rw [decide_eq_false h]; simp; omega
  have HZ := Lib.hid (show mkOf 3 (tl (fun _ => 0) 20) = some (hL 2 ++ tl (fun _ => 0) 20 ++ tL 2) from mk_some 2 (by omega) _ (tl_length _ _))
  have LZ := Lib.hid (show ((hL 2 ++ tl (fun _ => 0) 20 ++ tL 2).length : Int) > 20 by simp [tl_length, hL, tL]; try omega)
  clear hq
  go_enter Tryd.func6, Tryd.ntmps6
  clear E
  go_upto_region 2 with fail
  go_cut [0, 5] (fun s0 s5 wx => s0 = .int .i64 3 ∧ ∃ b, s5 = .slice (some ⟨b, 0, none⟩) 5 5 ∧ Hid (Mem W [(b, 3, #[.int .i64 20, .int .i64 20, .int .i64 20, .int .i64 32, .int .i64 32])] wx))
  case first =>
    go_wp2_with fail
    go_meet
    exact ⟨rfl, _, rfl, Lib.hid ((Mem.nil W).new 3 _)⟩
  case rest =>
  obtain ⟨rfl, b5, rfl, E⟩ := hcut
  clear x1 x3 x4
  go_wp2_with (first
    | ((with_reducible refine wpList_at 27 rfl ?_); refine wpList_ix (k := 1) (j := 2) Tryd.underlying34 (by kernel_rfl) (.tmp 24) (.tmp 26) rfl rfl rfl rfl (by omega) rfl ?_; try simp only [Act.put, List.setIfInBounds_toArray, List.set_cons_zero, List.set_cons_succ])
    | ((with_reducible refine wpList_at 39 rfl ?_); refine wpList_ix (k := 1) (j := 2) Tryd.underlying34 (by kernel_rfl) (.tmp 36) (.tmp 38) rfl rfl rfl rfl (by omega) rfl ?_; try simp only [Act.put, List.setIfInBounds_toArray, List.set_cons_zero, List.set_cons_succ])
    | ((with_reducible refine wpList_at 52 rfl ?_); refine wpList_ix (k := 1) (j := 2) Tryd.underlying34 (by kernel_rfl) (.tmp 49) (.tmp 51) rfl rfl rfl rfl (by omega) rfl ?_; try simp only [Act.put, List.setIfInBounds_toArray, List.set_cons_zero, List.set_cons_succ])
    | ((with_reducible refine wpList_at 28 rfl ?_); refine mem_load_cell E 3 rfl (.tmp 27) rfl rfl List.mem_cons_self Tryd.underlying3 rfl rfl ?_; try simp only [Act.put, List.setIfInBounds_toArray, List.set_cons_zero, List.set_cons_succ])
    | ((with_reducible refine wpList_at 40 rfl ?_); refine mem_load_cell E 3 rfl (.tmp 39) rfl rfl List.mem_cons_self Tryd.underlying3 rfl rfl ?_; try simp only [Act.put, List.setIfInBounds_toArray, List.set_cons_zero, List.set_cons_succ])
    | ((with_reducible refine wpList_at 53 rfl ?_); refine mem_load_cell E 3 rfl (.tmp 52) rfl rfl List.mem_cons_self Tryd.underlying3 rfl rfl ?_; try simp only [Act.put, List.setIfInBounds_toArray, List.set_cons_zero, List.set_cons_succ])
    | ((with_reducible refine wpList_at 29 rfl ?_); refine mem_zeros E rfl (.tmp 28) (.tmp 28) rfl 20 (by unfold maxLen; omega) rfl rfl make20_2 ?_; intro p6 g6 w6 N6 hb6; replace E := Lib.hid (E.out.call hb6.out); have R6 := Lib.hid N6.out.row; replace PL := Lib.hid (PL.out.below hb6.out); clear N6 hb6; try simp only [Act.put, List.setIfInBounds_toArray, List.set_cons_zero, List.set_cons_succ])
    | (go_at_call 17; refine (make_any (PL.out.below E.out.below) 3 (Lib.hid (R.out.below E.out.below)) hn).mono ?_; intro e w2 hE; obtain ⟨r2, ok2, p2, g2, c2, rfl, ho, hr, N, hb⟩ := hE; rw [HQ.out] at ho; subst ho; replace E := Lib.hid (E.out.call hb); have PL2 := Lib.hid (PL.out.below E.out.below); replace PL := PL2; clear PL2 hr N hb R)
    | (go_at_call 17; refine (make_any PL.out 3 R6 (by omega)).mono ?_; intro e w3 hE; obtain ⟨r3, ok3, p3, g3, c3, rfl, ho, hr, N, hb⟩ := hE; rw [HZ.out] at ho hr; subst ho hr; replace E := Lib.hid (E.out.call hb); have LZ2 := LZ.out; clear N hb R6))
  go_ret
  exact ⟨rfl, E.out.below⟩
theorem make32_3 (w : World) : (Instr.makeSlice 22 (.int .i64 32) (.int .i64 32)).run Tryd.prog w = .ok (.slice (some ⟨w.heap.size, 0, none⟩) 32 32) (w.alloc (.cells (fbs (fun _ => 0) 32).toArray 5)) := by kernel_rfl
set_option maxHeartbeats 8000000 in
theorem walk3 (W : World) (PL : Hid (PLaid W)) (a0 u rv : Int) (x1 : IntKind.u64.wrap a0 = u) (x3 : u.tmod 5 = rv) (x4 : IntKind.i64.wrap rv = 3) (a1 : Option Addr) (g1 o1 n1 c1 : Nat) (x1' : Nat → Nat) (R : Hid (Row W a1 g1 o1 n1 c1 x1')) (hn : n1 ≤ 140737488351232) :
    Calls Tryd.prog 6 #[.int .i64 a0, .slice a1 n1 c1] W fun e w' => e = .returned (.bool true) ∧ Below W.heap.size W w' := by
  have E := Lib.hid (Mem.nil W)
  obtain ⟨q, hq⟩ : ∃ q, q = decide (n1 = 32) := ⟨_, rfl⟩
  have HQ := Lib.hid (show (mkOf 4 (tl x1' n1)).isSome = q by
    by_cases h : n1 = 32
    · rw [show (mkOf 4 (tl x1' n1)) = _ from mk_some 3 (by omega) (tl x1' n1) (by rw [tl_length]; exact h), hq, decide_eq_true h]; rfl
    · rw [show (mkOf 4 (tl x1' n1)) = _ from mk_none 3 (by omega) (tl x1' n1) (by rw [tl_length]; exact h), hq, decide_eq_false h]; rfl)
  have HL : ((n1 : Int) == 32) = q := by
    rw [hq]
    by_cases h : n1 = 32
    · rw [decide_eq_true h]; simp; omega
    · rw [decide_eq_false h]; simp; omega
  have HZ := Lib.hid (show mkOf 4 (tl (fun _ => 0) 32) = some (hL 3 ++ tl (fun _ => 0) 32 ++ tL 3) from mk_some 3 (by omega) _ (tl_length _ _))
  have LZ := Lib.hid (show ((hL 3 ++ tl (fun _ => 0) 32 ++ tL 3).length : Int) > 32 by simp [tl_length, hL, tL]; try omega)
  clear hq
  go_enter Tryd.func6, Tryd.ntmps6
  clear E
  go_upto_region 2 with fail
  go_cut [0, 5] (fun s0 s5 wx => s0 = .int .i64 4 ∧ ∃ b, s5 = .slice (some ⟨b, 0, none⟩) 5 5 ∧ Hid (Mem W [(b, 3, #[.int .i64 20, .int .i64 20, .int .i64 20, .int .i64 32, .int .i64 32])] wx))
  case first =>
    go_wp2_with fail
    go_meet
    exact ⟨rfl, _, rfl, Lib.hid ((Mem.nil W).new 3 _)⟩
  case rest =>
  obtain ⟨rfl, b5, rfl, E⟩ := hcut
  clear x1 x3 x4
  go_wp2_with (first
    | ((with_reducible refine wpList_at 27 rfl ?_); refine wpList_ix (k := 1) (j := 3) Tryd.underlying34 (by kernel_rfl) (.tmp 24) (.tmp 26) rfl rfl rfl rfl (by omega) rfl ?_; try simp only [Act.put, List.setIfInBounds_toArray, List.set_cons_zero, List.set_cons_succ])
    | ((with_reducible refine wpList_at 39 rfl ?_); refine wpList_ix (k := 1) (j := 3) Tryd.underlying34 (by kernel_rfl) (.tmp 36) (.tmp 38) rfl rfl rfl rfl (by omega) rfl ?_; try simp only [Act.put, List.setIfInBounds_toArray, List.set_cons_zero, List.set_cons_succ])
    | ((with_reducible refine wpList_at 52 rfl ?_); refine wpList_ix (k := 1) (j := 3) Tryd.underlying34 (by kernel_rfl) (.tmp 49) (.tmp 51) rfl rfl rfl rfl (by omega) rfl ?_; try simp only [Act.put, List.setIfInBounds_toArray, List.set_cons_zero, List.set_cons_succ])
    | ((with_reducible refine wpList_at 28 rfl ?_); refine mem_load_cell E 3 rfl (.tmp 27) rfl rfl List.mem_cons_self Tryd.underlying3 rfl rfl ?_; try simp only [Act.put, List.setIfInBounds_toArray, List.set_cons_zero, List.set_cons_succ])
    | ((with_reducible refine wpList_at 40 rfl ?_); refine mem_load_cell E 3 rfl (.tmp 39) rfl rfl List.mem_cons_self Tryd.underlying3 rfl rfl ?_; try simp only [Act.put, List.setIfInBounds_toArray, List.set_cons_zero, List.set_cons_succ])
    | ((with_reducible refine wpList_at 53 rfl ?_); refine mem_load_cell E 3 rfl (.tmp 52) rfl rfl List.mem_cons_self Tryd.underlying3 rfl rfl ?_; try simp only [Act.put, List.setIfInBounds_toArray, List.set_cons_zero, List.set_cons_succ])
    | ((with_reducible refine wpList_at 29 rfl ?_); refine mem_zeros E rfl (.tmp 28) (.tmp 28) rfl 32 (by unfold maxLen; omega) rfl rfl make32_3 ?_; intro p6 g6 w6 N6 hb6; replace E := Lib.hid (E.out.call hb6.out); have R6 := Lib.hid N6.out.row; replace PL := Lib.hid (PL.out.below hb6.out); clear N6 hb6; try simp only [Act.put, List.setIfInBounds_toArray, List.set_cons_zero, List.set_cons_succ])
    | (go_at_call 17; refine (make_any (PL.out.below E.out.below) 4 (Lib.hid (R.out.below E.out.below)) hn).mono ?_; intro e w2 hE; obtain ⟨r2, ok2, p2, g2, c2, rfl, ho, hr, N, hb⟩ := hE; rw [HQ.out] at ho; subst ho; replace E := Lib.hid (E.out.call hb); have PL2 := Lib.hid (PL.out.below E.out.below); replace PL := PL2; clear PL2 hr N hb R)
    | (go_at_call 17; refine (make_any PL.out 4 R6 (by omega)).mono ?_; intro e w3 hE; obtain ⟨r3, ok3, p3, g3, c3, rfl, ho, hr, N, hb⟩ := hE; rw [HZ.out] at ho hr; subst ho hr; replace E := Lib.hid (E.out.call hb); have LZ2 := LZ.out; clear N hb R6))
  go_ret
  exact ⟨rfl, E.out.below⟩
theorem make32_4 (w : World) : (Instr.makeSlice 22 (.int .i64 32) (.int .i64 32)).run Tryd.prog w = .ok (.slice (some ⟨w.heap.size, 0, none⟩) 32 32) (w.alloc (.cells (fbs (fun _ => 0) 32).toArray 5)) := by kernel_rfl
set_option maxHeartbeats 8000000 in
theorem walk4 (W : World) (PL : Hid (PLaid W)) (a0 u rv : Int) (x1 : IntKind.u64.wrap a0 = u) (x3 : u.tmod 5 = rv) (x4 : IntKind.i64.wrap rv = 4) (a1 : Option Addr) (g1 o1 n1 c1 : Nat) (x1' : Nat → Nat) (R : Hid (Row W a1 g1 o1 n1 c1 x1')) (hn : n1 ≤ 140737488351232) :
    Calls Tryd.prog 6 #[.int .i64 a0, .slice a1 n1 c1] W fun e w' => e = .returned (.bool true) ∧ Below W.heap.size W w' := by
  have E := Lib.hid (Mem.nil W)
  obtain ⟨q, hq⟩ : ∃ q, q = decide (n1 = 32) := ⟨_, rfl⟩
  have HQ := Lib.hid (show (mkOf 5 (tl x1' n1)).isSome = q by
    by_cases h : n1 = 32
    · rw [show (mkOf 5 (tl x1' n1)) = _ from mk_some 4 (by omega) (tl x1' n1) (by rw [tl_length]; exact h), hq, decide_eq_true h]; rfl
    · rw [show (mkOf 5 (tl x1' n1)) = _ from mk_none 4 (by omega) (tl x1' n1) (by rw [tl_length]; exact h), hq, decide_eq_false h]; rfl)
  have HL : ((n1 : Int) == 32) = q := by
    rw [hq]
    by_cases h : n1 = 32
    · rw [decide_eq_true h]; simp; omega
    · rw [decide_eq_false h]; simp; omega
  have HZ := Lib.hid (show mkOf 5 (tl (fun _ => 0) 32) = some (hL 4 ++ tl (fun _ => 0) 32 ++ tL 4) from mk_some 4 (by omega) _ (tl_length _ _))
  have LZ := Lib.hid (show ((hL 4 ++ tl (fun _ => 0) 32 ++ tL 4).length : Int) > 32 by simp [tl_length, hL, tL]; try omega)
  clear hq
  go_enter Tryd.func6, Tryd.ntmps6
  clear E
  go_upto_region 2 with fail
  go_cut [0, 5] (fun s0 s5 wx => s0 = .int .i64 5 ∧ ∃ b, s5 = .slice (some ⟨b, 0, none⟩) 5 5 ∧ Hid (Mem W [(b, 3, #[.int .i64 20, .int .i64 20, .int .i64 20, .int .i64 32, .int .i64 32])] wx))
  case first =>
    go_wp2_with fail
    go_meet
    exact ⟨rfl, _, rfl, Lib.hid ((Mem.nil W).new 3 _)⟩
  case rest =>
  obtain ⟨rfl, b5, rfl, E⟩ := hcut
  clear x1 x3 x4
  go_wp2_with (first
    | ((with_reducible refine wpList_at 27 rfl ?_); refine wpList_ix (k := 1) (j := 4) Tryd.underlying34 (by kernel_rfl) (.tmp 24) (.tmp 26) rfl rfl rfl rfl (by omega) rfl ?_; try simp only [Act.put, List.setIfInBounds_toArray, List.set_cons_zero, List.set_cons_succ])
    | ((with_reducible refine wpList_at 39 rfl ?_); refine wpList_ix (k := 1) (j := 4) Tryd.underlying34 (by kernel_rfl) (.tmp 36) (.tmp 38) rfl rfl rfl rfl (by omega) rfl ?_; try simp only [Act.put, List.setIfInBounds_toArray, List.set_cons_zero, List.set_cons_succ])
    | ((with_reducible refine wpList_at 52 rfl ?_); refine wpList_ix (k := 1) (j := 4) Tryd.underlying34 (by kernel_rfl) (.tmp 49) (.tmp 51) rfl rfl rfl rfl (by omega) rfl ?_; try simp only [Act.put, List.setIfInBounds_toArray, List.set_cons_zero, List.set_cons_succ])
    | ((with_reducible refine wpList_at 28 rfl ?_); refine mem_load_cell E 3 rfl (.tmp 27) rfl rfl List.mem_cons_self Tryd.underlying3 rfl rfl ?_; try simp only [Act.put, List.setIfInBounds_toArray, List.set_cons_zero, List.set_cons_succ])
    | ((with_reducible refine wpList_at 40 rfl ?_); refine mem_load_cell E 3 rfl (.tmp 39) rfl rfl List.mem_cons_self Tryd.underlying3 rfl rfl ?_; try simp only [Act.put, List.setIfInBounds_toArray, List.set_cons_zero, List.set_cons_succ])
    | ((with_reducible refine wpList_at 53 rfl ?_); refine mem_load_cell E 3 rfl (.tmp 52) rfl rfl List.mem_cons_self Tryd.underlying3 rfl rfl ?_; try simp only [Act.put, List.setIfInBounds_toArray, List.set_cons_zero, List.set_cons_succ])
    | ((with_reducible refine wpList_at 29 rfl ?_); refine mem_zeros E rfl (.tmp 28) (.tmp 28) rfl 32 (by unfold maxLen; omega) rfl rfl make32_4 ?_; intro p6 g6 w6 N6 hb6; replace E := Lib.hid (E.out.call hb6.out); have R6 := Lib.hid N6.out.row; replace PL := Lib.hid (PL.out.below hb6.out); clear N6 hb6; try simp only [Act.put, List.setIfInBounds_toArray, List.set_cons_zero, List.set_cons_succ])
    | (go_at_call 17; refine (make_any (PL.out.below E.out.below) 5 (Lib.hid (R.out.below E.out.below)) hn).mono ?_; intro e w2 hE; obtain ⟨r2, ok2, p2, g2, c2, rfl, ho, hr, N, hb⟩ := hE; rw [HQ.out] at ho; subst ho; replace E := Lib.hid (E.out.call hb); have PL2 := Lib.hid (PL.out.below E.out.below); replace PL := PL2; clear PL2 hr N hb R)
    | (go_at_call 17; refine (make_any PL.out 5 R6 (by omega)).mono ?_; intro e w3 hE; obtain ⟨r3, ok3, p3, g3, c3, rfl, ho, hr, N, hb⟩ := hE; rw [HZ.out] at ho hr; subst ho hr; replace E := Lib.hid (E.out.call hb); have LZ2 := LZ.out; clear N hb R6))
  go_ret
  exact ⟨rfl, E.out.below⟩
theorem fifth (a : Int) : ∃ j : Nat, j < 5 ∧ IntKind.i64.wrap ((IntKind.u64.wrap a).tmod 5) = (j : Int) := by
  have h2 : 0 ≤ (a % 18446744073709551616) % 5 := Int.emod_nonneg _ (by omega)
  have h3 : (a % 18446744073709551616) % 5 < 5 := Int.emod_lt_of_pos _ (by omega)
  refine ⟨((a % 18446744073709551616) % 5).toNat, by omega, ?_⟩
  rw [IntKind.wrap_u64, Int.tmod_eq_emod_of_nonneg (by omega), Int.toNat_of_nonneg h2, IntKind.wrap_i64]
  omega
theorem walk (W : World) (hL : laidMetH Tryd.prog patLaid W) (a0 : Int) (w0 : (Lit.int .i64 a0).wf = true) (a1 : Option Addr) (g1 o1 n1 c1 : Nat) (x1 : Nat → Nat) (w1 : Row W a1 g1 o1 n1 c1 x1) (m1 : c1 ≤ 140737488351232) :
    Calls Tryd.prog 6 #[.int .i64 a0, .slice a1 n1 c1] W fun e w' => e = .returned (.bool true) ∧ Below W.heap.size W w' := by
  have PL := Lib.hid (of_pat hL)
  have hn : n1 ≤ 140737488351232 := Nat.le_trans w1.le m1
  have R := Lib.hid w1
  obtain ⟨j, hj, hj2⟩ := fifth a0
  match j, hj with
  | 0, _ => exact walk0 W PL a0 _ _ rfl rfl hj2 a1 g1 o1 n1 c1 x1 R hn
  | 1, _ => exact walk1 W PL a0 _ _ rfl rfl hj2 a1 g1 o1 n1 c1 x1 R hn
  | 2, _ => exact walk2 W PL a0 _ _ rfl rfl hj2 a1 g1 o1 n1 c1 x1 R hn
  | 3, _ => exact walk3 W PL a0 _ _ rfl rfl hj2 a1 g1 o1 n1 c1 x1 R hn
  | 4, _ => exact walk4 W PL a0 _ _ rfl rfl hj2 a1 g1 o1 n1 c1 x1 R hn

set_option maxRecDepth 100000 in
theorem lifted (os : Os) (started : os.Started) (H : Type) (enc : TypeId × Value → H) :
    ReturnsInHanded {} Tryd.checked os 6 .any (fun w args => (Rows.scriptSizesSpec.pre enc Tryd.prog Tryd.f6 [] false w args ∧ laidMetH Tryd.prog patLaid w) ∧ sizedMet enc Tryd.prog Tryd.f6 (OpenSpec.ofChange Rows.scriptSizesSpec) false w args)
      (Rows.scriptSizesSpec.post enc Tryd.prog Tryd.f6 false true false false) := by
  refine returnsInHanded_of_change_and (C := Tryd.checked) (X := fun w _ => laidMetH Tryd.prog patLaid w) (fun _ _ _ hh h => h.of_heap hh) own started (by kernel_rfl) Tryd.func6
    (ChangeSpec.witness_shaped (enc := enc) (C := Tryd.checked) (os := os) (X := fun w _ => laidMetH Tryd.prog patLaid w) false (World.doorLaid Tryd.prog 400 os) #[.int .i64 0, .slice none 0 0] 8 rfl (World.shaped_of_RefB (by kernel_rfl) (by kernel_rfl)) (by kernel_rfl) (by kernel_rfl) (by kernel_rfl) (pat_door_met os _)) ?_
  intro W base args ds gs before hval0 hW _ hsz0 hL _
  have hval : ∀ (j : Nat) t v, Tryd.f6.params[j]? = some t → args[j]? = some v → Value.okWide Tryd.prog W .any base t v := hval0
  have hsz : (DataW.weightsEach Tryd.prog (Tryd.f6.params.toList ++ Rows.scriptSizesSpec.plain.varTypes Tryd.prog) (ds ++ gs)).all (· ≤ reachBytes) = true := hsz0
  have hW' := hW
  obtain ⟨p, q, hA0, hV, rfl, hfz, hnd⟩ := hW
  have hA : DataW.TrodAll enc Tryd.prog W 0 (fun _ => true) true Tryd.f6.params.toList args.toList ds p := hA0
  rw [Tryd.params6] at hA hval hsz
  obtain ⟨v0, vs0, d0, ds0, p0, q0, hargs, rfl, rfl, h0, r0⟩ := trodAll_cons hA
  obtain ⟨v1, vs1, d1, ds1, p1, q1, rfl, rfl, rfl, h1, r1⟩ := trodAll_cons r0
  obtain ⟨rfl, rfl, rfl⟩ := trodAll_nil r1
  obtain rfl : args = #[v0, v1] := by cases args; simp_all
  obtain ⟨rfl, rfl⟩ := trodVars_none hV
  obtain ⟨a0, rfl, rfl, rfl, w0⟩ := open_int Tryd.underlying3 (hval 0 3 v0 rfl rfl) h0
  have k1 := h1
  have lt1 : ∀ x ∈ p1, x.block < W.heap.size := by obtain ⟨m, hm⟩ := k1; exact DataW.trod_lt m _ _ _ hm
  obtain ⟨a1, g1, o1, n1, c1, x1, rfl, w1, m1⟩ := open_row (j := 1) (hval 1 22 v1 rfl rfl) h1 hsz rfl rfl
  clear hA0 hval0 hsz0
  simp only [List.append_nil] at hW'
  refine (walk W hL a0 w0 a1 g1 o1 n1 c1 x1 w1 m1).mono fun e W' ⟨he, bel⟩ => ?_
  subst he
  exact ⟨_, rfl, _, _, _, [], _, [], hW', trodAll_mk1 (shut_bool Tryd.underlying4 _), (trodAll_cons_mk (shut_int Tryd.underlying3 w0) (trodAll_cons_mk (Below.trod laidOut (by kernel_rfl) (of_decide_eq_true (by kernel_rfl)) k1 bel lt1) trodAll_mk0)), rfl, bel.frame _, fun h => by cases h⟩

theorem over : Rows.ScriptSizesSaid :=
  OpenClaim.holds_of_wide 6 Tryd.f6 rfl rfl rfl rfl rfl rfl rfl ⟨rfl, rfl, rfl, rfl, rfl⟩ rfl rfl rfl rfl rfl (by kernel_rfl) Tryd.func6 (by kernel_rfl)
    (of_decide_eq_true (by kernel_rfl)) (by unfold Func.isWrapper; first | (rw [if_pos (by decide +kernel)]; kernel_rfl) | (rw [if_neg (by decide +kernel)]; exact ⟨rfl, rfl⟩))
    (fun os started H enc _ => lifted os started H enc)

/-- The tied card. -/
theorem card_holds : Rows.ScriptSizesCardSaid :=
  Claim7.holds_tied_plain_at .later [] [.data] true (true, "b32e7a9d5d5d1f98a55fc2d6bc5609c027a3105d4a9a0737bc6d65fbf460a3fe") false
    over (fun _ h => by cases h) (by kernel_rfl) (fun _ h => by cases h) scriptSizes_row_tie rfl ⟨rfl, rfl⟩ (by kernel_rfl) rfl
    (fun f fn hf hfn => by
      obtain rfl : f = 6 := Option.some.inj ((show Tryd.prog.funcNamed "sporran/sporranlaw13.ScriptSizes" = some 6 by kernel_rfl).symm.trans hf) |>.symm
      obtain rfl : fn = Tryd.f6 := (Option.some.inj (Tryd.func6.symm.trans hfn)).symm
      exact ⟨by kernel_rfl, fun j t ht => by
        rw [Tryd.params6] at ht
        have hm : t ∈ [3, 22] := by simpa using Array.mem_of_getElem? ht
        have hall : ([3, 22].all fun u => !Tryd.prog.wantsStandIn u) = true := by kernel_rfl
        exact (show Tryd.prog.wantsStandIn t = false by simpa using List.all_eq_true.1 hall t hm)⟩)
    (by kernel_rfl)
#print axioms card_holds
end Go.Proofs.YtofmleiblcafiaaDoor.scriptSizes
