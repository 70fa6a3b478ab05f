/- The sum of coins: the program's, the document's. -/
import Derived.Test.YtoopcmcmjaikhaaCa
import Derived.Deep.LoopGhost
set_option linter.unusedSimpArgs false
set_option linter.unusedVariables false
set_option maxRecDepth 100000
namespace Go.Proofs.Ytoopcmcmjaikhaa
open Go.RowKit Go.Lib Go.Sort

/-- The sum of values behind one, or none: it goes over. -/
def sumF : Int → List Int → Option Int
  | s, [] => some s
  | s, z :: r => if z < 0 ∨ 9223372036854775807 - s < z then none else sumF (s + z) r
def sumR (l : List Int) : Int × Bool := match sumF 0 l with
  | some s => (s, true)
  | none => (0, false)
theorem wpList_at {P : Program} {ops : Array Oper} {rest : List Oper} {Q : Exit → Act → World → Prop} {op : Oper} {a : Act} {w : World} (t : Nat) (hd : op.dst = some t) (h : wpList P ops Q (op :: rest) a w) : wpList P ops Q (op :: rest) a w := h
theorem wpList_nd {P : Program} {ops : Array Oper} {rest : List Oper} {Q : Exit → Act → World → Prop} {op : Oper} {a : Act} {w : World} (hd : op.dst = none) (h : wpList P ops Q (op :: rest) a w) : wpList P ops Q (op :: rest) a w := h
theorem wpList_kn {P : Program} {ops : Array Oper} {rest : List Oper} {Q : Exit → Act → World → Prop} {op : Oper} {a : Act} {w : World} (hw : Region.wanted op (yielded ops a.tmps) = true) (v : Value) (hrun : (execOp a.eval op).run P w = .ok (.value v) w) (h : wpList P ops Q rest (a.put op.dst v) w) : wpList P ops Q (op :: rest) a w := BigFrame.wpList_want hw fun K hK => mo_known v w hrun (hK _ _ h)
theorem exec_lss3 {o : Oper} {ev : Operand → Value} {W : World} {x y : Operand} {a b : Int} {q : Bool} (ho : o.op = .binOp .lss 3 x y 3) (hx : ev x = .int .i64 a) (hy : ev y = .int .i64 b) (hq : decide (a < b) = q) : (execOp ev o).run Try.prog W = .ok (.value (.bool q)) W := by
  subst hq
  unfold execOp
  simp [ho, hx, hy, go_sem, Try.underlying3]
theorem exec_lss2 {o : Oper} {ev : Operand → Value} {W : World} {x y : Operand} {a b : Int} {q : Bool} (ho : o.op = .binOp .lss 2 x y 2) (hx : ev x = .int .i64 a) (hy : ev y = .int .i64 b) (hq : decide (a < b) = q) : (execOp ev o).run Try.prog W = .ok (.value (.bool q)) W := by
  subst hq
  unfold execOp
  simp [ho, hx, hy, go_sem, Try.underlying2]
theorem exec_gtr2 {o : Oper} {ev : Operand → Value} {W : World} {x y : Operand} {a b : Int} {q : Bool} (ho : o.op = .binOp .gtr 2 x y 2) (hx : ev x = .int .i64 a) (hy : ev y = .int .i64 b) (hq : decide (b < a) = q) : (execOp ev o).run Try.prog W = .ok (.value (.bool q)) W := by
  subst hq
  unfold execOp
  simp [ho, hx, hy, go_sem, Try.underlying2]
theorem exec_sub2 {o : Oper} {ev : Operand → Value} {W : World} {x y : Operand} {a b c : Int} (ho : o.op = .binOp .sub 2 x y 2) (hx : ev x = .int .i64 a) (hy : ev y = .int .i64 b) (hq : IntKind.i64.wrap (a - b) = c) : (execOp ev o).run Try.prog W = .ok (.value (.int .i64 c)) W := by
  subst hq
  unfold execOp
  simp [ho, hx, hy, go_sem, Try.underlying2]
theorem exec_add2 {o : Oper} {ev : Operand → Value} {W : World} {x y : Operand} {a b c : Int} (ho : o.op = .binOp .add 2 x y 2) (hx : ev x = .int .i64 a) (hy : ev y = .int .i64 b) (hq : IntKind.i64.wrap (a + b) = c) : (execOp ev o).run Try.prog W = .ok (.value (.int .i64 c)) W := by
  subst hq
  unfold execOp
  simp [ho, hx, hy, go_sem, Try.underlying2]
theorem exec_add3 {o : Oper} {ev : Operand → Value} {W : World} {x y : Operand} {a b c : Int} (ho : o.op = .binOp .add 3 x y 3) (hx : ev x = .int .i64 a) (hy : ev y = .int .i64 b) (hq : IntKind.i64.wrap (a + b) = c) : (execOp ev o).run Try.prog W = .ok (.value (.int .i64 c)) W := by
  subst hq
  unfold execOp
  simp [ho, hx, hy, go_sem, Try.underlying3]
theorem exec_eq2 {o : Oper} {ev : Operand → Value} {W : World} {x y : Operand} {a : Int} (ho : o.op = .binOp .eql 2 x y 2) (hx : ev x = .int .i64 a) (hy : ev y = .int .i64 a) : (execOp ev o).run Try.prog W = .ok (.value (.bool true)) W := by
  unfold execOp
  simp [ho, hx, hy, go_sem, Try.underlying2]
theorem exec_eqb {o : Oper} {ev : Operand → Value} {W : World} {x y : Operand} {a : Bool} (ho : o.op = .binOp .eql 4 x y 4) (hx : ev x = .bool a) (hy : ev y = .bool a) : (execOp ev o).run Try.prog W = .ok (.value (.bool true)) W := by
  unfold execOp
  simp [ho, hx, hy, go_sem, Try.underlying4]
theorem infoCoin : ∃ z : Array Value, z.size = 36 ∧ (Try.prog.info? 35).map (fun i => (i.zero, i.size)) = some (some (.agg z), 36) := ⟨(((Try.prog.info? 35).bind (fun i => i.zero)).getD undef).cells, by kernel_rfl, by kernel_rfl⟩
theorem all_36 {V : Nat → Value} (h : ∀ j, j < 36 → (V j).oneCell' = true) : (arr 36 V).all (·.oneCell') = true := Array.all_eq_true_iff_forall_mem.2 fun v hv => by
  obtain ⟨j, hj, rfl⟩ := Array.getElem_of_mem hv
  rw [arr_size] at hj
  have e : (arr 36 V)[j]? = some (V j) := arr_get 36 V j hj
  rw [Array.getElem?_eq_getElem (by rw [arr_size]; exact hj)] at e
  injection e with e
  rw [e]
  exact h j hj
set_option maxHeartbeats 4000000 in
theorem asum_any {w : World} {v : Value} {l : List Int} (A : Hid (CoinsAt w v l)) : Calls Try.prog 4 #[v] w fun e w' => e = .returned (.tuple #[.int .i64 (sumR l).1, .bool (sumR l).2]) ∧ Below w.heap.size w w' := by
  obtain ⟨p, g, o, c, V, hv, hc, R0, hi⟩ := A.out
  subst hv
  have RR := Lib.hid R0
  have TT := Lib.hid hi
  obtain ⟨z0, hz0, hzi⟩ := infoCoin
  have ZI := Lib.hid hzi
  have ZS := Lib.hid hz0
  have cn : l.length ≤ c := R0.le
  obtain ⟨n, hn⟩ : ∃ n, n = l.length := ⟨_, rfl⟩
  have HN := Lib.hid (show n = l.length ∧ n ≤ 140737488355328 from ⟨hn, by omega⟩)
  rw [← hn] at RR ⊢
  obtain ⟨S, hS⟩ : ∃ S, S = sumR l := ⟨_, rfl⟩
  have HS := Lib.hid (show (match sumF 0 l with | some s => (s, true) | none => (0, false)) = S from hS.symm)
  rw [← hS]
  clear R0 hi A hzi hz0 cn hn hc hS
  go_enter Try.func4, Try.ntmps4
  go_wp2
  go_loopg [4, 9] n (fun k s4 s9 wr => ∃ (j : Nat) (s : Int), j + k = n ∧ s4 = .int .i64 s ∧ s9 = .int .i64 (j : Int) ∧ Hid (0 ≤ s ∧ s ≤ 9223372036854775807) ∧ Hid ((match sumF s (l.drop j) with | some s => (s, true) | none => (0, false)) = S) ∧ Hid (Below w.heap.size w wr))
  case atStart => exact ⟨0, 0, by omega, rfl, rfl, Lib.hid ⟨by omega, by omega⟩, HS, Lib.hid (Below.refl _ _)⟩
  case round =>
    clear HS
    obtain ⟨j, s, hj, rfl, rfl, HB, HS, B⟩ := hrel
    obtain ⟨kk, rfl⟩ : ∃ kk : Nat, kk = gk := ⟨_, rfl⟩
    by_cases hlt : j < n
    · have LT := Lib.hid (show decide ((j : Int) < (n : Int)) = true from decide_eq_true (by omega))
      obtain rfl := RR.out.head (by omega)
      have ht : j < l.length := by rw [← HN.out.1]; exact hlt
      obtain ⟨z, hz⟩ : ∃ z, z = l[j] := ⟨_, rfl⟩
      have CC := TT.out j ht
      rw [← hz] at CC
      have LD := Lib.hid ((RR.out.below B.out).load hlt Try.underlying35 rfl (by kernel_rfl))
      obtain ⟨U, hU⟩ : ∃ U : Nat → Value, U = fun x => V (j * 36 + x) := ⟨_, rfl⟩
      rw [← hU] at CC LD
      have C36 := Lib.hid (all_36 CC.one)
      have C33 := Lib.hid (show (arr 36 U)[33]? = some (.int .i64 z) by rw [arr_get 36 U 33 (by omega), CC.val])
      have ZB := Lib.hid (And.intro CC.low CC.high)
      have HD := Lib.hid (show sumF s (l.drop j) = if z < 0 ∨ 9223372036854775807 - s < z then none else sumF (s + z) (l.drop (j + 1)) by
        rw [List.drop_eq_getElem_cons ht, ← hz]
        rfl)
      have E := Lib.hid (Mem.nil wr)
      have SUB := Lib.hid (show IntKind.i64.wrap (9223372036854775807 - s) = 9223372036854775807 - s by have := HB.out; rw [IntKind.wrap_i64]; omega)
      have MJ := Lib.hid (And.intro hj hlt)
      clear hz CC hU ht hj
      by_cases h1 : z < 0
      · have G1 := Lib.hid (show decide (z < 0) = true from decide_eq_true h1)
        have HS2 := Lib.hid (show ((0 : Int), false) = S by
          have h := HS.out
          rw [HD.out, if_pos (.inl h1)] at h
          exact h)
        clear HS HD h1
        go_wp2_with (first
          | ((with_reducible refine wpList_at 10 rfl ?_); refine wpList_kn rfl (.bool true) (by exact exec_lss3 rfl rfl rfl LT.out) ?_)
          | ((with_reducible refine wpList_at 11 rfl ?_); refine wpList_ix (k := 36) (j := j) Try.underlying22 (by kernel_rfl) (.tmp 7) (.tmp 9) rfl rfl rfl rfl hlt rfl ?_)
          | ((with_reducible refine wpList_at 12 rfl ?_); refine wpList_ld 35 (.tmp 11) rfl rfl rfl LD.out ?_)
          | ((with_reducible refine wpList_at 6 rfl ?_); refine mem_alloc E 35 rfl rfl ZI.out ?_; clear E; intro b6 w6 E)
          | ((with_reducible refine wpList_nd rfl ?_); refine mem_store_row 0 E 35 rfl (.tmp 6) (.tmp 12) rfl rfl rfl rfl (by rw [arr_size]; kernel_rfl) (by rw [arr_size]; exact ZS.out) C36.out ?_; clear E; intro w7 E; simp only [List.set_cons_zero] at E)
          | ((with_reducible refine wpList_at 15 rfl ?_); refine mem_load_cell E 2 rfl (.tmp 14) rfl rfl List.mem_cons_self Try.underlying2 rfl C33.out ?_)
          | ((with_reducible refine wpList_at 16 rfl ?_); refine wpList_kn rfl (.bool true) (by exact exec_lss2 rfl rfl rfl G1.out) ?_))
        go_ret2
        rw [← HS2.out]
        exact ⟨rfl, B.out.trans (E.out.below.mono B.out.size)⟩
      · have G1 := Lib.hid (show decide (z < 0) = false from decide_eq_false h1)
        by_cases h2 : 9223372036854775807 - s < z
        · have G2 := Lib.hid (show decide (9223372036854775807 - s < z) = true from decide_eq_true h2)
          have HS2 := Lib.hid (show ((0 : Int), false) = S by
            have h := HS.out
            rw [HD.out, if_pos (.inr h2)] at h
            exact h)
          clear HS HD h1 h2
          go_wp2_with (first
          | ((with_reducible refine wpList_at 10 rfl ?_); refine wpList_kn rfl (.bool true) (by exact exec_lss3 rfl rfl rfl LT.out) ?_)
          | ((with_reducible refine wpList_at 11 rfl ?_); refine wpList_ix (k := 36) (j := j) Try.underlying22 (by kernel_rfl) (.tmp 7) (.tmp 9) rfl rfl rfl rfl hlt rfl ?_)
          | ((with_reducible refine wpList_at 12 rfl ?_); refine wpList_ld 35 (.tmp 11) rfl rfl rfl LD.out ?_)
          | ((with_reducible refine wpList_at 6 rfl ?_); refine mem_alloc E 35 rfl rfl ZI.out ?_; clear E; intro b6 w6 E)
          | ((with_reducible refine wpList_nd rfl ?_); refine mem_store_row 0 E 35 rfl (.tmp 6) (.tmp 12) rfl rfl rfl rfl (by rw [arr_size]; kernel_rfl) (by rw [arr_size]; exact ZS.out) C36.out ?_; clear E; intro w7 E; simp only [List.set_cons_zero] at E)
          | ((with_reducible refine wpList_at 15 rfl ?_); refine mem_load_cell E 2 rfl (.tmp 14) rfl rfl List.mem_cons_self Try.underlying2 rfl C33.out ?_)
          | ((with_reducible refine wpList_at 16 rfl ?_); refine wpList_kn rfl (.bool false) (by exact exec_lss2 rfl rfl rfl G1.out) ?_)
          | ((with_reducible refine wpList_at 20 rfl ?_); refine mem_load_cell E 2 rfl (.tmp 19) rfl rfl List.mem_cons_self Try.underlying2 rfl C33.out ?_)
          | ((with_reducible refine wpList_at 22 rfl ?_); refine wpList_kn rfl (.int .i64 (9223372036854775807 - s)) (by exact exec_sub2 rfl rfl rfl SUB.out) ?_)
          | ((with_reducible refine wpList_at 23 rfl ?_); refine wpList_kn rfl (.bool true) (by exact exec_gtr2 rfl rfl rfl G2.out) ?_))
          go_ret2
          rw [← HS2.out]
          exact ⟨rfl, B.out.trans (E.out.below.mono B.out.size)⟩
        · have G2 := Lib.hid (show decide (9223372036854775807 - s < z) = false from decide_eq_false h2)
          have HS2 := Lib.hid (show (match sumF (s + z) (l.drop (j + 1)) with | some s => (s, true) | none => (0, false)) = S by
            have h := HS.out
            rw [HD.out, if_neg (by omega)] at h
            exact h)
          have HB2 := Lib.hid (show 0 ≤ s + z ∧ s + z ≤ 9223372036854775807 by have := HB.out; omega)
          have ADD := Lib.hid (show IntKind.i64.wrap (s + z) = s + z by have := HB2.out; rw [IntKind.wrap_i64]; omega)
          clear HS HD h1 h2 HB
          go_wp2_with (first
          | ((with_reducible refine wpList_at 10 rfl ?_); refine wpList_kn rfl (.bool true) (by exact exec_lss3 rfl rfl rfl LT.out) ?_)
          | ((with_reducible refine wpList_at 11 rfl ?_); refine wpList_ix (k := 36) (j := j) Try.underlying22 (by kernel_rfl) (.tmp 7) (.tmp 9) rfl rfl rfl rfl hlt rfl ?_)
          | ((with_reducible refine wpList_at 12 rfl ?_); refine wpList_ld 35 (.tmp 11) rfl rfl rfl LD.out ?_)
          | ((with_reducible refine wpList_at 6 rfl ?_); refine mem_alloc E 35 rfl rfl ZI.out ?_; clear E; intro b6 w6 E)
          | ((with_reducible refine wpList_nd rfl ?_); refine mem_store_row 0 E 35 rfl (.tmp 6) (.tmp 12) rfl rfl rfl rfl (by rw [arr_size]; kernel_rfl) (by rw [arr_size]; exact ZS.out) C36.out ?_; clear E; intro w7 E; simp only [List.set_cons_zero] at E)
          | ((with_reducible refine wpList_at 15 rfl ?_); refine mem_load_cell E 2 rfl (.tmp 14) rfl rfl List.mem_cons_self Try.underlying2 rfl C33.out ?_)
          | ((with_reducible refine wpList_at 16 rfl ?_); refine wpList_kn rfl (.bool false) (by exact exec_lss2 rfl rfl rfl G1.out) ?_)
          | ((with_reducible refine wpList_at 20 rfl ?_); refine mem_load_cell E 2 rfl (.tmp 19) rfl rfl List.mem_cons_self Try.underlying2 rfl C33.out ?_)
          | ((with_reducible refine wpList_at 22 rfl ?_); refine wpList_kn rfl (.int .i64 (9223372036854775807 - s)) (by exact exec_sub2 rfl rfl rfl SUB.out) ?_)
          | ((with_reducible refine wpList_at 23 rfl ?_); refine wpList_kn rfl (.bool false) (by exact exec_gtr2 rfl rfl rfl G2.out) ?_)
          | ((with_reducible refine wpList_at 28 rfl ?_); refine mem_load_cell E 2 rfl (.tmp 27) rfl rfl List.mem_cons_self Try.underlying2 rfl C33.out ?_)
          | ((with_reducible refine wpList_at 29 rfl ?_); refine wpList_kn rfl (.int .i64 (s + z)) (by exact exec_add2 rfl rfl rfl ADD.out) ?_)
          | ((with_reducible refine wpList_at 30 rfl ?_); refine wpList_kn rfl (.int .i64 ((j + 1 : Nat) : Int)) (by exact exec_add3 rfl rfl rfl (by have := MJ.out; have := HN.out; rw [IntKind.wrap_i64]; omega)) ?_))
          go_roundg (n - (j + 1))
          case measure => have := MJ.out; omega
          case rel => exact ⟨j + 1, s + z, by have := MJ.out; omega, rfl, rfl, HB2, HS2, Lib.hid (B.out.trans (E.out.below.mono B.out.size))⟩
    · have LT := Lib.hid (show decide ((j : Int) < (n : Int)) = false from decide_eq_false (by omega))
      have HS2 := Lib.hid (show (s, true) = S by
        have h := HS.out
        rw [List.drop_eq_nil_of_le (by have := HN.out; omega)] at h
        exact h)
      clear HS hlt hj
      go_wp2_with ((with_reducible refine wpList_at 10 rfl ?_); refine wpList_kn rfl (.bool false) (by exact exec_lss3 rfl rfl rfl LT.out) ?_)
      go_ret2
      rw [← HS2.out]
      exact ⟨rfl, B.out⟩
set_option maxHeartbeats 4000000 in
theorem rasum_any {w : World} {v : Value} {l : List Int} (A : Hid (CoinsAt w v l)) : Calls Try.prog 5 #[v] w fun e w' => e = .returned (.tuple #[.int .i64 (sumR l).1, .bool (sumR l).2]) ∧ Below w.heap.size w w' := by
  obtain ⟨p, g, o, c, V, hv, hc, R0, hi⟩ := A.out
  subst hv
  have RR := Lib.hid R0
  have TT := Lib.hid hi
  obtain ⟨z0, hz0, hzi⟩ := infoCoin
  have ZI := Lib.hid hzi
  have ZS := Lib.hid hz0
  have cn : l.length ≤ c := R0.le
  obtain ⟨n, hn⟩ : ∃ n, n = l.length := ⟨_, rfl⟩
  have HN := Lib.hid (show n = l.length ∧ n ≤ 140737488355328 from ⟨hn, by omega⟩)
  rw [← hn] at RR ⊢
  obtain ⟨S, hS⟩ : ∃ S, S = sumR l := ⟨_, rfl⟩
  have HS := Lib.hid (show (match sumF 0 l with | some s => (s, true) | none => (0, false)) = S from hS.symm)
  rw [← hS]
  clear R0 hi A hzi hz0 cn hn hc hS
  go_enter Try.func5, Try.ntmps5
  go_wp2
  go_loopg [4, 9] n (fun k s4 s9 wr => ∃ (j : Nat) (s : Int), j + k = n ∧ s4 = .int .i64 s ∧ s9 = .int .i64 (j : Int) ∧ Hid (0 ≤ s ∧ s ≤ 9223372036854775807) ∧ Hid ((match sumF s (l.drop j) with | some s => (s, true) | none => (0, false)) = S) ∧ Hid (Below w.heap.size w wr))
  case atStart => exact ⟨0, 0, by omega, rfl, rfl, Lib.hid ⟨by omega, by omega⟩, HS, Lib.hid (Below.refl _ _)⟩
  case round =>
    clear HS
    obtain ⟨j, s, hj, rfl, rfl, HB, HS, B⟩ := hrel
    obtain ⟨kk, rfl⟩ : ∃ kk : Nat, kk = gk := ⟨_, rfl⟩
    by_cases hlt : j < n
    · have LT := Lib.hid (show decide ((j : Int) < (n : Int)) = true from decide_eq_true (by omega))
      obtain rfl := RR.out.head (by omega)
      have ht : j < l.length := by rw [← HN.out.1]; exact hlt
      obtain ⟨z, hz⟩ : ∃ z, z = l[j] := ⟨_, rfl⟩
      have CC := TT.out j ht
      rw [← hz] at CC
      have LD := Lib.hid ((RR.out.below B.out).load hlt Try.underlying35 rfl (by kernel_rfl))
      obtain ⟨U, hU⟩ : ∃ U : Nat → Value, U = fun x => V (j * 36 + x) := ⟨_, rfl⟩
      rw [← hU] at CC LD
      have C36 := Lib.hid (all_36 CC.one)
      have C33 := Lib.hid (show (arr 36 U)[33]? = some (.int .i64 z) by rw [arr_get 36 U 33 (by omega), CC.val])
      have ZB := Lib.hid (And.intro CC.low CC.high)
      have HD := Lib.hid (show sumF s (l.drop j) = if z < 0 ∨ 9223372036854775807 - s < z then none else sumF (s + z) (l.drop (j + 1)) by
        rw [List.drop_eq_getElem_cons ht, ← hz]
        rfl)
      have E := Lib.hid (Mem.nil wr)
      have SUB := Lib.hid (show IntKind.i64.wrap (9223372036854775807 - s) = 9223372036854775807 - s by have := HB.out; rw [IntKind.wrap_i64]; omega)
      have MJ := Lib.hid (And.intro hj hlt)
      clear hz CC hU ht hj
      by_cases h1 : z < 0
      · have G1 := Lib.hid (show decide (z < 0) = true from decide_eq_true h1)
        have HS2 := Lib.hid (show ((0 : Int), false) = S by
          have h := HS.out
          rw [HD.out, if_pos (.inl h1)] at h
          exact h)
        clear HS HD h1
        go_wp2_with (first
          | ((with_reducible refine wpList_at 10 rfl ?_); refine wpList_kn rfl (.bool true) (by exact exec_lss3 rfl rfl rfl LT.out) ?_)
          | ((with_reducible refine wpList_at 11 rfl ?_); refine wpList_ix (k := 36) (j := j) Try.underlying22 (by kernel_rfl) (.tmp 7) (.tmp 9) rfl rfl rfl rfl hlt rfl ?_)
          | ((with_reducible refine wpList_at 12 rfl ?_); refine wpList_ld 35 (.tmp 11) rfl rfl rfl LD.out ?_)
          | ((with_reducible refine wpList_at 6 rfl ?_); refine mem_alloc E 35 rfl rfl ZI.out ?_; clear E; intro b6 w6 E)
          | ((with_reducible refine wpList_nd rfl ?_); refine mem_store_row 0 E 35 rfl (.tmp 6) (.tmp 12) rfl rfl rfl rfl (by rw [arr_size]; kernel_rfl) (by rw [arr_size]; exact ZS.out) C36.out ?_; clear E; intro w7 E; simp only [List.set_cons_zero] at E)
          | ((with_reducible refine wpList_at 15 rfl ?_); refine mem_load_cell E 2 rfl (.tmp 14) rfl rfl List.mem_cons_self Try.underlying2 rfl C33.out ?_)
          | ((with_reducible refine wpList_at 16 rfl ?_); refine wpList_kn rfl (.bool true) (by exact exec_lss2 rfl rfl rfl G1.out) ?_))
        go_ret2
        rw [← HS2.out]
        exact ⟨rfl, B.out.trans (E.out.below.mono B.out.size)⟩
      · have G1 := Lib.hid (show decide (z < 0) = false from decide_eq_false h1)
        by_cases h2 : 9223372036854775807 - s < z
        · have G2 := Lib.hid (show decide (9223372036854775807 - s < z) = true from decide_eq_true h2)
          have HS2 := Lib.hid (show ((0 : Int), false) = S by
            have h := HS.out
            rw [HD.out, if_pos (.inr h2)] at h
            exact h)
          clear HS HD h1 h2
          go_wp2_with (first
          | ((with_reducible refine wpList_at 10 rfl ?_); refine wpList_kn rfl (.bool true) (by exact exec_lss3 rfl rfl rfl LT.out) ?_)
          | ((with_reducible refine wpList_at 11 rfl ?_); refine wpList_ix (k := 36) (j := j) Try.underlying22 (by kernel_rfl) (.tmp 7) (.tmp 9) rfl rfl rfl rfl hlt rfl ?_)
          | ((with_reducible refine wpList_at 12 rfl ?_); refine wpList_ld 35 (.tmp 11) rfl rfl rfl LD.out ?_)
          | ((with_reducible refine wpList_at 6 rfl ?_); refine mem_alloc E 35 rfl rfl ZI.out ?_; clear E; intro b6 w6 E)
          | ((with_reducible refine wpList_nd rfl ?_); refine mem_store_row 0 E 35 rfl (.tmp 6) (.tmp 12) rfl rfl rfl rfl (by rw [arr_size]; kernel_rfl) (by rw [arr_size]; exact ZS.out) C36.out ?_; clear E; intro w7 E; simp only [List.set_cons_zero] at E)
          | ((with_reducible refine wpList_at 15 rfl ?_); refine mem_load_cell E 2 rfl (.tmp 14) rfl rfl List.mem_cons_self Try.underlying2 rfl C33.out ?_)
          | ((with_reducible refine wpList_at 16 rfl ?_); refine wpList_kn rfl (.bool false) (by exact exec_lss2 rfl rfl rfl G1.out) ?_)
          | ((with_reducible refine wpList_at 20 rfl ?_); refine mem_load_cell E 2 rfl (.tmp 19) rfl rfl List.mem_cons_self Try.underlying2 rfl C33.out ?_)
          | ((with_reducible refine wpList_at 22 rfl ?_); refine wpList_kn rfl (.int .i64 (9223372036854775807 - s)) (by exact exec_sub2 rfl rfl rfl SUB.out) ?_)
          | ((with_reducible refine wpList_at 23 rfl ?_); refine wpList_kn rfl (.bool true) (by exact exec_gtr2 rfl rfl rfl G2.out) ?_))
          go_ret2
          rw [← HS2.out]
          exact ⟨rfl, B.out.trans (E.out.below.mono B.out.size)⟩
        · have G2 := Lib.hid (show decide (9223372036854775807 - s < z) = false from decide_eq_false h2)
          have HS2 := Lib.hid (show (match sumF (s + z) (l.drop (j + 1)) with | some s => (s, true) | none => (0, false)) = S by
            have h := HS.out
            rw [HD.out, if_neg (by omega)] at h
            exact h)
          have HB2 := Lib.hid (show 0 ≤ s + z ∧ s + z ≤ 9223372036854775807 by have := HB.out; omega)
          have ADD := Lib.hid (show IntKind.i64.wrap (s + z) = s + z by have := HB2.out; rw [IntKind.wrap_i64]; omega)
          clear HS HD h1 h2 HB
          go_wp2_with (first
          | ((with_reducible refine wpList_at 10 rfl ?_); refine wpList_kn rfl (.bool true) (by exact exec_lss3 rfl rfl rfl LT.out) ?_)
          | ((with_reducible refine wpList_at 11 rfl ?_); refine wpList_ix (k := 36) (j := j) Try.underlying22 (by kernel_rfl) (.tmp 7) (.tmp 9) rfl rfl rfl rfl hlt rfl ?_)
          | ((with_reducible refine wpList_at 12 rfl ?_); refine wpList_ld 35 (.tmp 11) rfl rfl rfl LD.out ?_)
          | ((with_reducible refine wpList_at 6 rfl ?_); refine mem_alloc E 35 rfl rfl ZI.out ?_; clear E; intro b6 w6 E)
          | ((with_reducible refine wpList_nd rfl ?_); refine mem_store_row 0 E 35 rfl (.tmp 6) (.tmp 12) rfl rfl rfl rfl (by rw [arr_size]; kernel_rfl) (by rw [arr_size]; exact ZS.out) C36.out ?_; clear E; intro w7 E; simp only [List.set_cons_zero] at E)
          | ((with_reducible refine wpList_at 15 rfl ?_); refine mem_load_cell E 2 rfl (.tmp 14) rfl rfl List.mem_cons_self Try.underlying2 rfl C33.out ?_)
          | ((with_reducible refine wpList_at 16 rfl ?_); refine wpList_kn rfl (.bool false) (by exact exec_lss2 rfl rfl rfl G1.out) ?_)
          | ((with_reducible refine wpList_at 20 rfl ?_); refine mem_load_cell E 2 rfl (.tmp 19) rfl rfl List.mem_cons_self Try.underlying2 rfl C33.out ?_)
          | ((with_reducible refine wpList_at 22 rfl ?_); refine wpList_kn rfl (.int .i64 (9223372036854775807 - s)) (by exact exec_sub2 rfl rfl rfl SUB.out) ?_)
          | ((with_reducible refine wpList_at 23 rfl ?_); refine wpList_kn rfl (.bool false) (by exact exec_gtr2 rfl rfl rfl G2.out) ?_)
          | ((with_reducible refine wpList_at 28 rfl ?_); refine mem_load_cell E 2 rfl (.tmp 27) rfl rfl List.mem_cons_self Try.underlying2 rfl C33.out ?_)
          | ((with_reducible refine wpList_at 29 rfl ?_); refine wpList_kn rfl (.int .i64 (s + z)) (by exact exec_add2 rfl rfl rfl ADD.out) ?_)
          | ((with_reducible refine wpList_at 30 rfl ?_); refine wpList_kn rfl (.int .i64 ((j + 1 : Nat) : Int)) (by exact exec_add3 rfl rfl rfl (by have := MJ.out; have := HN.out; rw [IntKind.wrap_i64]; omega)) ?_))
          go_roundg (n - (j + 1))
          case measure => have := MJ.out; omega
          case rel => exact ⟨j + 1, s + z, by have := MJ.out; omega, rfl, rfl, HB2, HS2, Lib.hid (B.out.trans (E.out.below.mono B.out.size))⟩
    · have LT := Lib.hid (show decide ((j : Int) < (n : Int)) = false from decide_eq_false (by omega))
      have HS2 := Lib.hid (show (s, true) = S by
        have h := HS.out
        rw [List.drop_eq_nil_of_le (by have := HN.out; omega)] at h
        exact h)
      clear HS hlt hj
      go_wp2_with ((with_reducible refine wpList_at 10 rfl ?_); refine wpList_kn rfl (.bool false) (by exact exec_lss3 rfl rfl rfl LT.out) ?_)
      go_ret2
      rw [← HS2.out]
      exact ⟨rfl, B.out⟩
end Go.Proofs.Ytoopcmcmjaikhaa
