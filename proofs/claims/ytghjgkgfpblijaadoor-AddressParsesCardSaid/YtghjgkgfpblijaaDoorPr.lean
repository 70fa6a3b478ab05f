/- The document's script.Class and script.Make. -/
import Derived.Test.YtghjgkgfpblijaaDoorZE
import Derived.OwnWalk
set_option linter.unusedSimpArgs false
set_option linter.unusedVariables false
set_option maxRecDepth 100000
namespace Go.Proofs.YtghjgkgfpblijaaDoor
open Go.ChangeShapes Go.WideShapes Go.ChangeAt Go.RowKit Go.Lib Go.Sort

theorem res4 {P : Program} {fn : Func} {a b c d : Tmp} (h : fn.results = #[.tmp a, .tmp b, .tmp c, .tmp d]) (tmps : Array Value) (w : World) :
    (results fn tmps).run P w = .ok (.tuple #[tmps.getD a undef, tmps.getD b undef, tmps.getD c undef, tmps.getD d undef]) w := by simp [results, h]
/-- What stands about a kind's bytes, and how many these are. -/
def cC : Nat → Nat | 0 => 20 | 1 => 20 | 2 => 20 | _ => 32
theorem cC_eq (j : Nat) (h : j < 5) : cN j = ((cC j : Nat) : Int) := by
  match j, h with
  | 0, _ => rfl | 1, _ => rfl | 2, _ => rfl | 3, _ => rfl | 4, _ => rfl
theorem around_yes (j : Nat) (hj : j < 5) (w : World) : Calls Tryd.prog 42 #[.int .i64 ((j + 1 : Nat) : Int)] w fun e w' => e = .returned (.tuple #[.string (hB j), .string (tB j), .int .i64 ((cC j : Nat) : Int), .bool true]) ∧ w = w' := by
  match j, hj with
  | 0, _ =>
    show Calls Tryd.prog 42 #[.int .i64 1] w _
    go_enter Tryd.func42, Tryd.ntmps42
    go_wp2
    (try simp only [Exit.inBlock, Exit.then]); refine bodyPost_ret (res4 rfl _ _) rfl ?_
    exact ⟨rfl, rfl⟩
  | 1, _ =>
    show Calls Tryd.prog 42 #[.int .i64 2] w _
    go_enter Tryd.func42, Tryd.ntmps42
    go_wp2
    (try simp only [Exit.inBlock, Exit.then]); refine bodyPost_ret (res4 rfl _ _) rfl ?_
    exact ⟨rfl, rfl⟩
  | 2, _ =>
    show Calls Tryd.prog 42 #[.int .i64 3] w _
    go_enter Tryd.func42, Tryd.ntmps42
    go_wp2
    (try simp only [Exit.inBlock, Exit.then]); refine bodyPost_ret (res4 rfl _ _) rfl ?_
    exact ⟨rfl, rfl⟩
  | 3, _ =>
    show Calls Tryd.prog 42 #[.int .i64 4] w _
    go_enter Tryd.func42, Tryd.ntmps42
    go_wp2
    (try simp only [Exit.inBlock, Exit.then]); refine bodyPost_ret (res4 rfl _ _) rfl ?_
    exact ⟨rfl, rfl⟩
  | 4, _ =>
    show Calls Tryd.prog 42 #[.int .i64 5] w _
    go_enter Tryd.func42, Tryd.ntmps42
    go_wp2
    (try simp only [Exit.inBlock, Exit.then]); refine bodyPost_ret (res4 rfl _ _) rfl ?_
    exact ⟨rfl, rfl⟩
theorem around_no (k : Int) (hk : ∀ j : Nat, j < 5 → k ≠ ((j + 1 : Nat) : Int)) (w : World) : Calls Tryd.prog 42 #[.int .i64 k] w fun e w' => e = .returned (.tuple #[.string ⟨#[]⟩, .string ⟨#[]⟩, .int .i64 0, .bool false]) ∧ w = w' := by
  have b1 : (k == 1) = false := by simpa using hk 0 (by omega)
  have b2 : (k == 2) = false := by simpa using hk 1 (by omega)
  have b3 : (k == 3) = false := by simpa using hk 2 (by omega)
  have b4 : (k == 4) = false := by simpa using hk 3 (by omega)
  have b5 : (k == 5) = false := by simpa using hk 4 (by omega)
  clear hk
  go_enter Tryd.func42, Tryd.ntmps42
  go_wp2
  (try simp only [Exit.inBlock, Exit.then]); refine bodyPost_ret (res4 rfl _ _) rfl ?_
  exact ⟨rfl, rfl⟩
theorem exec_eqS {o : Oper} {ev : Operand → Value} {W : World} {x y : Operand} {s t : ByteArray} (r : Bool) (ho : o.op = .binOp .eql 9 x y 9) (hx : ev x = .string s) (hy : ev y = .string t) (hr : s = t ↔ r = true) : (execOp ev o).run Tryd.prog W = .ok (.value (.bool r)) W := by
  unfold execOp
  by_cases h : s = t
  · have hr2 := hr.1 h
    subst h hr2
    simp [ho, hx, hy, go_sem, binOp, Tryd.underlying9, Op.stringOp]
  · have hr2 : r = false := by simpa using (fun q => h (hr.2 q))
    subst hr2
    have h2 : ¬ s.toList = t.toList := fun q => h (bas_inj q)
    simp [ho, hx, hy, go_sem, binOp, Tryd.underlying9, Op.stringOp, h2]
/-- An operation whose run is known: the run first, so that a misfit fails at once. -/
theorem wpList_run {P : Program} {ops : Array Oper} {rest : List Oper} {Q : Exit → Act → World → Prop} {op : Oper} {a : Act} {w w' : World} {v : Value} (hrun : (execOp a.eval op).run P w = .ok (.value v) w') (hw : Region.wanted op (yielded ops a.tmps) = true) (h : wpList P ops Q rest (a.put op.dst v) w') : wpList P ops Q (op :: rest) a w :=
  wpList_known4 hw v w' hrun h
theorem exec_slH {T : TypeId} {o : Oper} {ev : Operand → Value} {W : World} {x hi : Operand} {a b v : Value} (ho : o.op = .slice T x none (some hi) none) (hx : ev x = a) (hh : ev hi = b) (h : (Instr.sliceAt T a none (some b) none).run Tryd.prog W = .ok v W) : (execOp ev o).run Tryd.prog W = .ok (.value v) W :=
  exec_sl ho (by rw [← hx, ← hh] at h; exact h)
theorem exec_slL {T : TypeId} {o : Oper} {ev : Operand → Value} {W : World} {x lo : Operand} {a b v : Value} (ho : o.op = .slice T x (some lo) none none) (hx : ev x = a) (hh : ev lo = b) (h : (Instr.sliceAt T a (some b) none none).run Tryd.prog W = .ok v W) : (execOp ev o).run Tryd.prog W = .ok (.value v) W :=
  exec_sl ho (by rw [← hx, ← hh] at h; exact h)
theorem exec_slLH {T : TypeId} {o : Oper} {ev : Operand → Value} {W : World} {x lo hi : Operand} {a b d v : Value} (ho : o.op = .slice T x (some lo) (some hi) none) (hx : ev x = a) (hh : ev lo = b) (hd : ev hi = d) (h : (Instr.sliceAt T a (some b) (some d) none).run Tryd.prog W = .ok v W) : (execOp ev o).run Tryd.prog W = .ok (.value v) W :=
  exec_sl ho (by rw [← hx, ← hh, ← hd] at h; exact h)
theorem exec_conv {o : Oper} {ev : Operand → Value} {W W' : World} {S T : TypeId} {x : Operand} {v u : Value} (ho : o.op = .convert S T x) (hx : ev x = v) (h : (convert S T v).run Tryd.prog W = .ok u W') : (execOp ev o).run Tryd.prog W = .ok (.value u) W' := by
  unfold execOp
  simp only [ho, hx, Sem.run_bind, h, Result.andThen_ok]
  rfl
theorem ofpat_none {x : Nat → Nat} {n j : Nat} (hj : j < 5) (h : ¬ (n = (hB j).size + cC j + (tB j).size ∧ strX x (hB j).size = hB j ∧ strX (fun i => x ((hB j).size + cC j + i)) (tB j).size = tB j)) (hx : ∀ i, x i < 256) (b : List Nat) : ¬ OfPat j (tl x n) b := by
  intro k
  obtain ⟨e1, e2, e3, e4⟩ := ofpat_at k
  have hb : b.length = cC j := by
    have h0 := cC_eq j hj
    have h1 : cC j = 20 ∨ cC j = 32 := by
      match j, hj with
      | 0, _ => exact .inl rfl | 1, _ => exact .inl rfl | 2, _ => exact .inl rfl | 3, _ => exact .inr rfl | 4, _ => exact .inr rfl
    rw [h0] at e4
    unfold okI at e4
    rw [if_neg (by omega)] at e4
    have e5 : (b.length : Int) = ((cC j : Nat) : Int) := by simpa using e4
    omega
  rw [hb] at e1 e3
  exact h ⟨e1, (strX_eq hx rfl).2 e2, (strX_eq (fun i => hx _) rfl).2 e3⟩
theorem ofpat_some {x : Nat → Nat} {n j : Nat} (hj : j < 5) (h1 : n = (hB j).size + cC j + (tB j).size) (h2 : strX x (hB j).size = hB j) (h3 : strX (fun i => x ((hB j).size + cC j + i)) (tB j).size = tB j) (hx : ∀ i, x i < 256) : OfPat j (tl x n) (tl (fun i => x ((hB j).size + i)) (cC j)) :=
  ofpat_of h1 ((strX_eq hx rfl).1 h2) ((strX_eq (fun i => hx _) rfl).1 h3) (by
    rw [cC_eq j hj]
    unfold okI
    rw [if_neg (by omega)]
    simp)
theorem ofpat5_none {x : Nat → Nat} {n : Nat} (h : ¬ (0 < n ∧ x 0 = 106)) (b : List Nat) : ¬ OfPat 5 (tl x n) b := by
  intro k
  obtain ⟨e1, e2, _, _⟩ := ofpat_at k
  refine h ⟨by have : (hB 5).size = 1 := rfl; omega, ?_⟩
  have := e2 0 (by decide)
  rw [this]
  decide
theorem ofpat5_some {x : Nat → Nat} {n : Nat} (h : 0 < n) (h2 : x 0 = 106) : OfPat 5 (tl x n) (tl (fun i => x (1 + i)) (n - 1)) :=
  ofpat_of (j := 5) (m := n - 1) (by show n = 1 + (n - 1) + 0; omega) (fun q hq => by
    obtain rfl : q = 0 := by have : (hB 5).size = 1 := rfl; omega
    rw [h2]; decide) (fun q hq => by have : (tB 5).size = 0 := rfl; omega) (by show okI (-1) _ = true; unfold okI; rw [if_pos rfl]; simp)
set_option maxHeartbeats 8000000 in
theorem rclass_any {w : World} {p : Option Addr} {g o n c : Nat} {x : Nat → Nat} (R : Hid (Row w p g o n c x)) (hn : n ≤ 140737488355328) : Calls Tryd.prog 20 #[.slice p n c] w (ClsEnd w (tl x n)) := by
  have HX := Lib.hid R.out.byte
  go_enter Tryd.func20, Tryd.ntmps20
  go_wp2
  have SOF := Lib.hid (show ∀ j : Nat, j < 0 → ∀ b, ¬ OfPat j (tl x n) b from fun j h => absurd h (by omega))
  have BB := Lib.hid (Below.refl w.heap.size w)
  go_loopg [4] 5 (fun k i wr => ∃ j : Nat, j + k = 5 ∧ i = .int .i64 ((j + 1 : Nat) : Int) ∧ Hid (∀ j' : Nat, j' < j → ∀ b, ¬ OfPat j' (tl x n) b) ∧ Hid (Below w.heap.size w wr))
  case atStart => exact ⟨0, by omega, rfl, SOF, BB⟩
  case round =>
    clear SOF BB
    obtain ⟨j, hj, rfl, SOF, BB⟩ := hrel
    obtain ⟨kk, rfl⟩ : ∃ kk : Nat, kk = gk := ⟨_, rfl⟩
    obtain ⟨wo, rfl⟩ : ∃ wo : World, wo = wr := ⟨_, rfl⟩
    obtain ⟨K, hK⟩ : ∃ K : Int, K = ((j + 1 : Nat) : Int) := ⟨_, rfl⟩
    by_cases hlt : j < 5
    · have AR := Lib.hid (fun W : World => around_yes j hlt W)
      have HS := hB_size j
      have TS := tB_size j
      have CB : cC j ≤ 32 := by unfold cC; split <;> omega
      have NO := Lib.hid (show (∀ b, ¬ OfPat j (tl x n) b) → ∀ j' : Nat, j' < j + 1 → ∀ b, ¬ OfPat j' (tl x n) b from fun h j' hj' => by
        rcases Nat.lt_or_ge j' j with q | q
        · exact SOF.out j' q
        · obtain rfl : j' = j := by omega
          exact h)
      have NON := Lib.hid (fun h => NO.out (fun b => ofpat_none (x := x) (n := n) hlt h HX.out b))
      have YES := Lib.hid (fun h1 h2 h3 => (show Cls (tl x n) (j + 1) (tl (fun i => x ((hB j).size + i)) (cC j)) from .inl ⟨j, by omega, rfl, ofpat_some hlt h1 h2 h3 HX.out⟩))
      obtain ⟨H, hH⟩ : ∃ H, H = hB j := ⟨_, rfl⟩
      obtain ⟨T, hT⟩ : ∃ T, T = tB j := ⟨_, rfl⟩
      obtain ⟨C, hC⟩ : ∃ C, C = cC j := ⟨_, rfl⟩
      rw [← hH, ← hT, ← hC, ← hK] at AR
      rw [← hH, ← hT, ← hC] at YES NON
      rw [← hH] at HS
      rw [← hT] at TS
      rw [← hC] at CB
      rw [← hK]
      have HK := Lib.hid hK
      have KB : 1 ≤ K ∧ K ≤ 5 := by omega
      clear hH hT hC hK SOF NO
      by_cases t1 : n = H.size + C + T.size
      · have b1 : ((n : Int) == (H.size : Int) + (C : Int) + (T.size : Int)) = true := by simpa using (show (n : Int) = (H.size : Int) + (C : Int) + (T.size : Int) by omega)
        have le := R.out.le
        obtain ⟨pa, hpa, RA⟩ := R.out.slice (l := 0) (h := H.size) (m := c) (by omega) (by omega) (by omega) (Nat.le_refl _)
        obtain ⟨pb, hpb, RB⟩ := R.out.slice (l := H.size + C) (h := n) (m := c) (by omega) (by omega) (by omega) (Nat.le_refl _)
        obtain ⟨pc, hpc, RC⟩ := R.out.slice (l := H.size) (h := H.size + C) (m := c) (by omega) (by omega) (by omega) (Nat.le_refl _)
        have SA := Lib.hid (fun W : World => run_sl (w := W) (p := p) (bounds_h (w := W) (n := n) (c := c) (h := H.size) (by omega)))
        have SB := Lib.hid (fun W : World => run_sl (w := W) (p := p) (bounds_l (w := W) (n := n) (c := c) (l := H.size + C) (by omega)))
        have SC := Lib.hid (fun W : World => run_sl (w := W) (p := p) (bounds_lh (w := W) (n := n) (c := c) (l := H.size) (h := H.size + C) (by omega) (by omega)))
        simp only [Nat.zero_add, Nat.sub_zero, Nat.add_zero] at hpa RA
        rw [show H.size + C - H.size = C by omega] at RC hpc
        rw [show n - (H.size + C) = T.size by omega] at RB hpb
        rw [hpa] at SA
        rw [hpb] at SB
        rw [hpc] at SC
        have SA2 := Lib.hid (fun W : World => SA.out W)
        have XA := Lib.hid (RA.to (y := x) (fun i _ => rfl) HX.out |>.below BB.out)
        have XB := Lib.hid (RB.below BB.out)
        have XC := Lib.hid (RC.below BB.out)
        have KC : ((H.size + C : Nat) : Int) = (H.size : Int) + (C : Int) := by omega
        rw [KC] at SB SC
        clear hpa hpb hpc RA RB RC SA KC le
        obtain ⟨S1, hS1⟩ : ∃ S1, S1 = strX x H.size := ⟨_, rfl⟩
        obtain ⟨S2, hS2⟩ : ∃ S2, S2 = strX (fun i => x (H.size + C + i)) T.size := ⟨_, rfl⟩
        rw [← hS1, ← hS2] at YES NON
        have CA := Lib.hid (show (convert 22 9 (.slice pa H.size c)).run Tryd.prog wo = .ok (.string S1) wo by rw [hS1]; exact row_strX XA.out)
        have CBB := Lib.hid (show (convert 22 9 (.slice pb T.size (c - (H.size + C)))).run Tryd.prog wo = .ok (.string S2) wo by rw [hS2]; exact row_strX XB.out)
        clear hS1 hS2 XA XB
        by_cases t2 : S1 = H
        · have e2 : S1.toList = H.toList := by rw [t2]
          by_cases t3 : S2 = T
          · have YY := Lib.hid (YES.out t1 t2 t3)
            have e3 : S2.toList = T.toList := by rw [t3]
            have HT1 := Lib.hid t1
            have E := Lib.hid (Mem.nil wo)
            clear t1 t2 t3 YES NON
            go_wp2_with (first
              | (go_at_call 42; ((with_reducible refine (AR.out _).mono ?_); rintro e w7 ⟨rfl, rfl⟩))
              | ((with_reducible refine wpList_at 34 rfl ?_); refine wpList_known4 rfl _ _ (exec_sl rfl (SA2.out _)) ?_; try simp only [Act.put, List.setIfInBounds_toArray, List.set_cons_zero, List.set_cons_succ])
              | ((with_reducible refine wpList_at 45 rfl ?_); refine wpList_known4 rfl _ _ (exec_sl rfl (SB.out _)) ?_; try simp only [Act.put, List.setIfInBounds_toArray, List.set_cons_zero, List.set_cons_succ])
              | ((with_reducible refine wpList_at 59 rfl ?_); refine wpList_known4 rfl _ _ (exec_sl rfl (SC.out _)) ?_; try simp only [Act.put, List.setIfInBounds_toArray, List.set_cons_zero, List.set_cons_succ])
              | ((with_reducible refine wpList_at 35 rfl ?_); refine wpList_known4 rfl _ _ (exec_cv rfl CA.out) ?_; try simp only [Act.put, List.setIfInBounds_toArray, List.set_cons_zero, List.set_cons_succ])
              | ((with_reducible refine wpList_at 46 rfl ?_); refine wpList_known4 rfl _ _ (exec_cv rfl CBB.out) ?_; try simp only [Act.put, List.setIfInBounds_toArray, List.set_cons_zero, List.set_cons_succ])
              | ((with_reducible refine wpList_at 51 rfl ?_); refine wpList_bs rfl 0 _ rfl E (fun _ => 0) (fun _ => by omega) (by unfold maxLen; omega) (fun W => by kernel_rfl) ?_; clear E; intro B1 p1 g1 w1 WK; try simp only [Act.put, List.setIfInBounds_toArray, List.set_cons_zero, List.set_cons_succ])
              | ((with_reducible refine wpList_at 60 rfl ?_); refine wpList_wapp (.inl rfl) (.tmp 51) (.tmp 59) rfl WK rfl rfl (Lib.hid (XC.out.below WK.out.mem.below)) (by omega) ?_; clear WK; intro p2 g2 c2 w2 WK))
            go_ret2
            obtain ⟨O1, B1b⟩ := WK.out.gets
            refine ⟨j + 1, tl (fun i => x (H.size + i)) C, p2, g2, c2, ?_, YY.out, ?_, BB.out.trans (B1b.mono BB.out.size)⟩
            · rw [tl_length]
              show Ending.returned (.tuple #[.int .i64 K, .slice p2 C c2]) = _
              rw [HK.out]
            · have O2 := (O1.mono BB.out.size).to (fun i hi => cat_zero _ _ i) XC.out.byte
              rw [Nat.zero_add] at O2
              exact O2.tl
          · have e3 : (S2.toList == T.toList) = false := by simpa using fun q => t3 (bas_inj q)
            have NP := Lib.hid (NON.out fun h => t3 h.2.2)
            clear t1 t2 t3 YES NON
            go_wp2_with (first
              | (go_at_call 42; ((with_reducible refine (AR.out _).mono ?_); rintro e w7 ⟨rfl, rfl⟩))
              | ((with_reducible refine wpList_at 34 rfl ?_); refine wpList_known4 rfl _ _ (exec_sl rfl (SA2.out _)) ?_; try simp only [Act.put, List.setIfInBounds_toArray, List.set_cons_zero, List.set_cons_succ])
              | ((with_reducible refine wpList_at 45 rfl ?_); refine wpList_known4 rfl _ _ (exec_sl rfl (SB.out _)) ?_; try simp only [Act.put, List.setIfInBounds_toArray, List.set_cons_zero, List.set_cons_succ])
              | ((with_reducible refine wpList_at 35 rfl ?_); refine wpList_known4 rfl _ _ (exec_cv rfl CA.out) ?_; try simp only [Act.put, List.setIfInBounds_toArray, List.set_cons_zero, List.set_cons_succ])
              | ((with_reducible refine wpList_at 46 rfl ?_); refine wpList_known4 rfl _ _ (exec_cv rfl CBB.out) ?_; try simp only [Act.put, List.setIfInBounds_toArray, List.set_cons_zero, List.set_cons_succ]))
            go_roundg (5 - (j + 1))
            case measure => omega
            case rel => exact ⟨j + 1, by omega, congrArg (Value.int .i64) (by rw [HK.out]; omega), NP, BB⟩
        · have e2 : (S1.toList == H.toList) = false := by simpa using fun q => t2 (bas_inj q)
          have NP := Lib.hid (NON.out fun h => t2 h.2.1)
          clear t1 t2 YES NON
          go_wp2_with (first
              | (go_at_call 42; ((with_reducible refine (AR.out _).mono ?_); rintro e w7 ⟨rfl, rfl⟩))
              | ((with_reducible refine wpList_at 34 rfl ?_); refine wpList_known4 rfl _ _ (exec_sl rfl (SA2.out _)) ?_; try simp only [Act.put, List.setIfInBounds_toArray, List.set_cons_zero, List.set_cons_succ])
              | ((with_reducible refine wpList_at 35 rfl ?_); refine wpList_known4 rfl _ _ (exec_cv rfl CA.out) ?_; try simp only [Act.put, List.setIfInBounds_toArray, List.set_cons_zero, List.set_cons_succ]))
          go_roundg (5 - (j + 1))
          case measure => omega
          case rel => exact ⟨j + 1, by omega, congrArg (Value.int .i64) (by rw [HK.out]; omega), NP, BB⟩
      · have b1 : ((n : Int) == (H.size : Int) + (C : Int) + (T.size : Int)) = false := by simpa using (show ¬ (n : Int) = (H.size : Int) + (C : Int) + (T.size : Int) by omega)
        have NP := Lib.hid (NON.out fun h => t1 h.1)
        clear t1 YES NON
        go_wp2_with (go_at_call 42; ((with_reducible refine (AR.out _).mono ?_); rintro e w7 ⟨rfl, rfl⟩))
        go_roundg (5 - (j + 1))
        case measure => omega
        case rel => exact ⟨j + 1, by omega, congrArg (Value.int .i64) (by rw [HK.out]; omega), NP, BB⟩
    · obtain rfl : j = 5 := by omega
      clear hK
      rw [show ((5 + 1 : Nat) : Int) = 6 from rfl]
      by_cases h0 : 0 < n
      · obtain rfl := R.out.head h0
        have c0 := (R.out.below BB.out).cell 0 h0
        obtain ⟨y, hy⟩ : ∃ y, y = x 0 := ⟨_, rfl⟩
        rw [← hy, Nat.add_zero] at c0
        have h0i : (0 : Int) < (n : Int) := by omega
        by_cases h1 : y = 106
        · have FIN := Lib.hid (show Cls (tl x n) 6 _ from .inl ⟨5, by omega, rfl, ofpat5_some h0 (by rw [← hy]; exact h1)⟩)
          subst h1
          obtain ⟨pc, hpc, RC⟩ := R.out.slice (l := 1) (h := n) (m := c) (by omega) (by omega) R.out.le (Nat.le_refl _)
          have SC := Lib.hid (fun W : World => run_sl (w := W) (p := some ⟨g, o, none⟩) (bounds_l (w := W) (n := n) (c := c) (l := 1) (by omega)))
          rw [hpc] at SC
          have XC := Lib.hid (RC.below BB.out)
          have E := Lib.hid (Mem.nil wo)
          clear hpc RC hy
          go_wp2_with (first
            | ((with_reducible refine wpList_at 72 rfl ?_); refine wpList_known4 rfl _ _ (exec_sl rfl (SC.out _)) ?_; try simp only [Act.put, List.setIfInBounds_toArray, List.set_cons_zero, List.set_cons_succ])
            | ((with_reducible refine wpList_at 70 rfl ?_); refine wpList_bs rfl 0 _ rfl E (fun _ => 0) (fun _ => by omega) (by unfold maxLen; omega) (fun W => by kernel_rfl) ?_; clear E; intro B1 p1 g1 w1 WK; try simp only [Act.put, List.setIfInBounds_toArray, List.set_cons_zero, List.set_cons_succ])
            | ((with_reducible refine wpList_at 73 rfl ?_); refine wpList_wapp (.inl rfl) (.tmp 70) (.tmp 72) rfl WK rfl rfl (Lib.hid (XC.out.below WK.out.mem.below)) (by omega) ?_; clear WK; intro p2 g2 c2 w2 WK))
          go_ret2
          obtain ⟨O1, B1b⟩ := WK.out.gets
          refine ⟨6, tl (fun i => x (1 + i)) (n - 1), p2, g2, c2, ?_, FIN.out, ?_, BB.out.trans (B1b.mono BB.out.size)⟩
          · rw [tl_length]
            show Ending.returned (.tuple #[.int .i64 6, .slice p2 (n - 1) c2]) = _
            rfl
          · have O2 := (O1.mono BB.out.size).to (fun i hi => cat_zero _ _ i) XC.out.byte
            rw [Nat.zero_add] at O2
            exact O2.tl
        · have NP := Lib.hid (cls_other (x := x) (n := n) fun j hj b => by
            rcases Nat.lt_or_ge j 5 with q | q
            · exact SOF.out j q b
            · obtain rfl : j = 5 := by omega
              exact ofpat5_none (fun h => h1 (by rw [hy]; exact h.2)) b)
          have b1 : ((y : Int) == 106) = false := by simpa using (show ¬ ((y : Int) = 106) by omega)
          clear h1 hy SOF
          go_wp2
          go_ret2
          exact ⟨0, [], none, 0, 0, rfl, NP.out, own_nothing _ _ _ (lf_lt isB_nil) BB.out.size, BB.out⟩
      · have NP := Lib.hid (cls_other (x := x) (n := n) fun j hj b => by
          rcases Nat.lt_or_ge j 5 with q | q
          · exact SOF.out j q b
          · obtain rfl : j = 5 := by omega
            exact ofpat5_none (fun h => h0 h.1) b)
        have b1 : decide ((0 : Int) < (n : Int)) = false := by simp; omega
        clear SOF
        go_wp2
        go_ret2
        exact ⟨0, [], none, 0, 0, rfl, NP.out, own_nothing _ _ _ (lf_lt isB_nil) BB.out.size, BB.out⟩
end Go.Proofs.YtghjgkgfpblijaaDoor
