/- Frames that are the same are told to be. -/
import Derived.Test.YtkjcljobcidhfaaDoorGf
import Derived.Test.YtkjcljobcidhfaaDoorRgb
set_option linter.unusedSimpArgs false
set_option linter.unusedVariables false
set_option maxRecDepth 100000
namespace Go.Proofs.YtkjcljobcidhfaaDoor
open Go.RowKit Go.Lib Go.Sort

theorem same_textF {w : World} {v v' : Value} {t : List Nat} (A : Hid (TextAt w v t)) (A' : Hid (TextAt w v' t)) : Calls Tryd.prog 25 #[v, v'] w fun e w' => e = .returned (.bool true) ∧ Below w.heap.size w w' := by
  obtain ⟨p, g, o, c, rfl, hc, R⟩ := A.out
  obtain ⟨p', g', o', c', rfl, hc', R'⟩ := A'.out
  refine (equal_any (Lib.hid R) (Lib.hid R') rfl (Lib.hid fun _ _ => rfl)).mono ?_
  rintro e w' ⟨rfl, rfl⟩
  exact ⟨rfl, Below.refl _ _⟩
/-- A frame's two cells. -/
structure FrCells (w : World) (V : Nat → Value) (t : ByteArray × List Nat) : Prop where
  com : V 0 = .string t.1
  pay : TextAt w (V 1) t.2
def FrsIn (w : World) (v : Value) (fs : List (ByteArray × List Nat)) : Prop :=
  ∃ p g o c V, v = .slice p fs.length c ∧ fs.length ≤ 3000000000000 ∧ VRow 2 w p g o fs.length c V ∧ ∀ i (h : i < fs.length), FrCells w (fun j => V (i * 2 + j)) fs[i]
theorem FrCells.below {w w' : World} {V : Nat → Value} {t : ByteArray × List Nat} (h : FrCells w V t) (hb : Below w.heap.size w w') : FrCells w' V t := ⟨h.com, h.pay.below hb⟩
theorem TextOwn.at {B : Nat} {w : World} {v : Value} {t : List Nat} (h : TextOwn B w v t) : TextAt w v t := by
  obtain ⟨p, g, c, rfl, hl, N⟩ := h
  exact ⟨p, g, 0, c, rfl, hl, N.row⟩
theorem FrsAt.isIn {B g c : Nat} {w : World} {p : Option Addr} {V : Nat → Value} {fs : List (ByteArray × List Nat)} (h : FrsAt B w p g c V fs) (hl : fs.length ≤ 3000000000000) : FrsIn w (.slice p fs.length c) fs :=
  ⟨p, g, 0, c, V, rfl, hl, h.1.row, fun i hi => ⟨(h.2 i hi).1, (h.2 i hi).2.at⟩⟩

set_option maxHeartbeats 2000000 in
theorem same_fr {w : World} {V V' : Nat → Value} {t : ByteArray × List Nat} (A : Hid (FrCells w V t)) (A' : Hid (FrCells w V' t)) : Calls Tryd.prog 24 #[.agg (arr 2 V), .agg (arr 2 V')] w fun e w' => e = .returned (.bool true) ∧ Below w.heap.size w w' := by
  have E := Lib.hid (Mem.nil w)
  have c0 : (arr 2 V)[0]? = some (.string t.1) := by rw [arr_get 2 V 0 (by omega), A.out.com]
  have c0' : (arr 2 V')[0]? = some (.string t.1) := by rw [arr_get 2 V' 0 (by omega), A'.out.com]
  have c1 : (arr 2 V)[1]? = some (V 1) := arr_get 2 V 1 (by omega)
  have c1' : (arr 2 V')[1]? = some (V' 1) := arr_get 2 V' 1 (by omega)
  have S := Lib.hid fun w' (hb : Below w.heap.size w w') => same_textF (Lib.hid (A.out.pay.below hb)) (Lib.hid (A'.out.pay.below hb))
  clear A A'
  go_enter Tryd.func24, Tryd.ntmps24
  go_wp2_with (first
    | (refine mem_box E 42 rfl (.tmp 0) rfl rfl (arr_cells' 2 V) ?_; clear E; intro b2 w2 E)
    | (refine mem_box E 42 rfl (.tmp 1) rfl rfl (arr_cells' 2 V') ?_; clear E; intro b3 w3 E)
    | (refine mem_load_cell E 9 rfl (.tmp 5) rfl rfl (List.mem_cons_of_mem _ List.mem_cons_self) Tryd.underlying9 rfl c0 ?_)
    | (refine mem_load_cell E 9 rfl (.tmp 7) rfl rfl List.mem_cons_self Tryd.underlying9 rfl c0' ?_)
    | ((with_reducible refine wpList_at 8 rfl ?_); refine wpList_kn rfl (.bool true) (by exact exec_eqSt rfl rfl rfl rfl) ?_)
    | (refine mem_load_cell E 26 rfl (.tmp 11) rfl rfl (List.mem_cons_of_mem _ List.mem_cons_self) Tryd.underlying26 rfl c1 ?_)
    | (refine mem_load_cell E 26 rfl (.tmp 13) rfl rfl List.mem_cons_self Tryd.underlying26 rfl c1' ?_)
    | (go_at_call 25; refine (S.out _ E.out.below).mono ?_; rintro e w4 ⟨rfl, hb⟩; replace E := Lib.hid (E.out.call hb); clear hb))
  go_ret
  exact ⟨rfl, E.out.below⟩

set_option maxHeartbeats 4000000 in
theorem effr_any {w : World} {v v' : Value} {ts : List (ByteArray × List Nat)} (A : Hid (FrsIn w v ts)) (A' : Hid (FrsIn w v' ts)) :
    Calls Tryd.prog 23 #[v, v', .func (.func 24) #[] #[]] w fun e w' => e = .returned (.bool true) ∧ Below w.heap.size w w' := by
  obtain ⟨p, g, o, c, V, hv, hc, R0, hi⟩ := A.out
  obtain ⟨p', g', o', c', V', hv', hc', R0', hi'⟩ := A'.out
  subst hv hv'
  have RR := Lib.hid R0
  have SS := Lib.hid R0'
  have TT := Lib.hid hi
  have TU := Lib.hid hi'
  clear R0 hi A R0' hi' A' hc'
  have E := Lib.hid (Mem.nil w)
  obtain ⟨n, hn⟩ : ∃ n, n = ts.length := ⟨_, rfl⟩
  have HN := Lib.hid hn
  rw [← hn] at RR SS hc ⊢
  have hn3 : n ≤ 140737488355328 := by omega
  clear hn hc
  go_enter Tryd.func23, Tryd.ntmps23
  go_wp2
  go_loopg [17] n (fun k i wr => ∃ j : Nat, j + k = n ∧ i = .int .i64 (j : Int) ∧ Hid (Mem w [] wr))
  case atStart => exact ⟨0, by omega, rfl, E⟩
  case round =>
    clear E
    obtain ⟨j, hj, rfl, E⟩ := hrel
    obtain ⟨kk, rfl⟩ : ∃ kk : Nat, kk = gk := ⟨_, rfl⟩
    by_cases hlt : j < n
    · obtain rfl := RR.out.head (by omega)
      obtain rfl := SS.out.head (by omega)
      have ht : j < ts.length := by rw [← HN.out]; exact hlt
      have EC := Lib.hid (TT.out j ht)
      have ED := Lib.hid (TU.out j ht)
      go_wp2_with (first
        | (refine wpList_ix (k := 2) (j := j) Tryd.underlying31 (by kernel_rfl) (.tmp 15) (.tmp 17) rfl rfl rfl rfl hlt rfl ?_)
        | (refine wpList_ix (k := 2) (j := j) Tryd.underlying31 (by kernel_rfl) (.tmp 22) (.tmp 23) rfl rfl rfl rfl hlt rfl ?_)
        | (refine wpList_ld 42 (.tmp 20) rfl rfl rfl ((RR.out.below E.out.below).load hlt Tryd.underlying42 rfl (by kernel_rfl)) ?_)
        | (refine wpList_ld 42 (.tmp 24) rfl rfl rfl ((SS.out.below E.out.below).load hlt Tryd.underlying42 rfl (by kernel_rfl)) ?_)
        | (refine mem_alloc E 42 rfl rfl infoFr ?_; clear E; intro bn wn E)
        | (refine mem_store_row 0 E 42 rfl (.tmp 8) (.tmp 21) rfl rfl rfl rfl (by kernel_rfl) (by rw [arr_size]; rfl) (RR.out.arr_one hlt) ?_; clear E; intro w5 E; simp only [List.set_cons_zero, List.set_cons_succ] at E)
        | (refine mem_store_row 0 E 42 rfl (.tmp 9) (.tmp 25) rfl rfl rfl rfl (by kernel_rfl) (by rw [arr_size]; rfl) (SS.out.arr_one hlt) ?_; clear E; intro w6 E; simp only [List.set_cons_zero, List.set_cons_succ] at E)
        | (refine mem_load_row E 42 rfl (.tmp 8) rfl rfl (List.mem_cons_of_mem _ List.mem_cons_self) Tryd.underlying42 rfl (by simp only [arr_size]; kernel_rfl) ?_)
        | (refine mem_load_row E 42 rfl (.tmp 9) rfl rfl List.mem_cons_self Tryd.underlying42 rfl (by simp only [arr_size]; kernel_rfl) ?_)
        | (go_at_call 24; refine (same_fr (Lib.hid (EC.out.below E.out.below)) (Lib.hid (ED.out.below E.out.below))).mono ?_; rintro e w7 ⟨rfl, hb⟩; replace E := Lib.hid (E.out.call hb); clear hb))
      go_roundg (n - (j + 1))
      case measure => omega
      case rel => exact ⟨j + 1, by omega, by go_num, Lib.hid E.out.tail.tail⟩
    · obtain rfl : j = n := by omega
      go_wp2
      go_ret
      exact ⟨rfl, E.out.below⟩
set_option maxHeartbeats 2000000 in
theorem same_frs {w : World} {v v' : Value} {ts : List (ByteArray × List Nat)} (A : Hid (FrsIn w v ts)) (A' : Hid (FrsIn w v' ts)) : Calls Tryd.prog 12 #[v, v'] w fun e w' => e = .returned (.bool true) ∧ Below w.heap.size w w' := by
  have I := Lib.hid (effr_any A A')
  clear A A'
  go_enter Tryd.func12, Tryd.ntmps12
  go_wp2_with (go_at_call 23; refine I.out.mono ?_; rintro e w1 ⟨rfl, hb⟩; have B := Lib.hid hb; clear hb)
  go_ret
  exact ⟨rfl, B.out⟩
end Go.Proofs.YtkjcljobcidhfaaDoor
