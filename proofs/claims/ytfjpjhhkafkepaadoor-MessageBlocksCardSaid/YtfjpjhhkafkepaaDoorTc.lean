/- Whether a transaction can be written, the program's. -/
import Derived.Test.YtfjpjhhkafkepaaDoorTi
set_option linter.unusedSimpArgs false
set_option linter.unusedVariables false
set_option maxRecDepth 100000
namespace Go.Proofs.YtfjpjhhkafkepaaDoor
open Go.RowKit Go.Lib Go.Sort

def longB (t : List Nat) : Bool := decide (10000 < t.length)
def hasB (t : TIn) : Bool := decide (0 < t.wit.length)
def badInB (t : TIn) : Bool := longB t.sc || decide (100 < t.wit.length) || t.wit.any longB
def badOutB (t : TOut) : Bool := decide (t.val < 0) || longB t.sc
/-- A transaction can be written. -/
def canB (t : TTx) : Bool := !(decide (t.ins.length = 0) || decide (2000 < t.ins.length) || decide (2000 < t.outs.length)) && !t.ins.any badInB && !t.outs.any badOutB

theorem toolong_any (W : World) (v : Value) (t : List Nat) (A : TextAt W v t) : Calls Tryd.prog 78 #[v] W fun e w' => e = .returned (.bool (longB t)) ∧ Below W.heap.size W w' := by
  obtain ⟨p, g, o, c, rfl, hc, R⟩ := A
  have E := Lib.hid (Below.refl W.heap.size W)
  clear R hc
  obtain ⟨n, hn⟩ : ∃ n, n = t.length := ⟨_, rfl⟩
  have L := Lib.hid (show longB t = decide (10000 < n) by rw [hn]; rfl)
  rw [← hn, L.out]
  clear hn
  go_enter Tryd.func78, Tryd.ntmps78
  go_wp2
  go_ret
  exact ⟨by go_num, E.out⟩
set_option maxHeartbeats 2000000 in
theorem hasw_any (W : World) (V : Nat → Value) (t : TIn) (A : InCells W V t) : Calls Tryd.prog 57 #[.agg (arr 36 V)] W fun e w' => e = .returned (.bool (hasB t)) ∧ Below W.heap.size W w' := by
  have E := Lib.hid (Mem.nil W)
  obtain ⟨p, g, o, c, U, hv, hc, R, _⟩ := A.wit
  have c35 : (arr 36 V)[35]? = some (.slice p t.wit.length c) := by rw [arr_get 36 V 35 (by omega), hv]
  clear R hc hv
  obtain ⟨n, hn⟩ : ∃ n, n = t.wit.length := ⟨_, rfl⟩
  have L := Lib.hid (show hasB t = decide (0 < n) by rw [hn]; rfl)
  rw [← hn] at c35
  rw [L.out]
  have C := Lib.hid c35
  clear hn c35 A
  go_enter Tryd.func57, Tryd.ntmps57
  go_wp2_with (first
    | (refine mem_box E 75 rfl _ rfl rfl (arr_cells' 36 V) ?_; clear E; intro b3 w3 E)
    | (refine mem_load_cell E 73 rfl _ rfl rfl List.mem_cons_self Tryd.underlying73 rfl C.out ?_))
  go_ret
  exact ⟨by go_num, E.out.below⟩
set_option maxHeartbeats 4000000 in
theorem badin_any (W : World) (V : Nat → Value) (t : TIn) (A : InCells W V t) : Calls Tryd.prog 69 #[.agg (arr 36 V)] W fun e w' => e = .returned (.bool (badInB t)) ∧ Below W.heap.size W w' := by
  have E := Lib.hid (Mem.nil W)
  have c33 : (arr 36 V)[33]? = some (V 33) := arr_get 36 V 33 (by omega)
  have SC := Lib.hid A.sc
  have WT := Lib.hid A.wit
  obtain ⟨p, g, o, c, U, hv, hc, R, _⟩ := A.wit
  have c35 : (arr 36 V)[35]? = some (V 35) := arr_get 36 V 35 (by omega)
  have LEN : Hid (V 35 = .slice p t.wit.length c) := Lib.hid hv
  clear R hc hv A
  obtain ⟨n, hn⟩ : ∃ n, n = t.wit.length := ⟨_, rfl⟩
  obtain ⟨a, ha⟩ : ∃ a, a = longB t.sc := ⟨_, rfl⟩
  obtain ⟨b, hb⟩ : ∃ b, b = t.wit.any longB := ⟨_, rfl⟩
  have L := Lib.hid (show badInB t = (a || decide (100 < n) || b) by rw [hn, ha, hb]; rfl)
  have T1 := Lib.hid fun W (h : TextAt W (V 33) t.sc) => toolong_any W (V 33) t.sc h
  have T2 := Lib.hid fun W (h : TextsAt W (V 35) t.wit) => cftoolong_any (Lib.hid toolong_any) (Lib.hid h)
  rw [← ha] at T1
  rw [← hb] at T2
  rw [← hn] at LEN
  rw [L.out]
  clear hn ha hb
  generalize V 33 = v33 at *
  generalize V 35 = v35 at *
  obtain rfl := LEN.out
  clear LEN L
  cases a
  · by_cases h : 100 < n
    · have h' : (100 : Int) < (n : Int) := by omega
      rw [decide_eq_true h]
      go_enter Tryd.func69, Tryd.ntmps69
      go_wp2_with (first
        | (refine mem_box E 75 rfl _ rfl rfl (arr_cells' 36 V) ?_; clear E; intro b3 w3 E)
        | (refine mem_load_cell E 30 rfl _ rfl rfl List.mem_cons_self Tryd.underlying30 rfl c33 ?_)
        | (refine mem_load_cell E 73 rfl _ rfl rfl List.mem_cons_self Tryd.underlying73 rfl c35 ?_)
        | (go_at_call 78; refine (T1.out _ (SC.out.below E.out.below)).mono ?_; rintro e w4 ⟨rfl, hb⟩; replace E := Lib.hid (E.out.call hb); clear hb))
      go_ret
      exact ⟨rfl, E.out.below⟩
    · have h' : ¬ ((100 : Int) < (n : Int)) := by omega
      have h'' : decide ((100 : Int) < (n : Int)) = false := by simp; omega
      rw [decide_eq_false h]
      go_enter Tryd.func69, Tryd.ntmps69
      go_wp2_with (first
        | (refine mem_box E 75 rfl _ rfl rfl (arr_cells' 36 V) ?_; clear E; intro b3 w3 E)
        | (refine mem_load_cell E 30 rfl _ rfl rfl List.mem_cons_self Tryd.underlying30 rfl c33 ?_)
        | (refine mem_load_cell E 73 rfl _ rfl rfl List.mem_cons_self Tryd.underlying73 rfl c35 ?_)
        | (go_at_call 78; refine (T1.out _ (SC.out.below E.out.below)).mono ?_; rintro e w4 ⟨rfl, hb⟩; replace E := Lib.hid (E.out.call hb); clear hb)
        | (go_at_call 79; refine (T2.out _ (WT.out.below E.out.below)).mono ?_; rintro e w5 ⟨rfl, hb⟩; replace E := Lib.hid (E.out.call hb); clear hb))
      go_ret
      exact ⟨by simp, E.out.below⟩
  · go_enter Tryd.func69, Tryd.ntmps69
    go_wp2_with (first
      | (refine mem_box E 75 rfl _ rfl rfl (arr_cells' 36 V) ?_; clear E; intro b3 w3 E)
      | (refine mem_load_cell E 30 rfl _ rfl rfl List.mem_cons_self Tryd.underlying30 rfl c33 ?_)
      | (go_at_call 78; refine (T1.out _ (SC.out.below E.out.below)).mono ?_; rintro e w4 ⟨rfl, hb⟩; replace E := Lib.hid (E.out.call hb); clear hb))
    go_ret
    exact ⟨rfl, E.out.below⟩
set_option maxHeartbeats 4000000 in
theorem badout_any (W : World) (V : Nat → Value) (t : TOut) (A : OutCells W V t) : Calls Tryd.prog 71 #[.agg (arr 2 V)] W fun e w' => e = .returned (.bool (badOutB t)) ∧ Below W.heap.size W w' := by
  have E := Lib.hid (Mem.nil W)
  have c0 : (arr 2 V)[0]? = some (.int .i64 t.val) := by rw [arr_get 2 V 0 (by omega), A.val]
  have c1 : (arr 2 V)[1]? = some (V 1) := arr_get 2 V 1 (by omega)
  have SC := Lib.hid A.sc
  obtain ⟨x, hx⟩ : ∃ x, x = t.val := ⟨_, rfl⟩
  obtain ⟨a, ha⟩ : ∃ a, a = longB t.sc := ⟨_, rfl⟩
  have L := Lib.hid (show badOutB t = (decide (x < 0) || a) by rw [hx, ha]; rfl)
  have T1 := Lib.hid fun W (h : TextAt W (V 1) t.sc) => toolong_any W (V 1) t.sc h
  rw [← ha] at T1
  rw [← hx] at c0
  rw [L.out]
  clear hx ha L A
  by_cases h : x < 0
  · rw [decide_eq_true h]
    go_enter Tryd.func71, Tryd.ntmps71
    go_wp2_with (first
      | (refine mem_box E 77 rfl _ rfl rfl (arr_cells' 2 V) ?_; clear E; intro b3 w3 E)
      | (refine mem_load_cell E 2 rfl _ rfl rfl List.mem_cons_self Tryd.underlying2 rfl c0 ?_))
    go_ret
    exact ⟨rfl, E.out.below⟩
  · have h' : decide (x < 0) = false := decide_eq_false h
    rw [h']
    go_enter Tryd.func71, Tryd.ntmps71
    go_wp2_with (first
      | (refine mem_box E 77 rfl _ rfl rfl (arr_cells' 2 V) ?_; clear E; intro b3 w3 E)
      | (refine mem_load_cell E 2 rfl _ rfl rfl List.mem_cons_self Tryd.underlying2 rfl c0 ?_)
      | (refine mem_load_cell E 30 rfl _ rfl rfl List.mem_cons_self Tryd.underlying30 rfl c1 ?_)
      | (go_at_call 78; refine (T1.out _ (SC.out.below E.out.below)).mono ?_; rintro e w4 ⟨rfl, hb⟩; replace E := Lib.hid (E.out.call hb); clear hb))
    go_ret
    exact ⟨by simp, E.out.below⟩
set_option maxHeartbeats 4000000 in
theorem can_any {W : World} {v : Value} {t : TTx} (A0 : Hid (TxAt W v t)) : Calls Tryd.prog 55 #[v] W fun e w' => e = .returned (.bool (canB t)) ∧ Below W.heap.size W w' := by
  have E := Lib.hid (Mem.nil W)
  obtain ⟨V, rfl, A⟩ := A0.out
  have c1 : (arr 4 V)[1]? = some (V 1) := arr_get 4 V 1 (by omega)
  have c2 : (arr 4 V)[2]? = some (V 2) := arr_get 4 V 2 (by omega)
  have HI := Lib.hid A.ins
  have HO := Lib.hid A.outs
  obtain ⟨p1, g1, o1, d1, U1, hv1, _⟩ := A.ins
  obtain ⟨p2, g2, o2, d2, U2, hv2, _⟩ := A.outs
  obtain ⟨n, hn⟩ : ∃ n, n = t.ins.length := ⟨_, rfl⟩
  obtain ⟨m, hm⟩ : ∃ m, m = t.outs.length := ⟨_, rfl⟩
  obtain ⟨a, ha⟩ : ∃ a, a = t.ins.any badInB := ⟨_, rfl⟩
  obtain ⟨b, hb⟩ : ∃ b, b = t.outs.any badOutB := ⟨_, rfl⟩
  have L := Lib.hid (show canB t = (!(decide (n = 0) || decide (2000 < n) || decide (2000 < m)) && !a && !b) by rw [hn, hm, ha, hb]; rfl)
  have T1 := Lib.hid fun W (h : InsAt W (V 1) t.ins) => cfbadin_any (Lib.hid badin_any) (Lib.hid h)
  have T2 := Lib.hid fun W (h : OutsAt W (V 2) t.outs) => cfbadout_any (Lib.hid badout_any) (Lib.hid h)
  rw [← ha] at T1
  rw [← hb] at T2
  rw [← hn] at hv1
  rw [← hm] at hv2
  have LE1 := Lib.hid hv1
  have LE2 := Lib.hid hv2
  rw [L.out]
  clear hn hm ha hb A A0 hv1 hv2
  generalize V 1 = v1 at *
  generalize V 2 = v2 at *
  obtain rfl := LE1.out
  obtain rfl := LE2.out
  clear LE1 LE2 L
  by_cases h0 : n = 0
  · have h0' : ((n : Int) == 0) = true := by simp; omega
    have h0'' : decide ((n : Int) = 0) = true := by simp; omega
    subst h0
    go_enter Tryd.func55, Tryd.ntmps55
    go_wp2_with (first
      | (refine mem_box E 58 rfl _ rfl rfl (arr_cells' 4 V) ?_; clear E; intro b3 w3 E)
      | (refine mem_load_cell E 55 rfl _ rfl rfl List.mem_cons_self Tryd.underlying55 rfl c1 ?_)
      | (refine mem_load_cell E 56 rfl _ rfl rfl List.mem_cons_self Tryd.underlying56 rfl c2 ?_))
    go_ret
    exact ⟨by simp, E.out.below⟩
  · have h0' : ((n : Int) == 0) = false := by simp; omega
    have h0'' : decide ((n : Int) = 0) = false := by simp; omega
    have e0 : decide (n = 0) = false := decide_eq_false h0
    by_cases h1 : 2000 < n
    · have h1' : decide ((2000 : Int) < (n : Int)) = true := by simp; omega
      have e1 : decide (2000 < n) = true := decide_eq_true h1
      rw [e0, e1]
      go_enter Tryd.func55, Tryd.ntmps55
      go_wp2_with (first
        | (refine mem_box E 58 rfl _ rfl rfl (arr_cells' 4 V) ?_; clear E; intro b3 w3 E)
        | (refine mem_load_cell E 55 rfl _ rfl rfl List.mem_cons_self Tryd.underlying55 rfl c1 ?_)
        | (refine mem_load_cell E 56 rfl _ rfl rfl List.mem_cons_self Tryd.underlying56 rfl c2 ?_))
      go_ret
      exact ⟨by simp, E.out.below⟩
    · have h1' : decide ((2000 : Int) < (n : Int)) = false := by simp; omega
      have e1 : decide (2000 < n) = false := decide_eq_false h1
      by_cases h2 : 2000 < m
      · have h2' : decide ((2000 : Int) < (m : Int)) = true := by simp; omega
        have e2 : decide (2000 < m) = true := decide_eq_true h2
        rw [e0, e1, e2]
        go_enter Tryd.func55, Tryd.ntmps55
        go_wp2_with (first
          | (refine mem_box E 58 rfl _ rfl rfl (arr_cells' 4 V) ?_; clear E; intro b3 w3 E)
          | (refine mem_load_cell E 55 rfl _ rfl rfl List.mem_cons_self Tryd.underlying55 rfl c1 ?_)
          | (refine mem_load_cell E 56 rfl _ rfl rfl List.mem_cons_self Tryd.underlying56 rfl c2 ?_))
        go_ret
        exact ⟨by simp, E.out.below⟩
      · have h2' : decide ((2000 : Int) < (m : Int)) = false := by simp; omega
        have e2 : decide (2000 < m) = false := decide_eq_false h2
        rw [e0, e1, e2]
        clear e0 e1 e2
        cases a
        · go_enter Tryd.func55, Tryd.ntmps55
          go_wp2_with (first
            | (refine mem_box E 58 rfl _ rfl rfl (arr_cells' 4 V) ?_; clear E; intro b3 w3 E)
            | (refine mem_load_cell E 55 rfl _ rfl rfl List.mem_cons_self Tryd.underlying55 rfl c1 ?_)
            | (refine mem_load_cell E 56 rfl _ rfl rfl List.mem_cons_self Tryd.underlying56 rfl c2 ?_)
            | (go_at_call 56; refine (T1.out _ (HI.out.below E.out.below)).mono ?_; rintro e w4 ⟨rfl, hb⟩; replace E := Lib.hid (E.out.call hb); clear hb)
            | (go_at_call 70; refine (T2.out _ (HO.out.below E.out.below)).mono ?_; rintro e w5 ⟨rfl, hb⟩; replace E := Lib.hid (E.out.call hb); clear hb))
          go_ret
          exact ⟨by simp, E.out.below⟩
        · go_enter Tryd.func55, Tryd.ntmps55
          go_wp2_with (first
            | (refine mem_box E 58 rfl _ rfl rfl (arr_cells' 4 V) ?_; clear E; intro b3 w3 E)
            | (refine mem_load_cell E 55 rfl _ rfl rfl List.mem_cons_self Tryd.underlying55 rfl c1 ?_)
            | (refine mem_load_cell E 56 rfl _ rfl rfl List.mem_cons_self Tryd.underlying56 rfl c2 ?_)
            | (go_at_call 56; refine (T1.out _ (HI.out.below E.out.below)).mono ?_; rintro e w4 ⟨rfl, hb⟩; replace E := Lib.hid (E.out.call hb); clear hb))
          go_ret
          exact ⟨by simp, E.out.below⟩
end Go.Proofs.YtfjpjhhkafkepaaDoor

