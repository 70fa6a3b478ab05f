/- A transaction's parts written, the program's: numbers, texts, inputs, outputs, lists of them. -/
import Derived.Test.YtfjpjhhkafkepaaDoorZA
import Derived.Test.YtfjpjhhkafkepaaDoorZB
set_option linter.unusedSimpArgs false
set_option linter.unusedVariables false
set_option maxRecDepth 100000
namespace Go.Proofs.YtfjpjhhkafkepaaDoor
open Go.RowKit Go.Lib Go.Sort

/-- A number in m bytes, the lowest first. -/
def low (n m : Nat) : List Nat := tl (byteAt n) m
/-- A count's bytes. -/
def cnt (n : Nat) : List Nat := tl (enc n) (wid n)
/-- A text: its count, and its bytes. -/
def text (t : List Nat) : List Nat := cnt t.length ++ t
theorem low_length (n m : Nat) : (low n m).length = m := tl_length _ _
theorem cnt_length (n : Nat) : (cnt n).length = wid n := tl_length _ _
theorem cnt_le (n : Nat) : 1 ≤ (cnt n).length ∧ (cnt n).length ≤ 9 := by rw [cnt_length]; exact wid_bd n
theorem text_length (t : List Nat) : (text t).length = wid t.length + t.length := by unfold text; rw [List.length_append, cnt_length]
theorem text_le (t : List Nat) : (text t).length ≤ 9 + t.length := by have := wid_bd t.length; rw [text_length]; omega
theorem low_succ (n j : Nat) : low n (j + 1) = low n j ++ [byteAt n j] := by
  unfold low tl
  rw [List.range_succ, List.map_append]
  rfl
theorem low_zero (n : Nat) : low n 0 = [] := rfl
theorem tl_txt (t : List Nat) : tl (txt (lf t) t.length) (wid t.length + t.length) = text t := by
  apply lf_inj (by rw [tl_length, text_length])
  intro i hi
  rw [tl_length] at hi
  rw [lf_tl _ hi]
  unfold text txt
  rw [← lf_cat, cnt_length]
  unfold cat
  split
  · unfold cnt; rw [lf_tl _ (by assumption)]
  · rfl
/-- An input's bytes, an output's, a list's. -/
def inB (t : TIn) : List Nat := t.id ++ low t.idx 4 ++ text t.sc ++ low t.sq 4
def val64 (v : Int) : Nat := (v % 18446744073709551616).toNat
def outB (t : TOut) : List Nat := low (val64 t.val) 8 ++ text t.sc
def listB {α : Type} (f : α → List Nat) (l : List α) : List Nat := cnt l.length ++ (l.map f).flatten
def witB (t : TIn) : List Nat := listB text t.wit

section
variable {w0 w : World} {l : List (Nat × TypeId × Array Value)} {p : Option Addr} {g c : Nat} {xs : List Nat}
set_option maxHeartbeats 2000000 in
theorem tput_any (n m : Nat) (hm : m ≤ 8) (K0 : Hid (Wb w0 l p g c xs w)) (hl : xs.length + m ≤ 140737488355328) : Calls Tryd.prog 14 #[.slice p xs.length c, .int .u64 ((n : Nat) : Int), .int .i64 ((m : Nat) : Int)] w (Puts w0 l (xs ++ low n m)) := by
  have HL := Lib.hid hl
  clear hl
  go_enter Tryd.func14, Tryd.ntmps14
  go_wp2
  go_loopg [0, 9] m (fun k s i wr => ∃ (j : Nat) (p : Option Addr) (g c : Nat) (zs : List Nat), j + k = m ∧ i = .int .i64 (j : Int) ∧ s = .slice p zs.length c ∧ Hid (zs = xs ++ low n j) ∧ Hid (Wb w0 l p g c zs wr))
  case atStart => exact ⟨0, p, g, c, xs, by omega, rfl, rfl, Lib.hid (by rw [low_zero, List.append_nil]), K0⟩
  case round =>
    clear K0
    obtain ⟨j, p, g, c, zs, hj, rfl, rfl, Z, K⟩ := hrel
    obtain ⟨kk, rfl⟩ : ∃ kk : Nat, kk = gk := ⟨_, rfl⟩
    by_cases hlt : j < m
    · have BI := byte_int n j
      have t8 : (8 * (j : Int)).toNat = 8 * j := by omega
      have R := Lib.hid (row_one wr (byteAt n j) (byteAt_lt n j))
      have K1 := Lib.hid (K.out.call (below_new wr (.cells #[.int .u8 ((byteAt n j : Nat) : Int)] 5)))
      have ZL := Lib.hid (show zs.length + 1 ≤ 140737488355328 by have := HL.out; rw [Z.out, List.length_append, low_length]; omega)
      clear K
      go_wp2_with (at_builtin; refine wpList_wb rfl (.tmp 12) (.tmp 18) rfl K1 rfl rfl rfl R ZL.out ?_; clear K1 R; intro p3 g3 c3 w3 z3 Z3 K3)
      go_roundg (kk - 1)
      case measure => omega
      case rel => exact ⟨j + 1, p3, g3, c3, z3, by omega, by go_num, rfl, Lib.hid (by rw [Z3.out, Z.out, low_succ, List.append_assoc]; rfl), K3⟩
    · obtain rfl : j = m := by omega
      go_wp2
      go_ret
      rw [← Z.out]
      exact ⟨p, g, c, rfl, K.out⟩
theorem tput4 (n : Nat) (K0 : Hid (Wb w0 l p g c xs w)) (hl : xs.length + 4 ≤ 140737488355328) : Calls Tryd.prog 14 #[.slice p xs.length c, .int .u64 ((n : Nat) : Int), .int .i64 4] w (Puts w0 l (xs ++ low n 4)) := tput_any n 4 (by omega) K0 hl
theorem tput8 (n : Nat) (K0 : Hid (Wb w0 l p g c xs w)) (hl : xs.length + 8 ≤ 140737488355328) : Calls Tryd.prog 14 #[.slice p xs.length c, .int .u64 ((n : Nat) : Int), .int .i64 8] w (Puts w0 l (xs ++ low n 8)) := tput_any n 8 (by omega) K0 hl
set_option maxHeartbeats 2000000 in
theorem puttext_any {v : Value} {t : List Nat} (A : Hid (TextAt w0 v t)) (K0 : Hid (Wb w0 l p g c xs w)) (hl : xs.length + (text t).length ≤ 140737488355328) : Calls Tryd.prog 63 #[.slice p xs.length c, v] w (Puts w0 l (xs ++ text t)) := by
  obtain ⟨p1, g1, o1, c1, hv, hc1, R1⟩ := A.out
  subst hv
  have R := Lib.hid R1
  have hn := A.out.len
  have HL := Lib.hid hl
  have TT := Lib.hid (tl_txt t)
  clear A R1 hl hc1
  go_enter Tryd.func63, Tryd.ntmps63
  go_wp2_with (first
    | (go_at_call 20; refine (text_any (Lib.hid (R.out.below K0.out.mem.below)) hn).mono ?_; rintro e w1 ⟨p2, g2, c2, rfl, N1, hb⟩; have K1 := Lib.hid (K0.out.call hb); have R2 := Lib.hid N1.row; clear hb N1 K0)
    | (at_builtin; refine wpList_wb rfl _ _ rfl K1 rfl rfl rfl R2 (by have := HL.out; rw [text_length] at this; exact this) ?_; clear K1; intro p3 g3 c3 w3 z3 Z3 K3))
  go_ret
  have e : z3 = xs ++ text t := by rw [Z3.out, TT.out]
  rw [← e]
  exact ⟨p3, g3, c3, rfl, K3.out⟩
theorem InCells.idRow {W : World} {V : Nat → Value} {t : TIn} (h : InCells W V t) {b T : Nat} (hh : w.heap[b]? = some (.cells (arr 36 V) T (0, 0))) : Row w (some ⟨b, 0, none⟩) b 0 32 32 (lf t.id) :=
  ⟨by omega, by unfold maxLen; omega, fun e => (by cases e), fun _ => rfl, fun i hi => by
    rw [Nat.zero_add, cell_of_here hh i (arr_get 36 V i (by omega)), h.id i hi]
    rfl, lf_lt h.idB⟩
theorem InCells.idTl {W : World} {V : Nat → Value} {t : TIn} (h : InCells W V t) : tl (lf t.id) 32 = t.id := by
  have := tl_lf t.id
  rwa [h.len] at this
theorem wrap_u32 {n : Nat} (h : n < 4294967296) : IntKind.u64.wrap (n : Int) = (n : Int) := by rw [IntKind.wrap_u64]; omega
set_option maxHeartbeats 2000000 in
theorem putin_any {V : Nat → Value} {t : TIn} (A : Hid (InCells w0 V t)) (K0 : Hid (Wb w0 l p g c xs w)) (hl : xs.length + (inB t).length ≤ 140737488355328) : Calls Tryd.prog 59 #[.slice p xs.length c, .agg (arr 36 V)] w (Puts w0 l (xs ++ inB t)) := by
  have c32 : (arr 36 V)[32]? = some (w32 t.idx) := by rw [arr_get 36 V 32 (by omega), A.out.idx]
  have c33 : (arr 36 V)[33]? = some (V 33) := arr_get 36 V 33 (by omega)
  have c34 : (arr 36 V)[34]? = some (w32 t.sq) := by rw [arr_get 36 V 34 (by omega), A.out.sq]
  have B1 := A.out.idxB
  have B2 := A.out.sqB
  have SC := Lib.hid A.out.sc
  unfold w32 at c32 c34
  have HL : Hid (xs.length + t.id.length + 4 + (text t.sc).length + 4 ≤ 140737488355328) := Lib.hid (by unfold inB at hl; simp only [List.length_append, low_length] at hl; omega)
  clear hl
  have cw : IntKind.u64.wrap (t.idx : Int) = (t.idx : Int) := wrap_u32 B1
  have cw2 : IntKind.u64.wrap (t.sq : Int) = (t.sq : Int) := wrap_u32 B2
  go_enter Tryd.func59, Tryd.ntmps59
  go_wp2_with (first
    | (refine wb_box K0 75 (by decide) rfl _ rfl rfl (arr_cells' 36 V) ?_; clear K0; intro b3 w3 K)
    | (refine mem_known rfl (.slice (some ⟨b3, 0, none⟩) 32 32) _ (exec_sl rfl (run_hash b3 0 _)) ?_)
    | (at_builtin; refine wpList_wb rfl (.tmp 5) (.tmp 8) rfl K rfl rfl rfl (Lib.hid (A.out.idRow (K.out.mem.get List.mem_cons_self))) (by have := HL.out; have := A.out.len; omega) ?_; clear K; intro p4 g4 c4 w4 z4 Z4 K)
    | (refine mem_load_cell (Lib.hid K.out.mem) 22 rfl (.tmp 12) rfl rfl List.mem_cons_self Tryd.underlying22 rfl c32 ?_)
    | (refine mem_load_cell (Lib.hid K.out.mem) 30 rfl (.tmp 17) rfl rfl List.mem_cons_self Tryd.underlying30 rfl c33 ?_)
    | (refine mem_load_cell (Lib.hid K.out.mem) 22 rfl (.tmp 21) rfl rfl List.mem_cons_self Tryd.underlying22 rfl c34 ?_)
    | (go_at_call 14; (with_reducible refine (tput4 t.idx K (by have := HL.out; have := A.out.len; simp only [Z4.out, List.length_append, tl_length]; omega)).mono ?_); intro e w5 h5; obtain ⟨p5, g5, c5, z5, rfl, Z5, K5⟩ := h5.any; clear h5 K; have K := K5; clear K5)
    | (go_at_call 63; (with_reducible refine (puttext_any SC K (by have := HL.out; have := A.out.len; simp only [Z5.out, Z4.out, List.length_append, tl_length, low_length]; omega)).mono ?_); intro e w6 h6; obtain ⟨p6, g6, c6, z6, rfl, Z6, K6⟩ := h6.any; clear h6 K; have K := K6; clear K6)
    | (go_at_call 14; (with_reducible refine (tput4 t.sq K (by have := HL.out; have := A.out.len; simp only [Z6.out, Z5.out, Z4.out, List.length_append, tl_length, low_length]; omega)).mono ?_); intro e w7 h7; obtain ⟨p7, g7, c7, z7, rfl, Z7, K7⟩ := h7.any; clear h7 K; have K := K7; clear K7))
  go_ret
  exact Puts.of (by rw [Z7.out, Z6.out, Z5.out, Z4.out, A.out.idTl]; unfold inB; simp only [List.append_assoc]) K.out.tail
set_option maxHeartbeats 2000000 in
theorem putout_any {V : Nat → Value} {t : TOut} (A : Hid (OutCells w0 V t)) (K0 : Hid (Wb w0 l p g c xs w)) (hl : xs.length + (outB t).length ≤ 140737488355328) : Calls Tryd.prog 61 #[.slice p xs.length c, .agg (arr 2 V)] w (Puts w0 l (xs ++ outB t)) := by
  have c0 : (arr 2 V)[0]? = some (.int .i64 t.val) := by rw [arr_get 2 V 0 (by omega), A.out.val]
  have c1 : (arr 2 V)[1]? = some (V 1) := arr_get 2 V 1 (by omega)
  have SC := Lib.hid A.out.sc
  have HL : Hid (xs.length + 8 + (text t.sc).length ≤ 140737488355328) := Lib.hid (by unfold outB at hl; simp only [List.length_append, low_length] at hl; omega)
  have cw : IntKind.u64.wrap t.val = ((val64 t.val : Nat) : Int) := by rw [IntKind.wrap_u64]; unfold val64; rw [Int.toNat_of_nonneg (by omega)]
  have cw2 : t.val % 18446744073709551616 = ((val64 t.val : Nat) : Int) := by unfold val64; rw [Int.toNat_of_nonneg (by omega)]
  clear hl
  go_enter Tryd.func61, Tryd.ntmps61
  go_wp2_with (first
    | (refine wb_box K0 77 (by decide) rfl _ rfl rfl (arr_cells' 2 V) ?_; clear K0; intro b3 w3 K)
    | (refine mem_load_cell (Lib.hid K.out.mem) 2 rfl _ rfl rfl List.mem_cons_self Tryd.underlying2 rfl c0 ?_)
    | (refine mem_load_cell (Lib.hid K.out.mem) 30 rfl _ rfl rfl List.mem_cons_self Tryd.underlying30 rfl c1 ?_)
    | (go_at_call 14; (with_reducible refine (tput8 (val64 t.val) K (by have := HL.out; omega)).mono ?_); intro e w5 h5; obtain ⟨p5, g5, c5, z5, rfl, Z5, K5⟩ := h5.any; clear h5 K; have K := K5; clear K5)
    | (go_at_call 63; (with_reducible refine (puttext_any SC K (by have := HL.out; simp only [Z5.out, List.length_append, tl_length, low_length]; omega)).mono ?_); intro e w6 h6; obtain ⟨p6, g6, c6, z6, rfl, Z6, K6⟩ := h6.any; clear h6 K; have K := K6; clear K6))
  go_ret
  exact Puts.of (by rw [Z6.out, Z5.out]; unfold outB; simp only [List.append_assoc]) K.out.tail
end
end Go.Proofs.YtfjpjhhkafkepaaDoor

