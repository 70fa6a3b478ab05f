/- A transaction's parts written, the program's: numbers, texts, inputs, outputs, lists of them. -/
import Derived.Test.YtkjcljobcidhfaaDoorTd
import Derived.Test.YtkjcljobcidhfaaDoorNm
set_option linter.unusedSimpArgs false
set_option linter.unusedVariables false
set_option maxRecDepth 100000
namespace Go.Proofs.YtkjcljobcidhfaaDoor
open Go.RowKit Go.Lib Go.Sort

/-- A number in m bytes, the lowest first. -/
def low (n m : Nat) : List Nat := tl (byteAt n) m
/-- A count's bytes. -/
def cnt (n : Nat) : List Nat := tl (enc n) (wid n)
/-- A text: its count, and its bytes. -/
def text (t : List Nat) : List Nat := cnt t.length ++ t
theorem low_length (n m : Nat) : (low n m).length = m := tl_length _ _
theorem cnt_length (n : Nat) : (cnt n).length = wid n := tl_length _ _
theorem cnt_le (n : Nat) : 1 ≤ (cnt n).length ∧ (cnt n).length ≤ 9 := by rw [cnt_length]; exact wid_bd n
theorem text_length (t : List Nat) : (text t).length = wid t.length + t.length := by unfold text; rw [List.length_append, cnt_length]
theorem text_le (t : List Nat) : (text t).length ≤ 9 + t.length := by have := wid_bd t.length; rw [text_length]; omega
theorem low_succ (n j : Nat) : low n (j + 1) = low n j ++ [byteAt n j] := by
  unfold low tl
  rw [List.range_succ, List.map_append]
  rfl
theorem low_zero (n : Nat) : low n 0 = [] := rfl
theorem res2 {P : Program} {fn : Func} {a b : Tmp} (h : fn.results = #[.tmp a, .tmp b]) (tmps : Array Value) (w : World) :
    (results fn tmps).run P w = .ok (.tuple #[tmps.getD a undef, tmps.getD b undef]) w := by simp [results, h]
theorem row_one (w : World) (v : Nat) (hv : v < 256) : Row (w.alloc (.cells #[.int .u8 ((v : Nat) : Int)] 5)) (some ⟨w.heap.size, 0, none⟩) w.heap.size 0 1 1 (fun _ => v) := (own_new w (fun _ => v) 1 (by unfold maxLen; omega) (fun _ => hv)).row
/-- An input's bytes, an output's, a list's. -/
def inB (t : TIn) : List Nat := t.id ++ low t.idx 4 ++ text t.sc ++ low t.sq 4
def val64 (v : Int) : Nat := (v % 18446744073709551616).toNat
def outB (t : TOut) : List Nat := low (val64 t.val) 8 ++ text t.sc
def listB {α : Type} (f : α → List Nat) (l : List α) : List Nat := cnt l.length ++ (l.map f).flatten
def witB (t : TIn) : List Nat := listB text t.wit

section
variable {w0 w : World} {l : List (Nat × TypeId × Array Value)} {p : Option Addr} {g c : Nat} {xs : List Nat}
set_option maxHeartbeats 2000000 in
theorem tput_any (n m : Nat) (hm : m ≤ 8) (K0 : Hid (Wb w0 l p g c xs w)) (hl : xs.length + m ≤ 140737488355328) : Calls Tryd.prog 27 #[.slice p xs.length c, .int .u64 ((n : Nat) : Int), .int .i64 ((m : Nat) : Int)] w (Puts w0 l (xs ++ low n m)) := by
  have HL := Lib.hid hl
  clear hl
  go_enter Tryd.func27, Tryd.ntmps27
  go_wp2
  go_loopg [0, 9] m (fun k s i wr => ∃ (j : Nat) (p : Option Addr) (g c : Nat) (zs : List Nat), j + k = m ∧ i = .int .i64 (j : Int) ∧ s = .slice p zs.length c ∧ Hid (zs = xs ++ low n j) ∧ Hid (Wb w0 l p g c zs wr))
  case atStart => exact ⟨0, p, g, c, xs, by omega, rfl, rfl, Lib.hid (by rw [low_zero, List.append_nil]), K0⟩
  case round =>
    clear K0
    obtain ⟨j, p, g, c, zs, hj, rfl, rfl, Z, K⟩ := hrel
    obtain ⟨kk, rfl⟩ : ∃ kk : Nat, kk = gk := ⟨_, rfl⟩
    by_cases hlt : j < m
    · have BI := byte_int n j
      have t8 : (8 * (j : Int)).toNat = 8 * j := by omega
      have R := Lib.hid (row_one wr (byteAt n j) (byteAt_lt n j))
      have K1 := Lib.hid (K.out.call (below_new wr (.cells #[.int .u8 ((byteAt n j : Nat) : Int)] 5)))
      have ZL := Lib.hid (show zs.length + 1 ≤ 140737488355328 by have := HL.out; rw [Z.out, List.length_append, low_length]; omega)
      clear K
      go_wp2_with (at_builtin; refine wpList_wb rfl (.tmp 12) (.tmp 18) rfl K1 rfl rfl rfl R ZL.out ?_; clear K1 R; intro p3 g3 c3 w3 z3 Z3 K3)
      go_roundg (kk - 1)
      case measure => omega
      case rel => exact ⟨j + 1, p3, g3, c3, z3, by omega, by go_num, rfl, Lib.hid (by rw [Z3.out, Z.out, low_succ, List.append_assoc]; rfl), K3⟩
    · obtain rfl : j = m := by omega
      go_wp2
      go_ret
      rw [← Z.out]
      exact ⟨p, g, c, rfl, K.out⟩
theorem tput4 (n : Nat) (K0 : Hid (Wb w0 l p g c xs w)) (hl : xs.length + 4 ≤ 140737488355328) : Calls Tryd.prog 27 #[.slice p xs.length c, .int .u64 ((n : Nat) : Int), .int .i64 4] w (Puts w0 l (xs ++ low n 4)) := tput_any n 4 (by omega) K0 hl
theorem tput8 (n : Nat) (K0 : Hid (Wb w0 l p g c xs w)) (hl : xs.length + 8 ≤ 140737488355328) : Calls Tryd.prog 27 #[.slice p xs.length c, .int .u64 ((n : Nat) : Int), .int .i64 8] w (Puts w0 l (xs ++ low n 8)) := tput_any n 8 (by omega) K0 hl
theorem InCells.idRow {W : World} {V : Nat → Value} {t : TIn} (h : InCells W V t) {b T : Nat} (hh : w.heap[b]? = some (.cells (arr 36 V) T (0, 0))) : Row w (some ⟨b, 0, none⟩) b 0 32 32 (lf t.id) :=
  ⟨by omega, by unfold maxLen; omega, fun e => (by cases e), fun _ => rfl, fun i hi => by
    rw [Nat.zero_add, cell_of_here hh i (arr_get 36 V i (by omega)), h.id i hi]
    rfl, lf_lt h.idB⟩
theorem InCells.idTl {W : World} {V : Nat → Value} {t : TIn} (h : InCells W V t) : tl (lf t.id) 32 = t.id := by
  have := tl_lf t.id
  rwa [h.len] at this
theorem wrap_u32 {n : Nat} (h : n < 4294967296) : IntKind.u64.wrap (n : Int) = (n : Int) := by rw [IntKind.wrap_u64]; omega
end
end Go.Proofs.YtkjcljobcidhfaaDoor

