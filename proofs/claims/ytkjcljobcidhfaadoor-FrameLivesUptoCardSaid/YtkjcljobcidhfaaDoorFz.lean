/- Commands and frames: a text of bytes as numbers, appends of texts and of noughts, a payload's check sum, a frame written by the program and by the document, an argument of the type Frame. -/
import Derived.Test.YtkjcljobcidhfaaDoorWk
import Derived.Laws.IdiomStrings
import Derived.Test.YtkjcljobcidhfaaDoorTb
import Derived.Test.YtkjcljobcidhfaaDoorHm
import Derived.Test.YtkjcljobcidhfaaDoorMk
import Derived.Deep.AppendSrc
import Derived.Lib.AppendZeros
import Derived.Test.YtkjcljobcidhfaaDoorTv
import Derived.Test.YtkjcljobcidhfaaDoorTe
import Derived.Test.YtkjcljobcidhfaaDoorCl
import Derived.Lib.SmallJoins
import Derived.Test.YtkjcljobcidhfaaDoorNm
import Derived.Deep.LoopGhost
set_option linter.unusedSimpArgs false
set_option linter.unusedVariables false
set_option maxRecDepth 100000
namespace Go.Proofs.YtkjcljobcidhfaaDoor
open Go.RowKit Go.Lib

/-- A text's byte. -/
def sb (s : ByteArray) (k : Nat) : Nat := if h : k < s.size then (s[k]'h).toNat else 0
theorem sb_get (s : ByteArray) : ∀ (n : Nat) (h : n < s.size), (s[n]'h).toNat = sb s n := fun n h => by unfold sb; rw [dif_pos h]
theorem sb_lt (s : ByteArray) (k : Nat) : sb s k < 256 := by
  unfold sb; split
  · exact UInt8.toNat_lt _
  · omega
/-- A small letter. -/
def low1 (b : Nat) : Bool := decide (97 ≤ b) && decide (b ≤ 122)
/-- The first n bytes are small letters. -/
def lows (x : Nat → Nat) : Nat → Bool
  | 0 => true
  | n + 1 => lows x n && low1 (x n)
theorem lows_not {x : Nat → Nat} {n j : Nat} (h : j < n) (hj : low1 (x j) = false) : lows x n = false := by
  induction n with
  | zero => omega
  | succ n ih =>
    show (lows x n && low1 (x n)) = false
    rcases Nat.lt_or_ge j n with q | q
    · rw [ih q]; rfl
    · obtain rfl : j = n := by omega
      rw [hj, Bool.and_false]
/-- A command: one to twelve small letters. -/
def isCom (x : Nat → Nat) (n : Nat) : Bool := lows x n && (decide (1 ≤ n) && decide (n ≤ 12))

theorem isCom_low {x : Nat → Nat} {n : Nat} (h : lows x n = true) : isCom x n = (decide (1 ≤ n) && decide (n ≤ 12)) := by unfold isCom; rw [h, Bool.true_and]
theorem isCom_not {x : Nat → Nat} {n : Nat} (h : lows x n = false) : isCom x n = false := by unfold isCom; rw [h, Bool.false_and]
set_option maxHeartbeats 2000000 in
theorem ref_iscom_any (w : World) (s : ByteArray) (hs : s.size ≤ 140737488355328) : Calls Tryd.prog 39 #[.string s] w fun e w' => e = .returned (.bool (isCom (sb s) s.size)) ∧ w = w' := by
  have X : Hid (∀ j, sb s j < 256) := Lib.hid (sb_lt s)
  have G : ∀ (k : Nat) (h : k < s.size), ((s[k]'h).toNat : Int) = ((sb s k : Nat) : Int) := fun k h => by rw [sb_get]
  generalize sb s = x at *
  go_enter Tryd.func39, Tryd.ntmps39
  go_wp2
  go_loop [3] (fun i => ∃ j : Nat, j ≤ s.size ∧ i = .int .i64 (j : Int) ∧ Hid (lows x j = true)) (fun i => s.size - (intOf i).toNat)
  case atStart => exact ⟨0, by omega, rfl, Lib.hid rfl⟩
  case round =>
    obtain ⟨j, hj, rfl, F⟩ := hrel
    by_cases hlt : j < s.size
    · have NX := Lib.hid (show lows x (j + 1) = low1 (x j) by show (lows x j && low1 (x j)) = _; rw [F.out, Bool.true_and])
      have NO := Lib.hid (fun h : low1 (x j) = false => isCom_not (lows_not hlt h))
      have hb2 : x j < 256 := X.out j
      by_cases h1 : x j < 97
      · have N := Lib.hid (NO.out (by unfold low1; rw [decide_eq_false (by omega), Bool.false_and]))
        go_wp2
        go_ret
        exact ⟨by rw [N.out]; rfl, rfl⟩
      · by_cases h2 : 122 < x j
        · have N := Lib.hid (NO.out (by unfold low1; rw [decide_eq_false (show ¬ x j ≤ 122 by omega), Bool.and_false]))
          go_wp2
          go_ret
          exact ⟨by rw [N.out]; rfl, rfl⟩
        · go_wp2
          go_round
          case rel => exact ⟨j + 1, by omega, by go_num, Lib.hid (by rw [NX.out]; unfold low1; rw [decide_eq_true (by omega), decide_eq_true (by omega)]; rfl)⟩
          case measure => simp [intOf]; omega
    · obtain rfl : j = s.size := by omega
      have IC := Lib.hid (isCom_low F.out)
      by_cases a1 : s.size < 1
      · have Z := Lib.hid (show isCom x s.size = false by rw [IC.out, decide_eq_false (show ¬ 1 ≤ s.size by omega), Bool.false_and])
        go_wp2
        go_ret
        exact ⟨by rw [Z.out]; rfl, rfl⟩
      · by_cases a2 : 12 < s.size
        · have Z := Lib.hid (show isCom x s.size = false by rw [IC.out, decide_eq_false (show ¬ s.size ≤ 12 by omega), Bool.and_false])
          have D := Lib.hid (show decide ((s.size : Int) ≤ 12) = false by simp; omega)
          go_wp2
          go_ret
          exact ⟨by rw [Z.out]; show Ending.returned (Value.bool (decide ((s.size : Int) ≤ 12))) = _; rw [D.out], rfl⟩
        · have Z := Lib.hid (show isCom x s.size = true by rw [IC.out, decide_eq_true (show 1 ≤ s.size by omega), decide_eq_true (show s.size ≤ 12 by omega)]; rfl)
          have D := Lib.hid (show decide ((s.size : Int) ≤ 12) = true by simp; omega)
          go_wp2
          go_ret
          exact ⟨by rw [Z.out]; show Ending.returned (Value.bool (decide ((s.size : Int) ≤ 12))) = _; rw [D.out], rfl⟩

theorem conv_row (w : World) (s : ByteArray) (hs : s.size ≤ 140737488355328) : ∃ c w', (convert 9 26 (.string s)).run Tryd.prog w = .ok (.slice (some ⟨w.heap.size, 0, none⟩) s.size c) w' ∧ Row w' (some ⟨w.heap.size, 0, none⟩) w.heap.size 0 s.size c (sb s) ∧ Below w.heap.size w w' := by
  refine ⟨_, _, run_bytes_of_string w 9 26 5 s Tryd.underlying9 Tryd.underlying26 Tryd.underlying5, ⟨?_, ?_, fun h => (by cases h), fun _ => rfl, fun i hi => ?_, sb_lt s⟩, ?_⟩
  · exact grownCap_ge w s.size 0 5
  · exact grownCap_le_maxLen w s.size 0 5 (by unfold maxLen; omega)
  · have hz : s.data.size = s.size := rfl
    simp only [World.cell?, World.alloc, World.drew, bytesRow, Nat.zero_add]
    have hd : s.data[i]? = some (s.data[i]'hi) := Array.getElem?_eq_getElem hi
    simp only [Array.getElem?_push_size, Option.isSome_none, Bool.false_eq_true, if_false]
    rw [Array.getElem?_append_left (by rw [Array.size_map]; exact hi), Array.getElem?_map, hd, ← sb_get s i hi]
    rfl
  · exact ((Below.refl _ _).drew.alloc (Nat.le_refl _) _)
section
variable {ops : Array Oper} {rest : List Oper} {Q : Exit → Act → World → Prop} {op : Oper} {a : Act} {w : World} {s : ByteArray}
/-- A text's bytes, in a new row. -/
theorem wpList_conv (hg : op.guard = none) (x : Operand) (ho : op.op = .convert 9 26 x) (hx : a.eval x = .string s) (hs : s.size ≤ 140737488355328)
    (k : ∀ g c w', Hid (Row w' (some ⟨g, 0, none⟩) g 0 s.size c (sb s)) → Hid (Below w.heap.size w w') → wpList Tryd.prog ops Q rest (a.put op.dst (.slice (some ⟨g, 0, none⟩) s.size c)) w') : wpList Tryd.prog ops Q (op :: rest) a w := by
  obtain ⟨c, w', hrun, R, hb⟩ := conv_row w s hs
  refine mem_known hg _ w' ?_ (k _ c w' (Lib.hid R) (Lib.hid hb))
  unfold execOp
  simp only [ho, hx, Sem.run_bind, hrun, Result.andThen_ok]
  rfl
end
set_option maxHeartbeats 2000000 in
theorem iscom_any (W : World) (s : ByteArray) (hs : s.size ≤ 140737488355328) : Calls Tryd.prog 26 #[.string s] W fun e w' => e = .returned (.bool (isCom (sb s) s.size)) ∧ Below W.heap.size W w' := by
  by_cases a1 : s.size = 0
  · have Z := Lib.hid (show isCom (sb s) s.size = false by unfold isCom; rw [decide_eq_false (show ¬ 1 ≤ s.size by omega), Bool.false_and, Bool.and_false])
    rw [Z.out]
    clear Z
    have a2 : ((s.size : Int) == 0) = true := by simp [a1]
    go_enter Tryd.func26, Tryd.ntmps26
    go_wp2
    go_ret
    exact ⟨rfl, Below.refl _ _⟩
  · have a2 : ((s.size : Int) == 0) = false := beq_eq_false_iff_ne.2 (by omega)
    by_cases a3 : 12 < s.size
    · have Z := Lib.hid (show isCom (sb s) s.size = false by unfold isCom; rw [decide_eq_false (show ¬ s.size ≤ 12 by omega), Bool.and_false, Bool.and_false])
      rw [Z.out]
      clear Z
      go_enter Tryd.func26, Tryd.ntmps26
      go_wp2
      go_ret
      exact ⟨rfl, Below.refl _ _⟩
    · have Z := Lib.hid (show lows (sb s) s.size = true → isCom (sb s) s.size = true from fun h => by unfold isCom; rw [h, decide_eq_true (show 1 ≤ s.size by omega), decide_eq_true (show s.size ≤ 12 by omega)]; rfl)
      have X : Hid (∀ j, sb s j < 256) := Lib.hid (sb_lt s)
      obtain ⟨x, hx⟩ : ∃ x, x = sb s := ⟨_, rfl⟩
      have HX := Lib.hid (show ∀ (w : World) p g o n c, Row w p g o n c (sb s) → Row w p g o n c x from fun _ _ _ _ _ _ h => by rw [hx]; exact h)
      rw [← hx] at X Z ⊢
      clear hx
      go_enter Tryd.func26, Tryd.ntmps26
      go_wp2_with (refine wpList_conv rfl (.tmp 13) rfl rfl hs ?_; intro g c w1 R0 B; have R := Lib.hid (HX.out _ _ _ _ _ _ R0.out); clear R0 HX)
      go_loop [4, 16] (fun _ i => ∃ j : Nat, j ≤ s.size ∧ i = .int .i64 (j : Int) ∧ Hid (lows x j = true)) (fun _ i => s.size - (intOf i).toNat)
      case atStart => exact ⟨0, by omega, rfl, Lib.hid rfl⟩
      case round =>
        obtain ⟨j, hj, rfl, F⟩ := hrel
        by_cases hlt : j < s.size
        · have c0 := R.out.cell j hlt
          rw [Nat.zero_add] at c0
          have NX := Lib.hid (show lows x (j + 1) = low1 (x j) by show (lows x j && low1 (x j)) = _; rw [F.out, Bool.true_and])
          have NO := Lib.hid (fun h : low1 (x j) = false => isCom_not (lows_not hlt h))
          have hb2 : x j < 256 := X.out j
          by_cases h1 : x j < 97
          · have N := Lib.hid (NO.out (by unfold low1; rw [decide_eq_false (by omega), Bool.false_and]))
            go_wp2
            go_ret
            exact ⟨by rw [N.out]; rfl, B.out⟩
          · by_cases h2 : 122 < x j
            · have N := Lib.hid (NO.out (by unfold low1; rw [decide_eq_false (show ¬ x j ≤ 122 by omega), Bool.and_false]))
              go_wp2
              go_ret
              exact ⟨by rw [N.out]; rfl, B.out⟩
            · go_wp2
              go_round
              case rel => exact ⟨j + 1, by omega, by go_num, Lib.hid (by rw [NX.out]; unfold low1; rw [decide_eq_true (by omega), decide_eq_true (by omega)]; rfl)⟩
              case measure => simp [intOf]; omega
        · obtain rfl : j = s.size := by omega
          have ZZ := Lib.hid (Z.out F.out)
          go_wp2
          go_ret
          exact ⟨by rw [ZZ.out]; rfl, B.out⟩
end Go.Proofs.YtkjcljobcidhfaaDoor

set_option linter.unusedSimpArgs false
set_option linter.unusedVariables false
set_option maxRecDepth 100000
namespace Go.Proofs.YtkjcljobcidhfaaDoor
open Go.RowKit Go.Lib

def putC : Array Value → Nat → List Value → Array Value
  | c, _, [] => c
  | c, o, v :: r => putC (c.setIfInBounds o v) (o + 1) r
theorem setCells_here {g T : Nat} : ∀ (vs : List Value) (o : Nat) (w : World) (cur : Array Value), w.heap[g]? = some (.cells cur T (0, 0)) → (w.setCells g o vs).heap[g]? = some (.cells (putC cur o vs) T (0, 0)) ∧ Only g w (w.setCells g o vs)
  | [], _, w, _, h => ⟨h, Only.refl _ _⟩
  | v :: r, o, w, cur, h => by
    have h1 := (Holds.start h).set (i := o) (v := v) rfl
    have h2 := setCells_here r (o + 1) _ _ h1.here
    exact ⟨h2.1, h1.only.trans h2.2⟩
theorem putC_size : ∀ (vs : List Value) (o : Nat) (cur : Array Value), (putC cur o vs).size = cur.size
  | [], _, _ => rfl
  | v :: r, o, cur => by
    show (putC (cur.setIfInBounds o v) (o + 1) r).size = _
    rw [putC_size r, Array.size_setIfInBounds]
theorem putC_take : ∀ (vs : List Value) (o : Nat) (cur : Array Value), o + vs.length ≤ cur.size → (putC cur o vs).toList.take (o + vs.length) = cur.toList.take o ++ vs
  | [], o, cur, _ => by
    show cur.toList.take (o + 0) = _
    rw [Nat.add_zero, List.append_nil]
  | v :: r, o, cur, h => by
    have hl : (v :: r).length = r.length + 1 := rfl
    have h2 := putC_take r (o + 1) (cur.setIfInBounds o v) (by rw [Array.size_setIfInBounds]; omega)
    show (putC (cur.setIfInBounds o v) (o + 1) r).toList.take _ = _
    rw [hl, show o + (r.length + 1) = o + 1 + r.length by omega, h2, Array.toList_setIfInBounds]
    have hs : o < cur.toList.length := by rw [Array.length_toList]; omega
    rw [List.take_add_one, List.getElem?_set_self hs, List.take_set_of_le (Nat.le_refl o)]
    simp
theorem only_below {w w' : World} {B g : Nat} (h : Only g w w') (hb : B ≤ g) (hl : B ≤ w.heap.size) : Below B w w' := ⟨h.os, h.tape, h.output, h.size, fun k hk => h.block k (by omega) (by omega)⟩
theorem keeps_only {w w' : World} {g : Nat} {cur : Array Value} (hg : w.heap[g]? = some (.cells cur 5 (0, 0))) (h : Only g w w') : Keeps w w' := fun b cs T hT hb => by
  have hne : b ≠ g := by
    rintro rfl
    rw [hg] at hb
    injection hb with hb
    injection hb with _ hb _
    exact hT hb.symm
  exact (h.block b (heap_lt hb) hne).trans hb
theorem own_room {w : World} {B g n c m : Nat} {x y : Nat → Nat} (N : Own B w (some ⟨g, 0, none⟩) g n c x) (hm : n + m ≤ c) (hy : ∀ i, y i < 256) :
    Own B (w.setCells g n (fbs y m)) (some ⟨g, 0, none⟩) g (n + m) c (cat x n y) ∧ Below B w (w.setCells g n (fbs y m)) ∧ Keeps w (w.setCells g n (fbs y m)) := by
  obtain ⟨hl, h | ⟨g', cap, cur, hv, hb, hg, hn, hc, hs, ht⟩⟩ := N.own
  · cases h.1
  · cases hv
    have hs' : cur.size = c := by rw [hs, Nat.mul_one]
    have H := setCells_here (T := 5) (fbs y m) n w cur hg
    have P := putC_take (fbs y m) n cur (by rw [fbs_length]; omega)
    rw [fbs_length] at P
    have hb2 : Below B w (w.setCells g n (fbs y m)) := only_below H.2 hb N.low
    refine ⟨⟨⟨by rw [fbs_length, Nat.mul_one], .inr ⟨g, c, _, rfl, hb, H.1, hm, hc, by rw [putC_size, hs], ?_⟩⟩, .inr rfl, cat_byte n N.byte hy, Nat.le_trans N.low hb2.size⟩, hb2, keeps_only hg H.2⟩
    rw [Nat.mul_one, P, ← fbs_cat]
    congr 1
    rw [Nat.mul_one] at ht
    exact ht
theorem byteCells_fbs (s : ByteArray) : byteCells s = fbs (sb s) s.size := by
  apply List.ext_getElem?
  intro i
  unfold byteCells
  rcases Nat.lt_or_ge i s.size with h | h
  · rw [fbs_at _ _ _ h, List.getElem?_map]
    have hd : s.data.toList[i]? = some (s.data[i]'h) := by rw [Array.getElem?_toList]; exact Array.getElem?_eq_getElem h
    rw [hd, ← sb_get s i h]
    rfl
  · rw [List.getElem?_eq_none (by rw [List.length_map, Array.length_toList]; exact h), List.getElem?_eq_none (by rw [fbs_length]; exact h)]
theorem zeroCells_fbs (k : Nat) : (Builtin.zeroCells #[.int .u8 0] k).toList = fbs (fun _ => 0) k := by
  apply List.ext_getElem?
  intro i
  unfold Builtin.zeroCells
  rcases Nat.lt_or_ge i k with h | h
  · rw [fbs_at _ _ _ h]
    simp [h, Nat.mod_one]
  · rw [List.getElem?_eq_none (by simp; exact h), List.getElem?_eq_none (by rw [fbs_length]; exact h)]
/-- Text behind bytes. -/
theorem own_app_text {w : World} {p : Option Addr} {B g n c : Nat} {x : Nat → Nat} (N : Own B w p g n c x) (h0 : 0 < n) (s : ByteArray) (ty : TypeId) (hl : n + s.size ≤ 140737488355328) :
    ∃ p' g' c' w', (Builtin.append_ #[26, 9] ty #[.slice p n c, .string s]).run Tryd.prog w = .ok (.slice p' (n + s.size) c') w' ∧ Own B w' p' g' (n + s.size) c' (cat x n (sb s)) ∧ Below B w w' ∧ Keeps w w' := by
  obtain ⟨i0, hi, hz0, hz1, hz2⟩ := info_parts infoB
  obtain rfl := N.row.head h0
  have S : Src Tryd.prog i0.size 9 (.string s) s.size (byteCells s) w := by rw [hz1]; exact Src.ofString w Tryd.underlying9 s
  by_cases hr : n + s.size ≤ c
  · obtain ⟨O, b, kp⟩ := own_room N hr (sb_lt s)
    obtain ⟨hl', h | ⟨g', cap, cur, hv, hb, hg, hn, hc, hs, ht⟩⟩ := N.own
    · cases h.1
    · cases hv
      rw [Nat.mul_one] at hs
      have R := run_append_room_src w 26 9 ty 5 i0 Tryd.underlying26 hi g 0 n c (.string s) s.size _ S hr (fun j hj => by
        rw [hz1, byteCells_length] at *
        have e : 0 + n * 1 + j < cur.size := by omega
        rw [cell_of_here hg _ (Array.getElem?_eq_getElem e)]; rfl) (fun j hj => free_of_here hg _)
      rw [hz1, byteCells_fbs, Nat.mul_one, Nat.zero_add] at R
      exact ⟨_, g, c, _, R, O, b, kp⟩
  · have hz : i0.bytes = 1 := hz2
    have old : (Builtin.firstCells i0.size n (.slice (some ⟨g, 0, none⟩) n c)).run Tryd.prog w.drew = .ok (fbs x n).toArray w.drew := by
      rw [hz1]
      exact run_firstCells_some w.drew 1 n ⟨g, 0, none⟩ n c (fbs x n) (by rw [fbs_length, Nat.mul_one]) fun j u hu => by
        obtain ⟨hj, rfl⟩ := fbs_get _ _ _ _ hu
        rw [row_add]
        exact N.row.cell j hj
    have R := run_append_grow_src w 26 9 ty 5 i0 _ Tryd.underlying26 hi hz0 (some ⟨g, 0, none⟩) n c _ old (.string s) s.size _ S (by omega) (by omega) (growslice_fits (by omega) (by rw [hz]; omega))
    refine ⟨_, w.heap.size, _, _, R, ⟨⟨by rw [fbs_length, Nat.mul_one], .inr ⟨w.heap.size, _, _, rfl, N.low, heap_alloc_new w.drew _, grownCap_ge w (n + s.size) c 5, grownCap_le_maxLen w (n + s.size) c 5 (by unfold maxLen; omega), ?_, ?_⟩⟩, .inr rfl, cat_byte n N.byte (sb_lt s), ?_⟩, ((Below.refl _ _).drew.alloc (Nat.le_refl _) _).mono N.low, fun b cs T hT hb => (Below.heap_alloc w.drew _ b (heap_lt hb)).trans hb⟩
    · simp only [Array.size_append, List.size_toArray, List.length_append, fbs_length, byteCells_length, size_zeroCells]
      have := grownCap_ge w (n + s.size) c 5
      simp [Value.cells]
      omega
    · rw [byteCells_fbs, fbs_cat, Array.toList_append, Nat.mul_one]
      exact List.take_left' (fbs_length _ _)
    · have := (below_new w.drew (.cells (((fbs x n) ++ byteCells s).toArray ++ Builtin.zeroCells (Value.int .u8 0).cells (grownCap w (n + s.size) c 5 - (n + s.size))) 5)).size
      exact Nat.le_trans N.low this
/-- Noughts behind bytes, where there is room. -/
theorem own_app_zeros {w : World} {p : Option Addr} {B g n c : Nat} {x : Nat → Nat} (N : Own B w p g n c x) (h0 : 0 < n) (k : Nat) (ty : TypeId) (hl : n + k ≤ c) (hk : k ≤ 140737488355328) :
    ∃ w', (Builtin.append_ #[26, 3] ty #[.slice p n c, .int .i64 (k : Int)]).run Tryd.prog w = .ok (.slice p (n + k) c) w' ∧ Own B w' p g (n + k) c (cat x n fun _ => 0) ∧ Below B w w' ∧ Keeps w w' := by
  obtain ⟨i0, hi, hz0, hz1, hz2⟩ := info_parts infoB
  obtain rfl := N.row.head h0
  have O := own_room (y := fun _ => 0) N hl (fun _ => by omega)
  refine ⟨_, ?_, O⟩
  obtain ⟨hl', h | ⟨g', cap, cur, hv, hb, hg, hn, hc, hs, ht⟩⟩ := N.own
  · cases h.1
  · cases hv
    rw [Nat.mul_one] at hs
    have st := run_storeCells_cells (P := Tryd.prog) g n (fbs (fun _ => 0) k) 0 w (fun j hj => by
      rw [fbs_length] at hj
      have e : n + 0 + j < cur.size := by omega
      rw [cell_of_here hg _ (Array.getElem?_eq_getElem e)]; rfl) (fun j hj => free_of_here hg _) (fbs_one _ _)
    rw [Nat.add_zero] at st
    have hw : IntKind.i64.wrap (k : Int) = k := by rw [IntKind.wrap_i64]; omega
    have h48i : ¬ (281474976710656 < (k : Int) * (i0.bytes : Int)) := by rw [hz2]; omega
    have hneg : ¬ ((k : Int) < 0) := by omega
    rcases Nat.eq_zero_or_pos k with e | e
    · subst e
      have e2 : fbs (fun _ => 0) 0 = [] := rfl
      have w0 : IntKind.i64.wrap 0 = 0 := by rw [IntKind.wrap_i64]; rfl
      simp [w0, Builtin.append_, run_underlying Tryd.underlying26, run_underlying Tryd.underlying3, sizeOf, typeInfo, hi, asInt, asIntOf, hw, hneg, h48i, hl, e2, World.setCells, storeCells, hn]
    · have hns : ¬ (k * i0.size = 0) := by rw [hz1]; omega
      have hns2 : ¬ (k = 0) := by omega
      have zc := zeroCells_fbs k
      simp [Builtin.append_, run_underlying Tryd.underlying26, run_underlying Tryd.underlying3, sizeOf, typeInfo, zeroValue, hi, hz0, hz1, asInt, asIntOf, hw, hneg, hns, hns2, h48i, hl, Value.cells, zc, row_add, st]
/-- Noughts behind bytes. -/
theorem own_app_noughts {w : World} {p : Option Addr} {B g n c : Nat} {x : Nat → Nat} (N : Own B w p g n c x) (h0 : 0 < n) (k : Nat) (ty : TypeId) (hl : n + k ≤ 140737488355328) :
    ∃ p' g' c' w', (Builtin.append_ #[26, 3] ty #[.slice p n c, .int .i64 (k : Int)]).run Tryd.prog w = .ok (.slice p' (n + k) c') w' ∧ Own B w' p' g' (n + k) c' (cat x n fun _ => 0) ∧ Below B w w' ∧ Keeps w w' := by
  by_cases hr : n + k ≤ c
  · obtain ⟨w', R, O⟩ := own_app_zeros N h0 k ty hr (by omega)
    exact ⟨p, g, c, w', R, O⟩
  · obtain ⟨i0, hi, hz0, hz1, hz2⟩ := info_parts infoB
    obtain rfl := N.row.head h0
    have hle := N.row.le
    have old : (Builtin.firstCells 1 n (.slice (some ⟨g, 0, none⟩) n c)).run Tryd.prog w.drew = .ok (fbs x n).toArray w.drew :=
      run_firstCells_some w.drew 1 n ⟨g, 0, none⟩ n c (fbs x n) (by rw [fbs_length, Nat.mul_one]) fun j u hu => by
        obtain ⟨hj, rfl⟩ := fbs_get _ _ _ _ hu
        rw [row_add]
        exact N.row.cell j hj
    have fit : Builtin.nextslicecap (n + k) c * i0.bytes ≤ 281474976710656 := growslice_fits (by omega) (by rw [hz2]; omega)
    have hw : IntKind.i64.wrap (k : Int) = k := by rw [IntKind.wrap_i64]; omega
    have h48i : ¬ (281474976710656 < (k : Int) * (i0.bytes : Int)) := by rw [hz2]; omega
    have hneg : ¬ ((k : Int) < 0) := by omega
    have hns : ¬ (k = 0) := by omega
    have h63 : ¬ (9223372036854775807 < (n : Int) + (k : Int)) := by omega
    have fit' : ¬ (281474976710656 < Builtin.nextslicecap (n + k) c * i0.bytes) := by omega
    have R : (Builtin.append_ #[26, 3] ty #[.slice (some ⟨g, 0, none⟩) n c, .int .i64 (k : Int)]).run Tryd.prog w = .ok (.slice (some ⟨w.heap.size, 0, none⟩) (n + k) (grownCap w (n + k) c 5)) (w.drew.alloc (.cells ((fbs x n).toArray ++ (Builtin.zeroCells #[.int .u8 0] k ++ Builtin.zeroCells #[.int .u8 0] (grownCap w (n + k) c 5 - (n + k)))) 5)) := by
      have h48j : ¬ (281474976710656 < (k : Int)) := by omega
      have fitj : ¬ (281474976710656 < Builtin.nextslicecap (n + k) c) := by rw [hz2] at fit; omega
      simp [h48j, fitj, Builtin.append_, run_underlying Tryd.underlying26, run_underlying Tryd.underlying3, sizeOf, typeInfo, zeroValue, hi, hz0, hz1, hz2, asInt, asIntOf, hw, hneg, hns, h48i, hr, h63, fit', Question.forced, old, newRow, grownCap, Value.cells]
    refine ⟨_, w.heap.size, _, _, R, ⟨⟨by rw [fbs_length, Nat.mul_one], .inr ⟨w.heap.size, _, _, rfl, N.low, heap_alloc_new w.drew _, grownCap_ge w (n + k) c 5, grownCap_le_maxLen w (n + k) c 5 (by unfold maxLen; omega), ?_, ?_⟩⟩, .inr rfl, cat_byte n N.byte (fun _ => by omega), ?_⟩, ((Below.refl _ _).drew.alloc (Nat.le_refl _) _).mono N.low, fun b cs T hT hb => (Below.heap_alloc w.drew _ b (heap_lt hb)).trans hb⟩
    · simp only [Array.size_append, List.size_toArray, fbs_length, size_zeroCells]
      have := grownCap_ge w (n + k) c 5
      simp
      omega
    · rw [Array.toList_append, Array.toList_append, zeroCells_fbs k, ← List.append_assoc, fbs_cat, Nat.mul_one]
      exact List.take_left' (fbs_length _ _)
    · have := (below_new w.drew (.cells ((fbs x n).toArray ++ (Builtin.zeroCells #[.int .u8 0] k ++ Builtin.zeroCells #[.int .u8 0] (grownCap w (n + k) c 5 - (n + k)))) 5)).size
      exact Nat.le_trans N.low this
end Go.Proofs.YtkjcljobcidhfaaDoor

set_option linter.unusedSimpArgs false
set_option linter.unusedVariables false
set_option maxRecDepth 100000
namespace Go.Proofs.YtkjcljobcidhfaaDoor
open Go.RowKit Go.Lib Go.Sort

theorem wb_put {w0 w w' : World} {l : List (Nat × TypeId × Array Value)} {p p' : Option Addr} {g c g' c' m : Nat} {xs : List Nat} {y : Nat → Nat} (N : Wb w0 l p g c xs w) (O : Own w0.heap.size w' p' g' (xs.length + m) c' (cat (lf xs) xs.length y)) (hy : ∀ i, y i < 256) (hb : Below w0.heap.size w w') (kp : Keeps w w') : Wb w0 l p' g' c' (xs ++ tl y m) w' := by
  have e : xs.length + m = (xs ++ tl y m).length := by rw [List.length_append, tl_length]
  refine ⟨N.mem.keeps N.nb hb kp, ?_, N.nb⟩
  rw [← e]
  have hB : IsB (xs ++ tl y m) := (isB_own N.own).append (isB_tl hy m)
  refine O.to (fun i hi => ?_) (lf_lt hB)
  rw [← lf_cat]
  unfold cat
  split
  · rfl
  · rw [lf_tl y (by omega)]
section
variable {ops : Array Oper} {rest : List Oper} {Q : Exit → Act → World → Prop} {K : Act → World → Prop} {op : Oper} {a : Act} {w w0 : World} {l : List (Nat × TypeId × Array Value)} {p : Option Addr} {g c : Nat} {xs : List Nat}
/-- A text's bytes. -/
def stB (s : ByteArray) : List Nat := tl (sb s) s.size
theorem stB_length (s : ByteArray) : (stB s).length = s.size := tl_length _ _
theorem mo_wtext (s t : Operand) (ho : op.op = .call { callee := .builtin .append, args := #[s, t], argTypes := #[26, 9] }) (N : Hid (Wb w0 l p g c xs w)) {n : Nat} (hs : a.eval s = .slice p n c) (hn : n = xs.length)
    {str : ByteArray} (ht : a.eval t = .string str) (h0 : 0 < xs.length) (hlen : xs.length + str.size ≤ 140737488355328)
    (k : ∀ p' g' c' w' zs, Hid (zs = xs ++ stB str) → Hid (Wb w0 l p' g' c' zs w') → K (a.put op.dst (.slice p' zs.length c')) w') : op.wp Tryd.prog a w K Q := by
  subst hn
  obtain ⟨p', g', c', w', R, O, hb, kp⟩ := own_app_text N.out.own h0 str op.type hlen
  refine wp_append_run w s t 26 9 ho _ _ hs ht _ _ R ?_
  have e : xs.length + str.size = (xs ++ stB str).length := by rw [List.length_append, stB_length]
  rw [e]
  exact k p' g' c' w' _ (Lib.hid rfl) (Lib.hid (wb_put N.out O (sb_lt str) hb kp))
theorem wpList_wtext (hw : Region.wanted op (yielded ops a.tmps) = true) (s t : Operand) (ho : op.op = .call { callee := .builtin .append, args := #[s, t], argTypes := #[26, 9] }) (N : Hid (Wb w0 l p g c xs w)) {n : Nat} (hs : a.eval s = .slice p n c) (hn : n = xs.length)
    {str : ByteArray} (ht : a.eval t = .string str) (h0 : 0 < xs.length) (hlen : xs.length + str.size ≤ 140737488355328)
    (k : ∀ p' g' c' w' zs, Hid (zs = xs ++ stB str) → Hid (Wb w0 l p' g' c' zs w') → wpList Tryd.prog ops Q rest (a.put op.dst (.slice p' zs.length c')) w') : wpList Tryd.prog ops Q (op :: rest) a w :=
  BigFrame.wpList_want hw fun _ hK => mo_wtext s t ho N hs hn ht h0 hlen fun p' g' c' w' zs e N' => hK _ _ (k p' g' c' w' zs e N')
/-- Noughts behind. -/
theorem wpList_wzeros (hw : Region.wanted op (yielded ops a.tmps) = true) (s t : Operand) (ho : op.op = .call { callee := .builtin .append, args := #[s, t], argTypes := #[26, 3] }) (N : Hid (Wb w0 l p g c xs w)) {n : Nat} (hs : a.eval s = .slice p n c) (hn : n = xs.length)
    {m : Nat} {i : Int} (ht : a.eval t = .int .i64 i) (hi : i = (m : Int)) (h0 : 0 < xs.length) (hlen : xs.length + m ≤ 140737488355328)
    (k : ∀ p' g' c' w' zs, Hid (zs = xs ++ List.replicate m 0) → Hid (Wb w0 l p' g' c' zs w') → wpList Tryd.prog ops Q rest (a.put op.dst (.slice p' zs.length c')) w') : wpList Tryd.prog ops Q (op :: rest) a w := by
  subst hn hi
  refine BigFrame.wpList_want hw fun _ hK => ?_
  obtain ⟨p', g', c', w', R, O, hb, kp⟩ := own_app_noughts N.out.own h0 m op.type hlen
  refine wp_append_run w s t 26 3 ho _ _ hs ht _ _ R ?_
  have e : xs.length + m = (xs ++ List.replicate m 0).length := by rw [List.length_append, List.length_replicate]
  have e2 : tl (fun _ => 0) m = List.replicate m 0 := by unfold tl; rw [List.map_const', List.length_range]
  rw [e]
  refine hK _ _ (k p' g' c' w' _ (Lib.hid rfl) (Lib.hid ?_))
  rw [← e2]
  exact wb_put N.out O (fun _ => by omega) hb kp
end

theorem infoA4 : (Tryd.prog.info? 67).map (fun i => (i.zero, i.size)) = some (some (.agg (arr 4 (bv fun _ => 0))), 4) := by kernel_rfl
theorem run_h4 (b : Nat) (w : World) : (Instr.sliceAt 73 (.pointer (some ⟨b, 0, none⟩)) none (some (.int .i64 4)) none).run Tryd.prog w = .ok (.slice (some ⟨b, 0, none⟩) 4 32) w := by
  have hl : Tryd.prog.arrayLen 73 = 32 := by kernel_rfl
  have he : Tryd.prog.elem 73 = 5 := by kernel_rfl
  have ht : Tryd.prog.underlying 73 = some (.array (Tryd.prog.arrayLen 73) (Tryd.prog.elem 73)) := by rw [hl, he]; exact Tryd.underlying73
  have hs : ∀ w, (Go.sizeOf 5).run Tryd.prog w = .ok 1 w := fun w => by kernel_rfl
  rw [run_sliceAt_array_h w 73 ⟨b, 0, none⟩ ht .i64 4 (by omega) (by rw [hl]; omega), he, hs, hl]
  rfl
theorem run_arr4 (a : Addr) (n c : Nat) (h : 4 ≤ n) (w : World) : (Instr.arrayAt 67 (.slice (some a) n c)).run Tryd.prog w = .ok (.pointer (some a)) w := by
  have hu : Tryd.prog.underlying 67 = some (.array 4 5) := Tryd.underlying67
  simp [Instr.arrayAt, run_underlying hu]
  omega
theorem load_a4 {w : World} {b T : Nat} {x : Nat → Nat} (h : w.heap[b]? = some (.cells (arr 32 (bv x)) T (0, 0))) : (Instr.loadAt 67 (.pointer (some ⟨b, 0, none⟩))).run Tryd.prog w = .ok (.agg (arr 4 (bv x))) w := by
  have hr : w.rangeAt b 0 (arr 4 (bv x)).toList := fun j v hj => by
    have hj4 : j < 4 := by
      have := (List.getElem?_eq_some_iff.1 hj).1
      rw [Array.length_toList, arr_size] at this
      exact this
    rw [Array.getElem?_toList, arr_get 4 _ j hj4] at hj
    obtain rfl := Option.some.inj hj
    rw [Nat.zero_add]
    exact cell_of_here h j (arr_get 32 _ j (by omega))
  simpa using run_loadAt_mid (P := Tryd.prog) w b 0 67 (arr 4 (bv x)).toList _ hr Tryd.underlying67 rfl (by rw [Array.length_toList, arr_size]; kernel_rfl)
/-- A payload's check sum. -/
def sum4 (t : List Nat) : List Nat := tl (lf (dbl t)) 4
theorem sum4_length (t : List Nat) : (sum4 t).length = 4 := tl_length _ _
set_option maxHeartbeats 2000000 in
theorem sumof_l {w : World} {p : Option Addr} {g o c : Nat} {t : List Nat} (R : Hid (Row w p g o t.length c (lf t))) (hn : t.length ≤ 140737488351232) (L : Hid (S.Both w)) :
    Calls Tryd.prog 28 #[.slice p t.length c] w fun e w' => e = .returned (.agg (arr 4 (bv (lf (dbl t))))) ∧ Below w.heap.size w w' := by
  have E := Lib.hid (Mem.nil w)
  have D := Lib.hid (show ∀ w', Below w.heap.size w w' → Calls Tryd.prog 34 #[.slice p t.length c] w' fun e w'' => e = .returned (.agg (arr 32 (bv (lf (dbl t))))) ∧ Below w'.heap.size w' w'' from fun w' hb => double_l (Lib.hid (R.out.below hb)) hn (Lib.hid (L.out.below hb)))
  obtain ⟨d, hd⟩ : ∃ d, d = dbl t := ⟨_, rfl⟩
  obtain ⟨n, hn2⟩ : ∃ n, n = t.length := ⟨_, rfl⟩
  rw [← hd, ← hn2] at D
  rw [← hd, ← hn2]
  clear hd hn2 R L hn
  go_enter Tryd.func28, Tryd.ntmps28
  go_wp2_with (first
    | (refine mem_alloc E 67 rfl rfl infoA4 ?_; clear E; intro b2 w2 E; simp only [arr_cells'] at E)
    | (go_at_call 34; refine (D.out _ E.out.below).mono ?_; rintro e w4 ⟨rfl, hb⟩; replace E := Lib.hid (E.out.call hb); clear hb)
    | (refine mem_alloc E 73 rfl rfl infoHash ?_; clear E; intro b3 w5 E; simp only [arr_cells'] at E)
    | (refine mem_store_row 0 E 73 rfl (.tmp 3) (.tmp 5) rfl rfl rfl rfl (by kernel_rfl) (by simp only [arr_size]) (bv_one _ _) ?_; clear E; intro w6 E; simp only [List.set_cons_zero, List.set_cons_succ] at E)
    | (refine mem_known rfl (.slice (some ⟨b3, 0, none⟩) 4 32) _ (exec_sl rfl (by exact run_h4 b3 _)) ?_)
    | (refine mem_known rfl (.pointer (some ⟨b3, 0, none⟩)) _ (exec_arr rfl (by exact run_arr4 _ _ _ (by omega) _)) ?_)
    | (refine mem_known rfl (.agg (arr 4 (bv (lf d)))) _ (exec_load rfl (by exact load_a4 (E.out.get List.mem_cons_self))) ?_)
    | (refine mem_store_row 1 E 67 rfl (.tmp 2) (.tmp 8) rfl rfl rfl rfl (by kernel_rfl) (by simp only [arr_size]) (bv_one _ _) ?_; clear E; intro w7 E; simp only [List.set_cons_zero, List.set_cons_succ] at E))
  refine bodyPost_ret (v := .agg (arr 4 (bv (lf d)))) (results_cell_row (fn := Tryd.f28) rfl _ _ b2 67 _ (0, 0) _ rfl (E.out.get (List.mem_cons_of_mem _ List.mem_cons_self)) Tryd.underlying67 rfl (by rw [arr_size]; kernel_rfl)) rfl ⟨rfl, E.out.below⟩
end Go.Proofs.YtkjcljobcidhfaaDoor

set_option linter.unusedSimpArgs false
set_option linter.unusedVariables false
set_option maxRecDepth 100000
namespace Go.Proofs.YtkjcljobcidhfaaDoor
open Go.RowKit Go.Lib Go.Sort

/-- A frame's bytes. -/
def frB (cmd t : List Nat) : List Nat := low 3652501241 4 ++ cmd ++ List.replicate (12 - cmd.length) 0 ++ low t.length 4 ++ sum4 t ++ t
theorem frB_length {cmd t : List Nat} (h : cmd.length ≤ 12) : (frB cmd t).length = 24 + t.length := by
  unfold frB
  simp only [List.length_append, low_length, List.length_replicate, sum4_length]
  omega
/-- What writing a frame leaves. -/
def FrEnc (W : World) (s : ByteArray) (t : List Nat) (e : Ending) (w' : World) : Prop :=
  if isCom (sb s) s.size = true then if t.length ≤ 200000 then ∃ p g c, e = .returned (.tuple #[.slice p (frB (stB s) t).length c, .int .i64 0]) ∧ Own W.heap.size w' p g (frB (stB s) t).length c (lf (frB (stB s) t)) ∧ Below W.heap.size W w'
    else e = .returned (.tuple #[.slice none 0 0, .int .i64 91]) ∧ Below W.heap.size W w'
  else e = .returned (.tuple #[.slice none 0 0, .int .i64 1]) ∧ Below W.heap.size W w'
theorem isCom_size {x : Nat → Nat} {n : Nat} (h : isCom x n = true) : 1 ≤ n ∧ n ≤ 12 := by
  unfold isCom at h
  simp only [Bool.and_eq_true, decide_eq_true_eq] at h
  exact h.2
theorem Work.wb {w0 w : World} {l : List (Nat × TypeId × Array Value)} {B g c : Nat} {p : Option Addr} {x : Nat → Nat} (K : Work w0 l B p g 0 c x w) (nb : ∀ q, q ∈ l → q.2.1 ≠ 5) : Wb w0 l p g c [] w :=
  ⟨K.mem, (K.own.mono K.low).to (fun i hi => absurd hi (by omega)) (lf_lt isB_nil), nb⟩
theorem a4Row {w : World} {b T : Nat} {x : Nat → Nat} (hx : ∀ i, x i < 256) (h : w.heap[b]? = some (.cells (arr 4 (bv x)) T (0, 0))) : Row w (some ⟨b, 0, none⟩) b 0 4 4 x :=
  ⟨by omega, by unfold maxLen; omega, fun e => (by cases e), fun _ => rfl, fun i hi => by
    rw [Nat.zero_add]
    exact cell_of_here h i (arr_get 4 _ i hi), hx⟩
theorem run_a4 (b : Nat) (w : World) : (Instr.sliceAt 67 (.pointer (some ⟨b, 0, none⟩)) none none none).run Tryd.prog w = .ok (.slice (some ⟨b, 0, none⟩) 4 4) w := by
  have hl : Tryd.prog.arrayLen 67 = 4 := by kernel_rfl
  have he : Tryd.prog.elem 67 = 5 := by kernel_rfl
  have ht : Tryd.prog.underlying 67 = some (.array (Tryd.prog.arrayLen 67) (Tryd.prog.elem 67)) := by rw [hl, he]; exact Tryd.underlying67
  have hs : ∀ w, (Go.sizeOf 5).run Tryd.prog w = .ok 1 w := fun w => by kernel_rfl
  rw [run_sliceAt_array_all w 67 ⟨b, 0, none⟩ ht, he, hs, hl]
  rfl
def frC (s : ByteArray) (p : Option Addr) (n c : Nat) : Array Value := #[.string s, .slice p n c]

set_option maxHeartbeats 4000000 in
theorem frenc_bad {W : World} {v : Value} {s : ByteArray} {t : List Nat} (hs : s.size ≤ 140737488355328) (A : Hid (TextAt W v t)) (hc : isCom (sb s) s.size = false) : Calls Tryd.prog 15 #[.agg #[.string s, v]] W (FrEnc W s t) := by
  have E := Lib.hid (Mem.nil W)
  obtain ⟨p, g, o, c, rfl, hb, R⟩ := A.out
  have ISC := Lib.hid (show ∀ w', Calls Tryd.prog 26 #[.string s] w' fun e w'' => e = .returned (.bool false) ∧ Below w'.heap.size w' w'' from fun w' => by
    have := iscom_any w' s hs
    rwa [hc] at this)
  have HC := Lib.hid hc
  clear A R hb hc
  obtain ⟨n, hn⟩ : ∃ n, n = t.length := ⟨_, rfl⟩
  rw [← hn]
  have CS : (Value.agg #[.string s, .slice p n c]).cells = frC s p n c := rfl
  have c0 : (frC s p n c)[0]? = some (.string s) := rfl
  clear hn
  go_enter Tryd.func15, Tryd.ntmps15
  go_wp2_with (first
    | (refine mem_box E 42 rfl _ rfl rfl CS ?_; clear E; intro b1 w1 E)
    | (refine mem_load_cell E 9 rfl (.tmp 6) rfl rfl List.mem_cons_self Tryd.underlying9 rfl c0 ?_)
    | (go_at_call 26; refine (ISC.out _).mono ?_; rintro e w2 ⟨rfl, hb⟩; replace E := Lib.hid (E.out.call hb); clear hb))
  refine bodyPost_ret (res2 (fn := Tryd.f15) rfl _ _) rfl ?_
  unfold FrEnc
  rw [HC.out]
  exact ⟨rfl, E.out.below⟩
set_option maxHeartbeats 4000000 in
theorem frenc_long {W : World} {v : Value} {s : ByteArray} {t : List Nat} (hs : s.size ≤ 140737488355328) (A : Hid (TextAt W v t)) (hc : isCom (sb s) s.size = true) (hl : 200000 < t.length) : Calls Tryd.prog 15 #[.agg #[.string s, v]] W (FrEnc W s t) := by
  have E := Lib.hid (Mem.nil W)
  have tl3 := A.out.len
  obtain ⟨p, g, o, c, rfl, hb, R⟩ := A.out
  have ISC := Lib.hid (show ∀ w', Calls Tryd.prog 26 #[.string s] w' fun e w'' => e = .returned (.bool true) ∧ Below w'.heap.size w' w'' from fun w' => by
    have := iscom_any w' s hs
    rwa [hc] at this)
  have HC := Lib.hid hc
  have HL := Lib.hid hl
  clear A R hb hc
  obtain ⟨n, hn⟩ : ∃ n, n = t.length := ⟨_, rfl⟩
  rw [← hn] at hl ⊢
  rw [← hn] at tl3
  have hl' : decide ((200000 : Int) < (n : Int)) = true := by simp; omega
  have CS : (Value.agg #[.string s, .slice p n c]).cells = frC s p n c := rfl
  have c0 : (frC s p n c)[0]? = some (.string s) := rfl
  have c1 : (frC s p n c)[1]? = some (.slice p n c) := rfl
  clear hn
  go_enter Tryd.func15, Tryd.ntmps15
  go_wp2_with (first
    | (refine mem_box E 42 rfl _ rfl rfl CS ?_; clear E; intro b1 w1 E)
    | (refine mem_load_cell E 9 rfl (.tmp 6) rfl rfl List.mem_cons_self Tryd.underlying9 rfl c0 ?_)
    | (refine mem_load_cell E 26 rfl (.tmp 10) rfl rfl List.mem_cons_self Tryd.underlying26 rfl c1 ?_)
    | (go_at_call 26; refine (ISC.out _).mono ?_; rintro e w2 ⟨rfl, hb⟩; replace E := Lib.hid (E.out.call hb); clear hb))
  refine bodyPost_ret (res2 (fn := Tryd.f15) rfl _ _) rfl ?_
  unfold FrEnc
  rw [HC.out, if_pos rfl, if_neg (by have := HL.out; omega)]
  exact ⟨rfl, E.out.below⟩
set_option maxHeartbeats 16000000 in
theorem frenc_good {W : World} {v : Value} {s : ByteArray} {t : List Nat} (hs : s.size ≤ 140737488355328) (A : Hid (TextAt W v t)) (hc : isCom (sb s) s.size = true) (hl : t.length ≤ 200000) (L : Hid (S.Both W)) : Calls Tryd.prog 15 #[.agg #[.string s, v]] W (FrEnc W s t) := by
  have E := Lib.hid (Mem.nil W)
  obtain ⟨p, g, o, c, rfl, hb, R0⟩ := A.out
  have ISC := Lib.hid (show ∀ w', Calls Tryd.prog 26 #[.string s] w' fun e w'' => e = .returned (.bool true) ∧ Below w'.heap.size w' w'' from fun w' => by
    have := iscom_any w' s hs
    rwa [hc] at this)
  have SO := Lib.hid (show ∀ w', Below W.heap.size W w' → Calls Tryd.prog 28 #[.slice p t.length c] w' fun e w'' => e = .returned (.agg (arr 4 (bv (lf (dbl t))))) ∧ Below w'.heap.size w' w'' from fun w' hb => sumof_l (Lib.hid (R0.below hb)) (by omega) (Lib.hid (L.out.below hb)))
  have HC := Lib.hid hc
  have HL := Lib.hid hl
  obtain ⟨s1, s2⟩ := isCom_size hc
  have DB := Lib.hid (lf_lt (isH_dbl t).byte)
  have R := Lib.hid R0
  clear A R0 hb hc L
  obtain ⟨n, hn⟩ : ∃ n, n = t.length := ⟨_, rfl⟩
  have HN := Lib.hid hn
  rw [← hn] at hl R SO
  rw [← hn]
  have hl' : decide ((200000 : Int) < (n : Int)) = false := by simp; omega
  have cwn : IntKind.u64.wrap (n : Int) = (n : Int) := by rw [IntKind.wrap_u64]; omega
  have T1 := Lib.hid (show ∀ l p g c w, Hid (Wb W l p g c [] w) → Calls Tryd.prog 27 #[.slice p 0 c, .int .u64 3652501241, .int .i64 4] w (Puts W l ([] ++ low 3652501241 4)) from fun l p g c w K => tput4 3652501241 K (by simp))
  have CS : (Value.agg #[.string s, .slice p n c]).cells = frC s p n c := rfl
  have c0 : (frC s p n c)[0]? = some (.string s) := rfl
  have c1 : (frC s p n c)[1]? = some (.slice p n c) := rfl
  clear hn
  go_enter Tryd.func15, Tryd.ntmps15
  go_wp2_with (first
    | (refine mem_box E 42 rfl _ rfl rfl CS ?_; clear E; intro b1 w1 E)
    | (refine mem_load_cell E 9 rfl (.tmp 6) rfl rfl List.mem_cons_self Tryd.underlying9 rfl c0 ?_)
    | (refine mem_load_cell E 26 rfl (.tmp 10) rfl rfl List.mem_cons_self Tryd.underlying26 rfl c1 ?_)
    | (refine mem_load_cell E 26 rfl (.tmp 14) rfl rfl List.mem_cons_self Tryd.underlying26 rfl c1 ?_)
    | (go_at_call 26; refine (ISC.out _).mono ?_; rintro e w2 ⟨rfl, hb⟩; replace E := Lib.hid (E.out.call hb); clear hb)
    | (at_make; refine wpList_mk rfl _ _ rfl E (24 + n) (24 + (n : Int)) rfl rfl (by omega) (by omega) ?_; clear E; intro B p1 g1 w2 K1; have K := Lib.hid (K1.out.wb (by intro q hq; obtain rfl := List.mem_singleton.1 hq; show 42 ≠ 5; decide)); clear K1)
    | (go_at_call 27; (with_reducible refine (T1.out _ _ _ _ _ K).mono ?_); intro e w3 h3; obtain ⟨p3, g3, c3, z3, rfl, Z3, K3⟩ := h3.any; clear h3 K; have K := K3; clear K3)
    | (refine mem_load_cell (Lib.hid K.out.mem) 9 rfl (.tmp 22) rfl rfl List.mem_cons_self Tryd.underlying9 rfl c0 ?_)
    | (at_builtin; refine wpList_wtext rfl (.tmp 21) (.tmp 23) rfl K rfl rfl rfl (by rw [Z3.out]; simp [low_length]) (by rw [Z3.out]; simp [low_length]; omega) ?_; clear K; intro p4 g4 c4 w4 z4 Z4 K; have q4 : z4.length = 4 + s.size := (by rw [Z4.out, Z3.out]; simp [low_length, stB_length]); have Q4 := Lib.hid q4; have l4 : z4.length ≤ 16 := (by omega); clear q4)
    | (at_builtin; refine wpList_wzeros rfl (.tmp 25) (.tmp 28) rfl K rfl rfl rfl (m := 12 - s.size) (by have := Q4.out; go_num) (by have := Q4.out; omega) (by have := Q4.out; omega) ?_; clear K; intro p5 g5 c5 w5 z5 Z5 K)
    | (refine mem_load_cell (Lib.hid K.out.mem) 26 rfl (.tmp 31) rfl rfl List.mem_cons_self Tryd.underlying26 rfl c1 ?_)
    | (go_at_call 27; (with_reducible refine (tput4 n K (by rw [Z5.out, List.length_append, List.length_replicate]; have := Q4.out; omega)).mono ?_); intro e w6 h6; obtain ⟨p6, g6, c6, z6, rfl, Z6, K6⟩ := h6.any; clear h6 K; have K := K6; clear K6; have Q6 := Lib.hid (show z6.length = 20 by rw [Z6.out, Z5.out, List.length_append, List.length_append, List.length_replicate, low_length]; have := Q4.out; omega))
    | (refine mem_load_cell (Lib.hid K.out.mem) 26 rfl (.tmp 36) rfl rfl List.mem_cons_self Tryd.underlying26 rfl c1 ?_)
    | (go_at_call 28; refine (SO.out _ K.out.mem.below).mono ?_; rintro e w7 ⟨rfl, hb⟩; replace K := Lib.hid (K.out.call hb); clear hb)
    | (refine wb_alloc K 67 (by decide) rfl rfl infoA4 ?_; clear K; intro b8 w8 K; simp only [arr_cells'] at K)
    | (refine wb_store_row 0 K 67 rfl (.tmp 5) (.tmp 38) rfl rfl rfl rfl (by kernel_rfl) (by simp only [arr_size]) (bv_one _ _) ?_; clear K; intro w9 K; simp only [List.set_cons_zero, List.set_cons_succ] at K)
    | (refine mem_known rfl (.slice (some ⟨b8, 0, none⟩) 4 4) _ (exec_sl rfl (by exact run_a4 b8 _)) ?_)
    | (at_builtin; refine wpList_wb rfl (.tmp 39) (.tmp 40) rfl K rfl rfl rfl (Lib.hid (a4Row DB.out (K.out.mem.get List.mem_cons_self))) (by have := Q6.out; omega) ?_; clear K; intro p10 g10 c10 w10 z10 Z10 K; have Q10 := Lib.hid (show z10.length = 24 by rw [Z10.out, List.length_append, tl_length]; have := Q6.out; omega))
    | (refine mem_load_cell (Lib.hid K.out.mem) 26 rfl (.tmp 43) rfl rfl (List.mem_cons_of_mem _ List.mem_cons_self) Tryd.underlying26 rfl c1 ?_)
    | (at_builtin; refine wpList_wb rfl (.tmp 42) (.tmp 44) rfl K rfl rfl rfl (Lib.hid (R.out.below K.out.mem.below)) (by have := Q10.out; omega) ?_; clear K; intro p11 g11 c11 w11 z11 Z11 K))
  refine bodyPost_ret (res2 (fn := Tryd.f15) rfl _ _) rfl ?_
  unfold FrEnc
  rw [HC.out, if_pos rfl, if_pos HL.out]
  have e : z11 = frB (stB s) t := by
    rw [Z11.out, Z10.out, Z6.out, Z5.out, Z4.out, Z3.out, HN.out, tl_lf]
    unfold frB sum4
    rw [stB_length]
    simp only [List.nil_append, List.append_assoc]
  rw [← e]
  exact ⟨p11, g11, c11, rfl, K.out.own, K.out.mem.below⟩
theorem frenc_any {W : World} {v : Value} {s : ByteArray} {t : List Nat} (hs : s.size ≤ 140737488355328) (A : Hid (TextAt W v t)) (L : Hid (S.Both W)) : Calls Tryd.prog 15 #[.agg #[.string s, v]] W (FrEnc W s t) := by
  by_cases hc : isCom (sb s) s.size = true
  · by_cases hl : t.length ≤ 200000
    · exact frenc_good hs A hc hl L
    · exact frenc_long hs A hc (by omega)
  · exact frenc_bad hs A (by simpa using hc)
end Go.Proofs.YtkjcljobcidhfaaDoor

set_option linter.unusedSimpArgs false
set_option linter.unusedVariables false
set_option maxRecDepth 100000
namespace Go.Proofs.YtkjcljobcidhfaaDoor
open Go.RowKit Go.Lib Go.Sort

theorem h4Row {w : World} {b T : Nat} {x : Nat → Nat} (hx : ∀ i, x i < 256) (h : w.heap[b]? = some (.cells (arr 32 (bv x)) T (0, 0))) : Row w (some ⟨b, 0, none⟩) b 0 4 32 x :=
  ⟨by omega, by unfold maxLen; omega, fun e => (by cases e), fun _ => rfl, fun i hi => by
    rw [Nat.zero_add]
    exact cell_of_here h i (arr_get 32 _ i (by omega)), hx⟩
end Go.Proofs.YtkjcljobcidhfaaDoor

set_option linter.unusedSimpArgs false
set_option linter.unusedVariables false
set_option maxRecDepth 100000
namespace Go.Proofs.YtkjcljobcidhfaaDoor
open Go.ChangeShapes Go.WideShapes Go.ChangeAt Go.RowKit Go.Lib Go.Sort Go.Joins Go.Deep

section
variable {H : Type} {enc : TypeId × Value → H} {W : World} {base : Nat}
theorem open_frame {v : Value} {d : DataW H} {p : List MemPlace} {ts : List TypeId} {ds : List (DataW H)} {j : Nat} {b0 : Nat}
    (hv : Value.okWide Tryd.prog W .any b0 42 v) (hd : DataW.Trod enc Tryd.prog W base (fun _ => true) true 42 v d p)
    (hsz : (DataW.weightsEach Tryd.prog ts ds).all (· ≤ reachBytes) = true) (hts : ts[j]? = some 42) (hds : ds[j]? = some d) : ∃ s f t, v = .agg #[.string s, f] ∧ s.size ≤ 140737488355328 ∧ TextAt W f t := by
  have LT := light_of hsz hts hds
  obtain ⟨c0, c1, y0, y1, m, rfl, rfl, rfl, hy0, hy1⟩ := open_agg2 Tryd.underlying42 (by kernel_rfl) (by kernel_rfl) hv hd
  have L0 := light_struct LT Tryd.underlying42 (j := 0) rfl rfl
  have L1 := light_struct LT Tryd.underlying42 (j := 1) rfl rfl
  obtain ⟨s, e0, hx, _⟩ := DataW.trod_string Tryd.underlying9 hy0
  obtain ⟨f, t, e1, ht⟩ := open_text' hy1 L1
  injection e0 with e0
  injection e1 with e1
  subst e0 e1
  refine ⟨s, _, t, rfl, ?_, ht⟩
  rw [hx] at L0
  have := L0 s.data.toList.length (by simp [DataW.weights])
  have hl : s.data.toList.length = s.size := by rw [Array.length_toList]; rfl
  unfold reachBytes at this
  omega
end

def veS : ByteArray := ⟨#[118, 101, 114, 97, 99, 107]⟩
theorem com_veS : isCom (sb veS) veS.size = true := by decide +kernel
theorem sum_nil : sum4 [] = [93, 246, 224, 226] := by decide +kernel
theorem fr_veS : frB (stB veS) [] = low 3652501241 4 ++ stB veS ++ List.replicate 6 0 ++ low 0 4 ++ [93, 246, 224, 226] := by
  unfold frB
  rw [sum_nil, List.append_nil, stB_length]
  rfl
theorem fr_len : (frB (stB veS) []).length = 24 := frB_length (by rw [stB_length]; decide)
theorem fr_end (i : Nat) (h : i < 4) : lf (frB (stB veS) []) (20 + i) = lf [93, 246, 224, 226] i := by
  have hl : (low 3652501241 4 ++ stB veS ++ List.replicate 6 0 ++ low 0 4).length = 20 := by
    simp only [List.length_append, low_length, stB_length, List.length_replicate]
    decide
  rw [fr_veS, ← lf_cat, hl]
  unfold cat
  rw [if_neg (by omega), Nat.add_sub_cancel_left]
theorem wpList_known3 {P : Program} {ops : Array Oper} {rest : List Oper} {Q : Exit → Act → World → Prop} {op : Oper} {a : Act} {w : World} (hw : Region.wanted op (yielded ops a.tmps) = true) (v : Value) (w' : World) (hrun : (execOp a.eval op).run P w = .ok (.value v) w') (h : wpList P ops Q rest (a.put op.dst v) w') : wpList P ops Q (op :: rest) a w :=
  BigFrame.wpList_want hw fun _ hK => mo_known v w' hrun (hK _ _ h)
theorem built_fr (s : ByteArray) : Tryd.prog.built 42 (#[(0, .string s)] : Array (Nat × Value)).toList = some #[.string s, .slice none 0 0] := by kernel_rfl
theorem bs4 (w : World) : (Instr.buildSlice 26 4 #[(0, .int .u8 93), (1, .int .u8 246), (2, .int .u8 224), (3, .int .u8 226)]).run Tryd.prog w = .ok (.slice (some ⟨w.heap.size, 0, none⟩) 4 4) (w.alloc (.cells (fbs (lf [93, 246, 224, 226]) 4).toArray 5)) := by kernel_rfl
theorem exec_bs {o : Oper} {ev : Operand → Value} {W W' : World} {T : TypeId} {m : Nat} {parts : Array (Nat × Operand)} (ho : o.op = .buildSlice T m parts) {ps : Array (Nat × Value)} (hp : (parts.map fun (i, y) => (i, ev y)) = ps) {v : Value} (h : (Instr.buildSlice T m ps).run Tryd.prog W = .ok v W') : (execOp ev o).run Tryd.prog W = .ok (.value v) W' := by
  unfold execOp
  simp only [ho, hp, Sem.run_bind, h, Result.andThen_ok]
  rfl
set_option maxHeartbeats 4000000 in
theorem awake9_any (W : World) (L : Hid (S.Both W)) : Calls Tryd.prog 14 #[] W fun e w' => e = .returned (.bool true) ∧ Below W.heap.size W w' := by
  have FR := Lib.hid (show Calls Tryd.prog 15 #[.agg #[.string veS, .slice none 0 0]] W fun e w' => ∃ p g c, e = .returned (.tuple #[.slice p 24 c, .int .i64 0]) ∧ Own W.heap.size w' p g 24 c (lf (frB (stB veS) [])) ∧ Below W.heap.size W w' from (frenc_any (v := .slice none 0 0) (t := []) (by decide) (Lib.hid ⟨none, 0, 0, 0, rfl, by simp, Row.nothing _ _ (lf_lt isB_nil)⟩) L).mono fun e w' h => by
    unfold FrEnc at h
    rw [com_veS, if_pos rfl, if_pos (by simp), fr_len] at h
    exact h)
  clear L
  go_enter Tryd.func14, Tryd.ntmps14
  go_upto_region 2 with (first
    | (refine wpList_bld 42 _ rfl rfl (ps := #[(0, .string veS)]) (by kernel_rfl) (built_fr veS) ?_)
    | (go_at_call 15; refine FR.out.mono ?_; rintro e w1 ⟨p1, g1, c1, rfl, N1, hb1⟩))
  have BB := Lib.hid hb1
  obtain ⟨q1, eq1, R0⟩ := N1.row.slice (l := 20) (h := 24) (m := c1) (by omega) (Nat.le_refl _) N1.row.le (Nat.le_refl _)
  have SL := Lib.hid (show ∀ w, (Instr.sliceAt 26 (.slice p1 24 c1) (some (.int .i64 20)) none none).run Tryd.prog w = .ok (.slice q1 4 (c1 - 20)) w from fun w => (run_sl (bounds_l (l := 20) (by omega))).trans (by rw [eq1]))
  have BS := Lib.hid (bs4 w1)
  have ba := below_new w1 (.cells (fbs (lf [93, 246, 224, 226]) 4).toArray 5)
  have R1 := Lib.hid (R0.below ba)
  have R2 := Lib.hid (own_new w1 (lf [93, 246, 224, 226]) 4 (by unfold maxLen; omega) (lf_lt (fun y hy => by simp at hy; omega))).row
  have B2 := Lib.hid (hb1.trans (ba.mono hb1.size))
  have EQ := Lib.hid (show ∀ i, i < 4 → lf (frB (stB veS) []) (20 + i) = lf [93, 246, 224, 226] i from fr_end)
  clear N1 hb1 FR eq1 R0 ba
  go_wp2_with (first
    | (refine wpList_known3 rfl _ _ (exec_sl rfl (by exact SL.out _)) ?_)
    | (refine wpList_known3 rfl _ _ (exec_bs rfl rfl (by exact BS.out)) ?_)
    | (go_at_call 25; refine (equal_any R1 R2 rfl EQ).mono ?_; rintro e w2 ⟨rfl, rfl⟩))
  go_ret
  exact ⟨rfl, B2.out⟩
end Go.Proofs.YtkjcljobcidhfaaDoor

