/- bytes.Clone and bytes.Equal at slices of bytes that are known cell by cell: the copy lies in new memory; two slices with the same bytes are equal. -/
import Derived.Test.YtoopcmcmjaikhaaDoorZS
import Derived.Test.YtoopcmcmjaikhaaDoorZA
import Derived.OwnWalk
import Derived.Laws.BytesArg
import Derived.Laws.BytesString
set_option maxRecDepth 100000
namespace Go.Proofs.YtoopcmcmjaikhaaDoor.S
open Go.RowKit Go.Lib

/-- A slice of n bytes x reads so in w: nothing is asked of an address where there is no byte. -/
def Lies (w : World) (p : Option Addr) (g o n : Nat) (x : Nat → Int) : Prop := (0 < n → p = some ⟨g, o, none⟩) ∧ ∀ i, i < n → w.cell? ⟨g, o + i, none⟩ = some (.int .u8 (x i))
theorem Lies.below {w w' : World} {p : Option Addr} {g o n : Nat} {x : Nat → Int} (h : Lies w p g o n x) (hb : Below w.heap.size w w') : Lies w' p g o n x :=
  ⟨h.1, fun i hi => by rw [hb.cell (cell_lt (h.2 i hi))]; exact h.2 i hi⟩

theorem info5 : (Tryd.prog.info? 5).map (fun i => (i.zero, i.size, i.bytes)) = some (some (.int .u8 0), 1, 1) := by kernel_rfl
theorem add_at (g o j : Nat) : (⟨g, o, none⟩ : Addr).add j = ⟨g, o + j, none⟩ := by
  unfold Addr.add
  split
  · rename_i hz; subst hz; rfl
  · rfl
theorem own_empty (w : World) : (w.alloc (.cells #[] 5)).ownsRow w.heap.size 5 1 (.slice (some ⟨w.heap.size, 0, none⟩) 0 0) 0 [] :=
  ⟨rfl, .inr ⟨w.heap.size, 0, #[], rfl, Nat.le_refl _, here_new w _ _, Nat.le_refl _, by unfold maxLen; omega, rfl, rfl⟩⟩

/-- What bytes.Clone leaves: a slice of the call's own. -/
def Copied (w : World) (n : Nat) (x : Nat → Int) (e : Ending) (w' : World) : Prop :=
  ∃ p g c, e = .returned (.slice p n c) ∧ n ≤ c ∧ c ≤ maxLen ∧ w.heap.size ≤ g ∧ Lies w' p g 0 n x ∧ (∀ i, w'.frozen? ⟨g, i, none⟩ = false) ∧ Below w.heap.size w w'

theorem copied_of_own {w w' : World} {n : Nat} {x : Nat → Int} {v : Value} (h : w'.ownsRow w.heap.size 5 1 v n (firstBytes x n)) (hb : Below w.heap.size w w') (hv : v ≠ .slice none 0 0) : Copied w n x (.returned v) w' := by
  obtain ⟨_, h⟩ := h
  rcases h with ⟨h, _⟩ | ⟨g, cap, cur, rfl, hg, hh, hc, hm, _, ht⟩
  · exact absurd h hv
  · refine ⟨_, g, cap, rfl, hc, hm, hg, ⟨fun _ => rfl, ?_⟩, fun i => free_of_here hh i, hb⟩
    intro i hi
    refine cell_of_here hh (0 + i) ?_
    have e : (cur.toList.take (n * 1))[i]? = (firstBytes x n)[i]? := by rw [ht]
    rw [List.getElem?_take, if_pos (by omega)] at e
    rw [Nat.zero_add, ← Array.getElem?_toList, e]
    simp [firstBytes, hi]

set_option maxHeartbeats 1000000 in
theorem clone_none (w : World) : Calls Tryd.prog 32 #[.slice none 0 0] w fun e w' => e = .returned (.slice none 0 0) ∧ w = w' := by
  have he : ∀ w : World, (binOp .eql 32 (.slice none 0 0) (.slice none 0 0)).run Tryd.prog w = .ok (.bool true) w := fun _ => rfl
  go_enter Tryd.func32, Tryd.ntmps32
  go_wp2
  go_ret
  exact ⟨rfl, rfl⟩

/-- The same, in the words of append's law. -/
def Owned (w : World) (n : Nat) (x : Nat → Int) (e : Ending) (w' : World) : Prop :=
  ∃ v, e = .returned v ∧ w'.ownsRow w.heap.size 5 1 v n (firstBytes x n) ∧ Below w.heap.size w w' ∧ v ≠ .slice none 0 0

set_option maxHeartbeats 1000000 in
theorem clone_own (a : Addr) (n c : Nat) (x : Nat → Int) (w : World) (hn : n ≤ 140737488355328) (hc : ∀ j, j < n → w.cell? (a.add j) = some (.int .u8 (x j))) :
    Calls Tryd.prog 32 #[.slice (some a) n c] w (Owned w n x) := by
  obtain ⟨i0, hi, hz0, hz1, hz2⟩ := info_parts info5
  have he : ∀ w : World, (binOp .eql 32 (.slice (some a) n c) (.slice none 0 0)).run Tryd.prog w = .ok (.bool false) w := fun _ => rfl
  have hnews : ∀ j u, (firstBytes x n)[j]? = some u → (w.alloc (.cells #[] 5)).cell? (a.add j) = some u := by
    intro j u hu
    obtain ⟨hj, rfl⟩ := firstBytes_get _ _ _ _ hu
    exact cell_alloc (hc j hj)
  have HC := Lib.hid hc
  have HW := Lib.hid hnews
  clear hc hnews
  go_enter Tryd.func32, Tryd.ntmps32
  go_wp2_with (at_builtin; refine wpList_append_own _ rfl (.tmp 5) (.tmp 6) 32 rfl w.heap.size 5 i0 (.int .u8 0) 1 1 Tryd.underlying32 hi hz0 hz1 hz2 rfl (by decide) _ _ _ rfl (own_empty w) a n c (firstBytes x n) rfl ?c0 HW.out (firstBytes_one x n) ?c2 ?c3 (by simp) ?_)
  case c0 => rw [firstBytes_length]; omega
  case c2 => unfold maxLen; omega
  case c3 => omega
  intro v' w1 hown hgrow hnil
  have HO := Lib.hid hown
  have HG := Lib.hid hgrow
  have HNN := Lib.hid hnil
  clear hown hgrow hnil
  go_wp2
  go_ret
  exact ⟨_, rfl, by simpa using HO.out, ((Below.refl _ _).alloc (Nat.le_refl _) _).grown HG.out (by simp) (fun k hk => by simp [Value.ownBlock] at hk; omega), fun h => HNN.out h⟩
theorem clone_some (a : Addr) (n c : Nat) (x : Nat → Int) (w : World) (hn : n ≤ 140737488355328) (hc : ∀ j, j < n → w.cell? (a.add j) = some (.int .u8 (x j))) :
    Calls Tryd.prog 32 #[.slice (some a) n c] w (Copied w n x) :=
  (clone_own a n c x w hn hc).mono fun e w' ⟨v, he, ho, hb, hv⟩ => by subst he; exact copied_of_own ho hb hv

/-- A byte behind the others. -/
def more (x : Nat → Int) (n : Nat) (y : Int) (i : Nat) : Int := if i < n then x i else y
theorem firstBytes_more (x : Nat → Int) (n : Nat) (y : Int) : firstBytes x n ++ [.int .u8 y] = firstBytes (more x n y) (n + 1) := by
  unfold firstBytes
  rw [List.range_succ, List.map_append]
  congr 1
  · refine List.map_congr_left fun i hi => ?_
    have : i < n := by simpa using hi
    unfold more
    rw [if_pos this]
  · simp [more]
theorem more_range (x : Nat → Int) (n : Nat) (y : Int) (hx : ∀ i, 0 ≤ x i ∧ x i ≤ 255) (hy : 0 ≤ y ∧ y ≤ 255) (i : Nat) : 0 ≤ more x n y i ∧ more x n y i ≤ 255 := by
  unfold more
  split
  · exact hx i
  · exact hy

/-- 'string(b)' of a slice that lies so. -/
theorem convert_lies {w : World} {p : Option Addr} {g o n c : Nat} {x : Nat → Int} (h : Lies w p g o n x) : (convert 32 9 (.slice p n c)).run Tryd.prog w = .ok (.string (strOfNums ((List.range n).map x))) w := by
  rcases Nat.eq_zero_or_pos n with h0 | h0
  · subst h0
    rw [run_convert_bytes_string w 32 9 5 p 0 c Tryd.underlying32 Tryd.underlying5 Tryd.underlying9]
    cases p <;> rfl
  · obtain rfl := h.1 h0
    refine run_convert_bytes_arg (P := Tryd.prog) w 32 5 Tryd.underlying32 Tryd.underlying5 g o n c _ (by simp) ?_ 9 Tryd.underlying9
    intro i hi
    rw [h.2 i hi]
    simp [hi]

set_option maxHeartbeats 1000000 in
theorem equal_any (p p' : Option Addr) (g g' o o' n c c' : Nat) (x : Nat → Int) (w : World) (h : Lies w p g o n x) (h' : Lies w p' g' o' n x) :
    Calls Tryd.prog 15 #[.slice p n c, .slice p' n c'] w fun e w' => e = .returned (.bool true) ∧ w = w' := by
  have e1 := convert_lies (c := c) h
  have e2 := convert_lies (c := c') h'
  clear h h'
  go_enter Tryd.func15, Tryd.ntmps15
  go_wp2
  go_ret
  exact ⟨rfl, rfl⟩
end Go.Proofs.YtoopcmcmjaikhaaDoor.S

