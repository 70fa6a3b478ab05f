/- script.Class, and the document's: a script's kind, and the bytes in it. -/
import Derived.Test.YtofmleiblcafiaaDoorPt
import Derived.Test.YtofmleiblcafiaaDoorCv
import Derived.WalkMore
import Derived.BigQuiet
import Derived.Deep.QuietTactic
import Derived.Deep.LoopGhost
set_option linter.unusedSimpArgs false
set_option linter.unusedVariables false
set_option maxRecDepth 100000
namespace Go.Proofs.YtofmleiblcafiaaDoor
open Go.ChangeShapes Go.WideShapes Go.ChangeAt Go.RowKit Go.Lib

theorem hB_bytes (j : Nat) : bytL (hB j) = hL j := by
  match j with
  | 0 => decide | 1 => decide | 2 => decide | 3 => decide | 4 => decide | _ + 5 => show bytL ⟨#[106]⟩ = [106]; decide
theorem tB_bytes (j : Nat) : bytL (tB j) = tL j := by
  match j with
  | 0 => decide | 1 => decide | _ + 2 => show bytL ⟨#[]⟩ = []; decide
theorem hB_size (j : Nat) : 1 ≤ (hB j).size ∧ (hB j).size ≤ 3 := by
  match j with
  | 0 => decide | 1 => decide | 2 => decide | 3 => decide | 4 => decide | _ + 5 => show 1 ≤ (ByteArray.mk #[106]).size ∧ (ByteArray.mk #[106]).size ≤ 3; decide
theorem tB_size (j : Nat) : (tB j).size ≤ 3 := by
  match j with
  | 0 => decide | 1 => decide | _ + 2 => show (ByteArray.mk #[]).size ≤ 3; decide
theorem cN_val (j : Nat) : cN j = -1 ∨ cN j = 20 ∨ cN j = 32 := by
  match j with
  | 0 => decide | 1 => decide | 2 => decide | 3 => decide | 4 => decide | _ + 5 => exact .inl rfl
/-- A script is of the pattern j, with the bytes b. -/
def OfPat (j : Nat) (xs b : List Nat) : Prop := xs = hL j ++ b ++ tL j ∧ okc j b.length = true
/-- A script's kind, and the bytes in it. -/
def Cls (xs : List Nat) (k : Nat) (b : List Nat) : Prop := (∃ j, j < 6 ∧ k = j + 1 ∧ OfPat j xs b) ∨ (k = 0 ∧ b = [] ∧ ∀ j, j < 6 → ∀ b', ¬ OfPat j xs b')
theorem ofpat_kind {i j : Nat} (hi : i < 6) (hj : j < 6) {xs a b : List Nat} (h : OfPat i xs a) (k : OfPat j xs b) : i = j := by
  have h0 := h.1
  rw [k.1] at h0
  match i, hi, j, hj with
  | 0, _, 0, _ => rfl
  | 1, _, 1, _ => rfl
  | 2, _, 2, _ => rfl
  | 3, _, 3, _ => rfl
  | 4, _, 4, _ => rfl
  | 5, _, 5, _ => rfl
  | 0, _, 1, _ => simp [hL] at h0
  | 0, _, 2, _ => simp [hL] at h0
  | 0, _, 3, _ => simp [hL] at h0
  | 0, _, 4, _ => simp [hL] at h0
  | 0, _, 5, _ => simp [hL] at h0
  | 1, _, 0, _ => simp [hL] at h0
  | 1, _, 2, _ => simp [hL] at h0
  | 1, _, 3, _ => simp [hL] at h0
  | 1, _, 4, _ => simp [hL] at h0
  | 1, _, 5, _ => simp [hL] at h0
  | 2, _, 0, _ => simp [hL] at h0
  | 2, _, 1, _ => simp [hL] at h0
  | 2, _, 3, _ => simp [hL] at h0
  | 2, _, 4, _ => simp [hL] at h0
  | 2, _, 5, _ => simp [hL] at h0
  | 3, _, 0, _ => simp [hL] at h0
  | 3, _, 1, _ => simp [hL] at h0
  | 3, _, 2, _ => simp [hL] at h0
  | 3, _, 4, _ => simp [hL] at h0
  | 3, _, 5, _ => simp [hL] at h0
  | 4, _, 0, _ => simp [hL] at h0
  | 4, _, 1, _ => simp [hL] at h0
  | 4, _, 2, _ => simp [hL] at h0
  | 4, _, 3, _ => simp [hL] at h0
  | 4, _, 5, _ => simp [hL] at h0
  | 5, _, 0, _ => simp [hL] at h0
  | 5, _, 1, _ => simp [hL] at h0
  | 5, _, 2, _ => simp [hL] at h0
  | 5, _, 3, _ => simp [hL] at h0
  | 5, _, 4, _ => simp [hL] at h0
theorem ofpat_bytes {j : Nat} {xs a b : List Nat} (h : OfPat j xs a) (k : OfPat j xs b) : a = b := by
  have h0 := h.1
  rw [k.1] at h0
  exact (List.append_cancel_left (List.append_cancel_right h0)).symm
theorem Cls.same {xs a b : List Nat} {i j : Nat} (h : Cls xs i a) (k : Cls xs j b) : i = j ∧ a = b := by
  rcases h with ⟨p, hp, rfl, h⟩ | ⟨rfl, rfl, h⟩ <;> rcases k with ⟨q, hq, rfl, k⟩ | ⟨rfl, rfl, k⟩
  · obtain rfl := ofpat_kind hp hq h k
    exact ⟨rfl, ofpat_bytes h k⟩
  · exact absurd h (k p hp a)
  · exact absurd k (h q hq b)
  · exact ⟨rfl, rfl⟩
/-- What a call leaves that tells a script's kind. -/
def ClsEnd (w : World) (xs : List Nat) (e : Ending) (w' : World) : Prop := ∃ (k : Nat) (b : List Nat) (p : Option Addr) (g c : Nat), e = .returned (.tuple #[.int .i64 (k : Int), .slice p b.length c]) ∧ Cls xs k b ∧ Own w.heap.size w' p g b.length c (lf b) ∧ Below w.heap.size w w'
theorem okI_pos {c n : Int} (h : okI c n = true) (hc : c = -1 ∨ c = 20 ∨ c = 32) : 0 ≤ n := by
  unfold okI at h
  split at h
  · simpa using h
  · have h : n = c := by simpa using h
    omega
/-- Bytes that begin and end as a pattern asks. -/
theorem ofpat_of {x : Nat → Nat} {n j m : Nat} (hn : n = (hB j).size + m + (tB j).size) (h1 : ∀ q, q < (hB j).size → x q = byt (hB j) q) (h2 : ∀ q, q < (tB j).size → x ((hB j).size + m + q) = byt (tB j) q) (h3 : okI (cN j) (m : Int) = true) :
    OfPat j (tl x n) (tl (fun i => x ((hB j).size + i)) m) := by
  refine ⟨?_, by unfold okc; rw [tl_length]; exact h3⟩
  rw [← hB_bytes, ← tB_bytes]
  apply List.ext_getElem?
  intro i
  have key : ∀ (f : Nat → Nat) (k i : Nat), (tl f k)[i]? = if i < k then some (f i) else none := fun f k i => by
    unfold tl
    rw [List.getElem?_map]
    split
    · rw [List.getElem?_range (by assumption)]; rfl
    · rw [List.getElem?_eq_none (by simp; omega)]; rfl
  unfold bytL
  rw [List.append_assoc, key]
  by_cases a : i < (hB j).size
  · rw [List.getElem?_append_left (by rw [tl_length]; exact a), key, if_pos a, if_pos (by omega), h1 i a]
  · rw [List.getElem?_append_right (by rw [tl_length]; omega), tl_length]
    by_cases b : i - (hB j).size < m
    · rw [List.getElem?_append_left (by rw [tl_length]; exact b), key, if_pos b, if_pos (by omega), show (hB j).size + (i - (hB j).size) = i by omega]
    · rw [List.getElem?_append_right (by rw [tl_length]; omega), tl_length, key]
      by_cases c : i - (hB j).size - m < (tB j).size
      · rw [if_pos c, if_pos (by omega), ← h2 _ c, show (hB j).size + m + (i - (hB j).size - m) = i by omega]
      · rw [if_neg c, if_neg (by omega)]
/-- What a script of a pattern has at its places. -/
theorem ofpat_at {x : Nat → Nat} {n j : Nat} {b : List Nat} (h : OfPat j (tl x n) b) : n = (hB j).size + b.length + (tB j).size ∧ (∀ q, q < (hB j).size → x q = byt (hB j) q) ∧ (∀ q, q < (tB j).size → x ((hB j).size + b.length + q) = byt (tB j) q) ∧ okI (cN j) (b.length : Int) = true := by
  obtain ⟨h1, h2⟩ := h
  rw [← hB_bytes, ← tB_bytes] at h1
  have hl : n = (hB j).size + b.length + (tB j).size := by
    have := congrArg List.length h1
    rw [Nat.add_assoc]; simpa [tl_length, bytL_length] using this
  have at_ : ∀ i, i < n → lf (bytL (hB j) ++ b ++ bytL (tB j)) i = x i := fun i hi => by rw [← h1, lf_tl x hi]
  refine ⟨hl, fun q hq => ?_, fun q hq => ?_, h2⟩
  · rw [← at_ q (by omega), List.append_assoc, ← lf_cat]
    unfold cat
    rw [if_pos (by rw [bytL_length]; exact hq)]
    exact lf_tl _ hq
  · rw [← at_ _ (by omega), ← lf_cat]
    unfold cat
    rw [List.length_append, bytL_length, if_neg (by omega), Nat.add_sub_cancel_left]
    exact lf_tl _ hq
theorem cls_other {x : Nat → Nat} {n : Nat} (h : ∀ j, j < 6 → ∀ b, ¬ OfPat j (tl x n) b) : Cls (tl x n) 0 [] := .inr ⟨rfl, rfl, h⟩
end Go.Proofs.YtofmleiblcafiaaDoor
