/- What bytes say of a frame: plain functions. -/
import Derived.Test.YtkjcljobcidhfaaDoorFz
import Derived.Lib.SlTrimSet
set_option linter.unusedSimpArgs false
set_option linter.unusedVariables false
set_option maxRecDepth 100000
namespace Go.Proofs.YtkjcljobcidhfaaDoor
open Go.RowKit Go.Lib Go.Sort

/-- A text of some bytes. -/
def strX (x : Nat → Nat) (n : Nat) : ByteArray := strOfNums ((List.range n).map fun i => ((x i : Nat) : Int))
theorem strX_size (x : Nat → Nat) (n : Nat) : (strX x n).size = n := by unfold strX; rw [strOfNums_size]; simp
theorem strX_sb {x : Nat → Nat} (hx : ∀ i, x i < 256) {n i : Nat} (h : i < n) : sb (strX x n) i = x i := by
  have h2 : i < (strX x n).size := by rw [strX_size]; exact h
  unfold sb
  rw [dif_pos h2]
  have e : (strX x n).data.toList[i]? = some (UInt8.ofNat (((x i : Nat) : Int).toNat)) := by
    unfold strX
    rw [strOfNums_data, List.getElem?_map, List.getElem?_map, List.getElem?_range h]
    rfl
  have h3 : i < (strX x n).data.size := h2
  rw [Array.getElem?_toList, Array.getElem?_eq_getElem h3] at e
  injection e with e
  show ((strX x n).data[i]'h2).toNat = x i
  rw [e, Int.toNat_natCast]
  have := hx i
  simp [UInt8.toNat_ofNat]
  omega
theorem ba_ext {a b : ByteArray} (h : a.size = b.size) (e : ∀ i, i < a.size → sb a i = sb b i) : a = b := by
  obtain ⟨a⟩ := a
  obtain ⟨b⟩ := b
  congr 1
  apply Array.ext h
  intro i h1 h2
  have h3 := e i h1
  have h4 := sb_get ⟨a⟩ i h1
  have h5 := sb_get ⟨b⟩ i h2
  rw [← h4, ← h5] at h3
  exact UInt8.toNat_inj.1 h3
theorem strX_eq {x : Nat → Nat} (hx : ∀ i, x i < 256) {n : Nat} {s : ByteArray} (hs : s.size = n) : strX x n = s ↔ ∀ i, i < n → x i = sb s i := by
  constructor
  · rintro rfl i hi
    exact (strX_sb hx hi).symm
  · intro h
    refine ba_ext (by rw [strX_size, hs]) fun i hi => ?_
    rw [strX_size] at hi
    rw [strX_sb hx hi, h i hi]
theorem row_strX {w : World} {p : Option Addr} {g o n c : Nat} {x : Nat → Nat} (h : Row w p g o n c x) : (convert 26 9 (.slice p n c)).run Tryd.prog w = .ok (.string (strX x n)) w := row_string h
/-- How many bytes are left when the noughts at the end are cut off. -/
def trimLen (x : Nat → Nat) : Nat → Nat
  | 0 => 0
  | n + 1 => if x n = 0 then trimLen x n else n + 1
theorem trimLen_le (x : Nat → Nat) : ∀ n, trimLen x n ≤ n
  | 0 => Nat.le_refl _
  | n + 1 => by
    unfold trimLen
    split
    · have := trimLen_le x n; omega
    · omega
theorem drop_len : ∀ (r : List UInt8) (x : Nat → Nat), (∀ i (hi : i < r.length), (r[i]).toNat = x (r.length - 1 - i)) → (r.dropWhile (([0] : List UInt8).contains ·)).length = trimLen x r.length
  | [], x, _ => rfl
  | a :: r, x, h => by
    have h0 := h 0 (by simp)
    have e0 : (a :: r).length - 1 - 0 = r.length := by simp
    rw [e0] at h0
    have hr : ∀ i (hi : i < r.length), (r[i]).toNat = x (r.length - 1 - i) := fun i hi => by
      have := h (i + 1) (by simp; omega)
      rw [List.getElem_cons_succ] at this
      rw [this]
      congr 1
      simp
      omega
    rw [List.length_cons, trimLen, List.dropWhile_cons]
    have h0' : a.toNat = x r.length := h0
    by_cases ha : a = 0
    · subst ha
      rw [if_pos (by decide), if_pos (by rw [← h0']; rfl)]
      exact drop_len r x hr
    · have hn : ¬ a.toNat = 0 := fun e => ha (UInt8.toNat_inj.1 (by rw [e]; rfl))
      rw [if_neg (by simpa using ha), if_neg (by rw [← h0']; exact hn), List.length_cons]
theorem trim_len (bs : List UInt8) (x : Nat → Nat) (h : ∀ i (hi : i < bs.length), (bs[i]).toNat = x i) : (Lib.trimRightS bs [0]).length = trimLen x bs.length := by
  unfold Lib.trimRightS
  rw [List.length_reverse]
  have := drop_len bs.reverse x fun i hi => by
    rw [List.getElem_reverse, h]
    congr 1
    rw [List.length_reverse] at hi ⊢
  rw [List.length_reverse] at this
  exact this
/-- What the beginning of bytes is: no whole frame yet, a fault, or a frame. -/
inductive FrR where
  | wait
  | bad (e : Int)
  | frame (k : Nat) (s : ByteArray) (pay : List Nat)
/-- The command's bytes. -/
def cmdX (zs : List Nat) : Nat → Nat := fun i => lf zs (4 + i)
def lenX (zs : List Nat) : Nat := ofBytes (fun i => lf zs (16 + i)) 4
def payX (zs : List Nat) : List Nat := (zs.drop 24).take (lenX zs)
def pFirst (zs : List Nat) : FrR :=
  if zs.length < 24 then .wait
  else if ¬ ofBytes (lf zs) 4 = 3652501241 ∨ isCom (cmdX zs) (trimLen (cmdX zs) 12) = false then .bad 90
  else if 200000 < lenX zs then .bad 91
  else if zs.length < 24 + lenX zs then .wait
  else if sum4 (payX zs) = (zs.drop 20).take 4 then .frame (trimLen (cmdX zs) 12) (strX (cmdX zs) (trimLen (cmdX zs) 12)) (payX zs)
  else .bad 92
theorem pFirst_frame {zs : List Nat} {k : Nat} {s : ByteArray} {pay : List Nat} (h : pFirst zs = .frame k s pay) : 24 + pay.length ≤ zs.length ∧ pay.length ≤ 200000 ∧ k ≤ 12 ∧ pay = (zs.drop 24).take pay.length := by
  unfold pFirst at h
  repeat' split at h
  all_goals first | (cases h; done) | skip
  injection h with h1 hs h2
  have hl : pay.length = lenX zs := by
    rw [← h2]
    unfold payX
    rw [List.length_take, List.length_drop]
    omega
  refine ⟨by omega, by omega, by rw [← h1]; exact trimLen_le _ _, ?_⟩
  rw [hl, ← h2]
  rfl
theorem pFirst_err {zs : List Nat} {e : Int} (h : pFirst zs = .bad e) : e ≠ 0 := by
  unfold pFirst at h
  repeat' split at h
  all_goals first | (cases h; done) | (cases h; decide)
end Go.Proofs.YtkjcljobcidhfaaDoor
