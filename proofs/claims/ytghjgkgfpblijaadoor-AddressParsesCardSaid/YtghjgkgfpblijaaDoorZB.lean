/- Texts of ours, merged: A1, Av, Ap, Ab, A2, Cv, Ax, A3. -/
import Derived.Test.YtghjgkgfpblijaaDoorZA
import Derived.Deep.LoopGhost
import Derived.Laws.IdiomStrings
import Derived.Deep.AppendSrc
import Derived.Lib.AppendZeros
import Derived.WalkMore
import Derived.Lib.OthersKept
section
set_option linter.unusedSimpArgs false
set_option linter.unusedVariables false
set_option maxRecDepth 100000
namespace Go.Proofs.YtghjgkgfpblijaaDoor
open Go.RowKit Go.Lib Go.Sort

/-- The words that a bit above the sum brings. -/
def gw : Nat → Nat | 0 => 0x3b6a57b2 | 1 => 0x26508e6d | 2 => 0x1ea119fa | 3 => 0x3d4233dd | _ => 0x2a1462b3
/-- A sum, and the first i words for the bits of t. -/
def gxs (s t : Nat) : Nat → Nat
  | 0 => s
  | i + 1 => if t / 2 ^ i % 2 = 1 then gxs s t i ^^^ gw i else gxs s t i
def gx (t : Nat) : Nat := gxs 0 t 5
theorem gxs_xor (s t i : Nat) : gxs s t i = s ^^^ gxs 0 t i := by
  induction i with
  | zero => simp [gxs]
  | succ i ih =>
    unfold gxs
    split
    · rw [ih, Nat.xor_assoc]
    · exact ih
/-- A step of the sum. -/
def pst (s x : Nat) : Nat := gxs (s % 33554432 * 32 ^^^ x) (s / 33554432) 5
def pol (s : Nat) (xs : List Nat) : Nat := xs.foldl pst s
theorem pst_eq (s x : Nat) : pst s x = (s % 33554432 * 32 ^^^ x) ^^^ gx (s / 33554432) := gxs_xor _ _ _
theorem gx_lin : ∀ t : Fin 32, ∀ u : Fin 32, gx (t.1 ^^^ u.1) = gx t.1 ^^^ gx u.1 := by decide +kernel
theorem gx_lt : ∀ t : Fin 32, gx t.1 < 1073741824 := by decide +kernel
theorem gx_low : ∀ t : Fin 32, gx t.1 % 32 = 0 → t.1 = 0 := by decide +kernel
theorem xor_lt {a b k : Nat} (ha : a < 2 ^ k) (hb : b < 2 ^ k) : a ^^^ b < 2 ^ k := Nat.xor_lt_two_pow ha hb
theorem x4 (a b c d : Nat) : (a ^^^ b) ^^^ (c ^^^ d) = (a ^^^ c) ^^^ (b ^^^ d) := by
  rw [Nat.xor_assoc, Nat.xor_assoc]
  congr 1
  rw [← Nat.xor_assoc, ← Nat.xor_assoc, Nat.xor_comm b c]
theorem pst_lt {s x : Nat} (hs : s < 1073741824) (hx : x < 32) : pst s x < 1073741824 := by
  rw [pst_eq]
  have h1 : s / 33554432 < 32 := by omega
  refine xor_lt (k := 30) (xor_lt (k := 30) ?_ ?_) (gx_lt ⟨_, h1⟩)
  · show _ < 1073741824; omega
  · show _ < 1073741824; omega
theorem pst_lin {s t x y : Nat} (hs : s < 1073741824) (ht : t < 1073741824) : pst (s ^^^ t) (x ^^^ y) = pst s x ^^^ pst t y := by
  have h1 : (s ^^^ t) % 33554432 = s % 33554432 ^^^ t % 33554432 := Nat.xor_mod_two_pow (n := 25)
  have h2 : (s ^^^ t) / 33554432 = s / 33554432 ^^^ t / 33554432 := Nat.xor_div_two_pow (n := 25)
  have h3 : (s % 33554432 ^^^ t % 33554432) * 32 = s % 33554432 * 32 ^^^ t % 33554432 * 32 := by
    have := Nat.shiftLeft_xor_distrib (a := s % 33554432) (b := t % 33554432) (i := 5)
    simpa [Nat.shiftLeft_eq] using this
  have h4 : gx (s / 33554432 ^^^ t / 33554432) = gx (s / 33554432) ^^^ gx (t / 33554432) := gx_lin ⟨_, by omega⟩ ⟨_, by omega⟩
  rw [pst_eq, pst_eq, pst_eq, h1, h2, h3, h4, x4 _ _ x y, x4]
theorem pst_zero {s : Nat} (hs : s < 1073741824) (h : pst s 0 = 0) : s = 0 := by
  rw [pst_eq, Nat.xor_zero] at h
  have h1 : s / 33554432 < 32 := by omega
  have h2 : (s % 33554432 * 32 ^^^ gx (s / 33554432)) % 32 = 0 := by rw [h]
  have h3 : (s % 33554432 * 32 ^^^ gx (s / 33554432)) % 2 ^ 5 = (s % 33554432 * 32) % 2 ^ 5 ^^^ gx (s / 33554432) % 2 ^ 5 := Nat.xor_mod_two_pow (n := 5)
  have h4 : gx (s / 33554432) % 32 = 0 := by
    have h5 : s % 33554432 * 32 % 2 ^ 5 = 0 := by show s % 33554432 * 32 % 32 = 0; omega
    rw [h5, Nat.zero_xor] at h3
    exact h3.symm.trans h2
  have h6 : s / 33554432 = 0 := gx_low ⟨_, h1⟩ h4
  rw [h6] at h
  have h7 : gx 0 = 0 := by decide
  rw [h7, Nat.xor_zero] at h
  omega
theorem pol_lt : ∀ {xs : List Nat} {s : Nat}, s < 1073741824 → (∀ x, x ∈ xs → x < 32) → pol s xs < 1073741824
  | [], _, h, _ => h
  | x :: xs, s, h, hx => pol_lt (xs := xs) (pst_lt h (hx x (by simp))) fun y hy => hx y (by simp [hy])
theorem pol_app (s : Nat) (a b : List Nat) : pol s (a ++ b) = pol (pol s a) b := by unfold pol; rw [List.foldl_append]
/-- The sum is linear. -/
theorem pol_lin : ∀ {xs ys : List Nat} {s t : Nat}, xs.length = ys.length → s < 1073741824 → t < 1073741824 → (∀ x, x ∈ xs → x < 32) → (∀ x, x ∈ ys → x < 32) → pol (s ^^^ t) (List.zipWith (· ^^^ ·) xs ys) = pol s xs ^^^ pol t ys
  | [], [], _, _, _, _, _, _, _ => rfl
  | x :: xs, y :: ys, s, t, hl, hs, ht, hx, hy => by
    show pol (pst (s ^^^ t) (x ^^^ y)) (List.zipWith (· ^^^ ·) xs ys) = _
    rw [pst_lin hs ht]
    exact pol_lin (by simpa using hl) (pst_lt hs (hx x (by simp))) (pst_lt ht (hy y (by simp))) (fun z hz => hx z (by simp [hz])) (fun z hz => hy z (by simp [hz]))
/-- Noughts behind: nothing comes of nothing alone. -/
theorem pol_zeros_ne : ∀ (k : Nat) {s : Nat}, s < 1073741824 → s ≠ 0 → pol s (List.replicate k 0) ≠ 0
  | 0, _, _, h => h
  | k + 1, s, hs, h => by
    show pol (pst s 0) (List.replicate k 0) ≠ 0
    exact pol_zeros_ne k (pst_lt hs (by omega)) fun e => h (pst_zero hs e)
theorem xor_add {a b : Nat} (hb : b < 32) : a * 32 ^^^ b = a * 32 + b := by
  have := Nat.two_pow_add_eq_or_of_lt (i := 5) (b := b) (by simpa using hb) a
  have e : 2 ^ 5 * a + b = a * 32 + b := by omega
  rw [← e, this]
  apply Nat.eq_of_testBit_eq
  intro i
  rw [Nat.testBit_xor, Nat.testBit_or]
  have e2 : a * 32 = a <<< 5 := by rw [Nat.shiftLeft_eq]
  have e3 : 2 ^ 5 * a = a <<< 5 := by rw [Nat.shiftLeft_eq, Nat.mul_comm]
  rw [e2, e3, Nat.testBit_shiftLeft]
  by_cases h : 5 ≤ i
  · have : b.testBit i = false := Nat.testBit_lt_two_pow (Nat.lt_of_lt_of_le hb (Nat.pow_le_pow_right (by omega) h : 2 ^ 5 ≤ 2 ^ i))
    rw [this]; simp
  · simp [h]
theorem pst_small {s x : Nat} (hs : s < 33554432) (hx : x < 32) : pst s x = s * 32 + x := by
  rw [pst_eq, show s / 33554432 = 0 by omega, show gx 0 = 0 by decide, Nat.xor_zero, show s % 33554432 = s by omega, xor_add hx]
theorem pol_six {d0 d1 d2 d3 d4 d5 : Nat} (h0 : d0 < 32) (h1 : d1 < 32) (h2 : d2 < 32) (h3 : d3 < 32) (h4 : d4 < 32) (h5 : d5 < 32) : pol 0 [d0, d1, d2, d3, d4, d5] = ((((d0 * 32 + d1) * 32 + d2) * 32 + d3) * 32 + d4) * 32 + d5 := by
  show pst (pst (pst (pst (pst (pst 0 d0) d1) d2) d3) d4) d5 = _
  rw [pst_small (s := 0) (by omega) h0, Nat.zero_mul, Nat.zero_add, pst_small (by omega) h1, pst_small (by omega) h2, pst_small (by omega) h3, pst_small (by omega) h4, pst_small (by omega) h5]
/-- The six groups of a number. -/
def grp6 (n : Nat) : List Nat := [n / 33554432 % 32, n / 1048576 % 32, n / 32768 % 32, n / 1024 % 32, n / 32 % 32, n % 32]
/-- What a beginning comes to, with six noughts behind, and those of a check. -/
def chk (xs : List Nat) : Nat := pol 1 ([3, 3, 0, 2, 3] ++ xs)
theorem chk_lt {xs : List Nat} (h : ∀ x, x ∈ xs → x < 32) : chk xs < 1073741824 := pol_lt (by omega) fun x hx => by
  rcases List.mem_append.1 hx with q | q
  · simp at q; omega
  · exact h x q
theorem chk_six {xs : List Nat} (h : ∀ x, x ∈ xs → x < 32) {d0 d1 d2 d3 d4 d5 : Nat} (h0 : d0 < 32) (h1 : d1 < 32) (h2 : d2 < 32) (h3 : d3 < 32) (h4 : d4 < 32) (h5 : d5 < 32) :
    chk (xs ++ [d0, d1, d2, d3, d4, d5]) = chk (xs ++ [0, 0, 0, 0, 0, 0]) ^^^ (((((d0 * 32 + d1) * 32 + d2) * 32 + d3) * 32 + d4) * 32 + d5) := by
  unfold chk
  rw [← List.append_assoc, ← List.append_assoc, pol_app, pol_app _ _ [0, 0, 0, 0, 0, 0]]
  have hS : pol 1 ([3, 3, 0, 2, 3] ++ xs) < 1073741824 := chk_lt h
  obtain ⟨S, hSd⟩ : ∃ S, S = pol 1 ([3, 3, 0, 2, 3] ++ xs) := ⟨_, rfl⟩
  rw [← hSd] at hS ⊢
  have := pol_lin (xs := [0, 0, 0, 0, 0, 0]) (ys := [d0, d1, d2, d3, d4, d5]) (s := S) (t := 0) rfl hS (by omega) (by simp) (by simp; omega)
  simp only [List.zipWith_cons_cons, List.zipWith_nil_left, Nat.zero_xor, Nat.xor_zero] at this
  rw [this, pol_six h0 h1 h2 h3 h4 h5]
/-- The check that makes a beginning come to z. -/
def sum6 (xs : List Nat) (z : Nat) : List Nat := grp6 (chk (xs ++ [0, 0, 0, 0, 0, 0]) ^^^ z)
theorem grp6_back {n : Nat} (h : n < 1073741824) : (((((n / 33554432 % 32) * 32 + n / 1048576 % 32) * 32 + n / 32768 % 32) * 32 + n / 1024 % 32) * 32 + n / 32 % 32) * 32 + n % 32 = n := by omega
theorem grp6_of {d0 d1 d2 d3 d4 d5 : Nat} (h0 : d0 < 32) (h1 : d1 < 32) (h2 : d2 < 32) (h3 : d3 < 32) (h4 : d4 < 32) (h5 : d5 < 32) : grp6 (((((d0 * 32 + d1) * 32 + d2) * 32 + d3) * 32 + d4) * 32 + d5) = [d0, d1, d2, d3, d4, d5] := by
  unfold grp6
  have e0 : (((((d0 * 32 + d1) * 32 + d2) * 32 + d3) * 32 + d4) * 32 + d5) / 33554432 % 32 = d0 := by omega
  have e1 : (((((d0 * 32 + d1) * 32 + d2) * 32 + d3) * 32 + d4) * 32 + d5) / 1048576 % 32 = d1 := by omega
  have e2 : (((((d0 * 32 + d1) * 32 + d2) * 32 + d3) * 32 + d4) * 32 + d5) / 32768 % 32 = d2 := by omega
  have e3 : (((((d0 * 32 + d1) * 32 + d2) * 32 + d3) * 32 + d4) * 32 + d5) / 1024 % 32 = d3 := by omega
  have e4 : (((((d0 * 32 + d1) * 32 + d2) * 32 + d3) * 32 + d4) * 32 + d5) / 32 % 32 = d4 := by omega
  have e5 : (((((d0 * 32 + d1) * 32 + d2) * 32 + d3) * 32 + d4) * 32 + d5) % 32 = d5 := by omega
  rw [e0, e1, e2, e3, e4, e5]
theorem grp6_lt (n : Nat) : ∀ x, x ∈ grp6 n → x < 32 := by
  unfold grp6; intro x hx; simp at hx; omega
theorem xor_back (a z : Nat) : a ^^^ (a ^^^ z) = z := by rw [← Nat.xor_assoc, Nat.xor_self, Nat.zero_xor]
theorem chk_good {xs : List Nat} (h : ∀ x, x ∈ xs → x < 32) {z : Nat} (hz : z < 1073741824) : chk (xs ++ sum6 xs z) = z := by
  obtain ⟨n, hn⟩ : ∃ n, n = chk (xs ++ [0, 0, 0, 0, 0, 0]) ^^^ z := ⟨_, rfl⟩
  have hc : chk (xs ++ [0, 0, 0, 0, 0, 0]) < 1073741824 := chk_lt fun x hx => by
    rcases List.mem_append.1 hx with q | q
    · exact h x q
    · simp at q; omega
  have hn2 : n < 1073741824 := by rw [hn]; exact xor_lt (k := 30) hc hz
  unfold sum6
  rw [← hn]
  unfold grp6
  rw [chk_six h (Nat.mod_lt _ (by omega)) (Nat.mod_lt _ (by omega)) (Nat.mod_lt _ (by omega)) (Nat.mod_lt _ (by omega)) (Nat.mod_lt _ (by omega)) (Nat.mod_lt _ (by omega)), grp6_back hn2, hn, xor_back]
theorem chk_only {xs d : List Nat} (h : ∀ x, x ∈ xs → x < 32) (hd : ∀ x, x ∈ d → x < 32) (hl : d.length = 6) {z : Nat} (hc : chk (xs ++ d) = z) : d = sum6 xs z := by
  obtain ⟨d0, d1, d2, d3, d4, d5, rfl⟩ : ∃ d0 d1 d2 d3 d4 d5, d = [d0, d1, d2, d3, d4, d5] := by
    match d, hl with
    | [d0, d1, d2, d3, d4, d5], _ => exact ⟨d0, d1, d2, d3, d4, d5, rfl⟩
  have k0 := hd d0 (by simp)
  have k1 := hd d1 (by simp)
  have k2 := hd d2 (by simp)
  have k3 := hd d3 (by simp)
  have k4 := hd d4 (by simp)
  have k5 := hd d5 (by simp)
  rw [chk_six h k0 k1 k2 k3 k4 k5] at hc
  unfold sum6
  rw [← hc, xor_back, grp6_of k0 k1 k2 k3 k4 k5]
theorem pol_zeros_z (k : Nat) : pol 0 (List.replicate k 0) = 0 := by
  induction k with
  | zero => rfl
  | succ k ih => exact ih
theorem xor_pos {a b : Nat} (h : a ≠ b) : a ^^^ b ≠ 0 := fun e => h (by
  have := xor_back a b
  rw [e, Nat.xor_zero] at this
  exact this)
theorem zip_zeros (b : List Nat) : List.zipWith (· ^^^ ·) b (List.replicate b.length 0) = b := by
  induction b with
  | nil => rfl
  | cons x b ih =>
    show (x ^^^ 0) :: _ = _
    rw [Nat.xor_zero]
    exact congrArg _ ih
/-- One number turned: by how much the sum turns. -/
theorem pol_turn {s : Nat} (hs : s < 1073741824) {a b : List Nat} {x y : Nat} (ha : ∀ x, x ∈ a → x < 32) (hb : ∀ x, x ∈ b → x < 32) (hx : x < 32) (hy : y < 32) :
    pol s (a ++ y :: b) = pol s (a ++ x :: b) ^^^ pol 0 ((x ^^^ y) :: List.replicate b.length 0) := by
  have hxy : x ^^^ y < 32 := xor_lt (k := 5) hx hy
  rw [pol_app, pol_app]
  have hS := pol_lt (s := s) hs ha
  obtain ⟨S, hSd⟩ : ∃ S, S = pol s a := ⟨_, rfl⟩
  rw [← hSd] at hS ⊢
  have := pol_lin (xs := x :: b) (ys := (x ^^^ y) :: List.replicate b.length 0) (s := S) (t := 0) (by simp) hS (by omega) (by
    intro z hz
    rcases List.mem_cons.1 hz with rfl | q
    · exact hx
    · exact hb z q) (by
    intro z hz
    rcases List.mem_cons.1 hz with rfl | q
    · exact hxy
    · have := List.eq_of_mem_replicate q; omega)
  rw [← this, Nat.xor_zero]
  show _ = pol S ((x ^^^ (x ^^^ y)) :: List.zipWith (· ^^^ ·) b (List.replicate b.length 0))
  rw [xor_back, zip_zeros]
theorem chk_turn {a b : List Nat} {x y : Nat} (ha : ∀ x, x ∈ a → x < 32) (hb : ∀ x, x ∈ b → x < 32) (hx : x < 32) (hy : y < 32) (hne : x ≠ y) : chk (a ++ y :: b) ≠ chk (a ++ x :: b) := by
  unfold chk
  rw [← List.append_assoc, ← List.append_assoc, pol_turn (x := x) (y := y) (by omega) (by
    intro z hz
    rcases List.mem_append.1 hz with q | q
    · simp at q; omega
    · exact ha z q) hb hx hy]
  intro e
  have hxy : x ^^^ y < 32 := xor_lt (k := 5) hx hy
  have h0 : x ^^^ y ≠ 0 := xor_pos hne
  have h1 : pol 0 ((x ^^^ y) :: List.replicate b.length 0) = 0 := by
    obtain ⟨A, hA⟩ : ∃ A, A = pol 1 ([3, 3, 0, 2, 3] ++ a ++ x :: b) := ⟨_, rfl⟩
    obtain ⟨D, hD⟩ : ∃ D, D = pol 0 ((x ^^^ y) :: List.replicate b.length 0) := ⟨_, rfl⟩
    rw [← hA, ← hD] at e
    rw [← hD]
    have := xor_back A D
    rw [e, Nat.xor_self] at this
    exact this.symm
  have h2 : pol (pst 0 (x ^^^ y)) (List.replicate b.length 0) = 0 := h1
  rw [pst_small (by omega) hxy, Nat.zero_mul, Nat.zero_add] at h2
  exact pol_zeros_ne _ (by omega) h0 h2
/-- The version turned between 0 and 1, with 58 numbers behind: the sum does not turn from one version's end to the other's. -/
theorem ver_turn : pol 0 (1 :: List.replicate 58 0) ≠ 1 ^^^ 0x2bc830a3 := by decide +kernel

section
variable {o : Oper} {ev : Operand → Value} {W : World} {x y : Operand}
theorem exec_shl32 {n k : Nat} (ho : o.op = .binOp .shl 59 x y 3) (hx : ev x = .int .u32 (n : Int)) (hy : ev y = .int .i64 (k : Int)) (hk : k < 32) : (execOp ev o).run Tryd.prog W = .ok (.value (.int .u32 ((n * 2 ^ k % 4294967296 : Nat) : Int))) W := by
  have h1 : min k 32 = k := by omega
  unfold execOp
  simp [ho, hx, hy, go_sem, IntKind.bits, h1, IntKind.wrap_u32]
theorem exec_shl32v {n k r : Nat} (ho : o.op = .binOp .shl 59 x y 3) (hx : ev x = .int .u32 (n : Int)) (hy : ev y = .int .i64 (k : Int)) (hk : k < 32) (hr : n * 2 ^ k % 4294967296 = r) : (execOp ev o).run Tryd.prog W = .ok (.value (.int .u32 (r : Int))) W := by
  subst hr; exact exec_shl32 ho hx hy hk
theorem exec_shr32v {n k r : Nat} (ho : o.op = .binOp .shr 59 x y 3) (hx : ev x = .int .u32 (n : Int)) (hy : ev y = .int .i64 (k : Int)) (hk : k < 32) (hr : n / 2 ^ k = r) : (execOp ev o).run Tryd.prog W = .ok (.value (.int .u32 (r : Int))) W := by
  subst hr
  have h1 : min k 32 = k := by omega
  unfold execOp
  simp [ho, hx, hy, go_sem, IntKind.bits, h1]
theorem exec_or32v {a b r : Nat} (ho : o.op = .binOp .or 59 x y 59) (hx : ev x = .int .u32 (a : Int)) (hy : ev y = .int .u32 (b : Int)) (ha : a < 4294967296) (hb : b < 4294967296) (hr : a ||| b = r) : (execOp ev o).run Tryd.prog W = .ok (.value (.int .u32 (r : Int))) W := by
  subst hr
  have h := u32_or_nat a b ha hb
  unfold execOp
  simp [ho, hx, hy, go_sem, h]
theorem exec_and32v {a b r : Nat} (ho : o.op = .binOp .and 59 x y 59) (hx : ev x = .int .u32 (a : Int)) (hy : ev y = .int .u32 (b : Int)) (ha : a < 4294967296) (hb : b < 4294967296) (hr : a &&& b = r) : (execOp ev o).run Tryd.prog W = .ok (.value (.int .u32 (r : Int))) W := by
  subst hr
  have h := u32_and_nat a b ha hb
  unfold execOp
  simp [ho, hx, hy, go_sem, h]
theorem exec_xor32v {a b r : Nat} (ho : o.op = .binOp .xor 59 x y 59) (hx : ev x = .int .u32 (a : Int)) (hy : ev y = .int .u32 (b : Int)) (ha : a < 4294967296) (hb : b < 4294967296) (hr : a ^^^ b = r) : (execOp ev o).run Tryd.prog W = .ok (.value (.int .u32 (r : Int))) W := by
  subst hr
  have h := u32_xor_nat a b ha hb
  unfold execOp
  simp [ho, hx, hy, go_sem, h]
theorem exec_sub32v {a b r : Nat} (ho : o.op = .binOp .sub 59 x y 59) (hx : ev x = .int .u32 (a : Int)) (hy : ev y = .int .u32 (b : Int)) (hb : b ≤ a) (ha : a < 4294967296) (hr : a - b = r) : (execOp ev o).run Tryd.prog W = .ok (.value (.int .u32 (r : Int))) W := by
  subst hr
  have h : IntKind.u32.wrap ((a : Int) - (b : Int)) = ((a - b : Nat) : Int) := by rw [IntKind.wrap_u32]; omega
  unfold execOp
  simp [ho, hx, hy, go_sem, h, Tryd.underlying59]
theorem exec_eq32v {a b : Nat} {q : Bool} (ho : o.op = .binOp .eql 59 x y 59) (hx : ev x = .int .u32 (a : Int)) (hy : ev y = .int .u32 (b : Int)) (hq : decide (a = b) = q) : (execOp ev o).run Tryd.prog W = .ok (.value (.bool q)) W := by
  subst hq
  unfold execOp
  by_cases h : a = b
  · subst h
    simp [ho, hx, hy, go_sem, Tryd.underlying59]
  · have h2 : ¬ ((a : Int) = (b : Int)) := by omega
    simp [ho, hx, hy, go_sem, Tryd.underlying59, h, h2]
theorem exec_cv832 {n : Nat} (ho : o.op = .convert 5 59 x) (hx : ev x = .int .u8 (n : Int)) (hn : n < 256) : (execOp ev o).run Tryd.prog W = .ok (.value (.int .u32 (n : Int))) W := by
  have h : IntKind.u32.wrap (n : Int) = (n : Int) := by rw [IntKind.wrap_u32]; omega
  unfold execOp
  simp [ho, hx, go_sem, Tryd.underlying5, Tryd.underlying59, h]
theorem exec_cv328 {n r : Nat} (ho : o.op = .convert 59 5 x) (hx : ev x = .int .u32 (n : Int)) (hr : n % 256 = r) : (execOp ev o).run Tryd.prog W = .ok (.value (.int .u8 (r : Int))) W := by
  subst hr
  have h : IntKind.u8.wrap (n : Int) = ((n % 256 : Nat) : Int) := by rw [IntKind.wrap_u8']; omega
  unfold execOp
  simp [ho, hx, go_sem, Tryd.underlying5, Tryd.underlying59, h]
theorem exec_sub3v {a b r : Nat} (ho : o.op = .binOp .sub 3 x y 3) (hx : ev x = .int .i64 (a : Int)) (hy : ev y = .int .i64 (b : Int)) (hb : b ≤ a) (ha : a < 9223372036854775808) (hr : a - b = r) : (execOp ev o).run Tryd.prog W = .ok (.value (.int .i64 (r : Int))) W :=
  exec_sub ho hx hy (by subst hr; rw [IntKind.wrap_i64]; omega)
theorem exec_add3v {a b r : Nat} (ho : o.op = .binOp .add 3 x y 3) (hx : ev x = .int .i64 (a : Int)) (hy : ev y = .int .i64 (b : Int)) (hr : a + b = r) (hl : r < 9223372036854775808) : (execOp ev o).run Tryd.prog W = .ok (.value (.int .i64 (r : Int))) W :=
  exec_add ho hx hy (by subst hr; rw [IntKind.wrap_i64]; omega)
theorem exec_mul3v {a b r : Nat} (ho : o.op = .binOp .mul 3 x y 3) (hx : ev x = .int .i64 (a : Int)) (hy : ev y = .int .i64 (b : Int)) (hr : a * b = r) (hl : r < 9223372036854775808) : (execOp ev o).run Tryd.prog W = .ok (.value (.int .i64 (r : Int))) W := by
  have h : IntKind.i64.wrap ((a : Int) * (b : Int)) = (r : Int) := by rw [IntKind.wrap_i64, ← Int.natCast_mul, hr]; omega
  unfold execOp
  simp [ho, hx, hy, go_sem, h]
theorem exec_geq3v {a b : Nat} {q : Bool} (ho : o.op = .binOp .geq 3 x y 3) (hx : ev x = .int .i64 (a : Int)) (hy : ev y = .int .i64 (b : Int)) (hq : decide (b ≤ a) = q) : (execOp ev o).run Tryd.prog W = .ok (.value (.bool q)) W := by
  subst hq
  unfold execOp
  by_cases h : b ≤ a
  · simp [ho, hx, hy, go_sem, h]
  · simp [ho, hx, hy, go_sem, h]
theorem exec_gtr3v {a b : Nat} {q : Bool} (ho : o.op = .binOp .gtr 3 x y 3) (hx : ev x = .int .i64 (a : Int)) (hy : ev y = .int .i64 (b : Int)) (hq : decide (b < a) = q) : (execOp ev o).run Tryd.prog W = .ok (.value (.bool q)) W := by
  subst hq
  unfold execOp
  by_cases h : b < a
  · simp [ho, hx, hy, go_sem, h]
  · simp [ho, hx, hy, go_sem, h]
theorem exec_lss3v {a b : Nat} {q : Bool} (ho : o.op = .binOp .lss 3 x y 3) (hx : ev x = .int .i64 (a : Int)) (hy : ev y = .int .i64 (b : Int)) (hq : decide (a < b) = q) : (execOp ev o).run Tryd.prog W = .ok (.value (.bool q)) W := by
  subst hq
  unfold execOp
  by_cases h : a < b
  · simp [ho, hx, hy, go_sem, h]
  · simp [ho, hx, hy, go_sem, h]
end
end Go.Proofs.YtghjgkgfpblijaaDoor
end
section
set_option linter.unusedSimpArgs false
set_option linter.unusedVariables false
set_option maxRecDepth 100000
namespace Go.Proofs.YtghjgkgfpblijaaDoor
open Go.RowKit Go.Lib Go.Sort

/-- The first k and the last k of n turned round. -/
def rv (f : Nat → Nat) (n k : Nat) : Nat → Nat := fun i => if i < k ∨ n ≤ i + k then f (n - 1 - i) else f i
theorem rv_zero (f : Nat → Nat) (n i : Nat) (h : i < n) : rv f n 0 i = f i := by unfold rv; rw [if_neg (by omega)]
theorem rv_end (f : Nat → Nat) (n k i : Nat) (h : i < n) (hk : n ≤ 2 * k + 1) : rv f n k i = f (n - 1 - i) := by
  unfold rv
  by_cases h1 : i < k ∨ n ≤ i + k
  · rw [if_pos h1]
  · rw [if_neg h1, show n - 1 - i = i by omega]
theorem rv_succ (f : Nat → Nat) (n k j i : Nat) (hj : j = n - 1 - k) (hk : k < j) (h : i < n) : (if i = j then rv f n k k else if i = k then rv f n k j else rv f n k i) = rv f n (k + 1) i := by
  unfold rv
  subst hj
  by_cases h1 : i = n - 1 - k
  · subst h1
    rw [if_pos rfl, if_neg (by omega), if_pos (by omega), show n - 1 - (n - 1 - k) = k by omega]
  · rw [if_neg h1]
    by_cases h2 : i = k
    · subst h2
      rw [if_pos rfl, if_neg (by omega), if_pos (by omega)]
    · rw [if_neg h2]
      by_cases h3 : i < k ∨ n ≤ i + k
      · rw [if_pos h3, if_pos (by omega)]
      · rw [if_neg h3, if_neg (by omega)]
section
variable {Q : Exit → Act → World → Prop} {op : Oper} {a : Act} {w : World} {K : Act → World → Prop}
theorem mo_bput (x y : Operand) (ho : op.op = .store 5 x y) {B g n c i v : Nat} {p : Option Addr} {f : Nat → Nat} (N : Own B w p g n c f) (hx : a.eval x = .pointer (some ⟨g, 0 + i * 1, none⟩)) (hy : a.eval y = .int .u8 (v : Int)) (hi : i < n) (hv : v < 256)
    (k : ∀ w', Hid (Own B w' p g n c fun k => if k = i then v else f k) → Hid (Below B w w') → K (a.put op.dst undef) w') : op.wp Tryd.prog a w K Q := by
  obtain ⟨O, hb, hf⟩ := own_put N hi hv
  rw [Nat.zero_add, Nat.mul_one] at hx
  have hc := N.row.cell i hi
  rw [Nat.zero_add] at hc
  unfold Oper.wp execOp
  simp only [ho, hx, hy, Sem.run_bind, Sem.run_pure, run_store_one (P := Tryd.prog) (ty := 5) (v := .int .u8 (v : Int)) (by kernel_rfl) rfl rfl hc hf, Result.andThen_ok]
  exact k _ (Lib.hid O) (Lib.hid hb)
end
set_option maxHeartbeats 8000000 in
theorem rev_any {w : World} {B : Nat} {p : Option Addr} {g n c : Nat} {f : Nat → Nat} (N0 : Hid (Own B w p g n c f)) (hn : n ≤ 140737488355328) : Calls Tryd.prog 61 #[.slice p n c] w fun e w' => e = .returned (.tuple #[]) ∧ Own B w' p g n c (fun i => f (n - 1 - i)) ∧ Below B w w' := by
  have N1 := Lib.hid (N0.out.to (y := rv f n 0) (fun i hi => (rv_zero f n i hi).symm) (fun i => by unfold rv; split <;> exact N0.out.byte _))
  have B1 := Lib.hid (Below.refl B w)
  have FB := Lib.hid N0.out.byte
  go_enter Tryd.func61, Tryd.ntmps61
  go_wp2
  go_loopg [2, 3] n (fun m i jv wr => ∃ k : Nat, k + m = n ∧ 2 * k ≤ n + 1 ∧ i = .int .i64 (k : Int) ∧ jv = .int .i64 ((n : Int) - 1 - (k : Int)) ∧ Hid (Own B wr p g n c (rv f n k)) ∧ Hid (Below B w wr))
  case atStart => exact ⟨0, by omega, by omega, rfl, congrArg (Value.int .i64) (by omega), N1, B1⟩
  case round =>
    clear N1 B1
    obtain ⟨k, hk, hk2, rfl, rfl, N, BB⟩ := hrel
    obtain ⟨kk, rfl⟩ : ∃ kk : Nat, kk = gk := ⟨_, rfl⟩
    by_cases hlt : 2 * k + 1 < n
    · obtain ⟨j, hj⟩ : ∃ j, j = n - 1 - k := ⟨_, rfl⟩
      have ej : (n : Int) - 1 - (k : Int) = (j : Int) := by omega
      rw [ej]
      have hkj : k < j := by omega
      have hjn : j < n := by omega
      have HJ := Lib.hid (And.intro hj ej)
      clear ej hj
      obtain rfl := N.out.row.head (by omega)
      have E := Lib.hid (Mem.nil wr)
      go_upto_region 3 with fail
      refine wp_region_memS (S := fun W' => ∃ h, Own B W' (some ⟨g, 0, none⟩) g n c h) E (by kernel_rfl) ?_
      intro wx E0
      replace N := Lib.hid (N.out.below E0.out.below)
      replace BB := Lib.hid (BB.out.trans (E0.out.below.mono (Nat.le_trans N0.out.low BB.out.size)))
      clear E0
      have RJ := Lib.hid (show rv f n k j < 256 ∧ rv f n k k < 256 from ⟨N.out.byte j, N.out.byte k⟩)
      refine hm_run 0 14 (.slice (some ⟨g, 0, none⟩) n c) rfl rfl (by kernel_rfl) (by kernel_rfl) (by kernel_rfl) (fun _ _ _ h => h) rfl (fun W' hW => rfl) ⟨_, N.out⟩ ?_
      try simp only [Act.put, List.getElem_toArray, List.getElem_cons_succ, List.getElem_cons_zero, List.setIfInBounds_toArray, List.set_cons_zero, List.set_cons_succ]
      refine hm_run 1 15 (.int .i64 (k : Int)) rfl rfl (by kernel_rfl) (by kernel_rfl) (by kernel_rfl) (fun _ _ _ h => h) rfl (fun W' hW => rfl) ⟨_, N.out⟩ ?_
      try simp only [Act.put, List.getElem_toArray, List.getElem_cons_succ, List.getElem_cons_zero, List.setIfInBounds_toArray, List.set_cons_zero, List.set_cons_succ]
      refine hm_run 2 16 (.slice (some ⟨g, 0, none⟩) n c) rfl rfl (by kernel_rfl) (by kernel_rfl) (by kernel_rfl) (fun _ _ _ h => h) rfl (fun W' hW => rfl) ⟨_, N.out⟩ ?_
      try simp only [Act.put, List.getElem_toArray, List.getElem_cons_succ, List.getElem_cons_zero, List.setIfInBounds_toArray, List.set_cons_zero, List.set_cons_succ]
      refine hm_run 3 17 (.int .i64 (j : Int)) rfl rfl (by kernel_rfl) (by kernel_rfl) (by kernel_rfl) (fun _ _ _ h => h) rfl (fun W' hW => rfl) ⟨_, N.out⟩ ?_
      try simp only [Act.put, List.getElem_toArray, List.getElem_cons_succ, List.getElem_cons_zero, List.setIfInBounds_toArray, List.set_cons_zero, List.set_cons_succ]
      refine hm_run 4 18 (.slice (some ⟨g, 0, none⟩) n c) rfl rfl (by kernel_rfl) (by kernel_rfl) (by kernel_rfl) (fun _ _ _ h => h) rfl (fun W' hW => rfl) ⟨_, N.out⟩ ?_
      try simp only [Act.put, List.getElem_toArray, List.getElem_cons_succ, List.getElem_cons_zero, List.setIfInBounds_toArray, List.set_cons_zero, List.set_cons_succ]
      refine hm_run 5 19 (.int .i64 (j : Int)) rfl rfl (by kernel_rfl) (by kernel_rfl) (by kernel_rfl) (fun _ _ _ h => h) rfl (fun W' hW => rfl) ⟨_, N.out⟩ ?_
      try simp only [Act.put, List.getElem_toArray, List.getElem_cons_succ, List.getElem_cons_zero, List.setIfInBounds_toArray, List.set_cons_zero, List.set_cons_succ]
      refine hm_run 6 20 (.pointer (some ⟨g, 0 + j * 1, none⟩)) rfl rfl (by kernel_rfl) (by kernel_rfl) (by kernel_rfl) (fun _ _ _ h => h) rfl (fun W' hW => exec_ix rfl (run_ix (k := 1) (j := j) Tryd.underlying22 (by kernel_rfl) (by omega) rfl W')) ⟨_, N.out⟩ ?_
      try simp only [Act.put, List.getElem_toArray, List.getElem_cons_succ, List.getElem_cons_zero, List.setIfInBounds_toArray, List.set_cons_zero, List.set_cons_succ]
      refine hm_run 8 22 (.slice (some ⟨g, 0, none⟩) n c) rfl rfl (by kernel_rfl) (by kernel_rfl) (by kernel_rfl) (fun _ _ _ h => h) rfl (fun W' hW => rfl) ⟨_, N.out⟩ ?_
      try simp only [Act.put, List.getElem_toArray, List.getElem_cons_succ, List.getElem_cons_zero, List.setIfInBounds_toArray, List.set_cons_zero, List.set_cons_succ]
      refine hm_run 9 23 (.int .i64 (k : Int)) rfl rfl (by kernel_rfl) (by kernel_rfl) (by kernel_rfl) (fun _ _ _ h => h) rfl (fun W' hW => rfl) ⟨_, N.out⟩ ?_
      try simp only [Act.put, List.getElem_toArray, List.getElem_cons_succ, List.getElem_cons_zero, List.setIfInBounds_toArray, List.set_cons_zero, List.set_cons_succ]
      refine hm_run 10 24 (.pointer (some ⟨g, 0 + k * 1, none⟩)) rfl rfl (by kernel_rfl) (by kernel_rfl) (by kernel_rfl) (fun _ _ _ h => h) rfl (fun W' hW => exec_ix rfl (run_ix (k := 1) (j := k) Tryd.underlying22 (by kernel_rfl) (by omega) rfl W')) ⟨_, N.out⟩ ?_
      try simp only [Act.put, List.getElem_toArray, List.getElem_cons_succ, List.getElem_cons_zero, List.setIfInBounds_toArray, List.set_cons_zero, List.set_cons_succ]
      refine hm_two (i := 7) (j := 11) (by kernel_rfl) ?_ ?_
      · refine hm_step 7 rfl (by kernel_rfl) fun K hK => ?_
        try simp only [Act.put, List.getElem_toArray, List.getElem_cons_succ, List.getElem_cons_zero, List.setIfInBounds_toArray, List.set_cons_zero, List.set_cons_succ]
        refine mo_known (.int .u8 ((rv f n k j : Nat) : Int)) _ (exec_load rfl (run_load_one Tryd.underlying5 rfl (by have := N.out.row.cell j (by omega); rwa [Nat.mul_one]))) ?_
        refine hK _ _ ⟨_, N.out⟩ ?_
        clear hK K
        try simp only [Act.put, List.getElem_toArray, List.getElem_cons_succ, List.getElem_cons_zero, List.setIfInBounds_toArray, List.set_cons_zero, List.set_cons_succ]
        refine hm_one (i := 11) (by kernel_rfl) ?_
        refine hm_step 11 rfl (by kernel_rfl) fun K hK => ?_
        try simp only [Act.put, List.getElem_toArray, List.getElem_cons_succ, List.getElem_cons_zero, List.setIfInBounds_toArray, List.set_cons_zero, List.set_cons_succ]
        refine mo_known (.int .u8 ((rv f n k k : Nat) : Int)) _ (exec_load rfl (run_load_one Tryd.underlying5 rfl (by have := N.out.row.cell k (by omega); rwa [Nat.mul_one]))) ?_
        refine hK _ _ ⟨_, N.out⟩ ?_
        clear hK K
        try simp only [Act.put, List.getElem_toArray, List.getElem_cons_succ, List.getElem_cons_zero, List.setIfInBounds_toArray, List.set_cons_zero, List.set_cons_succ]
        refine hm_run 12 26 (.pointer (some ⟨g, 0 + k * 1, none⟩)) rfl rfl (by kernel_rfl) (by kernel_rfl) (by kernel_rfl) (fun _ _ _ h => h) rfl (fun W' hW => exec_ix rfl (run_ix (k := 1) (j := k) Tryd.underlying22 (by kernel_rfl) (by omega) rfl W')) ⟨_, N.out⟩ ?_
        try simp only [Act.put, List.getElem_toArray, List.getElem_cons_succ, List.getElem_cons_zero, List.setIfInBounds_toArray, List.set_cons_zero, List.set_cons_succ]
        refine hm_one (i := 13) (by kernel_rfl) ?_
        refine hm_step 13 rfl (by kernel_rfl) fun K hK => ?_
        try simp only [Act.put, List.getElem_toArray, List.getElem_cons_succ, List.getElem_cons_zero, List.setIfInBounds_toArray, List.set_cons_zero, List.set_cons_succ]
        refine mo_bput (.tmp 26) (.tmp 21) rfl N.out rfl rfl (by omega) RJ.out.1 ?_
        intro w8 N8 hb8
        replace BB := Lib.hid (BB.out.trans hb8.out)
        clear hb8 N
        refine hK _ _ ⟨_, N8.out⟩ ?_
        clear hK K
        try simp only [Act.put, List.getElem_toArray, List.getElem_cons_succ, List.getElem_cons_zero, List.setIfInBounds_toArray, List.set_cons_zero, List.set_cons_succ]
        refine hm_run 14 27 (.pointer (some ⟨g, 0 + j * 1, none⟩)) rfl rfl (by kernel_rfl) (by kernel_rfl) (by kernel_rfl) (fun _ _ _ h => h) rfl (fun W' hW => exec_ix rfl (run_ix (k := 1) (j := j) Tryd.underlying22 (by kernel_rfl) (by omega) rfl W')) ⟨_, N8.out⟩ ?_
        try simp only [Act.put, List.getElem_toArray, List.getElem_cons_succ, List.getElem_cons_zero, List.setIfInBounds_toArray, List.set_cons_zero, List.set_cons_succ]
        refine hm_one (i := 15) (by kernel_rfl) ?_
        refine hm_step 15 rfl (by kernel_rfl) fun K hK => ?_
        try simp only [Act.put, List.getElem_toArray, List.getElem_cons_succ, List.getElem_cons_zero, List.setIfInBounds_toArray, List.set_cons_zero, List.set_cons_succ]
        refine mo_bput (.tmp 27) (.tmp 25) rfl N8.out rfl rfl (by omega) RJ.out.2 ?_
        intro w9 N9 hb9
        replace BB := Lib.hid (BB.out.trans hb9.out)
        clear hb9 N8
        refine hK _ _ ⟨_, N9.out⟩ ?_
        clear hK K
        try simp only [Act.put, List.getElem_toArray, List.getElem_cons_succ, List.getElem_cons_zero, List.setIfInBounds_toArray, List.set_cons_zero, List.set_cons_succ]
        refine wpAnyH_done (by kernel_rfl) ?_ _
        have YtghjgkgfpblijaaDoor := Lib.hid (N9.out.to (y := rv f n (k + 1)) (fun i hi => rv_succ f n k j i HJ.out.1 hkj hi) (fun i => by unfold rv; split <;> exact FB.out _))
        clear N9
        go_wp2
        go_roundg (n - (k + 1))
        case measure => omega
        case rel => exact ⟨k + 1, by omega, by omega, by go_num, congrArg (Value.int .i64) (by have := HJ.out.2; omega), YtghjgkgfpblijaaDoor, BB⟩
      · refine hm_step 11 rfl (by kernel_rfl) fun K hK => ?_
        try simp only [Act.put, List.getElem_toArray, List.getElem_cons_succ, List.getElem_cons_zero, List.setIfInBounds_toArray, List.set_cons_zero, List.set_cons_succ]
        refine mo_known (.int .u8 ((rv f n k k : Nat) : Int)) _ (exec_load rfl (run_load_one Tryd.underlying5 rfl (by have := N.out.row.cell k (by omega); rwa [Nat.mul_one]))) ?_
        refine hK _ _ ⟨_, N.out⟩ ?_
        clear hK K
        try simp only [Act.put, List.getElem_toArray, List.getElem_cons_succ, List.getElem_cons_zero, List.setIfInBounds_toArray, List.set_cons_zero, List.set_cons_succ]
        refine hm_one (i := 7) (by kernel_rfl) ?_
        refine hm_step 7 rfl (by kernel_rfl) fun K hK => ?_
        try simp only [Act.put, List.getElem_toArray, List.getElem_cons_succ, List.getElem_cons_zero, List.setIfInBounds_toArray, List.set_cons_zero, List.set_cons_succ]
        refine mo_known (.int .u8 ((rv f n k j : Nat) : Int)) _ (exec_load rfl (run_load_one Tryd.underlying5 rfl (by have := N.out.row.cell j (by omega); rwa [Nat.mul_one]))) ?_
        refine hK _ _ ⟨_, N.out⟩ ?_
        clear hK K
        try simp only [Act.put, List.getElem_toArray, List.getElem_cons_succ, List.getElem_cons_zero, List.setIfInBounds_toArray, List.set_cons_zero, List.set_cons_succ]
        refine hm_run 12 26 (.pointer (some ⟨g, 0 + k * 1, none⟩)) rfl rfl (by kernel_rfl) (by kernel_rfl) (by kernel_rfl) (fun _ _ _ h => h) rfl (fun W' hW => exec_ix rfl (run_ix (k := 1) (j := k) Tryd.underlying22 (by kernel_rfl) (by omega) rfl W')) ⟨_, N.out⟩ ?_
        try simp only [Act.put, List.getElem_toArray, List.getElem_cons_succ, List.getElem_cons_zero, List.setIfInBounds_toArray, List.set_cons_zero, List.set_cons_succ]
        refine hm_one (i := 13) (by kernel_rfl) ?_
        refine hm_step 13 rfl (by kernel_rfl) fun K hK => ?_
        try simp only [Act.put, List.getElem_toArray, List.getElem_cons_succ, List.getElem_cons_zero, List.setIfInBounds_toArray, List.set_cons_zero, List.set_cons_succ]
        refine mo_bput (.tmp 26) (.tmp 21) rfl N.out rfl rfl (by omega) RJ.out.1 ?_
        intro w8 N8 hb8
        replace BB := Lib.hid (BB.out.trans hb8.out)
        clear hb8 N
        refine hK _ _ ⟨_, N8.out⟩ ?_
        clear hK K
        try simp only [Act.put, List.getElem_toArray, List.getElem_cons_succ, List.getElem_cons_zero, List.setIfInBounds_toArray, List.set_cons_zero, List.set_cons_succ]
        refine hm_run 14 27 (.pointer (some ⟨g, 0 + j * 1, none⟩)) rfl rfl (by kernel_rfl) (by kernel_rfl) (by kernel_rfl) (fun _ _ _ h => h) rfl (fun W' hW => exec_ix rfl (run_ix (k := 1) (j := j) Tryd.underlying22 (by kernel_rfl) (by omega) rfl W')) ⟨_, N8.out⟩ ?_
        try simp only [Act.put, List.getElem_toArray, List.getElem_cons_succ, List.getElem_cons_zero, List.setIfInBounds_toArray, List.set_cons_zero, List.set_cons_succ]
        refine hm_one (i := 15) (by kernel_rfl) ?_
        refine hm_step 15 rfl (by kernel_rfl) fun K hK => ?_
        try simp only [Act.put, List.getElem_toArray, List.getElem_cons_succ, List.getElem_cons_zero, List.setIfInBounds_toArray, List.set_cons_zero, List.set_cons_succ]
        refine mo_bput (.tmp 27) (.tmp 25) rfl N8.out rfl rfl (by omega) RJ.out.2 ?_
        intro w9 N9 hb9
        replace BB := Lib.hid (BB.out.trans hb9.out)
        clear hb9 N8
        refine hK _ _ ⟨_, N9.out⟩ ?_
        clear hK K
        try simp only [Act.put, List.getElem_toArray, List.getElem_cons_succ, List.getElem_cons_zero, List.setIfInBounds_toArray, List.set_cons_zero, List.set_cons_succ]
        refine wpAnyH_done (by kernel_rfl) ?_ _
        have YtghjgkgfpblijaaDoor := Lib.hid (N9.out.to (y := rv f n (k + 1)) (fun i hi => rv_succ f n k j i HJ.out.1 hkj hi) (fun i => by unfold rv; split <;> exact FB.out _))
        clear N9
        go_wp2
        go_roundg (n - (k + 1))
        case measure => omega
        case rel => exact ⟨k + 1, by omega, by omega, by go_num, congrArg (Value.int .i64) (by have := HJ.out.2; omega), YtghjgkgfpblijaaDoor, BB⟩
    · have d1 : decide ((k : Int) < (n : Int) - 1 - (k : Int)) = false := by simp; omega
      have NF := Lib.hid (N.out.to (y := fun i => f (n - 1 - i)) (fun i hi => rv_end f n k i hi (by omega)) (fun i => FB.out _))
      go_wp2
      go_end0
      exact ⟨rfl, NF.out, BB.out⟩
end Go.Proofs.YtghjgkgfpblijaaDoor
end
section
set_option linter.unusedSimpArgs false
set_option linter.unusedVariables false
namespace Go.Proofs.YtghjgkgfpblijaaDoor

/-- The digits of n in base b, the lowest first. -/
def digf (b : Nat) : Nat → Nat → List Nat
  | 0, _ => []
  | f + 1, n => if n = 0 then [] else n % b :: digf b f (n / b)
def dig (b n : Nat) : List Nat := digf b n n
theorem digf_eq {b : Nat} (hb : 2 ≤ b) : ∀ (f n : Nat), n ≤ f → digf b f n = dig b n := by
  have key : ∀ (n f g : Nat), n ≤ f → n ≤ g → digf b f n = digf b g n := by
    intro n
    induction n using Nat.strongRecOn with
    | _ n ih =>
      intro f g hf hg
      rcases Nat.eq_zero_or_pos n with h | h
      · subst h
        cases f <;> cases g <;> simp [digf]
      · obtain ⟨f, rfl⟩ : ∃ k, f = k + 1 := ⟨f - 1, by omega⟩
        obtain ⟨g, rfl⟩ : ∃ k, g = k + 1 := ⟨g - 1, by omega⟩
        have hl : n / b < n := Nat.div_lt_self h (by omega)
        unfold digf
        rw [if_neg (by omega), if_neg (by omega), ih (n / b) hl f g (by omega) (by omega)]
  exact fun f n h => key n f n h (Nat.le_refl _)
theorem dig_zero (b : Nat) : dig b 0 = [] := rfl
theorem dig_pos {b n : Nat} (hb : 2 ≤ b) (hn : 0 < n) : dig b n = n % b :: dig b (n / b) := by
  obtain ⟨k, rfl⟩ : ∃ k, n = k + 1 := ⟨n - 1, by omega⟩
  have hl : (k + 1) / b < k + 1 := Nat.div_lt_self hn (by omega)
  show digf b (k + 1) (k + 1) = _
  unfold digf
  rw [if_neg (by omega), digf_eq hb k _ (by omega)]
/-- The number that digits say, the lowest first. -/
def val (b : Nat) : List Nat → Nat
  | [] => 0
  | x :: xs => x + b * val b xs
theorem val_dig {b : Nat} (hb : 2 ≤ b) (n : Nat) : val b (dig b n) = n := by
  induction n using Nat.strongRecOn with
  | _ n ih =>
    rcases Nat.eq_zero_or_pos n with h | h
    · subst h; rfl
    · rw [dig_pos hb h]
      show n % b + b * val b (dig b (n / b)) = n
      rw [ih _ (Nat.div_lt_self h (by omega))]
      exact Nat.mod_add_div n b
theorem dig_lt {b : Nat} (hb : 2 ≤ b) (n : Nat) : ∀ x, x ∈ dig b n → x < b := by
  induction n using Nat.strongRecOn with
  | _ n ih =>
    rcases Nat.eq_zero_or_pos n with h | h
    · subst h; intro x hx; cases hx
    · rw [dig_pos hb h]
      intro x hx
      rcases List.mem_cons.1 hx with rfl | hx
      · exact Nat.mod_lt _ (by omega)
      · exact ih _ (Nat.div_lt_self h (by omega)) x hx
theorem dig_nil {b n : Nat} (hb : 2 ≤ b) : dig b n = [] ↔ n = 0 := by
  constructor
  · intro h
    rcases Nat.eq_zero_or_pos n with q | q
    · exact q
    · rw [dig_pos hb q] at h; cases h
  · rintro rfl; rfl
theorem dig_getD {b : Nat} (hb : 2 ≤ b) (i : Nat) : ∀ n, (dig b n).getD i 0 = n / b ^ i % b := by
  induction i with
  | zero =>
    intro n
    rcases Nat.eq_zero_or_pos n with h | h
    · subst h; simp [dig_zero]
    · rw [dig_pos hb h]; simp
  | succ i ih =>
    intro n
    rcases Nat.eq_zero_or_pos n with h | h
    · subst h; simp [dig_zero]
    · rw [dig_pos hb h]
      show (dig b (n / b)).getD i 0 = _
      rw [ih, Nat.div_div_eq_div_mul, Nat.pow_succ, Nat.mul_comm b]
theorem dig_len_le {b : Nat} (hb : 2 ≤ b) (k : Nat) : ∀ n, (dig b n).length ≤ k ↔ n < b ^ k := by
  induction k with
  | zero =>
    intro n
    rw [Nat.le_zero, List.length_eq_zero_iff, dig_nil hb, Nat.pow_zero]
    omega
  | succ k ih =>
    intro n
    rcases Nat.eq_zero_or_pos n with h | h
    · subst h; simp [dig_zero]; exact Nat.pow_pos (by omega)
    · rw [dig_pos hb h, List.length_cons, Nat.succ_le_succ_iff, ih, Nat.pow_succ, Nat.div_lt_iff_lt_mul (by omega)]
theorem dig_mono {b : Nat} (hb : 2 ≤ b) {m n : Nat} (h : m ≤ n) : (dig b m).length ≤ (dig b n).length :=
  (dig_len_le hb _ m).2 (Nat.lt_of_le_of_lt h ((dig_len_le hb _ n).1 (Nat.le_refl _)))
/-- The first L digits, and those of what is left. -/
theorem dig_split {b : Nat} (hb : 2 ≤ b) (L : Nat) : ∀ n, L ≤ (dig b n).length → dig b n = (dig b n).take L ++ dig b (n / b ^ L) := by
  induction L with
  | zero => intro n _; simp
  | succ L ih =>
    intro n h
    rcases Nat.eq_zero_or_pos n with q | q
    · subst q; simp [dig_zero] at h
    · have e := dig_pos hb q
      rw [e] at h ⊢
      have h2 := ih (n / b) (by simpa using h)
      rw [List.take_succ_cons, List.cons_append, Nat.pow_succ, Nat.mul_comm, ← Nat.div_div_eq_div_mul]
      rw [← h2]
/-- Digits that end with no nought are those of the number that they say. -/
theorem dig_val {b : Nat} (hb : 2 ≤ b) : ∀ l : List Nat, (∀ x, x ∈ l → x < b) → (∀ h : l ≠ [], l.getLast h ≠ 0) → dig b (val b l) = l
  | [], _, _ => rfl
  | x :: xs, hx, hl => by
    have hx0 := hx x List.mem_cons_self
    have ih := dig_val hb xs (fun y hy => hx y (List.mem_cons_of_mem _ hy)) (fun h => by have := hl (by simp); rwa [List.getLast_cons h] at this)
    have hv : val b (x :: xs) = x + b * val b xs := rfl
    have hpos : 0 < val b (x :: xs) := by
      rw [hv]
      cases xs with
      | nil =>
        have := hl (by simp)
        simp at this
        omega
      | cons y ys =>
        have h2 : 0 < val b (y :: ys) := by
          rcases Nat.eq_zero_or_pos (val b (y :: ys)) with q | q
          · rw [q] at ih; cases ih
          · exact q
        have := Nat.mul_pos (show 0 < b by omega) h2
        omega
    rw [dig_pos hb hpos, hv, Nat.add_mul_mod_self_left, Nat.mod_eq_of_lt hx0, Nat.add_mul_div_left _ _ (by omega), Nat.div_eq_of_lt hx0, Nat.zero_add, ih]
theorem snoc_ind {p : List Nat → Prop} (h0 : p []) (h1 : ∀ l x, p l → p (l ++ [x])) (l : List Nat) : p l := by
  have key : ∀ r : List Nat, p r.reverse := fun r => by
    induction r with
    | nil => exact h0
    | cons x xs ih => rw [List.reverse_cons]; exact h1 _ _ ih
  have := key l.reverse
  rwa [List.reverse_reverse] at this
/-- The number that places say, the highest first. -/
def acc (b : Nat) (ps : List Nat) : Nat := ps.foldl (fun v p => v * b + p) 0
theorem acc_snoc (b : Nat) (ps : List Nat) (p : Nat) : acc b (ps ++ [p]) = acc b ps * b + p := by unfold acc; rw [List.foldl_append]; rfl
theorem acc_val (b : Nat) (ps : List Nat) : acc b ps = val b ps.reverse := by
  refine snoc_ind (p := fun ps => acc b ps = val b ps.reverse) rfl (fun ps p ih => ?_) ps
  rw [acc_snoc, List.reverse_append]
  show _ = p + b * val b ps.reverse
  rw [← ih, Nat.mul_comm]; omega
/-- How many noughts stand ahead. -/
def lz : List Nat → Nat
  | [] => 0
  | x :: xs => if x = 0 then lz xs + 1 else 0
theorem lz_le : ∀ l : List Nat, lz l ≤ l.length
  | [] => Nat.le_refl _
  | x :: xs => by
    unfold lz
    have := lz_le xs
    split <;> simp <;> omega
theorem lz_get {l : List Nat} {i : Nat} (h : i < lz l) : l.getD i 0 = 0 := by
  induction l generalizing i with
  | nil => rfl
  | cons x xs ih =>
    unfold lz at h
    split at h
    · rename_i hx
      cases i with
      | zero => simpa using hx
      | succ i => simpa using ih (by omega)
    · omega
theorem lz_end {l : List Nat} (h : lz l < l.length) : l.getD (lz l) 0 ≠ 0 := by
  induction l with
  | nil => cases h
  | cons x xs ih =>
    unfold lz at h ⊢
    split
    · rename_i hx
      rw [if_pos hx] at h
      simp only [List.length_cons] at h
      simpa using ih (by omega)
    · simpa using (by assumption : ¬ x = 0)
theorem lz_split (l : List Nat) : l = List.replicate (lz l) 0 ++ l.drop (lz l) := by
  induction l with
  | nil => rfl
  | cons x xs ih =>
    unfold lz
    split
    · rename_i hx
      subst hx
      rw [List.replicate_succ, List.drop_succ_cons, List.cons_append, ← ih]
    · rfl
theorem acc_zeros (b k : Nat) (l : List Nat) : acc b (List.replicate k 0 ++ l) = acc b l := by
  unfold acc
  rw [List.foldl_append]
  congr 1
  induction k with
  | zero => rfl
  | succ k ih => rw [List.replicate_succ, List.foldl_cons]; simpa using ih
/-- A number in places of another base: without noughts ahead, but for as many as stand there already. -/
def reb (b c : Nat) (ps : List Nat) : List Nat := List.replicate (lz ps) 0 ++ (dig c (acc b ps)).reverse
theorem reb_lt {b c : Nat} (hc : 2 ≤ c) (ps : List Nat) : ∀ x, x ∈ reb b c ps → x < c := fun x hx => by
  unfold reb at hx
  rcases List.mem_append.1 hx with hx | hx
  · have := (List.mem_replicate.1 hx).2; omega
  · exact dig_lt hc _ x (List.mem_reverse.1 hx)
theorem lz_rep {k : Nat} {l : List Nat} (h : ∀ hl : l ≠ [], l.head hl ≠ 0) : lz (List.replicate k 0 ++ l) = k := by
  induction k with
  | zero =>
    cases l with
    | nil => rfl
    | cons x xs =>
      have := h (by simp)
      simp at this
      show lz (x :: xs) = 0
      unfold lz
      rw [if_neg this]
  | succ k ih =>
    rw [List.replicate_succ, List.cons_append]
    unfold lz
    rw [if_pos rfl, ih]
theorem dig_last {b : Nat} (hb : 2 ≤ b) (n : Nat) : ∀ h : dig b n ≠ [], (dig b n).getLast h ≠ 0 := by
  induction n using Nat.strongRecOn with
  | _ n ih =>
    intro h
    rcases Nat.eq_zero_or_pos n with q | q
    · subst q; exact absurd (dig_zero b) h
    · by_cases hz : n / b = 0
      · have e : dig b n = [n % b] := by rw [dig_pos hb q, hz, dig_zero]
        simp only [e, List.getLast_singleton]
        have := Nat.mod_add_div n b
        rw [hz] at this
        omega
      · have hne : dig b (n / b) ≠ [] := fun e => hz ((dig_nil hb).1 e)
        have := ih (n / b) (Nat.div_lt_self q (by omega)) hne
        have e : dig b n = n % b :: dig b (n / b) := dig_pos hb q
        simp only [e, List.getLast_cons hne]
        exact this
theorem rev_head {b : Nat} (hb : 2 ≤ b) (n : Nat) : ∀ hl : (dig b n).reverse ≠ [], (dig b n).reverse.head hl ≠ 0 := fun hl => by
  have hne : dig b n ≠ [] := fun e => hl (by rw [e]; rfl)
  rw [List.head_reverse]
  exact dig_last hb n hne
/-- There and back. -/
theorem reb_back {b c : Nat} (hb : 2 ≤ b) (hc : 2 ≤ c) {ps : List Nat} (hp : ∀ x, x ∈ ps → x < b) : reb c b (reb b c ps) = ps := by
  have h1 : lz (reb b c ps) = lz ps := lz_rep (rev_head hc _)
  have h2 : acc c (reb b c ps) = acc b ps := by
    unfold reb
    rw [acc_zeros, acc_val, List.reverse_reverse, val_dig hc]
  show List.replicate (lz (reb b c ps)) 0 ++ (dig b (acc c (reb b c ps))).reverse = ps
  rw [h1, h2]
  conv => rhs; rw [lz_split ps]
  congr 1
  have h3 : acc b ps = val b (ps.drop (lz ps)).reverse := by
    conv => lhs; rw [lz_split ps]
    rw [acc_zeros, acc_val]
  rw [h3, dig_val hb _ (fun x hx => hp x (List.mem_of_mem_drop (List.mem_reverse.1 hx))), List.reverse_reverse]
  intro h
  rw [List.getLast_reverse]
  have hd : lz ps < ps.length := by
    rcases Nat.lt_or_ge (lz ps) ps.length with q | q
    · exact q
    · exact absurd (by rw [List.drop_eq_nil_of_le q]; rfl) h
  have e := lz_end hd
  rw [List.head_drop]
  rw [List.getD_eq_getElem?_getD, List.getElem?_eq_getElem hd] at e
  simpa using e
theorem acc_lt {b : Nat} (hb : 0 < b) : ∀ ps : List Nat, (∀ x, x ∈ ps → x < b) → acc b ps < b ^ ps.length := by
  refine snoc_ind (p := fun ps => (∀ x, x ∈ ps → x < b) → acc b ps < b ^ ps.length) (fun _ => by simp [acc]) ?_
  · intro ps p ih h
    have h1 := ih fun x hx => h x (List.mem_append_left _ hx)
    have h2 := h p (by simp)
    rw [acc_snoc, List.length_append, List.length_singleton, Nat.pow_succ]
    calc acc b ps * b + p < acc b ps * b + b := by omega
      _ = (acc b ps + 1) * b := by rw [Nat.add_mul, Nat.one_mul]
      _ ≤ b ^ ps.length * b := Nat.mul_le_mul_right b h1
/-- The carry of a step. -/
theorem step_div {c b V p L : Nat} (hc : 0 < c) {m x : Nat} (hm : (V * b + p) / c ^ L = m + b * (V / c ^ L)) (hx : x = V / c ^ L % c) : (V * b + p) / c ^ (L + 1) = (m + x * b) / c + b * (V / c ^ (L + 1)) ∧ (V * b + p) / c ^ L % c = (m + x * b) % c := by
  have e : V / c ^ L = x + c * (V / c ^ (L + 1)) := by
    rw [hx, Nat.pow_succ, ← Nat.div_div_eq_div_mul]
    exact (Nat.mod_add_div _ _).symm
  have e2 : (V * b + p) / c ^ L = (m + x * b) + c * (b * (V / c ^ (L + 1))) := by
    rw [hm, e, Nat.mul_add, Nat.mul_comm b x]
    have : b * (c * (V / c ^ (L + 1))) = c * (b * (V / c ^ (L + 1))) := by rw [← Nat.mul_assoc, Nat.mul_comm b c, Nat.mul_assoc]
    omega
  constructor
  · rw [Nat.pow_succ, ← Nat.div_div_eq_div_mul, e2, Nat.add_mul_div_left _ _ hc, Nat.pow_succ]
  · rw [e2, Nat.add_mul_mod_self_left]
theorem carry_lt {c b m x : Nat} (hm : m < b) (hx : x < c) : (m + x * b) / c < b := by
  have h : m + x * b < b * c := by
    calc m + x * b < b + x * b := by omega
      _ = (x + 1) * b := by rw [Nat.add_mul, Nat.one_mul, Nat.add_comm]
      _ ≤ c * b := Nat.mul_le_mul_right b hx
      _ = b * c := Nat.mul_comm _ _
  exact (Nat.div_lt_iff_lt_mul (by omega)).2 h
end Go.Proofs.YtghjgkgfpblijaaDoor
end
section
set_option linter.unusedSimpArgs false
set_option linter.unusedVariables false
set_option maxRecDepth 100000
namespace Go.Proofs.YtghjgkgfpblijaaDoor
open Go.RowKit Go.Lib Go.Sort

section
variable {ops : Array Oper} {rest : List Oper} {Q : Exit → Act → World → Prop} {op : Oper} {a : Act} {w : World}
/-- A slice of one byte. -/
theorem wpList_b1 (hw : Region.wanted op (yielded ops a.tmps) = true) (parts : Array (Nat × Operand)) (ho : op.op = .buildSlice 22 1 parts) (y0 : Value) {v : Nat} (hp : (parts.map fun (i, y) => (i, a.eval y)) = #[(0, y0)]) (he : y0 = .int .u8 (v : Int)) (hv : v < 256)
    (k : ∀ b w', Hid (Row w' (some ⟨b, 0, none⟩) b 0 1 1 (fun _ => v)) → Hid (Below w.heap.size w w') → wpList Tryd.prog ops Q rest (a.put op.dst (.slice (some ⟨b, 0, none⟩) 1 1)) w') : wpList Tryd.prog ops Q (op :: rest) a w := by
  subst he
  refine wpList_known4 hw (.slice (some ⟨w.heap.size, 0, none⟩) 1 1) (w.alloc (.cells (fbs (fun _ => v) 1).toArray 5)) ?_ (k _ _ (Lib.hid (own_new w (fun _ => v) 1 (by unfold maxLen; omega) fun _ => hv).row) (Lib.hid (below_new w _)))
  unfold execOp
  have h := run_bs1v Tryd.underlying22 infoB (.int .u8 (v : Int)) rfl w
  simp only [ho, hp, Sem.run_bind, h, Result.andThen_ok]
  rfl
end
theorem dig_bound {b c : Nat} (hb : 0 < b) (hc : 2 ≤ c) (hbc : b ≤ c ^ 8) {ps : List Nat} (h : ∀ x, x ∈ ps → x < b) : (dig c (acc b ps)).length ≤ 8 * ps.length := by
  refine (dig_len_le hc _ _).2 (Nat.lt_of_lt_of_le (acc_lt hb ps h) ?_)
  rw [Nat.pow_mul]
  exact Nat.pow_le_pow_left hbc _
theorem tl_succ (x : Nat → Nat) (j : Nat) : tl x (j + 1) = tl x j ++ [x j] := by unfold tl; rw [List.range_succ, List.map_append]; rfl
theorem tl_mem {x : Nat → Nat} {n b : Nat} (h : ∀ i, i < n → x i < b) : ∀ y, y ∈ tl x n → y < b := fun y hy => by
  obtain ⟨i, hi, rfl⟩ := List.mem_map.1 hy
  exact h i (by simpa using hi)
/-- The first L digits. -/
theorem dig_take {c n L : Nat} (hc : 2 ≤ c) (h : L ≤ (dig c n).length) : (dig c n).take L = tl (fun i => n / c ^ i % c) L := by
  apply lf_inj
  · rw [List.length_take, tl_length]; omega
  · intro i hi
    rw [List.length_take] at hi
    rw [lf_tl _ (by omega)]
    unfold lf
    rw [List.getD_eq_getElem?_getD, List.getElem?_take_of_lt (by omega), ← List.getD_eq_getElem?_getD, dig_getD hc]
/-- The digits behind a place: the first ones are turned in place, the others come of the carry. -/
theorem dig_more {c b V p : Nat} (hc : 2 ≤ c) (hb : 1 ≤ b) : tl (fun i => (V * b + p) / c ^ i % c) (dig c V).length ++ dig c ((V * b + p) / c ^ (dig c V).length) = dig c (V * b + p) := by
  have hV : V ≤ V * b + p := Nat.le_trans (Nat.le_mul_of_pos_right V (by omega)) (Nat.le_add_right _ _)
  have hL := dig_mono hc hV
  rw [← dig_take hc hL]
  exact (dig_split hc _ _ hL).symm
theorem dig_out {c V : Nat} (hc : 2 ≤ c) : V / c ^ (dig c V).length = 0 := Nat.div_eq_of_lt ((dig_len_le hc _ V).1 (Nat.le_refl _))
theorem lf_rev (l : List Nat) {i : Nat} (h : i < l.length) : lf l (l.length - 1 - i) = lf l.reverse i := by
  rw [lf_get (by omega), lf_get (by rw [List.length_reverse]; exact h), List.getElem_reverse]
theorem lz_is {x : Nat → Nat} {n q : Nat} (hq : q ≤ n) (h : ∀ i, i < q → x i = 0) (he : q = n ∨ x q ≠ 0) : lz (tl x n) = q := by
  rcases Nat.lt_trichotomy (lz (tl x n)) q with h1 | h1 | h1
  · have h2 := lz_end (l := tl x n) (by rw [tl_length]; omega)
    exact absurd ((lf_tl x (by omega)).trans (h _ h1)) h2
  · exact h1
  · rcases he with rfl | he
    · have := lz_le (tl x q); rw [tl_length] at this; omega
    · have h2 := lz_get h1
      have h3 : lf (tl x n) q = x q := lf_tl x (by have := lz_le (tl x n); rw [tl_length] at this; omega)
      exact absurd (h3.symm.trans h2) he
set_option maxHeartbeats 16000000 in
theorem rebase_to {w : World} {p : Option Addr} {g o n cc : Nat} {x : Nat → Nat} (R : Hid (Row w p g o n cc x)) (hn : n ≤ 1000000) (hx : Hid (∀ i, i < n → x i < 256)) : Calls Tryd.prog 47 #[.slice p n cc, .int .i64 256, .int .i64 58] w (GetsL w (reb 256 58 (tl x n))) := by
  go_enter Tryd.func47, Tryd.ntmps47
  go_wp2
  have N0 := Lib.hid (own_nothing w w.heap.size (lf []) (lf_lt isB_nil) (Nat.le_refl _))
  have B0 := Lib.hid (Below.refl w.heap.size w)
  go_loopg [7, 17] n (fun k s i wr => ∃ (j m c1 g1 : Nat) (p1 : Option Addr) (ds : List Nat), j + k = n ∧ i = .int .i64 (j : Int) ∧ s = .slice p1 m c1 ∧ Hid (m = ds.length ∧ ds = dig 58 (acc 256 (tl x j))) ∧ Hid (Own w.heap.size wr p1 g1 m c1 (lf ds)) ∧ Hid (Below w.heap.size w wr))
  case atStart => exact ⟨0, 0, 0, 0, none, [], by omega, rfl, rfl, Lib.hid ⟨rfl, rfl⟩, N0, B0⟩
  case round =>
    clear N0 B0
    obtain ⟨j, m, c1, g1, p1, ds, hj, rfl, rfl, D, N, BB⟩ := hrel
    obtain ⟨kk, rfl⟩ : ∃ kk : Nat, kk = gk := ⟨_, rfl⟩
    obtain ⟨wo, rfl⟩ : ∃ wo : World, wo = wr := ⟨_, rfl⟩
    have mb : m ≤ 8 * j := by
      rw [D.out.1, D.out.2]
      have := dig_bound (b := 256) (c := 58) (by omega) (by omega) (by decide) (tl_mem (n := j) fun i hi => hx.out i (by omega))
      rwa [tl_length] at this
    by_cases hlt : j < n
    · obtain rfl := R.out.head (by omega)
      have HLT := Lib.hid hlt
      have xb := hx.out j hlt
      obtain ⟨y, hy⟩ : ∃ y, y = x j := ⟨_, rfl⟩
      have CL := Lib.hid (show wo.cell? ⟨g, o + j, none⟩ = some (.int .u8 (y : Int)) by rw [hy]; exact (R.out.below BB.out).cell j hlt)
      obtain ⟨V, hV⟩ : ∃ V, V = acc 256 (tl x j) := ⟨_, rfl⟩
      rw [← hV] at D
      rw [← hy] at xb
      have HN := Lib.hid (show acc 256 (tl x (j + 1)) = V * 256 + y by rw [tl_succ, acc_snoc, ← hV, ← hy])
      have MO := Lib.hid (show tl (fun i => (V * 256 + y) / 58 ^ i % 58) m ++ dig 58 ((V * 256 + y) / 58 ^ m) = dig 58 (V * 256 + y) by rw [D.out.1, D.out.2]; exact dig_more (by omega) (by omega))
      have ZE := Lib.hid (show V / 58 ^ m = 0 by rw [D.out.1, D.out.2]; exact dig_out (by omega))
      have DG := Lib.hid (show ∀ q, lf ds q = V / 58 ^ q % 58 from fun q => by rw [D.out.2]; exact dig_getD (by omega) q V)
      have LB := Lib.hid (show (dig 58 (V * 256 + y)).length ≤ 8 * (j + 1) by
        rw [← HN.out]
        have := dig_bound (b := 256) (c := 58) (by omega) (by omega) (by decide) (tl_mem (n := j + 1) fun i hi => hx.out i (by omega))
        rwa [tl_length] at this)
      have S0 := Lib.hid (show y < 256 ∧ (V * 256 + y) / 58 ^ 0 = y + 256 * (V / 58 ^ 0) from ⟨xb, by rw [Nat.pow_zero, Nat.div_one, Nat.div_one, Nat.mul_comm]; omega⟩)
      have N1 := Lib.hid (N.out.to (y := fun i => if i < 0 then (V * 256 + y) / 58 ^ i % 58 else lf ds i) (fun i _ => by rw [if_neg (by omega)]) (fun i => by split; exact absurd (by assumption) (by omega); exact N.out.byte i))
      clear hy hV N D
      go_wp2_with (first
        | ((with_reducible refine wpList_at 19 rfl ?_); refine wpList_ix (k := 1) (j := j) Tryd.underlying22 (by kernel_rfl) (.tmp 15) (.tmp 17) rfl rfl rfl rfl HLT.out rfl ?_; rw [Nat.mul_one]; try simp only [Act.put, List.setIfInBounds_toArray, List.set_cons_zero, List.set_cons_succ])
        | ((with_reducible refine wpList_at 20 rfl ?_); refine wpList_ld1 5 (.tmp 19) rfl rfl rfl Tryd.underlying5 rfl CL.out ?_; try simp only [Act.put, List.setIfInBounds_toArray, List.set_cons_zero, List.set_cons_succ]))
      go_loopg [10, 25] m (fun k s i wr => ∃ q r : Nat, q + k = m ∧ i = .int .i64 (q : Int) ∧ s = .int .i64 (r : Int) ∧ Hid (r < 256 ∧ (V * 256 + y) / 58 ^ q = r + 256 * (V / 58 ^ q)) ∧ Hid (Own w.heap.size wr p1 g1 m c1 (fun i => if i < q then (V * 256 + y) / 58 ^ i % 58 else lf ds i)) ∧ Hid (Below w.heap.size w wr))
      case atStart => exact ⟨0, y, by omega, rfl, rfl, S0, N1, BB⟩
      case round =>
        clear S0 N1 BB
        obtain ⟨q, r, hq, rfl, rfl, S, N, BB⟩ := hrel
        obtain ⟨k2, rfl⟩ : ∃ kk : Nat, kk = gk := ⟨_, rfl⟩
        have rb := S.out.1
        by_cases hlq : q < m
        · have HLQ := Lib.hid hlq
          obtain rfl := N.out.row.head (by omega)
          obtain ⟨z, hz⟩ : ∃ z, z = V / 58 ^ q % 58 := ⟨_, rfl⟩
          have zb : z < 58 := by rw [hz]; exact Nat.mod_lt _ (by omega)
          have C2 := Lib.hid (show wr.cell? ⟨g1, q, none⟩ = some (.int .u8 (z : Int)) by have := N.out.row.cell q hlq; rwa [if_neg (by omega), DG.out, ← hz, Nat.zero_add] at this)
          have ST := Lib.hid (step_div (c := 58) (L := q) (by omega) S.out.2 hz)
          have CB := Lib.hid (carry_lt (c := 58) (b := 256) rb zb)
          clear hz S
          go_wp2_with (first
            | ((with_reducible refine wpList_at 28 rfl ?_); refine wpList_ix (k := 1) (j := q) Tryd.underlying22 (by kernel_rfl) (.tmp 23) (.tmp 25) rfl rfl rfl rfl HLQ.out rfl ?_; rw [Nat.mul_one, Nat.zero_add]; try simp only [Act.put, List.setIfInBounds_toArray, List.set_cons_zero, List.set_cons_succ])
            | ((with_reducible refine wpList_at 29 rfl ?_); refine wpList_ld1 5 (.tmp 28) rfl rfl rfl Tryd.underlying5 rfl C2.out ?_; try simp only [Act.put, List.setIfInBounds_toArray, List.set_cons_zero, List.set_cons_succ])
            | ((with_reducible refine wpList_at 42 rfl ?_); refine wpList_ix (k := 1) (j := q) Tryd.underlying22 (by kernel_rfl) (.tmp 36) (.tmp 37) rfl rfl rfl rfl HLQ.out rfl ?_; rw [Nat.mul_one, Nat.zero_add]; try simp only [Act.put, List.setIfInBounds_toArray, List.set_cons_zero, List.set_cons_succ])
            | ((refine wpList_atn rfl ?_); refine wpList_bput0 rfl (.tmp 42) (.tmp 41) rfl N rfl (v := (r + z * 256) % 58) (congrArg (Value.int .u8) (show ((r : Int) + (z : Int) * 256) % 58 = (((r + z * 256) % 58 : Nat) : Int) by omega)) HLQ.out (by omega) ?_; clear N; intro w8 N hb8; replace BB := Lib.hid (BB.out.trans hb8.out)))
          have N2 := Lib.hid (N.out.to (y := fun i => if i < q + 1 then (V * 256 + y) / 58 ^ i % 58 else lf ds i) (fun i _ => by
            rcases Nat.lt_trichotomy i q with h | h | h
            · rw [if_neg (by omega), if_pos h, if_pos (by omega)]
            · subst h; rw [if_pos rfl, if_pos (by omega)]; exact ST.out.2.symm
            · rw [if_neg (by omega), if_neg (by omega), if_neg (by omega)]) (fun i => by
            split
            · have := Nat.mod_lt ((V * 256 + y) / 58 ^ i) (show 0 < 58 by omega); omega
            · rw [DG.out]; have := Nat.mod_lt (V / 58 ^ i) (show 0 < 58 by omega); omega))
          go_roundg (m - (q + 1))
          case measure => omega
          case rel => exact ⟨q + 1, (r + z * 256) / 58, by omega, by go_num, congrArg (Value.int .i64) (by omega), Lib.hid ⟨CB.out, ST.out.1⟩, N2, BB⟩
        · obtain rfl : q = m := by omega
          have RM := Lib.hid (show r = (V * 256 + y) / 58 ^ q by rw [S.out.2, ZE.out]; omega)
          have N3 := Lib.hid (N.out.to (y := lf (tl (fun i => (V * 256 + y) / 58 ^ i % 58) q)) (fun i hi => by rw [if_pos hi, lf_tl _ hi]) (lf_lt fun v hv => by
            obtain ⟨i, _, rfl⟩ := List.mem_map.1 hv
            have := Nat.mod_lt ((V * 256 + y) / 58 ^ i) (show 0 < 58 by omega); omega))
          have M3 := Lib.hid (show tl (fun i => (V * 256 + y) / 58 ^ i % 58) q ++ dig 58 r = dig 58 (V * 256 + y) by rw [RM.out]; exact MO.out)
          have L3 := Lib.hid (show q = (tl (fun i => (V * 256 + y) / 58 ^ i % 58) q).length from (tl_length _ _).symm)
          clear N S RM MO ZE DG
          go_wp2
          go_loopg [7, 10] r (fun k s i wr => ∃ (r q c1 g1 : Nat) (p1 : Option Addr) (es : List Nat), r ≤ k ∧ r < 256 ∧ i = .int .i64 (r : Int) ∧ s = .slice p1 q c1 ∧ Hid (q = es.length ∧ es ++ dig 58 r = dig 58 (V * 256 + y)) ∧ Hid (Own w.heap.size wr p1 g1 q c1 (lf es)) ∧ Hid (Below w.heap.size w wr))
          case atStart => exact ⟨r, q, c1, g1, p1, _, Nat.le_refl _, rb, rfl, rfl, Lib.hid ⟨L3.out, M3.out⟩, N3, BB⟩
          case round =>
            clear N3 BB M3 L3
            obtain ⟨r, q, c1, g1, p1, es, hrk, rb, rfl, rfl, M, N, BB⟩ := hrel
            obtain ⟨k3, rfl⟩ : ∃ kk : Nat, kk = gk := ⟨_, rfl⟩
            have qb : q ≤ 8 * (j + 1) := by
              have h1 := congrArg List.length M.out.2
              rw [List.length_append] at h1
              have := LB.out
              have := M.out.1
              omega
            by_cases hr : 0 < r
            · have HR := Lib.hid (dig_pos (b := 58) (by omega) hr)
              go_wp2_with (first
                | ((with_reducible refine wpList_at 57 rfl ?_); refine wpList_b1 rfl _ rfl (.int .u8 ((r : Int) % 58)) (v := r % 58) (by kernel_rfl) (congrArg (Value.int .u8) (show ((r : Int)) % 58 = ((r % 58 : Nat) : Int) by omega)) (by omega) ?_; intro b7 w7 R7 hb7; replace N := Lib.hid (N.out.below hb7.out); replace BB := Lib.hid (BB.out.trans (hb7.out.mono BB.out.size)); clear hb7; try simp only [Act.put, List.setIfInBounds_toArray, List.set_cons_zero, List.set_cons_succ])
                | ((with_reducible refine wpList_at 58 rfl ?_); refine wpList_app (.inl rfl) (.tmp 52) (.tmp 57) rfl rfl N rfl R7 (by omega) ?_; clear N R7; intro p8 g8 c8 w8 N hb8; replace BB := Lib.hid (BB.out.trans hb8.out); clear hb8; try simp only [Act.put, List.setIfInBounds_toArray, List.set_cons_zero, List.set_cons_succ]))
              have N2 := Lib.hid (N.out.to (y := lf (es ++ [r % 58])) (fun i hi => by
                rw [← lf_cat, ← M.out.1]
                unfold cat
                by_cases h : i < q
                · rw [if_pos h, if_pos h]
                · rw [if_neg h, if_neg h, show i - q = 0 by omega]; rfl) (fun i => by
                rw [← lf_cat]
                exact cat_byte _ (lf_lt fun v hv => by
                  have := dig_lt (b := 58) (by omega) (V * 256 + y) v (by rw [← M.out.2]; exact List.mem_append_left _ hv)
                  omega) (lf_lt fun v hv => by simp at hv; omega) i))
              have M2 := Lib.hid (show q + 1 = (es ++ [r % 58]).length ∧ (es ++ [r % 58]) ++ dig 58 (r / 58) = dig 58 (V * 256 + y) from ⟨by rw [List.length_append, ← M.out.1]; rfl, by rw [List.append_assoc, ← M.out.2, HR.out]; rfl⟩)
              clear N M HR
              go_roundg (r / 58)
              case measure => omega
              case rel => exact ⟨r / 58, q + 1, c8, g8, p8, _, Nat.le_refl _, by omega, congrArg (Value.int .i64) (by omega), rfl, M2, N2, BB⟩
            · obtain rfl : r = 0 := by omega
              have DD := Lib.hid (show q = es.length ∧ es = dig 58 (acc 256 (tl x (j + 1))) from ⟨M.out.1, by rw [HN.out, ← M.out.2, dig_zero, List.append_nil]⟩)
              clear M
              go_wp2
              go_roundg (n - (j + 1))
              case measure => omega
              case rel => exact ⟨j + 1, q, c1, g1, p1, es, by omega, by go_num, rfl, DD, N, BB⟩
    · obtain rfl : j = n := by omega
      have Z0 := Lib.hid (show m = ds.length ∧ ds = ds ++ List.replicate 0 0 ∧ ∀ i, i < 0 → x i = 0 from ⟨D.out.1, by simp, fun i h => absurd h (by omega)⟩)
      obtain ⟨m0, hm0⟩ : ∃ m0, m0 = m := ⟨_, rfl⟩
      rw [← hm0] at D mb
      clear hm0
      go_wp2
      go_loopg [7, 62] j (fun k s i wr => ∃ (q m c1 g1 : Nat) (p1 : Option Addr) (es : List Nat), q + k = j ∧ i = .int .i64 (q : Int) ∧ s = .slice p1 m c1 ∧ Hid (m = es.length ∧ es = ds ++ List.replicate q 0 ∧ ∀ i, i < q → x i = 0) ∧ Hid (Own w.heap.size wr p1 g1 m c1 (lf es)) ∧ Hid (Below w.heap.size w wr))
      case atStart => exact ⟨0, m, c1, g1, p1, ds, by omega, rfl, rfl, Z0, N, BB⟩
      case round =>
        clear Z0 N BB
        obtain ⟨q, m, c1, g1, p1, es, hq, rfl, rfl, Z, N, BB⟩ := hrel
        obtain ⟨k4, rfl⟩ : ∃ kk : Nat, kk = gk := ⟨_, rfl⟩
        by_cases hlq : q < j
        · obtain rfl := R.out.head (by omega)
          have HLQ := Lib.hid hlq
          have mq : m ≤ 9 * j := by rw [Z.out.1, Z.out.2.1, List.length_append, List.length_replicate, ← D.out.1]; omega
          obtain ⟨y, hy⟩ : ∃ y, y = x q := ⟨_, rfl⟩
          have CL := Lib.hid (show wr.cell? ⟨g, o + q, none⟩ = some (.int .u8 (y : Int)) by rw [hy]; exact (R.out.below BB.out).cell q hlq)
          by_cases hy0 : y = 0
          · subst hy0
            go_wp2_with (first
              | ((with_reducible refine wpList_at 64 rfl ?_); refine wpList_ix (k := 1) (j := q) Tryd.underlying22 (by kernel_rfl) (.tmp 60) (.tmp 62) rfl rfl rfl rfl HLQ.out rfl ?_; rw [Nat.mul_one]; try simp only [Act.put, List.setIfInBounds_toArray, List.set_cons_zero, List.set_cons_succ])
              | ((with_reducible refine wpList_at 65 rfl ?_); refine wpList_ld1 5 (.tmp 64) rfl rfl rfl Tryd.underlying5 rfl CL.out ?_; try simp only [Act.put, List.setIfInBounds_toArray, List.set_cons_zero, List.set_cons_succ])
              | ((with_reducible refine wpList_at 69 rfl ?_); refine wpList_b1 rfl _ rfl (.int .u8 0) (v := 0) (by kernel_rfl) rfl (by omega) ?_; intro b7 w7 R7 hb7; replace N := Lib.hid (N.out.below hb7.out); have ZB := Lib.hid N.out.byte; replace BB := Lib.hid (BB.out.trans (hb7.out.mono BB.out.size)); clear hb7; try simp only [Act.put, List.setIfInBounds_toArray, List.set_cons_zero, List.set_cons_succ])
              | ((with_reducible refine wpList_at 70 rfl ?_); refine wpList_app (.inl rfl) (.tmp 68) (.tmp 69) rfl rfl N rfl R7 (by omega) ?_; clear N R7; intro p8 g8 c8 w8 N hb8; replace BB := Lib.hid (BB.out.trans hb8.out); clear hb8; try simp only [Act.put, List.setIfInBounds_toArray, List.set_cons_zero, List.set_cons_succ]))
            have N2 := Lib.hid (N.out.to (y := lf (es ++ [0])) (fun i hi => by
              rw [← lf_cat, ← Z.out.1]
              unfold cat
              by_cases h : i < m
              · rw [if_pos h, if_pos h]
              · rw [if_neg h, if_neg h, show i - m = 0 by omega]; rfl) (fun i => by
              rw [← lf_cat]
              exact cat_byte _ (fun i => by have := N.out.byte; exact ZB.out i) (lf_lt fun v hv => by simp at hv; omega) i))
            have Z2 := Lib.hid (show m + 1 = (es ++ [0]).length ∧ es ++ [0] = ds ++ List.replicate (q + 1) 0 ∧ ∀ i, i < q + 1 → x i = 0 from ⟨by rw [List.length_append, ← Z.out.1]; rfl, by rw [Z.out.2.1, List.append_assoc, ← List.replicate_succ'], fun i hi => by
              rcases Nat.lt_or_ge i q with h | h
              · exact Z.out.2.2 i h
              · obtain rfl : i = q := by omega
                exact hy.symm⟩)
            clear N Z hy
            go_roundg (j - (q + 1))
            case measure => omega
            case rel => exact ⟨q + 1, m + 1, c8, g8, p8, _, by omega, by go_num, rfl, Z2, N2, BB⟩
          · have FEC : q = j ∨ x q ≠ 0 := .inr (by rw [← hy]; exact hy0)
            have b1 : ((y : Int) == 0) = false := by simpa using (show ¬ ((y : Int) = 0) by omega)
            clear hy hy0 mq
            have FE := Lib.hid (show reb 256 58 (tl x j) = es.reverse by
              have e1 := lz_is (x := x) (n := j) (q := q) (by omega) Z.out.2.2 FEC
              unfold reb
              rw [e1, ← D.out.2, Z.out.2.1, List.reverse_append, List.reverse_replicate])
            have ML := Lib.hid Z.out.1
            have mq : m ≤ 9 * j := by rw [Z.out.1, Z.out.2.1, List.length_append, List.length_replicate, ← D.out.1]; omega
            clear Z D
            go_wp2_with (first
              | ((with_reducible refine wpList_at 64 rfl ?_); refine wpList_ix (k := 1) (j := q) Tryd.underlying22 (by kernel_rfl) (.tmp 60) (.tmp 62) rfl rfl rfl rfl HLQ.out rfl ?_; rw [Nat.mul_one]; try simp only [Act.put, List.setIfInBounds_toArray, List.set_cons_zero, List.set_cons_succ])
              | ((with_reducible refine wpList_at 65 rfl ?_); refine wpList_ld1 5 (.tmp 64) rfl rfl rfl Tryd.underlying5 rfl CL.out ?_; try simp only [Act.put, List.setIfInBounds_toArray, List.set_cons_zero, List.set_cons_succ])
              | (go_at_call 61; refine (rev_any N (by omega)).mono ?_; rintro e w9 ⟨rfl, N9, hb9⟩; have YtghjgkgfpblijaaDoor := Lib.hid N9; replace BB := Lib.hid (BB.out.trans hb9); clear N9 hb9))
            go_ret
            refine ⟨p1, g1, c1, ?_, ?_, BB.out⟩
            · rw [FE.out, List.length_reverse, ← ML.out]; rfl
            · rw [FE.out, List.length_reverse, ← ML.out]
              exact YtghjgkgfpblijaaDoor.out.to (fun i hi => by rw [ML.out] at hi ⊢; exact lf_rev es hi) (lf_lt fun v hv => isB_own (by rw [← ML.out]; exact N.out) v (List.mem_reverse.1 hv))
        · obtain rfl : q = j := by omega
          have FEC : q = q ∨ x q ≠ 0 := .inl rfl
          have FE := Lib.hid (show reb 256 58 (tl x q) = es.reverse by
            have e1 := lz_is (x := x) (n := q) (q := q) (by omega) Z.out.2.2 FEC
            unfold reb
            rw [e1, ← D.out.2, Z.out.2.1, List.reverse_append, List.reverse_replicate])
          have ML := Lib.hid Z.out.1
          have mq : m ≤ 9 * q := by rw [Z.out.1, Z.out.2.1, List.length_append, List.length_replicate, ← D.out.1]; omega
          clear Z D
          go_wp2_with (first
            | (go_at_call 61; refine (rev_any N (by omega)).mono ?_; rintro e w9 ⟨rfl, N9, hb9⟩; have YtghjgkgfpblijaaDoor := Lib.hid N9; replace BB := Lib.hid (BB.out.trans hb9); clear N9 hb9))
          go_ret
          refine ⟨p1, g1, c1, ?_, ?_, BB.out⟩
          · rw [FE.out, List.length_reverse, ← ML.out]; rfl
          · rw [FE.out, List.length_reverse, ← ML.out]
            exact YtghjgkgfpblijaaDoor.out.to (fun i hi => by rw [ML.out] at hi ⊢; exact lf_rev es hi) (lf_lt fun v hv => isB_own (by rw [← ML.out]; exact N.out) v (List.mem_reverse.1 hv))
set_option maxHeartbeats 16000000 in
theorem rebase_of {w : World} {p : Option Addr} {g o n cc : Nat} {x : Nat → Nat} (R : Hid (Row w p g o n cc x)) (hn : n ≤ 1000000) (hx : Hid (∀ i, i < n → x i < 58)) : Calls Tryd.prog 47 #[.slice p n cc, .int .i64 58, .int .i64 256] w (GetsL w (reb 58 256 (tl x n))) := by
  go_enter Tryd.func47, Tryd.ntmps47
  go_wp2
  have N0 := Lib.hid (own_nothing w w.heap.size (lf []) (lf_lt isB_nil) (Nat.le_refl _))
  have B0 := Lib.hid (Below.refl w.heap.size w)
  go_loopg [7, 17] n (fun k s i wr => ∃ (j m c1 g1 : Nat) (p1 : Option Addr) (ds : List Nat), j + k = n ∧ i = .int .i64 (j : Int) ∧ s = .slice p1 m c1 ∧ Hid (m = ds.length ∧ ds = dig 256 (acc 58 (tl x j))) ∧ Hid (Own w.heap.size wr p1 g1 m c1 (lf ds)) ∧ Hid (Below w.heap.size w wr))
  case atStart => exact ⟨0, 0, 0, 0, none, [], by omega, rfl, rfl, Lib.hid ⟨rfl, rfl⟩, N0, B0⟩
  case round =>
    clear N0 B0
    obtain ⟨j, m, c1, g1, p1, ds, hj, rfl, rfl, D, N, BB⟩ := hrel
    obtain ⟨kk, rfl⟩ : ∃ kk : Nat, kk = gk := ⟨_, rfl⟩
    obtain ⟨wo, rfl⟩ : ∃ wo : World, wo = wr := ⟨_, rfl⟩
    have mb : m ≤ 8 * j := by
      rw [D.out.1, D.out.2]
      have := dig_bound (b := 58) (c := 256) (by omega) (by omega) (by decide) (tl_mem (n := j) fun i hi => hx.out i (by omega))
      rwa [tl_length] at this
    by_cases hlt : j < n
    · obtain rfl := R.out.head (by omega)
      have HLT := Lib.hid hlt
      have xb := hx.out j hlt
      obtain ⟨y, hy⟩ : ∃ y, y = x j := ⟨_, rfl⟩
      have CL := Lib.hid (show wo.cell? ⟨g, o + j, none⟩ = some (.int .u8 (y : Int)) by rw [hy]; exact (R.out.below BB.out).cell j hlt)
      obtain ⟨V, hV⟩ : ∃ V, V = acc 58 (tl x j) := ⟨_, rfl⟩
      rw [← hV] at D
      rw [← hy] at xb
      have HN := Lib.hid (show acc 58 (tl x (j + 1)) = V * 58 + y by rw [tl_succ, acc_snoc, ← hV, ← hy])
      have MO := Lib.hid (show tl (fun i => (V * 58 + y) / 256 ^ i % 256) m ++ dig 256 ((V * 58 + y) / 256 ^ m) = dig 256 (V * 58 + y) by rw [D.out.1, D.out.2]; exact dig_more (by omega) (by omega))
      have ZE := Lib.hid (show V / 256 ^ m = 0 by rw [D.out.1, D.out.2]; exact dig_out (by omega))
      have DG := Lib.hid (show ∀ q, lf ds q = V / 256 ^ q % 256 from fun q => by rw [D.out.2]; exact dig_getD (by omega) q V)
      have LB := Lib.hid (show (dig 256 (V * 58 + y)).length ≤ 8 * (j + 1) by
        rw [← HN.out]
        have := dig_bound (b := 58) (c := 256) (by omega) (by omega) (by decide) (tl_mem (n := j + 1) fun i hi => hx.out i (by omega))
        rwa [tl_length] at this)
      have S0 := Lib.hid (show y < 58 ∧ (V * 58 + y) / 256 ^ 0 = y + 58 * (V / 256 ^ 0) from ⟨xb, by rw [Nat.pow_zero, Nat.div_one, Nat.div_one, Nat.mul_comm]; omega⟩)
      have N1 := Lib.hid (N.out.to (y := fun i => if i < 0 then (V * 58 + y) / 256 ^ i % 256 else lf ds i) (fun i _ => by rw [if_neg (by omega)]) (fun i => by split; exact absurd (by assumption) (by omega); exact N.out.byte i))
      clear hy hV N D
      go_wp2_with (first
        | ((with_reducible refine wpList_at 19 rfl ?_); refine wpList_ix (k := 1) (j := j) Tryd.underlying22 (by kernel_rfl) (.tmp 15) (.tmp 17) rfl rfl rfl rfl HLT.out rfl ?_; rw [Nat.mul_one]; try simp only [Act.put, List.setIfInBounds_toArray, List.set_cons_zero, List.set_cons_succ])
        | ((with_reducible refine wpList_at 20 rfl ?_); refine wpList_ld1 5 (.tmp 19) rfl rfl rfl Tryd.underlying5 rfl CL.out ?_; try simp only [Act.put, List.setIfInBounds_toArray, List.set_cons_zero, List.set_cons_succ]))
      go_loopg [10, 25] m (fun k s i wr => ∃ q r : Nat, q + k = m ∧ i = .int .i64 (q : Int) ∧ s = .int .i64 (r : Int) ∧ Hid (r < 58 ∧ (V * 58 + y) / 256 ^ q = r + 58 * (V / 256 ^ q)) ∧ Hid (Own w.heap.size wr p1 g1 m c1 (fun i => if i < q then (V * 58 + y) / 256 ^ i % 256 else lf ds i)) ∧ Hid (Below w.heap.size w wr))
      case atStart => exact ⟨0, y, by omega, rfl, rfl, S0, N1, BB⟩
      case round =>
        clear S0 N1 BB
        obtain ⟨q, r, hq, rfl, rfl, S, N, BB⟩ := hrel
        obtain ⟨k2, rfl⟩ : ∃ kk : Nat, kk = gk := ⟨_, rfl⟩
        have rb := S.out.1
        by_cases hlq : q < m
        · have HLQ := Lib.hid hlq
          obtain rfl := N.out.row.head (by omega)
          obtain ⟨z, hz⟩ : ∃ z, z = V / 256 ^ q % 256 := ⟨_, rfl⟩
          have zb : z < 256 := by rw [hz]; exact Nat.mod_lt _ (by omega)
          have C2 := Lib.hid (show wr.cell? ⟨g1, q, none⟩ = some (.int .u8 (z : Int)) by have := N.out.row.cell q hlq; rwa [if_neg (by omega), DG.out, ← hz, Nat.zero_add] at this)
          have ST := Lib.hid (step_div (c := 256) (L := q) (by omega) S.out.2 hz)
          have CB := Lib.hid (carry_lt (c := 256) (b := 58) rb zb)
          clear hz S
          go_wp2_with (first
            | ((with_reducible refine wpList_at 28 rfl ?_); refine wpList_ix (k := 1) (j := q) Tryd.underlying22 (by kernel_rfl) (.tmp 23) (.tmp 25) rfl rfl rfl rfl HLQ.out rfl ?_; rw [Nat.mul_one, Nat.zero_add]; try simp only [Act.put, List.setIfInBounds_toArray, List.set_cons_zero, List.set_cons_succ])
            | ((with_reducible refine wpList_at 29 rfl ?_); refine wpList_ld1 5 (.tmp 28) rfl rfl rfl Tryd.underlying5 rfl C2.out ?_; try simp only [Act.put, List.setIfInBounds_toArray, List.set_cons_zero, List.set_cons_succ])
            | ((with_reducible refine wpList_at 42 rfl ?_); refine wpList_ix (k := 1) (j := q) Tryd.underlying22 (by kernel_rfl) (.tmp 36) (.tmp 37) rfl rfl rfl rfl HLQ.out rfl ?_; rw [Nat.mul_one, Nat.zero_add]; try simp only [Act.put, List.setIfInBounds_toArray, List.set_cons_zero, List.set_cons_succ])
            | ((refine wpList_atn rfl ?_); refine wpList_bput0 rfl (.tmp 42) (.tmp 41) rfl N rfl (v := (r + z * 58) % 256) (congrArg (Value.int .u8) (show ((r : Int) + (z : Int) * 58) % 256 = (((r + z * 58) % 256 : Nat) : Int) by omega)) HLQ.out (by omega) ?_; clear N; intro w8 N hb8; replace BB := Lib.hid (BB.out.trans hb8.out)))
          have N2 := Lib.hid (N.out.to (y := fun i => if i < q + 1 then (V * 58 + y) / 256 ^ i % 256 else lf ds i) (fun i _ => by
            rcases Nat.lt_trichotomy i q with h | h | h
            · rw [if_neg (by omega), if_pos h, if_pos (by omega)]
            · subst h; rw [if_pos rfl, if_pos (by omega)]; exact ST.out.2.symm
            · rw [if_neg (by omega), if_neg (by omega), if_neg (by omega)]) (fun i => by
            split
            · have := Nat.mod_lt ((V * 58 + y) / 256 ^ i) (show 0 < 256 by omega); omega
            · rw [DG.out]; have := Nat.mod_lt (V / 256 ^ i) (show 0 < 256 by omega); omega))
          go_roundg (m - (q + 1))
          case measure => omega
          case rel => exact ⟨q + 1, (r + z * 58) / 256, by omega, by go_num, congrArg (Value.int .i64) (by omega), Lib.hid ⟨CB.out, ST.out.1⟩, N2, BB⟩
        · obtain rfl : q = m := by omega
          have RM := Lib.hid (show r = (V * 58 + y) / 256 ^ q by rw [S.out.2, ZE.out]; omega)
          have N3 := Lib.hid (N.out.to (y := lf (tl (fun i => (V * 58 + y) / 256 ^ i % 256) q)) (fun i hi => by rw [if_pos hi, lf_tl _ hi]) (lf_lt fun v hv => by
            obtain ⟨i, _, rfl⟩ := List.mem_map.1 hv
            have := Nat.mod_lt ((V * 58 + y) / 256 ^ i) (show 0 < 256 by omega); omega))
          have M3 := Lib.hid (show tl (fun i => (V * 58 + y) / 256 ^ i % 256) q ++ dig 256 r = dig 256 (V * 58 + y) by rw [RM.out]; exact MO.out)
          have L3 := Lib.hid (show q = (tl (fun i => (V * 58 + y) / 256 ^ i % 256) q).length from (tl_length _ _).symm)
          clear N S RM MO ZE DG
          go_wp2
          go_loopg [7, 10] r (fun k s i wr => ∃ (r q c1 g1 : Nat) (p1 : Option Addr) (es : List Nat), r ≤ k ∧ r < 58 ∧ i = .int .i64 (r : Int) ∧ s = .slice p1 q c1 ∧ Hid (q = es.length ∧ es ++ dig 256 r = dig 256 (V * 58 + y)) ∧ Hid (Own w.heap.size wr p1 g1 q c1 (lf es)) ∧ Hid (Below w.heap.size w wr))
          case atStart => exact ⟨r, q, c1, g1, p1, _, Nat.le_refl _, rb, rfl, rfl, Lib.hid ⟨L3.out, M3.out⟩, N3, BB⟩
          case round =>
            clear N3 BB M3 L3
            obtain ⟨r, q, c1, g1, p1, es, hrk, rb, rfl, rfl, M, N, BB⟩ := hrel
            obtain ⟨k3, rfl⟩ : ∃ kk : Nat, kk = gk := ⟨_, rfl⟩
            have qb : q ≤ 8 * (j + 1) := by
              have h1 := congrArg List.length M.out.2
              rw [List.length_append] at h1
              have := LB.out
              have := M.out.1
              omega
            by_cases hr : 0 < r
            · have HR := Lib.hid (dig_pos (b := 256) (by omega) hr)
              go_wp2_with (first
                | ((with_reducible refine wpList_at 57 rfl ?_); refine wpList_b1 rfl _ rfl (.int .u8 ((r : Int) % 256)) (v := r % 256) (by kernel_rfl) (congrArg (Value.int .u8) (show ((r : Int)) % 256 = ((r % 256 : Nat) : Int) by omega)) (by omega) ?_; intro b7 w7 R7 hb7; replace N := Lib.hid (N.out.below hb7.out); replace BB := Lib.hid (BB.out.trans (hb7.out.mono BB.out.size)); clear hb7; try simp only [Act.put, List.setIfInBounds_toArray, List.set_cons_zero, List.set_cons_succ])
                | ((with_reducible refine wpList_at 58 rfl ?_); refine wpList_app (.inl rfl) (.tmp 52) (.tmp 57) rfl rfl N rfl R7 (by omega) ?_; clear N R7; intro p8 g8 c8 w8 N hb8; replace BB := Lib.hid (BB.out.trans hb8.out); clear hb8; try simp only [Act.put, List.setIfInBounds_toArray, List.set_cons_zero, List.set_cons_succ]))
              have N2 := Lib.hid (N.out.to (y := lf (es ++ [r % 256])) (fun i hi => by
                rw [← lf_cat, ← M.out.1]
                unfold cat
                by_cases h : i < q
                · rw [if_pos h, if_pos h]
                · rw [if_neg h, if_neg h, show i - q = 0 by omega]; rfl) (fun i => by
                rw [← lf_cat]
                exact cat_byte _ (lf_lt fun v hv => by
                  have := dig_lt (b := 256) (by omega) (V * 58 + y) v (by rw [← M.out.2]; exact List.mem_append_left _ hv)
                  omega) (lf_lt fun v hv => by simp at hv; omega) i))
              have M2 := Lib.hid (show q + 1 = (es ++ [r % 256]).length ∧ (es ++ [r % 256]) ++ dig 256 (r / 256) = dig 256 (V * 58 + y) from ⟨by rw [List.length_append, ← M.out.1]; rfl, by rw [List.append_assoc, ← M.out.2, HR.out]; rfl⟩)
              clear N M HR
              go_roundg (r / 256)
              case measure => omega
              case rel => exact ⟨r / 256, q + 1, c8, g8, p8, _, Nat.le_refl _, by omega, congrArg (Value.int .i64) (by omega), rfl, M2, N2, BB⟩
            · obtain rfl : r = 0 := by omega
              have DD := Lib.hid (show q = es.length ∧ es = dig 256 (acc 58 (tl x (j + 1))) from ⟨M.out.1, by rw [HN.out, ← M.out.2, dig_zero, List.append_nil]⟩)
              clear M
              go_wp2
              go_roundg (n - (j + 1))
              case measure => omega
              case rel => exact ⟨j + 1, q, c1, g1, p1, es, by omega, by go_num, rfl, DD, N, BB⟩
    · obtain rfl : j = n := by omega
      have Z0 := Lib.hid (show m = ds.length ∧ ds = ds ++ List.replicate 0 0 ∧ ∀ i, i < 0 → x i = 0 from ⟨D.out.1, by simp, fun i h => absurd h (by omega)⟩)
      obtain ⟨m0, hm0⟩ : ∃ m0, m0 = m := ⟨_, rfl⟩
      rw [← hm0] at D mb
      clear hm0
      go_wp2
      go_loopg [7, 62] j (fun k s i wr => ∃ (q m c1 g1 : Nat) (p1 : Option Addr) (es : List Nat), q + k = j ∧ i = .int .i64 (q : Int) ∧ s = .slice p1 m c1 ∧ Hid (m = es.length ∧ es = ds ++ List.replicate q 0 ∧ ∀ i, i < q → x i = 0) ∧ Hid (Own w.heap.size wr p1 g1 m c1 (lf es)) ∧ Hid (Below w.heap.size w wr))
      case atStart => exact ⟨0, m, c1, g1, p1, ds, by omega, rfl, rfl, Z0, N, BB⟩
      case round =>
        clear Z0 N BB
        obtain ⟨q, m, c1, g1, p1, es, hq, rfl, rfl, Z, N, BB⟩ := hrel
        obtain ⟨k4, rfl⟩ : ∃ kk : Nat, kk = gk := ⟨_, rfl⟩
        by_cases hlq : q < j
        · obtain rfl := R.out.head (by omega)
          have HLQ := Lib.hid hlq
          have mq : m ≤ 9 * j := by rw [Z.out.1, Z.out.2.1, List.length_append, List.length_replicate, ← D.out.1]; omega
          obtain ⟨y, hy⟩ : ∃ y, y = x q := ⟨_, rfl⟩
          have CL := Lib.hid (show wr.cell? ⟨g, o + q, none⟩ = some (.int .u8 (y : Int)) by rw [hy]; exact (R.out.below BB.out).cell q hlq)
          by_cases hy0 : y = 0
          · subst hy0
            go_wp2_with (first
              | ((with_reducible refine wpList_at 64 rfl ?_); refine wpList_ix (k := 1) (j := q) Tryd.underlying22 (by kernel_rfl) (.tmp 60) (.tmp 62) rfl rfl rfl rfl HLQ.out rfl ?_; rw [Nat.mul_one]; try simp only [Act.put, List.setIfInBounds_toArray, List.set_cons_zero, List.set_cons_succ])
              | ((with_reducible refine wpList_at 65 rfl ?_); refine wpList_ld1 5 (.tmp 64) rfl rfl rfl Tryd.underlying5 rfl CL.out ?_; try simp only [Act.put, List.setIfInBounds_toArray, List.set_cons_zero, List.set_cons_succ])
              | ((with_reducible refine wpList_at 69 rfl ?_); refine wpList_b1 rfl _ rfl (.int .u8 0) (v := 0) (by kernel_rfl) rfl (by omega) ?_; intro b7 w7 R7 hb7; replace N := Lib.hid (N.out.below hb7.out); have ZB := Lib.hid N.out.byte; replace BB := Lib.hid (BB.out.trans (hb7.out.mono BB.out.size)); clear hb7; try simp only [Act.put, List.setIfInBounds_toArray, List.set_cons_zero, List.set_cons_succ])
              | ((with_reducible refine wpList_at 70 rfl ?_); refine wpList_app (.inl rfl) (.tmp 68) (.tmp 69) rfl rfl N rfl R7 (by omega) ?_; clear N R7; intro p8 g8 c8 w8 N hb8; replace BB := Lib.hid (BB.out.trans hb8.out); clear hb8; try simp only [Act.put, List.setIfInBounds_toArray, List.set_cons_zero, List.set_cons_succ]))
            have N2 := Lib.hid (N.out.to (y := lf (es ++ [0])) (fun i hi => by
              rw [← lf_cat, ← Z.out.1]
              unfold cat
              by_cases h : i < m
              · rw [if_pos h, if_pos h]
              · rw [if_neg h, if_neg h, show i - m = 0 by omega]; rfl) (fun i => by
              rw [← lf_cat]
              exact cat_byte _ (fun i => by have := N.out.byte; exact ZB.out i) (lf_lt fun v hv => by simp at hv; omega) i))
            have Z2 := Lib.hid (show m + 1 = (es ++ [0]).length ∧ es ++ [0] = ds ++ List.replicate (q + 1) 0 ∧ ∀ i, i < q + 1 → x i = 0 from ⟨by rw [List.length_append, ← Z.out.1]; rfl, by rw [Z.out.2.1, List.append_assoc, ← List.replicate_succ'], fun i hi => by
              rcases Nat.lt_or_ge i q with h | h
              · exact Z.out.2.2 i h
              · obtain rfl : i = q := by omega
                exact hy.symm⟩)
            clear N Z hy
            go_roundg (j - (q + 1))
            case measure => omega
            case rel => exact ⟨q + 1, m + 1, c8, g8, p8, _, by omega, by go_num, rfl, Z2, N2, BB⟩
          · have FEC : q = j ∨ x q ≠ 0 := .inr (by rw [← hy]; exact hy0)
            have b1 : ((y : Int) == 0) = false := by simpa using (show ¬ ((y : Int) = 0) by omega)
            clear hy hy0 mq
            have FE := Lib.hid (show reb 58 256 (tl x j) = es.reverse by
              have e1 := lz_is (x := x) (n := j) (q := q) (by omega) Z.out.2.2 FEC
              unfold reb
              rw [e1, ← D.out.2, Z.out.2.1, List.reverse_append, List.reverse_replicate])
            have ML := Lib.hid Z.out.1
            have mq : m ≤ 9 * j := by rw [Z.out.1, Z.out.2.1, List.length_append, List.length_replicate, ← D.out.1]; omega
            clear Z D
            go_wp2_with (first
              | ((with_reducible refine wpList_at 64 rfl ?_); refine wpList_ix (k := 1) (j := q) Tryd.underlying22 (by kernel_rfl) (.tmp 60) (.tmp 62) rfl rfl rfl rfl HLQ.out rfl ?_; rw [Nat.mul_one]; try simp only [Act.put, List.setIfInBounds_toArray, List.set_cons_zero, List.set_cons_succ])
              | ((with_reducible refine wpList_at 65 rfl ?_); refine wpList_ld1 5 (.tmp 64) rfl rfl rfl Tryd.underlying5 rfl CL.out ?_; try simp only [Act.put, List.setIfInBounds_toArray, List.set_cons_zero, List.set_cons_succ])
              | (go_at_call 61; refine (rev_any N (by omega)).mono ?_; rintro e w9 ⟨rfl, N9, hb9⟩; have YtghjgkgfpblijaaDoor := Lib.hid N9; replace BB := Lib.hid (BB.out.trans hb9); clear N9 hb9))
            go_ret
            refine ⟨p1, g1, c1, ?_, ?_, BB.out⟩
            · rw [FE.out, List.length_reverse, ← ML.out]; rfl
            · rw [FE.out, List.length_reverse, ← ML.out]
              exact YtghjgkgfpblijaaDoor.out.to (fun i hi => by rw [ML.out] at hi ⊢; exact lf_rev es hi) (lf_lt fun v hv => isB_own (by rw [← ML.out]; exact N.out) v (List.mem_reverse.1 hv))
        · obtain rfl : q = j := by omega
          have FEC : q = q ∨ x q ≠ 0 := .inl rfl
          have FE := Lib.hid (show reb 58 256 (tl x q) = es.reverse by
            have e1 := lz_is (x := x) (n := q) (q := q) (by omega) Z.out.2.2 FEC
            unfold reb
            rw [e1, ← D.out.2, Z.out.2.1, List.reverse_append, List.reverse_replicate])
          have ML := Lib.hid Z.out.1
          have mq : m ≤ 9 * q := by rw [Z.out.1, Z.out.2.1, List.length_append, List.length_replicate, ← D.out.1]; omega
          clear Z D
          go_wp2_with (first
            | (go_at_call 61; refine (rev_any N (by omega)).mono ?_; rintro e w9 ⟨rfl, N9, hb9⟩; have YtghjgkgfpblijaaDoor := Lib.hid N9; replace BB := Lib.hid (BB.out.trans hb9); clear N9 hb9))
          go_ret
          refine ⟨p1, g1, c1, ?_, ?_, BB.out⟩
          · rw [FE.out, List.length_reverse, ← ML.out]; rfl
          · rw [FE.out, List.length_reverse, ← ML.out]
            exact YtghjgkgfpblijaaDoor.out.to (fun i hi => by rw [ML.out] at hi ⊢; exact lf_rev es hi) (lf_lt fun v hv => isB_own (by rw [← ML.out]; exact N.out) v (List.mem_reverse.1 hv))
end Go.Proofs.YtghjgkgfpblijaaDoor
end
section
set_option linter.unusedSimpArgs false
set_option linter.unusedVariables false
set_option maxRecDepth 100000
namespace Go.Proofs.YtghjgkgfpblijaaDoor
open Go.RowKit Go.Lib Go.Sort

theorem tl_congr {f h : Nat → Nat} {m : Nat} (e : ∀ i, i < m → f i = h i) : tl f m = tl h m := List.map_congr_left fun i hi => e i (by simpa using hi)
/-- The group i of T bits, of width o. -/
def gI (o V T : Nat) : Nat → Nat := fun i => V / 2 ^ (T - o * (i + 1)) % 2 ^ o
theorem gI_lt (o V T i : Nat) : gI o V T i < 2 ^ o := Nat.mod_lt _ (Nat.pow_pos (by omega))
/-- Another part's bits behind. -/
theorem gI_more {o V T w p i : Nat} (hp : p < 2 ^ w) (h : o * (i + 1) ≤ T) : gI o (V * 2 ^ w + p) (T + w) i = gI o V T i := by
  unfold gI
  have e : T + w - o * (i + 1) = w + (T - o * (i + 1)) := by omega
  rw [e, Nat.pow_add, ← Nat.div_div_eq_div_mul, Nat.mul_comm V, Nat.mul_add_div (Nat.pow_pos (by omega)), Nat.div_eq_of_lt hp, Nat.add_zero]
/-- What is held, with a part behind. -/
theorem held_more {V c w p : Nat} (hp : p < 2 ^ w) : V % 2 ^ c * 2 ^ w + p = (V * 2 ^ w + p) % 2 ^ (c + w) := by
  have h1 : V = 2 ^ c * (V / 2 ^ c) + V % 2 ^ c := (Nat.div_add_mod V (2 ^ c)).symm
  have h2 : V % 2 ^ c * 2 ^ w + p < 2 ^ (c + w) := by
    have h3 : V % 2 ^ c < 2 ^ c := Nat.mod_lt _ (Nat.pow_pos (by omega))
    have h4 : (V % 2 ^ c + 1) * 2 ^ w ≤ 2 ^ c * 2 ^ w := Nat.mul_le_mul_right _ h3
    rw [Nat.add_mul, Nat.one_mul] at h4
    rw [Nat.pow_add]
    omega
  have h5 : V * 2 ^ w + p = 2 ^ (c + w) * (V / 2 ^ c) + (V % 2 ^ c * 2 ^ w + p) := by
    rw [Nat.pow_add]
    have : V * 2 ^ w = 2 ^ c * (V / 2 ^ c) * 2 ^ w + V % 2 ^ c * 2 ^ w := by
      rw [← Nat.add_mul, ← h1]
    rw [this, Nat.add_assoc]
    congr 1
    rw [Nat.mul_right_comm]
  rw [h5, Nat.mul_add_mod, Nat.mod_eq_of_lt h2]
theorem held_lt (V c : Nat) : V % 2 ^ c < 2 ^ c := Nat.mod_lt _ (Nat.pow_pos (by omega))
/-- The next group, of what is held. -/
theorem held_out {V T o L : Nat} (h : o * (L + 1) ≤ T) : V % 2 ^ (T - o * L) / 2 ^ (T - o * (L + 1)) = gI o V T L ∧ V % 2 ^ (T - o * L) % 2 ^ (T - o * (L + 1)) = V % 2 ^ (T - o * (L + 1)) := by
  have hm : o * (L + 1) = o * L + o := by rw [Nat.mul_add, Nat.mul_one]
  have e : T - o * L = (T - o * (L + 1)) + o := by omega
  constructor
  · unfold gI
    rw [e, Nat.pow_add, Nat.mod_mul_right_div_self]
  · exact Nat.mod_mod_of_dvd _ (Nat.pow_dvd_pow 2 (by omega))
/-- Parts of width w in parts of width o, noughts behind. -/
def grpX (o V T : Nat) : List Nat := tl (gI o V T) (T / o) ++ if 0 < T % o then [V % 2 ^ (T % o) * 2 ^ (o - T % o)] else []
def grp (w o : Nat) (ps : List Nat) : List Nat := grpX o (acc (2 ^ w) ps) (w * ps.length)
/-- The same by one number. -/
theorem grpX_eq {o V T m : Nat} (ho : 0 < o) (hm : m = (T + o - 1) / o) : grpX o V T = tl (gI o (V * 2 ^ (o * m - T)) (o * m)) m ∧ T ≤ o * m ∧ o * m < T + o := by
  have hd := Nat.div_add_mod T o
  have hl := Nat.mod_lt T ho
  by_cases h : 0 < T % o
  · have hm2 : m = T / o + 1 := by
      rw [hm]
      have : T + o - 1 = (T % o + o - 1) + o * (T / o) := by omega
      rw [this, Nat.add_mul_div_left _ _ ho, Nat.add_comm]
      congr 1
      rw [show T % o + o - 1 = (T % o - 1) + o * 1 by omega, Nat.add_mul_div_left _ _ ho, Nat.div_eq_of_lt (by omega)]
    have hom : o * m = o * (T / o) + o := by rw [hm2, Nat.mul_add, Nat.mul_one]
    refine ⟨?_, by omega, by omega⟩
    unfold grpX
    rw [if_pos h, hm2, tl_succ]
    have hpad : o * (T / o + 1) - T = o - T % o := by rw [← hm2, hom]; omega
    rw [hpad]
    congr 1
    · refine tl_congr fun i hi => ?_
      unfold gI
      have hi2 : o * (i + 1) ≤ o * (T / o) := Nat.mul_le_mul_left o hi
      have e : o * (T / o + 1) - o * (i + 1) = (o - T % o) + (T - o * (i + 1)) := by rw [← hm2, hom]; omega
      rw [e, Nat.pow_add, ← Nat.div_div_eq_div_mul, Nat.mul_div_cancel _ (Nat.pow_pos (by omega))]
    · unfold gI
      rw [Nat.sub_self, Nat.pow_zero, Nat.div_one]
      congr 1
      have := held_more (V := V) (c := T % o) (w := o - T % o) (p := 0) (Nat.pow_pos (by omega))
      rw [Nat.add_zero, Nat.add_zero, show T % o + (o - T % o) = o by omega] at this
      exact this
  · have h0 : T % o = 0 := by omega
    have hm2 : m = T / o := by
      rw [hm]
      have : T + o - 1 = (o - 1) + o * (T / o) := by omega
      rw [this, Nat.add_mul_div_left _ _ ho, Nat.div_eq_of_lt (by omega), Nat.zero_add]
    have hom : o * m = T := by rw [hm2]; omega
    refine ⟨?_, by omega, by omega⟩
    unfold grpX
    rw [if_neg h, hom, Nat.sub_self, Nat.pow_zero, Nat.mul_one, List.append_nil, hm2]
theorem grp_len {w o : Nat} (ho : 0 < o) (ps : List Nat) : (grp w o ps).length = (w * ps.length + o - 1) / o := by
  unfold grp
  rw [(grpX_eq ho rfl).1, tl_length]
theorem grpX_lt {o V T : Nat} (ho : 0 < o) : ∀ x, x ∈ grpX o V T → x < 2 ^ o := by
  rw [(grpX_eq ho rfl).1]
  intro x hx
  obtain ⟨i, _, rfl⟩ := List.mem_map.1 hx
  exact gI_lt _ _ _ _
/-- Groups say their number. -/
theorem acc_gI {o V : Nat} : ∀ (k m : Nat), k ≤ m → acc (2 ^ o) (tl (gI o V (o * m)) k) = V / 2 ^ (o * m - o * k) % 2 ^ (o * k)
  | 0, m, _ => by rw [Nat.mul_zero, Nat.pow_zero, Nat.mod_one]; rfl
  | k + 1, m, h => by
    rw [tl_succ, acc_snoc, acc_gI k m (by omega)]
    unfold gI
    have h1 : o * (k + 1) = o * k + o := by rw [Nat.mul_add, Nat.mul_one]
    have h2 : o * (k + 1) ≤ o * m := Nat.mul_le_mul_left o h
    have e : o * m - o * k = (o * m - o * (k + 1)) + o := by omega
    rw [e, Nat.pow_add, ← Nat.div_div_eq_div_mul]
    obtain ⟨X, hX⟩ : ∃ X, X = V / 2 ^ (o * m - o * (k + 1)) := ⟨_, rfl⟩
    rw [← hX, h1, Nat.add_comm (o * k) o, Nat.pow_add 2 o (o * k), Nat.mod_mul, Nat.add_comm, Nat.mul_comm]
theorem acc_gI' {o V m : Nat} (h : V < 2 ^ (o * m)) : acc (2 ^ o) (tl (gI o V (o * m)) m) = V := by
  rw [acc_gI m m (Nat.le_refl _), Nat.sub_self, Nat.pow_zero, Nat.div_one, Nat.mod_eq_of_lt h]
/-- A part of a number. -/
theorem acc_part {w : Nat} : ∀ (n : Nat) (x : Nat → Nat), (∀ i, i < n → x i < 2 ^ w) → ∀ i, i < n → gI w (acc (2 ^ w) (tl x n)) (w * n) i = x i
  | 0, _, _, i, h => absurd h (by omega)
  | n + 1, x, hx, i, h => by
    rw [tl_succ, acc_snoc, Nat.mul_add, Nat.mul_one]
    rcases Nat.lt_or_ge i n with q | q
    · rw [gI_more (hx n (by omega)) (Nat.mul_le_mul_left w q)]
      exact acc_part n x (fun j hj => hx j (by omega)) i q
    · obtain rfl : i = n := by omega
      unfold gI
      rw [show w * i + w - w * (i + 1) = 0 by rw [Nat.mul_add, Nat.mul_one]; omega, Nat.pow_zero, Nat.div_one, Nat.mul_comm, Nat.mul_add_mod, Nat.mod_eq_of_lt (hx i (by omega))]
/-- Bytes in groups of five bits, and back. -/
theorem grp_back {b : List Nat} (hb : ∀ x, x ∈ b → x < 256) : (grp 5 8 (grp 8 5 b)).take ((grp 8 5 b).length * 5 / 8) = b ∧ (grp 8 5 b).length * 5 / 8 = b.length := by
  have hx : ∀ i, i < b.length → lf b i < 2 ^ 8 := fun i hi => by rw [lf_get hi]; exact hb _ (List.getElem_mem hi)
  have hl := grp_len (w := 8) (o := 5) (by omega) b
  obtain ⟨m, hm⟩ : ∃ m, m = (8 * b.length + 5 - 1) / 5 := ⟨_, rfl⟩
  have hg := grpX_eq (o := 5) (V := acc (2 ^ 8) b) (T := 8 * b.length) (by omega) hm
  have hV : acc (2 ^ 8) b < (2 ^ 8) ^ b.length := acc_lt (by omega) b hb
  rw [← Nat.pow_mul] at hV
  rw [← hm] at hl
  have hdiv : m * 5 / 8 = b.length := by omega
  refine ⟨?_, by rw [hl]; exact hdiv⟩
  rw [hl, hdiv]
  have hgg : grp 8 5 b = tl (gI 5 (acc (2 ^ 8) b * 2 ^ (5 * m - 8 * b.length)) (5 * m)) m := hg.1
  have hX : acc (2 ^ 8) b * 2 ^ (5 * m - 8 * b.length) < 2 ^ (5 * m) := by
    have : acc (2 ^ 8) b * 2 ^ (5 * m - 8 * b.length) < 2 ^ (8 * b.length) * 2 ^ (5 * m - 8 * b.length) := Nat.mul_lt_mul_of_pos_right hV (Nat.pow_pos (by omega))
    rwa [← Nat.pow_add, show 8 * b.length + (5 * m - 8 * b.length) = 5 * m by omega] at this
  have hacc : acc (2 ^ 5) (grp 8 5 b) = acc (2 ^ 8) b * 2 ^ (5 * m - 8 * b.length) := by rw [hgg]; exact acc_gI' hX
  unfold grp
  unfold grp at hacc hl
  rw [hacc, hl]
  unfold grpX
  have hq : 5 * m / 8 = b.length := by omega
  rw [hq, List.take_left' (tl_length _ _)]
  apply lf_inj (tl_length _ _)
  intro i hi
  rw [tl_length] at hi
  rw [lf_tl _ hi]
  have hp := acc_part b.length (lf b) hx i hi
  rw [tl_lf] at hp
  rw [← hp]
  unfold gI
  have hi2 : 8 * (i + 1) ≤ 8 * b.length := Nat.mul_le_mul_left 8 hi
  have e : 5 * m - 8 * (i + 1) = (5 * m - 8 * b.length) + (8 * b.length - 8 * (i + 1)) := by omega
  rw [e, Nat.pow_add, ← Nat.div_div_eq_div_mul, Nat.mul_div_cancel _ (Nat.pow_pos (by omega))]
end Go.Proofs.YtghjgkgfpblijaaDoor
end
section
set_option linter.unusedSimpArgs false
set_option linter.unusedVariables false
set_option maxRecDepth 100000
namespace Go.Proofs.YtghjgkgfpblijaaDoor
open Go.ChangeShapes Go.WideShapes Go.RowKit Go.Lib

/-- A text's byte. -/
def byt (s : ByteArray) (k : Nat) : Nat := if h : k < s.size then (s[k]'h).toNat else 0
theorem byt_get (s : ByteArray) : ∀ (n : Nat) (h : n < s.size), (s[n]'h).toNat = byt s n := fun n h => by unfold byt; rw [dif_pos h]
theorem byt_lt (s : ByteArray) (k : Nat) : byt s k < 256 := by
  unfold byt; split
  · exact UInt8.toNat_lt _
  · omega
/-- A text's bytes. -/
def bytL (s : ByteArray) : List Nat := tl (byt s) s.size
theorem bytL_length (s : ByteArray) : (bytL s).length = s.size := tl_length _ _
def putC : Array Value → Nat → List Value → Array Value
  | c, _, [] => c
  | c, o, v :: r => putC (c.setIfInBounds o v) (o + 1) r
theorem setCells_mark {g T : Nat} {fz : Nat × Nat} : ∀ (vs : List Value) (o : Nat) (w : World) (cur : Array Value), w.heap[g]? = some (.cells cur T fz) → (w.setCells g o vs).heap[g]? = some (.cells (putC cur o vs) T fz) ∧ Only g w (w.setCells g o vs)
  | [], _, w, _, h => ⟨h, Only.refl _ _⟩
  | v :: r, o, w, cur, h => by
    have h1 : (w.setCell ⟨g, o, none⟩ v).heap[g]? = some (.cells (cur.setIfInBounds o v) T fz) := by
      simp only [World.setCell, Array.getElem?_modify]
      rw [if_pos trivial, h]
      simp
    have h2 := setCells_mark r (o + 1) _ _ h1
    exact ⟨h2.1, ((Only.refl g w).setCell ⟨g, o, none⟩ rfl v).trans h2.2⟩
theorem putC_size : ∀ (vs : List Value) (o : Nat) (cur : Array Value), (putC cur o vs).size = cur.size
  | [], _, _ => rfl
  | v :: r, o, cur => by
    show (putC (cur.setIfInBounds o v) (o + 1) r).size = _
    rw [putC_size r, Array.size_setIfInBounds]
theorem putC_take : ∀ (vs : List Value) (o : Nat) (cur : Array Value), o + vs.length ≤ cur.size → (putC cur o vs).toList.take (o + vs.length) = cur.toList.take o ++ vs
  | [], o, cur, _ => by
    show cur.toList.take (o + 0) = _
    rw [Nat.add_zero, List.append_nil]
  | v :: r, o, cur, h => by
    have hl : (v :: r).length = r.length + 1 := rfl
    have h2 := putC_take r (o + 1) (cur.setIfInBounds o v) (by rw [Array.size_setIfInBounds]; omega)
    show (putC (cur.setIfInBounds o v) (o + 1) r).toList.take _ = _
    rw [hl, show o + (r.length + 1) = o + 1 + r.length by omega, h2, Array.toList_setIfInBounds]
    have hs : o < cur.toList.length := by rw [Array.length_toList]; omega
    rw [List.take_add_one, List.getElem?_set_self hs, List.take_set_of_le (Nat.le_refl o)]
    simp
theorem only_below {w w' : World} {B g : Nat} (h : Only g w w') (hb : B ≤ g) (hl : B ≤ w.heap.size) : Below B w w' := ⟨h.os, h.tape, h.output, h.size, fun k hk => h.block k (by omega) (by omega)⟩
theorem byteCells_fbs (s : ByteArray) : byteCells s = fbs (byt s) s.size := by
  apply List.ext_getElem?
  intro i
  unfold byteCells
  rcases Nat.lt_or_ge i s.size with h | h
  · rw [fbs_at _ _ _ h, List.getElem?_map]
    have hd : s.data.toList[i]? = some (s.data[i]'h) := by rw [Array.getElem?_toList]; exact Array.getElem?_eq_getElem h
    rw [hd, ← byt_get s i h]
    rfl
  · rw [List.getElem?_eq_none (by rw [List.length_map, Array.length_toList]; exact h), List.getElem?_eq_none (by rw [fbs_length]; exact h)]
/-- A slice of bytes in a block of the call's own; behind its end a mark may stand. -/
structure OwnM (B : Nat) (w : World) (p : Option Addr) (g n c : Nat) (x : Nat → Nat) : Prop where
  hd : p = some ⟨g, 0, none⟩
  lo : B ≤ g
  here : ∃ cur fz, w.heap[g]? = some (.cells cur 5 fz) ∧ (fz = (0, 0) ∨ cur.size ≤ fz.1) ∧ cur.size = c ∧ cur.toList.take n = fbs x n
  le : n ≤ c
  cap : c ≤ maxLen
  byte : ∀ i, x i < 256
  low : B ≤ w.heap.size
theorem cell_mark {w : World} {b T : Nat} {fz : Nat × Nat} {c : Array Value} (h : w.heap[b]? = some (.cells c T fz)) (i : Nat) {v : Value} (hv : c[i]? = some v) : w.cell? ⟨b, i, none⟩ = some v := by
  simp [World.cell?, h, hv]
theorem free_mark {w : World} {b T : Nat} {fz : Nat × Nat} {c : Array Value} (h : w.heap[b]? = some (.cells c T fz)) (hz : fz = (0, 0) ∨ c.size ≤ fz.1) {i : Nat} (hi : i < c.size) : w.frozen? ⟨b, i, none⟩ = false := by
  obtain ⟨lo, hi2⟩ := fz
  unfold World.frozen?
  rw [h]
  rcases hz with hz | hz
  · injection hz with a b; subst a b; simp
  · simp at hz ⊢; omega
section
variable {w w' : World} {p : Option Addr} {B g n c : Nat} {x : Nat → Nat}
theorem OwnM.row (N : OwnM B w p g n c x) : Row w p g 0 n c x := by
  obtain ⟨cur, fz, h1, h2, h3, h4⟩ := N.here
  refine ⟨N.le, N.cap, (fun h => by rw [N.hd] at h; cases h), fun _ => N.hd, fun i hi => ?_, N.byte⟩
  refine cell_mark h1 _ ?_
  have h5 : (cur.toList.take n)[i]? = (fbs x n)[i]? := by rw [h4]
  rw [List.getElem?_take_of_lt hi, fbs_at _ _ _ hi, Array.getElem?_toList] at h5
  rw [Nat.zero_add]
  exact h5
theorem OwnM.of (N : Own B w p g n c x) (h0 : 0 < n) : OwnM B w p g n c x := by
  obtain rfl := N.row.head h0
  obtain ⟨hl, h | ⟨g', cap, cur, hv, hb, hg, hn, hc, hs, ht⟩⟩ := N.own
  · cases h.1
  · cases hv
    rw [Nat.mul_one] at hs ht
    exact ⟨rfl, hb, ⟨cur, _, hg, .inl rfl, hs, ht⟩, hn, hc, N.byte, N.low⟩
theorem OwnM.below (N : OwnM B w p g n c x) (hb : Below w.heap.size w w') : OwnM B w' p g n c x := by
  obtain ⟨cur, fz, h1, h2⟩ := N.here
  exact ⟨N.hd, N.lo, ⟨cur, fz, by rw [hb.block g (heap_lt h1)]; exact h1, h2⟩, N.le, N.cap, N.byte, Nat.le_trans N.low hb.size⟩
/-- Bytes behind bytes. -/
theorem OwnM.app (N : OwnM B w p g n c x) {tx : TypeId} {v : Value} {m : Nat} {y : Nat → Nat} (S : Src Tryd.prog 1 tx v m (fbs y m) w) (hy : ∀ i, y i < 256) (ty : TypeId) (hl : n + m ≤ 140737488355328) :
    ∃ p' g' c' w', (Builtin.append_ #[22, tx] ty #[.slice p n c, v]).run Tryd.prog w = .ok (.slice p' (n + m) c') w' ∧ OwnM B w' p' g' (n + m) c' (cat x n y) ∧ Below B w w' := by
  obtain ⟨i0, hi, hz0, hz1, hz2⟩ := info_parts infoB
  obtain rfl := N.hd
  obtain ⟨cur, fz, h1, h2, h3, h4⟩ := N.here
  rw [← hz1] at S
  by_cases hr : n + m ≤ c
  · have R := run_append_room_src w 22 tx ty 5 i0 Tryd.underlying22 hi g 0 n c v m _ S hr (fun j hj => by
      rw [hz1, fbs_length] at *
      have e : 0 + n * 1 + j < cur.size := by omega
      rw [cell_mark h1 _ (Array.getElem?_eq_getElem e)]; rfl) (fun j hj => by
      rw [hz1, fbs_length] at *
      exact free_mark h1 h2 (by omega))
    rw [hz1, Nat.mul_one, Nat.zero_add] at R
    have H := setCells_mark (fbs y m) n w cur h1
    have P := putC_take (fbs y m) n cur (by rw [fbs_length]; omega)
    rw [fbs_length] at P
    have hb2 : Below B w (w.setCells g n (fbs y m)) := only_below H.2 N.lo N.low
    refine ⟨_, g, c, _, R, ⟨rfl, N.lo, ⟨_, fz, H.1, by rw [putC_size]; exact h2, by rw [putC_size]; exact h3, by rw [P, h4, fbs_cat]⟩, hr, N.cap, cat_byte n N.byte hy, Nat.le_trans N.low hb2.size⟩, hb2⟩
  · have hz : i0.bytes = 1 := hz2
    have old : (Builtin.firstCells i0.size n (.slice (some ⟨g, 0, none⟩) n c)).run Tryd.prog w.drew = .ok (fbs x n).toArray w.drew := by
      rw [hz1]
      exact run_firstCells_some w.drew 1 n ⟨g, 0, none⟩ n c (fbs x n) (by rw [fbs_length, Nat.mul_one]) fun j u hu => by
        obtain ⟨hj, rfl⟩ := fbs_get _ _ _ _ hu
        rw [row_add]
        exact N.row.cell j hj
    have R := run_append_grow_src w 22 tx ty 5 i0 _ Tryd.underlying22 hi hz0 (some ⟨g, 0, none⟩) n c _ old v m _ S (by omega) (by omega) (growslice_fits (by omega) (by rw [hz]; omega))
    have hge := grownCap_ge w (n + m) c 5
    refine ⟨_, w.heap.size, _, _, R, ⟨rfl, N.low, ⟨_, _, heap_alloc_new w.drew _, .inl rfl, ?_, ?_⟩, hge, grownCap_le_maxLen w (n + m) c 5 (by unfold maxLen; omega), cat_byte n N.byte hy, ?_⟩, ((Below.refl _ _).drew.alloc (Nat.le_refl _) _).mono N.low⟩
    · simp only [Array.size_append, List.size_toArray, List.length_append, fbs_length, size_zeroCells]
      simp [Value.cells]
      omega
    · rw [Array.toList_append, ← fbs_cat]
      exact List.take_left' (by simp [fbs_length])
    · have := (below_new w.drew (.cells ((fbs x n ++ fbs y m).toArray ++ Builtin.zeroCells (Value.int .u8 0).cells (grownCap w (n + m) c 5 - (n + m))) 5)).size
      exact Nat.le_trans N.low this
theorem src_row {w : World} {q : Option Addr} {h o m d : Nat} {y : Nat → Nat} (R : Row w q h o m d y) : Src Tryd.prog 1 22 (.slice q m d) m (fbs y m) w := by
  cases q with
  | none =>
    obtain ⟨rfl, rfl⟩ := R.nil rfl
    exact Src.ofNil w Tryd.underlying22 0
  | some a =>
    refine Src.ofSlice w Tryd.underlying22 a m d (fbs y m) (by rw [fbs_length, Nat.mul_one]) (fun j u hu => ?_) (fbs_one _ _)
    obtain ⟨hj, rfl⟩ := fbs_get _ _ _ _ hu
    obtain rfl := Option.some.inj (R.head (by omega))
    rw [row_add]
    exact R.cell j hj
theorem src_text (w : World) (s : ByteArray) : Src Tryd.prog 1 9 (.string s) s.size (fbs (byt s) s.size) w := by
  rw [← byteCells_fbs]
  exact Src.ofString w Tryd.underlying9 s
theorem conv_own (w : World) (s : ByteArray) (hs : s.size ≤ 140737488355328) : ∃ c w', (convert 9 22 (.string s)).run Tryd.prog w = .ok (.slice (some ⟨w.heap.size, 0, none⟩) s.size c) w' ∧ OwnM w.heap.size w' (some ⟨w.heap.size, 0, none⟩) w.heap.size s.size c (byt s) ∧ Below w.heap.size w w' := by
  have hc := grownCap_ge w s.size 0 5
  have hz : (bytesRow s (grownCap w s.size 0 5)).size = grownCap w s.size 0 5 := by
    unfold bytesRow
    simp only [Array.size_append, Array.size_map, Array.size_replicate]
    have : s.data.size = s.size := rfl
    omega
  refine ⟨_, _, run_bytes_of_string w 9 22 5 s Tryd.underlying9 Tryd.underlying22 Tryd.underlying5, ⟨rfl, Nat.le_refl _, ⟨_, _, heap_alloc_new w.drew _, .inr (Nat.le_refl _), hz, ?_⟩, hc, grownCap_le_maxLen w s.size 0 5 (by unfold maxLen; omega), byt_lt s, ?_⟩, ?_⟩
  · unfold bytesRow
    rw [← byteCells_fbs, Array.toList_append]
    refine List.take_left' ?_ |>.trans ?_
    · rw [Array.toList_map, List.length_map, Array.length_toList]; rfl
    · unfold byteCells; rw [Array.toList_map]
  · exact (below_new w.drew _).size
  · exact ((Below.refl _ _).drew.alloc (Nat.le_refl _) _)
end
section
variable {ops : Array Oper} {rest : List Oper} {Q : Exit → Act → World → Prop} {op : Oper} {a : Act} {w : World} {s : ByteArray}
/-- A text's bytes, in a new row. -/
theorem wpList_cv (hw : Region.wanted op (yielded ops a.tmps) = true) (x : Operand) (ho : op.op = .convert 9 22 x) (hx : a.eval x = .string s) (hs : s.size ≤ 140737488355328)
    (k : ∀ p g c w', Hid (OwnM w.heap.size w' p g s.size c (byt s)) → Hid (Below w.heap.size w w') → wpList Tryd.prog ops Q rest (a.put op.dst (.slice p s.size c)) w') : wpList Tryd.prog ops Q (op :: rest) a w := by
  obtain ⟨c, w', hrun, R, hb⟩ := conv_own w s hs
  refine BigFrame.wpList_want hw fun K hK => mo_known _ w' ?_ (hK _ _ (k _ _ c w' (Lib.hid R) (Lib.hid hb)))
  unfold execOp
  simp only [ho, hx, Sem.run_bind, hrun, Result.andThen_ok]
  rfl
/-- Bytes behind bytes. -/
theorem wpList_mapp (hw : Region.wanted op (yielded ops a.tmps) = true) {tx : TypeId} (x y : Operand) (ho : op.op = .call { callee := .builtin .append, args := #[x, y], argTypes := #[22, tx] }) {B g n c : Nat} {p : Option Addr} {f : Nat → Nat} (hx : a.eval x = .slice p n c) (N : Hid (OwnM B w p g n c f))
    {v : Value} {m : Nat} {h : Nat → Nat} (hy : a.eval y = v) (S : Src Tryd.prog 1 tx v m (fbs h m) w) (hb : ∀ i, h i < 256) (hl : n + m ≤ 140737488355328)
    (k : ∀ p' g' c' w', Hid (OwnM B w' p' g' (n + m) c' (cat f n h)) → Hid (Below B w w') → wpList Tryd.prog ops Q rest (a.put op.dst (.slice p' (n + m) c')) w') : wpList Tryd.prog ops Q (op :: rest) a w := by
  obtain ⟨p', g', c', w', R, O, hb⟩ := N.out.app S hb op.type hl
  refine BigFrame.wpList_want hw fun K hK => mo_known _ w' ?_ (hK _ _ (k p' g' c' w' (Lib.hid O) (Lib.hid hb)))
  unfold execOp
  simp only [ho, resolve, invoke, builtin, Sem.run_bind, Sem.run_pure, Result.andThen_ok, List.map_toArray, List.map_cons, List.map_nil, hx, hy, R]
end
/-- A text of some bytes. -/
def strX (x : Nat → Nat) (n : Nat) : ByteArray := strOfNums ((List.range n).map fun i => ((x i : Nat) : Int))
theorem strX_size (x : Nat → Nat) (n : Nat) : (strX x n).size = n := by unfold strX; rw [strOfNums_size]; simp
theorem strX_byt {x : Nat → Nat} (hx : ∀ i, x i < 256) {n i : Nat} (h : i < n) : byt (strX x n) i = x i := by
  have h2 : i < (strX x n).size := by rw [strX_size]; exact h
  unfold byt
  rw [dif_pos h2]
  have e : (strX x n).data.toList[i]? = some (UInt8.ofNat (((x i : Nat) : Int).toNat)) := by
    unfold strX
    rw [strOfNums_data, List.getElem?_map, List.getElem?_map, List.getElem?_range h]
    rfl
  have h3 : i < (strX x n).data.size := h2
  rw [Array.getElem?_toList, Array.getElem?_eq_getElem h3] at e
  injection e with e
  show ((strX x n).data[i]'h2).toNat = x i
  rw [e, Int.toNat_natCast]
  have := hx i
  simp [UInt8.toNat_ofNat]
  omega
theorem ba_ext {a b : ByteArray} (h : a.size = b.size) (e : ∀ i, i < a.size → byt a i = byt b i) : a = b := by
  obtain ⟨a⟩ := a
  obtain ⟨b⟩ := b
  congr 1
  apply Array.ext h
  intro i h1 h2
  have h3 := e i h1
  have h4 := byt_get ⟨a⟩ i h1
  have h5 := byt_get ⟨b⟩ i h2
  rw [← h4, ← h5] at h3
  exact UInt8.toNat_inj.1 h3
theorem strX_eq {x : Nat → Nat} (hx : ∀ i, x i < 256) {n : Nat} {s : ByteArray} (hs : s.size = n) : strX x n = s ↔ ∀ i, i < n → x i = byt s i := by
  constructor
  · rintro rfl i hi
    exact (strX_byt hx hi).symm
  · intro h
    refine ba_ext (by rw [strX_size, hs]) fun i hi => ?_
    rw [strX_size] at hi
    rw [strX_byt hx hi, h i hi]
theorem bas_inj {s t : ByteArray} (h : s.toList = t.toList) : s = t := by
  rw [ByteArray.toList_eq, ByteArray.toList_eq] at h
  exact bytes_inj h
theorem row_strX {w : World} {p : Option Addr} {g o n c : Nat} {x : Nat → Nat} (h : Row w p g o n c x) : (convert 22 9 (.slice p n c)).run Tryd.prog w = .ok (.string (strX x n)) w := row_string h
theorem tl_cat (f h : Nat → Nat) (n m : Nat) : tl (cat f n h) (n + m) = tl f n ++ tl h m := by
  apply lf_inj
  · simp [tl_length]
  intro i hi
  rw [tl_length] at hi
  rw [lf_tl _ hi, ← lf_cat, tl_length]
  unfold cat
  by_cases h1 : i < n
  · rw [if_pos h1, if_pos h1, lf_tl _ h1]
  · rw [if_neg h1, if_neg h1, lf_tl _ (by omega)]
theorem getsL_var {w : World} {xs : List Nat} {e : Ending} {w' : World} (h : GetsL w xs e w') : ∃ r p g c, e = .returned (.slice p r.length c) ∧ Hid (r = xs) ∧ Own w.heap.size w' p g r.length c (lf r) ∧ Below w.heap.size w w' := by
  obtain ⟨p, g, c, rfl, N, hb⟩ := h
  exact ⟨xs, p, g, c, rfl, Lib.hid rfl, N, hb⟩
end Go.Proofs.YtghjgkgfpblijaaDoor
end
section
set_option linter.unusedSimpArgs false
set_option linter.unusedVariables false
set_option maxRecDepth 100000
namespace Go.Proofs.YtghjgkgfpblijaaDoor
open Go.RowKit Go.Lib Go.Sort

/-- A text's iterator in a block. -/
def ItAt (b : Nat) (s : ByteArray) (pos : Nat) (w : World) : Prop := w.heap[b]? = some (.stringIter s pos)
theorem ItAt.below {b : Nat} {s : ByteArray} {pos : Nat} {w w' : World} (h : ItAt b s pos w) (hb : Below w.heap.size w w') : ItAt b s pos w' := by unfold ItAt at *; rw [hb.block b (heap_lt h)]; exact h
theorem ItAt.only {b c : Nat} {s : ByteArray} {pos : Nat} {w w' : World} (h : ItAt b s pos w) (ho : Only c w w') (hc : b ≠ c) : ItAt b s pos w' := by unfold ItAt at *; exact ho.heap hc h
theorem only_iter {b : Nat} {s : ByteArray} {pos : Nat} {w : World} (h : ItAt b s pos w) (pos' : Nat) : Only b w (w.iterAt b s pos') ∧ ItAt b s pos' (w.iterAt b s pos') := by
  refine ⟨⟨rfl, rfl, rfl, by simp [World.iterAt], fun k hk hne => ?_⟩, Go.Lib.iterAt_heap w b s pos pos' h⟩
  simp only [World.iterAt]
  rw [Array.getElem?_setIfInBounds, if_neg (fun e => hne e.symm)]
theorem Own.it {B g n c b pos : Nat} {p : Option Addr} {x : Nat → Nat} {s : ByteArray} {w w' : World} (N : Own B w p g n c x) (h : ItAt b s pos w) (ho : Only b w w') : Own B w' p g n c x := by
  refine ⟨?_, N.spot, N.byte, Nat.le_trans N.low ho.size⟩
  refine N.own.kept (w' := w') (row := some b) ⟨ho.os, ho.tape, ho.output, ho.size, fun k hk hne => ho.block k hk (fun e => hne (by rw [e]))⟩ ?_
  rcases N.own.2 with ⟨h1, _⟩ | ⟨g', cap, cur, h1, h2, h3, _⟩
  · rw [h1]; exact .inl rfl
  · rw [h1]
    refine .inr fun e => ?_
    have e2 : g' = b := by simpa [Value.ownBlock] using e
    unfold ItAt at h
    rw [e2, h] at h3
    injection h3 with h3
    cases h3
theorem ItAt.grown {B g n c b pos m c' : Nat} {p p' : Option Addr} {x : Nat → Nat} {s : ByteArray} {w w' : World} (h : ItAt b s pos w) (hb : w'.heap[b]? = w.heap[b]?) : ItAt b s pos w' := by unfold ItAt at *; rw [hb]; exact h
section
variable {ops : Array Oper} {rest : List Oper} {Q : Exit → Act → World → Prop} {op : Oper} {a : Act} {w : World}
theorem wpList_range (hw : Region.wanted op (yielded ops a.tmps) = true) (x : Operand) (ho : op.op = .range 9 x) {s : ByteArray} (hx : a.eval x = .string s)
    (k : ∀ b w', Hid (ItAt b s 0 w') → Hid (Below w.heap.size w w' ∧ w.heap.size ≤ b) → wpList Tryd.prog ops Q rest (a.put op.dst (.pointer (some ⟨b, 0, none⟩))) w') : wpList Tryd.prog ops Q (op :: rest) a w := by
  refine wpList_known4 hw (.pointer (some ⟨w.heap.size, 0, none⟩)) (w.alloc (.stringIter s 0)) ?_ (k _ _ (Lib.hid ?_) (Lib.hid ⟨below_new w _, Nat.le_refl _⟩))
  · unfold execOp
    simp only [ho, hx, Instr.range, Sem.run_bind, run_underlying Tryd.underlying9, Result.andThen_ok]
    rfl
  · unfold ItAt
    show (w.heap.push _)[w.heap.size]? = _
    simp
theorem wpList_next (hw : Region.wanted op (yielded ops a.tmps) = true) (x : Operand) (ho : op.op = .next x true) {b pos : Nat} {s : ByteArray} (hx : a.eval x = .pointer (some ⟨b, 0, none⟩)) (I : Hid (ItAt b s pos w)) (h : pos < s.size) (ha : byt s pos < 128)
    (k : ∀ w', Hid (ItAt b s (pos + 1) w') → Hid (Only b w w') → wpList Tryd.prog ops Q rest (a.put op.dst (.tuple #[.bool true, .int .i64 (pos : Int), .int .i32 ((byt s pos : Nat) : Int)])) w') : wpList Tryd.prog ops Q (op :: rest) a w := by
  have ha2 : (s[pos]'h).toNat < 128 := by rw [byt_get]; exact ha
  have hr := Go.Lib.run_next_ascii_at (P := Tryd.prog) w b s pos op.type I.out h ha2
  rw [byt_get] at hr
  obtain ⟨ho2, hi⟩ := only_iter I.out (pos + 1)
  refine wpList_known4 hw _ _ ?_ (k _ (Lib.hid hi) (Lib.hid ho2))
  unfold execOp
  simp only [ho, hx, Sem.run_bind, hr, Result.andThen_ok]
  rfl
theorem wpList_nexth (hw : Region.wanted op (yielded ops a.tmps) = true) (x : Operand) (ho : op.op = .next x true) {b pos : Nat} {s : ByteArray} (hx : a.eval x = .pointer (some ⟨b, 0, none⟩)) (I : Hid (ItAt b s pos w)) (h : pos < s.size) (ha : 128 ≤ byt s pos)
    (k : ∀ (r pos' : Nat) w', Hid (ItAt b s pos' w') → Hid (Only b w w') → 128 ≤ r → wpList Tryd.prog ops Q rest (a.put op.dst (.tuple #[.bool true, .int .i64 (pos : Int), .int .i32 (r : Int)])) w') : wpList Tryd.prog ops Q (op :: rest) a w := by
  have ha2 : 128 ≤ (s[pos]'h).toNat := by rw [byt_get]; exact ha
  have hd := decode_high s pos h ha2
  have hr := Go.Lib.run_next_any_at (P := Tryd.prog) w b s pos op.type I.out h
  obtain ⟨ho2, hi⟩ := only_iter I.out (pos + (Utf8.decode s pos).2)
  have e : (Utf8.decode s pos).1 = (((Utf8.decode s pos).1 : Nat) : Int) := rfl
  refine wpList_known4 hw _ _ ?_ (k (Utf8.decode s pos).1 _ _ (Lib.hid hi) (Lib.hid ho2) hd.1)
  unfold execOp
  simp only [ho, hx, Sem.run_bind, hr, Result.andThen_ok]
  rfl
theorem wpList_nexte (hw : Region.wanted op (yielded ops a.tmps) = true) (x : Operand) (ho : op.op = .next x true) {b pos : Nat} {s : ByteArray} (hx : a.eval x = .pointer (some ⟨b, 0, none⟩)) (I : Hid (ItAt b s pos w)) (h : ¬ pos < s.size)
    (k : wpList Tryd.prog ops Q rest (a.put op.dst (.tuple #[.bool false])) w) : wpList Tryd.prog ops Q (op :: rest) a w := by
  have hr := Go.Lib.run_next_end_at (P := Tryd.prog) w b s pos op.type I.out h
  refine wpList_known4 hw _ _ ?_ k
  unfold execOp
  simp only [ho, hx, Sem.run_bind, hr, Result.andThen_ok]
  rfl
end
section
variable {ops : Array Oper} {rest : List Oper} {Q : Exit → Act → World → Prop} {op : Oper} {a : Act} {w : World}
/-- An append to a slice of the call's own; what other blocks hold. -/
theorem wpList_appg (hw : Region.wanted op (yielded ops a.tmps) = true) (s t : Operand) (ho : op.op = .call { callee := .builtin .append, args := #[s, t], argTypes := #[22, 22] }) {B g n c : Nat} {p : Option Addr} {x : Nat → Nat} (hs : a.eval s = .slice p n c) (N : Hid (Own B w p g n c x))
    {q : Option Addr} {h o m d : Nat} {y : Nat → Nat} (ht : a.eval t = .slice q m d) (R : Hid (Row w q h o m d y)) (hlen : n + m ≤ 140737488355328)
    (k : ∀ p' g' c' w', Hid (Own B w' p' g' (n + m) c' (cat x n y)) → Hid (Below B w w') → Hid (w.grownBy w' ((Value.slice p n c).ownBlock)) → wpList Tryd.prog ops Q rest (a.put op.dst (.slice p' (n + m) c')) w') : wpList Tryd.prog ops Q (op :: rest) a w := by
  refine BigFrame.wpList_want hw fun K hK => ?_
  obtain ⟨i0, hi, hz0, hz1, hz2⟩ := info_parts infoB
  cases q with
  | none =>
    obtain ⟨rfl, rfl⟩ := R.out.nil rfl
    have hrun := run_append_owned_none (P := Tryd.prog) (w := w) B 22 op.type 5 i0 1 Tryd.underlying22 hi _ n _ N.out.own
    refine mo_known (.slice p n c) w ?_ (hK _ _ (k p g c w (Lib.hid (N.out.to (fun i hi => by unfold cat; rw [if_pos hi]) (cat_byte n N.out.byte R.out.byte))) (Lib.hid (Below.refl _ _)) (Lib.hid (World.grownBy.refl _ _))))
    simp [execOp, ho, resolve, invoke, builtin, hs, ht, hrun, Result.andThen]
  | some ad =>
    refine wp_append_own (P := Tryd.prog) w s t 22 ho B 5 i0 (.int .u8 0) 1 1 Tryd.underlying22 hi hz0 hz1 hz2 rfl (by decide) _ _ _ hs N.out.own ad m d (fbs y m) ht (by rw [fbs_length]; omega) ?_ (fbs_one y m) (by unfold maxLen; omega) (by omega) N.out.low ?_
    · intro j u hu
      obtain ⟨hj, rfl⟩ := fbs_get _ _ _ _ hu
      obtain rfl := Option.some.inj (R.out.head (by omega))
      rw [row_add]
      exact R.out.cell j hj
    · intro v' w' hown hgrow hnil
      rw [fbs_cat] at hown
      have hb : Below B w w' := (Below.refl _ _).grown hgrow N.out.low fun k hk => (World.ownsRow.lt N.out.own k hk).1
      obtain ⟨p', g', c', rfl, N'⟩ := own_of hown (cat_byte n N.out.byte R.out.byte) (Nat.le_trans N.out.low hb.size)
      exact hK _ _ (k p' g' c' w' (Lib.hid N') (Lib.hid hb) (Lib.hid hgrow))
end
theorem ItAt.app {B g n c b pos : Nat} {p : Option Addr} {x : Nat → Nat} {s : ByteArray} {w w' : World} (h : ItAt b s pos w) (N : Own B w p g n c x) (hg : w.grownBy w' ((Value.slice p n c).ownBlock)) : ItAt b s pos w' := by
  unfold ItAt at *
  rw [hg.block b (heap_lt h) (fun e => ?_)]
  · exact h
  · rcases N.own.2 with ⟨h1, _⟩ | ⟨g', cap, cur, h1, h2, h3, _⟩
    · rw [h1] at e; cases e
    · rw [h1] at e
      have e2 : b = g' := by simpa [Value.ownBlock] using e
      rw [← e2, h] at h3
      injection h3 with h3
      cases h3
/-- The first place of c among f 0 .. f (n - 1); n, if it stands at none. -/
def ixf (f : Nat → Nat) (c : Nat) : Nat → Nat
  | 0 => 0
  | n + 1 => if ixf f c n < n then ixf f c n else if f n = c then n else n + 1
theorem ixf_miss {f : Nat → Nat} {c : Nat} : ∀ {n : Nat}, (∀ i, i < n → f i ≠ c) → ixf f c n = n
  | 0, _ => rfl
  | n + 1, h => by
    unfold ixf
    rw [ixf_miss (fun i hi => h i (by omega)), if_neg (by omega), if_neg (h n (by omega))]
theorem ixf_hit {f : Nat → Nat} {c q : Nat} (hq : f q = c) (h : ∀ i, i < q → f i ≠ c) : ∀ {n : Nat}, q < n → ixf f c n = q
  | 0, hn => absurd hn (by omega)
  | n + 1, hn => by
    unfold ixf
    rcases Nat.lt_or_ge q n with r | r
    · rw [ixf_hit hq h r, if_pos r]
    · obtain rfl : q = n := by omega
      rw [ixf_miss h, if_neg (by omega), if_pos hq]
theorem ixf_get {f : Nat → Nat} {c : Nat} : ∀ {n : Nat}, ixf f c n < n → f (ixf f c n) = c
  | 0, hn => absurd hn (by omega)
  | n + 1, hn => by
    unfold ixf at hn ⊢
    by_cases h1 : ixf f c n < n
    · rw [if_pos h1]; exact ixf_get h1
    · rw [if_neg h1] at hn ⊢
      by_cases h2 : f n = c
      · rw [if_pos h2]; exact h2
      · rw [if_neg h2] at hn; omega
theorem ixf_le (f : Nat → Nat) (c : Nat) : ∀ n : Nat, ixf f c n ≤ n
  | 0 => Nat.le_refl _
  | n + 1 => by
    unfold ixf
    have := ixf_le f c n
    split
    · omega
    · split <;> omega
/-- Where a byte stands among letters. -/
def ixL (L : ByteArray) (c : Nat) : Nat := ixf (byt L) c L.size
/-- Where a text's bytes stand among letters. -/
def plL (L s : ByteArray) : List Nat := tl (fun i => ixL L (byt s i)) s.size
def AllIn (L s : ByteArray) : Prop := ∀ i, i < s.size → ixL L (byt s i) < L.size
/-- What a call leaves that tells the places. -/
def PlEnd (w : World) (L s : ByteArray) (e : Ending) (w' : World) : Prop := (AllIn L s ∧ ∃ p g c, e = .returned (.tuple #[.slice p s.size c, .bool true]) ∧ Own w.heap.size w' p g s.size c (lf (plL L s)) ∧ Below w.heap.size w w') ∨ (¬ AllIn L s ∧ e = .returned (.tuple #[.slice none 0 0, .bool false]) ∧ Below w.heap.size w w')
set_option maxHeartbeats 16000000 in
theorem places_any (w : World) (s L : ByteArray) (hs : s.size ≤ 1000000) (hL : L.size ≤ 100) (hA : Hid (∀ i, i < L.size → byt L i < 128)) : Calls Tryd.prog 62 #[.string s, .string L] w (PlEnd w L s) := by
  have N0 := Lib.hid (own_nothing w w.heap.size (fun i => ixL L (byt s i)) (fun i => by have := ixf_le (byt L) (byt s i) L.size; unfold ixL; omega) (Nat.le_refl _))
  have B0 := Lib.hid (Below.refl w.heap.size w)
  have F0 := Lib.hid (show ∀ i, i < 0 → ixL L (byt s i) < L.size from fun i h => absurd h (by omega))
  have IB := Lib.hid (show ∀ i, ixL L (byt s i) < 256 from fun i => by have := ixf_le (byt L) (byt s i) L.size; unfold ixL; omega)
  go_enter Tryd.func62, Tryd.ntmps62
  go_wp2
  go_step3
  go_wp2_with (first
    | ((with_reducible refine wpList_at 12 rfl ?_); refine wpList_range rfl (.tmp 11) rfl rfl ?_; intro bo w1 IO HO; replace B0 := Lib.hid (B0.out.trans HO.out.1); replace N0 := Lib.hid (N0.out.below HO.out.1); try simp only [Act.put, List.setIfInBounds_toArray, List.set_cons_zero, List.set_cons_succ]))
  go_step3
  go_wp2_with (first
    | ((with_reducible refine wpList_at 12 rfl ?_); refine wpList_range rfl (.tmp 11) rfl rfl ?_; intro bo w1 IO HO; replace B0 := Lib.hid (B0.out.trans HO.out.1); replace N0 := Lib.hid (N0.out.below HO.out.1); try simp only [Act.put, List.setIfInBounds_toArray, List.set_cons_zero, List.set_cons_succ]))
  go_loopg [6] s.size (fun k s6 wr => ∃ (j g c : Nat) (p : Option Addr), j + k = s.size ∧ s6 = .slice p j c ∧ Hid (ItAt bo s j wr) ∧ Hid (∀ i, i < j → ixL L (byt s i) < L.size) ∧ Hid (Own w.heap.size wr p g j c (fun i => ixL L (byt s i))) ∧ Hid (Below w.heap.size w wr))
  case atStart => exact ⟨0, 0, 0, none, by omega, rfl, IO, F0, N0, B0⟩
  case round =>
    clear N0 B0 F0 IO
    obtain ⟨j, g, c, p, hj, rfl, IO, FF, N, BB⟩ := hrel
    obtain ⟨kk, rfl⟩ : ∃ kk : Nat, kk = gk := ⟨_, rfl⟩
    by_cases hlt : j < s.size
    · have HJ := Lib.hid hlt
      obtain ⟨y, hy⟩ : ∃ y, y = byt s j := ⟨_, rfl⟩
      have RY := Lib.hid hy
      by_cases ha : y < 128
      · obtain ⟨r, hr⟩ : ∃ r, r = y := ⟨_, rfl⟩
        rw [← hr] at RY ha
        have HA2 := Lib.hid (show byt s j < 128 by rw [← RY.out]; exact ha)
        clear hy hr hlt
        go_wp2_with (first
          | ((with_reducible refine wpList_at 13 rfl ?_); refine wpList_next rfl (.tmp 12) rfl rfl IO HJ.out HA2.out ?_; intro w2 IO2 ho2; replace N := Lib.hid (N.out.it IO.out ho2.out); replace BB := Lib.hid (BB.out.trans (ho2.out.below HO.out.2 BB.out.size)); clear IO ho2; have IO := IO2; clear IO2; rw [← RY.out]; try simp only [Act.put, List.setIfInBounds_toArray, List.set_cons_zero, List.set_cons_succ])
          | ((with_reducible refine wpList_at 17 rfl ?_); refine wpList_range rfl (.tmp 16) rfl rfl ?_; intro bi w3 II HI; have IOb := IO; have BBb := BB; replace IO := Lib.hid (IO.out.below HI.out.1); replace N := Lib.hid (N.out.below HI.out.1); replace BB := Lib.hid (BB.out.trans (HI.out.1.mono BB.out.size)); try simp only [Act.put, List.setIfInBounds_toArray, List.set_cons_zero, List.set_cons_succ]))
        have HNE := Lib.hid (show bo ≠ bi from fun e => by have h1 := heap_lt IOb.out; have h2 := HI.out.2; omega)
        have HBI := Lib.hid (show w.heap.size ≤ bi from Nat.le_trans BBb.out.size HI.out.2)
        clear IOb BBb HI
        have MI0 := Lib.hid (show ∀ i, i < 0 → byt L i ≠ r from fun i h => absurd h (by omega))
        go_loopg [6, 18] L.size (fun k s6 s18 wr => ∃ q : Nat, q + k = L.size ∧ s6 = .slice p j c ∧ Hid (ItAt bi L q wr) ∧ Hid (ItAt bo s (j + 1) wr) ∧ Hid (∀ i, i < q → byt L i ≠ r) ∧ Hid (Own w.heap.size wr p g j c (fun i => ixL L (byt s i))) ∧ Hid (Below w.heap.size w wr))
        case atStart => exact ⟨0, by omega, rfl, II, IO, MI0, N, BB⟩
        case round =>
          clear MI0 II IO N BB
          obtain ⟨q, hq, rfl, II, IO, MI, N, BB⟩ := hrel
          obtain ⟨k2, rfl⟩ : ∃ kk : Nat, kk = gk := ⟨_, rfl⟩
          by_cases hlq : q < L.size
          · obtain ⟨z, hzz⟩ : ∃ z, z = byt L q := ⟨_, rfl⟩
            have HZZ := Lib.hid hzz
            have zb : z < 128 := by rw [hzz]; exact hA.out q hlq
            have zb2 : byt L q < 128 := hA.out q hlq
            have HL2 := Lib.hid (And.intro hlq zb2)
            clear zb2
            by_cases hz : z = r
            · subst hz
              have HIT := Lib.hid (show ixL L (byt s j) = q from ixf_hit (by rw [← RY.out, ← hzz]) (fun i hi => by rw [← RY.out]; exact MI.out i hi) hlq)
              have F2 := Lib.hid (show ∀ i, i < j + 1 → ixL L (byt s i) < L.size from fun i hi => by
                rcases Nat.lt_or_ge i j with h | h
                · exact FF.out i h
                · obtain rfl : i = j := by omega
                  rw [HIT.out]; exact hlq)
              clear hzz MI FF RY
              go_wp2_with (first
                | ((with_reducible refine wpList_at 18 rfl ?_); refine wpList_next rfl (.tmp 17) rfl rfl II HL2.out.1 HL2.out.2 ?_; intro w5 II5 ho5; replace N := Lib.hid (N.out.it II.out ho5.out); replace IO := Lib.hid (IO.out.only ho5.out HNE.out); replace BB := Lib.hid (BB.out.trans (ho5.out.below HBI.out BB.out.size)); clear II ho5; have II := II5; clear II5; rw [← HZZ.out]; try simp only [Act.put, List.setIfInBounds_toArray, List.set_cons_zero, List.set_cons_succ])
                | ((with_reducible refine wpList_at 28 rfl ?_); refine wpList_b1 rfl _ rfl (.int .u8 (q : Int)) (v := q) (by kernel_rfl) rfl (by omega) ?_; intro b7 w7 R7 hb7; replace N := Lib.hid (N.out.below hb7.out); replace IO := Lib.hid (IO.out.below hb7.out); replace BB := Lib.hid (BB.out.trans (hb7.out.mono BB.out.size)); clear hb7; try simp only [Act.put, List.setIfInBounds_toArray, List.set_cons_zero, List.set_cons_succ])
                | ((with_reducible refine wpList_at 29 rfl ?_); refine wpList_appg rfl (.tmp 25) (.tmp 28) rfl rfl N rfl R7 (by omega) ?_; intro p8 g8 c8 w8 N8 hb8 hg8; replace IO := Lib.hid (IO.out.app N.out hg8.out); clear N R7 hg8; have N := N8; clear N8; replace BB := Lib.hid (BB.out.trans hb8.out); clear hb8; try simp only [Act.put, List.setIfInBounds_toArray, List.set_cons_zero, List.set_cons_succ]))
              have N2 := Lib.hid (N.out.to (y := fun i => ixL L (byt s i)) (fun i hi => by
                unfold cat
                by_cases h : i < j
                · rw [if_pos h]
                · rw [if_neg h, show i = j by omega, HIT.out]) IB.out)
              clear N
              go_roundg (s.size - (j + 1))
              case measure => (have := HJ.out; omega)
              case rel => exact ⟨j + 1, g8, c8, p8, by have := HJ.out; omega, rfl, IO, F2, N2, BB⟩
            · have b1 : ((r : Int) == (z : Int)) = false := by simpa using (show ¬ ((r : Int) = (z : Int)) by omega)
              have M2 := Lib.hid (show ∀ i, i < q + 1 → byt L i ≠ r from fun i hi => by
                rcases Nat.lt_or_ge i q with h | h
                · exact MI.out i h
                · obtain rfl : i = q := by omega
                  rw [← hzz]; exact hz)
              clear hzz MI hz
              go_wp2_with (((with_reducible refine wpList_at 18 rfl ?_); refine wpList_next rfl (.tmp 17) rfl rfl II HL2.out.1 HL2.out.2 ?_; intro w5 II5 ho5; replace N := Lib.hid (N.out.it II.out ho5.out); replace IO := Lib.hid (IO.out.only ho5.out HNE.out); replace BB := Lib.hid (BB.out.trans (ho5.out.below HBI.out BB.out.size)); clear II ho5; have II := II5; clear II5; rw [← HZZ.out]; try simp only [Act.put, List.setIfInBounds_toArray, List.set_cons_zero, List.set_cons_succ]))
              go_roundg (L.size - (q + 1))
              case measure => omega
              case rel => exact ⟨q + 1, by omega, rfl, II, IO, M2, N, BB⟩
          · obtain rfl : q = L.size := by omega
            have NO := Lib.hid (show ¬ AllIn L s from fun h => by
              have h1 := h j HJ.out
              have h2 : ixL L (byt s j) = L.size := ixf_miss (fun i hi => by rw [← RY.out]; exact MI.out i hi)
              omega)
            clear MI FF
            go_wp2_with (((with_reducible refine wpList_at 18 rfl ?_); refine wpList_nexte rfl (.tmp 17) rfl rfl II (by omega) ?_; try simp only [Act.put, List.setIfInBounds_toArray, List.set_cons_zero, List.set_cons_succ]))
            try rw [Exit.noGoto_ret]
            go_ret2
            exact .inr ⟨NO.out, rfl, BB.out⟩
      · have HA2 := Lib.hid (show 128 ≤ byt s j by rw [← RY.out]; omega)
        have hyb : 128 ≤ y := by omega
        clear ha hlt
        go_wp2_with (first
          | ((with_reducible refine wpList_at 13 rfl ?_); refine wpList_nexth rfl (.tmp 12) rfl rfl IO HJ.out HA2.out ?_; intro r pj w2 IO2 ho2 hr; replace N := Lib.hid (N.out.it IO.out ho2.out); replace BB := Lib.hid (BB.out.trans (ho2.out.below HO.out.2 BB.out.size)); clear IO ho2; have IO := IO2; clear IO2; try simp only [Act.put, List.setIfInBounds_toArray, List.set_cons_zero, List.set_cons_succ])
          | ((with_reducible refine wpList_at 17 rfl ?_); refine wpList_range rfl (.tmp 16) rfl rfl ?_; intro bi w3 II HI; have IOb := IO; have BBb := BB; replace IO := Lib.hid (IO.out.below HI.out.1); replace N := Lib.hid (N.out.below HI.out.1); replace BB := Lib.hid (BB.out.trans (HI.out.1.mono BB.out.size)); try simp only [Act.put, List.setIfInBounds_toArray, List.set_cons_zero, List.set_cons_succ]))
        have HNE := Lib.hid (show bo ≠ bi from fun e => by have h1 := heap_lt IOb.out; have h2 := HI.out.2; omega)
        have HBI := Lib.hid (show w.heap.size ≤ bi from Nat.le_trans BBb.out.size HI.out.2)
        clear IOb BBb HI
        have MI0 := Lib.hid (show ∀ i, i < 0 → byt L i ≠ r from fun i h => absurd h (by omega))
        go_loopg [6, 18] L.size (fun k s6 s18 wr => ∃ q : Nat, q + k = L.size ∧ s6 = .slice p j c ∧ Hid (ItAt bi L q wr) ∧ Hid (ItAt bo s pj wr) ∧ Hid (∀ i, i < q → byt L i ≠ r) ∧ Hid (Own w.heap.size wr p g j c (fun i => ixL L (byt s i))) ∧ Hid (Below w.heap.size w wr))
        case atStart => exact ⟨0, by omega, rfl, II, IO, MI0, N, BB⟩
        case round =>
          clear MI0 II IO N BB
          obtain ⟨q, hq, rfl, II, IO, MI, N, BB⟩ := hrel
          obtain ⟨k2, rfl⟩ : ∃ kk : Nat, kk = gk := ⟨_, rfl⟩
          by_cases hlq : q < L.size
          · obtain ⟨z, hzz⟩ : ∃ z, z = byt L q := ⟨_, rfl⟩
            have HZZ := Lib.hid hzz
            have zb : z < 128 := by rw [hzz]; exact hA.out q hlq
            have zb2 : byt L q < 128 := hA.out q hlq
            have HL2 := Lib.hid (And.intro hlq zb2)
            clear zb2
            have hz : ¬ z = r := by omega
            have b1 : ((r : Int) == (z : Int)) = false := by simpa using (show ¬ ((r : Int) = (z : Int)) by omega)
            have M2 := Lib.hid (show ∀ i, i < q + 1 → byt L i ≠ r from fun i hi => by
              rcases Nat.lt_or_ge i q with h | h
              · exact MI.out i h
              · obtain rfl : i = q := by omega
                rw [← hzz]; exact hz)
            clear hzz MI hz
            go_wp2_with (((with_reducible refine wpList_at 18 rfl ?_); refine wpList_next rfl (.tmp 17) rfl rfl II HL2.out.1 HL2.out.2 ?_; intro w5 II5 ho5; replace N := Lib.hid (N.out.it II.out ho5.out); replace IO := Lib.hid (IO.out.only ho5.out HNE.out); replace BB := Lib.hid (BB.out.trans (ho5.out.below HBI.out BB.out.size)); clear II ho5; have II := II5; clear II5; rw [← HZZ.out]; try simp only [Act.put, List.setIfInBounds_toArray, List.set_cons_zero, List.set_cons_succ]))
            go_roundg (L.size - (q + 1))
            case measure => omega
            case rel => exact ⟨q + 1, by omega, rfl, II, IO, M2, N, BB⟩
          · obtain rfl : q = L.size := by omega
            have NO := Lib.hid (show ¬ AllIn L s from fun h => by
              have h1 := h j HJ.out
              have h2 : ixL L (byt s j) = L.size := ixf_miss (fun i hi => by have := hA.out i hi; omega)
              omega)
            clear MI FF
            go_wp2_with (((with_reducible refine wpList_at 18 rfl ?_); refine wpList_nexte rfl (.tmp 17) rfl rfl II (by omega) ?_; try simp only [Act.put, List.setIfInBounds_toArray, List.set_cons_zero, List.set_cons_succ]))
            try rw [Exit.noGoto_ret]
            go_ret2
            exact .inr ⟨NO.out, rfl, BB.out⟩
    · obtain rfl : j = s.size := by omega
      have AL := Lib.hid (show AllIn L s from FF.out)
      clear FF
      go_wp2_with (((with_reducible refine wpList_at 13 rfl ?_); refine wpList_nexte rfl (.tmp 12) rfl rfl IO (by omega) ?_; try simp only [Act.put, List.setIfInBounds_toArray, List.set_cons_zero, List.set_cons_succ]))
      try rw [Exit.noGoto_ret]
      go_ret2
      exact .inl ⟨AL.out, p, g, c, rfl, N.out.to (fun i hi => by unfold plL; rw [lf_tl _ hi]) (lf_lt fun v hv => by
        unfold plL at hv
        obtain ⟨i, _, rfl⟩ := List.mem_map.1 hv
        exact IB.out i), BB.out⟩
end Go.Proofs.YtghjgkgfpblijaaDoor
end
section
set_option linter.unusedSimpArgs false
set_option linter.unusedVariables false
set_option maxRecDepth 100000
namespace Go.Proofs.YtghjgkgfpblijaaDoor
open Go.ChangeShapes Go.WideShapes Go.RowKit Go.Lib Go.Sort

theorem pow_le8 {c o : Nat} (h : c ≤ o) : 2 ^ c ≤ 2 ^ o := Nat.pow_le_pow_right (by omega) h
theorem or_low {a y w : Nat} (hy : y < 2 ^ w) : a * 2 ^ w ||| y = a * 2 ^ w + y := by
  rw [Nat.mul_comm]
  exact (Nat.two_pow_add_eq_or_of_lt hy a).symm
theorem lf_snoc (f : Nat → Nat) (L v : Nat) {i : Nat} (h : i < L + 1) : lf (tl f L ++ [v]) i = if i < L then f i else v := by
  have e : (tl f L ++ [v]).length = L + 1 := by simp [tl_length]
  rw [← lf_cat, tl_length]
  unfold cat
  by_cases q : i < L
  · rw [if_pos q, if_pos q, lf_tl _ q]
  · rw [if_neg q, if_neg q, show i - L = 0 by omega]; rfl
set_option maxHeartbeats 16000000 in
theorem regroup85_any {w : World} {p : Option Addr} {g o n cc : Nat} {x : Nat → Nat} (R : Hid (Row w p g o n cc x)) (hn : n ≤ 1000) (hx : Hid (∀ i, i < n → x i < 256)) : Calls Tryd.prog 39 #[.slice p n cc, .int .i64 8, .int .i64 5] w (GetsL w (grp 8 5 (tl x n))) := by
  go_enter Tryd.func39, Tryd.ntmps39
  go_wp2
  have N0 := Lib.hid (own_nothing w w.heap.size (gI 5 0 0) (fun i => Nat.lt_of_lt_of_le (gI_lt 5 0 0 i) (by decide)) (Nat.le_refl _))
  have B0 := Lib.hid (Below.refl w.heap.size w)
  go_loopg [7, 8, 9, 14] n (fun k s7 s8 s9 i wr => ∃ (j L c H V T c1 g1 : Nat) (p1 : Option Addr), j + k = n ∧ L ≤ 2 * j ∧ c < 5 ∧ H < 256 ∧ i = .int .i64 (j : Int) ∧ s9 = .int .i64 (c : Int) ∧ s8 = .int .u32 (H : Int) ∧ s7 = .slice p1 L c1 ∧ Hid (V = acc 256 (tl x j) ∧ T = 8 * j ∧ T = 5 * L + c ∧ H = V % 2 ^ c) ∧ Hid (Own w.heap.size wr p1 g1 L c1 (gI 5 V T)) ∧ Hid (Below w.heap.size w wr))
  case atStart => exact ⟨0, 0, 0, 0, 0, 0, 0, 0, none, by omega, by omega, by omega, by omega, rfl, rfl, rfl, rfl, Lib.hid ⟨rfl, rfl, rfl, rfl⟩, N0, B0⟩
  case round =>
    clear N0 B0
    obtain ⟨j, L, c, H, V, T, c1, g1, p1, hj, hL, hc, hH, rfl, rfl, rfl, rfl, D, N, BB⟩ := hrel
    obtain ⟨kk, rfl⟩ : ∃ kk : Nat, kk = gk := ⟨_, rfl⟩
    obtain ⟨wo, rfl⟩ : ∃ wo : World, wo = wr := ⟨_, rfl⟩
    by_cases hlt : j < n
    · obtain rfl := R.out.head (by omega)
      have HLT := Lib.hid hlt
      have xb := hx.out j hlt
      obtain ⟨y, hy⟩ : ∃ y, y = x j := ⟨_, rfl⟩
      have CL := Lib.hid (show wo.cell? ⟨g, o + j, none⟩ = some (.int .u8 (y : Int)) by rw [hy]; exact (R.out.below BB.out).cell j hlt)
      rw [← hy] at xb
      obtain ⟨V2, hV2⟩ : ∃ V2, V2 = V * 256 + y := ⟨_, rfl⟩
      obtain ⟨T2, hT2⟩ : ∃ T2, T2 = T + 8 := ⟨_, rfl⟩
      obtain ⟨c2, hc2⟩ : ∃ c2, c2 = c + 8 := ⟨_, rfl⟩
      obtain ⟨H2, hH2⟩ : ∃ H2, H2 = H * 256 + y := ⟨_, rfl⟩
      have H2b : H2 < 65536 := by omega
      have D2 := Lib.hid (show V2 = acc 256 (tl x (j + 1)) ∧ T2 = 8 * (j + 1) ∧ T2 = 5 * L + c2 ∧ H2 = V2 % 2 ^ c2 from ⟨by rw [tl_succ, acc_snoc, ← D.out.1, ← hy, hV2], by have := D.out.2.1; omega, by have := D.out.2.2.1; omega, by
        rw [hH2, D.out.2.2.2, hV2, hc2]
        exact held_more (w := 8) xb⟩)
      have N2 := Lib.hid (N.out.to (y := gI 5 V2 T2) (fun i hi => by
        rw [hV2, hT2]
        refine (gI_more (w := 8) xb ?_).symm
        have h1 : 5 * (i + 1) ≤ 5 * L := Nat.mul_le_mul_left 5 hi
        have := D.out.2.2.1
        omega) (fun i => Nat.lt_of_lt_of_le (gI_lt 5 V2 T2 i) (by decide)))
      have X1 := Lib.hid (show H * 2 ^ 8 % 4294967296 = H * 256 by show H * 256 % 4294967296 = _; omega)
      have X2 := Lib.hid (show H * 256 ||| y = H2 by rw [hH2]; exact or_low (w := 8) xb)
      have X3 := Lib.hid (show H * 256 < 4294967296 ∧ y < 4294967296 ∧ y < 256 by omega)
      have X4 := Lib.hid (show c + 8 = c2 ∧ c2 < 9223372036854775808 by omega)
      have hc2b : c2 ≤ 20 := by omega
      clear hy hV2 hT2 hH2 hc2 D N xb hH
      go_wp2_with (first
        | ((with_reducible refine wpList_at 16 rfl ?_); refine wpList_ix (k := 1) (j := j) Tryd.underlying22 (by kernel_rfl) (.tmp 12) (.tmp 14) rfl rfl rfl rfl HLT.out rfl ?_; rw [Nat.mul_one]; try simp only [Act.put, List.setIfInBounds_toArray, List.set_cons_zero, List.set_cons_succ])
        | ((with_reducible refine wpList_at 17 rfl ?_); refine wpList_ld1 5 (.tmp 16) rfl rfl rfl Tryd.underlying5 rfl CL.out ?_; try simp only [Act.put, List.setIfInBounds_toArray, List.set_cons_zero, List.set_cons_succ])
        | ((with_reducible refine wpList_at 20 rfl ?_); refine wpList_known4 rfl (.int .u32 ((H * 256 : Nat) : Int)) _ (by exact exec_shl32v (n := H) (k := 8) (r := H * 256) rfl rfl rfl (by decide) X1.out) ?_; try simp only [Act.put, List.setIfInBounds_toArray, List.set_cons_zero, List.set_cons_succ])
        | ((with_reducible refine wpList_at 22 rfl ?_); refine wpList_known4 rfl (.int .u32 (y : Int)) _ (by exact exec_cv832 (n := y) rfl rfl X3.out.2.2) ?_; try simp only [Act.put, List.setIfInBounds_toArray, List.set_cons_zero, List.set_cons_succ])
        | ((with_reducible refine wpList_at 23 rfl ?_); refine wpList_known4 rfl (.int .u32 (H2 : Int)) _ (by exact exec_or32v (a := H * 256) (b := y) (r := H2) rfl rfl rfl X3.out.1 X3.out.2.1 X2.out) ?_; try simp only [Act.put, List.setIfInBounds_toArray, List.set_cons_zero, List.set_cons_succ])
        | ((with_reducible refine wpList_at 26 rfl ?_); refine wpList_known4 rfl (.int .i64 (c2 : Int)) _ (by exact exec_add3v (a := c) (b := 8) (r := c2) rfl rfl rfl X4.out.1 X4.out.2) ?_; try simp only [Act.put, List.setIfInBounds_toArray, List.set_cons_zero, List.set_cons_succ]))
      clear CL X1 X2 X3 X4
      go_loopg [7, 8, 9] c2 (fun k s7 s8 s9 wr => ∃ (L c H c1 g1 : Nat) (p1 : Option Addr), c ≤ k ∧ c ≤ 20 ∧ L ≤ 2 * j + 4 ∧ H < 65536 ∧ s9 = .int .i64 (c : Int) ∧ s8 = .int .u32 (H : Int) ∧ s7 = .slice p1 L c1 ∧ Hid (T2 = 5 * L + c ∧ H = V2 % 2 ^ c) ∧ Hid (Own w.heap.size wr p1 g1 L c1 (gI 5 V2 T2)) ∧ Hid (Below w.heap.size w wr))
      case atStart => exact ⟨L, c2, H2, c1, g1, p1, Nat.le_refl _, hc2b, by omega, H2b, rfl, rfl, rfl, Lib.hid ⟨D2.out.2.2.1, D2.out.2.2.2⟩, N2, BB⟩
      case round =>
        clear N2 BB
        obtain ⟨L, c, H, c1, g1, p1, hck, hcb, hL2, hH, rfl, rfl, rfl, E, N, BB⟩ := hrel
        obtain ⟨k2, rfl⟩ : ∃ kk : Nat, kk = gk := ⟨_, rfl⟩
        have T2b := Lib.hid (show T2 ≤ 8 * n by have := D2.out.2.1; omega)
        by_cases hq : 5 ≤ c
        · obtain ⟨c3, hc3⟩ : ∃ c3, c3 = c - 5 := ⟨_, rfl⟩
          obtain ⟨v, hv⟩ : ∃ v, v = gI 5 V2 T2 L := ⟨_, rfl⟩
          have vb : v < 32 := by rw [hv]; exact gI_lt _ _ _ _
          obtain ⟨H3, hH3⟩ : ∃ H3, H3 = V2 % 2 ^ c3 := ⟨_, rfl⟩
          have hLn : L ≤ 2 * n + 4 := by omega
          have e1 : 5 * (L + 1) ≤ T2 := by have := E.out.1; omega
          have e2 : T2 - 5 * L = c ∧ T2 - 5 * (L + 1) = c3 := by have := E.out.1; omega
          have ho := held_out (V := V2) e1
          rw [e2.1, e2.2, ← E.out.2, ← hv, ← hH3] at ho
          have H3b : H3 < 65536 := by rw [← ho.2]; exact Nat.lt_of_le_of_lt (Nat.mod_le _ _) hH
          have Y1 := Lib.hid (show 5 ≤ c ∧ c < 9223372036854775808 ∧ c - 5 = c3 by omega)
          have Y2 := Lib.hid ho.1
          have Y3 := Lib.hid (show v % 256 = v by omega)
          have p3 : 2 ^ c3 ≤ 2 ^ 20 := pow_le8 (by omega)
          have p4 : 0 < 2 ^ c3 := Nat.pow_pos (by omega)
          obtain ⟨P, hP⟩ : ∃ P, P = 2 ^ c3 := ⟨_, rfl⟩
          have Y4 := Lib.hid (show 1 * 2 ^ c3 % 4294967296 = P by rw [hP]; have : (2 : Nat) ^ 20 = 1048576 := by decide
                                                                  omega)
          have Y5 := Lib.hid (show 1 ≤ P ∧ P < 4294967296 by rw [hP]; have : (2 : Nat) ^ 20 = 1048576 := by decide
                                                             omega)
          have Y6 := Lib.hid (show H &&& (P - 1) = H3 by rw [hP, Nat.and_two_pow_sub_one_eq_mod]; exact ho.2)
          have Y7 := Lib.hid (show c3 < 32 ∧ H < 4294967296 ∧ P - 1 < 4294967296 by have := Y5.out; omega)
          have E3 := Lib.hid (show T2 = 5 * (L + 1) + c3 ∧ H3 = V2 % 2 ^ c3 from ⟨by have := E.out.1; omega, hH3⟩)
          have VB := Lib.hid (show v < 256 by omega)
          have HV := Lib.hid hv
          clear p3 p4 hP hH3 hv ho e1 e2 hH E
          go_wp2_with (first
            | ((with_reducible refine wpList_at 32 rfl ?_); refine wpList_known4 rfl (.int .i64 (c3 : Int)) _ (by exact exec_sub3v (a := c) (b := 5) (r := c3) rfl rfl rfl Y1.out.1 Y1.out.2.1 Y1.out.2.2) ?_; try simp only [Act.put, List.setIfInBounds_toArray, List.set_cons_zero, List.set_cons_succ])
            | ((with_reducible refine wpList_at 36 rfl ?_); refine wpList_known4 rfl (.int .u32 (v : Int)) _ (by exact exec_shr32v (n := H) (k := c3) (r := v) rfl rfl rfl Y7.out.1 Y2.out) ?_; try simp only [Act.put, List.setIfInBounds_toArray, List.set_cons_zero, List.set_cons_succ])
            | ((with_reducible refine wpList_at 37 rfl ?_); refine wpList_known4 rfl (.int .u8 (v : Int)) _ (by exact exec_cv328 (n := v) (r := v) rfl rfl Y3.out) ?_; try simp only [Act.put, List.setIfInBounds_toArray, List.set_cons_zero, List.set_cons_succ])
            | ((with_reducible refine wpList_at 38 rfl ?_); refine wpList_b1 rfl _ rfl (.int .u8 (v : Int)) (v := v) (by kernel_rfl) rfl VB.out ?_; intro b7 w7 R7 hb7; replace N := Lib.hid (N.out.below hb7.out); replace BB := Lib.hid (BB.out.trans (hb7.out.mono BB.out.size)); clear hb7; try simp only [Act.put, List.setIfInBounds_toArray, List.set_cons_zero, List.set_cons_succ])
            | ((with_reducible refine wpList_at 39 rfl ?_); refine wpList_app (.inl rfl) (.tmp 33) (.tmp 38) rfl rfl N rfl R7 (by omega) ?_; clear N R7; intro p8 g8 c8 w8 N hb8; replace BB := Lib.hid (BB.out.trans hb8.out); clear hb8; try simp only [Act.put, List.setIfInBounds_toArray, List.set_cons_zero, List.set_cons_succ])
            | ((with_reducible refine wpList_at 42 rfl ?_); refine wpList_known4 rfl (.int .u32 (P : Int)) _ (by exact exec_shl32v (n := 1) (k := c3) (r := P) rfl rfl rfl Y7.out.1 Y4.out) ?_; try simp only [Act.put, List.setIfInBounds_toArray, List.set_cons_zero, List.set_cons_succ])
            | ((with_reducible refine wpList_at 43 rfl ?_); refine wpList_known4 rfl (.int .u32 ((P - 1 : Nat) : Int)) _ (by exact exec_sub32v (a := P) (b := 1) (r := P - 1) rfl rfl rfl Y5.out.1 Y5.out.2 rfl) ?_; try simp only [Act.put, List.setIfInBounds_toArray, List.set_cons_zero, List.set_cons_succ])
            | ((with_reducible refine wpList_at 44 rfl ?_); refine wpList_known4 rfl (.int .u32 (H3 : Int)) _ (by exact exec_and32v (a := H) (b := P - 1) (r := H3) rfl rfl rfl Y7.out.2.1 Y7.out.2.2 Y6.out) ?_; try simp only [Act.put, List.setIfInBounds_toArray, List.set_cons_zero, List.set_cons_succ]))
          have N2 := Lib.hid (N.out.to (y := gI 5 V2 T2) (fun i hi => by
            unfold cat
            by_cases h : i < L
            · rw [if_pos h]
            · rw [if_neg h, show i = L by omega]; exact HV.out) (fun i => Nat.lt_of_lt_of_le (gI_lt 5 V2 T2 i) (by decide)))
          clear N HV Y1 Y2 Y3 Y4 Y5 Y6 Y7 VB
          go_roundg (c - 5)
          case measure => omega
          case rel => exact ⟨L + 1, c3, H3, c8, g8, p8, by omega, by omega, by have := E3.out.1; have := D2.out.2.1; omega, H3b, rfl, rfl, by go_num, E3, N2, BB⟩
        · have HH := Lib.hid (show H < 256 by
            rw [E.out.2]
            exact Nat.lt_of_lt_of_le (held_lt V2 c) (Nat.le_trans (pow_le8 (show c ≤ 8 by omega)) (by decide)))
          have D3 := Lib.hid (show V2 = acc 256 (tl x (j + 1)) ∧ T2 = 8 * (j + 1) ∧ T2 = 5 * L + c ∧ H = V2 % 2 ^ c from ⟨D2.out.1, D2.out.2.1, E.out.1, E.out.2⟩)
          clear E D2
          go_wp2
          go_roundg (n - (j + 1))
          case measure => omega
          case rel => exact ⟨j + 1, L, c, H, V2, T2, c1, g1, p1, by omega, by have := D3.out.2.1; have := D3.out.2.2.1; omega, by omega, HH.out, by go_num, rfl, rfl, rfl, D3, N, BB⟩
    · obtain rfl : j = n := by omega
      have hg : grp 8 5 (tl x j) = tl (gI 5 V T) L ++ if 0 < c then [V % 2 ^ c * 2 ^ (5 - c)] else [] := by
        have h1 : T / 5 = L ∧ T % 5 = c := by have := D.out.2.2.1; omega
        unfold grp grpX
        rw [tl_length, show 8 * j = T from D.out.2.1.symm, h1.1, h1.2]
        rw [show acc (2 ^ 8) (tl x j) = V from D.out.1.symm]
      by_cases hc0 : 0 < c
      · rw [if_pos hc0, ← D.out.2.2.2] at hg
        obtain ⟨z, hz⟩ : ∃ z, z = H * 2 ^ (5 - c) := ⟨_, rfl⟩
        rw [← hz] at hg
        have zb : z < 32 := by
          have h1 : H < 2 ^ c := by rw [D.out.2.2.2]; exact held_lt _ _
          have h2 : H * 2 ^ (5 - c) < 2 ^ c * 2 ^ (5 - c) := Nat.mul_lt_mul_of_pos_right h1 (Nat.pow_pos (by omega))
          rw [← Nat.pow_add, show c + (5 - c) = 5 by omega] at h2
          rw [hz]; exact h2
        obtain ⟨d, hd⟩ : ∃ d, d = 5 - c := ⟨_, rfl⟩
        have Y1 := Lib.hid (show c ≤ 5 ∧ 5 < 9223372036854775808 ∧ 5 - c = d by omega)
        have Y2 := Lib.hid (show d < 32 ∧ H * 2 ^ d % 4294967296 = z by rw [hd, ← hz]; omega)
        have Y3 := Lib.hid (show z % 256 = z ∧ z < 256 by omega)
        have HG := Lib.hid hg
        clear D hz hd hg
        go_wp2_with (first
          | ((with_reducible refine wpList_at 52 rfl ?_); refine wpList_known4 rfl (.int .i64 (d : Int)) _ (by exact exec_sub3v (a := 5) (b := c) (r := d) rfl rfl rfl Y1.out.1 Y1.out.2.1 Y1.out.2.2) ?_; try simp only [Act.put, List.setIfInBounds_toArray, List.set_cons_zero, List.set_cons_succ])
          | ((with_reducible refine wpList_at 53 rfl ?_); refine wpList_known4 rfl (.int .u32 (z : Int)) _ (by exact exec_shl32v (n := H) (k := d) (r := z) rfl rfl rfl Y2.out.1 Y2.out.2) ?_; try simp only [Act.put, List.setIfInBounds_toArray, List.set_cons_zero, List.set_cons_succ])
          | ((with_reducible refine wpList_at 54 rfl ?_); refine wpList_known4 rfl (.int .u8 (z : Int)) _ (by exact exec_cv328 (n := z) (r := z) rfl rfl Y3.out.1) ?_; try simp only [Act.put, List.setIfInBounds_toArray, List.set_cons_zero, List.set_cons_succ])
          | ((with_reducible refine wpList_at 55 rfl ?_); refine wpList_b1 rfl _ rfl (.int .u8 (z : Int)) (v := z) (by kernel_rfl) rfl Y3.out.2 ?_; intro b7 w7 R7 hb7; replace N := Lib.hid (N.out.below hb7.out); replace BB := Lib.hid (BB.out.trans (hb7.out.mono BB.out.size)); clear hb7; try simp only [Act.put, List.setIfInBounds_toArray, List.set_cons_zero, List.set_cons_succ])
          | ((with_reducible refine wpList_at 56 rfl ?_); refine wpList_app (.inl rfl) (.tmp 48) (.tmp 55) rfl rfl N rfl R7 (by omega) ?_; clear N R7; intro p8 g8 c8 w8 N hb8; replace BB := Lib.hid (BB.out.trans hb8.out); clear hb8; try simp only [Act.put, List.setIfInBounds_toArray, List.set_cons_zero, List.set_cons_succ]))
        go_ret
        have hl : (tl (gI 5 V T) L ++ [z]).length = L + 1 := by simp [tl_length]
        refine ⟨p8, g8, c8, by rw [HG.out, hl]; rfl, ?_, BB.out⟩
        rw [HG.out, hl]
        refine N.out.to (fun i hi => ?_) (fun i => lf_lt (fun v hv => by
          rcases List.mem_append.1 hv with q | q
          · obtain ⟨i, _, rfl⟩ := List.mem_map.1 q
            exact Nat.lt_of_lt_of_le (gI_lt _ _ _ _) (by decide)
          · simp at q; rw [q]; exact Y3.out.2) i)
        rw [lf_snoc _ _ _ hi]
        rfl
      · rw [if_neg hc0, List.append_nil] at hg
        have HG := Lib.hid hg
        clear D hg
        go_wp2
        go_ret
        refine ⟨p1, g1, c1, by rw [HG.out, tl_length]; rfl, ?_, BB.out⟩
        rw [HG.out, tl_length]
        exact N.out.to (fun i hi => (lf_tl _ hi).symm) (fun i => lf_lt (fun v hv => by
          obtain ⟨i, _, rfl⟩ := List.mem_map.1 hv
          exact Nat.lt_of_lt_of_le (gI_lt _ _ _ _) (by decide)) i)
set_option maxHeartbeats 16000000 in
theorem regroup58_any {w : World} {p : Option Addr} {g o n cc : Nat} {x : Nat → Nat} (R : Hid (Row w p g o n cc x)) (hn : n ≤ 1000) (hx : Hid (∀ i, i < n → x i < 32)) : Calls Tryd.prog 39 #[.slice p n cc, .int .i64 5, .int .i64 8] w (GetsL w (grp 5 8 (tl x n))) := by
  go_enter Tryd.func39, Tryd.ntmps39
  go_wp2
  have N0 := Lib.hid (own_nothing w w.heap.size (gI 8 0 0) (fun i => Nat.lt_of_lt_of_le (gI_lt 8 0 0 i) (by decide)) (Nat.le_refl _))
  have B0 := Lib.hid (Below.refl w.heap.size w)
  go_loopg [7, 8, 9, 14] n (fun k s7 s8 s9 i wr => ∃ (j L c H V T c1 g1 : Nat) (p1 : Option Addr), j + k = n ∧ L ≤ 2 * j ∧ c < 8 ∧ H < 256 ∧ i = .int .i64 (j : Int) ∧ s9 = .int .i64 (c : Int) ∧ s8 = .int .u32 (H : Int) ∧ s7 = .slice p1 L c1 ∧ Hid (V = acc 32 (tl x j) ∧ T = 5 * j ∧ T = 8 * L + c ∧ H = V % 2 ^ c) ∧ Hid (Own w.heap.size wr p1 g1 L c1 (gI 8 V T)) ∧ Hid (Below w.heap.size w wr))
  case atStart => exact ⟨0, 0, 0, 0, 0, 0, 0, 0, none, by omega, by omega, by omega, by omega, rfl, rfl, rfl, rfl, Lib.hid ⟨rfl, rfl, rfl, rfl⟩, N0, B0⟩
  case round =>
    clear N0 B0
    obtain ⟨j, L, c, H, V, T, c1, g1, p1, hj, hL, hc, hH, rfl, rfl, rfl, rfl, D, N, BB⟩ := hrel
    obtain ⟨kk, rfl⟩ : ∃ kk : Nat, kk = gk := ⟨_, rfl⟩
    obtain ⟨wo, rfl⟩ : ∃ wo : World, wo = wr := ⟨_, rfl⟩
    by_cases hlt : j < n
    · obtain rfl := R.out.head (by omega)
      have HLT := Lib.hid hlt
      have xb := hx.out j hlt
      obtain ⟨y, hy⟩ : ∃ y, y = x j := ⟨_, rfl⟩
      have CL := Lib.hid (show wo.cell? ⟨g, o + j, none⟩ = some (.int .u8 (y : Int)) by rw [hy]; exact (R.out.below BB.out).cell j hlt)
      rw [← hy] at xb
      obtain ⟨V2, hV2⟩ : ∃ V2, V2 = V * 32 + y := ⟨_, rfl⟩
      obtain ⟨T2, hT2⟩ : ∃ T2, T2 = T + 5 := ⟨_, rfl⟩
      obtain ⟨c2, hc2⟩ : ∃ c2, c2 = c + 5 := ⟨_, rfl⟩
      obtain ⟨H2, hH2⟩ : ∃ H2, H2 = H * 32 + y := ⟨_, rfl⟩
      have H2b : H2 < 65536 := by omega
      have D2 := Lib.hid (show V2 = acc 32 (tl x (j + 1)) ∧ T2 = 5 * (j + 1) ∧ T2 = 8 * L + c2 ∧ H2 = V2 % 2 ^ c2 from ⟨by rw [tl_succ, acc_snoc, ← D.out.1, ← hy, hV2], by have := D.out.2.1; omega, by have := D.out.2.2.1; omega, by
        rw [hH2, D.out.2.2.2, hV2, hc2]
        exact held_more (w := 5) xb⟩)
      have N2 := Lib.hid (N.out.to (y := gI 8 V2 T2) (fun i hi => by
        rw [hV2, hT2]
        refine (gI_more (w := 5) xb ?_).symm
        have h1 : 8 * (i + 1) ≤ 8 * L := Nat.mul_le_mul_left 8 hi
        have := D.out.2.2.1
        omega) (fun i => Nat.lt_of_lt_of_le (gI_lt 8 V2 T2 i) (by decide)))
      have X1 := Lib.hid (show H * 2 ^ 5 % 4294967296 = H * 32 by show H * 32 % 4294967296 = _; omega)
      have X2 := Lib.hid (show H * 32 ||| y = H2 by rw [hH2]; exact or_low (w := 5) xb)
      have X3 := Lib.hid (show H * 32 < 4294967296 ∧ y < 4294967296 ∧ y < 256 by omega)
      have X4 := Lib.hid (show c + 5 = c2 ∧ c2 < 9223372036854775808 by omega)
      have hc2b : c2 ≤ 20 := by omega
      clear hy hV2 hT2 hH2 hc2 D N xb hH
      go_wp2_with (first
        | ((with_reducible refine wpList_at 16 rfl ?_); refine wpList_ix (k := 1) (j := j) Tryd.underlying22 (by kernel_rfl) (.tmp 12) (.tmp 14) rfl rfl rfl rfl HLT.out rfl ?_; rw [Nat.mul_one]; try simp only [Act.put, List.setIfInBounds_toArray, List.set_cons_zero, List.set_cons_succ])
        | ((with_reducible refine wpList_at 17 rfl ?_); refine wpList_ld1 5 (.tmp 16) rfl rfl rfl Tryd.underlying5 rfl CL.out ?_; try simp only [Act.put, List.setIfInBounds_toArray, List.set_cons_zero, List.set_cons_succ])
        | ((with_reducible refine wpList_at 20 rfl ?_); refine wpList_known4 rfl (.int .u32 ((H * 32 : Nat) : Int)) _ (by exact exec_shl32v (n := H) (k := 5) (r := H * 32) rfl rfl rfl (by decide) X1.out) ?_; try simp only [Act.put, List.setIfInBounds_toArray, List.set_cons_zero, List.set_cons_succ])
        | ((with_reducible refine wpList_at 22 rfl ?_); refine wpList_known4 rfl (.int .u32 (y : Int)) _ (by exact exec_cv832 (n := y) rfl rfl X3.out.2.2) ?_; try simp only [Act.put, List.setIfInBounds_toArray, List.set_cons_zero, List.set_cons_succ])
        | ((with_reducible refine wpList_at 23 rfl ?_); refine wpList_known4 rfl (.int .u32 (H2 : Int)) _ (by exact exec_or32v (a := H * 32) (b := y) (r := H2) rfl rfl rfl X3.out.1 X3.out.2.1 X2.out) ?_; try simp only [Act.put, List.setIfInBounds_toArray, List.set_cons_zero, List.set_cons_succ])
        | ((with_reducible refine wpList_at 26 rfl ?_); refine wpList_known4 rfl (.int .i64 (c2 : Int)) _ (by exact exec_add3v (a := c) (b := 5) (r := c2) rfl rfl rfl X4.out.1 X4.out.2) ?_; try simp only [Act.put, List.setIfInBounds_toArray, List.set_cons_zero, List.set_cons_succ]))
      clear CL X1 X2 X3 X4
      go_loopg [7, 8, 9] c2 (fun k s7 s8 s9 wr => ∃ (L c H c1 g1 : Nat) (p1 : Option Addr), c ≤ k ∧ c ≤ 20 ∧ L ≤ 2 * j + 4 ∧ H < 65536 ∧ s9 = .int .i64 (c : Int) ∧ s8 = .int .u32 (H : Int) ∧ s7 = .slice p1 L c1 ∧ Hid (T2 = 8 * L + c ∧ H = V2 % 2 ^ c) ∧ Hid (Own w.heap.size wr p1 g1 L c1 (gI 8 V2 T2)) ∧ Hid (Below w.heap.size w wr))
      case atStart => exact ⟨L, c2, H2, c1, g1, p1, Nat.le_refl _, hc2b, by omega, H2b, rfl, rfl, rfl, Lib.hid ⟨D2.out.2.2.1, D2.out.2.2.2⟩, N2, BB⟩
      case round =>
        clear N2 BB
        obtain ⟨L, c, H, c1, g1, p1, hck, hcb, hL2, hH, rfl, rfl, rfl, E, N, BB⟩ := hrel
        obtain ⟨k2, rfl⟩ : ∃ kk : Nat, kk = gk := ⟨_, rfl⟩
        have T2b := Lib.hid (show T2 ≤ 8 * n by have := D2.out.2.1; omega)
        by_cases hq : 8 ≤ c
        · obtain ⟨c3, hc3⟩ : ∃ c3, c3 = c - 8 := ⟨_, rfl⟩
          obtain ⟨v, hv⟩ : ∃ v, v = gI 8 V2 T2 L := ⟨_, rfl⟩
          have vb : v < 256 := by rw [hv]; exact gI_lt _ _ _ _
          obtain ⟨H3, hH3⟩ : ∃ H3, H3 = V2 % 2 ^ c3 := ⟨_, rfl⟩
          have hLn : L ≤ 2 * n + 4 := by omega
          have e1 : 8 * (L + 1) ≤ T2 := by have := E.out.1; omega
          have e2 : T2 - 8 * L = c ∧ T2 - 8 * (L + 1) = c3 := by have := E.out.1; omega
          have ho := held_out (V := V2) e1
          rw [e2.1, e2.2, ← E.out.2, ← hv, ← hH3] at ho
          have H3b : H3 < 65536 := by rw [← ho.2]; exact Nat.lt_of_le_of_lt (Nat.mod_le _ _) hH
          have Y1 := Lib.hid (show 8 ≤ c ∧ c < 9223372036854775808 ∧ c - 8 = c3 by omega)
          have Y2 := Lib.hid ho.1
          have Y3 := Lib.hid (show v % 256 = v by omega)
          have p3 : 2 ^ c3 ≤ 2 ^ 20 := pow_le8 (by omega)
          have p4 : 0 < 2 ^ c3 := Nat.pow_pos (by omega)
          obtain ⟨P, hP⟩ : ∃ P, P = 2 ^ c3 := ⟨_, rfl⟩
          have Y4 := Lib.hid (show 1 * 2 ^ c3 % 4294967296 = P by rw [hP]; have : (2 : Nat) ^ 20 = 1048576 := by decide
                                                                  omega)
          have Y5 := Lib.hid (show 1 ≤ P ∧ P < 4294967296 by rw [hP]; have : (2 : Nat) ^ 20 = 1048576 := by decide
                                                             omega)
          have Y6 := Lib.hid (show H &&& (P - 1) = H3 by rw [hP, Nat.and_two_pow_sub_one_eq_mod]; exact ho.2)
          have Y7 := Lib.hid (show c3 < 32 ∧ H < 4294967296 ∧ P - 1 < 4294967296 by have := Y5.out; omega)
          have E3 := Lib.hid (show T2 = 8 * (L + 1) + c3 ∧ H3 = V2 % 2 ^ c3 from ⟨by have := E.out.1; omega, hH3⟩)
          have VB := Lib.hid (show v < 256 by omega)
          have HV := Lib.hid hv
          clear p3 p4 hP hH3 hv ho e1 e2 hH E
          go_wp2_with (first
            | ((with_reducible refine wpList_at 32 rfl ?_); refine wpList_known4 rfl (.int .i64 (c3 : Int)) _ (by exact exec_sub3v (a := c) (b := 8) (r := c3) rfl rfl rfl Y1.out.1 Y1.out.2.1 Y1.out.2.2) ?_; try simp only [Act.put, List.setIfInBounds_toArray, List.set_cons_zero, List.set_cons_succ])
            | ((with_reducible refine wpList_at 36 rfl ?_); refine wpList_known4 rfl (.int .u32 (v : Int)) _ (by exact exec_shr32v (n := H) (k := c3) (r := v) rfl rfl rfl Y7.out.1 Y2.out) ?_; try simp only [Act.put, List.setIfInBounds_toArray, List.set_cons_zero, List.set_cons_succ])
            | ((with_reducible refine wpList_at 37 rfl ?_); refine wpList_known4 rfl (.int .u8 (v : Int)) _ (by exact exec_cv328 (n := v) (r := v) rfl rfl Y3.out) ?_; try simp only [Act.put, List.setIfInBounds_toArray, List.set_cons_zero, List.set_cons_succ])
            | ((with_reducible refine wpList_at 38 rfl ?_); refine wpList_b1 rfl _ rfl (.int .u8 (v : Int)) (v := v) (by kernel_rfl) rfl VB.out ?_; intro b7 w7 R7 hb7; replace N := Lib.hid (N.out.below hb7.out); replace BB := Lib.hid (BB.out.trans (hb7.out.mono BB.out.size)); clear hb7; try simp only [Act.put, List.setIfInBounds_toArray, List.set_cons_zero, List.set_cons_succ])
            | ((with_reducible refine wpList_at 39 rfl ?_); refine wpList_app (.inl rfl) (.tmp 33) (.tmp 38) rfl rfl N rfl R7 (by omega) ?_; clear N R7; intro p8 g8 c8 w8 N hb8; replace BB := Lib.hid (BB.out.trans hb8.out); clear hb8; try simp only [Act.put, List.setIfInBounds_toArray, List.set_cons_zero, List.set_cons_succ])
            | ((with_reducible refine wpList_at 42 rfl ?_); refine wpList_known4 rfl (.int .u32 (P : Int)) _ (by exact exec_shl32v (n := 1) (k := c3) (r := P) rfl rfl rfl Y7.out.1 Y4.out) ?_; try simp only [Act.put, List.setIfInBounds_toArray, List.set_cons_zero, List.set_cons_succ])
            | ((with_reducible refine wpList_at 43 rfl ?_); refine wpList_known4 rfl (.int .u32 ((P - 1 : Nat) : Int)) _ (by exact exec_sub32v (a := P) (b := 1) (r := P - 1) rfl rfl rfl Y5.out.1 Y5.out.2 rfl) ?_; try simp only [Act.put, List.setIfInBounds_toArray, List.set_cons_zero, List.set_cons_succ])
            | ((with_reducible refine wpList_at 44 rfl ?_); refine wpList_known4 rfl (.int .u32 (H3 : Int)) _ (by exact exec_and32v (a := H) (b := P - 1) (r := H3) rfl rfl rfl Y7.out.2.1 Y7.out.2.2 Y6.out) ?_; try simp only [Act.put, List.setIfInBounds_toArray, List.set_cons_zero, List.set_cons_succ]))
          have N2 := Lib.hid (N.out.to (y := gI 8 V2 T2) (fun i hi => by
            unfold cat
            by_cases h : i < L
            · rw [if_pos h]
            · rw [if_neg h, show i = L by omega]; exact HV.out) (fun i => Nat.lt_of_lt_of_le (gI_lt 8 V2 T2 i) (by decide)))
          clear N HV Y1 Y2 Y3 Y4 Y5 Y6 Y7 VB
          go_roundg (c - 8)
          case measure => omega
          case rel => exact ⟨L + 1, c3, H3, c8, g8, p8, by omega, by omega, by have := E3.out.1; have := D2.out.2.1; omega, H3b, rfl, rfl, by go_num, E3, N2, BB⟩
        · have HH := Lib.hid (show H < 256 by
            rw [E.out.2]
            exact Nat.lt_of_lt_of_le (held_lt V2 c) (Nat.le_trans (pow_le8 (show c ≤ 8 by omega)) (by decide)))
          have D3 := Lib.hid (show V2 = acc 32 (tl x (j + 1)) ∧ T2 = 5 * (j + 1) ∧ T2 = 8 * L + c ∧ H = V2 % 2 ^ c from ⟨D2.out.1, D2.out.2.1, E.out.1, E.out.2⟩)
          clear E D2
          go_wp2
          go_roundg (n - (j + 1))
          case measure => omega
          case rel => exact ⟨j + 1, L, c, H, V2, T2, c1, g1, p1, by omega, by have := D3.out.2.1; have := D3.out.2.2.1; omega, by omega, HH.out, by go_num, rfl, rfl, rfl, D3, N, BB⟩
    · obtain rfl : j = n := by omega
      have hg : grp 5 8 (tl x j) = tl (gI 8 V T) L ++ if 0 < c then [V % 2 ^ c * 2 ^ (8 - c)] else [] := by
        have h1 : T / 8 = L ∧ T % 8 = c := by have := D.out.2.2.1; omega
        unfold grp grpX
        rw [tl_length, show 5 * j = T from D.out.2.1.symm, h1.1, h1.2]
        rw [show acc (2 ^ 5) (tl x j) = V from D.out.1.symm]
      by_cases hc0 : 0 < c
      · rw [if_pos hc0, ← D.out.2.2.2] at hg
        obtain ⟨z, hz⟩ : ∃ z, z = H * 2 ^ (8 - c) := ⟨_, rfl⟩
        rw [← hz] at hg
        have zb : z < 256 := by
          have h1 : H < 2 ^ c := by rw [D.out.2.2.2]; exact held_lt _ _
          have h2 : H * 2 ^ (8 - c) < 2 ^ c * 2 ^ (8 - c) := Nat.mul_lt_mul_of_pos_right h1 (Nat.pow_pos (by omega))
          rw [← Nat.pow_add, show c + (8 - c) = 8 by omega] at h2
          rw [hz]; exact h2
        obtain ⟨d, hd⟩ : ∃ d, d = 8 - c := ⟨_, rfl⟩
        have Y1 := Lib.hid (show c ≤ 8 ∧ 8 < 9223372036854775808 ∧ 8 - c = d by omega)
        have Y2 := Lib.hid (show d < 32 ∧ H * 2 ^ d % 4294967296 = z by rw [hd, ← hz]; omega)
        have Y3 := Lib.hid (show z % 256 = z ∧ z < 256 by omega)
        have HG := Lib.hid hg
        clear D hz hd hg
        go_wp2_with (first
          | ((with_reducible refine wpList_at 52 rfl ?_); refine wpList_known4 rfl (.int .i64 (d : Int)) _ (by exact exec_sub3v (a := 8) (b := c) (r := d) rfl rfl rfl Y1.out.1 Y1.out.2.1 Y1.out.2.2) ?_; try simp only [Act.put, List.setIfInBounds_toArray, List.set_cons_zero, List.set_cons_succ])
          | ((with_reducible refine wpList_at 53 rfl ?_); refine wpList_known4 rfl (.int .u32 (z : Int)) _ (by exact exec_shl32v (n := H) (k := d) (r := z) rfl rfl rfl Y2.out.1 Y2.out.2) ?_; try simp only [Act.put, List.setIfInBounds_toArray, List.set_cons_zero, List.set_cons_succ])
          | ((with_reducible refine wpList_at 54 rfl ?_); refine wpList_known4 rfl (.int .u8 (z : Int)) _ (by exact exec_cv328 (n := z) (r := z) rfl rfl Y3.out.1) ?_; try simp only [Act.put, List.setIfInBounds_toArray, List.set_cons_zero, List.set_cons_succ])
          | ((with_reducible refine wpList_at 55 rfl ?_); refine wpList_b1 rfl _ rfl (.int .u8 (z : Int)) (v := z) (by kernel_rfl) rfl Y3.out.2 ?_; intro b7 w7 R7 hb7; replace N := Lib.hid (N.out.below hb7.out); replace BB := Lib.hid (BB.out.trans (hb7.out.mono BB.out.size)); clear hb7; try simp only [Act.put, List.setIfInBounds_toArray, List.set_cons_zero, List.set_cons_succ])
          | ((with_reducible refine wpList_at 56 rfl ?_); refine wpList_app (.inl rfl) (.tmp 48) (.tmp 55) rfl rfl N rfl R7 (by omega) ?_; clear N R7; intro p8 g8 c8 w8 N hb8; replace BB := Lib.hid (BB.out.trans hb8.out); clear hb8; try simp only [Act.put, List.setIfInBounds_toArray, List.set_cons_zero, List.set_cons_succ]))
        go_ret
        have hl : (tl (gI 8 V T) L ++ [z]).length = L + 1 := by simp [tl_length]
        refine ⟨p8, g8, c8, by rw [HG.out, hl]; rfl, ?_, BB.out⟩
        rw [HG.out, hl]
        refine N.out.to (fun i hi => ?_) (fun i => lf_lt (fun v hv => by
          rcases List.mem_append.1 hv with q | q
          · obtain ⟨i, _, rfl⟩ := List.mem_map.1 q
            exact Nat.lt_of_lt_of_le (gI_lt _ _ _ _) (by decide)
          · simp at q; rw [q]; exact Y3.out.2) i)
        rw [lf_snoc _ _ _ hi]
        rfl
      · rw [if_neg hc0, List.append_nil] at hg
        have HG := Lib.hid hg
        clear D hg
        go_wp2
        go_ret
        refine ⟨p1, g1, c1, by rw [HG.out, tl_length]; rfl, ?_, BB.out⟩
        rw [HG.out, tl_length]
        exact N.out.to (fun i hi => (lf_tl _ hi).symm) (fun i => lf_lt (fun v hv => by
          obtain ⟨i, _, rfl⟩ := List.mem_map.1 hv
          exact Nat.lt_of_lt_of_le (gI_lt _ _ _ _) (by decide)) i)
end Go.Proofs.YtghjgkgfpblijaaDoor
end
