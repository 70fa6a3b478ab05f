/- A number's bytes, and the number of bytes, the program's and the document's; what lay in memory stays. -/
import Derived.Test.YtboffheklkhnkaaEnv
set_option linter.unusedSimpArgs false
namespace Go.Proofs.Ytboffheklkhnkaa
open Go.RowKit Go.Lib
attribute [local go_sem ↓] Go.wp_at_zero Go.wp_at_succ

/-- Byte i of a number. -/
def byteAt (n i : Nat) : Nat := n / 2 ^ (8 * i) % 256
theorem byteAt_lt (n i : Nat) : byteAt n i < 256 := Nat.mod_lt _ (by decide)
def bl (f : Nat → Nat) : Nat → Value := fun i => .int .u8 ((f i : Nat) : Int)
theorem byteAt_bit (n i j : Nat) : (byteAt n i).testBit j = (decide (j < 8) && n.testBit (8 * i + j)) := by
  unfold byteAt
  rw [show 256 = 2 ^ 8 from rfl, Nat.testBit_mod_two_pow, ← Nat.shiftRight_eq_div_pow, Nat.testBit_shiftRight]
theorem byte_word (n i : Nat) : limb n (i / 8) / 2 ^ (8 * (i % 8)) % 256 = byteAt n i := by
  apply Nat.eq_of_testBit_eq
  intro j
  rw [byteAt_bit, show 256 = 2 ^ 8 from rfl, Nat.testBit_mod_two_pow, ← Nat.shiftRight_eq_div_pow, Nat.testBit_shiftRight, limb_bit]
  by_cases hj : j < 8
  · have h1 : 8 * (i % 8) + j < 64 := by omega
    have h2 : 64 * (i / 8) + (8 * (i % 8) + j) = 8 * i + j := by omega
    rw [h2]
    simp [hj, h1]
  · simp [hj]
theorem mod_byte (n k : Nat) : n % 2 ^ (8 * (k + 1)) = n % 2 ^ (8 * k) + byteAt n k * 2 ^ (8 * k) := by
  unfold byteAt
  rw [Nat.mul_add, Nat.pow_add, Nat.mod_mul, Nat.mul_comm (2 ^ (8 * k))]
theorem byteAt_add {n f m : Nat} (hn : n < 2 ^ (8 * m)) (hf : f < 256) (i : Nat) : byteAt (n + f * 2 ^ (8 * m)) i = if i = m then f else byteAt n i := by
  unfold byteAt
  rcases Nat.lt_trichotomy i m with h | h | h
  · rw [if_neg (by omega)]
    have e : f * 2 ^ (8 * m) = 2 ^ (8 * i) * (256 * (f * 2 ^ (8 * (m - i - 1)))) := by
      have : 8 * m = 8 * i + (8 + 8 * (m - i - 1)) := by omega
      rw [this, Nat.pow_add, Nat.pow_add, show (2 : Nat) ^ 8 = 256 from rfl]
      ac_rfl
    rw [e, Nat.add_mul_div_left _ _ (Nat.two_pow_pos _), Nat.add_mul_mod_self_left]
  · subst h
    rw [if_pos rfl, Nat.add_mul_div_right _ _ (Nat.two_pow_pos _), Nat.div_eq_of_lt hn, Nat.zero_add, Nat.mod_eq_of_lt hf]
  · rw [if_neg (by omega)]
    have h1 : n + f * 2 ^ (8 * m) < 2 ^ (8 * i) := by
      have e : 2 ^ (8 * (m + 1)) ≤ 2 ^ (8 * i) := Nat.pow_le_pow_right (by decide) (by omega)
      refine Nat.lt_of_lt_of_le ?_ e
      rw [Nat.mul_add, Nat.pow_add]
      have h3 : f * 2 ^ (8 * m) ≤ 255 * 2 ^ (8 * m) := Nat.mul_le_mul_right _ (by omega)
      omega
    have h2 : n < 2 ^ (8 * i) := by omega
    rw [Nat.div_eq_of_lt h1, Nat.div_eq_of_lt h2]
/-- The number whose bytes are told. -/
def ofBytes (f : Nat → Nat) : Nat → Nat
  | 0 => 0
  | k + 1 => ofBytes f k + f k * 2 ^ (8 * k)
theorem ofBytes_lt {f : Nat → Nat} : ∀ {m : Nat}, (∀ i, i < m → f i < 256) → ofBytes f m < 2 ^ (8 * m)
  | 0, _ => by simp [ofBytes]
  | m + 1, h => by
    have h1 := ofBytes_lt (m := m) fun i hi => h i (by omega)
    have h2 := h m (by omega)
    rw [ofBytes, Nat.mul_add, Nat.pow_add]
    have h3 : f m * 2 ^ (8 * m) ≤ 255 * 2 ^ (8 * m) := Nat.mul_le_mul_right _ (by omega)
    omega
theorem byteAt_ofBytes {f : Nat → Nat} : ∀ {m : Nat}, (∀ i, i < m → f i < 256) → ∀ i, i < m → byteAt (ofBytes f m) i = f i
  | 0, _, i, hi => absurd hi (by omega)
  | m + 1, h, i, hi => by
    rw [ofBytes, byteAt_add (ofBytes_lt fun i hi => h i (by omega)) (h m (by omega))]
    rcases Nat.lt_or_ge i m with q | q
    · rw [if_neg (by omega), byteAt_ofBytes (fun i hi => h i (by omega)) i q]
    · obtain rfl : i = m := by omega
      rw [if_pos rfl]

abbrev Z32 : Array Value := #[.int .u8 0, .int .u8 0, .int .u8 0, .int .u8 0, .int .u8 0, .int .u8 0, .int .u8 0, .int .u8 0, .int .u8 0, .int .u8 0, .int .u8 0, .int .u8 0, .int .u8 0, .int .u8 0, .int .u8 0, .int .u8 0, .int .u8 0, .int .u8 0, .int .u8 0, .int .u8 0, .int .u8 0, .int .u8 0, .int .u8 0, .int .u8 0, .int .u8 0, .int .u8 0, .int .u8 0, .int .u8 0, .int .u8 0, .int .u8 0, .int .u8 0, .int .u8 0]
theorem z32_is : arr 32 (bl fun _ => 0) = Z32 := by kernel_rfl
/-- The first k bytes. -/
def upB (n k : Nat) : Nat → Value := fun i => .int .u8 ((if i < k then byteAt n i else 0 : Nat) : Int)
theorem upB_zero (n i : Nat) : bl (fun _ => 0) i = upB n 0 i := by unfold upB bl; simp
theorem upB_step (n k i : Nat) : upd (upB n k) k (.int .u8 ((byteAt n k : Nat) : Int)) i = upB n (k + 1) i := by
  unfold upd upB
  by_cases e : i = k
  · subst e; rw [if_pos rfl, if_pos (by omega)]
  · rw [if_neg e]
    by_cases h : i < k
    · rw [if_pos h, if_pos (by omega)]
    · rw [if_neg h, if_neg (by omega)]
theorem upB_all (n i : Nat) (hi : i < 32) : upB n 32 i = bl (byteAt n) i := by
  unfold upB bl
  rw [if_pos hi]
structure Byt (w : World) (a k : Nat) (wr : World) : Prop where
  below : Below w.heap.size w wr
  num : HasAt w.heap.size 24 4 (wl a) wr
  res : HasAt (w.heap.size + 1) 36 32 (bl fun _ => 0) wr
  made : HasAt (w.heap.size + 1 + 1) 36 32 (upB a k) wr
theorem Byt.start (w : World) (a : Nat) : Byt w a 0 (((w.alloc (.cells (arr 4 (wl a)) 24)).alloc (.cells Z32 36)).alloc (.cells Z32 36)) := by
  rw [← z32_is]
  have s1 : (w.alloc (.cells (arr 4 (wl a)) 24)).heap.size = w.heap.size + 1 := by simp
  have h0 := HasAt.new w (wl a) 4 24
  have b0 := below_new w (.cells (arr 4 (wl a)) 24)
  generalize w.alloc (.cells (arr 4 (wl a)) 24) = w1 at *
  have s2 : (w1.alloc (.cells (arr 32 (bl fun _ => 0)) 36)).heap.size = w.heap.size + 1 + 1 := by simp [s1]
  have h1 := HasAt.new w1 (bl fun _ => 0) 32 36
  rw [s1] at h1
  have b1 := below_new w1 (.cells (arr 32 (bl fun _ => 0)) 36)
  generalize hw2 : w1.alloc (.cells (arr 32 (bl fun _ => 0)) 36) = w2 at *
  have h2 := HasAt.new w2 (bl fun _ => 0) 32 36
  rw [s2] at h2
  refine ⟨(b0.trans (b1.mono (by omega))).trans ((below_new _ _).mono (by omega)), ?_, h1.alloc _, h2.to fun i _ => upB_zero a i⟩
  subst hw2
  exact (h0.alloc _).alloc _
theorem Byt.step {w : World} {a k : Nat} {wr : World} (h : Byt w a k wr) : Byt w a (k + 1) (wr.setCell ⟨w.heap.size + 1 + 1, k, none⟩ (.int .u8 ((byteAt a k : Nat) : Int))) :=
  ⟨h.below.setCell (by simp; omega) _, h.num.other _ _ (by simp; omega), h.res.other _ _ (by simp), h.made.set k _ fun i _ => upB_step a k i⟩
theorem byte_int (a k : Nat) : ((limb a (k / 8) : Nat) : Int) / 2 ^ (8 * (k % 8)) % 256 = ((byteAt a k : Nat) : Int) := by
  rw [← byte_word]
  have e : ((limb a (k / 8) : Nat) : Int) / 2 ^ (8 * (k % 8)) = ((limb a (k / 8) / 2 ^ (8 * (k % 8)) : Nat) : Int) := by simp
  rw [e]
  omega

set_option maxRecDepth 100000 in
set_option maxHeartbeats 4000000 in
theorem bytes_any (a : Nat) (w : World) :
    Calls Try.prog 37 #[wide a] w fun e w' => e = .returned (.agg (arr 32 (bl (byteAt a)))) ∧ Below w.heap.size w w' := by
  have T := Lib.hid (Byt.start w a)
  go_enter Try.func37, Try.ntmps37
  go_wp2
  go_loopg [5] 32 (fun k i wr => ∃ j : Nat, j + k = 32 ∧ i = .int .i64 (j : Int) ∧ Byt w a j wr)
  case atStart => exact ⟨0, by omega, rfl, T.out⟩
  case round =>
    clear T
    obtain ⟨j, hj, rfl, hT⟩ := hrel
    obtain ⟨kk, rfl⟩ : ∃ kk : Nat, kk = gk := ⟨_, rfl⟩
    by_cases hlt : j < 32
    · have c0 := hT.num.cell (j / 8) (by omega)
      have c1 := hT.made.cell j hlt
      have f1 := hT.made.free j
      unfold wl at c0
      have H := Lib.hid hT
      have BI := Lib.hid (byte_int a j)
      have t8 : (8 * ((j : Int) % 8)).toNat = 8 * (j % 8) := by omega
      have g8 : (0 : Int) ≤ 8 * ((j : Int) % 8) := by omega
      clear hT
      go_wp2
      rw [BI.out]
      have HG := H.out.step
      have G := Lib.hid HG
      clear HG H c0 c1 f1 t8 g8
      go_roundg (kk - 1)
      case measure => omega
      case rel => exact ⟨j + 1, by omega, by go_num, G.out⟩
    · obtain rfl : j = 32 := by omega
      have H := Lib.hid (And.intro hT.below (And.intro hT.res (hT.made.to (fun i hi => upB_all a i hi))))
      clear hT
      go_wp2_with (first
        | (with_reducible refine wpList_load_all rfl 36 (.tmp 3) rfl (w.heap.size + 1 + 1) 32 rfl 36 _ H.out.2.2 _ Try.underlying36 rfl (by kernel_rfl) ?_)
        | (with_reducible refine wpList_store_all rfl 36 (.tmp 2) (.tmp 20) rfl (w.heap.size + 1) 32 rfl 36 _ _ H.out.2.1 rfl (by kernel_rfl) (fun _ => rfl) ?_; intro w2 hh ho))
      exact bodyPost_ret (res_row (fn := Try.f37) rfl _ _ (w.heap.size + 1) 32 36 _ _ rfl hh Try.underlying36 rfl (by kernel_rfl)) rfl ⟨rfl, H.out.1.trans (ho.below (by omega) H.out.1.size)⟩

set_option maxRecDepth 100000 in
set_option maxHeartbeats 4000000 in
theorem ref_bytes_any (a : Nat) (w : World) :
    Calls Try.prog 38 #[wide a] w fun e w' => e = .returned (.agg (arr 32 (bl (byteAt a)))) ∧ Below w.heap.size w w' := by
  have T := Lib.hid (Byt.start w a)
  go_enter Try.func38, Try.ntmps38
  go_wp2
  go_loopg [5] 32 (fun k i wr => ∃ j : Nat, j + k = 32 ∧ i = .int .i64 (j : Int) ∧ Byt w a j wr)
  case atStart => exact ⟨0, by omega, rfl, T.out⟩
  case round =>
    clear T
    obtain ⟨j, hj, rfl, hT⟩ := hrel
    obtain ⟨kk, rfl⟩ : ∃ kk : Nat, kk = gk := ⟨_, rfl⟩
    by_cases hlt : j < 32
    · have c0 := hT.num.cell (j / 8) (by omega)
      have c1 := hT.made.cell j hlt
      have f1 := hT.made.free j
      unfold wl at c0
      have H := Lib.hid hT
      have BI := Lib.hid (byte_int a j)
      have t8 : (8 * ((j : Int) % 8)).toNat = 8 * (j % 8) := by omega
      have g8 : (0 : Int) ≤ 8 * ((j : Int) % 8) := by omega
      clear hT
      go_wp2
      rw [BI.out]
      have HG := H.out.step
      have G := Lib.hid HG
      clear HG H c0 c1 f1 t8 g8
      go_roundg (kk - 1)
      case measure => omega
      case rel => exact ⟨j + 1, by omega, by go_num, G.out⟩
    · obtain rfl : j = 32 := by omega
      have H := Lib.hid (And.intro hT.below (And.intro hT.res (hT.made.to (fun i hi => upB_all a i hi))))
      clear hT
      go_wp2_with (first
        | (with_reducible refine wpList_load_all rfl 36 (.tmp 3) rfl (w.heap.size + 1 + 1) 32 rfl 36 _ H.out.2.2 _ Try.underlying36 rfl (by kernel_rfl) ?_)
        | (with_reducible refine wpList_store_all rfl 36 (.tmp 2) (.tmp 20) rfl (w.heap.size + 1) 32 rfl 36 _ _ H.out.2.1 rfl (by kernel_rfl) (fun _ => rfl) ?_; intro w2 hh ho))
      exact bodyPost_ret (res_row (fn := Try.f38) rfl _ _ (w.heap.size + 1) 32 36 _ _ rfl hh Try.underlying36 rfl (by kernel_rfl)) rfl ⟨rfl, H.out.1.trans (ho.below (by omega) H.out.1.size)⟩


theorem run_index32 (f : Nat → Nat) (k : Nat) (hk : k < 32) (w : World) : (Instr.index 36 (.agg (arr 32 (bl f))) (.int .i64 (k : Int))).run Try.prog w = .ok (.int .u8 ((f k : Nat) : Int)) w := by
  match k, hk with
  | 0, _ => exact (by kernel_rfl : (Instr.index 36 (.agg (arr 32 (bl f))) (.int .i64 0)).run Try.prog w = .ok (.int .u8 ((f 0 : Nat) : Int)) w)
  | 1, _ => exact (by kernel_rfl : (Instr.index 36 (.agg (arr 32 (bl f))) (.int .i64 1)).run Try.prog w = .ok (.int .u8 ((f 1 : Nat) : Int)) w)
  | 2, _ => exact (by kernel_rfl : (Instr.index 36 (.agg (arr 32 (bl f))) (.int .i64 2)).run Try.prog w = .ok (.int .u8 ((f 2 : Nat) : Int)) w)
  | 3, _ => exact (by kernel_rfl : (Instr.index 36 (.agg (arr 32 (bl f))) (.int .i64 3)).run Try.prog w = .ok (.int .u8 ((f 3 : Nat) : Int)) w)
  | 4, _ => exact (by kernel_rfl : (Instr.index 36 (.agg (arr 32 (bl f))) (.int .i64 4)).run Try.prog w = .ok (.int .u8 ((f 4 : Nat) : Int)) w)
  | 5, _ => exact (by kernel_rfl : (Instr.index 36 (.agg (arr 32 (bl f))) (.int .i64 5)).run Try.prog w = .ok (.int .u8 ((f 5 : Nat) : Int)) w)
  | 6, _ => exact (by kernel_rfl : (Instr.index 36 (.agg (arr 32 (bl f))) (.int .i64 6)).run Try.prog w = .ok (.int .u8 ((f 6 : Nat) : Int)) w)
  | 7, _ => exact (by kernel_rfl : (Instr.index 36 (.agg (arr 32 (bl f))) (.int .i64 7)).run Try.prog w = .ok (.int .u8 ((f 7 : Nat) : Int)) w)
  | 8, _ => exact (by kernel_rfl : (Instr.index 36 (.agg (arr 32 (bl f))) (.int .i64 8)).run Try.prog w = .ok (.int .u8 ((f 8 : Nat) : Int)) w)
  | 9, _ => exact (by kernel_rfl : (Instr.index 36 (.agg (arr 32 (bl f))) (.int .i64 9)).run Try.prog w = .ok (.int .u8 ((f 9 : Nat) : Int)) w)
  | 10, _ => exact (by kernel_rfl : (Instr.index 36 (.agg (arr 32 (bl f))) (.int .i64 10)).run Try.prog w = .ok (.int .u8 ((f 10 : Nat) : Int)) w)
  | 11, _ => exact (by kernel_rfl : (Instr.index 36 (.agg (arr 32 (bl f))) (.int .i64 11)).run Try.prog w = .ok (.int .u8 ((f 11 : Nat) : Int)) w)
  | 12, _ => exact (by kernel_rfl : (Instr.index 36 (.agg (arr 32 (bl f))) (.int .i64 12)).run Try.prog w = .ok (.int .u8 ((f 12 : Nat) : Int)) w)
  | 13, _ => exact (by kernel_rfl : (Instr.index 36 (.agg (arr 32 (bl f))) (.int .i64 13)).run Try.prog w = .ok (.int .u8 ((f 13 : Nat) : Int)) w)
  | 14, _ => exact (by kernel_rfl : (Instr.index 36 (.agg (arr 32 (bl f))) (.int .i64 14)).run Try.prog w = .ok (.int .u8 ((f 14 : Nat) : Int)) w)
  | 15, _ => exact (by kernel_rfl : (Instr.index 36 (.agg (arr 32 (bl f))) (.int .i64 15)).run Try.prog w = .ok (.int .u8 ((f 15 : Nat) : Int)) w)
  | 16, _ => exact (by kernel_rfl : (Instr.index 36 (.agg (arr 32 (bl f))) (.int .i64 16)).run Try.prog w = .ok (.int .u8 ((f 16 : Nat) : Int)) w)
  | 17, _ => exact (by kernel_rfl : (Instr.index 36 (.agg (arr 32 (bl f))) (.int .i64 17)).run Try.prog w = .ok (.int .u8 ((f 17 : Nat) : Int)) w)
  | 18, _ => exact (by kernel_rfl : (Instr.index 36 (.agg (arr 32 (bl f))) (.int .i64 18)).run Try.prog w = .ok (.int .u8 ((f 18 : Nat) : Int)) w)
  | 19, _ => exact (by kernel_rfl : (Instr.index 36 (.agg (arr 32 (bl f))) (.int .i64 19)).run Try.prog w = .ok (.int .u8 ((f 19 : Nat) : Int)) w)
  | 20, _ => exact (by kernel_rfl : (Instr.index 36 (.agg (arr 32 (bl f))) (.int .i64 20)).run Try.prog w = .ok (.int .u8 ((f 20 : Nat) : Int)) w)
  | 21, _ => exact (by kernel_rfl : (Instr.index 36 (.agg (arr 32 (bl f))) (.int .i64 21)).run Try.prog w = .ok (.int .u8 ((f 21 : Nat) : Int)) w)
  | 22, _ => exact (by kernel_rfl : (Instr.index 36 (.agg (arr 32 (bl f))) (.int .i64 22)).run Try.prog w = .ok (.int .u8 ((f 22 : Nat) : Int)) w)
  | 23, _ => exact (by kernel_rfl : (Instr.index 36 (.agg (arr 32 (bl f))) (.int .i64 23)).run Try.prog w = .ok (.int .u8 ((f 23 : Nat) : Int)) w)
  | 24, _ => exact (by kernel_rfl : (Instr.index 36 (.agg (arr 32 (bl f))) (.int .i64 24)).run Try.prog w = .ok (.int .u8 ((f 24 : Nat) : Int)) w)
  | 25, _ => exact (by kernel_rfl : (Instr.index 36 (.agg (arr 32 (bl f))) (.int .i64 25)).run Try.prog w = .ok (.int .u8 ((f 25 : Nat) : Int)) w)
  | 26, _ => exact (by kernel_rfl : (Instr.index 36 (.agg (arr 32 (bl f))) (.int .i64 26)).run Try.prog w = .ok (.int .u8 ((f 26 : Nat) : Int)) w)
  | 27, _ => exact (by kernel_rfl : (Instr.index 36 (.agg (arr 32 (bl f))) (.int .i64 27)).run Try.prog w = .ok (.int .u8 ((f 27 : Nat) : Int)) w)
  | 28, _ => exact (by kernel_rfl : (Instr.index 36 (.agg (arr 32 (bl f))) (.int .i64 28)).run Try.prog w = .ok (.int .u8 ((f 28 : Nat) : Int)) w)
  | 29, _ => exact (by kernel_rfl : (Instr.index 36 (.agg (arr 32 (bl f))) (.int .i64 29)).run Try.prog w = .ok (.int .u8 ((f 29 : Nat) : Int)) w)
  | 30, _ => exact (by kernel_rfl : (Instr.index 36 (.agg (arr 32 (bl f))) (.int .i64 30)).run Try.prog w = .ok (.int .u8 ((f 30 : Nat) : Int)) w)
  | 31, _ => exact (by kernel_rfl : (Instr.index 36 (.agg (arr 32 (bl f))) (.int .i64 31)).run Try.prog w = .ok (.int .u8 ((f 31 : Nat) : Int)) w)
  | k + 32, h => exact absurd h (by omega)
/-- One byte more. -/
theorem bytev_lt {f k : Nat} (hf : f < 256) : f * 2 ^ (8 * (k % 8)) < 18446744073709551616 := by
  have h1 : 2 ^ (8 * (k % 8)) ≤ 2 ^ 56 := Nat.pow_le_pow_right (by decide) (by omega)
  have h2 : f * 2 ^ (8 * (k % 8)) ≤ 255 * 2 ^ 56 := Nat.mul_le_mul (by omega) h1
  have h3 : 255 * 2 ^ 56 < 18446744073709551616 := by decide
  omega
theorem byte_more (n k : Nat) : n % 2 ^ (8 * (k + 1)) = n % 2 ^ (8 * k) ||| (byteAt n k * 2 ^ (8 * (k % 8))) * 2 ^ (64 * (k / 8)) := by
  rw [mod_byte, add_or (Nat.mod_lt _ (Nat.two_pow_pos _)), Nat.mul_assoc, ← Nat.pow_add]
  congr 3
  omega
theorem wl_or_byte (n f k : Nat) (hf : f < 256) (i : Nat) : upd (wl n) (k / 8) (.int .u64 ((limb n (k / 8) ||| f * 2 ^ (8 * (k % 8)) : Nat) : Int)) i = wl (n ||| (f * 2 ^ (8 * (k % 8))) * 2 ^ (64 * (k / 8))) i := by
  unfold upd wl
  rw [limb_or (bytev_lt hf)]
  split <;> rfl
theorem or_byte_int (n f k : Nat) (hf : f < 256) : bits .or .u64 ((limb n (k / 8) : Nat) : Int) (IntKind.u64.wrap ((f : Int) * 2 ^ (8 * (k % 8)))) = ((limb n (k / 8) ||| f * 2 ^ (8 * (k % 8)) : Nat) : Int) := by
  have h1 := bytev_lt (k := k) hf
  have h2 := limb_lt n (k / 8)
  have e : ((f : Int) * 2 ^ (8 * (k % 8))) = ((f * 2 ^ (8 * (k % 8)) : Nat) : Int) := by simp
  rw [e, IntKind.wrap_u64, Int.emod_eq_of_lt (by omega) (by omega), u64_or_nat _ _ h2 h1]
structure Ofs (w : World) (g : Nat → Value) (n : Nat) (wr : World) : Prop where
  below : Below w.heap.size w wr
  hash : HasAt w.heap.size 36 32 g wr
  res : HasAt (w.heap.size + 1) 24 4 (wl 0) wr
  made : HasAt (w.heap.size + 1 + 1) 24 4 (wl n) wr
theorem Ofs.start (w : World) (g : Nat → Value) : Ofs w g 0 (((w.alloc (.cells (arr 32 g) 36)).alloc (.cells z4 24)).alloc (.cells z4 24)) := by
  rw [← z4_is]
  have s1 : (w.alloc (.cells (arr 32 g) 36)).heap.size = w.heap.size + 1 := by simp
  have h0 := HasAt.new w g 32 36
  have b0 := below_new w (.cells (arr 32 g) 36)
  generalize w.alloc (.cells (arr 32 g) 36) = w1 at *
  have s2 : (w1.alloc (.cells (arr 4 (wl 0)) 24)).heap.size = w.heap.size + 1 + 1 := by simp [s1]
  have h1 := HasAt.new w1 (wl 0) 4 24
  rw [s1] at h1
  have b1 := below_new w1 (.cells (arr 4 (wl 0)) 24)
  generalize hw2 : w1.alloc (.cells (arr 4 (wl 0)) 24) = w2 at *
  have h2 := HasAt.new w2 (wl 0) 4 24
  rw [s2] at h2
  refine ⟨(b0.trans (b1.mono (by omega))).trans ((below_new _ _).mono (by omega)), ?_, h1.alloc _, h2⟩
  subst hw2
  exact (h0.alloc _).alloc _
theorem Ofs.drew {w : World} {g : Nat → Value} {n : Nat} {wr : World} (h : Ofs w g n wr) : Ofs w g n wr.drew := ⟨h.below.drew, h.hash.drew, h.res.drew, h.made.drew⟩
theorem Ofs.step {w : World} {g : Nat → Value} {n m : Nat} {wr : World} (h : Ofs w g n wr) (k : Nat) (v : Value) (e : ∀ i, i < 4 → upd (wl n) k v i = wl m i) : Ofs w g m (wr.setCell ⟨w.heap.size + 1 + 1, k, none⟩ v) :=
  ⟨h.below.setCell (by simp; omega) _, h.hash.other _ _ (by simp; omega), h.res.other _ _ (by simp), h.made.set k _ e⟩

set_option maxRecDepth 100000 in
set_option maxHeartbeats 4000000 in
theorem of_any (n : Nat) (hn : n < P256) (w : World) :
    Calls Try.prog 39 #[.agg (arr 32 (bl (byteAt n)))] w fun e w' => e = .returned (wide n) ∧ Below w.heap.size w w' := by
  have T := Lib.hid (Ofs.start w (bl (byteAt n)))
  have HN := Lib.hid hn
  clear hn
  go_enter Try.func39, Try.ntmps39
  go_wp2_with (with_reducible refine wpList_load_all rfl 36 (.tmp 1) rfl w.heap.size 32 rfl 36 _ T.out.hash _ Try.underlying36 rfl (by kernel_rfl) ?_)
  go_loopg [7] 32 (fun k i wr => ∃ j : Nat, j + k = 32 ∧ i = .int .i64 (j : Int) ∧ Ofs w (bl (byteAt n)) (n % 2 ^ (8 * j)) wr)
  case atStart =>
    refine ⟨0, by omega, rfl, ?_⟩
    rw [Nat.mul_zero, Nat.pow_zero, Nat.mod_one]
    exact T.out
  case round =>
    clear T
    obtain ⟨j, hj, rfl, hT⟩ := hrel
    obtain ⟨kk, rfl⟩ : ∃ kk : Nat, kk = gk := ⟨_, rfl⟩
    by_cases hlt : j < 32
    · have ix := run_index32 (byteAt n) j hlt
      have OR0 := or_byte_int (n % 2 ^ (8 * j)) (byteAt n j) j (byteAt_lt n j)
      have BM := byte_more n j
      have WB := Lib.hid (wl_or_byte (n % 2 ^ (8 * j)) (byteAt n j) j (byteAt_lt n j))
      have fl := byteAt_lt n j
      obtain ⟨f, hf⟩ : ∃ f, f = byteAt n j := ⟨_, rfl⟩
      rw [← hf] at ix OR0 BM WB fl
      have OR := Lib.hid OR0
      have BB := Lib.hid BM
      have c0 := hT.made.cell (j / 8) (by omega)
      have f0 := hT.made.free (j / 8)
      unfold wl at c0
      have H := Lib.hid hT
      have t8 : (8 * ((j : Int) % 8)).toNat = 8 * (j % 8) := by omega
      have g8 : (0 : Int) ≤ 8 * ((j : Int) % 8) := by omega
      clear hT hf OR0 BM
      go_upto_region 5 with fail
      go_region
      all_goals
        rw [OR.out]
        have HG := H.out.step (j / 8) (.int .u64 ((limb (n % 2 ^ (8 * j)) (j / 8) ||| f * 2 ^ (8 * (j % 8)) : Nat) : Int)) (fun i _ => WB.out i)
        rw [← BB.out] at HG
        have G := Lib.hid HG
        clear HG H c0 f0 t8 g8 ix
        go_wp2
        go_roundg (kk - 1)
        case measure => omega
        case rel => exact ⟨j + 1, by omega, by go_num, G.out.drew⟩
    · obtain rfl : j = 32 := by omega
      have hm := hT.made
      rw [show n % 2 ^ (8 * 32) = n from Nat.mod_eq_of_lt HN.out] at hm
      have H := Lib.hid (And.intro hT.below (And.intro hT.res hm))
      clear hT hm
      go_wp2_with (first
        | (with_reducible refine wpList_load_all rfl 24 (.tmp 3) rfl (w.heap.size + 1 + 1) 4 rfl 24 _ H.out.2.2 _ Try.underlying24 rfl (by kernel_rfl) ?_)
        | (with_reducible refine wpList_store_all rfl 24 (.tmp 2) (.tmp 24) rfl (w.heap.size + 1) 4 rfl 24 _ _ H.out.2.1 rfl (by kernel_rfl) (fun _ => rfl) ?_; intro w2 hh ho))
      exact bodyPost_ret (res_row (fn := Try.f39) rfl _ _ (w.heap.size + 1) 4 24 _ _ rfl hh Try.underlying24 rfl (by kernel_rfl)) rfl ⟨rfl, H.out.1.trans (ho.below (by omega) H.out.1.size)⟩

set_option maxRecDepth 100000 in
set_option maxHeartbeats 4000000 in
theorem ref_of_any (n : Nat) (hn : n < P256) (w : World) :
    Calls Try.prog 40 #[.agg (arr 32 (bl (byteAt n)))] w fun e w' => e = .returned (wide n) ∧ Below w.heap.size w w' := by
  have T := Lib.hid (Ofs.start w (bl (byteAt n)))
  have HN := Lib.hid hn
  clear hn
  go_enter Try.func40, Try.ntmps40
  go_wp2_with (with_reducible refine wpList_load_all rfl 36 (.tmp 1) rfl w.heap.size 32 rfl 36 _ T.out.hash _ Try.underlying36 rfl (by kernel_rfl) ?_)
  go_loopg [7] 32 (fun k i wr => ∃ j : Nat, j + k = 32 ∧ i = .int .i64 (j : Int) ∧ Ofs w (bl (byteAt n)) (n % 2 ^ (8 * j)) wr)
  case atStart =>
    refine ⟨0, by omega, rfl, ?_⟩
    rw [Nat.mul_zero, Nat.pow_zero, Nat.mod_one]
    exact T.out
  case round =>
    clear T
    obtain ⟨j, hj, rfl, hT⟩ := hrel
    obtain ⟨kk, rfl⟩ : ∃ kk : Nat, kk = gk := ⟨_, rfl⟩
    by_cases hlt : j < 32
    · have ix := run_index32 (byteAt n) j hlt
      have OR0 := or_byte_int (n % 2 ^ (8 * j)) (byteAt n j) j (byteAt_lt n j)
      have BM := byte_more n j
      have WB := Lib.hid (wl_or_byte (n % 2 ^ (8 * j)) (byteAt n j) j (byteAt_lt n j))
      have fl := byteAt_lt n j
      obtain ⟨f, hf⟩ : ∃ f, f = byteAt n j := ⟨_, rfl⟩
      rw [← hf] at ix OR0 BM WB fl
      have OR := Lib.hid OR0
      have BB := Lib.hid BM
      have c0 := hT.made.cell (j / 8) (by omega)
      have f0 := hT.made.free (j / 8)
      unfold wl at c0
      have H := Lib.hid hT
      have t8 : (8 * ((j : Int) % 8)).toNat = 8 * (j % 8) := by omega
      have g8 : (0 : Int) ≤ 8 * ((j : Int) % 8) := by omega
      clear hT hf OR0 BM
      go_upto_region 5 with fail
      go_region
      all_goals
        rw [OR.out]
        have HG := H.out.step (j / 8) (.int .u64 ((limb (n % 2 ^ (8 * j)) (j / 8) ||| f * 2 ^ (8 * (j % 8)) : Nat) : Int)) (fun i _ => WB.out i)
        rw [← BB.out] at HG
        have G := Lib.hid HG
        clear HG H c0 f0 t8 g8 ix
        go_wp2
        go_roundg (kk - 1)
        case measure => omega
        case rel => exact ⟨j + 1, by omega, by go_num, G.out.drew⟩
    · obtain rfl : j = 32 := by omega
      have hm := hT.made
      rw [show n % 2 ^ (8 * 32) = n from Nat.mod_eq_of_lt HN.out] at hm
      have H := Lib.hid (And.intro hT.below (And.intro hT.res hm))
      clear hT hm
      go_wp2_with (first
        | (with_reducible refine wpList_load_all rfl 24 (.tmp 3) rfl (w.heap.size + 1 + 1) 4 rfl 24 _ H.out.2.2 _ Try.underlying24 rfl (by kernel_rfl) ?_)
        | (with_reducible refine wpList_store_all rfl 24 (.tmp 2) (.tmp 26) rfl (w.heap.size + 1) 4 rfl 24 _ _ H.out.2.1 rfl (by kernel_rfl) (fun _ => rfl) ?_; intro w2 hh ho))
      exact bodyPost_ret (res_row (fn := Try.f40) rfl _ _ (w.heap.size + 1) 4 24 _ _ rfl hh Try.underlying24 rfl (by kernel_rfl)) rfl ⟨rfl, H.out.1.trans (ho.below (by omega) H.out.1.size)⟩
end Go.Proofs.Ytboffheklkhnkaa
