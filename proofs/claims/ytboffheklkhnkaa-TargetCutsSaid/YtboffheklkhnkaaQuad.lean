/- Blocks of four words in a row behind what was there; loads in quiet regions; one bit written into a word. -/
import Derived.Test.YtboffheklkhnkaaAdd
import Derived.Test.YtboffheklkhnkaaBit
namespace Go.Proofs.Ytboffheklkhnkaa
open Go.RowKit Go.Lib

/-- A whole row, loaded in a quiet region. -/
theorem wpQuiet_load_all {P : Program} {ops : Array Oper} {C : World → Prop} {Q : Act → Prop} {a : Act} {o : Oper} {rest : List Oper} (ty : TypeId) (x : Operand) (ho : o.op = .load ty x) (hw : Region.wanted o (yielded ops a.tmps) = true) (b : Nat)
    (hx : a.eval x = .pointer (some ⟨b, 0, none⟩)) (v : Value) (hl : ∀ w, C w → (Instr.loadAt ty (.pointer (some ⟨b, 0, none⟩))).run P w = .ok v w) (h : wpQuiet P ops C Q rest (a.put o.dst v)) : wpQuiet P ops C Q (o :: rest) a := by
  show if _ then _ else _
  rw [if_pos hw]
  refine ⟨v, fun w hC => ?_, h⟩
  unfold Oper.quietAt execOp
  simp only [ho, hx, Sem.run_bind, Sem.run_pure, hl w hC, Result.andThen_ok]
  exact ⟨rfl, rfl⟩

/-- Four blocks of four words behind what w had. -/
structure Quad (w : World) (f0 f1 f2 f3 : Nat → Value) (wr : World) : Prop where
  below : Below w.heap.size w wr
  b0 : HasAt w.heap.size 24 4 f0 wr
  b1 : HasAt (w.heap.size + 1) 24 4 f1 wr
  b2 : HasAt (w.heap.size + 1 + 1) 24 4 f2 wr
  b3 : HasAt (w.heap.size + 1 + 1 + 1) 24 4 f3 wr
section
variable {w wr w' : World} {f0 f1 f2 f3 g : Nat → Value}
theorem Quad.of_four {a b n j : Nat} (h : Four w a b n j wr) : Quad w (wl a) (wl b) (wl 0) (firstW n j) wr := ⟨h.below, h.left, h.right, h.res, h.sum⟩
theorem Quad.start (w : World) (a b : Nat) : Quad w (wl a) (wl b) (wl 0) (wl 0) ((((w.alloc (.cells (arr 4 (wl a)) 24)).alloc (.cells (arr 4 (wl b)) 24)).alloc (.cells z4 24)).alloc (.cells z4 24)) := by
  have h := Four.start w a b 0
  exact ⟨h.below, h.left, h.right, h.res, h.sum.to fun i _ => (firstW_zero 0 i).symm⟩
theorem Quad.drew (h : Quad w f0 f1 f2 f3 wr) : Quad w f0 f1 f2 f3 wr.drew := ⟨h.below.drew, h.b0.drew, h.b1.drew, h.b2.drew, h.b3.drew⟩
theorem Quad.step (h : Quad w f0 f1 f2 f3 wr) (hb : Below wr.heap.size wr w') : Quad w f0 f1 f2 f3 w' :=
  ⟨h.below.trans (hb.mono h.below.size), h.b0.below hb, h.b1.below hb, h.b2.below hb, h.b3.below hb⟩
theorem Quad.set3 (h : Quad w f0 f1 f2 f3 wr) (j : Nat) (v : Value) (e : ∀ i, i < 4 → upd f3 j v i = g i) : Quad w f0 f1 f2 g (wr.setCell ⟨w.heap.size + 1 + 1 + 1, j, none⟩ v) :=
  ⟨h.below.setCell (by simp; omega) _, h.b0.other _ _ (by simp; omega), h.b1.other _ _ (by simp), h.b2.other _ _ (by simp), h.b3.set j _ e⟩
end

/-- One bit more in a word. -/
theorem wl_or_bit (n b k : Nat) (hb : b < 2) (i : Nat) : upd (wl n) (k / 64) (.int .u64 ((limb n (k / 64) ||| b * 2 ^ (k % 64) : Nat) : Int)) i = wl (n ||| b * 2 ^ k) i := by
  unfold upd wl
  rw [limb_or_bit hb]
  split <;> rfl
theorem or_bit_int (n b k : Nat) (hb : b < 2) : bits .or .u64 ((limb n (k / 64) : Nat) : Int) (IntKind.u64.wrap ((b : Int) * 2 ^ (k % 64))) = ((limb n (k / 64) ||| b * 2 ^ (k % 64) : Nat) : Int) := by
  have h1 := bitv_lt hb (Nat.mod_lt k (by decide : 0 < 64))
  have h2 := limb_lt n (k / 64)
  have e : ((b : Int) * 2 ^ (k % 64)) = ((b * 2 ^ (k % 64) : Nat) : Int) := by simp
  rw [e, IntKind.wrap_u64, Int.emod_eq_of_lt (by omega) (by omega), u64_or_nat _ _ h2 h1]

theorem or_and_int (n s k : Nat) (hs : s < 18446744073709551616) : bits .or .u64 ((limb n (k / 64) : Nat) : Int) (IntKind.u64.wrap (bits .and .u64 (s : Int) 1 * 2 ^ (k % 64))) = ((limb n (k / 64) ||| s % 2 * 2 ^ (k % 64) : Nat) : Int) := by
  rw [and_one s hs, or_bit_int n (s % 2) k (Nat.mod_lt _ (by decide))]
theorem int_eq {k : IntKind} {a b : Int} (h : a = b) : Value.int k a = Value.int k b := by rw [h]
/-- The carry behind k bits. -/
def bcarry (a b k : Nat) : Nat := (a % 2 ^ k + b % 2 ^ k) / 2 ^ k
theorem bcarry_zero (a b : Nat) : bcarry a b 0 = 0 := by simp [bcarry, Nat.mod_one]
theorem bcarry_le (a b k : Nat) : bcarry a b k ≤ 1 := by
  unfold bcarry
  have h1 := Nat.mod_lt a (Nat.two_pow_pos k)
  have h2 := Nat.mod_lt b (Nat.two_pow_pos k)
  have : (a % 2 ^ k + b % 2 ^ k) / 2 ^ k < 2 := by
    rw [Nat.div_lt_iff_lt_mul (Nat.two_pow_pos _)]; omega
  omega
theorem bcarry_succ (a b k : Nat) : bcarry a b (k + 1) = (a / 2 ^ k % 2 + b / 2 ^ k % 2 + bcarry a b k) / 2 := by
  unfold bcarry
  rw [mod_bit a, mod_bit b]
  have e : a % 2 ^ k + a / 2 ^ k % 2 * 2 ^ k + (b % 2 ^ k + b / 2 ^ k % 2 * 2 ^ k) = (a % 2 ^ k + b % 2 ^ k) + (a / 2 ^ k % 2 + b / 2 ^ k % 2) * 2 ^ k := by
    rw [Nat.add_mul]; omega
  rw [e, Nat.pow_succ, ← Nat.div_div_eq_div_mul, Nat.add_mul_div_right _ _ (Nat.two_pow_pos _)]
  congr 1
  omega
theorem bsum_succ (a b k : Nat) : (a + b) % 2 ^ (k + 1) = (a + b) % 2 ^ k ||| ((a / 2 ^ k % 2 + b / 2 ^ k % 2 + bcarry a b k) % 2) * 2 ^ k := by
  have e : (a + b) / 2 ^ k = a / 2 ^ k + b / 2 ^ k + bcarry a b k := by
    have h1 := Nat.div_add_mod a (2 ^ k)
    have h2 := Nat.div_add_mod b (2 ^ k)
    unfold bcarry
    have e1 : a + b = (a % 2 ^ k + b % 2 ^ k) + 2 ^ k * (a / 2 ^ k + b / 2 ^ k) := by
      rw [Nat.mul_add]; omega
    rw [e1, Nat.add_mul_div_left _ _ (Nat.two_pow_pos _)]
    omega
  rw [mod_bit, add_or (Nat.mod_lt _ (Nat.two_pow_pos _)), e]
  congr 2
  omega
theorem bcarry_end (a b : Nat) (ha : a < P256) (hb : b < P256) : bcarry a b 256 = if P256 ≤ a + b then 1 else 0 := carry_end a b ha hb
end Go.Proofs.Ytboffheklkhnkaa
