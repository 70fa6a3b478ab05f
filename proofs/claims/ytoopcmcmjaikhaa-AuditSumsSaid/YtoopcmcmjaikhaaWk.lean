/- A slice of the call's own that grows, beside blocks of the call's own that stay. -/
import Derived.Test.YtoopcmcmjaikhaaCl
set_option linter.unusedSimpArgs false
namespace Go.Proofs.Ytoopcmcmjaikhaa
open Go.RowKit Go.Lib

structure Work (w0 : World) (l : List (Nat × TypeId × Array Value)) (B : Nat) (p : Option Addr) (g n c : Nat) (x : Nat → Nat) (w : World) : Prop where
  mem : Mem w0 l w
  own : Own B w p g n c x
  low : w0.heap.size ≤ B
  under : ∀ q, q ∈ l → q.1 < B
section
variable {w0 w w' : World} {l : List (Nat × TypeId × Array Value)} {B g n c : Nat} {p : Option Addr} {x y : Nat → Nat}
theorem Work.call (K : Work w0 l B p g n c x w) (hb : Below w.heap.size w w') : Work w0 l B p g n c x w' := ⟨K.mem.call hb, K.own.below hb, K.low, K.under⟩
theorem Work.turn (K : Work w0 l B p g n c x w) {p' : Option Addr} {g' n' c' : Nat} (N : Own B w' p' g' n' c' y) (hb : Below B w w') : Work w0 l B p' g' n' c' y w' := ⟨K.mem.part hb K.low K.under, N, K.low, K.under⟩
theorem Work.to (K : Work w0 l B p g n c x w) (e : ∀ i, i < n → x i = y i) (hy : ∀ i, y i < 256) : Work w0 l B p g n c y w := ⟨K.mem, K.own.to e hy, K.low, K.under⟩
theorem Work.start (E : Mem w0 l w) (N : Own w.heap.size w' p g n c x) (hb : Below w.heap.size w w') : Work w0 l w.heap.size p g n c x w' := ⟨E.call hb, N, E.below.size, E.lt⟩
theorem Work.gets (K : Work w0 l B p g n c x w) : Own w0.heap.size w p g n c x ∧ Below w0.heap.size w0 w := ⟨K.own.mono K.low, K.mem.below⟩
theorem Mem.gets {w1 : World} (E : Mem w0 l w) (N : Own w.heap.size w1 p g n c x) (hb : Below w.heap.size w w1) : Own w0.heap.size w1 p g n c x ∧ Below w0.heap.size w0 w1 := ⟨N.mono E.below.size, (E.call hb).below⟩
end
section
variable {ops : Array Oper} {rest : List Oper} {Q : Exit → Act → World → Prop} {op : Oper} {a : Act} {w w0 : World} {l : List (Nat × TypeId × Array Value)}
/-- A new slice with room for m, nothing in it yet. -/
theorem wpList_mk (hgd : op.guard = none) (lo co : Operand) (ho : op.op = .makeSlice 31 lo co) (E : Hid (Mem w0 l w)) (m : Nat) (C : Int) (hl : a.eval lo = .int .i64 0) (hc : a.eval co = .int .i64 C) (hC : C = ((m : Nat) : Int)) (hm : m ≤ 140737488355328)
    (k : ∀ B p g w', Hid (Work w0 l B p g 0 m (fun _ => 0) w') → wpList Try.prog ops Q rest (a.put op.dst (.slice p 0 m)) w') : wpList Try.prog ops Q (op :: rest) a w := by
  obtain ⟨i0, hi, hz0, hz1, hz2⟩ := info_parts infoB
  refine wpList_make_own (P := Try.prog) w hgd lo co 31 ho w.heap.size 5 i0 (.int .u8 0) 1 Try.underlying31 hi hz0 hz1 .i64 .i64 C m hl hc hC (by rw [hz2]; omega) (by unfold maxLen; omega) (Nat.le_refl _) ?_
  intro w' hown hgrow
  have hb : Below w.heap.size w w' := (Below.refl _ _).grown hgrow (Nat.le_refl _) fun k hk => by cases hk
  exact k _ _ _ w' (Lib.hid (Work.start E.out ⟨hown, .inr rfl, fun _ => by omega, hb.size⟩ hb))
/-- An append to it. -/
theorem wpList_wapp (hgd : op.guard = none ∨ Region.wanted op (yielded ops a.tmps) = true) (s t : Operand) (ho : op.op = .call { callee := .builtin .append, args := #[s, t], argTypes := #[31, 31] }) {B g n c : Nat} {p : Option Addr} {x : Nat → Nat} (K : Hid (Work w0 l B p g n c x w)) (hs : a.eval s = .slice p n c)
    {q : Option Addr} {h o m d : Nat} {y : Nat → Nat} (ht : a.eval t = .slice q m d) (R : Hid (Row w q h o m d y)) (hlen : n + m ≤ 140737488355328)
    (k : ∀ p' g' c' w', Hid (Work w0 l B p' g' (n + m) c' (cat x n y) w') → wpList Try.prog ops Q rest (a.put op.dst (.slice p' (n + m) c')) w') : wpList Try.prog ops Q (op :: rest) a w :=
  wpList_app hgd s t ho hs (Lib.hid K.out.own) ht R hlen fun p' g' c' w' N hb => k p' g' c' w' (Lib.hid (K.out.turn N.out hb.out))
/-- A slice of written bytes. -/
theorem wpList_bs (hgd : op.guard = none) (m : Nat) (parts : Array (Nat × Operand)) (ho : op.op = .buildSlice 31 m parts) (E : Hid (Mem w0 l w)) (x : Nat → Nat) (hx : ∀ i, x i < 256) (hm : m ≤ maxLen)
    (hr : ∀ w : World, (Instr.buildSlice 31 m (parts.map fun (i, y) => (i, a.eval y))).run Try.prog w = .ok (.slice (some ⟨w.heap.size, 0, none⟩) m m) (w.alloc (.cells (fbs x m).toArray 5)))
    (k : ∀ B p g w', Hid (Work w0 l B p g m m x w') → wpList Try.prog ops Q rest (a.put op.dst (.slice p m m)) w') : wpList Try.prog ops Q (op :: rest) a w := by
  refine mem_known hgd (.slice (some ⟨w.heap.size, 0, none⟩) m m) (w.alloc (.cells (fbs x m).toArray 5)) ?_ (k _ _ _ _ (Lib.hid (Work.start E.out (own_new w x m hm hx) (below_new w _))))
  unfold execOp
  simp only [ho, Sem.run_bind, hr w, Result.andThen_ok]
  rfl
end
end Go.Proofs.Ytoopcmcmjaikhaa

