/- The document's writer of bits. -/
import Derived.Test.YtmjaimiehhgidaaRdo
set_option linter.unusedSimpArgs false
set_option linter.unusedVariables false
set_option maxRecDepth 100000
namespace Go.Proofs.Ytmjaimiehhgidaa
open Go.RowKit Go.Lib Go.Sort

def bvv (l : List Bool) : Nat → Value := fun i => .bool (lb l i)
theorem infoBool : (Try.prog.info? 4).map (fun i => (i.zero, i.size, i.bytes)) = some (some (.bool false), 1, 1) := by kernel_rfl
/-- Every block is as it was, but for bools and the document's writers. -/
structure Kx (w w' : World) : Prop where
  size : w.heap.size ≤ w'.heap.size
  keep : ∀ (k : Nat) (cs : Array Value) (T : TypeId), T ≠ 4 → T ≠ 28 → w.heap[k]? = some (.cells cs T (0, 0)) → w'.heap[k]? = some (.cells cs T (0, 0))
theorem Kx.refl (w : World) : Kx w w := ⟨Nat.le_refl _, fun _ _ _ _ _ h => h⟩
theorem Kx.trans {x y z : World} (h : Kx x y) (k : Kx y z) : Kx x z := ⟨Nat.le_trans h.size k.size, fun i cs T h1 h2 hi => k.keep i cs T h1 h2 (h.keep i cs T h1 h2 hi)⟩
theorem Kx.below {w w' : World} (h : Below w.heap.size w w') : Kx w w' := ⟨h.size, fun k cs T _ _ hk => by rw [h.block _ (heap_lt hk)]; exact hk⟩
/-- A writer of the document's in block b. -/
structure Xtr (D w : World) (b : Nat) (l : List Bool) : Prop where
  ex : ∃ p g c, w.heap[b]? = some (.cells #[.slice p l.length c] 28 (0, 0)) ∧ VOwn 4 1 D.heap.size w p g l.length c (bvv l)
  lo : D.heap.size ≤ b
  len : l.length ≤ 1000000000000
def XPost (D w : World) (b : Nat) (l : List Bool) (r : Value) (e : Ending) (w' : World) : Prop := e = .returned r ∧ Xtr D w' b l ∧ Below D.heap.size w w' ∧ Kx w w'
theorem Xtr.call {D w w' : World} {b : Nat} {l : List Bool} (h : Xtr D w b l) (hb : Below w.heap.size w w') : Xtr D w' b l := by
  obtain ⟨p, g, c, h1, N⟩ := h.ex
  exact ⟨⟨p, g, c, by rw [hb.block b (heap_lt h1)]; exact h1, N.below hb⟩, h.lo, h.len⟩
theorem Xtr.kw {D w w' : World} {b : Nat} {l : List Bool} (h : Xtr D w b l) (k : Kw w w') : Xtr D w' b l := by
  obtain ⟨p, g, c, h1, N⟩ := h.ex
  exact ⟨⟨p, g, c, k.keep _ _ _ (by decide) (by decide) (by decide) h1, N.kw k (by decide) (by decide) (by decide)⟩, h.lo, h.len⟩
theorem Xtr.only {D w w' : World} {b b2 T' : Nat} {l : List Bool} {cs : Array Value} (h : Xtr D w b l) (hb : w.heap[b2]? = some (.cells cs T' (0, 0))) (ho : Only b2 w w') (h1 : 28 ≠ T') (h2 : 4 ≠ T') : Xtr D w' b l := by
  obtain ⟨p, g, c, e1, N⟩ := h.ex
  exact ⟨⟨p, g, c, heap_only hb ho e1 h1, N.only hb ho h2⟩, h.lo, h.len⟩
theorem Xtr.size {D w : World} {b : Nat} {l : List Bool} (h : Xtr D w b l) : D.heap.size ≤ w.heap.size := by
  obtain ⟨p, g, c, e1, N⟩ := h.ex
  exact N.low
theorem Wtr.kx {D w w' : World} {b bf bw : Nat} {l : List Bool} (h : Wtr D w b bf bw l) (k : Kx w w') (hb : Below D.heap.size w w') : Wtr D w' b bf bw l := by
  obtain ⟨p1, g1, c1, K⟩ := h.at'
  refine ⟨k.keep _ _ _ (by decide) (by decide) h.box, ⟨p1, g1, c1, ⟨K.mem.below.trans hb, fun q hq => ?_, K.mem.nd, K.mem.ge⟩, ?_, K.nb⟩, h.len⟩
  · have hh := K.mem.has q hq
    simp only [List.mem_cons, List.not_mem_nil, or_false] at hq
    rcases hq with rfl | rfl
    · exact k.keep _ _ _ (by show (3 : Nat) ≠ 4; decide) (by show (3 : Nat) ≠ 28; decide) hh
    · exact k.keep _ _ _ (by show (38 : Nat) ≠ 4; decide) (by show (38 : Nat) ≠ 28; decide) hh
  · refine ⟨?_, K.own.spot, K.own.byte, Nat.le_trans K.own.low k.size⟩
    obtain ⟨h0, h1⟩ := K.own.own
    refine ⟨h0, ?_⟩
    rcases h1 with h1 | ⟨gg, cap, cur, e1, e2, e3, e4⟩
    · exact Or.inl h1
    · exact Or.inr ⟨gg, cap, cur, e1, e2, k.keep _ _ _ (by decide) (by decide) e3, e4⟩
theorem Kx.only {w w' : World} {b T : Nat} {cs : Array Value} (hb : w.heap[b]? = some (.cells cs T (0, 0))) (hT : T = 4 ∨ T = 28) (h : Only b w w') : Kx w w' := ⟨h.size, fun k c2 T2 h1 h2 hk => h.heap (fun e => by
  subst e
  rw [hb] at hk
  injection hk with hk
  injection hk with _ e2 _
  subst e2
  rcases hT with h | h
  · exact h1 h
  · exact h2 h) hk⟩
section
variable {ops : Array Oper} {rest : List Oper} {Q : Exit → Act → World → Prop} {op : Oper} {a : Act} {w : World}
theorem x_store {b : Nat} {u : Value} (hb : Hid (w.heap[b]? = some (.cells #[u] 28 (0, 0)))) (hg : op.guard = none) (x y : Operand) (ho : op.op = .store 26 x y) (hx : a.eval x = .pointer (some ⟨b, 0, none⟩)) {p : Option Addr} {n c : Nat} (hy : a.eval y = .slice p n c)
    (h : ∀ w', Hid (w'.heap[b]? = some (.cells #[.slice p n c] 28 (0, 0)) ∧ Only b w w') → wpList Try.prog ops Q rest (a.put op.dst undef) w') : wpList Try.prog ops Q (op :: rest) a w := by
  have hH : Holds b 28 #[.slice p n c] w (w.setCell ⟨b, 0, none⟩ (.slice p n c)) := (Holds.start hb.out).set rfl
  refine wpList_plain hg fun K hK => ?_
  unfold Oper.wp execOp
  simp only [ho, hx, hy, Sem.run_bind, Sem.run_pure, run_store_one (P := Try.prog) (ty := 26) (v := .slice p n c) (by kernel_rfl) rfl rfl (cell_of_here hb.out 0 rfl) (free_of_here hb.out 0), Result.andThen_ok]
  exact hK _ _ (h _ (Lib.hid ⟨hH.here, hH.only⟩))
end
theorem bvv_snoc (l : List Bool) (x : Bool) (i : Nat) (hi : i < l.length + 1) : vcat (bvv l) (l.length * 1) (fun _ => .bool x) i = bvv (l ++ [x]) i := by
  unfold vcat bvv
  rw [Nat.mul_one]
  by_cases h : i < l.length
  · rw [if_pos h, lb_snoc l x h]
  · obtain rfl : i = l.length := by omega
    rw [if_neg h, lb_last]
section
variable {D w : World} {b : Nat} {l : List Bool}
set_option maxHeartbeats 4000000 in
theorem xbit_any (h : Xtr D w b l) (x : Bool) (hl : l.length + 1 ≤ 1000000000000) : Calls Try.prog 9 #[.pointer (some ⟨b, 0, none⟩), .bool x] w (XPost D w b (l ++ [x]) (.tuple #[])) := by
  obtain ⟨p, g, c, hb, N⟩ := h.ex
  have B0 := Lib.hid hb
  have NN0 := Lib.hid N
  have LO := Lib.hid h.lo
  have HL := Lib.hid hl
  have SZ := Lib.hid h.size
  have cc := cell_of_here hb 0 (v := .slice p l.length c) rfl
  clear h hb N hl
  go_enter Try.func9, Try.ntmps9
  go_wp2_with (first
    | (refine wpList_vbs 26 4 1 1 rfl _ rfl (fun _ => .bool x) (fun i _ => rfl) (by unfold maxLen; omega) (ps := #[(0, .bool x)]) (by kernel_rfl) (fun W => run_bs1v Try.underlying26 infoBool _ rfl W) rfl ?_; intro p1 g1 w1 N1 hb1; have NN1 := Lib.hid (NN0.out.below hb1.out); have B1 := Lib.hid (show w1.heap[b]? = some (.cells #[.slice p l.length c] 28 (0, 0)) by rw [hb1.out.block b (heap_lt B0.out)]; exact B0.out))
    | (refine wpList_vapp 26 4 1 1 Try.underlying26 infoBool rfl (by omega) rfl (.tmp 8) (.tmp 10) rfl rfl NN1 rfl (Lib.hid N1.out.row) (by unfold maxLen; have := HL.out; omega) (by have := HL.out; omega) ?_; intro p2 g2 c2 w2 N2 hg2; have B2 := Lib.hid (NN1.out.other hg2.out (by decide) B1.out); have U2 := Lib.hid (NN1.out.under hg2.out (Nat.le_refl _) NN1.out.low); have K2 := Lib.hid (show Kx w1 w2 from ⟨hg2.out.size, fun k cs T h1 _ hk => NN1.out.other hg2.out h1 hk⟩))
    | (refine x_store B2 rfl (.tmp 13) (.tmp 11) rfl rfl rfl ?_; intro w3 S3))
  go_end0
  have e1 : (l ++ [x]).length = l.length + 1 := by simp
  refine ⟨rfl, ⟨⟨p2, g2, c2, by rw [e1]; exact S3.out.1, ?_⟩, LO.out, by rw [e1]; exact HL.out⟩, ((hb1.out.mono SZ.out).trans U2.out).trans (S3.out.2.below LO.out (Nat.le_trans (Nat.le_trans SZ.out hb1.out.size) U2.out.size)), ((Kx.below hb1.out).trans K2.out).trans (Kx.only B2.out (.inr rfl) S3.out.2)⟩
  rw [e1]
  exact (N2.out.only B2.out S3.out.2 (by decide)).to fun i hi => bvv_snoc l x i (by omega)
end
end Go.Proofs.Ytmjaimiehhgidaa
