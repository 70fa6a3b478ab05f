/- Texts of ours, merged: Xw, Xv. -/
import Derived.Test.YtoopcmcmjaikhaaDoorRcd
import Derived.Test.YtoopcmcmjaikhaaDoorRop
import Derived.Test.YtoopcmcmjaikhaaDoorSv
section
set_option linter.unusedSimpArgs false
set_option linter.unusedVariables false
set_option maxRecDepth 100000
namespace Go.Proofs.YtoopcmcmjaikhaaDoor
open Go.RowKit Go.Lib Go.Sort

def bvv (l : List Bool) : Nat → Value := fun i => .bool (lb l i)
theorem infoBool : (Tryd.prog.info? 4).map (fun i => (i.zero, i.size, i.bytes)) = some (some (.bool false), 1, 1) := by kernel_rfl
/-- Every block is as it was, but for bools and the document's writers. -/
structure Kx (w w' : World) : Prop where
  size : w.heap.size ≤ w'.heap.size
  keep : ∀ (k : Nat) (cs : Array Value) (T : TypeId), T ≠ 4 → T ≠ 75 → w.heap[k]? = some (.cells cs T (0, 0)) → w'.heap[k]? = some (.cells cs T (0, 0))
theorem Kx.refl (w : World) : Kx w w := ⟨Nat.le_refl _, fun _ _ _ _ _ h => h⟩
theorem Kx.trans {x y z : World} (h : Kx x y) (k : Kx y z) : Kx x z := ⟨Nat.le_trans h.size k.size, fun i cs T h1 h2 hi => k.keep i cs T h1 h2 (h.keep i cs T h1 h2 hi)⟩
theorem Kx.below {w w' : World} (h : Below w.heap.size w w') : Kx w w' := ⟨h.size, fun k cs T _ _ hk => by rw [h.block _ (heap_lt hk)]; exact hk⟩
/-- A writer of the document's in block b. -/
structure Xtr (D w : World) (b : Nat) (l : List Bool) : Prop where
  ex : ∃ p g c, w.heap[b]? = some (.cells #[.slice p l.length c] 75 (0, 0)) ∧ VOwn 4 1 D.heap.size w p g l.length c (bvv l)
  lo : D.heap.size ≤ b
  len : l.length ≤ 1000000000000
def XPost (D w : World) (b : Nat) (l : List Bool) (r : Value) (e : Ending) (w' : World) : Prop := e = .returned r ∧ Xtr D w' b l ∧ Below D.heap.size w w' ∧ Kx w w'
theorem Xtr.call {D w w' : World} {b : Nat} {l : List Bool} (h : Xtr D w b l) (hb : Below w.heap.size w w') : Xtr D w' b l := by
  obtain ⟨p, g, c, h1, N⟩ := h.ex
  exact ⟨⟨p, g, c, by rw [hb.block b (heap_lt h1)]; exact h1, N.below hb⟩, h.lo, h.len⟩
theorem Xtr.kw {D w w' : World} {b : Nat} {l : List Bool} (h : Xtr D w b l) (k : Kw w w') : Xtr D w' b l := by
  obtain ⟨p, g, c, h1, N⟩ := h.ex
  exact ⟨⟨p, g, c, k.keep _ _ _ (by decide) (by decide) (by decide) h1, N.kw k (by decide) (by decide) (by decide)⟩, h.lo, h.len⟩
theorem Xtr.only {D w w' : World} {b b2 T' : Nat} {l : List Bool} {cs : Array Value} (h : Xtr D w b l) (hb : w.heap[b2]? = some (.cells cs T' (0, 0))) (ho : Only b2 w w') (h1 : 75 ≠ T') (h2 : 4 ≠ T') : Xtr D w' b l := by
  obtain ⟨p, g, c, e1, N⟩ := h.ex
  exact ⟨⟨p, g, c, heap_only hb ho e1 h1, N.only hb ho h2⟩, h.lo, h.len⟩
theorem Xtr.size {D w : World} {b : Nat} {l : List Bool} (h : Xtr D w b l) : D.heap.size ≤ w.heap.size := by
  obtain ⟨p, g, c, e1, N⟩ := h.ex
  exact N.low
theorem Wtr.kx {D w w' : World} {b bf bw : Nat} {l : List Bool} (h : Wtr D w b bf bw l) (k : Kx w w') (hb : Below D.heap.size w w') : Wtr D w' b bf bw l := by
  obtain ⟨p1, g1, c1, K⟩ := h.at'
  refine ⟨k.keep _ _ _ (by decide) (by decide) h.box, ⟨p1, g1, c1, ⟨K.mem.below.trans hb, fun q hq => ?_, K.mem.nd, K.mem.ge⟩, ?_, K.nb⟩, h.len⟩
  · have hh := K.mem.has q hq
    simp only [List.mem_cons, List.not_mem_nil, or_false] at hq
    rcases hq with rfl | rfl
    · exact k.keep _ _ _ (by show (3 : Nat) ≠ 4; decide) (by show (3 : Nat) ≠ 75; decide) hh
    · exact k.keep _ _ _ (by show (32 : Nat) ≠ 4; decide) (by show (32 : Nat) ≠ 75; decide) hh
  · refine ⟨?_, K.own.spot, K.own.byte, Nat.le_trans K.own.low k.size⟩
    obtain ⟨h0, h1⟩ := K.own.own
    refine ⟨h0, ?_⟩
    rcases h1 with h1 | ⟨gg, cap, cur, e1, e2, e3, e4⟩
    · exact Or.inl h1
    · exact Or.inr ⟨gg, cap, cur, e1, e2, k.keep _ _ _ (by decide) (by decide) e3, e4⟩
theorem Kx.only {w w' : World} {b T : Nat} {cs : Array Value} (hb : w.heap[b]? = some (.cells cs T (0, 0))) (hT : T = 4 ∨ T = 75) (h : Only b w w') : Kx w w' := ⟨h.size, fun k c2 T2 h1 h2 hk => h.heap (fun e => by
  subst e
  rw [hb] at hk
  injection hk with hk
  injection hk with _ e2 _
  subst e2
  rcases hT with h | h
  · exact h1 h
  · exact h2 h) hk⟩
section
variable {ops : Array Oper} {rest : List Oper} {Q : Exit → Act → World → Prop} {op : Oper} {a : Act} {w : World}
theorem x_store {b : Nat} {u : Value} (hb : Hid (w.heap[b]? = some (.cells #[u] 75 (0, 0)))) (hg : op.guard = none) (x y : Operand) (ho : op.op = .store 73 x y) (hx : a.eval x = .pointer (some ⟨b, 0, none⟩)) {p : Option Addr} {n c : Nat} (hy : a.eval y = .slice p n c)
    (h : ∀ w', Hid (w'.heap[b]? = some (.cells #[.slice p n c] 75 (0, 0)) ∧ Only b w w') → wpList Tryd.prog ops Q rest (a.put op.dst undef) w') : wpList Tryd.prog ops Q (op :: rest) a w := by
  have hH : Holds b 75 #[.slice p n c] w (w.setCell ⟨b, 0, none⟩ (.slice p n c)) := (Holds.start hb.out).set rfl
  refine wpList_plain hg fun K hK => ?_
  unfold Oper.wp execOp
  simp only [ho, hx, hy, Sem.run_bind, Sem.run_pure, run_store_one (P := Tryd.prog) (ty := 73) (v := .slice p n c) (by kernel_rfl) rfl rfl (cell_of_here hb.out 0 rfl) (free_of_here hb.out 0), Result.andThen_ok]
  exact hK _ _ (h _ (Lib.hid ⟨hH.here, hH.only⟩))
end
theorem bvv_snoc (l : List Bool) (x : Bool) (i : Nat) (hi : i < l.length + 1) : vcat (bvv l) (l.length * 1) (fun _ => .bool x) i = bvv (l ++ [x]) i := by
  unfold vcat bvv
  rw [Nat.mul_one]
  by_cases h : i < l.length
  · rw [if_pos h, lb_snoc l x h]
  · obtain rfl : i = l.length := by omega
    rw [if_neg h, lb_last]
section
variable {D w : World} {b : Nat} {l : List Bool}
set_option maxHeartbeats 4000000 in
theorem xbit_any (h : Xtr D w b l) (x : Bool) (hl : l.length + 1 ≤ 1000000000000) : Calls Tryd.prog 78 #[.pointer (some ⟨b, 0, none⟩), .bool x] w (XPost D w b (l ++ [x]) (.tuple #[])) := by
  obtain ⟨p, g, c, hb, N⟩ := h.ex
  have B0 := Lib.hid hb
  have NN0 := Lib.hid N
  have LO := Lib.hid h.lo
  have HL := Lib.hid hl
  have SZ := Lib.hid h.size
  have cc := cell_of_here hb 0 (v := .slice p l.length c) rfl
  clear h hb N hl
  go_enter Tryd.func78, Tryd.ntmps78
  go_wp2_with (first
    | (refine wpList_vbs 73 4 1 1 rfl _ rfl (fun _ => .bool x) (fun i _ => rfl) (by unfold maxLen; omega) (ps := #[(0, .bool x)]) (by kernel_rfl) (fun W => run_bs1v Tryd.underlying73 infoBool _ rfl W) rfl ?_; intro p1 g1 w1 N1 hb1; have NN1 := Lib.hid (NN0.out.below hb1.out); have B1 := Lib.hid (show w1.heap[b]? = some (.cells #[.slice p l.length c] 75 (0, 0)) by rw [hb1.out.block b (heap_lt B0.out)]; exact B0.out))
    | (refine wpList_vapp 73 4 1 1 Tryd.underlying73 infoBool rfl (by omega) rfl (.tmp 8) (.tmp 10) rfl rfl NN1 rfl (Lib.hid N1.out.row) (by unfold maxLen; have := HL.out; omega) (by have := HL.out; omega) ?_; intro p2 g2 c2 w2 N2 hg2; have B2 := Lib.hid (NN1.out.other hg2.out (by decide) B1.out); have U2 := Lib.hid (NN1.out.under hg2.out (Nat.le_refl _) NN1.out.low); have K2 := Lib.hid (show Kx w1 w2 from ⟨hg2.out.size, fun k cs T h1 _ hk => NN1.out.other hg2.out h1 hk⟩))
    | (refine x_store B2 rfl (.tmp 13) (.tmp 11) rfl rfl rfl ?_; intro w3 S3))
  go_end0
  have e1 : (l ++ [x]).length = l.length + 1 := by simp
  refine ⟨rfl, ⟨⟨p2, g2, c2, by rw [e1]; exact S3.out.1, ?_⟩, LO.out, by rw [e1]; exact HL.out⟩, ((hb1.out.mono SZ.out).trans U2.out).trans (S3.out.2.below LO.out (Nat.le_trans (Nat.le_trans SZ.out hb1.out.size) U2.out.size)), ((Kx.below hb1.out).trans K2.out).trans (Kx.only B2.out (.inr rfl) S3.out.2)⟩
  rw [e1]
  exact (N2.out.only B2.out S3.out.2 (by decide)).to fun i hi => bvv_snoc l x i (by omega)
end
end Go.Proofs.YtoopcmcmjaikhaaDoor
end
section
set_option linter.unusedSimpArgs false
set_option linter.unusedVariables false
set_option maxRecDepth 100000
namespace Go.Proofs.YtoopcmcmjaikhaaDoor
open Go.RowKit Go.Lib Go.Sort

section
variable {D w : World} {b : Nat} {l : List Bool}
theorem xbits_bad (n : Int) (c : Int) (hc : ¬ (0 ≤ c ∧ c ≤ 64)) (v : Value) : Calls Tryd.prog 79 #[v, .int .u64 n, .int .i64 c] w fun e w' => e = .returned (.int .i64 1) ∧ w = w' := by
  by_cases h1 : c < 0
  · clear hc
    go_enter Tryd.func79, Tryd.ntmps79
    go_wp2
    go_ret
    exact ⟨rfl, rfl⟩
  · have h2 : c > 64 := by omega
    clear hc
    go_enter Tryd.func79, Tryd.ntmps79
    go_wp2
    go_ret
    exact ⟨rfl, rfl⟩
set_option maxHeartbeats 4000000 in
theorem xbits_any (h : Xtr D w b l) (n c : Nat) (hn : n < 18446744073709551616) (hc : c ≤ 64) (hl : l.length + c ≤ 1000000000000) : Calls Tryd.prog 79 #[.pointer (some ⟨b, 0, none⟩), .int .u64 (n : Int), .int .i64 (c : Int)] w (XPost D w b (l ++ bitsOf n c) (.int .i64 0)) := by
  obtain ⟨L, hL⟩ : ∃ L, L = l ++ bitsOf n c := ⟨_, rfl⟩
  rw [← hL]
  have LE := Lib.hid hL.symm
  have LL := Lib.hid (show L.length ≤ 1000000000000 by rw [hL, List.length_append, bitsOf_length]; exact hl)
  have I := Lib.hid h
  have HN := Lib.hid hn
  have HC := Lib.hid hc
  have h1 : ¬ (c : Int) < 0 := by omega
  have h2 : ¬ (c : Int) > 64 := by omega
  have x1 : wrap64 ((c : Int) - 1) = (c : Int) - 1 := by unfold wrap64; omega
  clear h hL hn hc hl
  go_enter Tryd.func79, Tryd.ntmps79
  go_wp2
  go_loopg [7] c (fun k i wr => ∃ (l' : List Bool), i = .int .i64 ((k : Int) - 1) ∧ k ≤ 64 ∧ Hid (Xtr D wr b l') ∧ Hid (l' ++ bitsOf n k = L) ∧ Hid (Below D.heap.size w wr ∧ Kx w wr))
  case atStart => exact ⟨l, rfl, HC.out, I, LE, Lib.hid ⟨Below.refl _ _, Kx.refl _⟩⟩
  case round =>
    obtain ⟨l', rfl, hk, H, LE2, HB⟩ := hrel
    rcases Nat.eq_zero_or_pos gk with hk0 | hk0
    · subst hk0
      go_wp2
      go_ret
      have e := LE2.out
      simp [bitsOf] at e
      subst e
      exact ⟨rfl, H.out, HB.out⟩
    · obtain ⟨j, rfl⟩ : ∃ j, gk = j + 1 := ⟨gk - 1, by omega⟩
      have HJ := Lib.hid (show j < 64 ∧ l'.length + 1 ≤ 1000000000000 by have h1 := LE2.out; have h2 := LL.out; rw [← h1, List.length_append, bitsOf_length] at h2; omega)
      have HJ2 := Lib.hid (show (l' ++ [n.testBit j]) ++ bitsOf n j = L by have h1 := LE2.out; rw [bitsOf_succ] at h1; rw [← h1, List.append_assoc]; rfl)
      obtain ⟨z, hz⟩ : ∃ z : Int, z = ((j + 1 : Nat) : Int) - 1 := ⟨_, rfl⟩
      have HZ := Lib.hid (show z = (j : Int) by omega)
      have cz : z ≥ 0 := by omega
      have x2 : wrap64 (z - 1) = (j : Int) - 1 := by have := HJ.out; unfold wrap64; omega
      rw [← hz]
      clear hz hk0 hk x1
      go_wp2_with (first
        | (refine wpList_known rfl (.int .u64 ((n / 2 ^ j : Nat) : Int)) _ (exec_shr64 rfl rfl (by rw [← HZ.out]; rfl) HJ.out.1) ?_)
        | (refine wpList_known rfl (.int .u64 ((n / 2 ^ j % 2 : Nat) : Int)) _ (exec_and1 rfl rfl rfl (Nat.lt_of_le_of_lt (Nat.div_le_self _ _) HN.out)) ?_)
        | (refine wpList_known rfl (.bool (n.testBit j)) _ (exec_eq1 rfl rfl rfl (bit_of n j)) ?_)
        | (go_at_call 78; refine (xbit_any H.out (n.testBit j) HJ.out.2).mono ?_; rintro e w5 ⟨rfl, hA, hb5, hk5⟩; have H5 := Lib.hid hA; have B5 := Lib.hid (And.intro (HB.out.1.trans hb5) (HB.out.2.trans hk5)); clear hA hb5 hk5))
      go_roundg j
      case measure => omega
      case rel => exact ⟨_, by first | rfl | (rw [x2]), by have := HJ.out.1; omega, H5, HJ2, B5⟩
theorem xrice_bad1 (n : Int) (r : Int) (hr : ¬ (0 ≤ r ∧ r ≤ 32)) (v : Value) : Calls Tryd.prog 42 #[v, .int .u64 n, .int .i64 r] w fun e w' => e = .returned (.int .i64 1) ∧ w = w' := by
  by_cases h1 : r < 0
  · clear hr
    go_enter Tryd.func42, Tryd.ntmps42
    go_wp2
    go_ret
    exact ⟨rfl, rfl⟩
  · have h2 : r > 32 := by omega
    clear hr
    go_enter Tryd.func42, Tryd.ntmps42
    go_wp2
    go_ret
    exact ⟨rfl, rfl⟩
theorem xrice_bad2 (n r : Nat) (hr : r ≤ 32) (hq : 65535 < n / 2 ^ r) (v : Value) : Calls Tryd.prog 42 #[v, .int .u64 (n : Int), .int .i64 (r : Int)] w fun e w' => e = .returned (.int .i64 1) ∧ w = w' := by
  have HR := Lib.hid (show r < 64 by omega)
  have h1 : ¬ (r : Int) < 0 := by omega
  have h2 : ¬ (r : Int) > 32 := by omega
  obtain ⟨q, hq1⟩ : ∃ q, q = n / 2 ^ r := ⟨_, rfl⟩
  rw [← hq1] at hq
  have HQ := Lib.hid hq1
  have cq : (q : Int) > 65535 := by omega
  clear hr hq hq1
  go_enter Tryd.func42, Tryd.ntmps42
  go_wp2_with (refine wpList_known rfl (.int .u64 (q : Int)) _ (by rw [HQ.out]; exact exec_shr64 rfl rfl rfl HR.out) ?_)
  go_ret
  exact ⟨rfl, rfl⟩
theorem exec_ltq {o : Oper} {ev : Operand → Value} {W : World} {x y : Operand} {n m : Nat} {q : Bool} (ho : o.op = .binOp .lss 59 x y 59) (hx : ev x = .int .u64 (n : Int)) (hy : ev y = .int .u64 (m : Int)) (hq : decide (n < m) = q) : (execOp ev o).run Tryd.prog W = .ok (.value (.bool q)) W := by
  subst hq
  unfold execOp
  simp [ho, hx, hy, go_sem]
set_option maxHeartbeats 4000000 in
theorem xrice_any (h : Xtr D w b l) (n r : Nat) (hn : n < 18446744073709551616) (hr : r ≤ 32) (hq : n / 2 ^ r ≤ 65535) (hl : l.length + 65535 + 33 ≤ 1000000000000) : Calls Tryd.prog 42 #[.pointer (some ⟨b, 0, none⟩), .int .u64 (n : Int), .int .i64 (r : Int)] w (XPost D w b (l ++ codeOf n r) (.int .i64 0)) := by
  obtain ⟨L, hL⟩ : ∃ L, L = l ++ codeOf n r := ⟨_, rfl⟩
  rw [← hL]
  unfold codeOf at hL
  obtain ⟨q, hq1⟩ : ∃ q, q = n / 2 ^ r := ⟨_, rfl⟩
  rw [← hq1] at hq hL
  have HQ := Lib.hid hq1
  have LE := Lib.hid hL.symm
  have I := Lib.hid h
  have HN := Lib.hid hn
  have HR := Lib.hid (show r < 64 ∧ r ≤ 32 by omega)
  have HC := Lib.hid (And.intro hq hl)
  have h1 : ¬ (r : Int) < 0 := by omega
  have h2 : ¬ (r : Int) > 32 := by omega
  have cq : ¬ (q : Int) > 65535 := by omega
  clear h hL hn hr hq hq1 hl
  go_enter Tryd.func42, Tryd.ntmps42
  go_wp2_with (refine wpList_known rfl (.int .u64 (q : Int)) _ (by rw [HQ.out]; exact exec_shr64 rfl rfl rfl HR.out.1) ?_)
  clear h1 h2 cq
  go_loopg [22] q (fun k i wr => ∃ (j : Nat) (l' : List Bool), j + k = q ∧ i = .int .u64 (j : Int) ∧ Hid (Xtr D wr b l') ∧ Hid (l' ++ (List.replicate k true ++ (false :: bitsOf n r)) = L) ∧ Hid (l'.length = l.length + j) ∧ Hid (Below D.heap.size w wr ∧ Kx w wr))
  case atStart => exact ⟨0, l, by omega, rfl, I, LE, Lib.hid rfl, Lib.hid ⟨Below.refl _ _, Kx.refl _⟩⟩
  case round =>
    obtain ⟨j, l', hj, rfl, H, LE2, LN, HB⟩ := hrel
    by_cases hlt : j < q
    · obtain ⟨k, rfl⟩ : ∃ k, gk = k + 1 := ⟨gk - 1, by omega⟩
      have LT := Lib.hid hlt
      have HJ := Lib.hid (show l'.length + 1 ≤ 1000000000000 by have := HC.out; have := LN.out; omega)
      have HE := Lib.hid (show (l' ++ [true]) ++ (List.replicate k true ++ (false :: bitsOf n r)) = L by have h1 := LE2.out; rw [← h1, List.replicate_succ, List.append_assoc]; rfl)
      have cw := Lib.hid (show IntKind.u64.wrap ((j : Int) + 1) = ((j + 1 : Nat) : Int) by have := HC.out; rw [IntKind.wrap_u64]; omega)
      have HJK := Lib.hid hj
      clear hlt hj
      go_wp2_with (first
        | (refine wpList_known rfl (.bool true) _ (exec_ltq rfl rfl rfl (decide_eq_true LT.out)) ?_)
        | (refine wpList_known rfl (.int .u64 ((j + 1 : Nat) : Int)) _ (exec_inc rfl rfl rfl cw.out) ?_)
        | (go_at_call 78; refine (xbit_any H.out true HJ.out).mono ?_; rintro e w5 ⟨rfl, hA, hb5, hk5⟩; have H5 := Lib.hid hA; have B5 := Lib.hid (And.intro (HB.out.1.trans hb5) (HB.out.2.trans hk5)); clear hA hb5 hk5))
      go_roundg k
      case measure => omega
      case rel => exact ⟨j + 1, _, by have := HJK.out; omega, rfl, H5, HE, Lib.hid (by have := LN.out; simp; omega), B5⟩
    · obtain rfl : gk = 0 := by omega
      obtain rfl : j = q := by omega
      have HJ := Lib.hid (show l'.length + 1 ≤ 1000000000000 ∧ (l' ++ [false]).length + r ≤ 1000000000000 by have := HC.out; have := LN.out; have := HR.out; simp; omega)
      have HE := Lib.hid (show (l' ++ [false]) ++ bitsOf n r = L by have h1 := LE2.out; rw [← h1, List.append_assoc]; rfl)
      clear hlt hj
      go_wp2_with (first
        | (refine wpList_known rfl (.bool false) _ (exec_ltq rfl rfl rfl (by simp)) ?_)
        | (go_at_call 78; refine (xbit_any H.out false HJ.out.1).mono ?_; rintro e w5 ⟨rfl, hA, hb5, hk5⟩; have H5 := Lib.hid hA; have B5 := Lib.hid (And.intro (HB.out.1.trans hb5) (HB.out.2.trans hk5)); clear hA hb5 hk5)
        | (go_at_call 79; refine (xbits_any H5.out n r HN.out (by have := HR.out; omega) HJ.out.2).mono ?_; rintro e w6 ⟨rfl, hA, hb6, hk6⟩; have H6 := Lib.hid hA; have B6 := Lib.hid (And.intro (B5.out.1.trans hb6) (B5.out.2.trans hk6)); clear hA hb6 hk6))
      go_ret
      exact ⟨rfl, HE.out ▸ H6.out, B6.out⟩
end
theorem do_box {ops : Array Oper} {rest : List Oper} {Q : Exit → Act → World → Prop} {op : Oper} {a : Act} {w : World} (hg : op.guard = none) (x : Operand) (ho : op.op = .box 75 x) (hx : a.eval x = .agg #[.slice none 0 0])
    (h : ∀ b w', Hid (Below w.heap.size w w' ∧ w.heap.size ≤ b ∧ w'.heap[b]? = some (.cells #[.slice none 0 0] 75 (0, 0))) → wpList Tryd.prog ops Q rest (a.put op.dst (.pointer (some ⟨b, 0, none⟩))) w') : wpList Tryd.prog ops Q (op :: rest) a w := by
  refine mem_known hg (.pointer (some ⟨w.heap.size, 0, none⟩)) (w.alloc (.cells #[.slice none 0 0] 75)) ?_ (h _ _ (Lib.hid ⟨below_new w _, Nat.le_refl _, here_new w _ _⟩))
  unfold execOp
  simp only [ho, hx, Sem.run_bind, Instr.box]
  rfl
theorem exec_shr128 {o : Oper} {ev : Operand → Value} {W : World} {x y : Operand} {k : Nat} (ho : o.op = .binOp .shr 5 x y 3) (hx : ev x = .int .u8 128) (hy : ev y = .int .i64 (k : Int)) (hk : k < 8) : (execOp ev o).run Tryd.prog W = .ok (.value (.int .u8 ((2 ^ (7 - k) : Nat) : Int))) W := by
  unfold execOp
  have h : k = 0 ∨ k = 1 ∨ k = 2 ∨ k = 3 ∨ k = 4 ∨ k = 5 ∨ k = 6 ∨ k = 7 := by omega
  rcases h with rfl | rfl | rfl | rfl | rfl | rfl | rfl | rfl <;> (simp [ho, hx, hy, go_sem]; try decide)
/-- A row of bytes of the call's own, in its block. -/
structure Ob (w0 w : World) (g N : Nat) (f : Nat → Nat) : Prop where
  own : Own w0.heap.size w (some ⟨g, 0, none⟩) g N N f
  bel : Below w0.heap.size w0 w
theorem Ob.call {w0 w w' : World} {g N : Nat} {f : Nat → Nat} (h : Ob w0 w g N f) (hb : Below w.heap.size w w') : Ob w0 w' g N f := ⟨h.own.below hb, h.bel.trans (hb.mono h.bel.size)⟩
theorem mo_ownset {K : Act → World → Prop} {Q : Exit → Act → World → Prop} {op : Oper} {a : Act} {w0 w : World} {g N : Nat} {f : Nat → Nat} (h0 : Hid (Ob w0 w g N f)) (x y : Operand) (ho : op.op = .store 5 x y) {i v : Nat} (hx : a.eval x = .pointer (some ⟨g, i, none⟩)) (hy : a.eval y = .int .u8 (v : Int)) (hi : i < N) (hv : v < 256)
    (h : ∀ w', Hid (Ob w0 w' g N (fun j => if j = i then v else f j)) → K (a.put op.dst undef) w') : op.wp Tryd.prog a w K Q := by
  obtain ⟨O, hO, hp, hg, cur, hc, hcs⟩ := own_set h0.out.own hi v hv
  unfold Oper.wp execOp
  simp only [ho, hx, hy, Sem.run_bind, Sem.run_pure, run_store_one (P := Tryd.prog) (ty := 5) (v := .int .u8 (v : Int)) (by kernel_rfl) rfl rfl (cell_of_here hc i (Array.getElem?_eq_getElem hcs)) (free_of_here hc i), Result.andThen_ok]
  exact h _ (Lib.hid ⟨O, h0.out.bel.trans (hO.below hg h0.out.bel.size)⟩)
theorem wpList_mkb {ops : Array Oper} {rest : List Oper} {Q : Exit → Act → World → Prop} {op : Oper} {a : Act} {w : World} (hgd : op.guard = none) (lo co : Operand) (ho : op.op = .makeSlice 32 lo co) (n : Nat) (hl : a.eval lo = .int .i64 ((n : Nat) : Int)) (hc : a.eval co = .int .i64 ((n : Nat) : Int)) (hn : n ≤ 1000000000000)
    (k : ∀ g w', Hid (Ob w w' g n (fun _ => 0)) → wpList Tryd.prog ops Q rest (a.put op.dst (.slice (some ⟨g, 0, none⟩) n n)) w') : wpList Tryd.prog ops Q (op :: rest) a w := by
  obtain ⟨i0, hi, hz0, hz1, hz2⟩ := info_parts infoB
  refine wpList_make_full (P := Tryd.prog) w hgd lo co 32 ho w.heap.size 5 i0 (.int .u8 0) 1 Tryd.underlying32 hi hz0 hz1 .i64 .i64 _ _ n hl hc rfl rfl (by rw [hz2]; omega) (by unfold maxLen; omega) (Nat.le_refl _) ?_
  intro w' hown hgrow
  have hz : (madeCells (Value.int .u8 0).cells (n * 1)).toList = fbs (fun _ => 0) n := by
    apply List.ext_getElem?
    intro i
    rw [Nat.mul_one]
    rcases Nat.lt_or_ge i n with h | h
    · rw [fbs_at _ _ _ h]
      have e : i % 1 = 0 := Nat.mod_one i
      simp [madeCells, Value.cells, h, e]
    · rw [List.getElem?_eq_none (by simp [madeCells, Value.cells]; omega), List.getElem?_eq_none (by rw [fbs_length]; exact h)]
  rw [hz] at hown
  have hb : Below w.heap.size w w' := (Below.refl _ _).grown hgrow (Nat.le_refl _) fun k hk => by cases hk
  exact k _ w' (Lib.hid ⟨⟨hown, .inr rfl, fun _ => by omega, hb.size⟩, hb⟩)
theorem exec_add7 {o : Oper} {ev : Operand → Value} {W : World} {x y : Operand} {n : Nat} (ho : o.op = .binOp .add 3 x y 3) (hx : ev x = .int .i64 (n : Int)) (hy : ev y = .int .i64 7) (hn : n ≤ 1000000000000) : (execOp ev o).run Tryd.prog W = .ok (.value (.int .i64 ((n + 7 : Nat) : Int))) W := by
  unfold execOp
  simp [ho, hx, hy, go_sem]
  all_goals (try (simp only [IntKind.wrap_i64, wrap64] at *))
  all_goals omega
theorem exec_lenbools {o : Oper} {ev : Operand → Value} {W : World} {x : Operand} {p : Option Addr} {n c : Nat} (ho : o.op = .call { callee := .builtin .len, args := #[x], argTypes := #[73] }) (hx : ev x = .slice p n c) : (execOp ev o).run Tryd.prog W = .ok (.value (.int .i64 (n : Int))) W := by
  unfold execOp
  simp [ho, hx, resolve, invoke, builtin, go_sem]
section
variable {D w : World} {b : Nat} {l : List Bool}
set_option maxHeartbeats 8000000 in
theorem xbytes_any (h : Xtr D w b l) : Calls Tryd.prog 44 #[.pointer (some ⟨b, 0, none⟩)] w (GetsL w (pk l)) := by
  obtain ⟨p, g0, c, hb, V0⟩ := h.ex
  obtain ⟨n, hn⟩ : ∃ n, n = l.length := ⟨_, rfl⟩
  have HN := Lib.hid hn
  have HL := Lib.hid (show n ≤ 1000000000000 by rw [hn]; exact h.len)
  have RW := Lib.hid V0.row
  rw [← hn] at RW hb
  have cc := cell_of_here hb 0 (v := .slice p n c) rfl
  obtain ⟨N, hN⟩ : ∃ N, N = nB n := ⟨_, rfl⟩
  have HNN := Lib.hid hN
  have BC := Lib.hid cc
  have x1 : wrap64 ((wrap64 ((n : Int) + 7)).tdiv 8) = (N : Int) := by
    have e : wrap64 ((n : Int) + 7) = (n : Int) + 7 := by have := HL.out; unfold wrap64; omega
    rw [e, Int.tdiv_eq_ediv_of_nonneg (by omega), hN]
    have := HL.out
    unfold wrap64 nB
    omega
  have x2 : wrap64 (((n : Int) + 7).tdiv 8) = (N : Int) := by
    have e : wrap64 ((n : Int) + 7) = (n : Int) + 7 := by have := HL.out; unfold wrap64; omega
    rw [e] at x1
    exact x1
  clear h hb V0 hn hN
  go_enter Tryd.func44, Tryd.ntmps44
  go_upto_region 2 with (first
    | (refine wpList_known rfl (.int .i64 (n : Int)) _ (exec_lenbools rfl rfl) ?_)
    | (refine wpList_known rfl (.int .i64 ((n + 7 : Nat) : Int)) _ (exec_add7 rfl rfl rfl HL.out) ?_)
    | (refine wpList_known rfl (.int .i64 (N : Int)) _ (by rw [HNN.out]; exact exec_quo8 rfl rfl rfl (by have := HL.out; omega)) ?_)
    | (refine wpList_mkb rfl (.tmp 12) (.tmp 12) rfl N rfl rfl (by rw [HNN.out]; unfold nB; have := HL.out; omega) ?_; intro g w1 ON))
  clear x1 x2 cc
  have cc : w1.cell? ⟨b, 0, none⟩ = some (.slice p n c) := by rw [ON.out.bel.cell (cell_lt BC.out)]; exact BC.out
  go_wp2_with (refine wpList_known rfl (.int .i64 (n : Int)) _ (exec_lenbools rfl rfl) ?_)
  have ON2 : Hid (Ob w w1 g N (fun i => pbf (lb l) 0 i)) := ON
  clear cc
  go_loopg [19] n (fun k i wr => ∃ (j : Nat), j + k = n ∧ i = .int .i64 (j : Int) ∧ Hid (Ob w wr g N (fun i => pbf (lb l) j i)))
  case atStart => exact ⟨0, by omega, rfl, ON2⟩
  case round =>
    clear ON ON2
    obtain ⟨j, hj, rfl, ON⟩ := hrel
    obtain ⟨kk, rfl⟩ : ∃ kk : Nat, kk = gk := ⟨_, rfl⟩
    by_cases hlt : j < n
    · have HLT := Lib.hid hlt
      obtain rfl := RW.out.head (by omega)
      obtain ⟨y, hy⟩ : ∃ y, y = lb l j := ⟨_, rfl⟩
      have HY := Lib.hid hy
      have CL := Lib.hid (show wr.cell? ⟨g0, 0 + j * 1, none⟩ = some (.bool y) by
        have h1 := RW.out.cell j (by omega)
        rw [ON.out.bel.cell (cell_lt (by rw [Nat.mul_one]; exact h1)), Nat.mul_one, h1, hy]
        rfl)
      clear hy
      cases y
      · go_wp2_with (first
          | (refine wpList_ix (k := 1) (j := j) Tryd.underlying73 (by kernel_rfl) (.tmp 17) (.tmp 19) rfl rfl rfl rfl HLT.out rfl ?_)
          | (refine wpList_ld1 4 (.tmp 22) rfl rfl rfl Tryd.underlying4 rfl CL.out ?_))
        go_roundg (n - (j + 1))
        case measure => omega
        case rel => exact ⟨j + 1, by omega, congrArg (Value.int .i64) (show wrap64 ((j : Int) + 1) = ((j + 1 : Nat) : Int) by have := HL.out; have := HLT.out; unfold wrap64; omega), Lib.hid ⟨ON.out.own.to (fun i _ => by show _ = pbf (lb l) (j + 1) i; rw [pbf, ← HY.out]; simp) (fun i => pbf_lt _ _ _), ON.out.bel⟩⟩
      · go_upto_region 6 with (first
          | (refine wpList_ix (k := 1) (j := j) Tryd.underlying73 (by kernel_rfl) (.tmp 17) (.tmp 19) rfl rfl rfl rfl HLT.out rfl ?_)
          | (refine wpList_ld1 4 (.tmp 22) rfl rfl rfl Tryd.underlying4 rfl CL.out ?_))
        obtain ⟨q, hq⟩ : ∃ q, q = j / 8 := ⟨_, rfl⟩
        obtain ⟨s, hs⟩ : ∃ s, s = j % 8 := ⟨_, rfl⟩
        have HQ := Lib.hid hq
        have HS := Lib.hid hs
        have QB := Lib.hid (show q < N ∧ s < 8 ∧ j ≤ 1000000000000000 by have := HL.out; have := HNN.out; unfold nB at this; omega)
        obtain ⟨x, hx⟩ : ∃ x, x = pbf (lb l) j q := ⟨_, rfl⟩
        have HX := Lib.hid hx
        have XB := Lib.hid (show x < 256 by rw [hx]; exact pbf_lt _ _ _)
        clear hq hs hx
        have E1 := Lib.hid (Mem.nil wr)
        refine wp_region_memS (S := fun _ => True) E1 (by kernel_rfl) ?_
        clear E1
        intro wx E0
        have ON3 := Lib.hid (ON.out.call E0.out.below)
        have CX := Lib.hid (show wx.cell? ⟨g, q, none⟩ = some (.int .u8 (x : Int)) by have := ON3.out.own.row.cell q QB.out.1; rw [Nat.zero_add] at this; rw [HX.out]; exact this)
        clear E0
        try simp only [Act.put, lqA, lqB, lqC, lqD, lqE, lqF]
        refine hm_run 0 25 (.slice (some ⟨g, 0, none⟩) N N) rfl rfl (by kernel_rfl) (by kernel_rfl) (by kernel_rfl) (fun _ _ _ h => h) rfl (fun W' hW => rfl) trivial ?_
        try simp only [Act.put, lqA, lqB, lqC, lqD, lqE, lqF]
        refine hm_run 1 26 (.int .i64 (j : Int)) rfl rfl (by kernel_rfl) (by kernel_rfl) (by kernel_rfl) (fun _ _ _ h => h) rfl (fun W' hW => rfl) trivial ?_
        try simp only [Act.put, lqA, lqB, lqC, lqD, lqE, lqF]
        refine hm_run 2 27 (.int .i64 (q : Int)) rfl rfl (by kernel_rfl) (by kernel_rfl) (by kernel_rfl) (fun _ _ _ h => h) rfl (fun W' hW => by rw [HQ.out]; exact exec_quo8 rfl rfl rfl (Nat.le_trans QB.out.2.2 (by decide))) trivial ?_
        try simp only [Act.put, lqA, lqB, lqC, lqD, lqE, lqF]
        refine hm_run 3 28 (.slice (some ⟨g, 0, none⟩) N N) rfl rfl (by kernel_rfl) (by kernel_rfl) (by kernel_rfl) (fun _ _ _ h => h) rfl (fun W' hW => rfl) trivial ?_
        try simp only [Act.put, lqA, lqB, lqC, lqD, lqE, lqF]
        refine hm_run 4 29 (.int .i64 (j : Int)) rfl rfl (by kernel_rfl) (by kernel_rfl) (by kernel_rfl) (fun _ _ _ h => h) rfl (fun W' hW => rfl) trivial ?_
        try simp only [Act.put, lqA, lqB, lqC, lqD, lqE, lqF]
        refine hm_run 5 30 (.int .i64 (q : Int)) rfl rfl (by kernel_rfl) (by kernel_rfl) (by kernel_rfl) (fun _ _ _ h => h) rfl (fun W' hW => by rw [HQ.out]; exact exec_quo8 rfl rfl rfl (Nat.le_trans QB.out.2.2 (by decide))) trivial ?_
        try simp only [Act.put, lqA, lqB, lqC, lqD, lqE, lqF]
        refine hm_run 6 31 (.pointer (some ⟨g, 0 + q * 1, none⟩)) rfl rfl (by kernel_rfl) (by kernel_rfl) (by kernel_rfl) (fun _ _ _ h => h) rfl (fun W' hW => exec_ix rfl (run_ix Tryd.underlying32 (by kernel_rfl) QB.out.1 rfl W')) trivial ?_
        try simp only [Act.put, lqA, lqB, lqC, lqD, lqE, lqF]
        refine hm_run 8 33 (.int .i64 (j : Int)) rfl rfl (by kernel_rfl) (by kernel_rfl) (by kernel_rfl) (fun _ _ _ h => h) rfl (fun W' hW => rfl) trivial ?_
        try simp only [Act.put, lqA, lqB, lqC, lqD, lqE, lqF]
        refine hm_run 9 34 (.int .i64 (s : Int)) rfl rfl (by kernel_rfl) (by kernel_rfl) (by kernel_rfl) (fun _ _ _ h => h) rfl (fun W' hW => by rw [HS.out]; exact exec_rem8 rfl rfl rfl (Nat.le_trans QB.out.2.2 (by decide))) trivial ?_
        try simp only [Act.put, lqA, lqB, lqC, lqD, lqE, lqF]
        refine hm_run 10 35 (.int .u8 ((2 ^ (7 - s) : Nat) : Int)) rfl rfl (by kernel_rfl) (by kernel_rfl) (by kernel_rfl) (fun _ _ _ h => h) rfl (fun W' hW => exec_shr128 rfl rfl rfl QB.out.2.1) trivial ?_
        try simp only [Act.put, lqA, lqB, lqC, lqD, lqE, lqF]
        refine hm_one (i := 7) (by kernel_rfl) ?_
        refine hm_step 7 rfl (by kernel_rfl) fun K hK => ?_
        try simp only [Act.put, lqA, lqB, lqC, lqD, lqE, lqF]
        refine mo_known (.int .u8 (x : Int)) wx (exec_load rfl (run_load_one Tryd.underlying5 rfl (by rw [Nat.zero_add, Nat.mul_one]; exact CX.out))) ?_
        refine hK _ _ trivial ?_
        clear hK K
        try simp only [Act.put, lqA, lqB, lqC, lqD, lqE, lqF]
        refine hm_run 11 36 (.int .u8 ((x ||| 2 ^ (7 - s) : Nat) : Int)) rfl rfl (by kernel_rfl) (by kernel_rfl) (by kernel_rfl) (fun _ _ _ h => h) rfl (fun W' hW => exec_or8 rfl rfl rfl XB.out (pow8 (by omega))) trivial ?_
        try simp only [Act.put, lqA, lqB, lqC, lqD, lqE, lqF]
        refine hm_run 12 37 (.pointer (some ⟨g, 0 + q * 1, none⟩)) rfl rfl (by kernel_rfl) (by kernel_rfl) (by kernel_rfl) (fun _ _ _ h => h) rfl (fun W' hW => exec_ix rfl (run_ix Tryd.underlying32 (by kernel_rfl) QB.out.1 rfl W')) trivial ?_
        try simp only [Act.put, lqA, lqB, lqC, lqD, lqE, lqF]
        refine hm_one (i := 13) (by kernel_rfl) ?_
        refine hm_step 13 rfl (by kernel_rfl) fun K hK => ?_
        try simp only [Act.put, lqA, lqB, lqC, lqD, lqE, lqF]
        refine mo_ownset ON3 (.tmp 37) (.tmp 36) rfl (by show Value.pointer (some ⟨g, 0 + q * 1, none⟩) = _; rw [Nat.zero_add, Nat.mul_one]) rfl QB.out.1 (or8 XB.out (pow8 (by omega))) ?_
        intro w5 N5
        refine hK _ _ trivial ?_
        clear hK K
        refine wpAnyH_done (by kernel_rfl) ?_ _
        go_wp2
        go_roundg (n - (j + 1))
        case measure => omega
        case rel => exact ⟨j + 1, by omega, congrArg (Value.int .i64) (show wrap64 ((j : Int) + 1) = ((j + 1 : Nat) : Int) by have := HL.out; have := HLT.out; unfold wrap64; omega), Lib.hid ⟨N5.out.own.to (fun i _ => by
          show (if i = q then x ||| 2 ^ (7 - s) else pbf (lb l) j i) = pbf (lb l) (j + 1) i
          rw [pbf, ← HY.out, ← HQ.out, ← HS.out, HX.out]
          by_cases e : i = q
          · subst e; rw [if_pos rfl, if_pos rfl, if_pos rfl]
          · rw [if_neg e, if_neg e]) (fun i => pbf_lt _ _ _), N5.out.bel⟩⟩
    · obtain rfl : j = n := by omega
      go_wp2
      go_ret
      have e : (pk l).length = N := by rw [pk_length, ← HN.out, HNN.out]
      refine ⟨some ⟨g, 0, none⟩, g, N, by rw [e]; rfl, ?_, ON.out.bel⟩
      rw [e]
      exact ON.out.own.to (fun i hi => by rw [lf_pk l (by rw [← HN.out, ← HNN.out]; exact hi), HN.out]) (lf_lt (isB_pk l))
end
end Go.Proofs.YtoopcmcmjaikhaaDoor
end
