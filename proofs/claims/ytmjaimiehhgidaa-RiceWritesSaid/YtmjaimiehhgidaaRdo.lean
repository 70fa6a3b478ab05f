/- What an argument of type []Do is; one of them in a box of the law's own. -/
import Derived.Test.YtmjaimiehhgidaaRcd
import Derived.Test.YtmjaimiehhgidaaRop
import Derived.Deep.Slices
import Derived.Deep.Strs
set_option linter.unusedSimpArgs false
set_option linter.unusedVariables false
set_option maxRecDepth 100000
namespace Go.Proofs.Ytmjaimiehhgidaa
open Go.ChangeShapes Go.WideShapes Go.ChangeAt Go.RowKit Go.Lib Go.Sort Go.Deep

/-- Calls to be done: kinds, counts, numbers. -/
structure Dos where
  op : Nat → Int
  cnt : Nat → Int
  num : Nat → Nat
def dv1 (a b : Int) (n : Nat) : Nat → Value := fun i => if i = 0 then .int .i64 a else if i = 1 then .int .i64 b else .int .u64 (n : Int)
def dv (d : Dos) : Nat → Value := fun i => dv1 (d.op (i / 3)) (d.cnt (i / 3)) (d.num (i / 3)) (i % 3)
theorem dv_at (d : Dos) (i j : Nat) (hj : j < 3) : dv d (i * 3 + j) = dv1 (d.op i) (d.cnt i) (d.num i) j := by
  unfold dv
  rw [show (i * 3 + j) / 3 = i by omega, show (i * 3 + j) % 3 = j by omega]
theorem dv1_one (a b : Int) (n : Nat) (i : Nat) : (dv1 a b n i).oneCell' = true := by
  unfold dv1
  split
  · rfl
  · split <;> rfl
/-- The ranges. -/
structure Dos.Ok (d : Dos) : Prop where
  op : ∀ i, -9223372036854775808 ≤ d.op i ∧ d.op i ≤ 9223372036854775807
  cnt : ∀ i, -9223372036854775808 ≤ d.cnt i ∧ d.cnt i ≤ 9223372036854775807
  num : ∀ i, d.num i < 18446744073709551616
theorem do_cells {H : Type} {enc : TypeId × Value → H} {W : World} {n : Nat} {cs : List Value} {y : DataW H × List MemPlace} {base : Nat} (h : DataW.trod enc Try.prog W base (fun _ => true) true n 31 cs = some y) :
    ∃ (a b : Int) (m : Nat), cs = [.int .i64 a, .int .i64 b, .int .u64 (m : Int)] ∧ (-9223372036854775808 ≤ a ∧ a ≤ 9223372036854775807) ∧ (-9223372036854775808 ≤ b ∧ b ≤ 9223372036854775807) ∧ m < 18446744073709551616 := by
  cases n with
  | zero => simp [DataW.trod] at h
  | succ n =>
    obtain ⟨y0, y1, y2, k, _, hl, h0, h1, h2⟩ := trod_struct3 Try.underlying31 h
    have hC : Try.prog.cellsOf 31 = 3 := by kernel_rfl
    have c3 : Try.prog.cellsOf 3 = 1 := by kernel_rfl
    have c6 : Try.prog.cellsOf 29 = 1 := by kernel_rfl
    rw [hC] at hl
    match cs, hl with
    | [x0, x1, x2], _ =>
      simp only [c3, c6, List.drop_zero, List.drop_succ_cons, List.take_succ_cons, List.take_zero] at h0 h1 h2
      obtain ⟨a, e0, _, w0⟩ := DataW.trod_int Try.underlying3 h0
      obtain ⟨b, e1, _, w1⟩ := DataW.trod_int Try.underlying3 h1
      obtain ⟨c, e2, _, w2⟩ := DataW.trod_int Try.underlying29 h2
      injection e0 with e0
      injection e1 with e1
      injection e2 with e2
      subst e0 e1 e2
      have hw := word_range w2
      refine ⟨a, b, c.toNat, ?_, int_range w0, int_range w1, by omega⟩
      rw [Int.toNat_of_nonneg hw.1]
theorem open_dos {H : Type} {enc : TypeId × Value → H} {W : World} {base : Nat} {v : Value} {d : DataW H} {p : List MemPlace} {ts : List TypeId} {ds : List (DataW H)} {j : Nat}
    (hv : Value.okWide Try.prog W .any base 22 v) (hd : DataW.Trod enc Try.prog W 0 (fun _ => true) true 22 v d p)
    (hsz : (DataW.weightsEach Try.prog ts ds).all (· ≤ reachBytes) = true) (hts : ts[j]? = some 22) (hds : ds[j]? = some d) : ∃ a g o n c x, v = .slice a n c ∧ (VRow 3 W a g o n c (dv x) ∧ x.Ok) ∧ c * 24 ≤ 140737488351232 := by
  obtain ⟨a, len, cap, rfl⟩ := okWide_slice Try.underlying22 hv
  obtain ⟨fuel, hf⟩ := hd
  rcases open_slice Try.underlying22 hf with ⟨hcs, _⟩ | ⟨q, l, c, m, n, D, Pl, hcs, _, hl, hm, hmm, hx, hi⟩
  · simp [Value.cells] at hcs
    obtain ⟨rfl, rfl, rfl⟩ := hcs
    exact ⟨none, 0, 0, 0, 0, ⟨fun _ => 0, fun _ => 0, fun _ => 0⟩, rfl, ⟨VRow.nothing _ _ _, ⟨fun _ => by show -9223372036854775808 ≤ (0 : Int) ∧ (0 : Int) ≤ 9223372036854775807; omega, fun _ => by show -9223372036854775808 ≤ (0 : Int) ∧ (0 : Int) ≤ 9223372036854775807; omega, fun _ => by show 0 < 18446744073709551616; omega⟩⟩, by omega⟩
  · simp [Value.cells] at hcs
    obtain ⟨rfl, rfl, rfl⟩ := hcs
    have hC : Try.prog.cellsOf 31 = 3 := by kernel_rfl
    have hd' : d = .slice ((List.range len).map D) ((List.range (m - len)).map fun j => D (len + j)) := by simpa using congrArg Prod.fst hx
    rw [hd'] at hds
    have hs := sized_slice hsz hts hds Try.underlying22
    have hb : Try.prog.bytesOf 31 = 24 := by kernel_rfl
    rw [hb] at hs
    simp only [if_pos] at hmm
    subst hmm
    simp only [List.length_map, List.length_range, reachBytes] at hs
    have key : ∀ i : Nat, ∃ z : Int × Int × Nat, ((-9223372036854775808 ≤ z.1 ∧ z.1 ≤ 9223372036854775807) ∧ (-9223372036854775808 ≤ z.2.1 ∧ z.2.1 ≤ 9223372036854775807) ∧ z.2.2 < 18446744073709551616) ∧ (i < len → ∀ j, j < 3 → W.cell? ((q.add (i * 3)).add j) = some (dv1 z.1 z.2.1 z.2.2 j)) := fun i => by
      by_cases hlt : i < len
      · obtain ⟨cs', hc, ht⟩ := hi i (by omega)
        obtain ⟨a, b, k, rfl, ha, hb2, hk⟩ := do_cells ht
        refine ⟨(a, b, k), ⟨ha, hb2, hk⟩, fun _ j hj => ?_⟩
        obtain ⟨_, hcl, hat⟩ := World.cells?_some hc
        rw [hC] at hat
        rw [hat j hj]
        have h3 : j = 0 ∨ j = 1 ∨ j = 2 := by omega
        rcases h3 with rfl | rfl | rfl <;> rfl
      · exact ⟨(0, 0, 0), by simp, fun h => absurd h hlt⟩
    obtain ⟨h, hh⟩ := Classical.axiomOfChoice key
    have hq : 0 < len → q = ⟨q.block, q.off, none⟩ := fun h0 => by
      have h1 := (hh 0).2 h0 0 (by omega)
      obtain ⟨b, o, s⟩ := q
      have hsp : s = none := by simpa [Addr.add] using World.cell?_spot h1
      subst hsp
      rfl
    refine ⟨some q, q.block, q.off, len, m, ⟨fun i => (h i).1, fun i => (h i).2.1, fun i => (h i).2.2⟩, rfl, ⟨⟨hl, hm, fun h => (by cases h), fun h0 => congrArg some (hq h0), fun i hi => ?_, fun i _ => dv1_one _ _ _ _⟩, ⟨fun i => (hh i).1.1, fun i => (hh i).1.2.1, fun i => (hh i).1.2.2⟩⟩, by omega⟩
    have h1 := (hh (i / 3)).2 (by omega) (i % 3) (by omega)
    rw [hq (by omega), row_add, row_add] at h1
    rw [show q.off + i = q.off + i / 3 * 3 + i % 3 by omega, h1]
    rfl
/-- What a box of another kind leaves of a reader. -/
theorem Rdr.only {D w w' : World} {b b2 T' : Nat} {p : Option Addr} {g c : Nat} {xs : List Nat} {t : Nat} {cs : Array Value} (h : Rdr D w b p g c xs t) (hb : w.heap[b2]? = some (.cells cs T' (0, 0))) (ho : Only b2 w w') (h1 : 53 ≠ T') (h2 : 5 ≠ T') : Rdr D w' b p g c xs t := by
  refine ⟨heap_only hb ho h.box h1, ⟨h.row.le, h.row.cap, h.row.nil, h.row.head, fun i hi => ?_, h.row.byte⟩, fun h0 => ?_, h.lo, h.le, h.len⟩
  · obtain ⟨cur, hc⟩ := h.typ (by omega)
    refine ho.cell (fun e => ?_) (h.row.cell i hi)
    have e : g = b2 := e
    rw [e, hb] at hc
    injection hc with hc
    injection hc with _ hc _
    exact h2 hc.symm
  · obtain ⟨cur, hc⟩ := h.typ h0
    exact ⟨cur, heap_only hb ho hc h2⟩
section
variable {P : Program} {ops : Array Oper} {Q : Exit → Act → World → Prop} {md : Region.Mode} {S : World → Prop} {fuel : Nat} {listed : Array Bool} {a : Act} {w : World}
/-- An operation whose guard is off. -/
theorem hm_off {oi : Oper} (i t : Nat) (hd : oi.dst = some t) (hi : ops[i]? = some oi) (hs : Region.noSelect ops = true) (hf : Region.free md ops listed i = true) (hr : (Region.ready md ops listed).contains i = true)
    (hQ : ∀ c a w, Q (.panic c) (a.put oi.dst undef) w → Q (.panic c) a w) (hw : Region.wanted oi (yielded ops a.tmps) = false) (hS : S w)
    (h : wpAnyH P md ops Q S fuel (listed.setIfInBounds i true) (a.put (some t) undef) w) : wpAnyH P md ops Q S (fuel + 1) listed a w :=
  wpAnyH_take hi hs hf hr hQ (.inr ⟨hw, rfl⟩) hS (by rw [hd]; exact h)
end
theorem all3 (a b : Int) (n : Nat) : (arr 3 (dv1 a b n)).all (·.oneCell') = true := Array.all_eq_true_iff_forall_mem.2 fun v hv => by
  obtain ⟨j, hj, rfl⟩ := Array.getElem_of_mem hv
  rw [arr_size] at hj
  have e : (arr 3 (dv1 a b n))[j]? = some (dv1 a b n j) := arr_get 3 _ j hj
  rw [Array.getElem?_eq_getElem (by rw [arr_size]; exact hj)] at e
  injection e with e
  rw [e]
  exact dv1_one _ _ _ _
section
variable {ops : Array Oper} {rest : List Oper} {Q : Exit → Act → World → Prop} {op : Oper} {a : Act} {w : World}
/-- A box for one of them. -/
theorem do_alloc (hg : op.guard = none) (ho : op.op = .alloc 31) (h : ∀ b w', Hid (Below w.heap.size w w' ∧ w.heap.size ≤ b ∧ w'.heap[b]? = some (.cells (arr 3 (dv1 0 0 0)) 31 (0, 0))) → wpList Try.prog ops Q rest (a.put op.dst (.pointer (some ⟨b, 0, none⟩))) w') : wpList Try.prog ops Q (op :: rest) a w := by
  have hz : (Try.prog.info? 31).map (fun i => (i.zero, i.size)) = some (some (.agg (arr 3 (dv1 0 0 0))), 3) := by kernel_rfl
  refine mem_known hg (.pointer (some ⟨w.heap.size, 0, none⟩)) (w.alloc (.cells (arr 3 (dv1 0 0 0)) 31)) ?_ (h _ _ (Lib.hid ⟨below_new w _, Nat.le_refl _, here_new w _ _⟩))
  unfold execOp
  simp only [ho, Sem.run_bind, Instr.alloc, (zero_of_info hz).1, Result.andThen_ok]
  rfl
theorem do_store {b : Nat} {cs : Array Value} {X Y : Prop} (S : Hid (X ∧ Y ∧ w.heap[b]? = some (.cells cs 31 (0, 0)))) (hcs : cs.size = 3) (hg : op.guard = none) (x y : Operand) (ho : op.op = .store 31 x y) (hx : a.eval x = .pointer (some ⟨b, 0, none⟩)) {A B : Int} {n : Nat} (hy : a.eval y = .agg (arr 3 (dv1 A B n)))
    (h : ∀ w', Hid (w'.heap[b]? = some (.cells (arr 3 (dv1 A B n)) 31 (0, 0)) ∧ Only b w w') → wpList Try.prog ops Q rest (a.put op.dst undef) w') : wpList Try.prog ops Q (op :: rest) a w := by
  have ho' : Only b w (w.setRow b (arr 3 (dv1 A B n))) := ⟨rfl, rfl, rfl, by simp, fun k _ hk => setRow_other w b k _ hk⟩
  have hs : (Try.prog.info? 31).map (·.size) = some (arr 3 (dv1 A B n)).size := by rw [arr_size]; kernel_rfl
  refine wpList_plain hg fun K hK => ?_
  exact wp_store_row 31 x y ho b _ hx hy 31 cs S.out.2.2 hs (by rw [hcs, arr_size]) (all3 A B n) (hK _ _ (h _ (Lib.hid ⟨setRow_heap w b cs _ 31 _ S.out.2.2, ho'⟩)))
end
end Go.Proofs.Ytmjaimiehhgidaa
