/- A region that draws its order, walked by hand: loads of whole rows first, then whichever call or new block comes up. -/
import Derived.Test.YtboffheklkhnkaaEnv
import Derived.Deep.RegionHeld3
namespace Go.Proofs.Ytboffheklkhnkaa
open Go.RowKit Go.Lib Go.Sort

/-- A whole row stored into a block of the list's head. -/
theorem wp_store_env {o : Oper} {a : Act} {w w0 : World} {K : Act → World → Prop} {Q : Exit → Act → World → Prop} {l : List (Nat × (Nat → Value))} {p n : Nat} {f : Nat → Value} (E : Hid (Env w0 ((p, f) :: l) w)) (hP : Hid (w0.heap.size ≤ p ∧ ∀ q, q ∈ l → q.1 ≠ p))
    (x y : Operand) (ho : o.op = .store 24 x y) (hx : a.eval x = .pointer (some ⟨p, 0, none⟩)) (hy : a.eval y = wide n)
    (h : ∀ w', Hid (Env w0 ((p, wl n) :: l) w') → K (a.put o.dst undef) w') : o.wp Try.prog a w K Q := by
  have hg := E.out.get (b := p) (f := f) List.mem_cons_self
  refine wp_store_row 24 x y ho p (arr 4 (wl n)) hx hy 24 (arr 4 f) hg (by rw [arr_size]; kernel_rfl) (by rw [arr_size, arr_size]) (Array.all_eq_true_iff_forall_mem.2 fun v hv => ?_) (h _ (Lib.hid (E.out.turn hP.out.1 (hg.setRow (wl n)) (only_setRow _ _ _) fun q hq => ⟨List.mem_cons_of_mem _ hq, hP.out.2 q hq⟩)))
  unfold arr at hv
  simp at hv
  obtain ⟨i, _, rfl⟩ := hv
  rfl
theorem env_store {ops : Array Oper} {rest : List Oper} {op : Oper} {a : Act} {w w0 : World} {Q : Exit → Act → World → Prop} {l : List (Nat × (Nat → Value))} {p n : Nat} {f : Nat → Value} (E : Hid (Env w0 ((p, f) :: l) w)) (hP : Hid (w0.heap.size ≤ p ∧ ∀ q, q ∈ l → q.1 ≠ p))
    (x y : Operand) (hgd : op.guard = none) (ho : op.op = .store 24 x y) (hx : a.eval x = .pointer (some ⟨p, 0, none⟩)) (hy : a.eval y = wide n)
    (h : ∀ w', Hid (Env w0 ((p, wl n) :: l) w') → wpList Try.prog ops Q rest (a.put op.dst undef) w') : wpList Try.prog ops Q (op :: rest) a w :=
  wpList_plain hgd fun _ hK => wp_store_env E hP x y ho hx hy fun w' E' => hK _ _ (h w' E')
/-- A new block lies apart. -/
theorem Env.apart {w0 w : World} {l : List (Nat × (Nat → Value))} (E : Env w0 l w) : w0.heap.size ≤ w.heap.size ∧ ∀ q, q ∈ l → q.1 ≠ w.heap.size := ⟨E.below.size, fun q hq => Nat.ne_of_lt (E.has q hq).lt⟩
section
variable {ops : Array Oper} {C : World → Prop} {Q : Act → Prop} {a : Act} {w w0 : World} {o : Oper} {rest : List Oper} {l : List (Nat × (Nat → Value))}
/-- A number's row, loaded in a region whose calls only make memory. -/
theorem envq_load (E : Hid (Env w0 l w)) (x : Operand) (hw : Region.wanted o (yielded ops a.tmps) = true) (ho : o.op = .load 24 x) {b : Nat} (hx : a.eval x = .pointer (some ⟨b, 0, none⟩)) {f : Nat → Value} (hm : (b, f) ∈ l)
    (h : wpQuiet Try.prog ops (fun w' => ∃ p : Regrown, w' = grow (redrawn w p.d) p.os) Q rest (a.put o.dst (.agg (arr 4 f)))) : wpQuiet Try.prog ops (fun w' => ∃ p : Regrown, w' = grow (redrawn w p.d) p.os) Q (o :: rest) a :=
  wpQuiet_load_all 24 x ho hw b hx (.agg (arr 4 f)) (fun w3 hC => by obtain ⟨p, rfl⟩ := hC; exact ((E.out.get hm).below (below_regrown w p.d p.os)).load 24 _ Try.underlying24 rfl (by kernel_rfl)) h
theorem envq_build (n : Nat) (parts : Array (Nat × Operand)) (ps : Array (Nat × Value)) (hc : Try.prog.built 24 ps.toList = some (arr 4 (wl n))) (hw : Region.wanted o (yielded ops a.tmps) = true) (ho : o.op = .build 24 parts) (hp : parts.map (fun (i, x) => (i, a.eval x)) = ps)
    (h : wpQuiet Try.prog ops C Q rest (a.put o.dst (wide n))) : wpQuiet Try.prog ops C Q (o :: rest) a := by
  show if _ then _ else _
  rw [if_pos hw]
  refine ⟨wide n, fun w3 _ => ?_, h⟩
  unfold Oper.quietAt execOp
  simp only [ho, hp, Sem.run_bind, run_build w3 24 _ _ hc, Result.andThen_ok]
  exact ⟨rfl, rfl⟩
end
section
variable {ops : Array Oper} {Q : Exit → Act → World → Prop} {md : Region.Mode} {S : World → Prop} {fuel : Nat} {listed : Array Bool} {a : Act} {w : World}
theorem held_load {oi : Oper} (i : Nat) (x : Operand) {b : Nat} {f : Nat → Value} (hi : ops[i]? = some oi) (hs : Region.noSelect ops = true) (hf : Region.free md ops listed i = true) (hr : (Region.ready md ops listed).contains i = true)
    (hQ : ∀ c a w, Q (.panic c) (a.put oi.dst (.agg (arr 4 f))) w → Q (.panic c) a w) (hw : Region.wanted oi (yielded ops a.tmps) = true) (ho : oi.op = .load 24 x) (hx : a.eval x = .pointer (some ⟨b, 0, none⟩)) (hl : ∀ W, S W → HasAt b 24 4 f W) (hS : S w)
    (h : wpAnyH Try.prog md ops Q S fuel (listed.setIfInBounds i true) (a.put oi.dst (.agg (arr 4 f))) w) : wpAnyH Try.prog md ops Q S (fuel + 1) listed a w :=
  wpAnyH_take hi hs hf hr hQ (.inl ⟨hw, fun W hW => by
    have e := run_loadVar_row (P := Try.prog) W b 24 24 (arr 4 f) (0, 0) _ (hl W hW) Try.underlying24 rfl (by rw [arr_size]; kernel_rfl)
    unfold execOp
    simp only [ho, hx, Instr.loadAt, Instr.sureAddr, Sem.run_bind, Sem.run_pure, Result.andThen_ok, e]⟩) hS h
theorem held_pure {oi : Oper} (i t : Nat) (v : Value) (hd : oi.dst = some t) (hi : ops[i]? = some oi) (hs : Region.noSelect ops = true) (hf : Region.free md ops listed i = true) (hr : (Region.ready md ops listed).contains i = true)
    (hQ : ∀ c a w, Q (.panic c) (a.put oi.dst v) w → Q (.panic c) a w) (hw : Region.wanted oi (yielded ops a.tmps) = true) (hy : ∀ W, (execOp a.eval oi).run Try.prog W = .ok (.value v) W) (hS : S w)
    (h : wpAnyH Try.prog md ops Q S fuel (listed.setIfInBounds i true) (a.put (some t) v) w) : wpAnyH Try.prog md ops Q S (fuel + 1) listed a w :=
  wpAnyH_take hi hs hf hr hQ (.inl ⟨hw, fun W _ => hy W⟩) hS (by rw [hd]; exact h)
theorem held_step {o : Oper} (i : Nat) (hi : ops[i]? = some o) (hw : Region.wanted o (yielded ops a.tmps) = true)
    (h : ∀ K : Act → World → Prop, (∀ a' w', S w' → wpAnyH Try.prog md ops Q S fuel (listed.setIfInBounds i true) a' w' → K a' w') → o.wp Try.prog a w K Q) :
    wpOp Try.prog ops Q i (fun a' w' => S w' ∧ wpAnyH Try.prog md ops Q S fuel (listed.setIfInBounds i true) a' w') a w := by
  unfold wpOp
  simp only [hi, hw, if_true]
  exact .inl (h _ fun a' w' h1 h2 => ⟨h1, h2⟩)
theorem held_one {i : Nat} (hr : Region.ready md ops listed = [i]) (h : wpOp Try.prog ops Q i (fun a' w' => S w' ∧ wpAnyH Try.prog md ops Q S fuel (listed.setIfInBounds i true) a' w') a w) : wpAnyH Try.prog md ops Q S (fuel + 1) listed a w :=
  wpAnyH_all hr (by simp) fun j hj => by obtain rfl : j = i := by simpa using hj
                                         exact h
theorem held_two {i j : Nat} (hr : Region.ready md ops listed = [i, j]) (h1 : wpOp Try.prog ops Q i (fun a' w' => S w' ∧ wpAnyH Try.prog md ops Q S fuel (listed.setIfInBounds i true) a' w') a w)
    (h2 : wpOp Try.prog ops Q j (fun a' w' => S w' ∧ wpAnyH Try.prog md ops Q S fuel (listed.setIfInBounds j true) a' w') a w) : wpAnyH Try.prog md ops Q S (fuel + 1) listed a w :=
  wpAnyH_all hr (by simp) fun k hk => by
    have : k = i ∨ k = j := by simpa using hk
    rcases this with rfl | rfl
    · exact h1
    · exact h2
end
end Go.Proofs.Ytboffheklkhnkaa
