/- Straight code over numbers of 256 bits: which blocks hold which number, kept through calls, loads and stores; when two numbers are equal. -/
import Derived.Test.YtboffheklkhnkaaQuad
import Derived.ChangeKeysEq
namespace Go.Proofs.Ytboffheklkhnkaa
open Go.RowKit Go.Lib

/-- Blocks of four words, each with what it holds. -/
structure Env (w0 : World) (l : List (Nat × (Nat → Value))) (w : World) : Prop where
  below : Below w0.heap.size w0 w
  has : ∀ p, p ∈ l → HasAt p.1 24 4 p.2 w
section
variable {w0 w w' : World} {l l' : List (Nat × (Nat → Value))}
theorem Env.call (E : Env w0 l w) (hb : Below w.heap.size w w') : Env w0 l w' := ⟨E.below.trans (hb.mono E.below.size), fun p hp => (E.has p hp).below hb⟩
theorem Env.drew (E : Env w0 l w) : Env w0 l w.drew := ⟨E.below.drew, fun p hp => (E.has p hp).drew⟩
theorem Env.get (E : Env w0 l w) {b : Nat} {f : Nat → Value} (h : (b, f) ∈ l) : HasAt b 24 4 f w := E.has (b, f) h
theorem Env.new (E : Env w0 l w) (f : Nat → Value) : Env w0 ((w.heap.size, f) :: l) (w.alloc (.cells (arr 4 f) 24)) :=
  ⟨E.below.trans ((below_new _ _).mono E.below.size), fun p hp => by
    rcases List.mem_cons.1 hp with rfl | hp
    · exact HasAt.new w f 4 24
    · exact (E.has p hp).alloc _⟩
theorem Env.nil (w : World) : Env w [] w := ⟨Below.refl _ _, fun _ h => by cases h⟩
theorem Env.sub (E : Env w0 l w) (h : ∀ p, p ∈ l' → p ∈ l) : Env w0 l' w := ⟨E.below, fun p hp => E.has p (h p hp)⟩
/-- One block turned, the others kept. -/
theorem Env.turn (E : Env w0 l w) {b : Nat} {g : Nat → Value} (hb0 : w0.heap.size ≤ b) (hh : HasAt b 24 4 g w') (ho : Only b w w') (h : ∀ p, p ∈ l' → p ∈ l ∧ p.1 ≠ b) : Env w0 ((b, g) :: l') w' :=
  ⟨E.below.trans (ho.below hb0 E.below.size), fun p hp => by
    rcases List.mem_cons.1 hp with rfl | hp
    · exact hh
    · exact (E.has p (h p hp).1).only ho (h p hp).2⟩
/-- Two boxes, the result, .. as the walk spells them. -/
theorem Env.box1 (w : World) (f : Nat → Value) : Env w [(w.heap.size, f)] (w.alloc (.cells (arr 4 f) 24)) := (Env.nil w).new f
theorem Env.nextz (E : Env w0 l w) {b : Nat} (hs : w.heap.size = b) : Env w0 ((b, wl 0) :: l) (w.alloc (.cells z4 24)) := by subst hs; rw [← z4_is]; exact E.new _
theorem Env.next (E : Env w0 l w) {b : Nat} (hs : w.heap.size = b) (f : Nat → Value) : Env w0 ((b, f) :: l) (w.alloc (.cells (arr 4 f) 24)) := by subst hs; exact E.new f
end

section
variable {ops : Array Oper} {Q : Exit → Act → World → Prop} {rest : List Oper} {op : Oper} {a : Act} {w w0 : World} {l : List (Nat × (Nat → Value))}
theorem env_load (E : Hid (Env w0 l w)) (x : Operand) (hw : Region.wanted op (yielded ops a.tmps) = true) (ho : op.op = .load 24 x) {b : Nat} (hx : a.eval x = .pointer (some ⟨b, 0, none⟩)) {f : Nat → Value} (hm : (b, f) ∈ l)
    (h : wpList Try.prog ops Q rest (a.put op.dst (.agg (arr 4 f))) w) : wpList Try.prog ops Q (op :: rest) a w :=
  BigFrame.wpList_want hw fun _ hK => wp_load_row 24 x ho b hx 24 (arr 4 f) (0, 0) _ (E.out.get hm) Try.underlying24 rfl (by rw [arr_size]; kernel_rfl) (hK _ _ h)
theorem env_store_new {w1 : World} (E : Hid (Env w0 l w1)) (x y : Operand) (hgd : op.guard = none) (ho : op.op = .store 24 x y) (hx : a.eval x = .pointer (some ⟨w1.heap.size, 0, none⟩)) {n : Nat} (hy : a.eval y = wide n)
    (h : ∀ w', Hid (Env w0 ((w1.heap.size, wl n) :: l) w') → wpList Try.prog ops Q rest (a.put op.dst undef) w') : wpList Try.prog ops Q (op :: rest) a (w1.alloc (.cells z4 24)) := by
  rw [← z4_is]
  have hn := HasAt.new w1 (wl 0) 4 24
  refine wpList_store_all hgd 24 x y ho w1.heap.size 4 hx 24 (wl 0) (wl n) hn hy (by kernel_rfl) (fun _ => rfl) fun w' hh ho' => h w' (Lib.hid ⟨?_, fun p hp => ?_⟩)
  · exact (E.out.below.trans ((below_new _ _).mono E.out.below.size)).trans (ho'.below E.out.below.size (by simp; have := E.out.below.size; omega))
  · rcases List.mem_cons.1 hp with rfl | hp
    · exact hh
    · have h1 := E.out.has p hp
      exact (h1.alloc _).only ho' (Nat.ne_of_lt h1.lt)
end

section
variable {ops : Array Oper} {Q : Exit → Act → World → Prop} {rest : List Oper} {op : Oper} {a : Act} {w : World}
theorem env_build (n : Nat) (parts : Array (Nat × Operand)) (ps : Array (Nat × Value)) (hc : Try.prog.built 24 ps.toList = some (arr 4 (wl n))) (hw : Region.wanted op (yielded ops a.tmps) = true) (ho : op.op = .build 24 parts) (hp : parts.map (fun (i, x) => (i, a.eval x)) = ps)
    (h : wpList Try.prog ops Q rest (a.put op.dst (wide n)) w) : wpList Try.prog ops Q (op :: rest) a w :=
  BigFrame.wpList_want hw fun _ hK => wp_build 24 parts ho (by rw [hp, hc]; rfl) (hK _ _ (by rw [hp, hc]; exact h))
theorem built_0 : Try.prog.built 24 (#[] : Array (Nat × Value)).toList = some (arr 4 (wl 0)) := by kernel_rfl
theorem built_1 : Try.prog.built 24 (#[(0, .int .u64 1)] : Array (Nat × Value)).toList = some (arr 4 (wl 1)) := by kernel_rfl
theorem built_2 : Try.prog.built 24 (#[(0, .int .u64 2)] : Array (Nat × Value)).toList = some (arr 4 (wl 2)) := by kernel_rfl
end

theorem run_eqItems_all {P : Program} (d : Nat) {e : TypeId} {k : IntKind} (he : P.underlying e = some (.int k)) (hc : P.cellsOf e = 1) (n : Nat) (f g : Nat → Int) (w : World) : ∀ (is : List Nat), (∀ i, i ∈ is → i < n) →
    (Op.eqItems (d + 1) e (P.cellsOf e) (arr n fun i => .int k (f i)) (arr n fun i => .int k (g i)) is).run P w = .ok (is.all fun i => f i == g i) w
  | [], _ => by simp [Op.eqItems]
  | i :: is, h => by
    have hp : P.plainKey e = true := by unfold Program.plainKey; rw [he]
    have hx : (arr n fun i => Value.int k (f i))[i * P.cellsOf e]? = some (.int k (f i)) := by
      rw [hc, Nat.mul_one]
      exact arr_get n _ i (h i (by simp))
    have hy : (arr n fun i => Value.int k (g i))[i * P.cellsOf e]? = some (.int k (g i)) := by
      rw [hc, Nat.mul_one]
      exact arr_get n _ i (h i (by simp))
    simp only [Op.eqItems, Sem.run_bind, run_part_plain w hp hx, run_part_plain w hp hy, Result.andThen_ok, run_equalIn_int w d e k k _ _ he]
    by_cases e1 : f i = g i
    · have h1 := run_eqItems_all d he hc n f g w is (fun j hj => h j (by simp [hj]))
      simp [e1, h1]
    · simp [e1]
theorem cells22 : Try.prog.cellsOf 22 = 1 := by kernel_rfl
theorem info22 : (Try.prog.info? 22).map (fun i => (i.zero, i.size, i.bytes)) = some (some (.int .u64 0), 1, 8) := by kernel_rfl
/-- Two numbers of 256 bits, compared. -/
theorem eq_wide (n m : Nat) (hn : n < P256) (hm : m < P256) (w : World) : (Op.equalIn 10000 24 (.agg (arr 4 (wl n))) (.agg (arr 4 (wl m)))).run Try.prog w = .ok (decide (n = m)) w := by
  obtain ⟨i, hi, _⟩ := info_parts info22
  rw [run_equalIn_array w 9999 _ _ Try.underlying24 hi]
  have h := run_eqItems_all (P := Try.prog) 9998 Try.underlying22 cells22 4 (fun i => ((limb n i : Nat) : Int)) (fun i => ((limb m i : Nat) : Int)) w (List.range 4) (fun i hi => by simpa using hi)
  refine h.trans ?_
  congr 1
  by_cases e : n = m
  · subst e; simp
  · rw [decide_eq_false e, List.all_eq_false]
    apply Classical.byContradiction
    intro hall
    apply e
    refine limb_ext (m := 4) (by rw [← P256_is]; exact hn) (by rw [← P256_is]; exact hm) fun i hi => ?_
    apply Classical.byContradiction
    intro hne
    exact hall ⟨i, by simpa using hi, by simp; omega⟩
theorem same_wide (n : Nat) (w : World) : (Op.equalIn 10000 24 (.agg (arr 4 (wl n))) (.agg (arr 4 (wl n)))).run Try.prog w = .ok true w := by
  obtain ⟨i, hi, _⟩ := info_parts info22
  rw [run_equalIn_array w 9999 _ _ Try.underlying24 hi]
  have h := run_eqItems_all (P := Try.prog) 9998 Try.underlying22 cells22 4 (fun i => ((limb n i : Nat) : Int)) (fun i => ((limb n i : Nat) : Int)) w (List.range 4) (fun i hi => by simpa using hi)
  refine h.trans ?_
  simp
end Go.Proofs.Ytboffheklkhnkaa
