/- Straight code over numbers of 256 bits, with stores into blocks that are known to lie apart. -/
import Derived.Test.YtboffheklkhnkaaEnv
import Derived.Test.YtboffheklkhnkaaHeld
namespace Go.Proofs.Ytboffheklkhnkaa
open Go.RowKit Go.Lib Go.Sort

/-- Blocks of four words, each with what it holds, each apart from the others, all of them new. -/
structure EnvN (w0 : World) (l : List (Nat × (Nat → Value))) (w : World) : Prop where
  env : Env w0 l w
  nd : (l.map (·.1)).Nodup
  ge : ∀ p, p ∈ l → w0.heap.size ≤ p.1
section
variable {w0 w w' : World} {l l' : List (Nat × (Nat → Value))}
theorem EnvN.call (E : EnvN w0 l w) (hb : Below w.heap.size w w') : EnvN w0 l w' := ⟨E.env.call hb, E.nd, E.ge⟩
theorem EnvN.drew (E : EnvN w0 l w) : EnvN w0 l w.drew := ⟨E.env.drew, E.nd, E.ge⟩
theorem EnvN.get (E : EnvN w0 l w) {b : Nat} {f : Nat → Value} (h : (b, f) ∈ l) : HasAt b 24 4 f w := E.env.get h
theorem EnvN.nil (w : World) : EnvN w [] w := ⟨Env.nil w, List.nodup_nil, fun _ h => by cases h⟩
theorem EnvN.new (E : EnvN w0 l w) (f : Nat → Value) : EnvN w0 ((w.heap.size, f) :: l) (w.alloc (.cells (arr 4 f) 24)) :=
  ⟨E.env.new f, by
    rw [List.map_cons, List.nodup_cons]
    refine ⟨fun h => ?_, E.nd⟩
    obtain ⟨p, hp, he⟩ := List.mem_map.1 h
    exact Nat.ne_of_lt (E.env.has p hp).lt he, fun p hp => by
    rcases List.mem_cons.1 hp with rfl | hp
    · exact E.env.below.size
    · exact E.ge p hp⟩
theorem EnvN.next (E : EnvN w0 l w) {b : Nat} (hs : w.heap.size = b) (f : Nat → Value) : EnvN w0 ((b, f) :: l) (w.alloc (.cells (arr 4 f) 24)) := by subst hs; exact E.new f
theorem EnvN.nextz (E : EnvN w0 l w) {b : Nat} (hs : w.heap.size = b) : EnvN w0 ((b, wl 0) :: l) (w.alloc (.cells z4 24)) := by subst hs; rw [← z4_is]; exact E.new _
theorem EnvN.box1 (w : World) (f : Nat → Value) : EnvN w [(w.heap.size, f)] (w.alloc (.cells (arr 4 f) 24)) := (EnvN.nil w).new f
theorem EnvN.tail {x : Nat × (Nat → Value)} (E : EnvN w0 (x :: l) w) : EnvN w0 l w := ⟨E.env.sub fun _ h => List.mem_cons_of_mem _ h, (List.nodup_cons.1 E.nd).2, fun p hp => E.ge p (List.mem_cons_of_mem _ hp)⟩
theorem EnvN.has (E : EnvN w0 l w) {i p : Nat} {f : Nat → Value} (hi : l[i]? = some (p, f)) : HasAt p 24 4 f w := E.get (List.mem_of_getElem? hi)
theorem map_set {i p : Nat} {f g : Nat → Value} (hi : l[i]? = some (p, f)) : (l.set i (p, g)).map (·.1) = l.map (·.1) := by
  apply List.ext_getElem?
  intro j
  simp only [List.getElem?_map, List.getElem?_set]
  by_cases h : i = j
  · subst h
    obtain ⟨hl, hv⟩ := List.getElem?_eq_some_iff.1 hi
    simp [hl, hv]
  · simp [h]
/-- One block turned. -/
theorem EnvN.turn (E : EnvN w0 l w) {i p : Nat} {f g : Nat → Value} (hi : l[i]? = some (p, f)) (hh : HasAt p 24 4 g w') (ho : Only p w w') : EnvN w0 (l.set i (p, g)) w' := by
  have hp := List.mem_of_getElem? hi
  have hge := E.ge _ hp
  have e := map_set (g := g) hi
  have key : ∀ (j : Nat) (x : Nat × (Nat → Value)), l[j]? = some x → j ≠ i → x.1 ≠ p := fun j x hj hji he => by
    have hn := E.nd
    have h1 : (l.map (·.1))[j]? = some p := by rw [List.getElem?_map, hj]; simp [he]
    have h2 : (l.map (·.1))[i]? = some p := by rw [List.getElem?_map, hi]; rfl
    exact hji ((List.getElem?_inj (List.getElem?_eq_some_iff.1 h1).1 hn).1 (h1.trans h2.symm))
  refine ⟨⟨E.env.below.trans (ho.below hge E.env.below.size), fun x hx => ?_⟩, by rw [e]; exact E.nd, fun x hx => ?_⟩
  · obtain ⟨j, hj⟩ := List.mem_iff_getElem?.1 hx
    rw [List.getElem?_set] at hj
    by_cases h : i = j
    · subst h
      rw [if_pos rfl, if_pos (List.getElem?_eq_some_iff.1 hi).1] at hj
      obtain rfl := Option.some.inj hj
      exact hh
    · rw [if_neg h] at hj
      exact (E.env.has x (List.mem_of_getElem? hj)).only ho (key j x hj (Ne.symm h))
  · obtain ⟨j, hj⟩ := List.mem_iff_getElem?.1 hx
    rw [List.getElem?_set] at hj
    by_cases h : i = j
    · subst h
      rw [if_pos rfl, if_pos (List.getElem?_eq_some_iff.1 hi).1] at hj
      obtain rfl := Option.some.inj hj
      exact hge
    · rw [if_neg h] at hj
      exact E.ge x (List.mem_of_getElem? hj)
/-- One cell turned. -/
theorem EnvN.cell (E : EnvN w0 l w) {i p : Nat} {f g : Nat → Value} (hi : l[i]? = some (p, f)) (j : Nat) (v : Value) (e : ∀ k, k < 4 → upd f j v k = g k) : EnvN w0 (l.set i (p, g)) (w.setCell ⟨p, j, none⟩ v) :=
  E.turn hi ((E.has hi).set j v e) ((Only.refl p w).setCell _ rfl v)
end

section
variable {ops : Array Oper} {Q : Exit → Act → World → Prop} {rest : List Oper} {op : Oper} {a : Act} {w w0 : World} {l : List (Nat × (Nat → Value))}
theorem envn_load (E : Hid (EnvN w0 l w)) (x : Operand) (hw : Region.wanted op (yielded ops a.tmps) = true) (ho : op.op = .load 24 x) {b : Nat} (hx : a.eval x = .pointer (some ⟨b, 0, none⟩)) {f : Nat → Value} (hm : (b, f) ∈ l)
    (h : wpList Try.prog ops Q rest (a.put op.dst (.agg (arr 4 f))) w) : wpList Try.prog ops Q (op :: rest) a w := env_load (Lib.hid E.out.env) x hw ho hx hm h
theorem envn_store_new {w1 : World} (E : Hid (EnvN w0 l w1)) (x y : Operand) (hgd : op.guard = none) (ho : op.op = .store 24 x y) (hx : a.eval x = .pointer (some ⟨w1.heap.size, 0, none⟩)) {n : Nat} (hy : a.eval y = wide n)
    (h : ∀ w', Hid (EnvN w0 ((w1.heap.size, wl n) :: l) w') → wpList Try.prog ops Q rest (a.put op.dst undef) w') : wpList Try.prog ops Q (op :: rest) a (w1.alloc (.cells z4 24)) := by
  have E2 := E.out.nextz rfl
  have hz := E2.get (b := w1.heap.size) (f := wl 0) List.mem_cons_self
  exact wpList_store_all hgd 24 x y ho w1.heap.size 4 hx 24 (wl 0) (wl n) hz hy (by kernel_rfl) (fun _ => rfl) fun w' hh ho' => h w' (Lib.hid (E2.turn (i := 0) rfl hh ho'))
theorem envn_store (i : Nat) (E : Hid (EnvN w0 l w)) (x y : Operand) (hgd : op.guard = none) (ho : op.op = .store 24 x y) {p : Nat} (hx : a.eval x = .pointer (some ⟨p, 0, none⟩)) {n : Nat} (hy : a.eval y = wide n) {f : Nat → Value} (hi : l[i]? = some (p, f))
    (h : ∀ w', Hid (EnvN w0 (l.set i (p, wl n)) w') → wpList Try.prog ops Q rest (a.put op.dst undef) w') : wpList Try.prog ops Q (op :: rest) a w :=
  wpList_store_all hgd 24 x y ho p 4 hx 24 f (wl n) (E.out.has hi) hy (by kernel_rfl) (fun _ => rfl) fun w' hh ho' => h w' (Lib.hid (E.out.turn hi hh ho'))
end
theorem wp_store_envn {o : Oper} {a : Act} {w w0 : World} {K : Act → World → Prop} {Q : Exit → Act → World → Prop} {l : List (Nat × (Nat → Value))} (i : Nat) {p n : Nat} {f : Nat → Value} (E : Hid (EnvN w0 l w)) (hi : l[i]? = some (p, f))
    (x y : Operand) (ho : o.op = .store 24 x y) (hx : a.eval x = .pointer (some ⟨p, 0, none⟩)) (hy : a.eval y = wide n)
    (h : ∀ w', Hid (EnvN w0 (l.set i (p, wl n)) w') → K (a.put o.dst undef) w') : o.wp Try.prog a w K Q := by
  have hg := E.out.has hi
  refine wp_store_row 24 x y ho p (arr 4 (wl n)) hx hy 24 (arr 4 f) hg (by rw [arr_size]; kernel_rfl) (by rw [arr_size, arr_size]) (Array.all_eq_true_iff_forall_mem.2 fun v hv => ?_) (h _ (Lib.hid (E.out.turn hi (hg.setRow (wl n)) (only_setRow _ _ _))))
  unfold arr at hv
  simp at hv
  obtain ⟨i, _, rfl⟩ := hv
  rfl
theorem mem_two {α : Type} {x y : α} {l : List α} (hx : x ∈ l) (hy : y ∈ l) (p : α) (hp : p ∈ [x, y]) : p ∈ l := by
  rcases List.mem_cons.1 hp with rfl | hp
  · exact hx
  · rcases List.mem_cons.1 hp with rfl | hp
    · exact hy
    · cases hp
end Go.Proofs.Ytboffheklkhnkaa
