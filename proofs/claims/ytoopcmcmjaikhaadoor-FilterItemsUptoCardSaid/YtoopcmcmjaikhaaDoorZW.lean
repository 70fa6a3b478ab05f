/- Texts of ours, merged: Wp, Od, Ria, Rib, Wr. -/
import Derived.Test.YtoopcmcmjaikhaaDoorZA
import Derived.Lib.SmallJoins
import Derived.WalkMore
import Derived.Scope
import Derived.ScopeJumps
section
set_option linter.unusedSimpArgs false
set_option linter.unusedVariables false
namespace Go.Proofs.YtoopcmcmjaikhaaDoor
open Go.RowKit Go.Lib

/-- Byte i of n bits, told by f. -/
def pbf (f : Nat → Bool) : Nat → Nat → Nat
  | 0, _ => 0
  | n + 1, i => if i = n / 8 then pbf f n i ||| (if f n then 2 ^ (7 - n % 8) else 0) else pbf f n i
theorem pbf_bit (f : Nat → Bool) (n i k : Nat) : (pbf f n i).testBit k = (decide (k < 8 ∧ 8 * i + 7 - k < n) && f (8 * i + 7 - k)) := by
  induction n with
  | zero => simp [pbf]
  | succ n ih =>
    unfold pbf
    by_cases h : i = n / 8
    · rw [if_pos h, Nat.testBit_or, ih]
      by_cases e : k < 8 ∧ 8 * i + 7 - k = n
      · have hk : 7 - n % 8 = k := by omega
        rw [decide_eq_false (show ¬ (k < 8 ∧ 8 * i + 7 - k < n) by omega), decide_eq_true (show k < 8 ∧ 8 * i + 7 - k < n + 1 by omega), e.2, hk]
        cases hf : f n <;> simp [Nat.testBit_two_pow]
      · have h0 : (if f n = true then 2 ^ (7 - n % 8) else 0).testBit k = false := by
          split
          · rw [Nat.testBit_two_pow]; simp; omega
          · simp
        rw [h0, Bool.or_false, decide_eq_decide.2 (show (k < 8 ∧ 8 * i + 7 - k < n) ↔ (k < 8 ∧ 8 * i + 7 - k < n + 1) by omega)]
    · rw [if_neg h, ih, decide_eq_decide.2 (show (k < 8 ∧ 8 * i + 7 - k < n) ↔ (k < 8 ∧ 8 * i + 7 - k < n + 1) by omega)]
theorem pbf_lt (f : Nat → Bool) (n i : Nat) : pbf f n i < 256 := by
  refine Nat.lt_pow_two_of_testBit (n := 8) _ fun k hk => ?_
  rw [pbf_bit, decide_eq_false (by omega)]
  rfl
theorem pbf_congr {f g : Nat → Bool} {n : Nat} (h : ∀ j, j < n → f j = g j) (i : Nat) : pbf f n i = pbf g n i := by
  refine Nat.eq_of_testBit_eq fun k => ?_
  rw [pbf_bit, pbf_bit]
  by_cases e : k < 8 ∧ 8 * i + 7 - k < n
  · rw [h _ e.2]
  · rw [decide_eq_false e]; rfl
theorem pbf_zero (f : Nat → Bool) {n i : Nat} (h : n ≤ 8 * i) : pbf f n i = 0 := by
  refine Nat.eq_of_testBit_eq fun k => ?_
  rw [pbf_bit, decide_eq_false (by omega), Nat.zero_testBit]
  rfl
def lb (l : List Bool) (i : Nat) : Bool := l.getD i false
theorem lb_snoc (l : List Bool) (x : Bool) {j : Nat} (h : j < l.length) : lb (l ++ [x]) j = lb l j := by
  unfold lb
  rw [List.getD_eq_getElem?_getD, List.getD_eq_getElem?_getD, List.getElem?_append_left h]
theorem lb_last (l : List Bool) (x : Bool) : lb (l ++ [x]) l.length = x := by
  unfold lb
  rw [List.getD_eq_getElem?_getD, List.getElem?_append_right (Nat.le_refl _), Nat.sub_self]
  rfl
/-- How many bytes n bits take. -/
def nB (n : Nat) : Nat := (n + 7) / 8
/-- The bytes of bits. -/
def pk (l : List Bool) : List Nat := (List.range (nB l.length)).map (pbf (lb l) l.length)
theorem pk_length (l : List Bool) : (pk l).length = nB l.length := by simp [pk]
theorem lf_pk (l : List Bool) {i : Nat} (h : i < nB l.length) : lf (pk l) i = pbf (lb l) l.length i := by
  rw [lf_get (by rw [pk_length]; exact h)]
  simp [pk]
theorem isB_pk (l : List Bool) : IsB (pk l) := fun x hx => by
  obtain ⟨i, _, rfl⟩ := List.mem_map.1 hx
  exact pbf_lt _ _ _
theorem nB_snoc (n : Nat) : nB (n + 1) = n / 8 + 1 := by unfold nB; omega
/-- One bit more: the last byte with it. -/
theorem pk_snoc (l : List Bool) (x : Bool) (zs : List Nat) (hz : zs.length = l.length / 8 + 1) (h : ∀ i, i < zs.length → lf zs i = pbf (lb l) l.length i) (y : Nat) (hy : y = lf zs (l.length / 8) ||| (if x then 2 ^ (7 - l.length % 8) else 0)) :
    pk (l ++ [x]) = zs.set (l.length / 8) y := by
  have hl : (l ++ [x]).length = l.length + 1 := by simp
  apply List.ext_getElem
  · rw [pk_length, hl, nB_snoc, List.length_set, hz]
  · intro i h1 h2
    rw [pk_length, hl, nB_snoc] at h1
    rw [← lf_get, lf_pk _ (by rw [hl, nB_snoc]; exact h1), hl, pbf, lb_last, pbf_congr (g := lb l) (fun j hj => lb_snoc l x hj) i]
    rw [List.getElem_set]
    by_cases e : l.length / 8 = i
    · subst e
      rw [if_pos rfl, if_pos rfl, hy, h _ (by omega)]
    · rw [if_neg (fun h => e h.symm), if_neg e, ← h i (by omega), lf_get (by omega)]
theorem pk_same (l : List Bool) (zs : List Nat) (hz : zs.length = l.length / 8 + 1) (h : ∀ i, i < zs.length → lf zs i = pbf (lb l) l.length i) : pk (l ++ [false]) = zs := by
  rw [pk_snoc l false zs hz h (lf zs (l.length / 8)) (by simp)]
  apply List.ext_getElem
  · simp
  · intro i h1 h2
    rw [List.getElem_set]
    split
    · rename_i e; subst e; rw [lf_get]
    · rfl
/-- The lowest bits of a number, the highest ahead. -/
def bitsOf (n count : Nat) : List Bool := (List.range count).map fun i => n.testBit (count - 1 - i)
theorem bitsOf_length (n count : Nat) : (bitsOf n count).length = count := by simp [bitsOf]
theorem bitsOf_succ (n count : Nat) : bitsOf n (count + 1) = n.testBit count :: bitsOf n count := by
  unfold bitsOf
  rw [List.range_succ_eq_map, List.map_cons, List.map_map]
  congr 1
  apply List.map_congr_left
  intro i _
  show n.testBit (count + 1 - 1 - (i + 1)) = _
  congr 1
  omega
end Go.Proofs.YtoopcmcmjaikhaaDoor
end
section
set_option linter.unusedSimpArgs false
set_option linter.unusedVariables false
set_option maxRecDepth 100000
namespace Go.Proofs.YtoopcmcmjaikhaaDoor
open Go.ChangeShapes Go.WideShapes Go.ChangeAt Go.RowKit Go.Lib

/-- A call to be done: its kind, its count, its number. -/
structure DoOk (a b c : Int) : Prop where
  ha : -9223372036854775808 ≤ a ∧ a ≤ 9223372036854775807
  hb : -9223372036854775808 ≤ b ∧ b ≤ 9223372036854775807
  hc : 0 ≤ c ∧ c ≤ 18446744073709551615
end Go.Proofs.YtoopcmcmjaikhaaDoor
end
section
set_option linter.unusedSimpArgs false
set_option linter.unusedVariables false
set_option maxRecDepth 100000
namespace Go.Proofs.YtoopcmcmjaikhaaDoor
open Go.RowKit Go.Lib Go.Sort

theorem wpList_known {P : Program} {ops : Array Oper} {rest : List Oper} {Q : Exit → Act → World → Prop} {op : Oper} {a : Act} {w : World} (hw : Region.wanted op (yielded ops a.tmps) = true) (v : Value) (w' : World) (hrun : (execOp a.eval op).run P w = .ok (.value v) w') (h : wpList P ops Q rest (a.put op.dst v) w') : wpList P ops Q (op :: rest) a w :=
  BigFrame.wpList_want hw fun _ hK => mo_known v w' hrun (hK _ _ h)
theorem run_eq_nilf (w : World) (d : Nat) : (Op.equalIn (d + 1) 109 .nilFunc .nilFunc).run Tryd.prog w = .ok true w := by
  simp [Op.equalIn, run_underlying Tryd.underlying109]
theorem run_eq_func (w : World) (d : Nat) (f : Fn) (a b : Array Value) : (Op.equalIn (d + 1) 109 (.func f a b) .nilFunc).run Tryd.prog w = .ok false w := by
  simp [Op.equalIn, run_underlying Tryd.underlying109]
theorem run_nq_nilf (w : World) : (binOp .neq 109 .nilFunc .nilFunc).run Tryd.prog w = .ok (.bool false) w := by
  simp only [binOp]
  simp [Op.equal, Op.maxDepth, run_eq_nilf w 9999]
theorem run_nq_func (w : World) (f : Fn) (a b : Array Value) : (binOp .neq 109 (.func f a b) .nilFunc).run Tryd.prog w = .ok (.bool true) w := by
  simp only [binOp]
  simp [Op.equal, Op.maxDepth, run_eq_func w 9999]
/-- The nil writer, and a plain one. -/
def UnW (w : World) (v : Value) : Prop := v = .pointer none ∨ ∃ b, v = .pointer (some ⟨b, 0, none⟩) ∧ w.heap[b]? = some (.cells #[.nilFunc, .nilFunc] 111 (0, 0))
/-- The nil reader, and a plain one. -/
def UnR (w : World) (v : Value) : Prop := v = .pointer none ∨ ∃ b, v = .pointer (some ⟨b, 0, none⟩) ∧ w.heap[b]? = some (.cells #[.bool false, .slice none 0 0, .int .i64 0] 129 (0, 0))
theorem wmade_un {w : World} {v : Value} (h : UnW w v) : Calls Tryd.prog 71 #[v] w fun e w' => e = .returned (.bool false) ∧ w = w' := by
  rcases h with rfl | ⟨b, rfl, hb⟩
  · go_enter Tryd.func71, Tryd.ntmps71
    go_wp2
    go_ret
    exact ⟨rfl, rfl⟩
  · have c0 := cell_of_here hb 0 (v := .nilFunc) rfl
    clear hb
    go_enter Tryd.func71, Tryd.ntmps71
    have q0 := run_nq_nilf
    go_wp2
    go_ret
    exact ⟨rfl, rfl⟩
theorem rmade_un {w : World} {v : Value} (h : UnR w v) : Calls Tryd.prog 87 #[v] w fun e w' => e = .returned (.bool false) ∧ w = w' := by
  rcases h with rfl | ⟨b, rfl, hb⟩
  · go_enter Tryd.func87, Tryd.ntmps87
    go_wp2
    go_ret
    exact ⟨rfl, rfl⟩
  · have c0 := cell_of_here hb 0 (v := .bool false) rfl
    clear hb
    go_enter Tryd.func87, Tryd.ntmps87
    go_wp2
    go_ret
    exact ⟨rfl, rfl⟩
set_option maxHeartbeats 2000000
section
variable {w : World} {v : Value}
theorem wbytes_un (h : UnW w v) : Calls Tryd.prog 39 #[v] w fun e w' => e = .returned (.slice none 0 0) ∧ w = w' := by
  have M := Lib.hid (wmade_un h)
  clear h
  go_enter Tryd.func39, Tryd.ntmps39
  go_wp2_with (go_at_call 71; refine M.out.mono ?_; rintro e w2 ⟨rfl, rfl⟩)
  go_ret
  exact ⟨rfl, rfl⟩
theorem rbit_un (h : UnR w v) : Calls Tryd.prog 88 #[v] w fun e w' => e = .returned (.tuple #[.bool false, .int .i64 2]) ∧ w = w' := by
  have M := Lib.hid (rmade_un h)
  clear h
  go_enter Tryd.func88, Tryd.ntmps88
  go_wp2_with (go_at_call 87; refine M.out.mono ?_; rintro e w2 ⟨rfl, rfl⟩)
  go_ret2
  exact ⟨rfl, rfl⟩
theorem wrice_un (h : UnW w v) (x y : Value) : Calls Tryd.prog 37 #[v, x, y] w fun e w' => e = .returned (.int .i64 2) ∧ w = w' := by
  have M := Lib.hid (wmade_un h)
  clear h
  go_enter Tryd.func37, Tryd.ntmps37
  go_wp2
  go_step3
  go_wp2_with (go_at_call 71; refine M.out.mono ?_; rintro e w2 ⟨rfl, rfl⟩)
  try rw [Exit.noGoto_ret]
  go_ret
  exact ⟨rfl, rfl⟩
theorem rrice_un (h : UnR w v) (x y : Value) : Calls Tryd.prog 56 #[v, x, y] w fun e w' => e = .returned (.tuple #[.int .u64 0, .int .i64 2]) ∧ w = w' := by
  have M := Lib.hid (rmade_un h)
  clear h
  go_enter Tryd.func56, Tryd.ntmps56
  go_wp2
  go_step3
  go_wp2_with (go_at_call 87; refine M.out.mono ?_; rintro e w2 ⟨rfl, rfl⟩)
  try rw [Exit.noGoto_ret]
  go_ret2
  exact ⟨rfl, rfl⟩
theorem rbits_un (h : UnR w v) (x : Value) : Calls Tryd.prog 89 #[v, x] w fun e w' => e = .returned (.tuple #[.int .u64 0, .int .i64 2]) ∧ w = w' := by
  have M := Lib.hid (rmade_un h)
  clear h
  go_enter Tryd.func89, Tryd.ntmps89
  go_wp2
  go_step3
  go_wp2_with (go_at_call 87; refine M.out.mono ?_; rintro e w2 ⟨rfl, rfl⟩)
  try rw [Exit.noGoto_ret]
  go_ret2
  exact ⟨rfl, rfl⟩
theorem rleft_un (h : UnR w v) : Calls Tryd.prog 90 #[v] w fun e w' => e = .returned (.int .i64 0) ∧ w = w' := by
  have M := Lib.hid (rmade_un h)
  clear h
  go_enter Tryd.func90, Tryd.ntmps90
  go_wp2_with (go_at_call 87; refine M.out.mono ?_; rintro e w2 ⟨rfl, rfl⟩)
  go_ret
  exact ⟨rfl, rfl⟩
end
end Go.Proofs.YtoopcmcmjaikhaaDoor
end
section
set_option linter.unusedSimpArgs false
set_option linter.unusedVariables false
set_option maxRecDepth 100000
namespace Go.Proofs.YtoopcmcmjaikhaaDoor
open Go.RowKit Go.Lib Go.Sort

theorem exec_bs {o : Oper} {ev : Operand → Value} {W W' : World} {T : TypeId} {m : Nat} {parts : Array (Nat × Operand)} (ho : o.op = .buildSlice T m parts) {ps : Array (Nat × Value)} (hp : (parts.map fun (i, y) => (i, ev y)) = ps) {v : Value} (h : (Instr.buildSlice T m ps).run Tryd.prog W = .ok v W') : (execOp ev o).run Tryd.prog W = .ok (.value v) W' := by
  unfold execOp
  simp only [ho, hp, Sem.run_bind, h, Result.andThen_ok]
  rfl
section
variable {ops : Array Oper} {rest : List Oper} {Q : Exit → Act → World → Prop} {op : Oper} {a : Act} {w w0 : World} {l : List (Nat × TypeId × Array Value)}
theorem mem_bs2 (E : Hid (Mem w0 l w)) (hw : Region.wanted op (yielded ops a.tmps) = true) {S T bytes : Nat} {z : Value} (hS : Tryd.prog.underlying S = some (.slice T)) (hT : (Tryd.prog.info? T).map (fun i => (i.zero, i.size, i.bytes)) = some (some z, 1, bytes)) (parts : Array (Nat × Operand)) (ho : op.op = .buildSlice S 2 parts) {x y : Value} (hp : (parts.map fun (i, y) => (i, a.eval y)) = #[(0, x), (1, y)]) (hx : x.cells = #[x]) (hy : y.cells = #[y])
    (k : ∀ b w', Hid (Mem w0 ((b, T, #[x, y]) :: l) w') → wpList Tryd.prog ops Q rest (a.put op.dst (.slice (some ⟨b, 0, none⟩) 2 2)) w') : wpList Tryd.prog ops Q (op :: rest) a w :=
  wpList_known hw _ _ (exec_bs ho hp (run_bs2v hS hT x y hx hy w)) (k _ _ (Lib.hid (E.out.new T _)))
end
end Go.Proofs.YtoopcmcmjaikhaaDoor
end
section
set_option linter.unusedSimpArgs false
set_option linter.unusedVariables false
set_option maxRecDepth 100000
namespace Go.Proofs.YtoopcmcmjaikhaaDoor
open Go.RowKit Go.Lib Go.Sort

/-- Every block is as it was, but for bytes, slices of bytes and numbers. -/
structure Kw (w w' : World) : Prop where
  size : w.heap.size ≤ w'.heap.size
  keep : ∀ (k : Nat) (cs : Array Value) (T : TypeId), T ≠ 3 → T ≠ 32 → T ≠ 5 → w.heap[k]? = some (.cells cs T (0, 0)) → w'.heap[k]? = some (.cells cs T (0, 0))
theorem Kw.refl (w : World) : Kw w w := ⟨Nat.le_refl _, fun _ _ _ _ _ _ h => h⟩
theorem Kw.trans {x y z : World} (h : Kw x y) (k : Kw y z) : Kw x z := ⟨Nat.le_trans h.size k.size, fun i cs T h1 h2 h3 hi => k.keep i cs T h1 h2 h3 (h.keep i cs T h1 h2 h3 hi)⟩
theorem Kw.below {w w' : World} (h : Below w.heap.size w w') : Kw w w' := ⟨h.size, fun k cs T _ _ _ hk => by rw [h.block _ (heap_lt hk)]; exact hk⟩
theorem Kw.keeps {w w' : World} (hs : w.heap.size ≤ w'.heap.size) (h : Keeps w w') : Kw w w' := ⟨hs, fun k cs T _ _ h3 hk => h k cs T h3 hk⟩
theorem Kw.only {w w' : World} {b T : Nat} {cs : Array Value} (hb : w.heap[b]? = some (.cells cs T (0, 0))) (hT : T = 3 ∨ T = 32 ∨ T = 5) (h : Only b w w') : Kw w w' := ⟨h.size, fun k c2 T2 h1 h2 h3 hk => h.heap (fun e => by
  subst e
  rw [hb] at hk
  injection hk with hk
  injection hk with _ e2 _
  subst e2
  rcases hT with h | h | h
  · exact h1 h
  · exact h2 h
  · exact h3 h) hk⟩
theorem Mem.kw {D w w' : World} {l : List (Nat × TypeId × Array Value)} (E : Mem D l w) (h : Kw w w') (hb : Below D.heap.size w w') (hl : ∀ q, q ∈ l → q.2.1 ≠ 3 ∧ q.2.1 ≠ 32 ∧ q.2.1 ≠ 5) : Mem D l w' :=
  ⟨E.below.trans hb, fun q hq => h.keep _ _ _ (hl q hq).1 (hl q hq).2.1 (hl q hq).2.2 (E.has q hq), E.nd, E.ge⟩
theorem ownsRow_kw {w w' : World} {base : Nat} {e : TypeId} {size : Nat} {v : Value} {n : Nat} {xs : List Value} (h : w.ownsRow base e size v n xs) (k : Kw w w') (h1 : e ≠ 3) (h2 : e ≠ 32) (h3 : e ≠ 5) : w'.ownsRow base e size v n xs := by
  obtain ⟨a, b⟩ := h
  refine ⟨a, ?_⟩
  rcases b with b | ⟨g, cap, cur, b1, b2, b3, b4⟩
  · exact .inl b
  · exact .inr ⟨g, cap, cur, b1, b2, k.keep _ _ _ h1 h2 h3 b3, b4⟩
theorem VOwn.kw {w w' : World} {T k B : Nat} {p : Option Addr} {g n c : Nat} {V : Nat → Value} (h : VOwn T k B w p g n c V) (q : Kw w w') (h1 : T ≠ 3) (h2 : T ≠ 32) (h3 : T ≠ 5) : VOwn T k B w' p g n c V := ⟨ownsRow_kw h.own q h1 h2 h3, h.spot, h.one, Nat.le_trans h.low q.size⟩
/-- A byte of a row of the call's own, written. -/
theorem own_set {B : Nat} {w : World} {p : Option Addr} {g n c : Nat} {x : Nat → Nat} (N : Own B w p g n c x) {i : Nat} (hi : i < n) (v : Nat) (hv : v < 256) :
    Own B (w.setCell ⟨g, i, none⟩ (.int .u8 (v : Int))) p g n c (fun j => if j = i then v else x j) ∧ Only g w (w.setCell ⟨g, i, none⟩ (.int .u8 (v : Int))) ∧ p = some ⟨g, 0, none⟩ ∧ B ≤ g ∧ ∃ cur, w.heap[g]? = some (.cells cur 5 (0, 0)) ∧ i < cur.size := by
  have hO : Only g w (w.setCell ⟨g, i, none⟩ (.int .u8 (v : Int))) := (Only.refl g w).setCell _ rfl _
  obtain ⟨h0, h1⟩ := N.own
  rcases h1 with ⟨h1, h2⟩ | ⟨g', cap, cur, h1, h2, h3, h4, h5, h6, h7⟩
  · omega
  · injection h1 with a1 a2 a3
    subst a3
    rcases N.spot with q | q
    · rw [q] at a1; cases a1
    · rw [q] at a1
      injection a1 with a1
      injection a1 with a1
      subst a1
      have hh : (w.setCell ⟨g, i, none⟩ (.int .u8 (v : Int))).heap[g]? = some (.cells (cur.setIfInBounds i (.int .u8 (v : Int))) 5 (0, 0)) := ((Holds.start h3).set rfl).here
      have hcs : i < cur.size := by rw [h6]; omega
      simp only [Nat.mul_one] at h6 h7
      have hset : List.take n (cur.setIfInBounds i (.int .u8 (v : Int))).toList = fbs (fun j => if j = i then v else x j) n := by
        rw [Array.toList_setIfInBounds, List.take_set, h7]
        apply List.ext_getElem?
        intro j
        rw [List.getElem?_set]
        rcases Nat.lt_or_ge j n with h | h
        · rw [fbs_at (fun j => if j = i then v else x j) _ _ h]
          by_cases e : i = j
          · subst e; rw [if_pos rfl, if_pos (by rw [fbs_length]; exact h), if_pos rfl]
          · rw [if_neg e, fbs_at _ _ _ h, if_neg (fun h => e h.symm)]
        · rw [List.getElem?_eq_none (by rw [fbs_length]; exact h)]
          rw [if_neg (by omega), List.getElem?_eq_none (by rw [fbs_length]; exact h)]
      refine ⟨⟨⟨by rw [fbs_length, Nat.mul_one], .inr ⟨g, c, cur.setIfInBounds i (.int .u8 (v : Int)), by rw [q], h2, hh, h4, h5, by simp [h6], by rw [Nat.mul_one]; exact hset⟩⟩, N.spot, fun j => ?_, Nat.le_trans N.low hO.size⟩, hO, q, h2, cur, h3, hcs⟩
      show (if j = i then v else x j) < 256
      split
      · exact hv
      · exact N.byte j
/-- The blocks of a writer: how many bits are free, and the bytes. -/
abbrev wl2 (bf bw : Nat) (fr : Int) (sl : Value) : List (Nat × TypeId × Array Value) := [(bf, 3, #[.int .i64 fr]), (bw, 32, #[sl])]
structure Pw (D w0 : World) (bf bw : Nat) (fr : Int) (p0 : Option Addr) (n0 c0 : Nat) (p : Option Addr) (g c : Nat) (xs : List Nat) (w : World) : Prop where
  wb : Wb D (wl2 bf bw fr (.slice p0 n0 c0)) p g c xs w
  kw : Kw w0 w
theorem Wb.typed {D w : World} {l : List (Nat × TypeId × Array Value)} {p : Option Addr} {g c : Nat} {xs : List Nat} (K : Wb D l p g c xs w) : IsB xs := isB_own K.own
section
variable {ops : Array Oper} {rest : List Oper} {Q : Exit → Act → World → Prop} {op : Oper} {a : Act} {D w0 w : World} {bf bw : Nat} {fr : Int} {p0 p : Option Addr} {n0 c0 g c : Nat} {xs : List Nat}
theorem pw_ldf (N : Hid (Pw D w0 bf bw fr p0 n0 c0 p g c xs w)) (hw : Region.wanted op (yielded ops a.tmps) = true) (x : Operand) (ho : op.op = .load 3 x) (hx : a.eval x = .pointer (some ⟨bf, 0, none⟩)) (h : wpList Tryd.prog ops Q rest (a.put op.dst (.int .i64 fr)) w) : wpList Tryd.prog ops Q (op :: rest) a w :=
  mem_load_cell (Lib.hid N.out.wb.mem) 3 hw x ho hx List.mem_cons_self Tryd.underlying3 rfl (v := .int .i64 fr) rfl h
theorem pw_ldw (N : Hid (Pw D w0 bf bw fr p0 n0 c0 p g c xs w)) (hw : Region.wanted op (yielded ops a.tmps) = true) (x : Operand) (ho : op.op = .load 32 x) (hx : a.eval x = .pointer (some ⟨bw, 0, none⟩)) (h : wpList Tryd.prog ops Q rest (a.put op.dst (.slice p0 n0 c0)) w) : wpList Tryd.prog ops Q (op :: rest) a w :=
  mem_load_cell (Lib.hid N.out.wb.mem) 32 hw x ho hx (List.mem_cons_of_mem _ List.mem_cons_self) Tryd.underlying32 rfl (v := .slice p0 n0 c0) rfl h
theorem pw_stf (N : Hid (Pw D w0 bf bw fr p0 n0 c0 p g c xs w)) (hg : op.guard = none) (x y : Operand) (ho : op.op = .store 3 x y) (hx : a.eval x = .pointer (some ⟨bf, 0, none⟩)) {k : Int} (hy : a.eval y = .int .i64 k) (h : ∀ w', Hid (Pw D w0 bf bw k p0 n0 c0 p g c xs w') → wpList Tryd.prog ops Q rest (a.put op.dst undef) w') : wpList Tryd.prog ops Q (op :: rest) a w := by
  have hb := N.out.wb.mem.get (b := bf) List.mem_cons_self
  have hH : Holds bf 3 #[.int .i64 k] w (w.setCell ⟨bf, 0, none⟩ (.int .i64 k)) := (Holds.start hb).set rfl
  refine wpList_plain hg fun K hK => ?_
  unfold Oper.wp execOp
  simp only [ho, hx, hy, Sem.run_bind, Sem.run_pure, run_store_one (P := Tryd.prog) (ty := 3) (v := .int .i64 k) (by kernel_rfl) rfl rfl (cell_of_here hb 0 rfl) (free_of_here hb 0), Result.andThen_ok]
  exact hK _ _ (h _ (Lib.hid ⟨N.out.wb.turn (i := 0) rfl hH.here hH.only, N.out.kw.trans (Kw.only hb (.inl rfl) hH.only)⟩))
theorem pw_stw (N : Hid (Pw D w0 bf bw fr p0 n0 c0 p g c xs w)) (hg : op.guard = none) (x y : Operand) (ho : op.op = .store 32 x y) (hx : a.eval x = .pointer (some ⟨bw, 0, none⟩)) {p1 : Option Addr} {n1 c1 : Nat} (hy : a.eval y = .slice p1 n1 c1) (h : ∀ w', Hid (Pw D w0 bf bw fr p1 n1 c1 p g c xs w') → wpList Tryd.prog ops Q rest (a.put op.dst undef) w') : wpList Tryd.prog ops Q (op :: rest) a w := by
  have hb := N.out.wb.mem.get (b := bw) (List.mem_cons_of_mem _ List.mem_cons_self)
  have hH : Holds bw 32 #[.slice p1 n1 c1] w (w.setCell ⟨bw, 0, none⟩ (.slice p1 n1 c1)) := (Holds.start hb).set rfl
  refine wpList_plain hg fun K hK => ?_
  unfold Oper.wp execOp
  simp only [ho, hx, hy, Sem.run_bind, Sem.run_pure, run_store_one (P := Tryd.prog) (ty := 32) (v := .slice p1 n1 c1) (by kernel_rfl) rfl rfl (cell_of_here hb 0 rfl) (free_of_here hb 0), Result.andThen_ok]
  exact hK _ _ (h _ (Lib.hid ⟨N.out.wb.turn (i := 1) rfl hH.here hH.only, N.out.kw.trans (Kw.only hb (.inr (.inl rfl)) hH.only)⟩))
theorem pw_bs (N : Hid (Pw D w0 bf bw fr p0 n0 c0 p g c xs w)) (parts : Array (Nat × Operand)) (hw : Region.wanted op (yielded ops a.tmps) = true) (ho : op.op = .buildSlice 32 1 parts) (hp : (parts.map fun (i, y) => (i, a.eval y)) = #[(0, .int .u8 0)])
    (h : ∀ b w', Hid (Row w' (some ⟨b, 0, none⟩) b 0 1 1 (lf [0])) → Hid (Pw D w0 bf bw fr p0 n0 c0 p g c xs w') → wpList Tryd.prog ops Q rest (a.put op.dst (.slice (some ⟨b, 0, none⟩) 1 1)) w') : wpList Tryd.prog ops Q (op :: rest) a w := by
  have hz : IsB [0] := fun x hx => by simp at hx; omega
  have hr := run_bs1v (P := Tryd.prog) Tryd.underlying32 infoB (.int .u8 0) rfl w
  have e : (#[.int .u8 0] : Array Value) = (fbs (lf [0]) 1).toArray := by kernel_rfl
  rw [e] at hr
  refine wpList_known hw _ _ (exec_bs ho hp hr) (h _ _ (Lib.hid (own_new w (lf [0]) 1 (by unfold maxLen; omega) (lf_lt hz)).row) (Lib.hid ⟨N.out.wb.call (below_new w _), N.out.kw.trans (Kw.below (below_new w _))⟩))
theorem pw_app (N : Hid (Pw D w0 bf bw fr p0 n0 c0 p g c xs w)) (hw : Region.wanted op (yielded ops a.tmps) = true) (s t : Operand) (ho : op.op = .call { callee := .builtin .append, args := #[s, t], argTypes := #[32, 32] }) {n : Nat} (hs : a.eval s = .slice p n c) (hn : n = xs.length)
    {q : Option Addr} {h o m d : Nat} {y : Nat → Nat} (ht : a.eval t = .slice q m d) (R : Hid (Row w q h o m d y)) (hlen : n + m ≤ 140737488355328)
    (k : ∀ p' g' c' w' zs, Hid (zs = xs ++ tl y m) → Hid (Pw D w0 bf bw fr p0 n0 c0 p' g' c' zs w') → wpList Tryd.prog ops Q rest (a.put op.dst (.slice p' zs.length c')) w') : wpList Tryd.prog ops Q (op :: rest) a w := by
  subst hn
  refine BigFrame.wpList_want hw fun K hK => ?_
  refine mo_appk s t ho hs (Lib.hid N.out.wb.own) ht R hlen ?_
  intro p' g' c' w' N' hb kp
  have e : xs.length + m = (xs ++ tl y m).length := by rw [List.length_append, tl_length]
  rw [e]
  refine hK _ _ (k p' g' c' w' _ (Lib.hid rfl) (Lib.hid ⟨⟨N.out.wb.mem.keeps N.out.wb.nb hb.out kp.out, ?_, N.out.wb.nb⟩, N.out.kw.trans (Kw.keeps hb.out.size kp.out)⟩))
  rw [← e]
  have hB : IsB (xs ++ tl y m) := (isB_own N.out.wb.own).append (isB_tl R.out.byte m)
  refine N'.out.to (fun i hi => ?_) (lf_lt hB)
  rw [← lf_cat]
  unfold cat
  split
  · rfl
  · rw [lf_tl y (by omega)]
end
/-- A byte of them, written. -/
theorem Pw.set {D w0 w : World} {bf bw : Nat} {fr : Int} {p0 p : Option Addr} {n0 c0 g c : Nat} {xs : List Nat} (N : Pw D w0 bf bw fr p0 n0 c0 p g c xs w) {i : Nat} (hi : i < xs.length) (v : Nat) (hv : v < 256) :
    Pw D w0 bf bw fr p0 n0 c0 p g c (xs.set i v) (w.setCell ⟨g, i, none⟩ (.int .u8 (v : Int))) := by
  obtain ⟨O, hO, hp, hg, cur, hc, _⟩ := own_set N.wb.own hi v hv
  have K : Kw w (w.setCell ⟨g, i, none⟩ (.int .u8 (v : Int))) := Kw.only hc (.inr (.inr rfl)) hO
  have ne : ∀ q, q ∈ wl2 bf bw fr (.slice p0 n0 c0) → q.1 ≠ g := fun q hq e => by
    have h1 := N.wb.mem.has q hq
    rw [e, hc] at h1
    injection h1 with h1
    injection h1 with _ h2 _
    exact N.wb.nb q hq h2.symm
  refine ⟨⟨⟨N.wb.mem.below.trans (hO.below hg N.wb.own.low), fun q hq => hO.heap (ne q hq) (N.wb.mem.has q hq), N.wb.mem.nd, N.wb.mem.ge⟩, ?_, N.wb.nb⟩, N.kw.trans K⟩
  rw [List.length_set]
  have hB : IsB (xs.set i v) := fun x hx => by
    rcases List.mem_or_eq_of_mem_set hx with h | rfl
    · exact isB_own N.wb.own x h
    · exact hv
  refine O.to (fun j hj => ?_) (lf_lt hB)
  rw [lf_get (show j < (xs.set i v).length by rw [List.length_set]; exact hj), List.getElem_set]
  by_cases e : i = j
  · subst e; rw [if_pos rfl, if_pos rfl]
  · rw [if_neg e, if_neg (fun h => e h.symm), lf_get hj]
end Go.Proofs.YtoopcmcmjaikhaaDoor
end
