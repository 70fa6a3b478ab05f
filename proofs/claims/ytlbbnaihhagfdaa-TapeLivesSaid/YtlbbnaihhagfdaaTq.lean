/- A tape of the program in memory: its two boxes and its bytes; what may turn beside them. -/
import Derived.Test.YtlbbnaihhagfdaaTa1
import Derived.Deep.AppendLies
set_option linter.unusedSimpArgs false
set_option linter.unusedVariables false
set_option maxRecDepth 100000
namespace Go.Proofs.Ytlbbnaihhagfdaa
open Go.RowKit Go.Lib Go.Sort

/-- The block of a row's bytes, if there is one. -/
def ob (p : Option Addr) : Option Nat := p.map (·.block)
theorem ob_own (p : Option Addr) (n c : Nat) : (Value.slice p n c).ownBlock = ob p := by cases p <;> rfl
/-- Of all blocks that w had only bs, and o's, may have turned. -/
structure Fr (bs : Nat) (o : Option Nat) (w w' : World) : Prop where
  os : w'.os = w.os
  tape : w'.tape = w.tape
  output : w'.output = w.output
  size : w.heap.size ≤ w'.heap.size
  block : ∀ k, k < w.heap.size → k ≠ bs → some k ≠ o → w'.heap[k]? = w.heap[k]?
/-- A row is where it was, or in a new block. -/
def Lies (w : World) (o o' : Option Nat) : Prop := ∀ k, o' = some k → o = some k ∨ w.heap.size ≤ k
section
variable {bs : Nat} {o o' o2 : Option Nat} {w w1 w2 D : World}
theorem Fr.refl (bs : Nat) (o : Option Nat) (w : World) : Fr bs o w w := ⟨rfl, rfl, rfl, Nat.le_refl _, fun _ _ _ _ => rfl⟩
theorem Fr.trans (h : Fr bs o w w1) (k : Fr bs o' w1 w2) (hl : Lies w o o') : Fr bs o w w2 :=
  ⟨k.os.trans h.os, k.tape.trans h.tape, k.output.trans h.output, Nat.le_trans h.size k.size, fun i hi hb ho => (k.block i (Nat.lt_of_lt_of_le hi h.size) hb (fun e => by
    rcases hl i e.symm with q | q
    · exact ho q.symm
    · omega)).trans (h.block i hi hb ho)⟩
theorem Fr.same (h : Fr bs o w w1) (k : Fr bs o w1 w2) : Fr bs o w w2 := h.trans k fun _ e => .inl e
theorem Lies.refl (w : World) (o : Option Nat) : Lies w o o := fun _ e => .inl e
theorem Lies.trans (h : Lies w o o') (k : Lies w1 o' o2) (hs : w.heap.size ≤ w1.heap.size) : Lies w o o2 := fun i e => by
  rcases k i e with q | q
  · exact h i q
  · exact .inr (by omega)
theorem Fr.below (h : Below w.heap.size w w1) : Fr bs o w w1 := ⟨h.os, h.tape, h.output, h.size, fun k hk _ _ => h.block k hk⟩
theorem Fr.drew (h : Fr bs o w w1) : Fr bs o w w1.drew := ⟨h.os, h.tape, h.output, h.size, h.block⟩
theorem Fr.grown (h : w.grownBy w1 o) : Fr bs o w w1 := ⟨h.os, h.tape, h.output, h.size, fun k hk _ ho => h.block k hk ho⟩
theorem Fr.set (h : Fr bs o w w1) (j : Nat) (v : Value) : Fr bs o w (w1.setCell ⟨bs, j, none⟩ v) :=
  ⟨h.os, h.tape, h.output, by simpa [World.setCell] using h.size, fun k hk hb ho => (Below.heap_setCell _ _ _ _ (by simpa using hb)).trans (h.block k hk hb ho)⟩
theorem Fr.under {B : Nat} (h : Fr bs o w w1) (hb : B ≤ bs) (ho : ∀ k, o = some k → B ≤ k) (hs : B ≤ w.heap.size) : Below B w w1 :=
  ⟨h.os, h.tape, h.output, h.size, fun k hk => h.block k (by omega) (by omega) (fun e => by have := ho k e.symm; omega)⟩
end
section
variable {w0 w : World} {l : List (Nat × TypeId × Array Value)} {p : Option Addr} {g c : Nat} {xs : List Nat}
theorem Wb.setc (K : Wb w0 l p g c xs w) {i b T j : Nat} {cs cs' : Array Value} {v : Value} (hi : l[i]? = some (b, T, cs)) (e : cs.setIfInBounds j v = cs') : Wb w0 (l.set i (b, T, cs')) p g c xs (w.setCell ⟨b, j, Option.none⟩ v) := by
  have H := (Holds.start (K.mem.has _ (List.mem_of_getElem? hi))).set e
  exact K.turn hi H.here H.only
theorem Wb.drew (K : Wb w0 l p g c xs w) : Wb w0 l p g c xs w.drew := K.call ⟨rfl, rfl, rfl, Nat.le_refl _, fun _ _ => rfl⟩
end
/-- A tape's boxes, whatever the first field holds, and a row of bytes of the call's own. -/
def Tq (D : World) (bt bs : Nat) (v : Value) (s r : Int) (f : Bool) (k : Int) (p : Option Addr) (g c : Nat) (xs : List Nat) (w : World) : Prop :=
  Wb D [(bt, 53, #[.pointer (some ⟨bs, 0, none⟩)]), (bs, 59, #[v, .int .i64 s, .int .i64 r, .bool f, .int .i64 k])] p g c xs w
/-- A tape. -/
abbrev Tp (D : World) (bt bs : Nat) (s r : Int) (f : Bool) (k : Int) (p : Option Addr) (g c : Nat) (xs : List Nat) (w : World) : Prop := Tq D bt bs (.slice p xs.length c) s r f k p g c xs w
section
variable {D w w' : World} {bt bs : Nat} {v u : Value} {s r k x : Int} {f y : Bool} {p : Option Addr} {g c : Nat} {xs : List Nat}
theorem Tq.cT (T : Tq D bt bs v s r f k p g c xs w) : w.heap[bt]? = some (.cells #[.pointer (some ⟨bs, 0, none⟩)] 53 (0, 0)) := T.mem.get List.mem_cons_self
theorem Tq.cS (T : Tq D bt bs v s r f k p g c xs w) : w.heap[bs]? = some (.cells #[v, .int .i64 s, .int .i64 r, .bool f, .int .i64 k] 59 (0, 0)) := T.mem.get (List.mem_cons_of_mem _ List.mem_cons_self)
theorem Tq.drew (T : Tq D bt bs v s r f k p g c xs w) : Tq D bt bs v s r f k p g c xs w.drew := Wb.drew T
theorem Tq.call (T : Tq D bt bs v s r f k p g c xs w) (h : Below w.heap.size w w') : Tq D bt bs v s r f k p g c xs w' := Wb.call T h
theorem Tq.set0 (T : Tq D bt bs v s r f k p g c xs w) : Tq D bt bs u s r f k p g c xs (w.setCell ⟨bs, 0, none⟩ u) := Wb.setc T (i := 1) rfl rfl
theorem Tq.set1 (T : Tq D bt bs v s r f k p g c xs w) : Tq D bt bs v x r f k p g c xs (w.setCell ⟨bs, 1, none⟩ (.int .i64 x)) := Wb.setc T (i := 1) rfl rfl
theorem Tq.set2 (T : Tq D bt bs v s r f k p g c xs w) : Tq D bt bs v s x f k p g c xs (w.setCell ⟨bs, 2, none⟩ (.int .i64 x)) := Wb.setc T (i := 1) rfl rfl
theorem Tq.set3 (T : Tq D bt bs v s r f k p g c xs w) : Tq D bt bs v s r y k p g c xs (w.setCell ⟨bs, 3, none⟩ (.bool y)) := Wb.setc T (i := 1) rfl rfl
theorem Tq.set4 (T : Tq D bt bs v s r f k p g c xs w) : Tq D bt bs v s r f x p g c xs (w.setCell ⟨bs, 4, none⟩ (.int .i64 x)) := Wb.setc T (i := 1) rfl rfl
theorem Tq.row (T : Tq D bt bs v s r f k p g c xs w) : Row w p g 0 xs.length c (lf xs) := T.own.row
theorem Tq.lies (T : Tq D bt bs v s r f k p g c xs w) : ∀ j, ob p = some j → D.heap.size ≤ j ∧ j < w.heap.size := fun j e => World.ownsRow.lt T.own.own j (by rw [ob_own]; exact e)
theorem Tq.geb (T : Tq D bt bs v s r f k p g c xs w) : D.heap.size ≤ bs ∧ D.heap.size ≤ bt := ⟨T.mem.ge _ (List.mem_cons_of_mem _ List.mem_cons_self), T.mem.ge _ List.mem_cons_self⟩
/-- What lies apart from all that a tape has: it stays. -/
theorem Tq.under (T : Tq D bt bs v s r f k p g c xs w) (F : Fr bs (ob p) w w') : Below D.heap.size w w' := F.under T.geb.1 (fun j e => (T.lies j e).1) T.mem.below.size
theorem Tq.mono {E : World} (T : Tq D bt bs v s r f k p g c xs w) (h : Below E.heap.size E D) : Tq E bt bs v s r f k p g c xs w :=
  ⟨⟨h.trans (T.mem.below.mono h.size), T.mem.has, T.mem.nd, fun q hq => Nat.le_trans h.size (T.mem.ge q hq)⟩, T.own.mono h.size, T.nb⟩
theorem Tq.apart (T : Tq D bt bs v s r f k p g c xs w) {q : Option Addr} {h o m d : Nat} {y : Nat → Nat} (R : Row D q h o m d y) (hm : 0 < m) : some h ≠ ob p ∧ h ≠ bs := by
  have h1 := cell_lt (R.cell 0 hm)
  have h2 : h < D.heap.size := h1
  refine ⟨fun e => ?_, fun e => ?_⟩
  · have := (T.lies h e.symm).1; omega
  · have := T.geb.1; omega
theorem Tq.under0 (T : Tq D bt bs v s r f k p g c xs w) : Below D.heap.size D w := T.mem.below
theorem Row.less {q : Option Addr} {h o n m d : Nat} {y : Nat → Nat} (R : Row w q h o n d y) (hm : m ≤ n) : Row w q h o m d y := ⟨by have := R.le; omega, R.cap, fun e => ⟨by have := (R.nil e).1; omega, (R.nil e).2⟩, fun h0 => R.head (by omega), fun i hi => R.cell i (by omega), R.byte⟩
theorem Tq.less (T : Tq D bt bs v s r f k p g c xs w) {m : Nat} (hm : m ≤ xs.length) : Tq D bt bs v s r f k p g c (xs.take m) w := by
  have hl : (xs.take m).length = m := by rw [List.length_take]; omega
  refine ⟨T.mem, ?_, T.nb⟩
  rw [hl]
  have N := T.own
  have hb : ∀ i, lf (xs.take m) i < 256 := lf_lt fun z hz => isB_own N z (List.mem_of_mem_take hz)
  have e : fbs (lf (xs.take m)) m = (fbs (lf xs) xs.length).take m := by
    apply List.ext_getElem?
    intro i
    rcases Nat.lt_or_ge i m with q | q
    · rw [List.getElem?_take_of_lt q, fbs_at _ _ _ q, fbs_at _ _ _ (by omega), lf_get (by omega), lf_get (by omega), List.getElem_take]
    · rw [List.getElem?_eq_none (by rw [fbs_length]; exact q), List.getElem?_eq_none (by rw [List.length_take]; omega)]
  refine ⟨?_, N.spot, hb, N.low⟩
  rw [e]
  obtain ⟨hl0, h | ⟨g', cap, cur, hv', hb', hg, hn, hc, hs, ht⟩⟩ := N.own
  · obtain ⟨h1, h2⟩ := h
    injection h1 with h1 h3 h4
    subst h1 h4
    have : m = 0 := by omega
    subst this
    exact World.ownsRow_nil _ _ _ _
  · injection hv' with h1 h3 h4
    subst h1 h4
    refine ⟨by rw [List.length_take, fbs_length]; omega, .inr ⟨g', c, cur, rfl, hb', hg, by omega, hc, hs, ?_⟩⟩
    rw [← ht, List.take_take]
    congr 1
    omega
end
/-- A tape was turned; its row lies where it was, or is new. -/
def Turns (D : World) (bt bs : Nat) (s r : Int) (f : Bool) (k : Int) (p : Option Addr) (xs : List Nat) (w w' : World) : Prop := ∃ p' g' c', Tp D bt bs s r f k p' g' c' xs w' ∧ Fr bs (ob p) w w' ∧ Lies w (ob p) (ob p')
theorem Turns.before {D : World} {bt bs : Nat} {s r : Int} {f : Bool} {k : Int} {p : Option Addr} {xs : List Nat} {w w1 w2 : World} (h : Turns D bt bs s r f k p xs w1 w2) (F : Fr bs (ob p) w w1) : Turns D bt bs s r f k p xs w w2 := by
  obtain ⟨p', g', c', T, F2, L⟩ := h
  exact ⟨p', g', c', T, F.same F2, fun j e => (L j e).imp id fun q => Nat.le_trans F.size q⟩
section
variable {ops : Array Oper} {rest : List Oper} {Q : Exit → Act → World → Prop} {op : Oper} {a : Act} {w w0 : World} {l : List (Nat × TypeId × Array Value)} {g c : Nat} {p : Option Addr} {xs : List Nat} {K : Act → World → Prop}
/-- One cell, stored. -/
theorem mo_setc {b j T : Nat} {cs : Array Value} {v u : Value} (hg : w.heap[b]? = some (.cells cs T (0, 0))) (ty : TypeId) (x y : Operand) (ho : op.op = .store ty x y) (hx : a.eval x = .pointer (some ⟨b, j, none⟩)) (hy : a.eval y = v) (hs : (Try.prog.info? ty).map (·.size) = some 1) (h1 : v.cells = #[v]) (h2 : v.oneCell' = true) (hu : cs[j]? = some u)
    (h : K (a.put op.dst undef) (w.setCell ⟨b, j, none⟩ v)) : op.wp Try.prog a w K Q := by
  unfold Oper.wp execOp
  simp only [ho, hx, hy, Sem.run_bind, Sem.run_pure, run_store_one hs h1 h2 (cell_of_here hg j hu) (free_of_here hg j), Result.andThen_ok]
  exact h
theorem wpList_setc {b j T : Nat} {cs : Array Value} {v u : Value} (hg : w.heap[b]? = some (.cells cs T (0, 0))) (hgd : op.guard = none) (ty : TypeId) (x y : Operand) (ho : op.op = .store ty x y) (hx : a.eval x = .pointer (some ⟨b, j, none⟩)) (hy : a.eval y = v) (hs : (Try.prog.info? ty).map (·.size) = some 1) (h1 : v.cells = #[v]) (h2 : v.oneCell' = true) (hu : cs[j]? = some u)
    (h : wpList Try.prog ops Q rest (a.put op.dst undef) (w.setCell ⟨b, j, none⟩ v)) : wpList Try.prog ops Q (op :: rest) a w :=
  wpList_plain hgd fun _ hK => mo_setc hg ty x y ho hx hy hs h1 h2 hu (hK _ _ h)
/-- An append; where the row then lies. -/
theorem mo_wbl (s t : Operand) (ho : op.op = .call { callee := .builtin .append, args := #[s, t], argTypes := #[22, 22] }) (N : Hid (Wb w0 l p g c xs w)) {n : Nat} (hs : a.eval s = .slice p n c) (hn : n = xs.length)
    {q : Option Addr} {h o m d : Nat} {y : Nat → Nat} (ht : a.eval t = .slice q m d) (R : Hid (Row w q h o m d y)) (hlen : n + m ≤ 140737488355328)
    (k : ∀ p' g' c' w' zs, Hid (zs = xs ++ tl y m) → Hid (Wb w0 l p' g' c' zs w') → Hid (w.grownBy w' (ob p)) → Hid (Lies w (ob p) (ob p')) → K (a.put op.dst (.slice p' zs.length c')) w') : op.wp Try.prog a w K Q := by
  subst hn
  have hB : IsB (xs ++ tl y m) := (isB_own N.out.own).append (isB_tl R.out.byte m)
  have el : xs.length + m = (xs ++ tl y m).length := by rw [List.length_append, tl_length]
  obtain ⟨i0, hi, hz0, hz1, hz2⟩ := info_parts infoB
  cases q with
  | none =>
    obtain ⟨rfl, rfl⟩ := R.out.nil rfl
    have hrun := run_append_owned_none (P := Try.prog) (w := w) w0.heap.size 22 op.type 5 i0 1 Try.underlying22 hi _ xs.length _ N.out.own.own
    have e0 : xs ++ tl y 0 = xs := by simp [tl]
    refine mo_known (.slice p xs.length c) w ?_ (k p g c w xs (Lib.hid e0.symm) N (Lib.hid (World.grownBy.refl _ _)) (Lib.hid (Lies.refl _ _)))
    simp [execOp, ho, resolve, invoke, builtin, hs, ht, hrun, Result.andThen]
  | some ad =>
    obtain ⟨v', w', hr, hown, hgrow, _, hat⟩ := run_append_own_at (P := Try.prog) w w0.heap.size 22 op.type 5 i0 (.int .u8 0) 1 1 Try.underlying22 hi hz0 hz1 hz2 rfl (by decide) _ _ _ N.out.own.own ad m d (fbs y m) (by rw [fbs_length]; omega) (fun j u hu => by
      obtain ⟨hj, rfl⟩ := fbs_get _ _ _ _ hu
      obtain rfl := Option.some.inj (R.out.head (by omega))
      rw [row_add]
      exact R.out.cell j hj) (fbs_one y m) (by unfold maxLen; omega) (by omega) N.out.own.low
    refine mo_known v' w' ?_ ?_
    · simp [execOp, ho, resolve, invoke, builtin, hs, ht, hr, Result.andThen]
    · rw [fbs_cat] at hown
      have hb : Below w0.heap.size w w' := (Below.refl _ _).grown hgrow N.out.own.low fun k hk => (World.ownsRow.lt N.out.own.own k hk).1
      obtain ⟨p', g', c', rfl, N'⟩ := own_of hown (cat_byte _ N.out.own.byte R.out.byte) (Nat.le_trans N.out.own.low hb.size)
      rw [ob_own] at hgrow
      rw [ob_own, ob_own] at hat
      rw [el]
      refine k p' g' c' w' _ (Lib.hid rfl) (Lib.hid ⟨N.out.mem.keeps N.out.nb hb fun q cc T hT hq => ?_, ?_, N.out.nb⟩) (Lib.hid hgrow) (Lib.hid fun j ej => ?_)
      · rw [hgrow.block q (heap_lt hq) (fun e => ?_)]
        · exact hq
        · obtain ⟨_, h1⟩ := N.out.own.own
          rcases h1 with ⟨h1, _⟩ | ⟨g1, cap, cur, h1, _, h3, _⟩
          · injection h1 with h1; rw [h1] at e; cases e
          · injection h1 with h1
            rw [h1] at e
            have e2 : q = g1 := by simpa [ob] using e
            rw [e2, h3] at hq
            injection hq with hq
            injection hq with _ hq _
            exact hT hq.symm
      · rw [← el]
        refine N'.to (fun i hi => ?_) (lf_lt hB)
        rw [← lf_cat]
        unfold cat
        split
        · rfl
        · rw [lf_tl y (by omega)]
      · rcases hat with hat | hat
        · exact .inl (by rw [← hat]; exact ej)
        · rw [hat] at ej
          injection ej with ej
          exact .inr (by omega)
theorem wpList_wbl (hw : Region.wanted op (yielded ops a.tmps) = true) (s t : Operand) (ho : op.op = .call { callee := .builtin .append, args := #[s, t], argTypes := #[22, 22] }) (N : Hid (Wb w0 l p g c xs w)) {n : Nat} (hs : a.eval s = .slice p n c) (hn : n = xs.length)
    {q : Option Addr} {h o m d : Nat} {y : Nat → Nat} (ht : a.eval t = .slice q m d) (R : Hid (Row w q h o m d y)) (hlen : n + m ≤ 140737488355328)
    (k : ∀ p' g' c' w' zs, Hid (zs = xs ++ tl y m) → Hid (Wb w0 l p' g' c' zs w') → Hid (w.grownBy w' (ob p)) → Hid (Lies w (ob p) (ob p')) → wpList Try.prog ops Q rest (a.put op.dst (.slice p' zs.length c')) w') : wpList Try.prog ops Q (op :: rest) a w :=
  BigFrame.wpList_want hw fun _ hK => mo_wbl s t ho N hs hn ht R hlen fun p' g' c' w' zs e N' h1 h2 => hK _ _ (k p' g' c' w' zs e N' h1 h2)
end
/-- A region that draws its order: what a draw keeps holds at its head. -/
theorem wp_region_T {P : Program} {ops : Array Oper} {Q : Exit → Act → World → Prop} {Φ S : World → Prop} {w : World} {id : Nat} {a : Act} (hT : Hid (Φ w)) (hd : ∀ w, Φ w → Φ w.drew) (hS : ∀ w, Φ w → S w) (hm : P.follows .mixedOrders = true)
    (h : ∀ w', Hid (Φ w') → Hid (S w') → wpAnyH P .any ops Q S ops.size (Array.replicate ops.size false) a w') : (Code.region id ops true).wp P Q a w :=
  wp_region_held hm (h _ (hd _ hT.out) (hS _ (hd _ hT.out)))
end Go.Proofs.Ytlbbnaihhagfdaa
