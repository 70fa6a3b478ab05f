/- A frame reader in memory: its two boxes and its bytes; what may turn beside them. -/
import Derived.Test.YtkjcljobcidhfaaDoorGc
import Derived.Test.YtkjcljobcidhfaaDoorBs
import Derived.Deep.AppendLies
import Derived.StillTailTactics
set_option linter.unusedSimpArgs false
set_option linter.unusedVariables false
set_option maxRecDepth 100000
namespace Go.Proofs.YtkjcljobcidhfaaDoor
open Go.RowKit Go.Lib Go.Sort

/-- The block of a row's bytes, if there is one. -/
def ob (p : Option Addr) : Option Nat := p.map (·.block)
theorem ob_own (p : Option Addr) (n c : Nat) : (Value.slice p n c).ownBlock = ob p := by cases p <;> rfl
/-- Of all blocks that w had only bs, and o's, may have turned. -/
structure Fr (bs : Nat) (o : Option Nat) (w w' : World) : Prop where
  os : w'.os = w.os
  tape : w'.tape = w.tape
  output : w'.output = w.output
  size : w.heap.size ≤ w'.heap.size
  block : ∀ k, k < w.heap.size → k ≠ bs → some k ≠ o → w'.heap[k]? = w.heap[k]?
/-- A row is where it was, or in a new block. -/
def Lies (w : World) (o o' : Option Nat) : Prop := ∀ k, o' = some k → o = some k ∨ w.heap.size ≤ k
section
variable {bs : Nat} {o o' o2 : Option Nat} {w w1 w2 D : World}
theorem Fr.refl (bs : Nat) (o : Option Nat) (w : World) : Fr bs o w w := ⟨rfl, rfl, rfl, Nat.le_refl _, fun _ _ _ _ => rfl⟩
theorem Fr.trans (h : Fr bs o w w1) (k : Fr bs o' w1 w2) (hl : Lies w o o') : Fr bs o w w2 :=
  ⟨k.os.trans h.os, k.tape.trans h.tape, k.output.trans h.output, Nat.le_trans h.size k.size, fun i hi hb ho => (k.block i (Nat.lt_of_lt_of_le hi h.size) hb (fun e => by
    rcases hl i e.symm with q | q
    · exact ho q.symm
    · omega)).trans (h.block i hi hb ho)⟩
theorem Fr.same (h : Fr bs o w w1) (k : Fr bs o w1 w2) : Fr bs o w w2 := h.trans k fun _ e => .inl e
theorem Lies.refl (w : World) (o : Option Nat) : Lies w o o := fun _ e => .inl e
theorem Lies.trans (h : Lies w o o') (k : Lies w1 o' o2) (hs : w.heap.size ≤ w1.heap.size) : Lies w o o2 := fun i e => by
  rcases k i e with q | q
  · exact h i q
  · exact .inr (by omega)
theorem Fr.below (h : Below w.heap.size w w1) : Fr bs o w w1 := ⟨h.os, h.tape, h.output, h.size, fun k hk _ _ => h.block k hk⟩
theorem Fr.drew (h : Fr bs o w w1) : Fr bs o w w1.drew := ⟨h.os, h.tape, h.output, h.size, h.block⟩
theorem Fr.grown (h : w.grownBy w1 o) : Fr bs o w w1 := ⟨h.os, h.tape, h.output, h.size, fun k hk _ ho => h.block k hk ho⟩
theorem Fr.set (h : Fr bs o w w1) (j : Nat) (v : Value) : Fr bs o w (w1.setCell ⟨bs, j, none⟩ v) :=
  ⟨h.os, h.tape, h.output, by simpa [World.setCell] using h.size, fun k hk hb ho => (Below.heap_setCell _ _ _ _ (by simpa using hb)).trans (h.block k hk hb ho)⟩
theorem Fr.under {B : Nat} (h : Fr bs o w w1) (hb : B ≤ bs) (ho : ∀ k, o = some k → B ≤ k) (hs : B ≤ w.heap.size) : Below B w w1 :=
  ⟨h.os, h.tape, h.output, h.size, fun k hk => h.block k (by omega) (by omega) (fun e => by have := ho k e.symm; omega)⟩
end
section
variable {w0 w : World} {l : List (Nat × TypeId × Array Value)} {p : Option Addr} {g c : Nat} {xs : List Nat}
theorem Wb.setc (K : Wb w0 l p g c xs w) {i b T j : Nat} {cs cs' : Array Value} {v : Value} (hi : l[i]? = some (b, T, cs)) (e : cs.setIfInBounds j v = cs') : Wb w0 (l.set i (b, T, cs')) p g c xs (w.setCell ⟨b, j, Option.none⟩ v) := by
  have H := (Holds.start (K.mem.has _ (List.mem_of_getElem? hi))).set e
  exact K.turn hi H.here H.only
theorem Wb.drew (K : Wb w0 l p g c xs w) : Wb w0 l p g c xs w.drew := K.call ⟨rfl, rfl, rfl, Nat.le_refl _, fun _ _ => rfl⟩
end
/-- Blocks of another type than T are as they were. -/
structure KeepT (T : TypeId) (w w' : World) : Prop where
  keep : ∀ (q : Nat) (cc : Array Value) (T' : TypeId), T' ≠ T → w.heap[q]? = some (.cells cc T' (0, 0)) → w'.heap[q]? = some (.cells cc T' (0, 0))
  size : w.heap.size ≤ w'.heap.size
theorem KeepT.of_below {w w' : World} (T : TypeId) (h : Below w.heap.size w w') : KeepT T w w' := ⟨fun q cc T' _ hq => by rw [h.block _ (heap_lt hq)]; exact hq, h.size⟩
theorem KeepT.of_grown {w w' : World} {T k B : Nat} {p : Option Addr} {g n c : Nat} {V : Nat → Value} (N : VOwn T k B w p g n c V) (hg : w.grownBy w' ((Value.slice p n c).ownBlock)) : KeepT T w w' := ⟨fun q cc T' hT hq => N.other hg hT hq, hg.size⟩
theorem KeepT.of_only {w w' : World} {b T : Nat} {cs : Array Value} (hb : w.heap[b]? = some (.cells cs T (0, 0))) (h : Only b w w') : KeepT T w w' := ⟨fun q cc T' hT hq => h.heap (fun e => by
  rw [e, hb] at hq
  injection hq with hq
  injection hq with _ hq _
  exact hT hq.symm) hq, h.size⟩
theorem ownsRow_keep {w w' : World} {base : Nat} {e T : TypeId} {size : Nat} {v : Value} {n : Nat} {xs : List Value} (h : w.ownsRow base e size v n xs) (k : KeepT T w w') (hT : e ≠ T) : w'.ownsRow base e size v n xs := by
  refine ⟨h.1, ?_⟩
  rcases h.2 with hn | ⟨g, cap, cur, rfl, hb, hgg, rest⟩
  · exact .inl hn
  · exact .inr ⟨g, cap, cur, rfl, hb, k.keep g cur e hT hgg, rest⟩
def TextOwn (B : Nat) (w : World) (v : Value) (t : List Nat) : Prop := ∃ p g c, v = .slice p t.length c ∧ t.length ≤ 140737488351232 ∧ Own B w p g t.length c (lf t)
section
variable {ops : Array Oper} {rest : List Oper} {Q : Exit → Act → World → Prop} {op : Oper} {a : Act} {w w0 : World} {l : List (Nat × TypeId × Array Value)} {g c : Nat} {p : Option Addr} {xs : List Nat} {K : Act → World → Prop}
/-- One cell, stored. -/
theorem mo_setc {b j T : Nat} {cs : Array Value} {v u : Value} (hg : w.heap[b]? = some (.cells cs T (0, 0))) (ty : TypeId) (x y : Operand) (ho : op.op = .store ty x y) (hx : a.eval x = .pointer (some ⟨b, j, none⟩)) (hy : a.eval y = v) (hs : (Tryd.prog.info? ty).map (·.size) = some 1) (h1 : v.cells = #[v]) (h2 : v.oneCell' = true) (hu : cs[j]? = some u)
    (h : K (a.put op.dst undef) (w.setCell ⟨b, j, none⟩ v)) : op.wp Tryd.prog a w K Q := by
  unfold Oper.wp execOp
  simp only [ho, hx, hy, Sem.run_bind, Sem.run_pure, run_store_one hs h1 h2 (cell_of_here hg j hu) (free_of_here hg j), Result.andThen_ok]
  exact h
theorem wpList_setc {b j T : Nat} {cs : Array Value} {v u : Value} (hg : w.heap[b]? = some (.cells cs T (0, 0))) (hgd : op.guard = none) (ty : TypeId) (x y : Operand) (ho : op.op = .store ty x y) (hx : a.eval x = .pointer (some ⟨b, j, none⟩)) (hy : a.eval y = v) (hs : (Tryd.prog.info? ty).map (·.size) = some 1) (h1 : v.cells = #[v]) (h2 : v.oneCell' = true) (hu : cs[j]? = some u)
    (h : wpList Tryd.prog ops Q rest (a.put op.dst undef) (w.setCell ⟨b, j, none⟩ v)) : wpList Tryd.prog ops Q (op :: rest) a w :=
  wpList_plain hgd fun _ hK => mo_setc hg ty x y ho hx hy hs h1 h2 hu (hK _ _ h)
/-- An append; where the row then lies. -/
theorem mo_wbl (s t : Operand) (ho : op.op = .call { callee := .builtin .append, args := #[s, t], argTypes := #[26, 26] }) (N : Hid (Wb w0 l p g c xs w)) {n : Nat} (hs : a.eval s = .slice p n c) (hn : n = xs.length)
    {q : Option Addr} {h o m d : Nat} {y : Nat → Nat} (ht : a.eval t = .slice q m d) (R : Hid (Row w q h o m d y)) (hlen : n + m ≤ 140737488355328)
    (k : ∀ p' g' c' w' zs, Hid (zs = xs ++ tl y m) → Hid (Wb w0 l p' g' c' zs w') → Hid (w.grownBy w' (ob p)) → Hid (Lies w (ob p) (ob p')) → K (a.put op.dst (.slice p' zs.length c')) w') : op.wp Tryd.prog a w K Q := by
  subst hn
  have hB : IsB (xs ++ tl y m) := (isB_own N.out.own).append (isB_tl R.out.byte m)
  have el : xs.length + m = (xs ++ tl y m).length := by rw [List.length_append, tl_length]
  obtain ⟨i0, hi, hz0, hz1, hz2⟩ := info_parts infoB
  cases q with
  | none =>
    obtain ⟨rfl, rfl⟩ := R.out.nil rfl
    have hrun := run_append_owned_none (P := Tryd.prog) (w := w) w0.heap.size 26 op.type 5 i0 1 Tryd.underlying26 hi _ xs.length _ N.out.own.own
    have e0 : xs ++ tl y 0 = xs := by simp [tl]
    refine mo_known (.slice p xs.length c) w ?_ (k p g c w xs (Lib.hid e0.symm) N (Lib.hid (World.grownBy.refl _ _)) (Lib.hid (Lies.refl _ _)))
    simp [execOp, ho, resolve, invoke, builtin, hs, ht, hrun, Result.andThen]
  | some ad =>
    obtain ⟨v', w', hr, hown, hgrow, _, hat⟩ := run_append_own_at (P := Tryd.prog) w w0.heap.size 26 op.type 5 i0 (.int .u8 0) 1 1 Tryd.underlying26 hi hz0 hz1 hz2 rfl (by decide) _ _ _ N.out.own.own ad m d (fbs y m) (by rw [fbs_length]; omega) (fun j u hu => by
      obtain ⟨hj, rfl⟩ := fbs_get _ _ _ _ hu
      obtain rfl := Option.some.inj (R.out.head (by omega))
      rw [row_add]
      exact R.out.cell j hj) (fbs_one y m) (by unfold maxLen; omega) (by omega) N.out.own.low
    refine mo_known v' w' ?_ ?_
    · simp [execOp, ho, resolve, invoke, builtin, hs, ht, hr, Result.andThen]
    · rw [fbs_cat] at hown
      have hb : Below w0.heap.size w w' := (Below.refl _ _).grown hgrow N.out.own.low fun k hk => (World.ownsRow.lt N.out.own.own k hk).1
      obtain ⟨p', g', c', rfl, N'⟩ := own_of hown (cat_byte _ N.out.own.byte R.out.byte) (Nat.le_trans N.out.own.low hb.size)
      rw [ob_own] at hgrow
      rw [ob_own, ob_own] at hat
      rw [el]
      refine k p' g' c' w' _ (Lib.hid rfl) (Lib.hid ⟨N.out.mem.keeps N.out.nb hb fun q cc T hT hq => ?_, ?_, N.out.nb⟩) (Lib.hid hgrow) (Lib.hid fun j ej => ?_)
      · rw [hgrow.block q (heap_lt hq) (fun e => ?_)]
        · exact hq
        · obtain ⟨_, h1⟩ := N.out.own.own
          rcases h1 with ⟨h1, _⟩ | ⟨g1, cap, cur, h1, _, h3, _⟩
          · injection h1 with h1; rw [h1] at e; cases e
          · injection h1 with h1
            rw [h1] at e
            have e2 : q = g1 := by simpa [ob] using e
            rw [e2, h3] at hq
            injection hq with hq
            injection hq with _ hq _
            exact hT hq.symm
      · rw [← el]
        refine N'.to (fun i hi => ?_) (lf_lt hB)
        rw [← lf_cat]
        unfold cat
        split
        · rfl
        · rw [lf_tl y (by omega)]
      · rcases hat with hat | hat
        · exact .inl (by rw [← hat]; exact ej)
        · rw [hat] at ej
          injection ej with ej
          exact .inr (by omega)
theorem wpList_wbl (hw : Region.wanted op (yielded ops a.tmps) = true) (s t : Operand) (ho : op.op = .call { callee := .builtin .append, args := #[s, t], argTypes := #[26, 26] }) (N : Hid (Wb w0 l p g c xs w)) {n : Nat} (hs : a.eval s = .slice p n c) (hn : n = xs.length)
    {q : Option Addr} {h o m d : Nat} {y : Nat → Nat} (ht : a.eval t = .slice q m d) (R : Hid (Row w q h o m d y)) (hlen : n + m ≤ 140737488355328)
    (k : ∀ p' g' c' w' zs, Hid (zs = xs ++ tl y m) → Hid (Wb w0 l p' g' c' zs w') → Hid (w.grownBy w' (ob p)) → Hid (Lies w (ob p) (ob p')) → wpList Tryd.prog ops Q rest (a.put op.dst (.slice p' zs.length c')) w') : wpList Tryd.prog ops Q (op :: rest) a w :=
  BigFrame.wpList_want hw fun _ hK => mo_wbl s t ho N hs hn ht R hlen fun p' g' c' w' zs e N' h1 h2 => hK _ _ (k p' g' c' w' zs e N' h1 h2)
end
/-- A reader's boxes, whatever the first field holds, and a row of bytes of the call's own. -/
def Fq (D : World) (br bu : Nat) (v : Value) (er : Int) (p : Option Addr) (g c : Nat) (xs : List Nat) (w : World) : Prop :=
  Wb D [(br, 53, #[.pointer (some ⟨bu, 0, none⟩)]), (bu, 51, #[v, .int .i64 er])] p g c xs w
/-- A reader whose first field is its row. -/
abbrev Fp (D : World) (br bu : Nat) (er : Int) (p : Option Addr) (g c : Nat) (xs : List Nat) (w : World) : Prop := Fq D br bu (.slice p xs.length c) er p g c xs w
section
variable {D w w' : World} {br bu : Nat} {v u : Value} {er x : Int} {p : Option Addr} {g c : Nat} {xs : List Nat}
theorem Fq.cR (T : Fq D br bu v er p g c xs w) : w.heap[br]? = some (.cells #[.pointer (some ⟨bu, 0, none⟩)] 53 (0, 0)) := T.mem.get List.mem_cons_self
theorem Fq.cU (T : Fq D br bu v er p g c xs w) : w.heap[bu]? = some (.cells #[v, .int .i64 er] 51 (0, 0)) := T.mem.get (List.mem_cons_of_mem _ List.mem_cons_self)
theorem Fq.call (T : Fq D br bu v er p g c xs w) (h : Below w.heap.size w w') : Fq D br bu v er p g c xs w' := Wb.call T h
theorem Fq.set0 (T : Fq D br bu v er p g c xs w) : Fq D br bu u er p g c xs (w.setCell ⟨bu, 0, none⟩ u) := Wb.setc T (i := 1) rfl rfl
theorem Fq.set1 (T : Fq D br bu v er p g c xs w) : Fq D br bu v x p g c xs (w.setCell ⟨bu, 1, none⟩ (.int .i64 x)) := Wb.setc T (i := 1) rfl rfl
theorem Fq.row (T : Fq D br bu v er p g c xs w) : Row w p g 0 xs.length c (lf xs) := T.own.row
theorem Fq.lies (T : Fq D br bu v er p g c xs w) : ∀ j, ob p = some j → D.heap.size ≤ j ∧ j < w.heap.size := fun j e => World.ownsRow.lt T.own.own j (by rw [ob_own]; exact e)
theorem Fq.geb (T : Fq D br bu v er p g c xs w) : D.heap.size ≤ bu ∧ D.heap.size ≤ br := ⟨T.mem.ge _ (List.mem_cons_of_mem _ List.mem_cons_self), T.mem.ge _ List.mem_cons_self⟩
theorem Fq.under (T : Fq D br bu v er p g c xs w) (F : Fr bu (ob p) w w') : Below D.heap.size w w' := F.under T.geb.1 (fun j e => (T.lies j e).1) T.mem.below.size
theorem Fq.under0 (T : Fq D br bu v er p g c xs w) : Below D.heap.size D w := T.mem.below
theorem Fq.keep {T0 : TypeId} (T : Fq D br bu v er p g c xs w) (hb : Below D.heap.size w w') (k : KeepT T0 w w') (h1 : (5 : TypeId) ≠ T0) (h2 : 53 ≠ T0) (h3 : 51 ≠ T0) : Fq D br bu v er p g c xs w' :=
  ⟨⟨T.mem.below.trans hb, fun q hq => k.keep _ _ _ (by
      rcases List.mem_cons.1 hq with rfl | hq
      · exact h2
      · obtain rfl := List.mem_singleton.1 hq; exact h3) (T.mem.has q hq), T.mem.nd, T.mem.ge⟩, ⟨ownsRow_keep T.own.own k h1, T.own.spot, T.own.byte, Nat.le_trans T.own.low k.size⟩, T.nb⟩
theorem VOwn.keep {T T' k' B : Nat} {p : Option Addr} {g n c : Nat} {V : Nat → Value} (h : VOwn T' k' B w p g n c V) (k : KeepT T w w') (hT : T' ≠ T) : VOwn T' k' B w' p g n c V := ⟨ownsRow_keep h.own k hT, h.spot, h.one, Nat.le_trans h.low k.size⟩
theorem TextOwn.keep {T : TypeId} {t : List Nat} {B : Nat} (h : TextOwn B w v t) (k : KeepT T w w') (hT : (5 : TypeId) ≠ T) : TextOwn B w' v t := by
  obtain ⟨p, g, c, rfl, hl, N⟩ := h
  exact ⟨p, g, c, rfl, hl, ⟨ownsRow_keep N.own k hT, N.spot, N.byte, Nat.le_trans N.low k.size⟩⟩
theorem TextOwn.below {t : List Nat} {B : Nat} (h : TextOwn B w v t) (hb : Below w.heap.size w w') : TextOwn B w' v t := by
  obtain ⟨p, g, c, rfl, hl, N⟩ := h
  exact ⟨p, g, c, rfl, hl, N.below hb⟩
theorem TextOwn.mono {t : List Nat} {B B' : Nat} (h : TextOwn B w v t) (hB : B' ≤ B) : TextOwn B' w v t := by
  obtain ⟨p, g, c, rfl, hl, N⟩ := h
  exact ⟨p, g, c, rfl, hl, N.mono hB⟩
theorem KeepT.trans {T : TypeId} {w1 w2 w3 : World} (h : KeepT T w1 w2) (k : KeepT T w2 w3) : KeepT T w1 w3 := ⟨fun q cc T' hT hq => k.keep q cc T' hT (h.keep q cc T' hT hq), Nat.le_trans h.size k.size⟩
theorem only_set (b j : Nat) (v : Value) : Only b w (w.setCell ⟨b, j, none⟩ v) := (Only.refl b w).setCell ⟨b, j, none⟩ rfl v
end
/-- A reader was turned; its row lies where it was, or is new. -/
def Turns (D : World) (br bu : Nat) (er : Int) (p : Option Addr) (xs : List Nat) (w w' : World) : Prop := ∃ p' g' c', Fp D br bu er p' g' c' xs w' ∧ Fr bu (ob p) w w' ∧ Lies w (ob p) (ob p')
set_option maxHeartbeats 2000000 in
theorem made_any {w : World} {br bu : Nat} (hb : w.heap[br]? = some (.cells #[.pointer (some ⟨bu, 0, none⟩)] 53 (0, 0))) : Calls Tryd.prog 16 #[.pointer (some ⟨br, 0, none⟩)] w fun e w' => e = .returned (.bool true) ∧ w = w' := by
  have c0 := cell_of_here hb 0 (v := .pointer (some ⟨bu, 0, none⟩)) rfl
  clear hb
  go_enter Tryd.func16, Tryd.ntmps16
  go_wp2
  go_ret
  exact ⟨rfl, rfl⟩
set_option maxHeartbeats 2000000 in
theorem left_any {D w : World} {br bu : Nat} {er : Int} {q p : Option Addr} {n c2 g c : Nat} {xs : List Nat} (T : Fq D br bu (.slice q n c2) er p g c xs w) : Calls Tryd.prog 13 #[.pointer (some ⟨br, 0, none⟩)] w fun e w' => e = .returned (.int .i64 (n : Int)) ∧ w = w' := by
  have M := Lib.hid (made_any T.cR)
  have c0 := cell_of_here T.cR 0 (v := .pointer (some ⟨bu, 0, none⟩)) rfl
  have c1 := cell_of_here T.cU 0 (v := .slice q n c2) rfl
  clear T
  go_enter Tryd.func13, Tryd.ntmps13
  go_wp2_with (go_at_call 16; refine M.out.mono ?_; rintro e w2 ⟨rfl, rfl⟩)
  go_ret
  exact ⟨rfl, rfl⟩
set_option maxHeartbeats 2000000 in
theorem add_any {D w : World} {br bu : Nat} {er : Int} {p q : Option Addr} {g c h o m d : Nat} {xs : List Nat} {y : Nat → Nat} (T : Hid (Fp D br bu er p g c xs w)) (R : Hid (Row w q h o m d y)) (hl : xs.length + m ≤ 140737488355328) :
    Calls Tryd.prog 17 #[.pointer (some ⟨bu, 0, none⟩), .slice q m d] w fun e w' => e = .returned (.tuple #[]) ∧ Turns D br bu er p (xs ++ tl y m) w w' := by
  have hl' := Lib.hid hl
  clear hl
  have c1 := Lib.hid (cell_of_here T.out.cU 0 (v := .slice p xs.length c) rfl)
  obtain ⟨n, hn⟩ : ∃ n, n = xs.length := ⟨_, rfl⟩
  have HN := Lib.hid hn
  have T' := T
  rw [← hn] at c1
  clear hn
  go_enter Tryd.func17, Tryd.ntmps17
  go_wp2_with (first
    | ((with_reducible refine wpList_at 8 rfl ?_); refine wpList_ld1 26 (.tmp 7) rfl rfl rfl Tryd.underlying26 rfl c1.out ?_)
    | ((with_reducible refine wpList_at 10 rfl ?_); refine wpList_wbl rfl (.tmp 8) (.tmp 9) rfl T rfl HN.out rfl R (by have := hl'.out; have := HN.out; omega) ?_; intro p' g' c' w' zs Z K G L)
    | ((with_reducible refine wpList_atn rfl ?_); refine wpList_setc (Fq.cU K.out) rfl 26 (.tmp 12) (.tmp 10) rfl rfl rfl (by kernel_rfl) rfl rfl rfl ?_))
  go_end0
  refine ⟨rfl, p', g', c', ?_, (Fr.grown G.out).set 0 _, L.out⟩
  rw [← Z.out]
  exact Fq.set0 K.out
set_option maxHeartbeats 2000000 in
theorem fail_any {D w : World} {br bu : Nat} {er : Int} {p : Option Addr} {g c : Nat} {xs : List Nat} {v : Value} (T : Hid (Fq D br bu v er p g c xs w)) (e : Int) :
    Calls Tryd.prog 19 #[.pointer (some ⟨bu, 0, none⟩), .int .i64 e] w fun en w' => en = .returned (.tuple #[]) ∧ Turns D br bu e p [] w w' ∧ KeepT 51 w w' := by
  go_enter Tryd.func19, Tryd.ntmps19
  go_wp2_with (first
    | ((with_reducible refine wpList_atn rfl ?_); refine wpList_setc (T.out.cU) rfl 26 (.tmp 8) (.const (.slice none 0 0)) rfl rfl rfl (by kernel_rfl) rfl rfl rfl ?_)
    | ((with_reducible refine wpList_atn rfl ?_); refine wpList_setc (Fq.cU (Fq.set0 T.out)) rfl 27 (.tmp 10) (.tmp 6) rfl rfl rfl (by kernel_rfl) rfl rfl rfl ?_))
  go_end0
  refine ⟨rfl, ⟨none, 0, 0, ?_, ((Fr.refl bu (ob p) w).set 0 _).set 1 _, fun k hk => by cases hk⟩, (KeepT.of_only T.out.cU (only_set _ _ _)).trans (KeepT.of_only (Fq.cU (Fq.set0 T.out)) (only_set _ _ _))⟩
  have K := (T.out.set0 (u := .slice none 0 0)).set1 (x := e)
  exact ⟨K.mem, own_nothing _ _ _ (lf_lt isB_nil) K.mem.below.size, K.nb⟩
end Go.Proofs.YtkjcljobcidhfaaDoor
