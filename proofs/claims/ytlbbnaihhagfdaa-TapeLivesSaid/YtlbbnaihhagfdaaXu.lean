/- A pair of tapes, one of the program and one of the document, kept through each other's calls; whether they have the same. -/
import Derived.Test.YtlbbnaihhagfdaaXt
import Derived.Test.YtlbbnaihhagfdaaLt
import Derived.Laws.BitsAllLaws
set_option linter.unusedSimpArgs false
set_option linter.unusedVariables false
set_option maxRecDepth 100000
namespace Go.Proofs.Ytlbbnaihhagfdaa
open Go.RowKit Go.Lib Go.Sort

set_option maxHeartbeats 8000000
section
variable {D w w' w1 w2 : World} {bt bs bx : Nat} {t t' : St} {p p2 : Option Addr} {g c g2 c2 : Nat} {xs : List Nat} {v : Value} {s r r2 u k : Int} {f : Bool}
theorem own_cells {B n : Nat} {x : Nat → Nat} (N : Own B w p g n c x) {j : Nat} (e : ob p = some j) : ∃ cs, w.heap[j]? = some (.cells cs 5 (0, 0)) := by
  rcases N.own.2 with ⟨h1, _⟩ | ⟨g', cap, cur, h1, _, hg, _⟩
  · injection h1 with h1; rw [h1] at e; cases e
  · injection h1 with h1
    rw [h1] at e
    have e2 : g' = j := by simpa [ob] using e
    exact ⟨cur, by rw [← e2]; exact hg⟩
theorem own_keep {B n : Nat} {x : Nat → Nat} (N : Own B w p g n c x) (hs : w.heap.size ≤ w'.heap.size) (hk : ∀ j, ob p = some j → w'.heap[j]? = w.heap[j]?) : Own B w' p g n c x := by
  refine ⟨⟨N.own.1, ?_⟩, N.spot, N.byte, Nat.le_trans N.low hs⟩
  rcases N.own.2 with h | ⟨g', cap, cur, h1, h2, hg, h3⟩
  · exact .inl h
  · refine .inr ⟨g', cap, cur, h1, h2, ?_, h3⟩
    injection h1 with h1
    rw [hk g' (by rw [h1]; rfl)]
    exact hg
theorem wb_keep {w0 : World} {l : List (Nat × TypeId × Array Value)} (K : Wb w0 l p g c xs w) (hb : Below w0.heap.size w w') (hl : ∀ q, q ∈ l → w'.heap[q.1]? = w.heap[q.1]?) (ho : ∀ j, ob p = some j → w'.heap[j]? = w.heap[j]?) : Wb w0 l p g c xs w' :=
  ⟨⟨K.mem.below.trans hb, fun q hq => by rw [hl q hq]; exact K.mem.has q hq, K.mem.nd, K.mem.ge⟩, own_keep K.own hb.size ho, K.nb⟩
theorem type_ne {a b T T' : Nat} {cs cs' : Array Value} (ha : w.heap[a]? = some (.cells cs T (0, 0))) (hb : w.heap[b]? = some (.cells cs' T' (0, 0))) (h : T ≠ T') : a ≠ b := fun e => by
  subst e
  rw [ha] at hb
  injection hb with hb
  injection hb with _ hb _
  exact h hb
theorem t_step (T : TS D bt bs t p g c w) (X : Xq D bx v s r u p2 g2 c2 xs w) (ap : ∀ j, ob p = some j → ob p2 ≠ some j) (h : TT D bt bs t' p w w') : ∃ p' g' c', TS D bt bs t' p' g' c' w' ∧ Xq D bx v s r u p2 g2 c2 xs w' ∧ (∀ j, ob p' = some j → ob p2 ≠ some j) ∧ Fr bs (ob p) w w' ∧ Lies w (ob p) (ob p') := by
  obtain ⟨p', g', c', T', F, L⟩ := h
  refine ⟨p', g', c', T', ?_, fun j e e2 => ?_, F, L⟩
  · refine wb_keep X (T.under F) (fun q hq => ?_) (fun j e => ?_)
    · obtain rfl : q = _ := by simpa using hq
      refine F.block _ (heap_lt X.cX) (type_ne X.cX T.cS (by decide)) (fun e => ?_)
      obtain ⟨cs, hc⟩ := own_cells T.own e.symm
      exact type_ne X.cX hc (by decide) rfl
    · obtain ⟨cs, hc⟩ := own_cells X.own e
      exact F.block _ (heap_lt hc) (type_ne hc T.cS (by decide)) (fun e2 => ap _ e2.symm e)
  · rcases L j e with q | q
    · exact ap j q e2
    · have := (X.lies j e2).2; omega
theorem x_step (T : Tq D bt bs v s r f k p g c xs w) (X : XS D bx t p2 g2 c2 w) (ap : ∀ j, ob p = some j → ob p2 ≠ some j) (h : XT D bx t' p2 w w') : ∃ p' g' c', XS D bx t' p' g' c' w' ∧ Tq D bt bs v s r f k p g c xs w' ∧ (∀ j, ob p = some j → ob p' ≠ some j) ∧ Fr bx none w w' ∧ Lies w (ob p2) (ob p') := by
  obtain ⟨p', g', c', X', F, L⟩ := h
  have hB : Below D.heap.size w w' := F.under X.geb (fun j e => by cases e) X.mem.below.size
  refine ⟨p', g', c', X', ?_, fun j e e2 => ?_, F, L⟩
  · refine wb_keep T hB (fun q hq => ?_) (fun j e => ?_)
    · have hq2 : q = (bt, 53, #[.pointer (some ⟨bs, 0, none⟩)]) ∨ q = (bs, 59, #[v, .int .i64 s, .int .i64 r, .bool f, .int .i64 k]) := by simpa using hq
      rcases hq2 with rfl | rfl
      · exact F.block _ (heap_lt T.cT) (type_ne T.cT X.cX (by decide)) (by simp)
      · exact F.block _ (heap_lt T.cS) (type_ne T.cS X.cX (by decide)) (by simp)
    · obtain ⟨cs, hc⟩ := own_cells T.own e
      exact F.block _ (heap_lt hc) (type_ne hc X.cX (by decide)) (by simp)
  · rcases L j e2 with q | q
    · exact ap j e q
    · have := (T.lies j e).2; omega
end
/-- Where a pair of tapes lies. -/
structure Ad where
  bt : Nat
  bs : Nat
  bx : Nat
  p : Option Addr
  g : Nat
  c : Nat
  p2 : Option Addr
  g2 : Nat
  c2 : Nat
def Ad.blk (a : Ad) (k : Nat) : Prop := k = a.bt ∨ k = a.bs ∨ k = a.bx ∨ ob a.p = some k ∨ ob a.p2 = some k
/-- A pair of tapes in one state. -/
structure Jo (D : World) (a : Ad) (t : St) (w : World) : Prop where
  T : TS D a.bt a.bs t a.p a.g a.c w
  X : XS D a.bx t a.p2 a.g2 a.c2 w
  ap : ∀ k, ob a.p = some k → ob a.p2 ≠ some k
  ok : t.Ok
/-- Of all blocks that w had only those of S may have turned. -/
structure Chg (S : Nat → Prop) (w w' : World) : Prop where
  os : w'.os = w.os
  tape : w'.tape = w.tape
  output : w'.output = w.output
  size : w.heap.size ≤ w'.heap.size
  block : ∀ k, k < w.heap.size → ¬ S k → w'.heap[k]? = w.heap[k]?
structure Mv (a a' : Ad) (w w' : World) : Prop where
  chg : Chg a.blk w w'
  new : ∀ k, a'.blk k → a.blk k ∨ w.heap.size ≤ k
  bt : a'.bt = a.bt
  bs : a'.bs = a.bs
  bx : a'.bx = a.bx
section
variable {D w w1 w2 : World} {a a' : Ad} {t : St} {S S' : Nat → Prop}
theorem Chg.refl (S : Nat → Prop) (w : World) : Chg S w w := ⟨rfl, rfl, rfl, Nat.le_refl _, fun _ _ _ => rfl⟩
theorem Chg.trans (h : Chg S w w1) (k : Chg S' w1 w2) (hs : ∀ j, j < w.heap.size → S' j → S j) : Chg S w w2 :=
  ⟨k.os.trans h.os, k.tape.trans h.tape, k.output.trans h.output, Nat.le_trans h.size k.size, fun i hi hn => (k.block i (Nat.lt_of_lt_of_le hi h.size) (fun e => hn (hs i hi e))).trans (h.block i hi hn)⟩
theorem Chg.below (h : Below w.heap.size w w1) : Chg S w w1 := ⟨h.os, h.tape, h.output, h.size, fun k hk _ => h.block k hk⟩
theorem Chg.fr {bs : Nat} {o : Option Nat} (h : Fr bs o w w1) : Chg (fun k => k = bs ∨ some k = o) w w1 := ⟨h.os, h.tape, h.output, h.size, fun k hk hn => h.block k hk (fun e => hn (.inl e)) (fun e => hn (.inr e))⟩
theorem Jo.blk_lt (J : Jo D a t w) {k : Nat} (h : a.blk k) : k < w.heap.size ∧ D.heap.size ≤ k := by
  rcases h with rfl | rfl | rfl | h | h
  · exact ⟨heap_lt J.T.cT, J.T.geb.2⟩
  · exact ⟨heap_lt J.T.cS, J.T.geb.1⟩
  · exact ⟨heap_lt J.X.cX, J.X.geb⟩
  · exact ⟨(J.T.lies k h).2, (J.T.lies k h).1⟩
  · exact ⟨(J.X.lies k h).2, (J.X.lies k h).1⟩
theorem Jo.call (J : Jo D a t w) (h : Below w.heap.size w w1) : Jo D a t w1 := ⟨J.T.call h, J.X.call h, J.ap, J.ok⟩
/-- A pair stays, where its blocks do. -/
theorem Jo.keep (J : Jo D a t w) (h : Chg S w w1) (hn : ∀ k, a.blk k → ¬ S k) (hD : ∀ k, S k → D.heap.size ≤ k) : Jo D a t w1 := by
  have hb : ∀ k, a.blk k → w1.heap[k]? = w.heap[k]? := fun k hk => h.block k (J.blk_lt hk).1 (hn k hk)
  have hB : Below D.heap.size w w1 := ⟨h.os, h.tape, h.output, h.size, fun k hk => h.block k (Nat.lt_of_lt_of_le hk J.T.mem.below.size) (fun e => by have := hD k e; omega)⟩
  refine ⟨wb_keep J.T hB (fun q hq => hb _ ?_) (fun j e => hb _ (.inr (.inr (.inr (.inl e))))), wb_keep J.X hB (fun q hq => hb _ ?_) (fun j e => hb _ (.inr (.inr (.inr (.inr e))))), J.ap, J.ok⟩
  · have hq2 : q = (a.bt, 53, #[.pointer (some ⟨a.bs, 0, none⟩)]) ∨ q = (a.bs, 59, #[.slice a.p t.xs.length a.c, .int .i64 t.s, .int .i64 t.r, .bool t.f, .int .i64 t.k]) := by simpa using hq
    rcases hq2 with rfl | rfl
    · exact .inl rfl
    · exact .inr (.inl rfl)
  · obtain rfl : q = _ := by simpa using hq
    exact .inr (.inr (.inl rfl))
theorem row_keep {q : Option Addr} {h o m d : Nat} {y : Nat → Nat} (R : Row w q h o m d y) (hk : 0 < m → w1.heap[h]? = w.heap[h]?) : Row w1 q h o m d y :=
  ⟨R.le, R.cap, R.nil, R.head, fun i hi => by
    have hc := R.cell i hi
    rw [World.cell?_of_block (w := w) (hk (by omega))]
    exact hc, R.byte⟩
end
section
variable {D w : World} {bt bs bx : Nat} {p p2 : Option Addr} {g c g2 c2 : Nat} {xs : List Nat} {s r r2 u k : Int} {f : Bool}
theorem same_any (T : Hid (Tp D bt bs s r f k p g c xs w)) (X : Hid (Xp D bx s r2 u p2 g2 c2 xs w)) (hx : xs.length ≤ 140737488355328) : Calls Try.prog 13 #[.pointer (some ⟨bt, 0, none⟩), .pointer (some ⟨bx, 0, none⟩)] w fun e w' => e = .returned (.bool true) ∧ Below w.heap.size w w' := by
  have HX := Lib.hid hx
  clear hx
  go_enter Try.func13, Try.ntmps13
  go_upto_region 1 with fail
  refine wp_region_T (Φ := fun X => Tp D bt bs s r f k p g c xs X ∧ Xp D bx s r2 u p2 g2 c2 xs X ∧ Below w.heap.size w X) (S := fun X => Tp D bt bs s r f k p g c xs X ∧ Xp D bx s r2 u p2 g2 c2 xs X ∧ Below w.heap.size w X) (Lib.hid ⟨T.out, X.out, Below.refl _ _⟩) (fun _ h => ⟨h.1.drew, h.2.1.drew, h.2.2.drew⟩) (fun _ h => h) (by kernel_rfl) ?_
  intro w5 TT S0
  refine hm_run 0 5 (.pointer (some ⟨bt, 0, none⟩)) rfl rfl (by kernel_rfl) (by kernel_rfl) (by kernel_rfl) (fun _ _ _ h => h) rfl (fun _ _ => rfl) S0.out ?_
  try simp only [Act.put, List.getElem_toArray, List.getElem_cons_succ, List.getElem_cons_zero, List.setIfInBounds_toArray, List.set_cons_zero, List.set_cons_succ]
  refine hm_run 2 7 (.pointer (some ⟨bx, 0, none⟩)) rfl rfl (by kernel_rfl) (by kernel_rfl) (by kernel_rfl) (fun _ _ _ h => h) rfl (fun _ _ => rfl) S0.out ?_
  try simp only [Act.put, List.getElem_toArray, List.getElem_cons_succ, List.getElem_cons_zero, List.setIfInBounds_toArray, List.set_cons_zero, List.set_cons_succ]
  refine hm_run 3 8 (.pointer (some ⟨bx, 0, none⟩)) rfl rfl (by kernel_rfl) (by kernel_rfl) (by kernel_rfl) (fun _ _ _ h => h) rfl (fun _ _ => rfl) S0.out ?_
  try simp only [Act.put, List.getElem_toArray, List.getElem_cons_succ, List.getElem_cons_zero, List.setIfInBounds_toArray, List.set_cons_zero, List.set_cons_succ]
  refine hm_run 4 9 (.pointer (some ⟨bx, 0, none⟩)) rfl rfl (by kernel_rfl) (by kernel_rfl) (by kernel_rfl) (fun _ _ _ h => h) rfl (fun _ _ => rfl) S0.out ?_
  try simp only [Act.put, List.getElem_toArray, List.getElem_cons_succ, List.getElem_cons_zero, List.setIfInBounds_toArray, List.set_cons_zero, List.set_cons_succ]
  refine hm_run 5 10 (.slice p2 xs.length c2) rfl rfl (by kernel_rfl) (by kernel_rfl) (by kernel_rfl) (fun _ _ _ h => h) rfl (fun W hW => exec_load rfl (run_load_one Try.underlying22 rfl (cell_of_here hW.2.1.cX 0 rfl))) S0.out ?_
  try simp only [Act.put, List.getElem_toArray, List.getElem_cons_succ, List.getElem_cons_zero, List.setIfInBounds_toArray, List.set_cons_zero, List.set_cons_succ]
  refine hm_one (i := 1) (by kernel_rfl) ?_
  refine hm_step 1 rfl (by kernel_rfl) fun K hK => ?_
  try simp only [Act.put, List.getElem_toArray, List.getElem_cons_succ, List.getElem_cons_zero, List.setIfInBounds_toArray, List.set_cons_zero, List.set_cons_succ]
  go_simp
  go_at_call 21
  refine (bytes_any (Lib.hid S0.out.1) HX.out).mono ?_
  rintro e w6 ⟨p6, g6, c6, rfl, N, hb⟩
  have N6 := Lib.hid N
  have S1_5 := Lib.hid (And.intro (S0.out.1.call hb) (And.intro (S0.out.2.1.call hb) (S0.out.2.2.trans (hb.mono S0.out.2.2.size))))
  clear N hb
  refine hK _ _ S1_5.out ?_
  clear hK K
  try simp only [Act.put, List.getElem_toArray, List.getElem_cons_succ, List.getElem_cons_zero, List.setIfInBounds_toArray, List.set_cons_zero, List.set_cons_succ]
  refine hm_one (i := 6) (by kernel_rfl) ?_
  refine hm_step 6 rfl (by kernel_rfl) fun K hK => ?_
  try simp only [Act.put, List.getElem_toArray, List.getElem_cons_succ, List.getElem_cons_zero, List.setIfInBounds_toArray, List.set_cons_zero, List.set_cons_succ]
  go_simp
  go_at_call 20
  refine (equal_any (Lib.hid N6.out.row) (Lib.hid S1_5.out.2.1.row) rfl (Lib.hid (fun _ _ => rfl))).mono ?_
  rintro e w7 ⟨rfl, rfl⟩
  have S6_6 := S1_5
  refine hK _ _ S6_6.out ?_
  clear hK K
  try simp only [Act.put, List.getElem_toArray, List.getElem_cons_succ, List.getElem_cons_zero, List.setIfInBounds_toArray, List.set_cons_zero, List.set_cons_succ]
  refine hm_run 7 12 (.bool true) rfl rfl (by kernel_rfl) (by kernel_rfl) (by kernel_rfl) (fun _ _ _ h => h) rfl (fun _ _ => rfl) S6_6.out ?_
  try simp only [Act.put, List.getElem_toArray, List.getElem_cons_succ, List.getElem_cons_zero, List.setIfInBounds_toArray, List.set_cons_zero, List.set_cons_succ]
  refine hm_run 8 13 (.pointer (some ⟨bt, 0, none⟩)) rfl rfl (by kernel_rfl) (by kernel_rfl) (by kernel_rfl) (fun _ _ _ h => h) rfl (fun _ _ => rfl) S6_6.out ?_
  try simp only [Act.put, List.getElem_toArray, List.getElem_cons_succ, List.getElem_cons_zero, List.setIfInBounds_toArray, List.set_cons_zero, List.set_cons_succ]
  refine hm_run 10 15 (.pointer (some ⟨bx, 0, none⟩)) rfl rfl (by kernel_rfl) (by kernel_rfl) (by kernel_rfl) (fun _ _ _ h => h) rfl (fun _ _ => rfl) S6_6.out ?_
  try simp only [Act.put, List.getElem_toArray, List.getElem_cons_succ, List.getElem_cons_zero, List.setIfInBounds_toArray, List.set_cons_zero, List.set_cons_succ]
  refine hm_run 11 16 (.pointer (some ⟨bx, 0, none⟩)) rfl rfl (by kernel_rfl) (by kernel_rfl) (by kernel_rfl) (fun _ _ _ h => h) rfl (fun _ _ => rfl) S6_6.out ?_
  try simp only [Act.put, List.getElem_toArray, List.getElem_cons_succ, List.getElem_cons_zero, List.setIfInBounds_toArray, List.set_cons_zero, List.set_cons_succ]
  refine hm_run 12 17 (.pointer (some ⟨bx, 1, none⟩)) rfl rfl (by kernel_rfl) (by kernel_rfl) (by kernel_rfl) (fun _ _ _ h => h) rfl (fun _ _ => rfl) S6_6.out ?_
  try simp only [Act.put, List.getElem_toArray, List.getElem_cons_succ, List.getElem_cons_zero, List.setIfInBounds_toArray, List.set_cons_zero, List.set_cons_succ]
  refine hm_run 13 18 (.int .i64 s) rfl rfl (by kernel_rfl) (by kernel_rfl) (by kernel_rfl) (fun _ _ _ h => h) rfl (fun W hW => exec_load rfl (run_load_one Try.underlying3 rfl (cell_of_here hW.2.1.cX 1 rfl))) S6_6.out ?_
  try simp only [Act.put, List.getElem_toArray, List.getElem_cons_succ, List.getElem_cons_zero, List.setIfInBounds_toArray, List.set_cons_zero, List.set_cons_succ]
  refine hm_one (i := 9) (by kernel_rfl) ?_
  refine hm_step 9 rfl (by kernel_rfl) fun K hK => ?_
  try simp only [Act.put, List.getElem_toArray, List.getElem_cons_succ, List.getElem_cons_zero, List.setIfInBounds_toArray, List.set_cons_zero, List.set_cons_succ]
  go_simp
  go_at_call 18
  refine (synced_any (Lib.hid S6_6.out.1)).mono ?_
  rintro e w8 ⟨rfl, rfl⟩
  have S9_13 := S6_6
  refine hK _ _ S9_13.out ?_
  clear hK K
  try simp only [Act.put, List.getElem_toArray, List.getElem_cons_succ, List.getElem_cons_zero, List.setIfInBounds_toArray, List.set_cons_zero, List.set_cons_succ]
  refine hm_run 14 19 (.bool true) rfl rfl (by kernel_rfl) (by kernel_rfl) (by kernel_rfl) (fun _ _ _ h => h) rfl (fun _ _ => exec_eqli rfl rfl rfl (decide_eq_true rfl)) S9_13.out ?_
  try simp only [Act.put, List.getElem_toArray, List.getElem_cons_succ, List.getElem_cons_zero, List.setIfInBounds_toArray, List.set_cons_zero, List.set_cons_succ]
  refine hm_run 15 20 (.bool true) rfl rfl (by kernel_rfl) (by kernel_rfl) (by kernel_rfl) (fun _ _ _ h => h) rfl (fun _ _ => rfl) S9_13.out ?_
  try simp only [Act.put, List.getElem_toArray, List.getElem_cons_succ, List.getElem_cons_zero, List.setIfInBounds_toArray, List.set_cons_zero, List.set_cons_succ]
  refine hm_run 16 4 (.bool true) rfl rfl (by kernel_rfl) (by kernel_rfl) (by kernel_rfl) (fun _ _ _ h => h) rfl (fun _ _ => rfl) S9_13.out ?_
  try simp only [Act.put, List.getElem_toArray, List.getElem_cons_succ, List.getElem_cons_zero, List.setIfInBounds_toArray, List.set_cons_zero, List.set_cons_succ]
  refine wpAnyH_done (by kernel_rfl) ?_ _
  go_wp2
  go_ret
  exact ⟨rfl, S9_13.out.2.2⟩

end
end Go.Proofs.Ytlbbnaihhagfdaa
