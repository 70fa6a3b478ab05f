/- Both sides' frame readers beside each other: what each leaves of the other. -/
import Derived.Test.YtkjcljobcidhfaaDoorFs
import Derived.Test.YtkjcljobcidhfaaDoorFw
import Derived.Test.YtkjcljobcidhfaaDoorRge
set_option linter.unusedSimpArgs false
set_option linter.unusedVariables false
set_option maxRecDepth 100000
namespace Go.Proofs.YtkjcljobcidhfaaDoor
open Go.RowKit Go.Lib Go.Sort

/-- What lies from a block on stays, but for what is new. -/
structure Up (B : Nat) (w w' : World) : Prop where
  block : ∀ k, B ≤ k → k < w.heap.size → w'.heap[k]? = w.heap[k]?
  size : w.heap.size ≤ w'.heap.size
theorem Up.of_below {B : Nat} {w w' : World} (h : Below w.heap.size w w') : Up B w w' := ⟨fun k _ hk => h.block k hk, h.size⟩
theorem Up.of_fr {B b : Nat} {o : Option Nat} {w w' : World} (F : Fr b o w w') (h1 : b < B) (h2 : ∀ k, o = some k → k < B) : Up B w w' := ⟨fun k hk hs => F.block k hs (by omega) fun e => by have := h2 k e.symm; omega, F.size⟩
theorem Up.trans {B : Nat} {w w1 w' : World} (h : Up B w w1) (k : Up B w1 w') : Up B w w' := ⟨fun i hi hs => (k.block i hi (Nat.lt_of_lt_of_le hs h.size)).trans (h.block i hi hs), Nat.le_trans h.size k.size⟩
theorem ownsRow_up {B : Nat} {w w' : World} {base : Nat} {e : TypeId} {size : Nat} {v : Value} {n : Nat} {xs : List Value} (h : w.ownsRow base e size v n xs) (u : Up B w w') (hB : B ≤ base) : w'.ownsRow base e size v n xs := by
  refine ⟨h.1, ?_⟩
  rcases h.2 with hn | ⟨g, cap, cur, rfl, hb, hgg, rest⟩
  · exact .inl hn
  · exact .inr ⟨g, cap, cur, rfl, hb, (u.block g (Nat.le_trans hB hb) (heap_lt hgg)).trans hgg, rest⟩
theorem VOwn.up {T k B B' : Nat} {w w' : World} {p : Option Addr} {g n c : Nat} {V : Nat → Value} (h : VOwn T k B' w p g n c V) (u : Up B w w') (hB : B ≤ B') : VOwn T k B' w' p g n c V := ⟨ownsRow_up h.own u hB, h.spot, h.one, Nat.le_trans h.low u.size⟩
theorem Own.up {B B' : Nat} {w w' : World} {p : Option Addr} {g n c : Nat} {x : Nat → Nat} (h : Own B' w p g n c x) (u : Up B w w') (hB : B ≤ B') : Own B' w' p g n c x := ⟨ownsRow_up h.own u hB, h.spot, h.byte, Nat.le_trans h.low u.size⟩
theorem TextOwn.up {B B' : Nat} {w w' : World} {v : Value} {t : List Nat} (h : TextOwn B' w v t) (u : Up B w w') (hB : B ≤ B') : TextOwn B' w' v t := by
  obtain ⟨p, g, c, rfl, hl, N⟩ := h
  exact ⟨p, g, c, rfl, hl, N.up u hB⟩
theorem FrsAt.up {B B' g c : Nat} {w w' : World} {p : Option Addr} {V : Nat → Value} {fs : List (ByteArray × List Nat)} (h : FrsAt B' w p g c V fs) (u : Up B w w') (hB : B ≤ B') : FrsAt B' w' p g c V fs := ⟨h.1.up u hB, fun i hi => ⟨(h.2 i hi).1, (h.2 i hi).2.up u hB⟩⟩
/-- A row whose block is as it was. -/
theorem Own.same {B : Nat} {w w' : World} {p : Option Addr} {g n c : Nat} {x : Nat → Nat} (h : Own B w p g n c x) (hs : w.heap.size ≤ w'.heap.size) (hb : ∀ j, ob p = some j → j < w.heap.size → w'.heap[j]? = w.heap[j]?) : Own B w' p g n c x := by
  refine ⟨⟨h.own.1, ?_⟩, h.spot, h.byte, Nat.le_trans h.low hs⟩
  rcases h.own.2 with hn | ⟨g', cap, cur, e, hb', hgg, rest⟩
  · exact .inl hn
  · refine .inr ⟨g', cap, cur, e, hb', (hb g' ?_ (heap_lt hgg)).trans hgg, rest⟩
    injection e with e _ _
    rw [e]
    rfl
/-- What kind of block a row lies in. -/
theorem Own.kind {B : Nat} {w : World} {p : Option Addr} {g n c : Nat} {x : Nat → Nat} (h : Own B w p g n c x) {j : Nat} (e : ob p = some j) : ∃ cur, w.heap[j]? = some (.cells cur 5 (0, 0)) := by
  rcases h.own.2 with hn | ⟨g', cap, cur, e', hb', hgg, rest⟩
  · have hn1 := hn.1
    injection hn1 with q _ _
    rw [q] at e
    cases e
  · injection e' with q _ _
    rw [q] at e
    injection e with e
    subst e
    exact ⟨cur, hgg⟩
theorem other_kind {w : World} {j b : Nat} {cs cs' : Array Value} {T T' : TypeId} (h : w.heap[j]? = some (.cells cs T (0, 0))) (h' : w.heap[b]? = some (.cells cs' T' (0, 0))) (hT : T ≠ T') : j ≠ b := fun e => by
  rw [e, h'] at h
  injection h with h
  injection h with _ h _
  exact hT h.symm
theorem Own.ne {B : Nat} {w : World} {p : Option Addr} {g n c b : Nat} {x : Nat → Nat} {cs : Array Value} {T : TypeId} (h : Own B w p g n c x) (hb : w.heap[b]? = some (.cells cs T (0, 0))) (hT : (5 : TypeId) ≠ T) : ob p ≠ some b := fun e => by
  obtain ⟨cur, hc⟩ := h.kind e
  exact other_kind hc hb hT rfl
theorem KeepT.of_fr {w w' : World} {b T : Nat} {cs : Array Value} (hb : w.heap[b]? = some (.cells cs T (0, 0))) (F : Fr b none w w') : KeepT T w w' := ⟨fun q cc T' hT hq => by rw [F.block q (heap_lt hq) (other_kind hq hb hT) (by intro e; cases e)]; exact hq, F.size⟩
/-- The document's reader, when something else turns. -/
theorem Rq.fr {D w w' : World} {bx b : Nat} {o : Option Nat} {v : Value} {er : Int} {q : Option Addr} {h d : Nat} {xs : List Nat} (K : Rq D bx v er q h d xs w) (F : Fr b o w w') (hD : Below D.heap.size D w') (h1 : bx ≠ b) (h2 : o ≠ some bx) (h3 : ob q ≠ some b) (h4 : ∀ j, o = some j → ob q ≠ some j) : Rq D bx v er q h d xs w' :=
  ⟨⟨hD, fun p hp => by
    obtain rfl := List.mem_singleton.1 hp
    rw [F.block bx (heap_lt K.cX) h1 (fun e => h2 e.symm)]
    exact K.cX, K.mem.nd, K.mem.ge⟩, K.own.same F.size fun j e hj => F.block j hj (fun e2 => h3 (by rw [e, e2])) (fun e2 => h4 j e2.symm e), K.nb⟩
/-- The program's reader, when something else turns. -/
theorem Fq.fr {D w w' : World} {br bu b : Nat} {v : Value} {er : Int} {p : Option Addr} {g c : Nat} {xs : List Nat} (T : Fq D br bu v er p g c xs w) (F : Fr b none w w') (hD : Below D.heap.size D w') (h1 : br ≠ b) (h2 : bu ≠ b) (h3 : ob p ≠ some b) : Fq D br bu v er p g c xs w' :=
  ⟨⟨hD, fun q hq => by
    rcases List.mem_cons.1 hq with rfl | hq
    · rw [F.block _ (heap_lt T.cR) h1 (by intro e; cases e)]
      exact T.cR
    · obtain rfl := List.mem_singleton.1 hq
      rw [F.block _ (heap_lt T.cU) h2 (by intro e; cases e)]
      exact T.cU, T.mem.nd, T.mem.ge⟩, T.own.same F.size fun j e hj => F.block j hj (fun e2 => h3 (by rw [e, e2])) (by intro e; cases e), T.nb⟩
end Go.Proofs.YtkjcljobcidhfaaDoor
