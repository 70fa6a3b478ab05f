/- The document's tx.Decode. -/
import Derived.Test.YtllndneplkigpaaYd
import Derived.Test.YtllndneplkigpaaTh
set_option linter.unusedSimpArgs false
set_option linter.unusedVariables false
set_option maxRecDepth 100000
namespace Go.Proofs.Ytllndneplkigpaa
open Go.RowKit Go.Lib Go.Sort

/-- What is still to be read, behind the version; behind the mark; behind the inputs; behind the outputs; behind the witnesses. -/
def k5 (v : Nat) (ins : List TIn) (outs : List TOut) (r : List Nat) : Res TTx := (pNum 4 r).bind fun lock r => .good ⟨v, ins, outs, lock⟩ r
def k4 (v : Nat) (m : Bool) (ins : List TIn) (outs : List TOut) (r : List Nat) : Res TTx := (pIns m ins r).bind fun ins r => k5 v ins outs r
def k3 (v : Nat) (m : Bool) (ins : List TIn) (r : List Nat) : Res TTx := if ins.length = 0 then .bad 51 else (pList 2000 pOut r).bind fun outs r => k4 v m ins outs r
def k2 (v : Nat) (m : Bool) (r : List Nat) : Res TTx := (pList 2000 pIn r).bind fun ins r => k3 v m ins r
def k1 (v : Nat) (r : List Nat) : Res TTx := (pMark r).bind fun m r => k2 v m r
theorem pTx_k (xs : List Nat) : pTx xs = (pNum 4 xs).bind k1 := rfl
theorem mark_yes {a : Nat} {xs : List Nat} (h : 0 < xs.length ∧ lf xs 0 = 0) : k1 a xs = (pTake 1 xs).bind fun _ r => (pTake 1 r).bind fun t s => if lf t 0 = 1 then k2 a true s else .bad 51 := by
  unfold k1 pMark
  rw [if_pos h, Res.bind_assoc]
  congr 1
  funext _ r
  rw [Res.bind_assoc]
  show ((pTake 1 r).bind fun t r => Res.good (ofBytes (lf t) 1) r).bind _ = _
  rw [Res.bind_assoc]
  congr 1
  funext t s
  have e : ofBytes (lf t) 1 = lf t 0 := by simp [ofBytes]
  show (if ofBytes (lf t) 1 = 1 then Res.good true s else Res.bad 51 : Res Bool).bind _ = _
  rw [e]
  split <;> rfl
theorem mark_no {a : Nat} {xs : List Nat} (h : ¬ (0 < xs.length ∧ lf xs 0 = 0)) : k1 a xs = k2 a false xs := by
  unfold k1 pMark
  rw [if_neg h]
  rfl
section
variable {W w w' : World} {l : List (Nat × TypeId × Array Value)} {bR i : Nat} {u : Value} {e : Int} {xs : List Nat} {c c' : Array Value}
/-- The reader of the call's own. -/
theorem Mem.qd (E : Mem W l w) (h : (bR, 58, #[u, .int .i64 e]) ∈ l) (Q : QDat W w u xs) : Qd W w bR u e xs := ⟨Q, E.get h, E.ge _ h, E.below⟩
theorem Mem.qcall (E : Mem W l w) (hi : l[i]? = some (bR, 58, c)) (h : Below w.heap.size (rb w bR c') w') : Mem W (l.set i (bR, 58, c')) w' := by
  have hb := E.get (List.mem_of_getElem? hi)
  refine E.turn hi ?_ (below_rb_only h)
  rw [h.block bR (heap_lt hb)]
  exact rb_heap hb c'
theorem Mem.qkeep (E : Mem W l w) (hi : l[i]? = some (bR, 58, c)) (h : Below w.heap.size (rb w bR c') w') : KeepT 58 w w' := rkeep (E.get (List.mem_of_getElem? hi)) h
end
theorem QDat.keepB {T : TypeId} {D w w' : World} {u : Value} {xs : List Nat} (h : QDat D w u xs) (hb : Below D.heap.size w w') (k : KeepT T w w') (hT : (5 : TypeId) ≠ T) : QDat D w' u xs := h.keep hb k hT
theorem qcount2000 {γ : Type} {D W : World} {b : Nat} {u : Value} {e : Int} {xs : List Nat} {whole : Res γ} {f : Nat → List Nat → Res γ} (R : Hid (Qd D W b u e xs)) (I : Hid (Inv whole e ((pCnt 2000 xs).bind f))) : Calls Try.prog 27 #[.pointer (some ⟨b, 0, none⟩), .int .i64 2000] W (QPost D W b (fun _ v a => v = .int .i64 ((a : Nat) : Int) ∧ a ≤ 2000) whole f) := qcount_any R 2000 (by omega) I
theorem qcount100 {γ : Type} {D W : World} {b : Nat} {u : Value} {e : Int} {xs : List Nat} {whole : Res γ} {f : Nat → List Nat → Res γ} (R : Hid (Qd D W b u e xs)) (I : Hid (Inv whole e ((pCnt 100 xs).bind f))) : Calls Try.prog 27 #[.pointer (some ⟨b, 0, none⟩), .int .i64 100] W (QPost D W b (fun _ v a => v = .int .i64 ((a : Nat) : Int) ∧ a ≤ 100) whole f) := qcount_any R 100 (by omega) I
theorem built_tx_v (z : Int) : Try.prog.built 28 (#[(0, .int .u32 z)] : Array (Nat × Value)).toList = some (arr 4 (ups txz 0 (.int .u32 z))) := by kernel_rfl
theorem InNil.keep {T : TypeId} {B : Nat} {w w' : World} {V : Nat → Value} {t : TIn} (h : InNil B w V t) (k : KeepT T w w') (h1 : (5 : TypeId) ≠ T) (h2 : 22 ≠ T) : InNil B w' V t := ⟨h.1.keep k h1 h2, h.2⟩
theorem InNil.below {B : Nat} {w w' : World} {V : Nat → Value} {t : TIn} (h : InNil B w V t) (hb : Below w.heap.size w w') : InNil B w' V t := ⟨h.1.below hb, h.2⟩
theorem InNil.mono {B B' : Nat} {w : World} {V : Nat → Value} {t : TIn} (h : InNil B w V t) (hB : B' ≤ B) : InNil B' w V t := ⟨h.1.mono hB, h.2⟩
theorem InNil.to {B : Nat} {w : World} {V U : Nat → Value} {t : TIn} (h : InNil B w V t) (e : ∀ x, x < 36 → V x = U x) : InNil B w U t := ⟨h.1.to e, by rw [← e 35 (by omega)]; exact h.2.1, h.2.2⟩
def InsNil (B : Nat) (w : World) (v : Value) (ts : List TIn) : Prop :=
  ∃ p g c V, v = .slice p ts.length c ∧ ts.length * 96 ≤ 140737488351232 ∧ VOwn 67 36 B w p g ts.length c V ∧ ∀ i (h : i < ts.length), InNil B w (fun x => V (i * 36 + x)) ts[i]
theorem InsNil.keep {T : TypeId} {B : Nat} {w w' : World} {v : Value} {ts : List TIn} (h : InsNil B w v ts) (k : KeepT T w w') (h1 : (5 : TypeId) ≠ T) (h2 : 22 ≠ T) (h3 : 67 ≠ T) : InsNil B w' v ts := by
  obtain ⟨p, g, c, V, e, hl, N, I⟩ := h
  exact ⟨p, g, c, V, e, hl, N.keep k h3, fun i hi => (I i hi).keep k h1 h2⟩
theorem InsNil.below {B : Nat} {w w' : World} {v : Value} {ts : List TIn} (h : InsNil B w v ts) (hb : Below w.heap.size w w') : InsNil B w' v ts := by
  obtain ⟨p, g, c, V, e, hl, N, I⟩ := h
  exact ⟨p, g, c, V, e, hl, N.below hb, fun i hi => (I i hi).below hb⟩
theorem InsNil.own {B : Nat} {w : World} {v : Value} {ts : List TIn} (h : InsNil B w v ts) : InsOwn B w v ts := by
  obtain ⟨p, g, c, V, e, hl, N, I⟩ := h
  exact ⟨p, g, c, V, e, hl, N, fun i hi => (I i hi).1⟩
theorem pRep_bind {α β : Type} {p : List Nat → Res α} {k : Nat} {xs : List Nat} {f : List α → List Nat → Res β} : (pRep p (k + 1) xs).bind f = (p xs).bind fun a r => (pRep p k r).bind fun l s => f (a :: l) s := by
  rw [pRep, Res.bind_assoc]
  congr 1
  funext a r
  rw [Res.bind_assoc]
  rfl
theorem ups_self {V : Nat → Value} {i : Nat} {v : Value} (h : V i = v) : ups V i v = V := by
  funext j
  unfold ups
  split
  · rename_i e; rw [e, h]
  · rfl
theorem ups_ups {V : Nat → Value} {i : Nat} {u v : Value} : ups (ups V i u) i v = ups V i v := by
  funext j
  unfold ups
  split <;> rfl
section
variable {ops : Array Oper} {K : Act → World → Prop} {Q : Exit → Act → World → Prop} {op : Oper} {a : Act} {w w' w0 : World} {l : List (Nat × TypeId × Array Value)}
theorem Mem.keepT {T : TypeId} (E : Mem w0 l w) (hb : Below w0.heap.size w w') (k : KeepT T w w') (hl : ∀ p, p ∈ l → p.2.1 ≠ T) : Mem w0 l w' := ⟨E.below.trans hb, fun p hp => k.keep p.1 p.2.2 p.2.1 (hl p hp) (E.has p hp), E.nd, E.ge⟩
theorem Mem.v1 {b T n i : Nat} {V : Nat → Value} {v : Value} (E : Mem w0 ((b, T, arr n V) :: l) w) (h : V i = v) : Mem w0 ((b, T, arr n (ups V i v)) :: l) w := by
  rw [ups_self h]
  exact E
theorem mo_store_cello (i : Nat) (E : Hid (Mem w0 l w)) (ty : TypeId) (x y : Operand) (ho : op.op = .store ty x y) {b T j n : Nat} {V : Nat → Value} {v : Value} (hx : a.eval x = .pointer (some ⟨b, j, none⟩)) (hy : a.eval y = v) (hi : l[i]? = some (b, T, arr n V))
    (hs : (Try.prog.info? ty).map (·.size) = some 1) (h1 : v.cells = #[v]) (h2 : v.oneCell' = true) (hj : j < n)
    (h : ∀ w', Hid (Mem w0 (l.set i (b, T, arr n (ups V j v))) w') → Hid (w.heap[b]? = some (.cells (arr n V) T (0, 0)) ∧ Only b w w') → K (a.put op.dst undef) w') : op.wp Try.prog a w K Q := by
  have hg' := E.out.get (List.mem_of_getElem? hi)
  have hH : Holds b T (arr n (ups V j v)) w (w.setCell ⟨b, j, none⟩ v) := (Holds.start hg').set (arr_ups n V j v)
  have hj' : j < (arr n V).size := by rw [arr_size]; exact hj
  unfold Oper.wp execOp
  simp only [ho, hx, hy, Sem.run_bind, Sem.run_pure, run_store_one hs h1 h2 (cell_of_here hg' j (Array.getElem?_eq_getElem hj')) (free_of_here hg' j), Result.andThen_ok]
  exact h _ (Lib.hid (E.out.turn hi hH.here hH.only)) (Lib.hid ⟨hg', hH.only⟩)
end
/-- An input with its witnesses. -/
def withW (x : TIn) (ws : List (List Nat)) : TIn := { x with wit := ws }
theorem pWits_cnt {ins : List TIn} {j : Nat} (h : j < ins.length) {xs : List Nat} {done : List TIn} {G : List TIn → List Nat → Res TTx} :
    ((pWits (ins.drop j) xs).bind fun l s => G (done ++ l) s) = (pCnt 100 xs).bind fun k r => (pRep (pText 10000) k r).bind fun ws r => (pWits (ins.drop (j + 1)) r).bind fun l s => G (done ++ (withW ins[j] (ws)) :: l) s := by
  rw [List.drop_eq_getElem_cons h, pWits, pList, Res.bind_assoc, Res.bind_assoc]
  congr 1
  funext k r
  congr 1
  funext ws r
  rw [Res.bind_assoc]
  rfl
/-- All blocks but those of the types T1 and T2 are as they were. -/
structure Keep2 (T1 T2 : TypeId) (w w' : World) : Prop where
  keep : ∀ (q : Nat) (cc : Array Value) (T : TypeId), T ≠ T1 → T ≠ T2 → w.heap[q]? = some (Obj.cells cc T (0, 0)) → w'.heap[q]? = some (Obj.cells cc T (0, 0))
  size : w.heap.size ≤ w'.heap.size
theorem Keep2.refl (T1 T2 : TypeId) (w : World) : Keep2 T1 T2 w w := ⟨fun _ _ _ _ _ h => h, Nat.le_refl _⟩
theorem Keep2.below {T1 T2 : TypeId} {w w1 w' : World} (h : Keep2 T1 T2 w w1) (hb : Below w.heap.size w1 w') : Keep2 T1 T2 w w' :=
  ⟨fun q cc T h1 h2 hq => by rw [hb.block q (heap_lt hq)]; exact h.keep q cc T h1 h2 hq, Nat.le_trans h.size hb.size⟩
theorem Keep2.kt1 {T1 T2 : TypeId} {w w1 w' : World} (h : Keep2 T1 T2 w w1) (k : KeepT T1 w1 w') : Keep2 T1 T2 w w' :=
  ⟨fun q cc T h1 h2 hq => k.keep q cc T h1 (h.keep q cc T h1 h2 hq), Nat.le_trans h.size k.size⟩
theorem Keep2.kt2 {T1 T2 : TypeId} {w w1 w' : World} (h : Keep2 T1 T2 w w1) (k : KeepT T2 w1 w') : Keep2 T1 T2 w w' :=
  ⟨fun q cc T h1 h2 hq => k.keep q cc T h2 (h.keep q cc T h1 h2 hq), Nat.le_trans h.size k.size⟩
theorem ownsRow_keep2 {w w' : World} {T1 T2 : TypeId} {base : Nat} {e : TypeId} {size : Nat} {v : Value} {n : Nat} {xs : List Value} (h : w.ownsRow base e size v n xs) (k : Keep2 T1 T2 w w') (h1 : e ≠ T1) (h2 : e ≠ T2) : w'.ownsRow base e size v n xs := by
  obtain ⟨a, b⟩ := h
  refine ⟨a, ?_⟩
  rcases b with b | ⟨g, cap, cur, c1, c2, c3, c4⟩
  · exact .inl b
  · exact .inr ⟨g, cap, cur, c1, c2, k.keep g cur e h1 h2 c3, c4⟩
theorem TextOwn.keep2 {B : Nat} {w w' : World} {v : Value} {t : List Nat} (h : TextOwn B w v t) (k : Keep2 67 58 w w') : TextOwn B w' v t := by
  obtain ⟨p, g, c, e, hl, N⟩ := h
  exact ⟨p, g, c, e, hl, ownsRow_keep2 N.own k (by decide) (by decide), N.spot, N.byte, Nat.le_trans N.low k.size⟩
theorem TextsOwn.keep2 {B : Nat} {w w' : World} {v : Value} {ts : List (List Nat)} (h : TextsOwn B w v ts) (k : Keep2 67 58 w w') : TextsOwn B w' v ts := by
  obtain ⟨p, g, c, V, e, hl, N, I⟩ := h
  exact ⟨p, g, c, V, e, hl, ⟨ownsRow_keep2 N.own k (by decide) (by decide), N.spot, N.one, Nat.le_trans N.low k.size⟩, fun i hi => (I i hi).keep2 k⟩
theorem InOwn.keep2 {B : Nat} {w w' : World} {V : Nat → Value} {t : TIn} (h : InOwn B w V t) (k : Keep2 67 58 w w') : InOwn B w' V t := ⟨h.len, h.idB, h.id, h.idx, h.idxB, h.sc.keep2 k, h.sq, h.sqB, h.wit.keep2 k⟩
theorem InNil.keep2 {B : Nat} {w w' : World} {V : Nat → Value} {t : TIn} (h : InNil B w V t) (k : Keep2 67 58 w w') : InNil B w' V t := ⟨h.1.keep2 k, h.2⟩
theorem OutsOwn.keep2 {B : Nat} {w w' : World} {v : Value} {ts : List TOut} (h : OutsOwn B w v ts) (k : Keep2 67 58 w w') : OutsOwn B w' v ts := by
  obtain ⟨p, g, c, V, e, hl, N, I⟩ := h
  exact ⟨p, g, c, V, e, hl, ⟨ownsRow_keep2 N.own k (by decide) (by decide), N.spot, N.one, Nat.le_trans N.low k.size⟩, fun i hi => ⟨(I i hi).val, (I i hi).valB, (I i hi).sc.keep2 k⟩⟩
/-- The inputs whose witnesses were read, and those whose were not. -/
def Half (B : Nat) (w : World) (V : Nat → Value) (done ins : List TIn) : Prop :=
  (∀ i (h : i < done.length), InOwn B w (fun x => V (i * 36 + x)) done[i]) ∧ (∀ i (h : i < ins.length), done.length ≤ i → InNil B w (fun x => V (i * 36 + x)) ins[i])
theorem Half.keep2 {B : Nat} {w w' : World} {V : Nat → Value} {done ins : List TIn} (h : Half B w V done ins) (k : Keep2 67 58 w w') : Half B w' V done ins := ⟨fun i hi => (h.1 i hi).keep2 k, fun i hi hd => (h.2 i hi hd).keep2 k⟩
theorem Half.below {B : Nat} {w w' : World} {V : Nat → Value} {done ins : List TIn} (h : Half B w V done ins) (hb : Below w.heap.size w w') : Half B w' V done ins := ⟨fun i hi => (h.1 i hi).below hb, fun i hi hd => (h.2 i hi hd).below hb⟩
theorem Half.all {B : Nat} {w : World} {V : Nat → Value} {done ins : List TIn} (h : Half B w V done ins) (hd : done.length ≤ ins.length) : ∀ i (h : i < (done ++ ins.drop done.length).length), InOwn B w (fun x => V (i * 36 + x)) (done ++ ins.drop done.length)[i] := fun i hi => by
  rw [List.length_append, List.length_drop] at hi
  by_cases q : i < done.length
  · rw [List.getElem_append_left q]
    exact h.1 i q
  · rw [List.getElem_append_right (by omega), List.getElem_drop]
    have e : done.length + (i - done.length) = i := by omega
    have := (h.2 i (by omega) (by omega)).1
    simp only [e]
    exact this
/-- One more is read. -/
theorem Half.step {B B0 : Nat} {w : World} {V V' : Nat → Value} {done ins : List TIn} {j : Nat} (h : Half B w V done ins) (hj : done.length = j) (hlt : j < ins.length) (hV : ∀ x, x ≠ j * 36 + 35 → V' x = V x) {ws : List (List Nat)} (hw : TextsOwn B0 w (V' (j * 36 + 35)) ws) (hB : B ≤ B0) : Half B w V' (done ++ [(withW ins[j] (ws))]) ins := by
  refine ⟨fun i hi => ?_, fun i hi hd => ?_⟩
  · rw [List.length_append, List.length_singleton] at hi
    by_cases q : i < done.length
    · rw [List.getElem_append_left q]
      exact (h.1 i q).to fun x hx => (hV _ (by omega)).symm
    · obtain rfl : i = done.length := by omega
      subst hj
      rw [List.getElem_append_right (by omega)]
      simp only [Nat.sub_self, List.getElem_cons_zero]
      have k := (h.2 done.length hlt (Nat.le_refl _)).1
      have e : ∀ x, x < 35 → V' (done.length * 36 + x) = V (done.length * 36 + x) := fun x hx => hV _ (by omega)
      exact ⟨k.len, k.idB, fun x hx => by rw [e x (by omega)]; exact k.id x hx, by rw [e 32 (by omega)]; exact k.idx, k.idxB, by rw [e 33 (by omega)]; exact k.sc, by rw [e 34 (by omega)]; exact k.sq, k.sqB, hw.mono hB⟩
  · rw [List.length_append, List.length_singleton] at hd
    exact (h.2 i hi (by omega)).to fun x hx => (hV _ (by omega)).symm
theorem mo_bs0x {Q : Exit → Act → World → Prop} {op : Oper} {a : Act} {w : World} {K : Act → World → Prop} (ho : op.op = .buildSlice 22 0 #[])
    (k : ∀ p g w', Hid (Own w.heap.size w' p g 0 0 (lf [])) → Hid (Below w.heap.size w w') → K (a.put op.dst (.slice p 0 0)) w') : op.wp Try.prog a w K Q := by
  refine mo_known (.slice (some ⟨w.heap.size, 0, none⟩) 0 0) (w.alloc (.cells #[] 5)) ?_ (k _ _ _ (Lib.hid (own_start w (lf []) (lf_lt isB_nil))) (Lib.hid (below_new w _)))
  unfold execOp
  simp only [ho, Array.map_empty, Sem.run_bind, run_bs0 Try.underlying22 infoB w, Result.andThen_ok]
  rfl
/-- What is left when the witnesses are read. -/
def k4b (v : Nat) (m : Bool) (ins : List TIn) (outs : List TOut) (r : List Nat) : Res TTx := if m = true ∧ ins.any hasB = false then .bad 51 else k5 v ins outs r
theorem k4_no {v : Nat} {ins : List TIn} {outs : List TOut} {r : List Nat} : k4 v false ins outs r = k4b v false ins outs r := by
  unfold k4 pIns k4b
  rw [if_neg (by simp), if_neg (by simp)]
  rfl
theorem k4_yes {v : Nat} {ins : List TIn} {outs : List TOut} {r : List Nat} : k4 v true ins outs r = (pWits ins r).bind fun l s => k4b v true l outs s := by
  unfold k4 pIns
  rw [if_pos rfl, Res.bind_assoc]
  congr 1
  funext l s
  unfold k4b
  cases l.any hasB
  · rw [if_neg (by simp), if_pos ⟨rfl, rfl⟩]
    rfl
  · rw [if_pos rfl, if_neg (by simp)]
    rfl
theorem res_ctt {P : Program} {fn : Func} {p q u : Tmp} {ty : TypeId} (h : fn.results = #[.cell p ty, .tmp u, .tmp q]) (tmps : Array Value) (w : World) {g T : Nat} {cs : Array Value} (d : TypeDesc)
    (hp : tmps.getD p undef = .pointer (some ⟨g, 0, none⟩)) (hg : w.heap[g]? = some (.cells cs T (0, 0))) (hu : P.underlying ty = some d) (hd : (match d with | .struct _ | .array _ _ => true | _ => false) = true) (hi : (P.info? ty).map (·.size) = some cs.size) :
    (results fn tmps).run P w = .ok (.tuple #[.agg cs, tmps.getD u undef, tmps.getD q undef]) w := by
  have hp' : tmps[p]?.getD undef = .pointer (some ⟨g, 0, none⟩) := by simpa using hp
  have e := run_loadVar_row (P := P) w g T ty cs (0, 0) d hg hu hd hi
  simp [results, h, hp', asAddr, e]
set_option maxHeartbeats 16000000 in
theorem rtxdec_any {W : World} {v0 : Value} {xs0 : List Nat} (A : Hid (TextAt W v0 xs0)) : Calls Try.prog 10 #[v0] W (DecPost W (.agg (arr 4 txz)) TxV (pTx xs0)) := by
  have E := Lib.hid (Mem.nil W)
  have Q0 := Lib.hid (QDat.of A.out)
  obtain ⟨p0, c0, rfl, hl0⟩ := A.out.slice
  obtain ⟨whole, hw⟩ : ∃ whole, whole = pTx xs0 := ⟨_, rfl⟩
  have I0 : Hid (Inv whole 0 ((pNum 4 xs0).bind k1)) := Lib.hid ⟨fun _ => hw.trans (pTx_k xs0), fun h => absurd rfl h⟩
  rw [← hw]
  clear A hw hl0
  go_enter Try.func10, Try.ntmps10
  go_upto_region 1 with (refine mem_alloc E 28 rfl rfl infoTxz ?_; clear E; intro b0 w0 E; simp only [arr_cells'] at E)
  go_upto_region 3 with (first
    | ((with_reducible refine wpList_at 15 rfl ?_); refine wpList_build_to rfl 58 _ rfl #[(0, .slice p0 xs0.length c0)] (by kernel_rfl) #[.slice p0 xs0.length c0, .int .i64 0] (by kernel_rfl) ?_)
    | ((with_reducible refine wpList_at 16 rfl ?_); refine mem_box (c := #[.slice p0 xs0.length c0, .int .i64 0]) E 58 rfl _ rfl rfl rfl ?_; clear E; intro bR w1 E)
    | (go_at_call 25; refine (qlow4 (Lib.hid (E.out.qd List.mem_cons_self (Q0.out.below E.out.below))) I0).mono ?_; rintro e1' w2 ⟨v1, a1, u1, e1, xs1, rfl, hb, hq, ⟨rfl, hN1⟩, hI⟩; have I1 := Lib.hid hI; have QD := Lib.hid hq; have cw1 : IntKind.u32.wrap (a1 : Int) = (a1 : Int) := (by rw [IntKind.wrap_u32]; omega); have VB := Lib.hid hN1; replace E := Lib.hid (E.out.qcall (i := 0) rfl hb); simp only [List.set_cons_zero] at E; clear hI hq hb hN1 I0 Q0)
    | ((with_reducible refine wpList_at 20 rfl ?_); refine wpList_bld 28 _ rfl rfl (ps := #[(0, .int .u32 (a1 : Int))]) (by kernel_rfl) (built_tx_v _) ?_)
    | ((with_reducible refine wpList_at 6 rfl ?_); refine mem_allocb E 28 rfl rfl infoTxz ?_; clear E; intro b6 w3 E hb3; simp only [arr_cells'] at E; replace QD := Lib.hid (QD.out.below hb3.out); clear hb3)
    | ((with_reducible refine wpList_atn rfl ?_); refine mem_store_rowo 0 E 28 rfl (.tmp 6) (.tmp 20) rfl rfl rfl rfl (by kernel_rfl) (by simp only [arr_size]) (all_of (ups_one txz_one rfl)) ?_; intro w4 E4 HO; simp only [List.set_cons_zero] at E4; replace QD := Lib.hid (QD.out.xst (E.out.ge _ List.mem_cons_self) HO.out (by decide)); clear E HO; have E := E4; clear E4))
  obtain ⟨V1, hV1⟩ : ∃ V1 : Nat → Value, V1 = ups txz 0 (.int .u32 (a1 : Int)) := ⟨_, rfl⟩
  have HV1 := Lib.hid hV1
  rw [← hV1] at E
  obtain ⟨p1, cc1, hu1, hl1⟩ := QD.out.slice
  subst hu1
  obtain ⟨mk, hmk⟩ : ∃ mk : Bool, mk = decide (e1 = 0 ∧ 0 < xs1.length ∧ lf xs1 0 = 0) := ⟨_, rfl⟩
  have HMK := Lib.hid hmk
  clear hV1 cw1 hmk
  try simp only [Act.put, List.getElem_toArray, List.getElem_cons_succ, List.getElem_cons_zero, List.setIfInBounds_toArray, List.set_cons_zero, List.set_cons_succ]
  go_cut [7] (fun s7 wx => s7 = .bool mk ∧ wx = w4)
  case first =>
    as_aux_lemma =>
      by_cases h0 : e1 = 0
      · subst h0
        by_cases h1 : 0 < xs1.length
        · obtain ⟨_, g1, o1, _, hv, _, RW⟩ := QD.out.at
          injection hv with q1 q2 q3
          subst q1 q3
          obtain rfl := RW.head h1
          have CX := Lib.hid (show w4.cell? ⟨g1, o1 + 0 * 1, none⟩ = some (.int .u8 ((lf xs1 0 : Nat) : Int)) from RW.cell 0 h1)
          obtain ⟨y, hy⟩ : ∃ y, y = lf xs1 0 := ⟨_, rfl⟩
          rw [← hy] at CX
          have EM : mk = decide (y = 0) := by rw [HMK.out, hy]; simp [h1]
          have HL := Lib.hid h1
          have c1 : ((xs1.length : Nat) : Int) > 0 := by omega
          clear RW h1 hy
          by_cases hy0 : y = 0
          · subst hy0
            subst EM
            go_wp2_with (first
              | ((with_reducible refine wpList_at 24 rfl ?_); refine mem_load_cell E 29 rfl (.tmp 23) rfl rfl (List.mem_cons_of_mem _ List.mem_cons_self) Try.underlying29 rfl (v := .int .i64 0) rfl ?_)
              | ((with_reducible refine wpList_at 30 rfl ?_); refine mem_load_cell E 22 rfl (.tmp 29) rfl rfl (List.mem_cons_of_mem _ List.mem_cons_self) Try.underlying22 rfl (v := .slice (some ⟨g1, o1, none⟩) xs1.length cc1) rfl ?_)
              | ((with_reducible refine wpList_at 38 rfl ?_); refine mem_load_cell E 22 rfl (.tmp 37) rfl rfl (List.mem_cons_of_mem _ List.mem_cons_self) Try.underlying22 rfl (v := .slice (some ⟨g1, o1, none⟩) xs1.length cc1) rfl ?_)
              | ((with_reducible refine wpList_at 39 rfl ?_); refine wpList_ix (k := 1) (j := 0) Try.underlying22 (by kernel_rfl) (.tmp 38) (.const (.int .i64 0)) rfl rfl rfl rfl HL.out rfl ?_)
              | ((with_reducible refine wpList_at 40 rfl ?_); refine wpList_ld1 5 (.tmp 39) rfl rfl rfl Try.underlying5 rfl CX.out ?_))
            go_meet
            exact ⟨rfl, rfl⟩
          · have EM2 : mk = false := by rw [EM]; simp [hy0]
            subst EM2
            have c2 : ((y : Int) == 0) = false := by simp; omega
            clear EM
            go_wp2_with (first
              | ((with_reducible refine wpList_at 24 rfl ?_); refine mem_load_cell E 29 rfl (.tmp 23) rfl rfl (List.mem_cons_of_mem _ List.mem_cons_self) Try.underlying29 rfl (v := .int .i64 0) rfl ?_)
              | ((with_reducible refine wpList_at 30 rfl ?_); refine mem_load_cell E 22 rfl (.tmp 29) rfl rfl (List.mem_cons_of_mem _ List.mem_cons_self) Try.underlying22 rfl (v := .slice (some ⟨g1, o1, none⟩) xs1.length cc1) rfl ?_)
              | ((with_reducible refine wpList_at 38 rfl ?_); refine mem_load_cell E 22 rfl (.tmp 37) rfl rfl (List.mem_cons_of_mem _ List.mem_cons_self) Try.underlying22 rfl (v := .slice (some ⟨g1, o1, none⟩) xs1.length cc1) rfl ?_)
              | ((with_reducible refine wpList_at 39 rfl ?_); refine wpList_ix (k := 1) (j := 0) Try.underlying22 (by kernel_rfl) (.tmp 38) (.const (.int .i64 0)) rfl rfl rfl rfl HL.out rfl ?_)
              | ((with_reducible refine wpList_at 40 rfl ?_); refine wpList_ld1 5 (.tmp 39) rfl rfl rfl Try.underlying5 rfl CX.out ?_))
            go_meet
            exact ⟨rfl, rfl⟩
        · have EM : mk = false := by rw [HMK.out]; simp; omega
          subst EM
          have c1 : ¬ ((xs1.length : Nat) : Int) > 0 := by omega
          clear h1
          go_wp2_with (first
            | ((with_reducible refine wpList_at 24 rfl ?_); refine mem_load_cell E 29 rfl (.tmp 23) rfl rfl (List.mem_cons_of_mem _ List.mem_cons_self) Try.underlying29 rfl (v := .int .i64 0) rfl ?_)
            | ((with_reducible refine wpList_at 30 rfl ?_); refine mem_load_cell E 22 rfl (.tmp 29) rfl rfl (List.mem_cons_of_mem _ List.mem_cons_self) Try.underlying22 rfl (v := .slice p1 xs1.length cc1) rfl ?_))
          go_meet
          exact ⟨rfl, rfl⟩
      · have EM : mk = false := by rw [HMK.out]; simp [h0]
        subst EM
        go_wp2_with (first
          | ((with_reducible refine wpList_at 24 rfl ?_); refine mem_load_cell E 29 rfl (.tmp 23) rfl rfl (List.mem_cons_of_mem _ List.mem_cons_self) Try.underlying29 rfl (v := .int .i64 e1) rfl ?_))
        go_meet
        exact ⟨rfl, rfl⟩
  case rest =>
    obtain ⟨rfl, rfl⟩ := hcut
    rename_i hKK
    refine hKK _ _ ?_
    clear hKK
    refine Go.wp_seq_k fun K hKK => ?_
    go_cut [7] (fun s7 wx => ∃ (m : Bool) (u : Value) (e : Int) (xs : List Nat), s7 = .bool m ∧ Hid (Mem W [(b6, 28, arr 4 V1), (bR, 58, #[u, .int .i64 e]), (b0, 28, arr 4 txz)] wx) ∧ Hid (QDat W wx u xs) ∧ Hid (Inv whole e (k2 a1 m xs)))
    case first =>
      as_aux_lemma =>
        cases mk
        · have IN : Hid (Inv whole e1 (k2 a1 false xs1)) := Lib.hid (by
            by_cases h0 : e1 = 0
            · subst h0
              exact I1.out.eq (mark_no (by have := HMK.out; simpa using this))
            · exact I1.out.fail h0 _)
          go_wp2
          go_meet
          exact ⟨false, _, e1, xs1, rfl, E, QD, IN⟩
        · have hm : e1 = 0 ∧ 0 < xs1.length ∧ lf xs1 0 = 0 := by have := HMK.out; simpa using this
          obtain ⟨rfl, hm1, hm2⟩ := hm
          have I2 := Lib.hid (I1.out.eq (mark_yes (a := a1) ⟨hm1, hm2⟩))
          clear hm1 hm2 HMK I1
          go_upto_region 7 with (first
            | (go_at_call 26; refine (qtake1 (Lib.hid (E.out.qd (List.mem_cons_of_mem _ List.mem_cons_self) QD.out)) I2b).mono ?_; rintro e3' w3 ⟨v3, a3, u3, e3, xs3, rfl, hb, hq, ⟨hva, hla⟩, hI⟩; have I3 := Lib.hid hI; have KT3 := Lib.hid (E.out.qkeep (i := 1) rfl hb); replace QD := Lib.hid hq; replace E := Lib.hid (E.out.qcall (i := 1) rfl hb); simp only [List.set_cons_zero, List.set_cons_succ] at E; have VA3 := Lib.hid hva; have LA3 := Lib.hid hla; clear hva hla I2b; clear hI hq hb)
            | (go_at_call 26; refine (qtake1 (Lib.hid (E.out.qd (List.mem_cons_of_mem _ List.mem_cons_self) QD.out)) I2).mono ?_; rintro e2' w2 ⟨v2, a2, u2, e2, xs2, rfl, hb, hq, ⟨hva, hla⟩, hI⟩; have I2c := Lib.hid hI; have KT2 := Lib.hid (E.out.qkeep (i := 1) rfl hb); replace QD := Lib.hid hq; replace E := Lib.hid (E.out.qcall (i := 1) rfl hb); simp only [List.set_cons_zero, List.set_cons_succ] at E; have I2b := I2c; clear I2c; clear hva hla I2; clear hI hq hb))
          obtain ⟨p3, g3, o3, c3, rfl, _, RW3, _⟩ := VA3.out
          rw [LA3.out] at RW3 ⊢
          obtain rfl := RW3.head (by omega)
          have CX := Lib.hid (show w3.cell? ⟨g3, o3 + 0 * 1, none⟩ = some (.int .u8 ((lf a3 0 : Nat) : Int)) from RW3.cell 0 (by omega))
          obtain ⟨y, hy⟩ : ∃ y, y = lf a3 0 := ⟨_, rfl⟩
          rw [← hy] at CX I3
          clear RW3 VA3 hy
          by_cases h0 : e3 = 0
          · subst h0
            by_cases hy1 : y = 1
            · subst hy1
              go_wp2_with (first
                | ((with_reducible refine wpList_at 51 rfl ?_); refine mem_load_cell E 29 rfl (.tmp 50) rfl rfl (List.mem_cons_of_mem _ List.mem_cons_self) Try.underlying29 rfl (v := .int .i64 0) rfl ?_)
                | ((with_reducible refine wpList_at 55 rfl ?_); refine wpList_ix (k := 1) (j := 0) Try.underlying22 (by kernel_rfl) (.tmp 54) (.const (.int .i64 0)) rfl rfl rfl rfl (by omega) rfl ?_)
                | ((with_reducible refine wpList_at 56 rfl ?_); refine wpList_ld1 5 (.tmp 55) rfl rfl rfl Try.underlying5 rfl CX.out ?_))
              go_meet
              exact ⟨true, u3, 0, xs3, rfl, E, QD, Lib.hid (I3.out.eq (by simp))⟩
            · have c2 : ((y : Int) == 1) = false := by simp; omega
              have c3 : ((y : Int) != 1) = true := by simp; omega
              have IN : Hid (Inv whole 51 (k2 a1 true xs3)) := Lib.hid (I3.out.bad (if_neg hy1) (by decide) _)
              clear hy1
              go_wp2_with (first
                | ((with_reducible refine wpList_at 51 rfl ?_); refine mem_load_cell E 29 rfl (.tmp 50) rfl rfl (List.mem_cons_of_mem _ List.mem_cons_self) Try.underlying29 rfl (v := .int .i64 0) rfl ?_)
                | ((with_reducible refine wpList_at 55 rfl ?_); refine wpList_ix (k := 1) (j := 0) Try.underlying22 (by kernel_rfl) (.tmp 54) (.const (.int .i64 0)) rfl rfl rfl rfl (by omega) rfl ?_)
                | ((with_reducible refine wpList_at 56 rfl ?_); refine wpList_ld1 5 (.tmp 55) rfl rfl rfl Try.underlying5 rfl CX.out ?_)
                | ((with_reducible refine wpList_atn rfl ?_); refine mem_store_cello (v := .int .i64 51) 1 E 29 rfl (.tmp 61) (.const (.int .i64 51)) rfl rfl rfl rfl (by kernel_rfl) rfl rfl (by simp) ?_; intro w9 E9 HO; replace QD := Lib.hid (QD.out.xst (E.out.ge _ (List.mem_cons_of_mem _ List.mem_cons_self)) HO.out (by decide)); clear E HO; have E : Hid (Mem W [(b6, 28, arr 4 V1), (bR, 58, #[u3, .int .i64 51]), (b0, 28, arr 4 txz)] w9) := E9; clear E9))
              try simp only [Act.put, List.getElem_toArray, List.getElem_cons_succ, List.getElem_cons_zero, List.setIfInBounds_toArray, List.set_cons_zero, List.set_cons_succ]
              go_meet
              exact ⟨true, u3, 51, xs3, rfl, E, QD, IN⟩
          · have IN : Hid (Inv whole e3 (k2 a1 true xs3)) := Lib.hid (I3.out.fail h0 _)
            have c2 : (e3 == 0) = false := by simp; exact h0
            clear h0
            go_wp2_with (first
              | ((with_reducible refine wpList_at 51 rfl ?_); refine mem_load_cell E 29 rfl (.tmp 50) rfl rfl (List.mem_cons_of_mem _ List.mem_cons_self) Try.underlying29 rfl (v := .int .i64 e3) rfl ?_))
            go_meet
            exact ⟨true, u3, e3, xs3, rfl, E, QD, IN⟩
    case rest =>
      obtain ⟨m, u, e, xs, rfl, E, QD, I⟩ := hcut
      refine hKK _ _ ?_
      clear hKK
      have hR : ∀ {xs : List Nat}, k2 a1 m xs = (pCnt 2000 xs).bind fun n r => (pRep pIn n r).bind fun ins r => k3 a1 m ins r := fun {xs} => Res.bind_assoc _ _ _
      have I9 := Lib.hid (I.out.eq hR)
      clear hR I
      refine Go.wp_seq_k fun K1 hK1 => ?_
      go_cut [9] (fun s9 wx => ∃ (n : Nat) (u : Value) (e : Int) (xs : List Nat), s9 = .int .i64 (n : Int) ∧ n ≤ 2000 ∧ Hid (Mem W [(b6, 28, arr 4 V1), (bR, 58, #[u, .int .i64 e]), (b0, 28, arr 4 txz)] wx) ∧ Hid (QDat W wx u xs) ∧ Hid (Inv whole e ((pRep pIn n xs).bind fun ins r => k3 a1 m ins r)))
      case first =>
        go_wp2_with (go_at_call 27; refine (qcount2000 (Lib.hid (E.out.qd (List.mem_cons_of_mem _ List.mem_cons_self) QD.out)) I9).mono ?_; rintro e9' w9 ⟨v9, n, u9, e9, xs9, rfl, hb, hq, ⟨rfl, hn⟩, hI⟩; have IA := Lib.hid hI; have NB := Lib.hid hn; replace QD := Lib.hid hq; replace E := Lib.hid (E.out.qcall (i := 1) rfl hb); simp only [List.set_cons_zero, List.set_cons_succ] at E; clear hI hq hb hn)
        go_meet
        exact ⟨n, u9, e9, xs9, rfl, NB.out, E, QD, IA⟩
      case rest =>
        clear E QD I9
        obtain ⟨n, u9, e9, xs9, rfl, nb, E, QD, IA⟩ := hcut
        have NB := Lib.hid nb
        refine hK1 _ _ ?_
        clear hK1 nb
        refine Go.wp_seq_k fun K2 hK2 => ?_
        go_cut [9] (fun s9 wx => ∃ (n : Nat) (u : Value) (e : Int) (xs : List Nat), s9 = .int .i64 (n : Int) ∧ n ≤ 2000 ∧ Hid (Mem W [(b6, 28, arr 4 V1), (bR, 58, #[u, .int .i64 e]), (b0, 28, arr 4 txz)] wx) ∧ Hid (QDat W wx u xs) ∧ Hid (Inv whole e ((pRep pIn n xs).bind fun ins r => k3 a1 m ins r)) ∧ (e = 0 → n ≠ 0))
        case first =>
          as_aux_lemma =>
            by_cases h0 : e9 = 0
            · subst h0
              by_cases hn0 : n = 0
              · subst hn0
                have IN : Hid (Inv whole 51 ((pRep pIn 0 xs9).bind fun ins r => k3 a1 m ins r)) := Lib.hid (IA.out.bad (show k3 a1 m [] xs9 = .bad 51 from if_pos rfl) (by decide) _)
                go_wp2_with (first
                  | ((with_reducible refine wpList_at 67 rfl ?_); refine mem_load_cell E 29 rfl (.tmp 66) rfl rfl (List.mem_cons_of_mem _ List.mem_cons_self) Try.underlying29 rfl (v := .int .i64 0) rfl ?_)
                  | ((with_reducible refine wpList_atn rfl ?_); refine mem_store_cello (v := .int .i64 51) 1 E 29 rfl (.tmp 75) (.const (.int .i64 51)) rfl rfl rfl rfl (by kernel_rfl) rfl rfl (by simp) ?_; intro w10 E9 HO; replace QD := Lib.hid (QD.out.xst (E.out.ge _ (List.mem_cons_of_mem _ List.mem_cons_self)) HO.out (by decide)); clear E HO; have E : Hid (Mem W [(b6, 28, arr 4 V1), (bR, 58, #[u9, .int .i64 51]), (b0, 28, arr 4 txz)] w10) := E9; clear E9))
                try simp only [Act.put, List.getElem_toArray, List.getElem_cons_succ, List.getElem_cons_zero, List.setIfInBounds_toArray, List.set_cons_zero, List.set_cons_succ]
                go_meet
                exact ⟨0, u9, 51, xs9, rfl, by omega, E, QD, IN, fun h => by cases h⟩
              · have c1 : ((n : Int) == 0) = false := by simp; omega
                have c2 : ¬ ((n : Int) = 0) := by omega
                go_wp2_with (first
                  | ((with_reducible refine wpList_at 67 rfl ?_); refine mem_load_cell E 29 rfl (.tmp 66) rfl rfl (List.mem_cons_of_mem _ List.mem_cons_self) Try.underlying29 rfl (v := .int .i64 0) rfl ?_))
                go_meet
                exact ⟨n, u9, 0, xs9, rfl, NB.out, E, QD, IA, fun _ => hn0⟩
            · have c2 : (e9 == 0) = false := by simp; exact h0
              go_wp2_with (first
                | ((with_reducible refine wpList_at 67 rfl ?_); refine mem_load_cell E 29 rfl (.tmp 66) rfl rfl (List.mem_cons_of_mem _ List.mem_cons_self) Try.underlying29 rfl (v := .int .i64 e9) rfl ?_))
              go_meet
              exact ⟨n, u9, e9, xs9, rfl, NB.out, E, QD, IA, fun h => absurd h h0⟩
        case rest =>
          clear E QD IA NB
          obtain ⟨n, u, e, xs, rfl, NB, E, QD, I, N0⟩ := hcut
          refine hK2 _ _ ?_
          clear hK2
          refine Go.wp_seq_k fun K3 hK3 => ?_
          go_cut [10] (fun s wx => ∃ (q : Int) (vx : Value) (ts : List TIn) (u : Value) (e : Int) (xs : List Nat), s = .int .i64 q ∧ Hid (Mem W [(b6, 28, arr 4 (ups V1 1 vx)), (bR, 58, #[u, .int .i64 e]), (b0, 28, arr 4 txz)] wx) ∧ Hid (QDat W wx u xs) ∧ Hid (Inv whole e (k3 a1 m ts xs)) ∧ Hid (InsNil W.heap.size wx vx ts) ∧ (e = 0 → ts.length ≠ 0 ∧ ts.length ≤ 2000))
          case first =>
            as_aux_lemma =>
              replace E := Lib.hid (E.out.v1 (i := 1) (v := .slice none 0 0) (by rw [HV1.out]; rfl))
              have N0h := Lib.hid N0
              clear N0
              go_wp2
              go_loopg [10] n (fun gk i wr => ∃ (j : Nat) (p : Option Addr) (g c : Nat) (V : Nat → Value) (u : Value) (e : Int) (xs : List Nat) (ts : List TIn), j + gk = n ∧ i = .int .i64 (j : Int) ∧ Hid (ts.length = j) ∧ Hid (VOwn 67 36 W.heap.size wr p g j c V) ∧ Hid (∀ i (h : i < ts.length), InNil W.heap.size wr (fun x => V (i * 36 + x)) ts[i]) ∧ Hid (QDat W wr u xs) ∧ Hid (Mem W [(b6, 28, arr 4 (ups V1 1 (.slice p j c))), (bR, 58, #[u, .int .i64 e]), (b0, 28, arr 4 txz)] wr) ∧ Hid (Inv whole e ((pRep pIn gk xs).bind fun l s => k3 a1 m (ts ++ l) s)) ∧ Hid (e = 0 → n ≠ 0))
              case atStart => exact ⟨0, none, 0, 0, fun _ => undef, u, e, xs, [], by omega, rfl, Lib.hid rfl, Lib.hid (vown_nothing _ _ _ _ _ E.out.below.size), Lib.hid (fun i h => by simp at h), QD, E, Lib.hid I.out, N0h⟩
              case round =>
                clear E QD I N0h
                obtain ⟨j, p3, g3, c3, V3, u3, e3, r3, ts, hj, rfl, TL, N3, I3, QD, E, PE, N0⟩ := hrel
                obtain ⟨kk, hkk⟩ : ∃ kk : Nat, kk = gk := ⟨_, rfl⟩
                rw [← hkk] at hj PE
                by_cases hlt : j < n
                · obtain ⟨q1, rfl⟩ : ∃ q1, kk = q1 + 1 := ⟨kk - 1, by omega⟩
                  have c1 : ((j : Nat) : Int) < ((n : Nat) : Int) := by omega
                  by_cases h0 : e3 = 0
                  · subst h0
                    have PI := Lib.hid (PE.out.eq pRep_bind)
                    clear PE
                    go_upto_region 15 with (first
                      | ((with_reducible refine wpList_at 83 rfl ?_); refine mem_load_cell E 29 rfl (.tmp 82) rfl rfl (List.mem_cons_of_mem _ List.mem_cons_self) Try.underlying29 rfl (v := .int .i64 0) rfl ?_))
                    refine Go.wp_mono (Q := noPanic _) ?_ noPanic_of
                    have E1 := Lib.hid (Mem.nil wr)
                    refine wp_region_memS (S := fun _ => True) E1 (by kernel_rfl) ?_
                    clear E1
                    intro wx E0
                    replace E := Lib.hid (E.out.call E0.out.below)
                    replace QD := Lib.hid (QD.out.below E0.out.below)
                    replace N3 := Lib.hid (N3.out.below E0.out.below)
                    replace I3 := Lib.hid (fun i h => (I3.out i h).below E0.out.below)
                    clear E0
                    refine hm_run 0 88 (.pointer (some ⟨b6, 1, none⟩)) rfl rfl (by kernel_rfl) (by kernel_rfl) (by kernel_rfl) (fun _ _ _ h => h) rfl (fun _ _ => rfl) True.intro ?_
                    try simp only [Act.put, List.getElem_toArray, List.getElem_cons_succ, List.getElem_cons_zero, List.setIfInBounds_toArray, List.set_cons_zero, List.set_cons_succ]
                    refine hm_run 2 90 (.pointer (some ⟨bR, 0, none⟩)) rfl rfl (by kernel_rfl) (by kernel_rfl) (by kernel_rfl) (fun _ _ _ h => h) rfl (fun _ _ => rfl) True.intro ?_
                    try simp only [Act.put, List.getElem_toArray, List.getElem_cons_succ, List.getElem_cons_zero, List.setIfInBounds_toArray, List.set_cons_zero, List.set_cons_succ]
                    refine hm_two (i := 1) (j := 3) (by kernel_rfl) ?_ ?_
                    · as_aux_lemma =>
                        refine hm_step 1 rfl (by kernel_rfl) fun K hK => ?_
                        try simp only [Act.put, List.getElem_toArray, List.getElem_cons_succ, List.getElem_cons_zero, List.setIfInBounds_toArray, List.set_cons_zero, List.set_cons_succ]
                        refine mo_load_cell E 25 (.tmp 88) rfl rfl List.mem_cons_self Try.underlying25 rfl (v := .slice p3 j c3) (by rw [arr_get _ _ 1 (by decide)]; exact congrArg some (ups_at _ _ _)) ?_
                        refine hK _ _ True.intro ?_
                        clear hK K
                        try simp only [Act.put, List.getElem_toArray, List.getElem_cons_succ, List.getElem_cons_zero, List.setIfInBounds_toArray, List.set_cons_zero, List.set_cons_succ]
                        refine hm_one (i := 3) (by kernel_rfl) ?_
                        refine hm_step 3 rfl (by kernel_rfl) fun K hK => ?_
                        try simp only [Act.put, List.getElem_toArray, List.getElem_cons_succ, List.getElem_cons_zero, List.setIfInBounds_toArray, List.set_cons_zero, List.set_cons_succ]
                        go_simp
                        go_at_call 28
                        refine (qin_any (Lib.hid (E.out.qd (List.mem_cons_of_mem _ List.mem_cons_self) QD.out)) PI).mono ?_
                        rintro e1' w7 ⟨v7, t, u7, e7, xs7, rfl, hb, hq, ⟨U4, rfl, ho⟩, hI⟩
                        have PE := Lib.hid hI
                        have TI := Lib.hid (ho.mono E.out.below.size)
                        have KT := E.out.qkeep (i := 1) rfl hb
                        replace N3 := Lib.hid (N3.out.keep KT (by decide))
                        replace I3 := Lib.hid (fun i h => (I3.out i h).keep KT (by decide) (by decide))
                        replace QD := Lib.hid hq
                        replace E := Lib.hid (E.out.qcall (i := 1) rfl hb)
                        simp only [List.set_cons_zero, List.set_cons_succ] at E
                        clear KT hb hq ho hI PI
                        refine hK _ _ True.intro ?_
                        clear hK K
                        try simp only [Act.put, List.getElem_toArray, List.getElem_cons_succ, List.getElem_cons_zero, List.setIfInBounds_toArray, List.set_cons_zero, List.set_cons_succ]
                        refine hm_one (i := 4) (by kernel_rfl) ?_
                        refine hm_step 4 rfl (by kernel_rfl) fun K hK => ?_
                        try simp only [Act.put, List.getElem_toArray, List.getElem_cons_succ, List.getElem_cons_zero, List.setIfInBounds_toArray, List.set_cons_zero, List.set_cons_succ]
                        refine mo_vbs 25 67 36 1 _ rfl U4 (one_arr TI.out.1.at.one) (by unfold maxLen; omega) (ps := #[(0, .agg (arr 36 U4))]) (by kernel_rfl) (fun W => run_bs1 Try.underlying25 infoIn3 (by omega) (by omega) _ (arr_size _ _) W) (arr_vs _ _) ?_
                        intro p13 g13 w13 N13 hb13
                        replace E := Lib.hid (E.out.call hb13.out)
                        replace QD := Lib.hid (QD.out.below hb13.out)
                        replace TI := Lib.hid (TI.out.below hb13.out)
                        replace N3 := Lib.hid (N3.out.below hb13.out)
                        replace I3 := Lib.hid (fun i h => (I3.out i h).below hb13.out)
                        clear hb13
                        refine hK _ _ True.intro ?_
                        clear hK K
                        try simp only [Act.put, List.getElem_toArray, List.getElem_cons_succ, List.getElem_cons_zero, List.setIfInBounds_toArray, List.set_cons_zero, List.set_cons_succ]
                        refine hm_one (i := 5) (by kernel_rfl) ?_
                        refine hm_step 5 rfl (by kernel_rfl) fun K hK => ?_
                        try simp only [Act.put, List.getElem_toArray, List.getElem_cons_succ, List.getElem_cons_zero, List.setIfInBounds_toArray, List.set_cons_zero, List.set_cons_succ]
                        refine mo_vapp 25 67 36 96 Try.underlying25 infoIn3 (by first | rfl | exact arr_size _ _) (by omega) (.tmp 89) (.tmp 92) rfl rfl N3 rfl (Lib.hid N13.out.row) (by unfold maxLen; omega) (by omega) ?_
                        intro p14 g14 c14 w14 N14 hg14
                        have KT := Lib.hid (KeepT.of_grown N3.out hg14.out)
                        have BU := Lib.hid (N3.out.under hg14.out (Nat.le_refl _) E.out.below.size)
                        replace E := Lib.hid (E.out.keepT BU.out KT.out (by intro p hp; simp only [List.mem_cons, List.not_mem_nil, or_false] at hp; rcases hp with rfl | rfl | rfl <;> first | exact (by decide : (28 : TypeId) ≠ 67) | exact (by decide : (58 : TypeId) ≠ 67)))
                        replace QD := Lib.hid (QD.out.keepB BU.out KT.out (by decide))
                        have I14 : Hid (∀ i (h : i < (ts ++ [t]).length), InNil W.heap.size w14 (fun x => (vcat V3 (j * 36) U4) (i * 36 + x)) (ts ++ [t])[i]) := Lib.hid (fun i h => by
                          rw [List.length_append, List.length_singleton, TL.out] at h
                          by_cases e : i = j
                          · subst e
                            have e2 : (ts ++ [t])[i]'(by rw [List.length_append, List.length_singleton, TL.out]; exact h) = t := by
                              rw [List.getElem_append_right (by rw [TL.out]; omega)]
                              simp
                            rw [e2]
                            exact (TI.out.keep KT.out (by decide) (by decide)).to fun y hy => vcat_hi.symm
                          · have hi : i < ts.length := by rw [TL.out]; omega
                            have e2 : (ts ++ [t])[i]'(by rw [List.length_append, List.length_singleton, TL.out]; exact h) = ts[i] := List.getElem_append_left hi
                            rw [e2]
                            exact ((I3.out i hi).keep KT.out (by decide) (by decide)).to fun y hy => (vcat_lo (by omega) hy).symm)
                        clear KT BU hg14 N13 N3 I3 TI
                        refine hK _ _ True.intro ?_
                        clear hK K
                        try simp only [Act.put, List.getElem_toArray, List.getElem_cons_succ, List.getElem_cons_zero, List.setIfInBounds_toArray, List.set_cons_zero, List.set_cons_succ]
                        refine hm_run 6 94 (.pointer (some ⟨b6, 1, none⟩)) rfl rfl (by kernel_rfl) (by kernel_rfl) (by kernel_rfl) (fun _ _ _ h => h) rfl (fun _ _ => rfl) True.intro ?_
                        try simp only [Act.put, List.getElem_toArray, List.getElem_cons_succ, List.getElem_cons_zero, List.setIfInBounds_toArray, List.set_cons_zero, List.set_cons_succ]
                        refine hm_one (i := 7) (by kernel_rfl) ?_
                        refine hm_step 7 rfl (by kernel_rfl) fun K hK => ?_
                        try simp only [Act.put, List.getElem_toArray, List.getElem_cons_succ, List.getElem_cons_zero, List.setIfInBounds_toArray, List.set_cons_zero, List.set_cons_succ]
                        refine mo_store_cello 0 E 25 (.tmp 94) (.tmp 93) rfl rfl rfl rfl (by kernel_rfl) rfl rfl (by decide) (v := .slice p14 (j + 1) c14) ?_
                        intro w8 E8 HO
                        replace QD := Lib.hid (QD.out.xst (E.out.ge _ List.mem_cons_self) HO.out (by decide))
                        have KT := KeepT.of_only HO.out.1 HO.out.2
                        replace N14 := Lib.hid (N14.out.keep KT (by decide))
                        replace I14 := Lib.hid (fun i h => (I14.out i h).keep KT (by decide) (by decide))
                        rw [ups_ups] at E8
                        clear KT HO E
                        simp only [List.set_cons_zero] at E8
                        refine hK _ _ True.intro ?_
                        clear hK K
                        try simp only [Act.put, List.getElem_toArray, List.getElem_cons_succ, List.getElem_cons_zero, List.setIfInBounds_toArray, List.set_cons_zero, List.set_cons_succ]
                        refine wpAnyH_done (by kernel_rfl) ?_ _
                        have TL2 := Lib.hid (show (ts ++ [t]).length = j + 1 by rw [List.length_append, List.length_singleton, TL.out])
                        replace PE := Lib.hid (PE.out.eq (k' := (pRep pIn q1 xs7).bind fun l s => k3 a1 m (ts ++ [t] ++ l) s) (congrArg (Res.bind (pRep pIn q1 xs7)) (funext fun l => funext fun s => by rw [List.append_assoc]; rfl)))
                        clear TL
                        simp only [noPanic]
                        go_wp2
                        go_roundg q1
                        case measure => omega
                        case rel => exact ⟨j + 1, p14, g14, c14, _, u7, e7, xs7, ts ++ [t], by omega, by go_num, TL2, N14, I14, QD, E8, PE, Lib.hid (fun _ => by omega)⟩
                    · as_aux_lemma =>
                        refine hm_step 3 rfl (by kernel_rfl) fun K hK => ?_
                        try simp only [Act.put, List.getElem_toArray, List.getElem_cons_succ, List.getElem_cons_zero, List.setIfInBounds_toArray, List.set_cons_zero, List.set_cons_succ]
                        go_simp
                        go_at_call 28
                        refine (qin_any (Lib.hid (E.out.qd (List.mem_cons_of_mem _ List.mem_cons_self) QD.out)) PI).mono ?_
                        rintro e1' w7 ⟨v7, t, u7, e7, xs7, rfl, hb, hq, ⟨U4, rfl, ho⟩, hI⟩
                        have PE := Lib.hid hI
                        have TI := Lib.hid (ho.mono E.out.below.size)
                        have KT := E.out.qkeep (i := 1) rfl hb
                        replace N3 := Lib.hid (N3.out.keep KT (by decide))
                        replace I3 := Lib.hid (fun i h => (I3.out i h).keep KT (by decide) (by decide))
                        replace QD := Lib.hid hq
                        replace E := Lib.hid (E.out.qcall (i := 1) rfl hb)
                        simp only [List.set_cons_zero, List.set_cons_succ] at E
                        clear KT hb hq ho hI PI
                        refine hK _ _ True.intro ?_
                        clear hK K
                        try simp only [Act.put, List.getElem_toArray, List.getElem_cons_succ, List.getElem_cons_zero, List.setIfInBounds_toArray, List.set_cons_zero, List.set_cons_succ]
                        refine hm_two (i := 1) (j := 4) (by kernel_rfl) ?_ ?_
                        · as_aux_lemma =>
                            refine hm_step 1 rfl (by kernel_rfl) fun K hK => ?_
                            try simp only [Act.put, List.getElem_toArray, List.getElem_cons_succ, List.getElem_cons_zero, List.setIfInBounds_toArray, List.set_cons_zero, List.set_cons_succ]
                            refine mo_load_cell E 25 (.tmp 88) rfl rfl List.mem_cons_self Try.underlying25 rfl (v := .slice p3 j c3) (by rw [arr_get _ _ 1 (by decide)]; exact congrArg some (ups_at _ _ _)) ?_
                            refine hK _ _ True.intro ?_
                            clear hK K
                            try simp only [Act.put, List.getElem_toArray, List.getElem_cons_succ, List.getElem_cons_zero, List.setIfInBounds_toArray, List.set_cons_zero, List.set_cons_succ]
                            refine hm_one (i := 4) (by kernel_rfl) ?_
                            refine hm_step 4 rfl (by kernel_rfl) fun K hK => ?_
                            try simp only [Act.put, List.getElem_toArray, List.getElem_cons_succ, List.getElem_cons_zero, List.setIfInBounds_toArray, List.set_cons_zero, List.set_cons_succ]
                            refine mo_vbs 25 67 36 1 _ rfl U4 (one_arr TI.out.1.at.one) (by unfold maxLen; omega) (ps := #[(0, .agg (arr 36 U4))]) (by kernel_rfl) (fun W => run_bs1 Try.underlying25 infoIn3 (by omega) (by omega) _ (arr_size _ _) W) (arr_vs _ _) ?_
                            intro p13 g13 w13 N13 hb13
                            replace E := Lib.hid (E.out.call hb13.out)
                            replace QD := Lib.hid (QD.out.below hb13.out)
                            replace TI := Lib.hid (TI.out.below hb13.out)
                            replace N3 := Lib.hid (N3.out.below hb13.out)
                            replace I3 := Lib.hid (fun i h => (I3.out i h).below hb13.out)
                            clear hb13
                            refine hK _ _ True.intro ?_
                            clear hK K
                            try simp only [Act.put, List.getElem_toArray, List.getElem_cons_succ, List.getElem_cons_zero, List.setIfInBounds_toArray, List.set_cons_zero, List.set_cons_succ]
                            refine hm_one (i := 5) (by kernel_rfl) ?_
                            refine hm_step 5 rfl (by kernel_rfl) fun K hK => ?_
                            try simp only [Act.put, List.getElem_toArray, List.getElem_cons_succ, List.getElem_cons_zero, List.setIfInBounds_toArray, List.set_cons_zero, List.set_cons_succ]
                            refine mo_vapp 25 67 36 96 Try.underlying25 infoIn3 (by first | rfl | exact arr_size _ _) (by omega) (.tmp 89) (.tmp 92) rfl rfl N3 rfl (Lib.hid N13.out.row) (by unfold maxLen; omega) (by omega) ?_
                            intro p14 g14 c14 w14 N14 hg14
                            have KT := Lib.hid (KeepT.of_grown N3.out hg14.out)
                            have BU := Lib.hid (N3.out.under hg14.out (Nat.le_refl _) E.out.below.size)
                            replace E := Lib.hid (E.out.keepT BU.out KT.out (by intro p hp; simp only [List.mem_cons, List.not_mem_nil, or_false] at hp; rcases hp with rfl | rfl | rfl <;> first | exact (by decide : (28 : TypeId) ≠ 67) | exact (by decide : (58 : TypeId) ≠ 67)))
                            replace QD := Lib.hid (QD.out.keepB BU.out KT.out (by decide))
                            have I14 : Hid (∀ i (h : i < (ts ++ [t]).length), InNil W.heap.size w14 (fun x => (vcat V3 (j * 36) U4) (i * 36 + x)) (ts ++ [t])[i]) := Lib.hid (fun i h => by
                              rw [List.length_append, List.length_singleton, TL.out] at h
                              by_cases e : i = j
                              · subst e
                                have e2 : (ts ++ [t])[i]'(by rw [List.length_append, List.length_singleton, TL.out]; exact h) = t := by
                                  rw [List.getElem_append_right (by rw [TL.out]; omega)]
                                  simp
                                rw [e2]
                                exact (TI.out.keep KT.out (by decide) (by decide)).to fun y hy => vcat_hi.symm
                              · have hi : i < ts.length := by rw [TL.out]; omega
                                have e2 : (ts ++ [t])[i]'(by rw [List.length_append, List.length_singleton, TL.out]; exact h) = ts[i] := List.getElem_append_left hi
                                rw [e2]
                                exact ((I3.out i hi).keep KT.out (by decide) (by decide)).to fun y hy => (vcat_lo (by omega) hy).symm)
                            clear KT BU hg14 N13 N3 I3 TI
                            refine hK _ _ True.intro ?_
                            clear hK K
                            try simp only [Act.put, List.getElem_toArray, List.getElem_cons_succ, List.getElem_cons_zero, List.setIfInBounds_toArray, List.set_cons_zero, List.set_cons_succ]
                            refine hm_run 6 94 (.pointer (some ⟨b6, 1, none⟩)) rfl rfl (by kernel_rfl) (by kernel_rfl) (by kernel_rfl) (fun _ _ _ h => h) rfl (fun _ _ => rfl) True.intro ?_
                            try simp only [Act.put, List.getElem_toArray, List.getElem_cons_succ, List.getElem_cons_zero, List.setIfInBounds_toArray, List.set_cons_zero, List.set_cons_succ]
                            refine hm_one (i := 7) (by kernel_rfl) ?_
                            refine hm_step 7 rfl (by kernel_rfl) fun K hK => ?_
                            try simp only [Act.put, List.getElem_toArray, List.getElem_cons_succ, List.getElem_cons_zero, List.setIfInBounds_toArray, List.set_cons_zero, List.set_cons_succ]
                            refine mo_store_cello 0 E 25 (.tmp 94) (.tmp 93) rfl rfl rfl rfl (by kernel_rfl) rfl rfl (by decide) (v := .slice p14 (j + 1) c14) ?_
                            intro w8 E8 HO
                            replace QD := Lib.hid (QD.out.xst (E.out.ge _ List.mem_cons_self) HO.out (by decide))
                            have KT := KeepT.of_only HO.out.1 HO.out.2
                            replace N14 := Lib.hid (N14.out.keep KT (by decide))
                            replace I14 := Lib.hid (fun i h => (I14.out i h).keep KT (by decide) (by decide))
                            rw [ups_ups] at E8
                            clear KT HO E
                            simp only [List.set_cons_zero] at E8
                            refine hK _ _ True.intro ?_
                            clear hK K
                            try simp only [Act.put, List.getElem_toArray, List.getElem_cons_succ, List.getElem_cons_zero, List.setIfInBounds_toArray, List.set_cons_zero, List.set_cons_succ]
                            refine wpAnyH_done (by kernel_rfl) ?_ _
                            have TL2 := Lib.hid (show (ts ++ [t]).length = j + 1 by rw [List.length_append, List.length_singleton, TL.out])
                            replace PE := Lib.hid (PE.out.eq (k' := (pRep pIn q1 xs7).bind fun l s => k3 a1 m (ts ++ [t] ++ l) s) (congrArg (Res.bind (pRep pIn q1 xs7)) (funext fun l => funext fun s => by rw [List.append_assoc]; rfl)))
                            clear TL
                            simp only [noPanic]
                            go_wp2
                            go_roundg q1
                            case measure => omega
                            case rel => exact ⟨j + 1, p14, g14, c14, _, u7, e7, xs7, ts ++ [t], by omega, by go_num, TL2, N14, I14, QD, E8, PE, Lib.hid (fun _ => by omega)⟩
                        · as_aux_lemma =>
                            refine hm_step 4 rfl (by kernel_rfl) fun K hK => ?_
                            try simp only [Act.put, List.getElem_toArray, List.getElem_cons_succ, List.getElem_cons_zero, List.setIfInBounds_toArray, List.set_cons_zero, List.set_cons_succ]
                            refine mo_vbs 25 67 36 1 _ rfl U4 (one_arr TI.out.1.at.one) (by unfold maxLen; omega) (ps := #[(0, .agg (arr 36 U4))]) (by kernel_rfl) (fun W => run_bs1 Try.underlying25 infoIn3 (by omega) (by omega) _ (arr_size _ _) W) (arr_vs _ _) ?_
                            intro p13 g13 w13 N13 hb13
                            replace E := Lib.hid (E.out.call hb13.out)
                            replace QD := Lib.hid (QD.out.below hb13.out)
                            replace TI := Lib.hid (TI.out.below hb13.out)
                            replace N3 := Lib.hid (N3.out.below hb13.out)
                            replace I3 := Lib.hid (fun i h => (I3.out i h).below hb13.out)
                            clear hb13
                            refine hK _ _ True.intro ?_
                            clear hK K
                            try simp only [Act.put, List.getElem_toArray, List.getElem_cons_succ, List.getElem_cons_zero, List.setIfInBounds_toArray, List.set_cons_zero, List.set_cons_succ]
                            refine hm_one (i := 1) (by kernel_rfl) ?_
                            refine hm_step 1 rfl (by kernel_rfl) fun K hK => ?_
                            try simp only [Act.put, List.getElem_toArray, List.getElem_cons_succ, List.getElem_cons_zero, List.setIfInBounds_toArray, List.set_cons_zero, List.set_cons_succ]
                            refine mo_load_cell E 25 (.tmp 88) rfl rfl List.mem_cons_self Try.underlying25 rfl (v := .slice p3 j c3) (by rw [arr_get _ _ 1 (by decide)]; exact congrArg some (ups_at _ _ _)) ?_
                            refine hK _ _ True.intro ?_
                            clear hK K
                            try simp only [Act.put, List.getElem_toArray, List.getElem_cons_succ, List.getElem_cons_zero, List.setIfInBounds_toArray, List.set_cons_zero, List.set_cons_succ]
                            refine hm_one (i := 5) (by kernel_rfl) ?_
                            refine hm_step 5 rfl (by kernel_rfl) fun K hK => ?_
                            try simp only [Act.put, List.getElem_toArray, List.getElem_cons_succ, List.getElem_cons_zero, List.setIfInBounds_toArray, List.set_cons_zero, List.set_cons_succ]
                            refine mo_vapp 25 67 36 96 Try.underlying25 infoIn3 (by first | rfl | exact arr_size _ _) (by omega) (.tmp 89) (.tmp 92) rfl rfl N3 rfl (Lib.hid N13.out.row) (by unfold maxLen; omega) (by omega) ?_
                            intro p14 g14 c14 w14 N14 hg14
                            have KT := Lib.hid (KeepT.of_grown N3.out hg14.out)
                            have BU := Lib.hid (N3.out.under hg14.out (Nat.le_refl _) E.out.below.size)
                            replace E := Lib.hid (E.out.keepT BU.out KT.out (by intro p hp; simp only [List.mem_cons, List.not_mem_nil, or_false] at hp; rcases hp with rfl | rfl | rfl <;> first | exact (by decide : (28 : TypeId) ≠ 67) | exact (by decide : (58 : TypeId) ≠ 67)))
                            replace QD := Lib.hid (QD.out.keepB BU.out KT.out (by decide))
                            have I14 : Hid (∀ i (h : i < (ts ++ [t]).length), InNil W.heap.size w14 (fun x => (vcat V3 (j * 36) U4) (i * 36 + x)) (ts ++ [t])[i]) := Lib.hid (fun i h => by
                              rw [List.length_append, List.length_singleton, TL.out] at h
                              by_cases e : i = j
                              · subst e
                                have e2 : (ts ++ [t])[i]'(by rw [List.length_append, List.length_singleton, TL.out]; exact h) = t := by
                                  rw [List.getElem_append_right (by rw [TL.out]; omega)]
                                  simp
                                rw [e2]
                                exact (TI.out.keep KT.out (by decide) (by decide)).to fun y hy => vcat_hi.symm
                              · have hi : i < ts.length := by rw [TL.out]; omega
                                have e2 : (ts ++ [t])[i]'(by rw [List.length_append, List.length_singleton, TL.out]; exact h) = ts[i] := List.getElem_append_left hi
                                rw [e2]
                                exact ((I3.out i hi).keep KT.out (by decide) (by decide)).to fun y hy => (vcat_lo (by omega) hy).symm)
                            clear KT BU hg14 N13 N3 I3 TI
                            refine hK _ _ True.intro ?_
                            clear hK K
                            try simp only [Act.put, List.getElem_toArray, List.getElem_cons_succ, List.getElem_cons_zero, List.setIfInBounds_toArray, List.set_cons_zero, List.set_cons_succ]
                            refine hm_run 6 94 (.pointer (some ⟨b6, 1, none⟩)) rfl rfl (by kernel_rfl) (by kernel_rfl) (by kernel_rfl) (fun _ _ _ h => h) rfl (fun _ _ => rfl) True.intro ?_
                            try simp only [Act.put, List.getElem_toArray, List.getElem_cons_succ, List.getElem_cons_zero, List.setIfInBounds_toArray, List.set_cons_zero, List.set_cons_succ]
                            refine hm_one (i := 7) (by kernel_rfl) ?_
                            refine hm_step 7 rfl (by kernel_rfl) fun K hK => ?_
                            try simp only [Act.put, List.getElem_toArray, List.getElem_cons_succ, List.getElem_cons_zero, List.setIfInBounds_toArray, List.set_cons_zero, List.set_cons_succ]
                            refine mo_store_cello 0 E 25 (.tmp 94) (.tmp 93) rfl rfl rfl rfl (by kernel_rfl) rfl rfl (by decide) (v := .slice p14 (j + 1) c14) ?_
                            intro w8 E8 HO
                            replace QD := Lib.hid (QD.out.xst (E.out.ge _ List.mem_cons_self) HO.out (by decide))
                            have KT := KeepT.of_only HO.out.1 HO.out.2
                            replace N14 := Lib.hid (N14.out.keep KT (by decide))
                            replace I14 := Lib.hid (fun i h => (I14.out i h).keep KT (by decide) (by decide))
                            rw [ups_ups] at E8
                            clear KT HO E
                            simp only [List.set_cons_zero] at E8
                            refine hK _ _ True.intro ?_
                            clear hK K
                            try simp only [Act.put, List.getElem_toArray, List.getElem_cons_succ, List.getElem_cons_zero, List.setIfInBounds_toArray, List.set_cons_zero, List.set_cons_succ]
                            refine wpAnyH_done (by kernel_rfl) ?_ _
                            have TL2 := Lib.hid (show (ts ++ [t]).length = j + 1 by rw [List.length_append, List.length_singleton, TL.out])
                            replace PE := Lib.hid (PE.out.eq (k' := (pRep pIn q1 xs7).bind fun l s => k3 a1 m (ts ++ [t] ++ l) s) (congrArg (Res.bind (pRep pIn q1 xs7)) (funext fun l => funext fun s => by rw [List.append_assoc]; rfl)))
                            clear TL
                            simp only [noPanic]
                            go_wp2
                            go_roundg q1
                            case measure => omega
                            case rel => exact ⟨j + 1, p14, g14, c14, _, u7, e7, xs7, ts ++ [t], by omega, by go_num, TL2, N14, I14, QD, E8, PE, Lib.hid (fun _ => by omega)⟩
                  · have c2 : (e3 == 0) = false := by simp; exact h0
                    have IE := Lib.hid (PE.out.fail h0 (k3 a1 m ts r3))
                    go_wp2_with (first
                      | ((with_reducible refine wpList_at 83 rfl ?_); refine mem_load_cell E 29 rfl (.tmp 82) rfl rfl (List.mem_cons_of_mem _ List.mem_cons_self) Try.underlying29 rfl (v := .int .i64 e3) rfl ?_))
                    go_meet
                    exact ⟨_, _, ts, u3, e3, r3, rfl, E, QD, IE, Lib.hid ⟨p3, g3, c3, V3, by rw [TL.out], by rw [TL.out]; omega, by rw [TL.out]; exact N3.out, I3.out⟩, fun h => absurd h h0⟩
                · obtain rfl : j = n := by omega
                  obtain rfl : kk = 0 := by omega
                  clear hkk
                  have IE : Hid (Inv whole e3 (k3 a1 m ts r3)) := Lib.hid (PE.out.eq (by show k3 a1 m (ts ++ []) r3 = _; rw [List.append_nil]))
                  have c1 : ¬ (((j : Nat) : Int) < ((j : Nat) : Int)) := by omega
                  go_wp2
                  go_meet
                  exact ⟨_, _, ts, u3, e3, r3, rfl, E, QD, IE, Lib.hid ⟨p3, g3, c3, V3, by rw [TL.out], by rw [TL.out]; omega, by rw [TL.out]; exact N3.out, I3.out⟩, fun h => ⟨by rw [TL.out]; exact N0.out h, by rw [TL.out]; exact NB⟩⟩
          case rest =>
            clear E QD I N0
            obtain ⟨q10, vi, ins, u, e, xs, rfl, E, QD, I, IO, N0⟩ := hcut
            refine hK3 _ _ ?_
            clear hK3
            obtain ⟨V2, hV2⟩ : ∃ V2 : Nat → Value, V2 = ups V1 1 vi := ⟨_, rfl⟩
            have HV2 := Lib.hid hV2
            rw [← hV2] at E
            clear hV2
            have IH : Hid (Inv whole e ((pCnt 2000 xs).bind fun n r => (pRep pOut n r).bind fun outs r => k4 a1 m ins outs r)) := Lib.hid (by
              by_cases h0 : e = 0
              · exact I.out.eq ((if_neg (N0 h0).1).trans (Res.bind_assoc _ _ _))
              · exact I.out.fail h0 _)
            have IL : Hid (ins.length * 96 ≤ 140737488351232) := Lib.hid (by obtain ⟨_, _, _, _, _, h, _⟩ := IO.out; exact h)
            clear I N0
            refine Go.wp_seq_k fun K4 hK4 => ?_
            go_cut [9] (fun s9 wx => ∃ (n : Nat) (u : Value) (e : Int) (xs : List Nat), s9 = .int .i64 (n : Int) ∧ Hid (n ≤ 2000) ∧ Hid (Mem W [(b6, 28, arr 4 V2), (bR, 58, #[u, .int .i64 e]), (b0, 28, arr 4 txz)] wx) ∧ Hid (QDat W wx u xs) ∧ Hid (Inv whole e ((pRep pOut n xs).bind fun outs r => k4 a1 m ins outs r)) ∧ Hid (InsNil W.heap.size wx vi ins))
            case first =>
              go_wp2_with (go_at_call 27; refine (qcount2000 (Lib.hid (E.out.qd (List.mem_cons_of_mem _ List.mem_cons_self) QD.out)) IH).mono ?_; rintro e9' w9 ⟨v9, n, u, e, xs, rfl, hb, hq, ⟨rfl, hn⟩, hI⟩; have I := Lib.hid hI; have NBh := Lib.hid hn; have KT := E.out.qkeep (i := 1) rfl hb; replace IO := Lib.hid (IO.out.keep KT (by decide) (by decide) (by decide)); replace QD := Lib.hid hq; replace E := Lib.hid (E.out.qcall (i := 1) rfl hb); simp only [List.set_cons_zero, List.set_cons_succ] at E; clear hI hq hb hn KT IH)
              go_meet
              exact ⟨n, u, e, xs, rfl, NBh, E, QD, I, IO⟩
            case rest =>
              clear E QD IH IO
              obtain ⟨n, u, e, xs, rfl, NBh, E, QD, I, IO⟩ := hcut
              refine hK4 _ _ ?_
              clear hK4
              refine Go.wp_seq_k fun K5 hK5 => ?_
              have NB := NBh.out
              go_cut [11] (fun s wx => ∃ (q : Int) (vx : Value) (ts : List TOut) (u : Value) (e : Int) (xs : List Nat), s = .int .i64 q ∧ Hid (Mem W [(b6, 28, arr 4 (ups V2 2 vx)), (bR, 58, #[u, .int .i64 e]), (b0, 28, arr 4 txz)] wx) ∧ Hid (QDat W wx u xs) ∧ Hid (Inv whole e (k4 a1 m ins ts xs)) ∧ Hid (OutsOwn W.heap.size wx vx ts) ∧ Hid (InsNil W.heap.size wx vi ins))
              case first =>
                as_aux_lemma =>
                  replace E := Lib.hid (E.out.v1 (i := 2) (v := .slice none 0 0) (by rw [HV2.out, ups_ne _ _ (by decide), HV1.out]; rfl))
                  go_wp2
                  go_loopg [11] n (fun gk i wr => ∃ (j : Nat) (p : Option Addr) (g c : Nat) (V : Nat → Value) (u : Value) (e : Int) (xs : List Nat) (ts : List TOut), j + gk = n ∧ i = .int .i64 (j : Int) ∧ Hid (ts.length = j) ∧ Hid (VOwn 70 2 W.heap.size wr p g j c V) ∧ Hid (∀ i (h : i < ts.length), OutOwn W.heap.size wr (fun x => V (i * 2 + x)) ts[i]) ∧ Hid (InsNil W.heap.size wr vi ins) ∧ Hid (QDat W wr u xs) ∧ Hid (Mem W [(b6, 28, arr 4 (ups V2 2 (.slice p j c))), (bR, 58, #[u, .int .i64 e]), (b0, 28, arr 4 txz)] wr) ∧ Hid (Inv whole e ((pRep pOut gk xs).bind fun l s => k4 a1 m ins (ts ++ l) s)))
                  case atStart => exact ⟨0, none, 0, 0, fun _ => undef, u, e, xs, [], by omega, rfl, Lib.hid rfl, Lib.hid (vown_nothing _ _ _ _ _ E.out.below.size), Lib.hid (fun i h => by simp at h), IO, QD, E, Lib.hid I.out⟩
                  case round =>
                    clear E QD I IO
                    obtain ⟨j, p3, g3, c3, V3, u3, e3, r3, ts, hj, rfl, TL, N3, I3, IO, QD, E, PE⟩ := hrel
                    obtain ⟨kk, hkk⟩ : ∃ kk : Nat, kk = gk := ⟨_, rfl⟩
                    rw [← hkk] at hj PE
                    by_cases hlt : j < n
                    · obtain ⟨q1, rfl⟩ : ∃ q1, kk = q1 + 1 := ⟨kk - 1, by omega⟩
                      have c1 : ((j : Nat) : Int) < ((n : Nat) : Int) := by omega
                      by_cases h0 : e3 = 0
                      · subst h0
                        have PI := Lib.hid (PE.out.eq pRep_bind)
                        clear PE
                        go_upto_region 20 with (first
                          | ((with_reducible refine wpList_at 104 rfl ?_); refine mem_load_cell E 29 rfl (.tmp 103) rfl rfl (List.mem_cons_of_mem _ List.mem_cons_self) Try.underlying29 rfl (v := .int .i64 0) rfl ?_))
                        refine Go.wp_mono (Q := noPanic _) ?_ noPanic_of
                        have E1 := Lib.hid (Mem.nil wr)
                        refine wp_region_memS (S := fun _ => True) E1 (by kernel_rfl) ?_
                        clear E1
                        intro wx E0
                        replace E := Lib.hid (E.out.call E0.out.below)
                        replace QD := Lib.hid (QD.out.below E0.out.below)
                        replace N3 := Lib.hid (N3.out.below E0.out.below)
                        replace I3 := Lib.hid (fun i h => (I3.out i h).below E0.out.below)
                        replace IO := Lib.hid (IO.out.below E0.out.below)
                        clear E0
                        refine hm_run 0 109 (.pointer (some ⟨b6, 2, none⟩)) rfl rfl (by kernel_rfl) (by kernel_rfl) (by kernel_rfl) (fun _ _ _ h => h) rfl (fun _ _ => rfl) True.intro ?_
                        try simp only [Act.put, List.getElem_toArray, List.getElem_cons_succ, List.getElem_cons_zero, List.setIfInBounds_toArray, List.set_cons_zero, List.set_cons_succ]
                        refine hm_run 2 111 (.pointer (some ⟨bR, 0, none⟩)) rfl rfl (by kernel_rfl) (by kernel_rfl) (by kernel_rfl) (fun _ _ _ h => h) rfl (fun _ _ => rfl) True.intro ?_
                        try simp only [Act.put, List.getElem_toArray, List.getElem_cons_succ, List.getElem_cons_zero, List.setIfInBounds_toArray, List.set_cons_zero, List.set_cons_succ]
                        refine hm_two (i := 1) (j := 3) (by kernel_rfl) ?_ ?_
                        · as_aux_lemma =>
                            refine hm_step 1 rfl (by kernel_rfl) fun K hK => ?_
                            try simp only [Act.put, List.getElem_toArray, List.getElem_cons_succ, List.getElem_cons_zero, List.setIfInBounds_toArray, List.set_cons_zero, List.set_cons_succ]
                            refine mo_load_cell E 26 (.tmp 109) rfl rfl List.mem_cons_self Try.underlying26 rfl (v := .slice p3 j c3) (by rw [arr_get _ _ 2 (by decide)]; exact congrArg some (ups_at _ _ _)) ?_
                            refine hK _ _ True.intro ?_
                            clear hK K
                            try simp only [Act.put, List.getElem_toArray, List.getElem_cons_succ, List.getElem_cons_zero, List.setIfInBounds_toArray, List.set_cons_zero, List.set_cons_succ]
                            refine hm_one (i := 3) (by kernel_rfl) ?_
                            refine hm_step 3 rfl (by kernel_rfl) fun K hK => ?_
                            try simp only [Act.put, List.getElem_toArray, List.getElem_cons_succ, List.getElem_cons_zero, List.setIfInBounds_toArray, List.set_cons_zero, List.set_cons_succ]
                            go_simp
                            go_at_call 29
                            refine (qout_any (Lib.hid (E.out.qd (List.mem_cons_of_mem _ List.mem_cons_self) QD.out)) PI).mono ?_
                            rintro e1' w7 ⟨v7, t, u7, e7, xs7, rfl, hb, hq, ⟨U4, rfl, ho⟩, hI⟩
                            have PE := Lib.hid hI
                            have TI := Lib.hid (ho.mono E.out.below.size)
                            have KT := E.out.qkeep (i := 1) rfl hb
                            replace N3 := Lib.hid (N3.out.keep KT (by decide))
                            replace I3 := Lib.hid (fun i h => (I3.out i h).keep KT (by decide))
                            replace IO := Lib.hid (IO.out.keep KT (by decide) (by decide) (by decide))
                            replace QD := Lib.hid hq
                            replace E := Lib.hid (E.out.qcall (i := 1) rfl hb)
                            simp only [List.set_cons_zero, List.set_cons_succ] at E
                            clear KT hb hq ho hI PI
                            refine hK _ _ True.intro ?_
                            clear hK K
                            try simp only [Act.put, List.getElem_toArray, List.getElem_cons_succ, List.getElem_cons_zero, List.setIfInBounds_toArray, List.set_cons_zero, List.set_cons_succ]
                            refine hm_one (i := 4) (by kernel_rfl) ?_
                            refine hm_step 4 rfl (by kernel_rfl) fun K hK => ?_
                            try simp only [Act.put, List.getElem_toArray, List.getElem_cons_succ, List.getElem_cons_zero, List.setIfInBounds_toArray, List.set_cons_zero, List.set_cons_succ]
                            refine mo_vbs 26 70 2 1 _ rfl U4 (one_arr (out_one TI.out)) (by unfold maxLen; omega) (ps := #[(0, .agg (arr 2 U4))]) (by kernel_rfl) (fun W => run_bs1 Try.underlying26 infoOut3 (by omega) (by omega) _ (arr_size _ _) W) (arr_vs _ _) ?_
                            intro p13 g13 w13 N13 hb13
                            replace E := Lib.hid (E.out.call hb13.out)
                            replace QD := Lib.hid (QD.out.below hb13.out)
                            replace TI := Lib.hid (TI.out.below hb13.out)
                            replace N3 := Lib.hid (N3.out.below hb13.out)
                            replace I3 := Lib.hid (fun i h => (I3.out i h).below hb13.out)
                            replace IO := Lib.hid (IO.out.below hb13.out)
                            clear hb13
                            refine hK _ _ True.intro ?_
                            clear hK K
                            try simp only [Act.put, List.getElem_toArray, List.getElem_cons_succ, List.getElem_cons_zero, List.setIfInBounds_toArray, List.set_cons_zero, List.set_cons_succ]
                            refine hm_one (i := 5) (by kernel_rfl) ?_
                            refine hm_step 5 rfl (by kernel_rfl) fun K hK => ?_
                            try simp only [Act.put, List.getElem_toArray, List.getElem_cons_succ, List.getElem_cons_zero, List.setIfInBounds_toArray, List.set_cons_zero, List.set_cons_succ]
                            refine mo_vapp 26 70 2 32 Try.underlying26 infoOut3 (by first | rfl | exact arr_size _ _) (by omega) (.tmp 110) (.tmp 113) rfl rfl N3 rfl (Lib.hid N13.out.row) (by unfold maxLen; omega) (by omega) ?_
                            intro p14 g14 c14 w14 N14 hg14
                            have KT := Lib.hid (KeepT.of_grown N3.out hg14.out)
                            have BU := Lib.hid (N3.out.under hg14.out (Nat.le_refl _) E.out.below.size)
                            replace E := Lib.hid (E.out.keepT BU.out KT.out (by intro p hp; simp only [List.mem_cons, List.not_mem_nil, or_false] at hp; rcases hp with rfl | rfl | rfl <;> first | exact (by decide : (28 : TypeId) ≠ 70) | exact (by decide : (58 : TypeId) ≠ 70)))
                            replace QD := Lib.hid (QD.out.keepB BU.out KT.out (by decide))
                            replace IO := Lib.hid (IO.out.keep KT.out (by decide) (by decide) (by decide))
                            have I14 : Hid (∀ i (h : i < (ts ++ [t]).length), OutOwn W.heap.size w14 (fun x => (vcat V3 (j * 2) U4) (i * 2 + x)) (ts ++ [t])[i]) := Lib.hid (fun i h => by
                              rw [List.length_append, List.length_singleton, TL.out] at h
                              by_cases e : i = j
                              · subst e
                                have e2 : (ts ++ [t])[i]'(by rw [List.length_append, List.length_singleton, TL.out]; exact h) = t := by
                                  rw [List.getElem_append_right (by rw [TL.out]; omega)]
                                  simp
                                rw [e2]
                                exact (TI.out.keep KT.out (by decide)).to fun y hy => vcat_hi.symm
                              · have hi : i < ts.length := by rw [TL.out]; omega
                                have e2 : (ts ++ [t])[i]'(by rw [List.length_append, List.length_singleton, TL.out]; exact h) = ts[i] := List.getElem_append_left hi
                                rw [e2]
                                exact ((I3.out i hi).keep KT.out (by decide)).to fun y hy => (vcat_lo (by omega) hy).symm)
                            clear KT BU hg14 N13 N3 I3 TI
                            refine hK _ _ True.intro ?_
                            clear hK K
                            try simp only [Act.put, List.getElem_toArray, List.getElem_cons_succ, List.getElem_cons_zero, List.setIfInBounds_toArray, List.set_cons_zero, List.set_cons_succ]
                            refine hm_run 6 115 (.pointer (some ⟨b6, 2, none⟩)) rfl rfl (by kernel_rfl) (by kernel_rfl) (by kernel_rfl) (fun _ _ _ h => h) rfl (fun _ _ => rfl) True.intro ?_
                            try simp only [Act.put, List.getElem_toArray, List.getElem_cons_succ, List.getElem_cons_zero, List.setIfInBounds_toArray, List.set_cons_zero, List.set_cons_succ]
                            refine hm_one (i := 7) (by kernel_rfl) ?_
                            refine hm_step 7 rfl (by kernel_rfl) fun K hK => ?_
                            try simp only [Act.put, List.getElem_toArray, List.getElem_cons_succ, List.getElem_cons_zero, List.setIfInBounds_toArray, List.set_cons_zero, List.set_cons_succ]
                            refine mo_store_cello 0 E 26 (.tmp 115) (.tmp 114) rfl rfl rfl rfl (by kernel_rfl) rfl rfl (by decide) (v := .slice p14 (j + 1) c14) ?_
                            intro w8 E8 HO
                            replace QD := Lib.hid (QD.out.xst (E.out.ge _ List.mem_cons_self) HO.out (by decide))
                            have KT := KeepT.of_only HO.out.1 HO.out.2
                            replace N14 := Lib.hid (N14.out.keep KT (by decide))
                            replace I14 := Lib.hid (fun i h => (I14.out i h).keep KT (by decide))
                            replace IO := Lib.hid (IO.out.keep KT (by decide) (by decide) (by decide))
                            rw [ups_ups] at E8
                            clear KT HO E
                            simp only [List.set_cons_zero] at E8
                            refine hK _ _ True.intro ?_
                            clear hK K
                            try simp only [Act.put, List.getElem_toArray, List.getElem_cons_succ, List.getElem_cons_zero, List.setIfInBounds_toArray, List.set_cons_zero, List.set_cons_succ]
                            refine wpAnyH_done (by kernel_rfl) ?_ _
                            have TL2 := Lib.hid (show (ts ++ [t]).length = j + 1 by rw [List.length_append, List.length_singleton, TL.out])
                            replace PE := Lib.hid (PE.out.eq (k' := (pRep pOut q1 xs7).bind fun l s => k4 a1 m ins (ts ++ [t] ++ l) s) (congrArg (Res.bind (pRep pOut q1 xs7)) (funext fun l => funext fun s => by rw [List.append_assoc]; rfl)))
                            clear TL
                            simp only [noPanic]
                            go_wp2
                            go_roundg q1
                            case measure => omega
                            case rel => exact ⟨j + 1, p14, g14, c14, _, u7, e7, xs7, ts ++ [t], by omega, by go_num, TL2, N14, I14, IO, QD, E8, PE⟩
                        · as_aux_lemma =>
                            refine hm_step 3 rfl (by kernel_rfl) fun K hK => ?_
                            try simp only [Act.put, List.getElem_toArray, List.getElem_cons_succ, List.getElem_cons_zero, List.setIfInBounds_toArray, List.set_cons_zero, List.set_cons_succ]
                            go_simp
                            go_at_call 29
                            refine (qout_any (Lib.hid (E.out.qd (List.mem_cons_of_mem _ List.mem_cons_self) QD.out)) PI).mono ?_
                            rintro e1' w7 ⟨v7, t, u7, e7, xs7, rfl, hb, hq, ⟨U4, rfl, ho⟩, hI⟩
                            have PE := Lib.hid hI
                            have TI := Lib.hid (ho.mono E.out.below.size)
                            have KT := E.out.qkeep (i := 1) rfl hb
                            replace N3 := Lib.hid (N3.out.keep KT (by decide))
                            replace I3 := Lib.hid (fun i h => (I3.out i h).keep KT (by decide))
                            replace IO := Lib.hid (IO.out.keep KT (by decide) (by decide) (by decide))
                            replace QD := Lib.hid hq
                            replace E := Lib.hid (E.out.qcall (i := 1) rfl hb)
                            simp only [List.set_cons_zero, List.set_cons_succ] at E
                            clear KT hb hq ho hI PI
                            refine hK _ _ True.intro ?_
                            clear hK K
                            try simp only [Act.put, List.getElem_toArray, List.getElem_cons_succ, List.getElem_cons_zero, List.setIfInBounds_toArray, List.set_cons_zero, List.set_cons_succ]
                            refine hm_two (i := 1) (j := 4) (by kernel_rfl) ?_ ?_
                            · as_aux_lemma =>
                                refine hm_step 1 rfl (by kernel_rfl) fun K hK => ?_
                                try simp only [Act.put, List.getElem_toArray, List.getElem_cons_succ, List.getElem_cons_zero, List.setIfInBounds_toArray, List.set_cons_zero, List.set_cons_succ]
                                refine mo_load_cell E 26 (.tmp 109) rfl rfl List.mem_cons_self Try.underlying26 rfl (v := .slice p3 j c3) (by rw [arr_get _ _ 2 (by decide)]; exact congrArg some (ups_at _ _ _)) ?_
                                refine hK _ _ True.intro ?_
                                clear hK K
                                try simp only [Act.put, List.getElem_toArray, List.getElem_cons_succ, List.getElem_cons_zero, List.setIfInBounds_toArray, List.set_cons_zero, List.set_cons_succ]
                                refine hm_one (i := 4) (by kernel_rfl) ?_
                                refine hm_step 4 rfl (by kernel_rfl) fun K hK => ?_
                                try simp only [Act.put, List.getElem_toArray, List.getElem_cons_succ, List.getElem_cons_zero, List.setIfInBounds_toArray, List.set_cons_zero, List.set_cons_succ]
                                refine mo_vbs 26 70 2 1 _ rfl U4 (one_arr (out_one TI.out)) (by unfold maxLen; omega) (ps := #[(0, .agg (arr 2 U4))]) (by kernel_rfl) (fun W => run_bs1 Try.underlying26 infoOut3 (by omega) (by omega) _ (arr_size _ _) W) (arr_vs _ _) ?_
                                intro p13 g13 w13 N13 hb13
                                replace E := Lib.hid (E.out.call hb13.out)
                                replace QD := Lib.hid (QD.out.below hb13.out)
                                replace TI := Lib.hid (TI.out.below hb13.out)
                                replace N3 := Lib.hid (N3.out.below hb13.out)
                                replace I3 := Lib.hid (fun i h => (I3.out i h).below hb13.out)
                                replace IO := Lib.hid (IO.out.below hb13.out)
                                clear hb13
                                refine hK _ _ True.intro ?_
                                clear hK K
                                try simp only [Act.put, List.getElem_toArray, List.getElem_cons_succ, List.getElem_cons_zero, List.setIfInBounds_toArray, List.set_cons_zero, List.set_cons_succ]
                                refine hm_one (i := 5) (by kernel_rfl) ?_
                                refine hm_step 5 rfl (by kernel_rfl) fun K hK => ?_
                                try simp only [Act.put, List.getElem_toArray, List.getElem_cons_succ, List.getElem_cons_zero, List.setIfInBounds_toArray, List.set_cons_zero, List.set_cons_succ]
                                refine mo_vapp 26 70 2 32 Try.underlying26 infoOut3 (by first | rfl | exact arr_size _ _) (by omega) (.tmp 110) (.tmp 113) rfl rfl N3 rfl (Lib.hid N13.out.row) (by unfold maxLen; omega) (by omega) ?_
                                intro p14 g14 c14 w14 N14 hg14
                                have KT := Lib.hid (KeepT.of_grown N3.out hg14.out)
                                have BU := Lib.hid (N3.out.under hg14.out (Nat.le_refl _) E.out.below.size)
                                replace E := Lib.hid (E.out.keepT BU.out KT.out (by intro p hp; simp only [List.mem_cons, List.not_mem_nil, or_false] at hp; rcases hp with rfl | rfl | rfl <;> first | exact (by decide : (28 : TypeId) ≠ 70) | exact (by decide : (58 : TypeId) ≠ 70)))
                                replace QD := Lib.hid (QD.out.keepB BU.out KT.out (by decide))
                                replace IO := Lib.hid (IO.out.keep KT.out (by decide) (by decide) (by decide))
                                have I14 : Hid (∀ i (h : i < (ts ++ [t]).length), OutOwn W.heap.size w14 (fun x => (vcat V3 (j * 2) U4) (i * 2 + x)) (ts ++ [t])[i]) := Lib.hid (fun i h => by
                                  rw [List.length_append, List.length_singleton, TL.out] at h
                                  by_cases e : i = j
                                  · subst e
                                    have e2 : (ts ++ [t])[i]'(by rw [List.length_append, List.length_singleton, TL.out]; exact h) = t := by
                                      rw [List.getElem_append_right (by rw [TL.out]; omega)]
                                      simp
                                    rw [e2]
                                    exact (TI.out.keep KT.out (by decide)).to fun y hy => vcat_hi.symm
                                  · have hi : i < ts.length := by rw [TL.out]; omega
                                    have e2 : (ts ++ [t])[i]'(by rw [List.length_append, List.length_singleton, TL.out]; exact h) = ts[i] := List.getElem_append_left hi
                                    rw [e2]
                                    exact ((I3.out i hi).keep KT.out (by decide)).to fun y hy => (vcat_lo (by omega) hy).symm)
                                clear KT BU hg14 N13 N3 I3 TI
                                refine hK _ _ True.intro ?_
                                clear hK K
                                try simp only [Act.put, List.getElem_toArray, List.getElem_cons_succ, List.getElem_cons_zero, List.setIfInBounds_toArray, List.set_cons_zero, List.set_cons_succ]
                                refine hm_run 6 115 (.pointer (some ⟨b6, 2, none⟩)) rfl rfl (by kernel_rfl) (by kernel_rfl) (by kernel_rfl) (fun _ _ _ h => h) rfl (fun _ _ => rfl) True.intro ?_
                                try simp only [Act.put, List.getElem_toArray, List.getElem_cons_succ, List.getElem_cons_zero, List.setIfInBounds_toArray, List.set_cons_zero, List.set_cons_succ]
                                refine hm_one (i := 7) (by kernel_rfl) ?_
                                refine hm_step 7 rfl (by kernel_rfl) fun K hK => ?_
                                try simp only [Act.put, List.getElem_toArray, List.getElem_cons_succ, List.getElem_cons_zero, List.setIfInBounds_toArray, List.set_cons_zero, List.set_cons_succ]
                                refine mo_store_cello 0 E 26 (.tmp 115) (.tmp 114) rfl rfl rfl rfl (by kernel_rfl) rfl rfl (by decide) (v := .slice p14 (j + 1) c14) ?_
                                intro w8 E8 HO
                                replace QD := Lib.hid (QD.out.xst (E.out.ge _ List.mem_cons_self) HO.out (by decide))
                                have KT := KeepT.of_only HO.out.1 HO.out.2
                                replace N14 := Lib.hid (N14.out.keep KT (by decide))
                                replace I14 := Lib.hid (fun i h => (I14.out i h).keep KT (by decide))
                                replace IO := Lib.hid (IO.out.keep KT (by decide) (by decide) (by decide))
                                rw [ups_ups] at E8
                                clear KT HO E
                                simp only [List.set_cons_zero] at E8
                                refine hK _ _ True.intro ?_
                                clear hK K
                                try simp only [Act.put, List.getElem_toArray, List.getElem_cons_succ, List.getElem_cons_zero, List.setIfInBounds_toArray, List.set_cons_zero, List.set_cons_succ]
                                refine wpAnyH_done (by kernel_rfl) ?_ _
                                have TL2 := Lib.hid (show (ts ++ [t]).length = j + 1 by rw [List.length_append, List.length_singleton, TL.out])
                                replace PE := Lib.hid (PE.out.eq (k' := (pRep pOut q1 xs7).bind fun l s => k4 a1 m ins (ts ++ [t] ++ l) s) (congrArg (Res.bind (pRep pOut q1 xs7)) (funext fun l => funext fun s => by rw [List.append_assoc]; rfl)))
                                clear TL
                                simp only [noPanic]
                                go_wp2
                                go_roundg q1
                                case measure => omega
                                case rel => exact ⟨j + 1, p14, g14, c14, _, u7, e7, xs7, ts ++ [t], by omega, by go_num, TL2, N14, I14, IO, QD, E8, PE⟩
                            · as_aux_lemma =>
                                refine hm_step 4 rfl (by kernel_rfl) fun K hK => ?_
                                try simp only [Act.put, List.getElem_toArray, List.getElem_cons_succ, List.getElem_cons_zero, List.setIfInBounds_toArray, List.set_cons_zero, List.set_cons_succ]
                                refine mo_vbs 26 70 2 1 _ rfl U4 (one_arr (out_one TI.out)) (by unfold maxLen; omega) (ps := #[(0, .agg (arr 2 U4))]) (by kernel_rfl) (fun W => run_bs1 Try.underlying26 infoOut3 (by omega) (by omega) _ (arr_size _ _) W) (arr_vs _ _) ?_
                                intro p13 g13 w13 N13 hb13
                                replace E := Lib.hid (E.out.call hb13.out)
                                replace QD := Lib.hid (QD.out.below hb13.out)
                                replace TI := Lib.hid (TI.out.below hb13.out)
                                replace N3 := Lib.hid (N3.out.below hb13.out)
                                replace I3 := Lib.hid (fun i h => (I3.out i h).below hb13.out)
                                replace IO := Lib.hid (IO.out.below hb13.out)
                                clear hb13
                                refine hK _ _ True.intro ?_
                                clear hK K
                                try simp only [Act.put, List.getElem_toArray, List.getElem_cons_succ, List.getElem_cons_zero, List.setIfInBounds_toArray, List.set_cons_zero, List.set_cons_succ]
                                refine hm_one (i := 1) (by kernel_rfl) ?_
                                refine hm_step 1 rfl (by kernel_rfl) fun K hK => ?_
                                try simp only [Act.put, List.getElem_toArray, List.getElem_cons_succ, List.getElem_cons_zero, List.setIfInBounds_toArray, List.set_cons_zero, List.set_cons_succ]
                                refine mo_load_cell E 26 (.tmp 109) rfl rfl List.mem_cons_self Try.underlying26 rfl (v := .slice p3 j c3) (by rw [arr_get _ _ 2 (by decide)]; exact congrArg some (ups_at _ _ _)) ?_
                                refine hK _ _ True.intro ?_
                                clear hK K
                                try simp only [Act.put, List.getElem_toArray, List.getElem_cons_succ, List.getElem_cons_zero, List.setIfInBounds_toArray, List.set_cons_zero, List.set_cons_succ]
                                refine hm_one (i := 5) (by kernel_rfl) ?_
                                refine hm_step 5 rfl (by kernel_rfl) fun K hK => ?_
                                try simp only [Act.put, List.getElem_toArray, List.getElem_cons_succ, List.getElem_cons_zero, List.setIfInBounds_toArray, List.set_cons_zero, List.set_cons_succ]
                                refine mo_vapp 26 70 2 32 Try.underlying26 infoOut3 (by first | rfl | exact arr_size _ _) (by omega) (.tmp 110) (.tmp 113) rfl rfl N3 rfl (Lib.hid N13.out.row) (by unfold maxLen; omega) (by omega) ?_
                                intro p14 g14 c14 w14 N14 hg14
                                have KT := Lib.hid (KeepT.of_grown N3.out hg14.out)
                                have BU := Lib.hid (N3.out.under hg14.out (Nat.le_refl _) E.out.below.size)
                                replace E := Lib.hid (E.out.keepT BU.out KT.out (by intro p hp; simp only [List.mem_cons, List.not_mem_nil, or_false] at hp; rcases hp with rfl | rfl | rfl <;> first | exact (by decide : (28 : TypeId) ≠ 70) | exact (by decide : (58 : TypeId) ≠ 70)))
                                replace QD := Lib.hid (QD.out.keepB BU.out KT.out (by decide))
                                replace IO := Lib.hid (IO.out.keep KT.out (by decide) (by decide) (by decide))
                                have I14 : Hid (∀ i (h : i < (ts ++ [t]).length), OutOwn W.heap.size w14 (fun x => (vcat V3 (j * 2) U4) (i * 2 + x)) (ts ++ [t])[i]) := Lib.hid (fun i h => by
                                  rw [List.length_append, List.length_singleton, TL.out] at h
                                  by_cases e : i = j
                                  · subst e
                                    have e2 : (ts ++ [t])[i]'(by rw [List.length_append, List.length_singleton, TL.out]; exact h) = t := by
                                      rw [List.getElem_append_right (by rw [TL.out]; omega)]
                                      simp
                                    rw [e2]
                                    exact (TI.out.keep KT.out (by decide)).to fun y hy => vcat_hi.symm
                                  · have hi : i < ts.length := by rw [TL.out]; omega
                                    have e2 : (ts ++ [t])[i]'(by rw [List.length_append, List.length_singleton, TL.out]; exact h) = ts[i] := List.getElem_append_left hi
                                    rw [e2]
                                    exact ((I3.out i hi).keep KT.out (by decide)).to fun y hy => (vcat_lo (by omega) hy).symm)
                                clear KT BU hg14 N13 N3 I3 TI
                                refine hK _ _ True.intro ?_
                                clear hK K
                                try simp only [Act.put, List.getElem_toArray, List.getElem_cons_succ, List.getElem_cons_zero, List.setIfInBounds_toArray, List.set_cons_zero, List.set_cons_succ]
                                refine hm_run 6 115 (.pointer (some ⟨b6, 2, none⟩)) rfl rfl (by kernel_rfl) (by kernel_rfl) (by kernel_rfl) (fun _ _ _ h => h) rfl (fun _ _ => rfl) True.intro ?_
                                try simp only [Act.put, List.getElem_toArray, List.getElem_cons_succ, List.getElem_cons_zero, List.setIfInBounds_toArray, List.set_cons_zero, List.set_cons_succ]
                                refine hm_one (i := 7) (by kernel_rfl) ?_
                                refine hm_step 7 rfl (by kernel_rfl) fun K hK => ?_
                                try simp only [Act.put, List.getElem_toArray, List.getElem_cons_succ, List.getElem_cons_zero, List.setIfInBounds_toArray, List.set_cons_zero, List.set_cons_succ]
                                refine mo_store_cello 0 E 26 (.tmp 115) (.tmp 114) rfl rfl rfl rfl (by kernel_rfl) rfl rfl (by decide) (v := .slice p14 (j + 1) c14) ?_
                                intro w8 E8 HO
                                replace QD := Lib.hid (QD.out.xst (E.out.ge _ List.mem_cons_self) HO.out (by decide))
                                have KT := KeepT.of_only HO.out.1 HO.out.2
                                replace N14 := Lib.hid (N14.out.keep KT (by decide))
                                replace I14 := Lib.hid (fun i h => (I14.out i h).keep KT (by decide))
                                replace IO := Lib.hid (IO.out.keep KT (by decide) (by decide) (by decide))
                                rw [ups_ups] at E8
                                clear KT HO E
                                simp only [List.set_cons_zero] at E8
                                refine hK _ _ True.intro ?_
                                clear hK K
                                try simp only [Act.put, List.getElem_toArray, List.getElem_cons_succ, List.getElem_cons_zero, List.setIfInBounds_toArray, List.set_cons_zero, List.set_cons_succ]
                                refine wpAnyH_done (by kernel_rfl) ?_ _
                                have TL2 := Lib.hid (show (ts ++ [t]).length = j + 1 by rw [List.length_append, List.length_singleton, TL.out])
                                replace PE := Lib.hid (PE.out.eq (k' := (pRep pOut q1 xs7).bind fun l s => k4 a1 m ins (ts ++ [t] ++ l) s) (congrArg (Res.bind (pRep pOut q1 xs7)) (funext fun l => funext fun s => by rw [List.append_assoc]; rfl)))
                                clear TL
                                simp only [noPanic]
                                go_wp2
                                go_roundg q1
                                case measure => omega
                                case rel => exact ⟨j + 1, p14, g14, c14, _, u7, e7, xs7, ts ++ [t], by omega, by go_num, TL2, N14, I14, IO, QD, E8, PE⟩
                      · have c2 : (e3 == 0) = false := by simp; exact h0
                        have IE := Lib.hid (PE.out.fail h0 (k4 a1 m ins ts r3))
                        go_wp2_with (first
                          | ((with_reducible refine wpList_at 104 rfl ?_); refine mem_load_cell E 29 rfl (.tmp 103) rfl rfl (List.mem_cons_of_mem _ List.mem_cons_self) Try.underlying29 rfl (v := .int .i64 e3) rfl ?_))
                        go_meet
                        exact ⟨_, _, ts, u3, e3, r3, rfl, E, QD, IE, Lib.hid ⟨p3, g3, c3, V3, by rw [TL.out], by rw [TL.out]; omega, by rw [TL.out]; exact N3.out, I3.out⟩, IO⟩
                    · obtain rfl : j = n := by omega
                      obtain rfl : kk = 0 := by omega
                      clear hkk
                      have IE : Hid (Inv whole e3 (k4 a1 m ins ts r3)) := Lib.hid (PE.out.eq (by show k4 a1 m ins (ts ++ []) r3 = _; rw [List.append_nil]))
                      have c1 : ¬ (((j : Nat) : Int) < ((j : Nat) : Int)) := by omega
                      go_wp2
                      go_meet
                      exact ⟨_, _, ts, u3, e3, r3, rfl, E, QD, IE, Lib.hid ⟨p3, g3, c3, V3, by rw [TL.out], by rw [TL.out]; omega, by rw [TL.out]; exact N3.out, I3.out⟩, IO⟩
              case rest =>
                clear E QD I NB IO
                obtain ⟨q11, vo, outs, u, e, xs, rfl, E, QD, I, OO, IO⟩ := hcut
                refine hK5 _ _ ?_
                clear hK5
                refine Go.wp_seq_k fun K6 hK6 => ?_
                obtain ⟨V3, hV3⟩ : ∃ V3 : Nat → Value, V3 = ups V2 2 vo := ⟨_, rfl⟩
                have HV3 := Lib.hid hV3
                rw [← hV3] at E
                clear hV3
                go_cut [12, 13] (fun s12 s13 wx => ∃ (q r : Value) (jns : List TIn) (u : Value) (e : Int) (xs : List Nat), s12 = q ∧ s13 = r ∧ Hid (Mem W [(b6, 28, arr 4 V3), (bR, 58, #[u, .int .i64 e]), (b0, 28, arr 4 txz)] wx) ∧ Hid (QDat W wx u xs) ∧ Hid (Inv whole e (k4b a1 m jns outs xs)) ∧ Hid (OutsOwn W.heap.size wx vo outs) ∧ Hid (InsOwn W.heap.size wx vi jns))
                case first =>
                  as_aux_lemma =>
                    by_cases hm : m = false
                    · subst hm
                      have IN : Hid (Inv whole e (k4b a1 false ins outs xs)) := Lib.hid (I.out.eq k4_no)
                      clear I
                      go_upto_region 22 with fail
                      go_loopg [12, 13] 0 (fun gk i k wr => i = .int .i64 0 ∧ wr = wc)
                      case atStart => exact ⟨rfl, rfl⟩
                      case round =>
                        obtain ⟨rfl, rfl⟩ := hrel
                        go_wp2
                        go_meet
                        exact ⟨_, _, ins, u, e, xs, rfl, rfl, E, QD, IN, OO, Lib.hid IO.out.own⟩
                    · obtain rfl : m = true := by simpa using hm
                      have I3 := Lib.hid (I.out.eq k4_yes)
                      obtain ⟨p1, g1, c1, V5, hv5, hl5, N5, J5⟩ := IO.out
                      subst hv5
                      obtain ⟨n, hn⟩ : ∃ n, n = ins.length := ⟨_, rfl⟩
                      have HN := Lib.hid hn
                      have V1V : (arr 4 V3)[1]? = some (.slice p1 n c1) := by rw [arr_get 4 V3 1 (by omega), HV3.out, ups_ne _ _ (by omega), HV2.out, ups_at, hn]
                      have NN5 : Hid (VOwn 67 36 W.heap.size wc p1 g1 n c1 V5) := Lib.hid (by rw [hn]; exact N5)
                      have HF5 : Hid (Half W.heap.size wc V5 [] ins) := Lib.hid ⟨fun i hi => absurd hi (by simp), fun i hi _ => J5 i hi⟩
                      have LB := Lib.hid (show n * 96 ≤ 140737488351232 by rw [hn]; exact hl5)
                      have n3 : n ≤ 140737488355328 := (by have := LB.out; omega)
                      clear hn hl5 N5 J5 IO I hm
                      go_upto_region 22 with fail
                      go_loopg [12, 13] n (fun gk i s13 wr => ∃ (j : Nat) (V : Nat → Value) (u : Value) (e : Int) (xs : List Nat) (done : List TIn), j + gk = n ∧ i = .int .i64 ((j : Nat) : Int) ∧ Hid (done.length = j) ∧ Hid (VOwn 67 36 W.heap.size wr p1 g1 n c1 V) ∧ Hid (Half W.heap.size wr V done ins) ∧ Hid (OutsOwn W.heap.size wr vo outs) ∧ Hid (QDat W wr u xs) ∧ Hid (Mem W [(b6, 28, arr 4 V3), (bR, 58, #[u, .int .i64 e]), (b0, 28, arr 4 txz)] wr) ∧ Hid (Inv whole e ((pWits (ins.drop j) xs).bind fun l s => k4b a1 true (done ++ l) outs s)))
                      case atStart => exact ⟨0, V5, u, e, xs, [], by omega, rfl, Lib.hid rfl, NN5, HF5, OO, QD, E, Lib.hid (I3.out.eq rfl)⟩
                      case round =>
                        clear E QD OO I3 NN5 HF5
                        obtain ⟨j, V, u, e, xs, done, hj, rfl, DL, N, HF, OO, QD, E, I⟩ := hrel
                        obtain ⟨kk, rfl⟩ : ∃ kk : Nat, kk = gk := ⟨_, rfl⟩
                        have OUT : Hid (∀ e' xs', Inv whole e' (k4b a1 true (done ++ ins.drop j) outs xs') → True) := Lib.hid fun _ _ _ => True.intro
                        have ALL : Hid (j ≤ n → InsOwn W.heap.size wr (.slice p1 ins.length c1) (done ++ ins.drop j)) := Lib.hid fun hle => by
                          have hd := DL.out
                          have hN := HN.out
                          have hL : (done ++ ins.drop j).length = n := by rw [List.length_append, List.length_drop]; omega
                          have := HF.out.all (by omega)
                          rw [hd] at this
                          exact ⟨p1, g1, c1, V, by rw [hL, ← hN], by rw [hL]; exact LB.out, by rw [hL]; exact N.out, this⟩
                        by_cases hlt : j < n
                        · have c1' : ((j : Nat) : Int) < ((n : Nat) : Int) := by omega
                          by_cases h0 : e = 0
                          · subst h0
                            have hj2 : j < ins.length := by rw [← HN.out]; exact hlt
                            have HJ2 := Lib.hid hj2
                            have PI := Lib.hid (I.out.eq (pWits_cnt (G := fun l s => k4b a1 true l outs s) hj2))
                            clear I ALL OUT
                            go_upto_region 24 with (first
                              | ((with_reducible refine wpList_at 120 rfl ?_); refine mem_load_cell E 25 rfl (.tmp 119) rfl rfl List.mem_cons_self Try.underlying25 rfl V1V ?_)
                              | ((with_reducible refine wpList_at 128 rfl ?_); refine mem_load_cell E 29 rfl (.tmp 127) rfl rfl (List.mem_cons_of_mem _ List.mem_cons_self) Try.underlying29 rfl (v := .int .i64 0) rfl ?_))
                            go_upto_region 25 with (first
                              | (go_at_call 27; refine (qcount100 (Lib.hid (E.out.qd (List.mem_cons_of_mem _ List.mem_cons_self) QD.out)) PI).mono ?_; rintro e9' w9 ⟨v9, k0, u9, e9, xs9, rfl, hb, hq, ⟨rfl, hn9⟩, hI⟩; have I9 := Lib.hid hI; have NB := Lib.hid hn9; have KT := E.out.qkeep (i := 1) rfl hb; replace N := Lib.hid (N.out.keep KT (by decide)); replace HF := Lib.hid (HF.out.keep2 ((Keep2.refl _ _ _).kt2 KT)); replace OO := Lib.hid (OO.out.keep KT (by decide) (by decide)); replace QD := Lib.hid hq; replace E := Lib.hid (E.out.qcall (i := 1) rfl hb); simp only [List.set_cons_zero, List.set_cons_succ] at E; clear hI hq hb hn9 KT PI))
                            have SZ0 := Lib.hid E.out.below.size
                            have W0 := Lib.hid (show TextsOwn w9.heap.size w9 (V (j * 36 + 35)) [] by
                              have h35 := (HF.out.2 j HJ2.out (by rw [DL.out]; exact Nat.le_refl _)).2.1
                              rw [show V (j * 36 + 35) = .slice none 0 0 from h35]
                              exact texts_none _ _ (Nat.le_refl _))
                            obtain ⟨w0, hw0⟩ : ∃ w0, w0 = w9 := ⟨_, rfl⟩
                            have H0 := HF
                            have OO0 := OO
                            rw [← hw0] at H0 OO0 SZ0
                            have K0 : Hid (Keep2 67 58 w0 w9) := Lib.hid (by rw [hw0]; exact Keep2.refl _ _ _)
                            have B0 : Hid (Below W.heap.size W w0) := Lib.hid (by rw [hw0]; exact E.out.below)
                            have WS0 : Hid (TextsOwn w0.heap.size w9 (V (j * 36 + 35)) []) := Lib.hid (by rw [hw0]; exact W0.out)
                            clear HF OO W0
                            have nb9 := NB.out
                            go_loopg [13] k0 (fun gk i wr => ∃ (V' : Nat → Value) (u : Value) (e : Int) (xs : List Nat) (ws : List (List Nat)), ws.length + gk = k0 ∧ i = .int .i64 ((gk : Nat) : Int) ∧ Hid (∀ x, x ≠ j * 36 + 35 → V' x = V x) ∧ Hid (VOwn 67 36 W.heap.size wr p1 g1 n c1 V') ∧ Hid (TextsOwn w0.heap.size wr (V' (j * 36 + 35)) ws) ∧ Hid (Keep2 67 58 w0 wr) ∧ Hid (QDat W wr u xs) ∧ Hid (Mem W [(b6, 28, arr 4 V3), (bR, 58, #[u, .int .i64 e]), (b0, 28, arr 4 txz)] wr) ∧ Hid (Inv whole e ((pRep (pText 10000) gk xs).bind fun ws' r => (pWits (ins.drop (j + 1)) r).bind fun l s => k4b a1 true (done ++ (withW (ins[j]'HJ2.out) (ws ++ ws')) :: l) outs s)))
                            case atStart => exact ⟨V, u9, e9, xs9, [], by simp, rfl, Lib.hid fun _ _ => rfl, N, WS0, K0, QD, E, I9⟩
                            case round =>
                              clear E QD N WS0 K0 I9
                              obtain ⟨V', u, e, xs, ws, hk, rfl, HV, N, WS, K, QD, E, I⟩ := hrel
                              obtain ⟨kk2, rfl⟩ : ∃ kk2 : Nat, kk2 = gk := ⟨_, rfl⟩
                              by_cases hk0 : 0 < kk2
                              · obtain ⟨q1, rfl⟩ : ∃ q1, kk2 = q1 + 1 := ⟨kk2 - 1, by omega⟩
                                have c2' : ((q1 + 1 : Nat) : Int) > 0 := by omega
                                by_cases h0 : e = 0
                                · subst h0
                                  have PI := Lib.hid (I.out.eq pRep_bind)
                                  clear I
                                  go_upto_region 27 with (first
                                    | ((with_reducible refine wpList_at 141 rfl ?_); refine mem_load_cell E 29 rfl (.tmp 140) rfl rfl (List.mem_cons_of_mem _ List.mem_cons_self) Try.underlying29 rfl (v := .int .i64 0) rfl ?_))
                                  have hjn : j * 36 + 35 < n * 36 := by omega
                                  obtain rfl := N.out.row.head (by omega)
                                  obtain ⟨pw, gw, cw, Vw, hvw, hlw, Nw, Iw⟩ := WS.out
                                  have HVW := Lib.hid hvw
                                  have NW := Lib.hid Nw
                                  have IW := Lib.hid Iw
                                  have wl : ws.length ≤ 100 := by omega
                                  have K2 := K
                                  have IXJ : Hid (∀ W' : World, (Instr.indexAt 25 (.slice (some ⟨g1, 0, none⟩) n c1) (.int .i64 ((j : Nat) : Int))).run Try.prog W' = .ok (.pointer (some ⟨g1, j * 36, none⟩)) W') := Lib.hid fun W' => (run_ix Try.underlying25 (by kernel_rfl) hlt rfl W').trans (by rw [Nat.zero_add])
                                  have HKK := Lib.hid hk
                                  clear hvw Nw Iw K WS hlw hk
                                  refine Go.wp_mono (Q := noPanic _) ?_ noPanic_of
                                  have E1 := Lib.hid (Mem.nil wr)
                                  refine wp_region_memS (S := fun W' => W'.heap[b6]? = some (.cells (arr 4 V3) 28 (0, 0))) E1 (by kernel_rfl) ?_
                                  clear E1
                                  intro wx E0
                                  replace E := Lib.hid (E.out.call E0.out.below)
                                  replace QD := Lib.hid (QD.out.below E0.out.below)
                                  replace N := Lib.hid (N.out.below E0.out.below)
                                  replace NW := Lib.hid (NW.out.below E0.out.below)
                                  replace IW := Lib.hid (fun i h => (IW.out i h).below E0.out.below)
                                  replace K2 := Lib.hid (K2.out.below (E0.out.below.mono K2.out.size))
                                  clear E0
                                  have S0 := Lib.hid (E.out.get List.mem_cons_self)
                                  try simp only [Act.put, List.getElem_toArray, List.getElem_cons_succ, List.getElem_cons_zero, List.setIfInBounds_toArray, List.set_cons_zero, List.set_cons_succ]
                                  refine hm_run 0 146 (.pointer (some ⟨b6, 1, none⟩)) rfl rfl (by kernel_rfl) (by kernel_rfl) (by kernel_rfl) (fun _ _ _ h => h) rfl (fun _ _ => rfl) S0.out ?_
                                  try simp only [Act.put, List.getElem_toArray, List.getElem_cons_succ, List.getElem_cons_zero, List.setIfInBounds_toArray, List.set_cons_zero, List.set_cons_succ]
                                  refine hm_run 1 147 (.slice (some ⟨g1, 0, none⟩) n c1) rfl rfl (by kernel_rfl) (by kernel_rfl) (by kernel_rfl) (fun _ _ _ h => h) rfl (fun W' hW => exec_load rfl (run_load_one Try.underlying25 rfl (cell_of_here hW 1 V1V))) S0.out ?_
                                  try simp only [Act.put, List.getElem_toArray, List.getElem_cons_succ, List.getElem_cons_zero, List.setIfInBounds_toArray, List.set_cons_zero, List.set_cons_succ]
                                  refine hm_run 2 148 (.int .i64 ((j : Nat) : Int)) rfl rfl (by kernel_rfl) (by kernel_rfl) (by kernel_rfl) (fun _ _ _ h => h) rfl (fun _ _ => rfl) S0.out ?_
                                  try simp only [Act.put, List.getElem_toArray, List.getElem_cons_succ, List.getElem_cons_zero, List.setIfInBounds_toArray, List.set_cons_zero, List.set_cons_succ]
                                  refine hm_run 3 149 (.pointer (some ⟨b6, 1, none⟩)) rfl rfl (by kernel_rfl) (by kernel_rfl) (by kernel_rfl) (fun _ _ _ h => h) rfl (fun _ _ => rfl) S0.out ?_
                                  try simp only [Act.put, List.getElem_toArray, List.getElem_cons_succ, List.getElem_cons_zero, List.setIfInBounds_toArray, List.set_cons_zero, List.set_cons_succ]
                                  refine hm_run 4 150 (.slice (some ⟨g1, 0, none⟩) n c1) rfl rfl (by kernel_rfl) (by kernel_rfl) (by kernel_rfl) (fun _ _ _ h => h) rfl (fun W' hW => exec_load rfl (run_load_one Try.underlying25 rfl (cell_of_here hW 1 V1V))) S0.out ?_
                                  try simp only [Act.put, List.getElem_toArray, List.getElem_cons_succ, List.getElem_cons_zero, List.setIfInBounds_toArray, List.set_cons_zero, List.set_cons_succ]
                                  refine hm_run 5 151 (.int .i64 ((j : Nat) : Int)) rfl rfl (by kernel_rfl) (by kernel_rfl) (by kernel_rfl) (fun _ _ _ h => h) rfl (fun _ _ => rfl) S0.out ?_
                                  try simp only [Act.put, List.getElem_toArray, List.getElem_cons_succ, List.getElem_cons_zero, List.setIfInBounds_toArray, List.set_cons_zero, List.set_cons_succ]
                                  refine hm_run 6 152 (.pointer (some ⟨g1, j * 36, none⟩)) rfl rfl (by kernel_rfl) (by kernel_rfl) (by kernel_rfl) (fun _ _ _ h => h) rfl (fun W' _ => exec_ix rfl (IXJ.out W')) S0.out ?_
                                  try simp only [Act.put, List.getElem_toArray, List.getElem_cons_succ, List.getElem_cons_zero, List.setIfInBounds_toArray, List.set_cons_zero, List.set_cons_succ]
                                  refine hm_run 7 153 (.pointer (some ⟨g1, j * 36 + 35, none⟩)) rfl rfl (by kernel_rfl) (by kernel_rfl) (by kernel_rfl) (fun _ _ _ h => h) rfl (fun _ _ => rfl) S0.out ?_
                                  try simp only [Act.put, List.getElem_toArray, List.getElem_cons_succ, List.getElem_cons_zero, List.setIfInBounds_toArray, List.set_cons_zero, List.set_cons_succ]
                                  refine hm_run 9 155 (.pointer (some ⟨bR, 0, none⟩)) rfl rfl (by kernel_rfl) (by kernel_rfl) (by kernel_rfl) (fun _ _ _ h => h) rfl (fun _ _ => rfl) S0.out ?_
                                  try simp only [Act.put, List.getElem_toArray, List.getElem_cons_succ, List.getElem_cons_zero, List.setIfInBounds_toArray, List.set_cons_zero, List.set_cons_succ]
                                  refine hm_two (i := 8) (j := 10) (by kernel_rfl) ?_ ?_
                                  · as_aux_lemma =>
                                      refine hm_step 8 rfl (by kernel_rfl) fun K hK => ?_
                                      try simp only [Act.put, List.getElem_toArray, List.getElem_cons_succ, List.getElem_cons_zero, List.setIfInBounds_toArray, List.set_cons_zero, List.set_cons_succ]
                                      refine mo_known (.slice pw ws.length cw) _ (exec_load rfl (run_load_one Try.underlying65 rfl (by have := N.out.row.cell (j * 36 + 35) (by omega); rw [HVW.out, Nat.zero_add] at this; exact this))) ?_
                                      refine hK _ _ S0.out ?_
                                      clear hK K
                                      try simp only [Act.put, List.getElem_toArray, List.getElem_cons_succ, List.getElem_cons_zero, List.setIfInBounds_toArray, List.set_cons_zero, List.set_cons_succ]
                                      refine hm_one (i := 10) (by kernel_rfl) ?_
                                      refine hm_step 10 rfl (by kernel_rfl) fun K hK => ?_
                                      try simp only [Act.put, List.getElem_toArray, List.getElem_cons_succ, List.getElem_cons_zero, List.setIfInBounds_toArray, List.set_cons_zero, List.set_cons_succ]
                                      go_simp
                                      go_at_call 30
                                      refine (qtext_any (Lib.hid (E.out.qd (List.mem_cons_of_mem _ List.mem_cons_self) QD.out)) PI).mono ?_
                                      rintro e1' w7 ⟨v7, t, u7, e7, xs7, rfl, hb, hq, ⟨ho, hl⟩, hI⟩
                                      have PE := Lib.hid hI
                                      have TI := Lib.hid (ho.mono K2.out.size)
                                      have KT := E.out.qkeep (i := 1) rfl hb
                                      replace N := Lib.hid (N.out.keep KT (by decide))
                                      replace NW := Lib.hid (NW.out.keep KT (by decide))
                                      replace IW := Lib.hid (fun i h => (IW.out i h).keep KT (by decide))
                                      replace K2 := Lib.hid (K2.out.kt2 KT)
                                      replace QD := Lib.hid hq
                                      replace E := Lib.hid (E.out.qcall (i := 1) rfl hb)
                                      simp only [List.set_cons_zero, List.set_cons_succ] at E
                                      replace S0 := Lib.hid (E.out.get List.mem_cons_self)
                                      clear KT hb hq ho hl hI PI
                                      refine hK _ _ S0.out ?_
                                      clear hK K
                                      try simp only [Act.put, List.getElem_toArray, List.getElem_cons_succ, List.getElem_cons_zero, List.setIfInBounds_toArray, List.set_cons_zero, List.set_cons_succ]
                                      refine hm_one (i := 11) (by kernel_rfl) ?_
                                      refine hm_step 11 rfl (by kernel_rfl) fun K hK => ?_
                                      try simp only [Act.put, List.getElem_toArray, List.getElem_cons_succ, List.getElem_cons_zero, List.setIfInBounds_toArray, List.set_cons_zero, List.set_cons_succ]
                                      obtain ⟨p5, g5, c5, rfl, hx5⟩ := TI.out
                                      clear hx5
                                      refine mo_vbs 65 22 1 1 _ rfl (fun _ => .slice p5 t.length c5) (fun _ _ => rfl) (by unfold maxLen; omega) (ps := #[(0, .slice p5 t.length c5)]) (by kernel_rfl) (fun W => run_bs1v Try.underlying65 infoText3 _ rfl W) (vs_const _) ?_
                                      intro p13 g13 w13 N13 hb13
                                      replace E := Lib.hid (E.out.call hb13.out)
                                      replace QD := Lib.hid (QD.out.below hb13.out)
                                      replace TI := Lib.hid (TI.out.below hb13.out)
                                      replace N := Lib.hid (N.out.below hb13.out)
                                      replace NW := Lib.hid (NW.out.below hb13.out)
                                      replace IW := Lib.hid (fun i h => (IW.out i h).below hb13.out)
                                      replace K2 := Lib.hid (K2.out.below (hb13.out.mono K2.out.size))
                                      replace S0 := Lib.hid (E.out.get List.mem_cons_self)
                                      clear hb13
                                      refine hK _ _ S0.out ?_
                                      clear hK K
                                      try simp only [Act.put, List.getElem_toArray, List.getElem_cons_succ, List.getElem_cons_zero, List.setIfInBounds_toArray, List.set_cons_zero, List.set_cons_succ]
                                      refine hm_one (i := 12) (by kernel_rfl) ?_
                                      refine hm_step 12 rfl (by kernel_rfl) fun K hK => ?_
                                      try simp only [Act.put, List.getElem_toArray, List.getElem_cons_succ, List.getElem_cons_zero, List.setIfInBounds_toArray, List.set_cons_zero, List.set_cons_succ]
                                      refine mo_vapp 65 22 1 24 Try.underlying65 infoText3 rfl (by omega) (.tmp 154) (.tmp 157) rfl rfl NW rfl (Lib.hid N13.out.row) (by unfold maxLen; omega) (by omega) ?_
                                      intro p14 g14 c14 w14 N14 hg14
                                      have KT := Lib.hid (KeepT.of_grown NW.out hg14.out)
                                      have BU := Lib.hid (NW.out.under hg14.out (Nat.le_refl _) K2.out.size)
                                      have BUW := Lib.hid (BU.out.mono B0.out.size)
                                      replace E := Lib.hid (E.out.keepT BUW.out KT.out (by intro p hp; simp only [List.mem_cons, List.not_mem_nil, or_false] at hp; rcases hp with rfl | rfl | rfl <;> first | exact (by decide : (28 : TypeId) ≠ 22) | exact (by decide : (58 : TypeId) ≠ 22)))
                                      replace QD := Lib.hid (QD.out.keepB BUW.out KT.out (by decide))
                                      replace N := Lib.hid (N.out.keep KT.out (by decide))
                                      replace K2 := Lib.hid (K2.out.below BU.out)
                                      have I14 : Hid (∀ i (h : i < (ws ++ [t]).length), TextOwn w0.heap.size w14 (vcat Vw (ws.length * 1) (fun _ => Value.slice p5 t.length c5) i) (ws ++ [t])[i]) := Lib.hid (fun i h => by
                                        rw [List.length_append, List.length_singleton] at h
                                        by_cases e : i = ws.length
                                        · subst e
                                          have e2 : (ws ++ [t])[ws.length]'(by rw [List.length_append, List.length_singleton]; exact h) = t := by
                                            rw [List.getElem_append_right (Nat.le_refl _)]
                                            simp
                                          rw [e2]
                                          have e3 : vcat Vw (ws.length * 1) (fun _ => Value.slice p5 t.length c5) ws.length = .slice p5 t.length c5 := by unfold vcat; rw [if_neg (by omega)]
                                          rw [e3]
                                          exact TI.out.keep KT.out (by decide)
                                        · have hi : i < ws.length := by omega
                                          have e2 : (ws ++ [t])[i]'(by rw [List.length_append, List.length_singleton]; exact h) = ws[i] := List.getElem_append_left hi
                                          rw [e2]
                                          have e3 : vcat Vw (ws.length * 1) (fun _ => Value.slice p5 t.length c5) i = Vw i := by unfold vcat; rw [if_pos (by omega)]
                                          rw [e3]
                                          exact (IW.out i hi).keep KT.out (by decide))
                                      replace S0 := Lib.hid (E.out.get List.mem_cons_self)
                                      clear KT BU BUW hg14 N13 NW IW TI
                                      refine hK _ _ S0.out ?_
                                      clear hK K
                                      try simp only [Act.put, List.getElem_toArray, List.getElem_cons_succ, List.getElem_cons_zero, List.setIfInBounds_toArray, List.set_cons_zero, List.set_cons_succ]
                                      refine hm_run 13 159 (.pointer (some ⟨g1, j * 36, none⟩)) rfl rfl (by kernel_rfl) (by kernel_rfl) (by kernel_rfl) (fun _ _ _ h => h) rfl (fun W' _ => exec_ix rfl (IXJ.out W')) S0.out ?_
                                      try simp only [Act.put, List.getElem_toArray, List.getElem_cons_succ, List.getElem_cons_zero, List.setIfInBounds_toArray, List.set_cons_zero, List.set_cons_succ]
                                      refine hm_run 14 160 (.pointer (some ⟨g1, j * 36 + 35, none⟩)) rfl rfl (by kernel_rfl) (by kernel_rfl) (by kernel_rfl) (fun _ _ _ h => h) rfl (fun _ _ => rfl) S0.out ?_
                                      try simp only [Act.put, List.getElem_toArray, List.getElem_cons_succ, List.getElem_cons_zero, List.setIfInBounds_toArray, List.set_cons_zero, List.set_cons_succ]
                                      refine hm_one (i := 15) (by kernel_rfl) ?_
                                      refine hm_step 15 rfl (by kernel_rfl) fun K hK => ?_
                                      try simp only [Act.put, List.getElem_toArray, List.getElem_cons_succ, List.getElem_cons_zero, List.setIfInBounds_toArray, List.set_cons_zero, List.set_cons_succ]
                                      refine mo_vput N 65 (.tmp 160) (.tmp 158) rfl (i := j * 36 + 35) (v := .slice p14 (ws.length + 1) c14) rfl rfl (by omega) (by kernel_rfl) rfl rfl ?_
                                      intro w8 N8 HO KT HB
                                      have BH := Lib.hid (HO.out.below HB.out E.out.below.size)
                                      replace E := Lib.hid (E.out.keepT BH.out KT.out (by intro p hp; simp only [List.mem_cons, List.not_mem_nil, or_false] at hp; rcases hp with rfl | rfl | rfl <;> first | exact (by decide : (28 : TypeId) ≠ 67) | exact (by decide : (58 : TypeId) ≠ 67)))
                                      replace QD := Lib.hid (QD.out.keepB BH.out KT.out (by decide))
                                      clear BH
                                      replace K2 := Lib.hid (K2.out.kt1 KT.out)
                                      replace N14 := Lib.hid (N14.out.keep KT.out (by decide))
                                      replace I14 := Lib.hid (fun i h => (I14.out i h).keep KT.out (by decide))
                                      replace S0 := Lib.hid (E.out.get List.mem_cons_self)
                                      clear KT HO HB N
                                      refine hK _ _ S0.out ?_
                                      clear hK K
                                      try simp only [Act.put, List.getElem_toArray, List.getElem_cons_succ, List.getElem_cons_zero, List.setIfInBounds_toArray, List.set_cons_zero, List.set_cons_succ]
                                      refine wpAnyH_done (by kernel_rfl) ?_ _
                                      have LW := Lib.hid (show (ws ++ [t]).length = ws.length + 1 by rw [List.length_append, List.length_singleton])
                                      have WS2 : Hid (TextsOwn w0.heap.size w8 (ups V' (j * 36 + 35) (.slice p14 (ws.length + 1) c14) (j * 36 + 35)) (ws ++ [t])) := Lib.hid (by
                                        rw [ups_at]
                                        exact ⟨p14, g14, c14, _, by rw [LW.out], by rw [LW.out]; omega, by rw [LW.out]; exact N14.out, I14.out⟩)
                                      have HV2' : Hid (∀ x, x ≠ j * 36 + 35 → ups V' (j * 36 + 35) (.slice p14 (ws.length + 1) c14) x = V x) := Lib.hid fun x hx => by rw [ups_ne _ _ hx]; exact HV.out x hx
                                      replace PE := Lib.hid (PE.out.eq (k' := (pRep (pText 10000) q1 xs7).bind fun ws' r => (pWits (ins.drop (j + 1)) r).bind fun l s => k4b a1 true (done ++ (withW (ins[j]'HJ2.out) ((ws ++ [t]) ++ ws')) :: l) outs s) (congrArg (Res.bind (pRep (pText 10000) q1 xs7)) (funext fun l => funext fun s => by rw [List.append_assoc]; rfl)))
                                      clear HV I14 N14
                                      have hk9 := HKK.out
                                      simp only [noPanic]
                                      go_wp2
                                      go_roundg q1
                                      case measure => omega
                                      case rel => exact ⟨_, u7, e7, xs7, ws ++ [t], by rw [LW.out]; omega, by go_num, HV2', N8, WS2, K2, QD, E, PE⟩
                                  · as_aux_lemma =>
                                      refine hm_step 10 rfl (by kernel_rfl) fun K hK => ?_
                                      try simp only [Act.put, List.getElem_toArray, List.getElem_cons_succ, List.getElem_cons_zero, List.setIfInBounds_toArray, List.set_cons_zero, List.set_cons_succ]
                                      go_simp
                                      go_at_call 30
                                      refine (qtext_any (Lib.hid (E.out.qd (List.mem_cons_of_mem _ List.mem_cons_self) QD.out)) PI).mono ?_
                                      rintro e1' w7 ⟨v7, t, u7, e7, xs7, rfl, hb, hq, ⟨ho, hl⟩, hI⟩
                                      have PE := Lib.hid hI
                                      have TI := Lib.hid (ho.mono K2.out.size)
                                      have KT := E.out.qkeep (i := 1) rfl hb
                                      replace N := Lib.hid (N.out.keep KT (by decide))
                                      replace NW := Lib.hid (NW.out.keep KT (by decide))
                                      replace IW := Lib.hid (fun i h => (IW.out i h).keep KT (by decide))
                                      replace K2 := Lib.hid (K2.out.kt2 KT)
                                      replace QD := Lib.hid hq
                                      replace E := Lib.hid (E.out.qcall (i := 1) rfl hb)
                                      simp only [List.set_cons_zero, List.set_cons_succ] at E
                                      replace S0 := Lib.hid (E.out.get List.mem_cons_self)
                                      clear KT hb hq ho hl hI PI
                                      refine hK _ _ S0.out ?_
                                      clear hK K
                                      try simp only [Act.put, List.getElem_toArray, List.getElem_cons_succ, List.getElem_cons_zero, List.setIfInBounds_toArray, List.set_cons_zero, List.set_cons_succ]
                                      refine hm_two (i := 8) (j := 11) (by kernel_rfl) ?_ ?_
                                      · as_aux_lemma =>
                                          refine hm_step 8 rfl (by kernel_rfl) fun K hK => ?_
                                          try simp only [Act.put, List.getElem_toArray, List.getElem_cons_succ, List.getElem_cons_zero, List.setIfInBounds_toArray, List.set_cons_zero, List.set_cons_succ]
                                          refine mo_known (.slice pw ws.length cw) _ (exec_load rfl (run_load_one Try.underlying65 rfl (by have := N.out.row.cell (j * 36 + 35) (by omega); rw [HVW.out, Nat.zero_add] at this; exact this))) ?_
                                          refine hK _ _ S0.out ?_
                                          clear hK K
                                          try simp only [Act.put, List.getElem_toArray, List.getElem_cons_succ, List.getElem_cons_zero, List.setIfInBounds_toArray, List.set_cons_zero, List.set_cons_succ]
                                          refine hm_one (i := 11) (by kernel_rfl) ?_
                                          refine hm_step 11 rfl (by kernel_rfl) fun K hK => ?_
                                          try simp only [Act.put, List.getElem_toArray, List.getElem_cons_succ, List.getElem_cons_zero, List.setIfInBounds_toArray, List.set_cons_zero, List.set_cons_succ]
                                          obtain ⟨p5, g5, c5, rfl, hx5⟩ := TI.out
                                          clear hx5
                                          refine mo_vbs 65 22 1 1 _ rfl (fun _ => .slice p5 t.length c5) (fun _ _ => rfl) (by unfold maxLen; omega) (ps := #[(0, .slice p5 t.length c5)]) (by kernel_rfl) (fun W => run_bs1v Try.underlying65 infoText3 _ rfl W) (vs_const _) ?_
                                          intro p13 g13 w13 N13 hb13
                                          replace E := Lib.hid (E.out.call hb13.out)
                                          replace QD := Lib.hid (QD.out.below hb13.out)
                                          replace TI := Lib.hid (TI.out.below hb13.out)
                                          replace N := Lib.hid (N.out.below hb13.out)
                                          replace NW := Lib.hid (NW.out.below hb13.out)
                                          replace IW := Lib.hid (fun i h => (IW.out i h).below hb13.out)
                                          replace K2 := Lib.hid (K2.out.below (hb13.out.mono K2.out.size))
                                          replace S0 := Lib.hid (E.out.get List.mem_cons_self)
                                          clear hb13
                                          refine hK _ _ S0.out ?_
                                          clear hK K
                                          try simp only [Act.put, List.getElem_toArray, List.getElem_cons_succ, List.getElem_cons_zero, List.setIfInBounds_toArray, List.set_cons_zero, List.set_cons_succ]
                                          refine hm_one (i := 12) (by kernel_rfl) ?_
                                          refine hm_step 12 rfl (by kernel_rfl) fun K hK => ?_
                                          try simp only [Act.put, List.getElem_toArray, List.getElem_cons_succ, List.getElem_cons_zero, List.setIfInBounds_toArray, List.set_cons_zero, List.set_cons_succ]
                                          refine mo_vapp 65 22 1 24 Try.underlying65 infoText3 rfl (by omega) (.tmp 154) (.tmp 157) rfl rfl NW rfl (Lib.hid N13.out.row) (by unfold maxLen; omega) (by omega) ?_
                                          intro p14 g14 c14 w14 N14 hg14
                                          have KT := Lib.hid (KeepT.of_grown NW.out hg14.out)
                                          have BU := Lib.hid (NW.out.under hg14.out (Nat.le_refl _) K2.out.size)
                                          have BUW := Lib.hid (BU.out.mono B0.out.size)
                                          replace E := Lib.hid (E.out.keepT BUW.out KT.out (by intro p hp; simp only [List.mem_cons, List.not_mem_nil, or_false] at hp; rcases hp with rfl | rfl | rfl <;> first | exact (by decide : (28 : TypeId) ≠ 22) | exact (by decide : (58 : TypeId) ≠ 22)))
                                          replace QD := Lib.hid (QD.out.keepB BUW.out KT.out (by decide))
                                          replace N := Lib.hid (N.out.keep KT.out (by decide))
                                          replace K2 := Lib.hid (K2.out.below BU.out)
                                          have I14 : Hid (∀ i (h : i < (ws ++ [t]).length), TextOwn w0.heap.size w14 (vcat Vw (ws.length * 1) (fun _ => Value.slice p5 t.length c5) i) (ws ++ [t])[i]) := Lib.hid (fun i h => by
                                            rw [List.length_append, List.length_singleton] at h
                                            by_cases e : i = ws.length
                                            · subst e
                                              have e2 : (ws ++ [t])[ws.length]'(by rw [List.length_append, List.length_singleton]; exact h) = t := by
                                                rw [List.getElem_append_right (Nat.le_refl _)]
                                                simp
                                              rw [e2]
                                              have e3 : vcat Vw (ws.length * 1) (fun _ => Value.slice p5 t.length c5) ws.length = .slice p5 t.length c5 := by unfold vcat; rw [if_neg (by omega)]
                                              rw [e3]
                                              exact TI.out.keep KT.out (by decide)
                                            · have hi : i < ws.length := by omega
                                              have e2 : (ws ++ [t])[i]'(by rw [List.length_append, List.length_singleton]; exact h) = ws[i] := List.getElem_append_left hi
                                              rw [e2]
                                              have e3 : vcat Vw (ws.length * 1) (fun _ => Value.slice p5 t.length c5) i = Vw i := by unfold vcat; rw [if_pos (by omega)]
                                              rw [e3]
                                              exact (IW.out i hi).keep KT.out (by decide))
                                          replace S0 := Lib.hid (E.out.get List.mem_cons_self)
                                          clear KT BU BUW hg14 N13 NW IW TI
                                          refine hK _ _ S0.out ?_
                                          clear hK K
                                          try simp only [Act.put, List.getElem_toArray, List.getElem_cons_succ, List.getElem_cons_zero, List.setIfInBounds_toArray, List.set_cons_zero, List.set_cons_succ]
                                          refine hm_run 13 159 (.pointer (some ⟨g1, j * 36, none⟩)) rfl rfl (by kernel_rfl) (by kernel_rfl) (by kernel_rfl) (fun _ _ _ h => h) rfl (fun W' _ => exec_ix rfl (IXJ.out W')) S0.out ?_
                                          try simp only [Act.put, List.getElem_toArray, List.getElem_cons_succ, List.getElem_cons_zero, List.setIfInBounds_toArray, List.set_cons_zero, List.set_cons_succ]
                                          refine hm_run 14 160 (.pointer (some ⟨g1, j * 36 + 35, none⟩)) rfl rfl (by kernel_rfl) (by kernel_rfl) (by kernel_rfl) (fun _ _ _ h => h) rfl (fun _ _ => rfl) S0.out ?_
                                          try simp only [Act.put, List.getElem_toArray, List.getElem_cons_succ, List.getElem_cons_zero, List.setIfInBounds_toArray, List.set_cons_zero, List.set_cons_succ]
                                          refine hm_one (i := 15) (by kernel_rfl) ?_
                                          refine hm_step 15 rfl (by kernel_rfl) fun K hK => ?_
                                          try simp only [Act.put, List.getElem_toArray, List.getElem_cons_succ, List.getElem_cons_zero, List.setIfInBounds_toArray, List.set_cons_zero, List.set_cons_succ]
                                          refine mo_vput N 65 (.tmp 160) (.tmp 158) rfl (i := j * 36 + 35) (v := .slice p14 (ws.length + 1) c14) rfl rfl (by omega) (by kernel_rfl) rfl rfl ?_
                                          intro w8 N8 HO KT HB
                                          have BH := Lib.hid (HO.out.below HB.out E.out.below.size)
                                          replace E := Lib.hid (E.out.keepT BH.out KT.out (by intro p hp; simp only [List.mem_cons, List.not_mem_nil, or_false] at hp; rcases hp with rfl | rfl | rfl <;> first | exact (by decide : (28 : TypeId) ≠ 67) | exact (by decide : (58 : TypeId) ≠ 67)))
                                          replace QD := Lib.hid (QD.out.keepB BH.out KT.out (by decide))
                                          clear BH
                                          replace K2 := Lib.hid (K2.out.kt1 KT.out)
                                          replace N14 := Lib.hid (N14.out.keep KT.out (by decide))
                                          replace I14 := Lib.hid (fun i h => (I14.out i h).keep KT.out (by decide))
                                          replace S0 := Lib.hid (E.out.get List.mem_cons_self)
                                          clear KT HO HB N
                                          refine hK _ _ S0.out ?_
                                          clear hK K
                                          try simp only [Act.put, List.getElem_toArray, List.getElem_cons_succ, List.getElem_cons_zero, List.setIfInBounds_toArray, List.set_cons_zero, List.set_cons_succ]
                                          refine wpAnyH_done (by kernel_rfl) ?_ _
                                          have LW := Lib.hid (show (ws ++ [t]).length = ws.length + 1 by rw [List.length_append, List.length_singleton])
                                          have WS2 : Hid (TextsOwn w0.heap.size w8 (ups V' (j * 36 + 35) (.slice p14 (ws.length + 1) c14) (j * 36 + 35)) (ws ++ [t])) := Lib.hid (by
                                            rw [ups_at]
                                            exact ⟨p14, g14, c14, _, by rw [LW.out], by rw [LW.out]; omega, by rw [LW.out]; exact N14.out, I14.out⟩)
                                          have HV2' : Hid (∀ x, x ≠ j * 36 + 35 → ups V' (j * 36 + 35) (.slice p14 (ws.length + 1) c14) x = V x) := Lib.hid fun x hx => by rw [ups_ne _ _ hx]; exact HV.out x hx
                                          replace PE := Lib.hid (PE.out.eq (k' := (pRep (pText 10000) q1 xs7).bind fun ws' r => (pWits (ins.drop (j + 1)) r).bind fun l s => k4b a1 true (done ++ (withW (ins[j]'HJ2.out) ((ws ++ [t]) ++ ws')) :: l) outs s) (congrArg (Res.bind (pRep (pText 10000) q1 xs7)) (funext fun l => funext fun s => by rw [List.append_assoc]; rfl)))
                                          clear HV I14 N14
                                          have hk9 := HKK.out
                                          simp only [noPanic]
                                          go_wp2
                                          go_roundg q1
                                          case measure => omega
                                          case rel => exact ⟨_, u7, e7, xs7, ws ++ [t], by rw [LW.out]; omega, by go_num, HV2', N8, WS2, K2, QD, E, PE⟩
                                      · as_aux_lemma =>
                                          refine hm_step 11 rfl (by kernel_rfl) fun K hK => ?_
                                          try simp only [Act.put, List.getElem_toArray, List.getElem_cons_succ, List.getElem_cons_zero, List.setIfInBounds_toArray, List.set_cons_zero, List.set_cons_succ]
                                          obtain ⟨p5, g5, c5, rfl, hx5⟩ := TI.out
                                          clear hx5
                                          refine mo_vbs 65 22 1 1 _ rfl (fun _ => .slice p5 t.length c5) (fun _ _ => rfl) (by unfold maxLen; omega) (ps := #[(0, .slice p5 t.length c5)]) (by kernel_rfl) (fun W => run_bs1v Try.underlying65 infoText3 _ rfl W) (vs_const _) ?_
                                          intro p13 g13 w13 N13 hb13
                                          replace E := Lib.hid (E.out.call hb13.out)
                                          replace QD := Lib.hid (QD.out.below hb13.out)
                                          replace TI := Lib.hid (TI.out.below hb13.out)
                                          replace N := Lib.hid (N.out.below hb13.out)
                                          replace NW := Lib.hid (NW.out.below hb13.out)
                                          replace IW := Lib.hid (fun i h => (IW.out i h).below hb13.out)
                                          replace K2 := Lib.hid (K2.out.below (hb13.out.mono K2.out.size))
                                          replace S0 := Lib.hid (E.out.get List.mem_cons_self)
                                          clear hb13
                                          refine hK _ _ S0.out ?_
                                          clear hK K
                                          try simp only [Act.put, List.getElem_toArray, List.getElem_cons_succ, List.getElem_cons_zero, List.setIfInBounds_toArray, List.set_cons_zero, List.set_cons_succ]
                                          refine hm_one (i := 8) (by kernel_rfl) ?_
                                          refine hm_step 8 rfl (by kernel_rfl) fun K hK => ?_
                                          try simp only [Act.put, List.getElem_toArray, List.getElem_cons_succ, List.getElem_cons_zero, List.setIfInBounds_toArray, List.set_cons_zero, List.set_cons_succ]
                                          refine mo_known (.slice pw ws.length cw) _ (exec_load rfl (run_load_one Try.underlying65 rfl (by have := N.out.row.cell (j * 36 + 35) (by omega); rw [HVW.out, Nat.zero_add] at this; exact this))) ?_
                                          refine hK _ _ S0.out ?_
                                          clear hK K
                                          try simp only [Act.put, List.getElem_toArray, List.getElem_cons_succ, List.getElem_cons_zero, List.setIfInBounds_toArray, List.set_cons_zero, List.set_cons_succ]
                                          refine hm_one (i := 12) (by kernel_rfl) ?_
                                          refine hm_step 12 rfl (by kernel_rfl) fun K hK => ?_
                                          try simp only [Act.put, List.getElem_toArray, List.getElem_cons_succ, List.getElem_cons_zero, List.setIfInBounds_toArray, List.set_cons_zero, List.set_cons_succ]
                                          refine mo_vapp 65 22 1 24 Try.underlying65 infoText3 rfl (by omega) (.tmp 154) (.tmp 157) rfl rfl NW rfl (Lib.hid N13.out.row) (by unfold maxLen; omega) (by omega) ?_
                                          intro p14 g14 c14 w14 N14 hg14
                                          have KT := Lib.hid (KeepT.of_grown NW.out hg14.out)
                                          have BU := Lib.hid (NW.out.under hg14.out (Nat.le_refl _) K2.out.size)
                                          have BUW := Lib.hid (BU.out.mono B0.out.size)
                                          replace E := Lib.hid (E.out.keepT BUW.out KT.out (by intro p hp; simp only [List.mem_cons, List.not_mem_nil, or_false] at hp; rcases hp with rfl | rfl | rfl <;> first | exact (by decide : (28 : TypeId) ≠ 22) | exact (by decide : (58 : TypeId) ≠ 22)))
                                          replace QD := Lib.hid (QD.out.keepB BUW.out KT.out (by decide))
                                          replace N := Lib.hid (N.out.keep KT.out (by decide))
                                          replace K2 := Lib.hid (K2.out.below BU.out)
                                          have I14 : Hid (∀ i (h : i < (ws ++ [t]).length), TextOwn w0.heap.size w14 (vcat Vw (ws.length * 1) (fun _ => Value.slice p5 t.length c5) i) (ws ++ [t])[i]) := Lib.hid (fun i h => by
                                            rw [List.length_append, List.length_singleton] at h
                                            by_cases e : i = ws.length
                                            · subst e
                                              have e2 : (ws ++ [t])[ws.length]'(by rw [List.length_append, List.length_singleton]; exact h) = t := by
                                                rw [List.getElem_append_right (Nat.le_refl _)]
                                                simp
                                              rw [e2]
                                              have e3 : vcat Vw (ws.length * 1) (fun _ => Value.slice p5 t.length c5) ws.length = .slice p5 t.length c5 := by unfold vcat; rw [if_neg (by omega)]
                                              rw [e3]
                                              exact TI.out.keep KT.out (by decide)
                                            · have hi : i < ws.length := by omega
                                              have e2 : (ws ++ [t])[i]'(by rw [List.length_append, List.length_singleton]; exact h) = ws[i] := List.getElem_append_left hi
                                              rw [e2]
                                              have e3 : vcat Vw (ws.length * 1) (fun _ => Value.slice p5 t.length c5) i = Vw i := by unfold vcat; rw [if_pos (by omega)]
                                              rw [e3]
                                              exact (IW.out i hi).keep KT.out (by decide))
                                          replace S0 := Lib.hid (E.out.get List.mem_cons_self)
                                          clear KT BU BUW hg14 N13 NW IW TI
                                          refine hK _ _ S0.out ?_
                                          clear hK K
                                          try simp only [Act.put, List.getElem_toArray, List.getElem_cons_succ, List.getElem_cons_zero, List.setIfInBounds_toArray, List.set_cons_zero, List.set_cons_succ]
                                          refine hm_run 13 159 (.pointer (some ⟨g1, j * 36, none⟩)) rfl rfl (by kernel_rfl) (by kernel_rfl) (by kernel_rfl) (fun _ _ _ h => h) rfl (fun W' _ => exec_ix rfl (IXJ.out W')) S0.out ?_
                                          try simp only [Act.put, List.getElem_toArray, List.getElem_cons_succ, List.getElem_cons_zero, List.setIfInBounds_toArray, List.set_cons_zero, List.set_cons_succ]
                                          refine hm_run 14 160 (.pointer (some ⟨g1, j * 36 + 35, none⟩)) rfl rfl (by kernel_rfl) (by kernel_rfl) (by kernel_rfl) (fun _ _ _ h => h) rfl (fun _ _ => rfl) S0.out ?_
                                          try simp only [Act.put, List.getElem_toArray, List.getElem_cons_succ, List.getElem_cons_zero, List.setIfInBounds_toArray, List.set_cons_zero, List.set_cons_succ]
                                          refine hm_one (i := 15) (by kernel_rfl) ?_
                                          refine hm_step 15 rfl (by kernel_rfl) fun K hK => ?_
                                          try simp only [Act.put, List.getElem_toArray, List.getElem_cons_succ, List.getElem_cons_zero, List.setIfInBounds_toArray, List.set_cons_zero, List.set_cons_succ]
                                          refine mo_vput N 65 (.tmp 160) (.tmp 158) rfl (i := j * 36 + 35) (v := .slice p14 (ws.length + 1) c14) rfl rfl (by omega) (by kernel_rfl) rfl rfl ?_
                                          intro w8 N8 HO KT HB
                                          have BH := Lib.hid (HO.out.below HB.out E.out.below.size)
                                          replace E := Lib.hid (E.out.keepT BH.out KT.out (by intro p hp; simp only [List.mem_cons, List.not_mem_nil, or_false] at hp; rcases hp with rfl | rfl | rfl <;> first | exact (by decide : (28 : TypeId) ≠ 67) | exact (by decide : (58 : TypeId) ≠ 67)))
                                          replace QD := Lib.hid (QD.out.keepB BH.out KT.out (by decide))
                                          clear BH
                                          replace K2 := Lib.hid (K2.out.kt1 KT.out)
                                          replace N14 := Lib.hid (N14.out.keep KT.out (by decide))
                                          replace I14 := Lib.hid (fun i h => (I14.out i h).keep KT.out (by decide))
                                          replace S0 := Lib.hid (E.out.get List.mem_cons_self)
                                          clear KT HO HB N
                                          refine hK _ _ S0.out ?_
                                          clear hK K
                                          try simp only [Act.put, List.getElem_toArray, List.getElem_cons_succ, List.getElem_cons_zero, List.setIfInBounds_toArray, List.set_cons_zero, List.set_cons_succ]
                                          refine wpAnyH_done (by kernel_rfl) ?_ _
                                          have LW := Lib.hid (show (ws ++ [t]).length = ws.length + 1 by rw [List.length_append, List.length_singleton])
                                          have WS2 : Hid (TextsOwn w0.heap.size w8 (ups V' (j * 36 + 35) (.slice p14 (ws.length + 1) c14) (j * 36 + 35)) (ws ++ [t])) := Lib.hid (by
                                            rw [ups_at]
                                            exact ⟨p14, g14, c14, _, by rw [LW.out], by rw [LW.out]; omega, by rw [LW.out]; exact N14.out, I14.out⟩)
                                          have HV2' : Hid (∀ x, x ≠ j * 36 + 35 → ups V' (j * 36 + 35) (.slice p14 (ws.length + 1) c14) x = V x) := Lib.hid fun x hx => by rw [ups_ne _ _ hx]; exact HV.out x hx
                                          replace PE := Lib.hid (PE.out.eq (k' := (pRep (pText 10000) q1 xs7).bind fun ws' r => (pWits (ins.drop (j + 1)) r).bind fun l s => k4b a1 true (done ++ (withW (ins[j]'HJ2.out) ((ws ++ [t]) ++ ws')) :: l) outs s) (congrArg (Res.bind (pRep (pText 10000) q1 xs7)) (funext fun l => funext fun s => by rw [List.append_assoc]; rfl)))
                                          clear HV I14 N14
                                          have hk9 := HKK.out
                                          simp only [noPanic]
                                          go_wp2
                                          go_roundg q1
                                          case measure => omega
                                          case rel => exact ⟨_, u7, e7, xs7, ws ++ [t], by rw [LW.out]; omega, by go_num, HV2', N8, WS2, K2, QD, E, PE⟩
                                · have c2 : (e == 0) = false := by simp; exact h0
                                  have IE := Lib.hid (I.out.fail h0 ((pWits (ins.drop (j + 1)) xs).bind fun l s => k4b a1 true ((done ++ [(withW (ins[j]'HJ2.out) (ws))]) ++ l) outs s))
                                  have HS := Lib.hid ((H0.out.keep2 K.out).step DL.out HJ2.out HV.out WS.out SZ0.out)
                                  have DL2 : Hid ((done ++ [(withW (ins[j]'HJ2.out) (ws))]).length = j + 1) := Lib.hid (by rw [List.length_append, List.length_singleton, DL.out])
                                  have OO2 := Lib.hid (OO0.out.keep2 K.out)
                                  clear h0
                                  go_wp2_with (first
                                    | ((with_reducible refine wpList_at 141 rfl ?_); refine mem_load_cell E 29 rfl (.tmp 140) rfl rfl (List.mem_cons_of_mem _ List.mem_cons_self) Try.underlying29 rfl (v := .int .i64 e) rfl ?_))
                                  go_roundg (kk - 1)
                                  case measure => omega
                                  case rel => exact ⟨j + 1, V', u, e, xs, _, by omega, by go_num, DL2, N, HS, OO2, QD, E, IE⟩
                              · obtain rfl : kk2 = 0 := by omega
                                have c2' : ¬ (((0 : Nat) : Int) > 0) := by omega
                                have IE : Hid (Inv whole e ((pWits (ins.drop (j + 1)) xs).bind fun l s => k4b a1 true ((done ++ [(withW (ins[j]'HJ2.out) (ws))]) ++ l) outs s)) := Lib.hid (I.out.eq (by show (pWits (ins.drop (j + 1)) xs).bind (fun l s => k4b a1 true (done ++ (withW (ins[j]'HJ2.out) (ws ++ [])) :: l) outs s) = _; simp only [List.append_nil, List.append_assoc, List.singleton_append]))
                                have HS := Lib.hid ((H0.out.keep2 K.out).step DL.out HJ2.out HV.out WS.out SZ0.out)
                                have DL2 : Hid ((done ++ [(withW (ins[j]'HJ2.out) (ws))]).length = j + 1) := Lib.hid (by rw [List.length_append, List.length_singleton, DL.out])
                                have OO2 := Lib.hid (OO0.out.keep2 K.out)
                                go_wp2
                                go_roundg (kk - 1)
                                case measure => omega
                                case rel => exact ⟨j + 1, V', u, e, xs, _, by omega, by go_num, DL2, N, HS, OO2, QD, E, IE⟩
                          · have c2 : (e == 0) = false := by simp; exact h0
                            have IE := Lib.hid (I.out.fail h0 (k4b a1 true (done ++ ins.drop j) outs xs))
                            have IA := Lib.hid (ALL.out (by omega))
                            go_wp2_with (first
                              | ((with_reducible refine wpList_at 120 rfl ?_); refine mem_load_cell E 25 rfl (.tmp 119) rfl rfl List.mem_cons_self Try.underlying25 rfl V1V ?_)
                              | ((with_reducible refine wpList_at 128 rfl ?_); refine mem_load_cell E 29 rfl (.tmp 127) rfl rfl (List.mem_cons_of_mem _ List.mem_cons_self) Try.underlying29 rfl (v := .int .i64 e) rfl ?_))
                            go_meet
                            exact ⟨_, _, _, u, e, xs, rfl, rfl, E, QD, IE, OO, IA⟩
                        · obtain rfl : j = n := by omega
                          have c1' : ¬ (((j : Nat) : Int) < ((j : Nat) : Int)) := by omega
                          have IE : Hid (Inv whole e (k4b a1 true (done ++ ins.drop j) outs xs)) := Lib.hid (I.out.eq (by
                            have e0 : ins.drop j = [] := List.drop_eq_nil_of_le (by rw [← HN.out]; exact Nat.le_refl _)
                            rw [e0]
                            rfl))
                          have IA := Lib.hid (ALL.out (Nat.le_refl _))
                          go_wp2_with (first
                            | ((with_reducible refine wpList_at 120 rfl ?_); refine mem_load_cell E 25 rfl (.tmp 119) rfl rfl List.mem_cons_self Try.underlying25 rfl V1V ?_))
                          go_meet
                          exact ⟨_, _, _, u, e, xs, rfl, rfl, E, QD, IE, OO, IA⟩
                case rest =>
                  clear E QD I OO IO
                  obtain ⟨q12, q13, jns, u, e, xs, rfl, rfl, E, QD, I, OO, IO⟩ := hcut
                  refine hK6 _ _ ?_
                  clear hK6
                  refine Go.wp_seq_k fun K7 hK7 => ?_
                  have VZ : Hid (V3 0 = w32 a1 ∧ V3 1 = vi ∧ V3 2 = vo ∧ V3 3 = w32 0) := Lib.hid (by
                    rw [HV3.out, HV2.out, HV1.out]
                    exact ⟨rfl, rfl, rfl, rfl⟩)
                  go_cut [7] (fun s7 wx => ∃ (q : Bool) (u : Value) (e : Int) (xs : List Nat), s7 = .bool q ∧ Hid (Mem W [(b6, 28, arr 4 V3), (bR, 58, #[u, .int .i64 e]), (b0, 28, arr 4 txz)] wx) ∧ Hid (QDat W wx u xs) ∧ Hid (Inv whole e (k5 a1 jns outs xs)) ∧ Hid (OutsOwn W.heap.size wx vo outs) ∧ Hid (InsOwn W.heap.size wx vi jns))
                  case first =>
                    as_aux_lemma =>
                      by_cases h0 : e = 0
                      · subst h0
                        cases m
                        · have IN : Hid (Inv whole 0 (k5 a1 jns outs xs)) := Lib.hid (I.out.eq (if_neg (by simp)))
                          go_wp2_with ((with_reducible refine wpList_at 164 rfl ?_); refine mem_load_cell E 29 rfl (.tmp 163) rfl rfl (List.mem_cons_of_mem _ List.mem_cons_self) Try.underlying29 rfl (v := .int .i64 0) rfl ?_)
                          go_meet
                          exact ⟨_, u, 0, xs, rfl, E, QD, IN, OO, IO⟩
                        · obtain ⟨hb, hhb⟩ : ∃ hb, hb = jns.any hasB := ⟨_, rfl⟩
                          have HHB := Lib.hid hhb
                          have VB2 : a1 < 4294967296 := VB.out
                          have RH : Hid (Calls Try.prog 31 #[.agg (arr 4 V3)] wc fun e w' => e = .returned (.bool hb) ∧ Below wc.heap.size wc w') := Lib.hid (by
                            rw [hhb]
                            exact rhas_any (t := ⟨a1, jns, outs, 0⟩) (Lib.hid ⟨V3, rfl, ⟨VZ.out.1, VB2, by rw [VZ.out.2.1]; exact IO.out.at, by rw [VZ.out.2.2.1]; exact OO.out.at, VZ.out.2.2.2, by show 0 < 4294967296; omega⟩⟩))
                          clear hhb VB2
                          cases hb
                          · have IN : Hid (Inv whole 51 (k5 a1 jns outs xs)) := Lib.hid (I.out.bad (if_pos ⟨rfl, HHB.out.symm⟩) (by decide) _)
                            go_wp2_with (first
                              | ((with_reducible refine wpList_at 164 rfl ?_); refine mem_load_cell E 29 rfl (.tmp 163) rfl rfl (List.mem_cons_of_mem _ List.mem_cons_self) Try.underlying29 rfl (v := .int .i64 0) rfl ?_)
                              | ((with_reducible refine wpList_at 170 rfl ?_); refine mem_load_row E 28 rfl (.tmp 6) rfl rfl List.mem_cons_self Try.underlying28 rfl (by simp only [arr_size]; kernel_rfl) ?_)
                              | (go_at_call 31; refine RH.out.mono ?_; rintro e8 w8 ⟨rfl, hb8⟩; replace E := Lib.hid (E.out.call hb8); replace QD := Lib.hid (QD.out.below hb8); replace IO := Lib.hid (IO.out.below hb8); replace OO := Lib.hid (OO.out.below hb8); clear hb8 RH)
                              | ((with_reducible refine wpList_atn rfl ?_); refine mem_store_cello (v := .int .i64 51) 1 E 29 rfl (.tmp 176) (.const (.int .i64 51)) rfl rfl rfl rfl (by kernel_rfl) rfl rfl (by simp) ?_; intro w9 E9 HO; have KT := KeepT.of_only HO.out.1 HO.out.2; replace IO := Lib.hid (IO.out.keep KT (by decide) (by decide) (by decide)); replace OO := Lib.hid (OO.out.keep KT (by decide) (by decide)); replace QD := Lib.hid (QD.out.xst (E.out.ge _ (List.mem_cons_of_mem _ List.mem_cons_self)) HO.out (by decide)); clear E HO KT; have E : Hid (Mem W [(b6, 28, arr 4 V3), (bR, 58, #[u, .int .i64 51]), (b0, 28, arr 4 txz)] w9) := E9; clear E9))
                            try simp only [Act.put, List.getElem_toArray, List.getElem_cons_succ, List.getElem_cons_zero, List.setIfInBounds_toArray, List.set_cons_zero, List.set_cons_succ]
                            go_meet
                            exact ⟨_, u, 51, xs, rfl, E, QD, IN, OO, IO⟩
                          · have IN : Hid (Inv whole 0 (k5 a1 jns outs xs)) := Lib.hid (I.out.eq (if_neg (by rw [← HHB.out]; simp)))
                            go_wp2_with (first
                              | ((with_reducible refine wpList_at 164 rfl ?_); refine mem_load_cell E 29 rfl (.tmp 163) rfl rfl (List.mem_cons_of_mem _ List.mem_cons_self) Try.underlying29 rfl (v := .int .i64 0) rfl ?_)
                              | ((with_reducible refine wpList_at 170 rfl ?_); refine mem_load_row E 28 rfl (.tmp 6) rfl rfl List.mem_cons_self Try.underlying28 rfl (by simp only [arr_size]; kernel_rfl) ?_)
                              | (go_at_call 31; refine RH.out.mono ?_; rintro e8 w8 ⟨rfl, hb8⟩; replace E := Lib.hid (E.out.call hb8); replace QD := Lib.hid (QD.out.below hb8); replace IO := Lib.hid (IO.out.below hb8); replace OO := Lib.hid (OO.out.below hb8); clear hb8 RH))
                            go_meet
                            exact ⟨_, u, 0, xs, rfl, E, QD, IN, OO, IO⟩
                      · have c2 : (e == 0) = false := by simp; exact h0
                        have IN : Hid (Inv whole e (k5 a1 jns outs xs)) := Lib.hid (I.out.fail h0 _)
                        go_wp2_with ((with_reducible refine wpList_at 164 rfl ?_); refine mem_load_cell E 29 rfl (.tmp 163) rfl rfl (List.mem_cons_of_mem _ List.mem_cons_self) Try.underlying29 rfl (v := .int .i64 e) rfl ?_)
                        go_meet
                        exact ⟨_, u, e, xs, rfl, E, QD, IN, OO, IO⟩
                  case rest =>
                    clear E QD I OO IO
                    obtain ⟨q7, u, e, xs, rfl, E, QD, I, OO, IO⟩ := hcut
                    refine hK7 _ _ ?_
                    clear hK7
                    have I9 : Hid (Inv whole e ((pNum 4 xs).bind fun lock r => .good ⟨a1, jns, outs, lock⟩ r)) := Lib.hid I.out
                    clear I
                    go_upto_region 31 with (first
                      | (go_at_call 25; refine (qlow4 (Lib.hid (E.out.qd (List.mem_cons_of_mem _ List.mem_cons_self) QD.out)) I9).mono ?_; rintro e9' w9 ⟨v9, lk, u9, e9, xs9, rfl, hb, hq, ⟨rfl, hN⟩, hI⟩; have IX := Lib.hid hI; have cw : IntKind.u32.wrap (lk : Int) = (lk : Int) := (by rw [IntKind.wrap_u32]; omega); have LB := Lib.hid hN; have KT := E.out.qkeep (i := 1) rfl hb; replace IO := Lib.hid (IO.out.keep KT (by decide) (by decide) (by decide)); replace OO := Lib.hid (OO.out.keep KT (by decide) (by decide)); replace QD := Lib.hid hq; replace E := Lib.hid (E.out.qcall (i := 1) rfl hb); simp only [List.set_cons_zero, List.set_cons_succ] at E; clear hI hq hb hN KT I9)
                      | ((with_reducible refine wpList_atn rfl ?_); refine mem_store_cello (v := .int .u32 (lk : Int)) 0 E 24 rfl (.tmp 180) (.tmp 179) rfl rfl rfl rfl (by kernel_rfl) rfl rfl (by rw [arr_size]; omega) ?_; intro w10 E9 HO; have KT := KeepT.of_only HO.out.1 HO.out.2; replace IO := Lib.hid (IO.out.keep KT (by decide) (by decide) (by decide)); replace OO := Lib.hid (OO.out.keep KT (by decide) (by decide)); replace QD := Lib.hid (QD.out.xst (E.out.ge _ List.mem_cons_self) HO.out (by decide)); simp only [arr_ups, List.set_cons_zero] at E9; clear E HO KT; have E := E9; clear E9))
                    try simp only [Act.put, List.getElem_toArray, List.getElem_cons_succ, List.getElem_cons_zero, List.setIfInBounds_toArray, List.set_cons_zero, List.set_cons_succ]
                    by_cases h0 : e9 = 0
                    · as_aux_lemma =>
                        subst h0
                        go_upto_region 33 with ((with_reducible refine wpList_at 184 rfl ?_); refine mem_load_cell E 29 rfl (.tmp 183) rfl rfl (List.mem_cons_of_mem _ List.mem_cons_self) Try.underlying29 rfl (v := .int .i64 0) rfl ?_)
                        have VZ2 : Hid (TxOwn W.heap.size w10 (ups V3 3 (.int .u32 (lk : Int))) ⟨a1, jns, outs, lk⟩) := Lib.hid ⟨by rw [ups_ne _ _ (by omega)]; exact VZ.out.1, VB.out, by rw [ups_ne _ _ (by omega), VZ.out.2.1]; exact IO.out, by rw [ups_ne _ _ (by omega), VZ.out.2.2.1]; exact OO.out, by rw [ups_at]; rfl, LB.out⟩
                        have HGOOD : Hid (whole = .good ⟨a1, jns, outs, lk⟩ xs9) := Lib.hid (IX.out.1 rfl)
                        obtain ⟨V9, hV9⟩ : ∃ V9 : Nat → Value, V9 = ups V3 3 (.int .u32 (lk : Int)) := ⟨_, rfl⟩
                        rw [← hV9] at VZ2 E
                        obtain ⟨pr, cr, rfl, hlr⟩ := QD.out.slice
                        have HLR := Lib.hid hlr
                        clear hV9 hlr VZ IO OO IX
                        refine Go.wp_mono (Q := noPanic _) ?_ noPanic_of
                        refine wp_region_memS (S := fun W' => W'.heap[b6]? = some (.cells (arr 4 V9) 28 (0, 0)) ∧ W'.heap[bR]? = some (.cells #[.slice pr xs9.length cr, .int .i64 0] 58 (0, 0))) (Lib.hid (Mem.nil w10)) (by kernel_rfl) ?_
                        intro wx E1
                        replace E := Lib.hid (E.out.call E1.out.below)
                        replace QD := Lib.hid (QD.out.below E1.out.below)
                        replace VZ2 := Lib.hid (VZ2.out.below E1.out.below)
                        have S0 := Lib.hid (And.intro (E.out.get List.mem_cons_self) (E.out.get (List.mem_cons_of_mem _ List.mem_cons_self)))
                        clear E1
                        refine hm_run 0 191 (.agg (arr 4 V9)) rfl rfl (by kernel_rfl) (by kernel_rfl) (by kernel_rfl) (fun _ _ _ h => h) rfl (fun W' hW => exec_load rfl (load_whole hW.1 Try.underlying28 rfl (by kernel_rfl))) S0.out ?_
                        try simp only [Act.put, List.getElem_toArray, List.getElem_cons_succ, List.getElem_cons_zero, List.setIfInBounds_toArray, List.set_cons_zero, List.set_cons_succ]
                        refine hm_run 2 193 (.pointer (some ⟨bR, 0, none⟩)) rfl rfl (by kernel_rfl) (by kernel_rfl) (by kernel_rfl) (fun _ _ _ h => h) rfl (fun _ _ => rfl) S0.out ?_
                        try simp only [Act.put, List.getElem_toArray, List.getElem_cons_succ, List.getElem_cons_zero, List.setIfInBounds_toArray, List.set_cons_zero, List.set_cons_succ]
                        refine hm_run 3 194 (.pointer (some ⟨bR, 0, none⟩)) rfl rfl (by kernel_rfl) (by kernel_rfl) (by kernel_rfl) (fun _ _ _ h => h) rfl (fun _ _ => rfl) S0.out ?_
                        try simp only [Act.put, List.getElem_toArray, List.getElem_cons_succ, List.getElem_cons_zero, List.setIfInBounds_toArray, List.set_cons_zero, List.set_cons_succ]
                        refine hm_run 4 195 (.pointer (some ⟨bR, 0, none⟩)) rfl rfl (by kernel_rfl) (by kernel_rfl) (by kernel_rfl) (fun _ _ _ h => h) rfl (fun _ _ => rfl) S0.out ?_
                        try simp only [Act.put, List.getElem_toArray, List.getElem_cons_succ, List.getElem_cons_zero, List.setIfInBounds_toArray, List.set_cons_zero, List.set_cons_succ]
                        refine hm_run 5 196 (.slice pr xs9.length cr) rfl rfl (by kernel_rfl) (by kernel_rfl) (by kernel_rfl) (fun _ _ _ h => h) rfl (fun W' hW => exec_load rfl (run_load_one Try.underlying22 rfl (cell_of_here hW.2 0 rfl))) S0.out ?_
                        try simp only [Act.put, List.getElem_toArray, List.getElem_cons_succ, List.getElem_cons_zero, List.setIfInBounds_toArray, List.set_cons_zero, List.set_cons_succ]
                        refine hm_one (i := 1) (by kernel_rfl) ?_
                        refine hm_step 1 rfl (by kernel_rfl) fun K hK => ?_
                        try simp only [Act.put, List.getElem_toArray, List.getElem_cons_succ, List.getElem_cons_zero, List.setIfInBounds_toArray, List.set_cons_zero, List.set_cons_succ]
                        refine mo_bs0x rfl ?_
                        intro p33 g33 w33 N33 hb33
                        have EX := E
                        have SZX := Lib.hid E.out.below.size
                        have BX := QD.out.at.isB
                        have HBX := Lib.hid BX
                        clear BX
                        replace E := Lib.hid (EX.out.call hb33.out)
                        replace QD := Lib.hid (QD.out.below hb33.out)
                        replace S0 := Lib.hid (And.intro (E.out.get List.mem_cons_self) (E.out.get (List.mem_cons_of_mem _ List.mem_cons_self)))
                        refine hK _ _ S0.out ?_
                        clear hK K
                        try simp only [Act.put, List.getElem_toArray, List.getElem_cons_succ, List.getElem_cons_zero, List.setIfInBounds_toArray, List.set_cons_zero, List.set_cons_succ]
                        refine hm_one (i := 6) (by kernel_rfl) ?_
                        refine hm_step 6 rfl (by kernel_rfl) fun K hK => ?_
                        try simp only [Act.put, List.getElem_toArray, List.getElem_cons_succ, List.getElem_cons_zero, List.setIfInBounds_toArray, List.set_cons_zero, List.set_cons_succ]
                        obtain ⟨pr2, gr, orr, cr2, hvr, hlr2, RW0⟩ := QD.out.at
                        injection hvr with q1 q2 q3
                        subst q1 q3
                        have RW := Lib.hid RW0
                        clear RW0 q2 hlr2
                        refine mo_app (.tmp 192) (.tmp 196) rfl rfl N33 rfl RW (by have := HLR.out; omega) ?_
                        intro p34 g34 c34 w34 N34 hb34
                        rw [Nat.zero_add] at N34 ⊢
                        have BX := Lib.hid (hb33.out.trans hb34.out)
                        replace E := Lib.hid (EX.out.call BX.out)
                        replace VZ2 := Lib.hid (VZ2.out.below BX.out)
                        replace S0 := Lib.hid (And.intro (E.out.get List.mem_cons_self) (E.out.get (List.mem_cons_of_mem _ List.mem_cons_self)))
                        clear EX BX hb33 hb34 QD RW N33
                        refine hK _ _ S0.out ?_
                        clear hK K
                        try simp only [Act.put, List.getElem_toArray, List.getElem_cons_succ, List.getElem_cons_zero, List.setIfInBounds_toArray, List.set_cons_zero, List.set_cons_succ]
                        refine hm_one (i := 7) (by kernel_rfl) ?_
                        refine hm_step 7 rfl (by kernel_rfl) fun K hK => ?_
                        try simp only [Act.put, List.getElem_toArray, List.getElem_cons_succ, List.getElem_cons_zero, List.setIfInBounds_toArray, List.set_cons_zero, List.set_cons_succ]
                        refine mo_store_only 2 E 28 (.tmp 2) (.tmp 191) rfl rfl rfl rfl (by kernel_rfl) (by simp only [arr_size]) (all_of VZ2.out.one) ?_
                        intro w35 E35 HO
                        simp only [List.set_cons_zero, List.set_cons_succ] at E35
                        have KT := Lib.hid (KeepT.of_only (E.out.get (List.mem_cons_of_mem _ (List.mem_cons_of_mem _ List.mem_cons_self))) HO.out)
                        replace VZ2 := Lib.hid (VZ2.out.keep KT.out (by decide) (by decide) (by decide) (by decide))
                        have N35 := Lib.hid (own_keep N34.out KT.out (by decide))
                        replace S0 := Lib.hid (And.intro (E35.out.get List.mem_cons_self) (E35.out.get (List.mem_cons_of_mem _ List.mem_cons_self)))
                        clear KT HO E N34
                        refine hK _ _ S0.out ?_
                        clear hK K
                        try simp only [Act.put, List.getElem_toArray, List.getElem_cons_succ, List.getElem_cons_zero, List.setIfInBounds_toArray, List.set_cons_zero, List.set_cons_succ]
                        refine hm_run 8 3 (.slice p34 xs9.length c34) rfl rfl (by kernel_rfl) (by kernel_rfl) (by kernel_rfl) (fun _ _ _ h => h) rfl (fun _ _ => rfl) S0.out ?_
                        try simp only [Act.put, List.getElem_toArray, List.getElem_cons_succ, List.getElem_cons_zero, List.setIfInBounds_toArray, List.set_cons_zero, List.set_cons_succ]
                        refine hm_run 9 4 (.int .i64 0) rfl rfl (by kernel_rfl) (by kernel_rfl) (by kernel_rfl) (fun _ _ _ h => h) rfl (fun _ _ => rfl) S0.out ?_
                        try simp only [Act.put, List.getElem_toArray, List.getElem_cons_succ, List.getElem_cons_zero, List.setIfInBounds_toArray, List.set_cons_zero, List.set_cons_succ]
                        refine wpAnyH_done (by kernel_rfl) ?_ _
                        simp only [noPanic]
                        have DG : Hid (DecPost W (.agg (arr 4 txz)) TxV whole (.returned (.tuple #[.agg (arr 4 V9), .slice p34 xs9.length c34, .int .i64 0])) w35) := Lib.hid (by
                          rw [HGOOD.out]
                          exact ⟨_, p34, g34, c34, rfl, ⟨V9, rfl, VZ2.out⟩, (N35.out.mono SZX.out).to (fun i hi => by unfold cat; rw [if_neg (by omega), Nat.sub_zero]) (lf_lt HBX.out), E35.out.below⟩)
                        have E0 := Lib.hid (E35.out.get (List.mem_cons_of_mem _ (List.mem_cons_of_mem _ List.mem_cons_self)))
                        go_wp2
                        exact bodyPost_ret (res_ctt (fn := Try.f10) rfl _ _ _ rfl E0.out Try.underlying28 rfl (by rw [arr_size]; kernel_rfl)) rfl DG.out
                    · as_aux_lemma =>
                        have c2 : (e9 == 0) = false := by simp; exact h0
                        have c3 : (e9 != 0) = true := by simp; exact h0
                        have HBAD := Lib.hid (IX.out.2 h0)
                        go_upto_region 32 with ((with_reducible refine wpList_at 184 rfl ?_); refine mem_load_cell E 29 rfl (.tmp 183) rfl rfl (List.mem_cons_of_mem _ List.mem_cons_self) Try.underlying29 rfl (v := .int .i64 e9) rfl ?_)
                        refine Go.wp_mono (Q := noPanic _) ?_ noPanic_of
                        refine wp_region_memS (S := fun W' => W'.heap[bR]? = some (.cells #[u9, .int .i64 e9] 58 (0, 0))) E (by kernel_rfl) ?_
                        clear E
                        intro wx E
                        have S0 := Lib.hid (E.out.get (List.mem_cons_of_mem _ List.mem_cons_self))
                        refine hm_run 0 186 (.agg (arr 4 txz)) rfl rfl (by kernel_rfl) (by kernel_rfl) (by kernel_rfl) (fun _ _ _ h => h) rfl (fun W' _ => exec_build rfl (ps := #[]) (by simp) (by kernel_rfl)) S0.out ?_
                        try simp only [Act.put, List.getElem_toArray, List.getElem_cons_succ, List.getElem_cons_zero, List.setIfInBounds_toArray, List.set_cons_zero, List.set_cons_succ]
                        refine hm_run 1 187 (.pointer (some ⟨bR, 0, none⟩)) rfl rfl (by kernel_rfl) (by kernel_rfl) (by kernel_rfl) (fun _ _ _ h => h) rfl (fun _ _ => rfl) S0.out ?_
                        try simp only [Act.put, List.getElem_toArray, List.getElem_cons_succ, List.getElem_cons_zero, List.setIfInBounds_toArray, List.set_cons_zero, List.set_cons_succ]
                        refine hm_run 2 188 (.pointer (some ⟨bR, 0, none⟩)) rfl rfl (by kernel_rfl) (by kernel_rfl) (by kernel_rfl) (fun _ _ _ h => h) rfl (fun _ _ => rfl) S0.out ?_
                        try simp only [Act.put, List.getElem_toArray, List.getElem_cons_succ, List.getElem_cons_zero, List.setIfInBounds_toArray, List.set_cons_zero, List.set_cons_succ]
                        refine hm_run 3 189 (.pointer (some ⟨bR, 1, none⟩)) rfl rfl (by kernel_rfl) (by kernel_rfl) (by kernel_rfl) (fun _ _ _ h => h) rfl (fun _ _ => rfl) S0.out ?_
                        try simp only [Act.put, List.getElem_toArray, List.getElem_cons_succ, List.getElem_cons_zero, List.setIfInBounds_toArray, List.set_cons_zero, List.set_cons_succ]
                        refine hm_run 4 190 (.int .i64 e9) rfl rfl (by kernel_rfl) (by kernel_rfl) (by kernel_rfl) (fun _ _ _ h => h) rfl (fun W' hW => exec_load rfl (run_load_one Try.underlying29 rfl (cell_of_here hW 1 rfl))) S0.out ?_
                        try simp only [Act.put, List.getElem_toArray, List.getElem_cons_succ, List.getElem_cons_zero, List.setIfInBounds_toArray, List.set_cons_zero, List.set_cons_succ]
                        refine hm_one (i := 5) (by kernel_rfl) ?_
                        refine hm_step 5 rfl (by kernel_rfl) fun K hK => ?_
                        try simp only [Act.put, List.getElem_toArray, List.getElem_cons_succ, List.getElem_cons_zero, List.setIfInBounds_toArray, List.set_cons_zero, List.set_cons_succ]
                        refine mo_store_only 2 E 28 (.tmp 2) (.tmp 186) rfl rfl rfl rfl (by kernel_rfl) rfl (all_of txz_one) ?_
                        intro w8 E8 HO
                        simp only [List.set_cons_zero, List.set_cons_succ] at E8
                        have S1 := Lib.hid (E8.out.get (List.mem_cons_of_mem _ List.mem_cons_self))
                        refine hK _ _ S1.out ?_
                        clear hK K S0 HO E
                        try simp only [Act.put, List.getElem_toArray, List.getElem_cons_succ, List.getElem_cons_zero, List.setIfInBounds_toArray, List.set_cons_zero, List.set_cons_succ]
                        refine hm_run 6 3 (.slice none 0 0) rfl rfl (by kernel_rfl) (by kernel_rfl) (by kernel_rfl) (fun _ _ _ h => h) rfl (fun _ _ => rfl) S1.out ?_
                        try simp only [Act.put, List.getElem_toArray, List.getElem_cons_succ, List.getElem_cons_zero, List.setIfInBounds_toArray, List.set_cons_zero, List.set_cons_succ]
                        refine hm_run 7 4 (.int .i64 e9) rfl rfl (by kernel_rfl) (by kernel_rfl) (by kernel_rfl) (fun _ _ _ h => h) rfl (fun _ _ => rfl) S1.out ?_
                        try simp only [Act.put, List.getElem_toArray, List.getElem_cons_succ, List.getElem_cons_zero, List.setIfInBounds_toArray, List.set_cons_zero, List.set_cons_succ]
                        refine wpAnyH_done (by kernel_rfl) ?_ _
                        simp only [noPanic]
                        have DB : Hid (DecPost W (.agg (arr 4 txz)) TxV whole (.returned (.tuple #[.agg (arr 4 txz), .slice none 0 0, .int .i64 e9])) w8) := Lib.hid (by
                          rw [HBAD.out]
                          exact ⟨rfl, E8.out.below⟩)
                        have E0 := Lib.hid (E8.out.get (List.mem_cons_of_mem _ (List.mem_cons_of_mem _ List.mem_cons_self)))
                        go_wp2
                        exact bodyPost_ret (res_ctt (fn := Try.f10) rfl _ _ _ rfl E0.out Try.underlying28 rfl (by rw [arr_size]; kernel_rfl)) rfl DB.out
end Go.Proofs.Ytllndneplkigpaa
