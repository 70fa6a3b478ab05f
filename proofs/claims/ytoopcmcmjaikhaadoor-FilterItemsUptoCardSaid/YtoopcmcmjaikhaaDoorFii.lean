/- A block's items: the program's. -/
import Derived.Test.YtoopcmcmjaikhaaDoorRii
import Derived.Test.YtoopcmcmjaikhaaDoorIo
set_option linter.unusedSimpArgs false
set_option linter.unusedVariables false
set_option maxRecDepth 100000
namespace Go.Proofs.YtoopcmcmjaikhaaDoor
open Go.ChangeShapes Go.WideShapes Go.RowKit Go.Lib

def ups (V : Nat → Value) (i : Nat) (v : Value) : Nat → Value := fun j => if j = i then v else V j
theorem ups_at (V : Nat → Value) (i : Nat) (v : Value) : ups V i v i = v := by unfold ups; rw [if_pos rfl]
theorem ups_ne (V : Nat → Value) {i j : Nat} (v : Value) (h : j ≠ i) : ups V i v j = V j := by unfold ups; rw [if_neg h]
theorem vs_set (V : Nat → Value) (m i : Nat) (v : Value) : vs (ups V i v) m = (vs V m).set i v := by
  apply List.ext_getElem?
  intro j
  rw [List.getElem?_set]
  rcases Nat.lt_or_ge j m with h | h
  · rw [vs_at _ _ _ h]
    by_cases e : i = j
    · subst e
      rw [if_pos rfl, if_pos (by rw [vs_length]; exact h), ups_at]
    · rw [if_neg e, vs_at _ _ _ h, ups_ne _ _ (fun h => e h.symm)]
  · rw [List.getElem?_eq_none (by rw [vs_length]; exact h)]
    by_cases e : i = j
    · subst e
      rw [if_pos rfl, if_neg (by rw [vs_length]; omega)]
    · rw [if_neg e, List.getElem?_eq_none (by rw [vs_length]; exact h)]
/-- A cell of a row of the call's own, written. -/
theorem VOwn.put {T k B : Nat} {w : World} {p : Option Addr} {g n c : Nat} {V : Nat → Value} (N : VOwn T k B w p g n c V) {i : Nat} (hi : i < n * k) (v : Value) (hv : v.oneCell' = true) : VOwn T k B (w.setCell ⟨g, i, none⟩ v) p g n c (ups V i v) ∧ Only g w (w.setCell ⟨g, i, none⟩ v) ∧ B ≤ g ∧ ∃ cur, w.heap[g]? = some (.cells cur T (0, 0)) ∧ i < cur.size := by
  have hO : Only g w (w.setCell ⟨g, i, none⟩ v) := (Only.refl g w).setCell _ rfl _
  obtain ⟨h0, h1⟩ := N.own
  rcases h1 with ⟨h1, h2⟩ | ⟨g', cap, cur, h1, h2, h3, h4, h5, h6, h7⟩
  · rw [h2, Nat.zero_mul] at hi; omega
  · injection h1 with a1 a2 a3
    subst a3
    rcases N.spot with q | q
    · rw [q] at a1; cases a1
    · rw [q] at a1
      injection a1 with a1
      injection a1 with a1
      subst a1
      have hc : n * k ≤ c * k := Nat.mul_le_mul_right k h4
      have hh : (w.setCell ⟨g, i, none⟩ v).heap[g]? = some (.cells (cur.setIfInBounds i v) T (0, 0)) := ((Holds.start h3).set rfl).here
      refine ⟨⟨⟨vs_length _ _, .inr ⟨g, c, cur.setIfInBounds i v, by rw [q], h2, hh, h4, h5, by simp [h6], ?_⟩⟩, N.spot, fun j hj => ?_, Nat.le_trans N.low hO.size⟩, hO, h2, cur, h3, by omega⟩
      · rw [Array.toList_setIfInBounds, List.take_set, h7, vs_set]
      · unfold ups
        split
        · exact hv
        · exact N.one j hj
theorem Only.belowOf {g B : Nat} {w w' : World} (h : Only g w w') (hB : B ≤ g) (hs : B ≤ w.heap.size) : Below B w w' := h.below hB hs
section
variable {ops : Array Oper} {rest : List Oper} {Q : Exit → Act → World → Prop} {op : Oper} {a : Act} {w : World}
theorem wpList_vput {T k B : Nat} {p : Option Addr} {g n c : Nat} {V : Nat → Value} (N : Hid (VOwn T k B w p g n c V)) (ty : TypeId) (hg : op.guard = none) (x y : Operand) (ho : op.op = .store ty x y) {i : Nat} {v : Value} (hx : a.eval x = .pointer (some ⟨g, i, none⟩)) (hy : a.eval y = v) (hi : i < n * k)
    (hs : (Tryd.prog.info? ty).map (·.size) = some 1) (h1 : v.cells = #[v]) (h2 : v.oneCell' = true)
    (h : ∀ w', Hid (VOwn T k B w' p g n c (ups V i v)) → Hid (Only g w w') → Hid (KeepT T w w') → Hid (B ≤ g) → wpList Tryd.prog ops Q rest (a.put op.dst undef) w') : wpList Tryd.prog ops Q (op :: rest) a w := by
  obtain ⟨N', hO, hB, cur, hc, hcs⟩ := N.out.put hi v h2
  refine wpList_plain hg fun K hK => ?_
  unfold Oper.wp execOp
  simp only [ho, hx, hy, Sem.run_bind, Sem.run_pure, run_store_one hs h1 h2 (cell_of_here hc i (Array.getElem?_eq_getElem hcs)) (free_of_here hc i), Result.andThen_ok]
  exact hK _ _ (h _ (Lib.hid N') (Lib.hid hO) (Lib.hid (KeepT.of_only hc hO)) (Lib.hid hB))
end
def isD (s : List Nat) : Bool := decide (0 < s.length) && decide (lf s 0 = 106)
/-- Whether the program keeps a script. -/
def keepP (s : List Nat) : Bool := !isD s
def outsP (os : List TOut) : List (List Nat) := (os.map (·.sc)).filter keepP
def itemsP (ts : List TTx) : List (List Nat) := (ts.map fun t => outsP t.outs).flatten
theorem outsP_succ (os : List TOut) {i : Nat} (h : i < os.length) : outsP (os.take (i + 1)) = outsP (os.take i) ++ if keepP os[i].sc then [os[i].sc] else [] := by
  unfold outsP
  rw [take_get os h, List.map_append, List.filter_append]
  congr 1
  simp only [List.map_cons, List.map_nil, List.filter_cons, List.filter_nil]
theorem itemsP_succ (ts : List TTx) {j : Nat} (h : j < ts.length) : itemsP (ts.take (j + 1)) = itemsP (ts.take j) ++ outsP ts[j].outs := by
  unfold itemsP
  rw [take_get ts h, List.map_append, List.flatten_append]
  simp
theorem outsP_le (os : List TOut) (i : Nat) : (outsP (os.take i)).length ≤ (outsP os).length := by
  unfold outsP
  exact (((List.take_sublist i os).map _).filter _).length_le
theorem itemsP_le (ts : List TTx) : ∀ j, (itemsP (ts.take j)).length ≤ (itemsP ts).length := fun j => by
  have h : itemsP ts = itemsP (ts.take j) ++ itemsP (ts.drop j) := by
    unfold itemsP
    rw [← List.flatten_append, ← List.map_append, List.take_append_drop]
  rw [h, List.length_append]
  omega

theorem once_drop {acc A : List (List Nat)} : (A.filter fun s => decide (0 < s.length)).foldl stepO acc = A.foldl stepO acc := by
  induction A generalizing acc with
  | nil => rfl
  | cons a A ih =>
    by_cases h : 0 < a.length
    · rw [List.filter_cons_of_pos (by simpa using h), List.foldl_cons, List.foldl_cons, ih]
    · rw [List.filter_cons_of_neg (by simpa using h), List.foldl_cons, ih]
      congr 1
      unfold stepO
      rw [if_pos (.inl (by omega))]
theorem items_eq (ts : List TTx) : itemsR ts = (itemsP ts).filter fun s => decide (0 < s.length) := by
  unfold itemsR itemsP
  rw [List.filter_flatten, List.map_map]
  congr 1
  apply List.map_congr_left
  intro t _
  unfold outsR outsP
  show _ = List.filter _ (List.filter _ _)
  rw [List.filter_filter]
  congr 1
  funext s
  unfold keepR keepP isD
  by_cases h : 0 < s.length
  · simp [h]
  · simp [h]
/-- The same are left once of both. -/
theorem once_items (ts : List TTx) (sp : List (List Nat)) : onceL (itemsP ts ++ sp) = onceL (itemsR ts ++ sp) := by
  unfold onceL
  rw [List.foldl_append, List.foldl_append, items_eq, once_drop]
theorem exec_eq5I {o : Oper} {ev : Operand → Value} {W : World} {x y : Operand} {a b : Int} {q : Bool} (ho : o.op = .binOp .eql 5 x y 5) (hx : ev x = .int .u8 a) (hy : ev y = .int .u8 b) (hq : decide (a = b) = q) : (execOp ev o).run Tryd.prog W = .ok (.value (.bool q)) W := by
  subst hq
  unfold execOp
  by_cases h : a = b
  · simp [ho, hx, hy, go_sem, Tryd.underlying5, h]
  · simp [ho, hx, hy, go_sem, Tryd.underlying5, h]
theorem isdata_any {w : World} {p : Option Addr} {n c : Nat} {s : List Nat} (A : Hid (TextAt w (.slice p n c) s)) : Calls Tryd.prog 47 #[.slice p n c] w fun e w' => e = .returned (.bool (isD s)) ∧ w = w' := by
  obtain ⟨ps, gs, os, cs, hv, hl, RS⟩ := id A.out
  injection hv with e1 e2 e3
  subst e1 e3
  rw [← e2] at RS
  by_cases h0 : 0 < n
  · have GS := Lib.hid (show decide ((0 : Int) < (n : Int)) = true from decide_eq_true (by omega))
    obtain rfl := RS.head (by omega)
    have SP := Lib.hid h0
    obtain ⟨x, hx⟩ : ∃ x, x = lf s 0 := ⟨_, rfl⟩
    have CS := Lib.hid (show w.cell? ⟨gs, os + 0 * 1, none⟩ = some (.int .u8 ((x : Nat) : Int)) from by
      have h := RS.cell 0 (by omega)
      rw [hx]
      simpa using h)
    obtain ⟨q, hq⟩ : ∃ q, q = decide (x = 106) := ⟨_, rfl⟩
    have QQ := Lib.hid (show decide ((x : Int) = 106) = q by rw [hq]; apply decide_eq_decide.2; omega)
    have D := Lib.hid (show isD s = q by unfold isD; rw [← e2, decide_eq_true h0, ← hx, hq]; rfl)
    rw [D.out]
    clear hl RS h0 hx hq A e2 D
    go_enter Tryd.func47, Tryd.ntmps47
    go_wp2_with (first | ((with_reducible refine wpList_at 5 rfl ?_); refine wpList_kn rfl (.bool true) (by exact exec_gtrI rfl rfl rfl GS.out) ?_) | ((with_reducible refine wpList_at 8 rfl ?_); refine wpList_ix (k := 1) (j := 0) Tryd.underlying32 (by kernel_rfl) (.tmp 7) (.const (.int .i64 0)) rfl rfl rfl rfl SP.out rfl ?_) | ((with_reducible refine wpList_at 9 rfl ?_); refine wpList_ld1 5 (.tmp 8) rfl rfl rfl Tryd.underlying5 rfl CS.out ?_) | ((with_reducible refine wpList_at 10 rfl ?_); refine wpList_kn rfl (.bool q) (by exact exec_eq5I rfl rfl rfl QQ.out) ?_))
    go_ret
    exact ⟨rfl, rfl⟩
  · have GS := Lib.hid (show decide ((0 : Int) < (n : Int)) = false from decide_eq_false (by omega))
    have D := Lib.hid (show isD s = false by unfold isD; rw [← e2, decide_eq_false h0]; rfl)
    rw [D.out]
    clear hl RS h0 A e2 D
    go_enter Tryd.func47, Tryd.ntmps47
    go_wp2_with (first | ((with_reducible refine wpList_at 5 rfl ?_); refine wpList_kn rfl (.bool false) (by exact exec_gtrI rfl rfl rfl GS.out) ?_))
    go_ret
    exact ⟨rfl, rfl⟩
theorem items_put {w9 wr w6 w7 : World} {its : List (List Nat)} {i sn : Nat} {U : Nat → Value} {p6 : Option Addr} {g6 c6 : Nat} {s : List Nat} (h : ∀ q (h : q < its.length), (q < i → TextOwn w9.heap.size wr (U q) its[q]) ∧ (i ≤ q → TextAt w9 (U q) its[q])) (hb : Below wr.heap.size wr w6) (KT : KeepT 32 w6 w7) (N : Own wr.heap.size w6 p6 g6 sn c6 (lf s)) (hs : ∀ h : i < its.length, its[i] = s) (hn : sn = s.length) (hl : sn ≤ 140737488351232) (hz : w9.heap.size ≤ wr.heap.size) :
    ∀ q (h : q < its.length), (q < i + 1 → TextOwn w9.heap.size w7 (ups U i (.slice p6 sn c6) q) its[q]) ∧ (i + 1 ≤ q → TextAt w9 (ups U i (.slice p6 sn c6) q) its[q]) := fun q hq => by
  refine ⟨fun q1 => ?_, fun q1 => ?_⟩
  · by_cases e : q = i
    · subst e
      rw [ups_at, hs hq]
      have T0 : TextOwn w9.heap.size w6 (.slice p6 sn c6) s := ⟨p6, g6, c6, by rw [hn], by rw [← hn]; exact hl, by rw [← hn]; exact N.mono hz⟩
      exact T0.keep KT (by decide)
    · rw [ups_ne _ _ e]
      exact (((h q hq).1 (by omega)).below hb).keep KT (by decide)
  · rw [ups_ne _ _ (by omega)]
    exact (h q hq).2 (by omega)
set_option maxHeartbeats 32000000 in
theorem fitems_any {w : World} {V : Nat → Value} {b : TBlk} {v : Value} {sp : List (List Nat)} (A : Hid (BlkCells w V b)) (S : Hid (TextsAt w v sp)) (hn : (itemsP b.txs).length + sp.length ≤ 4000000) :
    Calls Tryd.prog 19 #[.agg (arr 69 V), v] w fun e w' => (∃ v', e = .returned v' ∧ TextsOwn w.heap.size w' v' (onceL (itemsP b.txs ++ sp))) ∧ Below w.heap.size w w' := by
  have E := Lib.hid (Mem.nil w)
  obtain ⟨pt, gt, ot, ct, Vt, hvt, hlt', RT0, TT0⟩ := A.out.txs
  obtain ⟨ts, hts⟩ : ∃ ts, ts = b.txs := ⟨_, rfl⟩
  rw [← hts] at hvt hlt' RT0 TT0 hn ⊢
  obtain ⟨n, hnn⟩ : ∃ n, n = ts.length := ⟨_, rfl⟩
  rw [← hnn] at hvt hlt' RT0
  have C68 := Lib.hid (show (arr 69 V)[68]? = some (.slice pt n ct) by rw [arr_get 69 V 68 (by decide), hvt])
  have RR := Lib.hid RT0
  have TT := Lib.hid TT0
  have HN := Lib.hid hnn
  have NL := Lib.hid (show n ≤ 140737488351232 by omega)
  have TOT := Lib.hid hn
  have HB := Lib.hid (Below.refl w.heap.size w)
  obtain ⟨z4, hz4, hz4i⟩ := infoTxI
  obtain ⟨z2, hz2, hz2i⟩ := infoOutI
  have ZT := Lib.hid hz4i
  have ZTS := Lib.hid hz4
  have ZO := Lib.hid hz2i
  have ZOS := Lib.hid hz2
  obtain ⟨pq, gq, oq, cq, Vq, hvq, hlq, RQ0, TQ0⟩ := id S.out
  subst hvq
  obtain ⟨k0, hk0⟩ : ∃ k0, k0 = sp.length := ⟨_, rfl⟩
  have HK := Lib.hid hk0
  rw [← hk0] at hlq RQ0 S ⊢
  have RQ := Lib.hid RQ0
  have TQ := Lib.hid TQ0
  clear A hvt hlt' RT0 TT0 hn hnn hts hz4 hz4i hz2 hz2i hlq RQ0 TQ0 hk0
  go_enter Tryd.func19, Tryd.ntmps19
  go_wp2_with (first
    | ((with_reducible refine wpList_at 2 rfl ?_); refine mem_box E 42 rfl _ rfl rfl (arr_cells' 69 V) ?_; clear E; intro b2 w2 E)
    | ((with_reducible refine wpList_at 14 rfl ?_); refine mem_load_cell E 40 rfl (.tmp 13) rfl rfl List.mem_cons_self Tryd.underlying40 rfl C68.out ?_; replace HB := Lib.hid (HB.out.trans E.out.below)))
  clear E
  go_loopg [5, 16] n (fun k s5 s13 wr => ∃ (j : Nat) (acc : List (List Nat)) (p : Option Addr) (g c : Nat) (U : Nat → Value), j + k = n ∧ s5 = .slice p acc.length c ∧ s13 = .int .i64 (j : Int) ∧ Hid (acc = itemsP (ts.take j)) ∧ Hid (AccAt w.heap.size w wr p g c U acc) ∧ Hid (Below w.heap.size w wr))
  case atStart => exact ⟨0, [], none, 0, 0, fun _ => undef, by omega, rfl, rfl, Lib.hid rfl, Lib.hid ⟨vown_nothing _ _ _ _ _ HB.out.size, fun i h => absurd h (by simp)⟩, HB⟩
  case round =>
    clear HB
    obtain ⟨j, acc, p, g, c, U, hj, rfl, rfl, HA, VN, HB⟩ := hrel
    obtain ⟨kk, hkk⟩ : ∃ kk : Nat, kk = gk := ⟨_, rfl⟩
    rw [← hkk] at hj
    by_cases hlt : j < n
    · obtain rfl := RR.out.head (by omega)
      have ht : j < ts.length := by rw [← HN.out]; exact hlt
      have LT := Lib.hid (show decide ((j : Int) < (n : Int)) = true from decide_eq_true (by omega))
      have TXC := TT.out j ht
      obtain ⟨t, hT⟩ : ∃ t, t = ts[j] := ⟨_, rfl⟩
      have ON := Lib.hid (itemsP_succ ts ht)
      have LE1 := Lib.hid (itemsP_le ts (j + 1))
      rw [← hT] at TXC ON
      obtain ⟨Vx, hVx⟩ : ∃ Vx : Nat → Value, Vx = fun x => Vt (j * 4 + x) := ⟨_, rfl⟩
      rw [← hVx] at TXC
      have LDX := Lib.hid (show ∀ W, Below wr.heap.size wr W → (Instr.loadAt 80 (.pointer (some ⟨gt, ot + j * 4, none⟩))).run Tryd.prog W = .ok (.agg (arr 4 Vx)) W from fun W hb => by
        rw [hVx]
        exact (RR.out.below (HB.out.trans (hb.mono HB.out.size))).load hlt Tryd.underlying80 rfl (by kernel_rfl))
      obtain ⟨po, go, oo, co, Vo, hvo, hlo, RO0, TO0⟩ := TXC.outs
      obtain ⟨os, hos⟩ : ∃ os, os = t.outs := ⟨_, rfl⟩
      rw [← hos] at hvo hlo RO0 TO0 ON
      obtain ⟨m, hm⟩ : ∃ m, m = os.length := ⟨_, rfl⟩
      rw [← hm] at hvo hlo RO0
      have X2 := Lib.hid (show (arr 4 Vx)[2]? = some (.slice po m co) by rw [arr_get 4 Vx 2 (by decide), hvo])
      have XX := Lib.hid (all_k TXC.one)
      have RO := Lib.hid RO0
      have TO := Lib.hid TO0
      have OL := Lib.hid (show m = os.length ∧ m ≤ 140737488351232 from ⟨hm, by omega⟩)
      have HJ := Lib.hid (show j < n ∧ j + kk = n ∧ kk = gk from ⟨hlt, hj, hkk⟩)
      obtain ⟨Wr, hWr⟩ : ∃ D, D = wr := ⟨_, rfl⟩
      subst hWr
      have E := Lib.hid (Mem.nil Wr)
      obtain ⟨acc0, hacc0⟩ : ∃ a, a = acc := ⟨_, rfl⟩
      have A0 := Lib.hid (show acc0 = itemsP (ts.take j) from hacc0.trans HA.out)
      have AI := Lib.hid (show acc = acc0 ++ outsP (os.take 0) by rw [hacc0]; unfold outsP; simp)
      clear hT TXC hVx hvo hlo RO0 TO0 hos hm hlt hj hkk ht hacc0
      go_wp2_with (first | ((with_reducible refine wpList_at 17 rfl ?_); refine wpList_kn rfl (.bool true) (by exact exec_lssi rfl rfl rfl LT.out) ?_) | ((with_reducible refine wpList_at 18 rfl ?_); refine wpList_ix (k := 4) (j := j) Tryd.underlying40 (by kernel_rfl) (.tmp 14) (.tmp 16) rfl rfl rfl rfl HJ.out.1 rfl ?_) | ((with_reducible refine wpList_at 19 rfl ?_); refine wpList_ld 80 (.tmp 18) rfl rfl rfl (LDX.out _ E.out.below) ?_) | ((with_reducible refine wpList_at 7 rfl ?_); refine mem_alloc E 80 rfl rfl ZT.out ?_; clear E; intro b7 w8 E) | ((with_reducible refine wpList_ndI rfl ?_); refine mem_store_row 0 E 80 rfl (.tmp 7) (.tmp 19) rfl rfl rfl rfl (by rw [arr_size]; kernel_rfl) (by rw [arr_size]; exact ZTS.out) XX.out ?_; clear E; intro w9 E; simp only [List.set_cons_zero] at E) | ((with_reducible refine wpList_at 21 rfl ?_); refine mem_load_cell E 78 rfl (.tmp 20) rfl rfl List.mem_cons_self Tryd.underlying78 rfl X2.out ?_))
      replace VN := Lib.hid (show AccAt w.heap.size w w9 p g c U acc from ⟨VN.out.1.below E.out.below, VN.out.2⟩)
      replace HB := Lib.hid (HB.out.trans (E.out.below.mono HB.out.size))
      clear E
      go_loopg [5, 23] m (fun k s5 s20 wq => ∃ (i : Nat) (acc : List (List Nat)) (p : Option Addr) (g c : Nat) (U : Nat → Value), i + k = m ∧ s5 = .slice p acc.length c ∧ s20 = .int .i64 (i : Int) ∧ Hid (acc = acc0 ++ outsP (os.take i)) ∧ Hid (AccAt w.heap.size w wq p g c U acc) ∧ Hid (Below w.heap.size w wq))
      case atStart => exact ⟨0, acc, p, g, c, U, by omega, rfl, rfl, AI, VN, HB⟩
      case round =>
        clear AI VN HB HA
        obtain ⟨i, acc, p, g, c, U, hi, rfl, rfl, AI, VN, HB⟩ := hrel
        obtain ⟨k2, hk2⟩ : ∃ k2 : Nat, k2 = gk := ⟨_, rfl⟩
        rw [← hk2] at hi
        by_cases hlt : i < m
        · obtain rfl := RO.out.head (by omega)
          have him : i < os.length := by rw [← OL.out.1]; exact hlt
          have LT2 := Lib.hid (show decide ((i : Int) < (m : Int)) = true from decide_eq_true (by omega))
          have OC := TO.out i him
          obtain ⟨o, ho⟩ : ∃ o, o = os[i] := ⟨_, rfl⟩
          have OS := outsP_succ os him
          have LE2 := outsP_le os (i + 1)
          rw [← ho] at OC OS
          obtain ⟨Vy, hVy⟩ : ∃ Vy : Nat → Value, Vy = fun x => Vo (i * 2 + x) := ⟨_, rfl⟩
          rw [← hVy] at OC
          have LDO := Lib.hid (show ∀ W, Below wr.heap.size wr W → (Instr.loadAt 83 (.pointer (some ⟨go, oo + i * 2, none⟩))).run Tryd.prog W = .ok (.agg (arr 2 Vy)) W from fun W hb => by
            rw [hVy]
            exact (RO.out.below (HB.out.trans (hb.mono HB.out.size))).load hlt Tryd.underlying83 rfl (by kernel_rfl))
          obtain ⟨s, hs⟩ : ∃ s, s = o.sc := ⟨_, rfl⟩
          have TX0 := OC.sc
          rw [← hs] at TX0 OS
          obtain ⟨ps, gs, os', cs, hvs, hls, RS⟩ := id TX0
          rw [hvs] at TX0
          have TX := Lib.hid TX0
          obtain ⟨sn, hsn⟩ : ∃ sn, sn = s.length := ⟨_, rfl⟩
          rw [← hsn] at hvs hls RS TX
          have C1 := Lib.hid (show (arr 2 Vy)[1]? = some (.slice ps sn cs) by rw [arr_get 2 Vy 1 (by decide), hvs])
          have OO := Lib.hid (all_k OC.one)
          have HI := Lib.hid (show i < m ∧ i + k2 = m ∧ k2 = gk from ⟨hlt, hi, hk2⟩)
          obtain ⟨mm, hmm⟩ : ∃ mm, mm = acc.length := ⟨_, rfl⟩
          have HM := Lib.hid hmm
          have UA := Lib.hid VN.out.2
          have VN := Lib.hid VN.out.1
          rw [← hmm] at VN ⊢
          have ML := Lib.hid (show mm + 1 ≤ 4000001 by
            have h1 := LE1.out
            rw [ON.out, List.length_append] at h1
            have h2 := outsP_le os i
            have h3 := TOT.out
            rw [hmm, AI.out, A0.out, List.length_append]
            omega)
          have E := Lib.hid (Mem.nil wr)
          cases hD : isD s
          · have D := Lib.hid hD
            have AI2 := Lib.hid (show acc ++ [s] = acc0 ++ outsP (os.take (i + 1)) by
              rw [AI.out, OS, if_pos (by unfold keepP; rw [hD]; rfl), List.append_assoc])
            clear hlt hi hk2 him OC ho OS LE2 hVy hs TX0 hvs hls RS hsn hmm hD
            go_wp2_with (first | ((with_reducible refine wpList_at 24 rfl ?_); refine wpList_kn rfl (.bool true) (by exact exec_lssi rfl rfl rfl LT2.out) ?_) | ((with_reducible refine wpList_at 25 rfl ?_); refine wpList_ix (k := 2) (j := i) Tryd.underlying78 (by kernel_rfl) (.tmp 21) (.tmp 23) rfl rfl rfl rfl HI.out.1 rfl ?_) | ((with_reducible refine wpList_at 26 rfl ?_); refine wpList_ld 83 (.tmp 25) rfl rfl rfl (LDO.out _ E.out.below) ?_) | ((with_reducible refine wpList_at 9 rfl ?_); refine mem_alloc E 83 rfl rfl ZO.out ?_; clear E; intro b9 w6 E) | ((with_reducible refine wpList_ndI rfl ?_); refine mem_store_row 0 E 83 rfl (.tmp 9) (.tmp 26) rfl rfl rfl rfl (by rw [arr_size]; kernel_rfl) (by rw [arr_size]; exact ZOS.out) OO.out ?_; clear E; intro w7 E; simp only [List.set_cons_zero] at E) | ((with_reducible refine wpList_at 28 rfl ?_); refine mem_load_cell E 32 rfl (.tmp 27) rfl rfl List.mem_cons_self Tryd.underlying32 rfl C1.out ?_) | (go_at_call 47; refine (isdata_any (Lib.hid (TX.out.below (HB.out.trans (E.out.below.mono HB.out.size))))).mono ?_; rw [D.out]; rintro e w8 ⟨rfl, rfl⟩) | ((with_reducible refine wpList_at 33 rfl ?_); refine mem_load_cell E 32 rfl (.tmp 32) rfl rfl List.mem_cons_self Tryd.underlying32 rfl C1.out ?_; have VN7 := Lib.hid (VN.out.below E.out.below); have HB7 := Lib.hid (HB.out.trans (E.out.below.mono HB.out.size))) | ((with_reducible refine wpList_at 34 rfl ?_); refine wpList_vbs 30 32 1 1 rfl _ rfl (fun _ => .slice ps sn cs) (fun i _ => rfl) (by unfold maxLen; omega) (ps := #[(0, .slice ps sn cs)]) (by kernel_rfl) (fun W => run_bs1v Tryd.underlying30 infoText3 _ rfl W) rfl ?_; intro p8 g8 w8 N8 hb8; have VN8 := Lib.hid (VN7.out.below hb8.out); have HB8 := Lib.hid (HB7.out.trans (hb8.out.mono HB7.out.size)); clear VN7 HB7) | ((with_reducible refine wpList_at 35 rfl ?_); refine wpList_vapp 30 32 1 24 Tryd.underlying30 infoText3 rfl (by omega) rfl (.tmp 31) (.tmp 34) rfl rfl VN8 rfl (Lib.hid N8.out.row) (by have := ML.out; unfold maxLen; omega) (by have := ML.out; omega) ?_; intro p9 g9 c9 w9 N9 hg9; have AC9 := Lib.hid (acc_snocA N9.out HM.out UA.out TX.out); have HB9 := Lib.hid (HB8.out.trans (VN8.out.under hg9.out (Nat.le_refl _) HB8.out.size)); clear hg9 N9 N8 hb8) | ((with_reducible refine wpList_at 36 rfl ?_); refine wpList_kn rfl (.int .i64 ((i + 1 : Nat) : Int)) (by exact exec_add rfl rfl rfl (by have := HI.out; have := OL.out; rw [IntKind.wrap_i64]; omega)) ?_))
            go_roundg (m - (i + 1))
            case measure => have := HI.out; omega
            case rel => exact ⟨i + 1, acc ++ [s], p9, g9, c9, vcat U (mm * 1) (fun _ => .slice ps sn cs), by have := HI.out; omega, by rw [List.length_append, HM.out]; rfl, rfl, AI2, AC9, HB9⟩
          · have D := Lib.hid hD
            have AI2 := Lib.hid (show acc = acc0 ++ outsP (os.take (i + 1)) by
              rw [AI.out, OS, if_neg (by unfold keepP; rw [hD]; simp), List.append_nil])
            clear hlt hi hk2 him OC ho OS LE2 hVy hs TX0 hvs hls RS hsn hmm hD
            go_wp2_with (first | ((with_reducible refine wpList_at 24 rfl ?_); refine wpList_kn rfl (.bool true) (by exact exec_lssi rfl rfl rfl LT2.out) ?_) | ((with_reducible refine wpList_at 25 rfl ?_); refine wpList_ix (k := 2) (j := i) Tryd.underlying78 (by kernel_rfl) (.tmp 21) (.tmp 23) rfl rfl rfl rfl HI.out.1 rfl ?_) | ((with_reducible refine wpList_at 26 rfl ?_); refine wpList_ld 83 (.tmp 25) rfl rfl rfl (LDO.out _ E.out.below) ?_) | ((with_reducible refine wpList_at 9 rfl ?_); refine mem_alloc E 83 rfl rfl ZO.out ?_; clear E; intro b9 w6 E) | ((with_reducible refine wpList_ndI rfl ?_); refine mem_store_row 0 E 83 rfl (.tmp 9) (.tmp 26) rfl rfl rfl rfl (by rw [arr_size]; kernel_rfl) (by rw [arr_size]; exact ZOS.out) OO.out ?_; clear E; intro w7 E; simp only [List.set_cons_zero] at E) | ((with_reducible refine wpList_at 28 rfl ?_); refine mem_load_cell E 32 rfl (.tmp 27) rfl rfl List.mem_cons_self Tryd.underlying32 rfl C1.out ?_) | (go_at_call 47; refine (isdata_any (Lib.hid (TX.out.below (HB.out.trans (E.out.below.mono HB.out.size))))).mono ?_; rw [D.out]; rintro e w8 ⟨rfl, rfl⟩) | ((with_reducible refine wpList_at 36 rfl ?_); refine wpList_kn rfl (.int .i64 ((i + 1 : Nat) : Int)) (by exact exec_add rfl rfl rfl (by have := HI.out; have := OL.out; rw [IntKind.wrap_i64]; omega)) ?_))
            go_roundg (m - (i + 1))
            case measure => have := HI.out; omega
            case rel => exact ⟨i + 1, acc, p, g, c, U, by have := HI.out; omega, by rw [HM.out], rfl, AI2, Lib.hid ⟨by rw [← HM.out]; exact VN.out.below E.out.below, UA.out⟩, Lib.hid (HB.out.trans (E.out.below.mono HB.out.size))⟩
        · obtain rfl : i = m := by omega
          have LT2 := Lib.hid (show decide ((i : Int) < (i : Int)) = false from decide_eq_false (by omega))
          have AJ := Lib.hid (show acc = itemsP (ts.take (j + 1)) by
            rw [AI.out, OL.out.1, List.take_length, ON.out, ← A0.out])
          clear hlt hi hk2 AI
          go_wp2_with (first | ((with_reducible refine wpList_at 24 rfl ?_); refine wpList_kn rfl (.bool false) (by exact exec_lssi rfl rfl rfl LT2.out) ?_) | ((with_reducible refine wpList_at 37 rfl ?_); refine wpList_kn rfl (.int .i64 ((j + 1 : Nat) : Int)) (by exact exec_add rfl rfl rfl (by have := HJ.out; have := NL.out; rw [IntKind.wrap_i64]; omega)) ?_))
          go_roundg (n - (j + 1))
          case measure => have := HJ.out; omega
          case rel => exact ⟨j + 1, acc, p, g, c, U, by have := HJ.out; omega, rfl, rfl, AJ, VN, HB⟩
    · obtain rfl : j = n := by omega
      have LT := Lib.hid (show decide ((j : Int) < (j : Int)) = false from decide_eq_false (by omega))
      have AJ := Lib.hid (show acc = itemsP ts by rw [HA.out, HN.out, List.take_length])
      have UA := Lib.hid VN.out.2
      have VN := Lib.hid VN.out.1
      obtain ⟨mm, hmm⟩ : ∃ mm, mm = acc.length := ⟨_, rfl⟩
      have HM := Lib.hid (show mm = acc.length ∧ mm + k0 ≤ 4000000 from ⟨hmm, by rw [hmm, AJ.out, HK.out]; exact TOT.out⟩)
      rw [← hmm] at VN ⊢
      have OLN := Lib.hid (show (onceL (acc ++ sp)).length ≤ 4000000 by
        refine Nat.le_trans (once_any_len _) ?_
        rw [List.length_append, ← hmm, ← HK.out]
        exact HM.out.2)
      obtain ⟨its, hits⟩ : ∃ its, its = onceL (acc ++ sp) := ⟨_, rfl⟩
      obtain ⟨nn, hnn2⟩ : ∃ nn, nn = its.length := ⟨_, rfl⟩
      have CO := Lib.hid (show ∀ W v, TextsAt W v (acc ++ sp) → Calls Tryd.prog 33 #[v] W fun e w' => (∃ p3 g3 c3 U3, e = .returned (.slice p3 nn c3) ∧ VOwn 32 1 W.heap.size w' p3 g3 nn c3 U3 ∧ ∀ q (h : q < its.length), TextAt W (U3 q) its[q]) ∧ Below W.heap.size W w' from fun W v hT => by
        subst hnn2
        subst hits
        refine (once_old (Lib.hid hT)).mono ?_
        rintro e w' ⟨⟨v', rfl, p, g, c, U, rfl, hN, hU⟩, hb⟩
        exact ⟨⟨p, g, c, U, rfl, hN, hU⟩, hb⟩)
      have HITS := Lib.hid hits
      have HI := Lib.hid (show nn = its.length ∧ nn ≤ 4000000 from ⟨hnn2, by rw [hnn2, hits]; exact OLN.out⟩)
      clear hlt hj hkk hmm HA hits hnn2
      go_wp2_with (first | ((with_reducible refine wpList_at 17 rfl ?_); refine wpList_kn rfl (.bool false) (by exact exec_lssi rfl rfl rfl LT.out) ?_) | ((with_reducible refine wpList_at 40 rfl ?_); refine wpList_vapp 30 32 1 24 Tryd.underlying30 infoText3 rfl (by omega) rfl (.tmp 38) (.tmp 39) rfl rfl VN rfl (Lib.hid (RQ.out.below HB.out)) (by have := HM.out; unfold maxLen; omega) (by have := HM.out; omega) ?_; intro p9 g9 c9 w9 N9 hg9; have HB9 := Lib.hid (HB.out.trans (VN.out.under hg9.out (Nat.le_refl _) HB.out.size)); have TA9 := Lib.hid (accs_at N9.out HM.out.1 HK.out UA.out TQ.out HB9.out (by have := HM.out; omega))) | (go_at_call 33; with_reducible refine (CO.out _ _ TA9.out).mono ?_; rintro e w10 ⟨⟨p3, g3, c3, U3, rfl, hN3, hU3⟩, hb⟩; have VN3 := Lib.hid hN3; have UT3 := Lib.hid hU3; have HB10 := Lib.hid hb; clear hb hN3 hU3))
      clear VN UA
      go_loopg [44] nn (fun k s44 wr => ∃ (i : Nat) (U : Nat → Value), i + k = nn ∧ s44 = .int .i64 (i : Int) ∧ Hid (VOwn 32 1 w9.heap.size wr p3 g3 nn c3 U) ∧ Hid (∀ q (h : q < its.length), (q < i → TextOwn w9.heap.size wr (U q) its[q]) ∧ (i ≤ q → TextAt w9 (U q) its[q])) ∧ Hid (Below w9.heap.size w9 wr))
      case atStart => exact ⟨0, U3, by omega, rfl, VN3, Lib.hid (fun q h => ⟨fun q0 => absurd q0 (by omega), fun _ => UT3.out q h⟩), HB10⟩
      case round =>
        clear VN3 UT3 HB10
        obtain ⟨i, U, hi, rfl, VN, TQ2, HB2⟩ := hrel
        obtain ⟨k2, hk2⟩ : ∃ k2 : Nat, k2 = gk := ⟨_, rfl⟩
        rw [← hk2] at hi
        by_cases hlt : i < nn
        · obtain rfl : p3 = some ⟨g3, 0, none⟩ := VN.out.row.head (by omega)
          have LT2 := Lib.hid (show decide ((i : Int) < (nn : Int)) = true from decide_eq_true (by omega))
          have him : i < its.length := by rw [← HI.out.1]; exact hlt
          obtain ⟨ps, gs, os, cs, hvs, hls, RS⟩ := (TQ2.out i him).2 (Nat.le_refl _)
          obtain ⟨s, hs⟩ : ∃ s, s = its[i] := ⟨_, rfl⟩
          rw [← hs] at hvs hls RS
          obtain ⟨sn, hsn⟩ : ∃ sn, sn = s.length := ⟨_, rfl⟩
          rw [← hsn] at hvs hls RS
          have CE := Lib.hid (show wr.cell? ⟨g3, 0 + i * 1, none⟩ = some (.slice ps sn cs) from by
            rw [Nat.mul_one, ← hvs]
            exact VN.out.row.cell i (by omega))
          have RS2 := Lib.hid (RS.below HB2.out)
          have HJ := Lib.hid (show i < nn ∧ i + k2 = nn ∧ k2 = gk from ⟨hlt, hi, hk2⟩)
          have SL := Lib.hid (show sn = s.length ∧ sn ≤ 140737488351232 from ⟨hsn, hls⟩)
          have HS := Lib.hid (show ∀ h : i < its.length, its[i] = s from fun h => hs.symm)
          obtain ⟨Wr, hWr⟩ : ∃ D, D = wr := ⟨_, rfl⟩
          subst hWr
          clear hlt hi hk2 him hvs hls RS hs hsn
          go_wp2_with (first | ((with_reducible refine wpList_at 45 rfl ?_); refine wpList_kn rfl (.bool true) (by exact exec_lssi rfl rfl rfl LT2.out) ?_) | ((with_reducible refine wpList_at 47 rfl ?_); refine wpList_ix (k := 1) (j := i) Tryd.underlying30 (by kernel_rfl) (.tmp 42) (.tmp 44) rfl rfl rfl rfl HJ.out.1 rfl ?_) | ((with_reducible refine wpList_at 48 rfl ?_); refine wpList_ld1 32 (.tmp 47) rfl rfl rfl Tryd.underlying32 rfl CE.out ?_) | (go_at_call 32; refine (clone_any RS2 (by have := SL.out; omega)).mono ?_; rintro e w6 ⟨p6, g6, c6, rfl, N6, hb⟩; have N6 := Lib.hid N6; have HB6 := Lib.hid hb; have VN6 := Lib.hid (VN.out.below hb); clear hb) | ((with_reducible refine wpList_at 53 rfl ?_); refine wpList_ix (k := 1) (j := i) Tryd.underlying30 (by kernel_rfl) (.tmp 49) (.tmp 50) rfl rfl rfl rfl HJ.out.1 rfl ?_) | ((with_reducible refine wpList_ndI rfl ?_); refine wpList_vput (i := i) (v := .slice p6 sn c6) VN6 32 rfl (.tmp 53) (.tmp 52) rfl (congrArg (fun z => Value.pointer (some ⟨g3, z, none⟩)) (by omega : 0 + i * 1 = i)) rfl (by have := HJ.out; omega) (by kernel_rfl) rfl rfl ?_; intro w7 VN7 hO KT hg; have HB7 := Lib.hid ((HB2.out.trans (HB6.out.mono HB2.out.size)).trans (hO.out.below hg.out (Nat.le_trans HB2.out.size HB6.out.size))); have TQ7 := Lib.hid (items_put TQ2.out HB6.out KT.out N6.out HS.out SL.out.1 SL.out.2 HB2.out.size)) | ((with_reducible refine wpList_at 54 rfl ?_); refine wpList_kn rfl (.int .i64 ((i + 1 : Nat) : Int)) (by exact exec_add rfl rfl rfl (by have := HJ.out; have := HI.out; rw [IntKind.wrap_i64]; omega)) ?_))
          go_roundg (nn - (i + 1))
          case measure => have := HJ.out; omega
          case rel => exact ⟨i + 1, ups U i (.slice p6 sn c6), by have := HJ.out; omega, rfl, VN7, TQ7, HB7⟩
        · obtain rfl : i = nn := by omega
          have LT2 := Lib.hid (show decide ((i : Int) < (i : Int)) = false from decide_eq_false (by omega))
          clear hlt hi hk2
          go_wp2_with (first | ((with_reducible refine wpList_at 45 rfl ?_); refine wpList_kn rfl (.bool false) (by exact exec_lssi rfl rfl rfl LT2.out) ?_))
          go_ret
          rw [← AJ.out, ← HITS.out]
          exact ⟨⟨_, rfl, p3, g3, c3, U, by rw [← HI.out.1]; rfl, by have := HI.out; omega, by rw [← HI.out.1]; exact VN.out.mono HB9.out.size, fun q hq => ((TQ2.out q hq).1 (by rw [HI.out.1]; exact hq)).mono HB9.out.size⟩, HB9.out.trans (HB2.out.mono HB9.out.size)⟩
end Go.Proofs.YtoopcmcmjaikhaaDoor
