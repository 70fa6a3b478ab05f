/- A block's items: the document's. -/
import Derived.Test.YtoopcmcmjaikhaaDoorFtx
import Derived.Test.YtoopcmcmjaikhaaDoorBo
set_option linter.unusedSimpArgs false
set_option linter.unusedVariables false
set_option maxRecDepth 100000
namespace Go.Proofs.YtoopcmcmjaikhaaDoor
open Go.ChangeShapes Go.WideShapes Go.RowKit Go.Lib

theorem wpList_ndI {P : Program} {ops : Array Oper} {rest : List Oper} {Q : Exit → Act → World → Prop} {op : Oper} {a : Act} {w : World} (hd : op.dst = none) (h : wpList P ops Q (op :: rest) a w) : wpList P ops Q (op :: rest) a w := h
/-- Whether the document keeps a script. -/
def keepR (s : List Nat) : Bool := decide (0 < s.length) && !decide (lf s 0 = 106)
def outsR (os : List TOut) : List (List Nat) := (os.map (·.sc)).filter keepR
def itemsR (ts : List TTx) : List (List Nat) := (ts.map fun t => outsR t.outs).flatten
theorem outsR_succ (os : List TOut) {i : Nat} (h : i < os.length) : outsR (os.take (i + 1)) = outsR (os.take i) ++ if keepR os[i].sc then [os[i].sc] else [] := by
  unfold outsR
  rw [take_get os h, List.map_append, List.filter_append]
  congr 1
  simp only [List.map_cons, List.map_nil, List.filter_cons, List.filter_nil]
theorem itemsR_succ (ts : List TTx) {j : Nat} (h : j < ts.length) : itemsR (ts.take (j + 1)) = itemsR (ts.take j) ++ outsR ts[j].outs := by
  unfold itemsR
  rw [take_get ts h, List.map_append, List.flatten_append]
  simp
theorem outsR_le (os : List TOut) (i : Nat) : (outsR (os.take i)).length ≤ (outsR os).length := by
  unfold outsR
  exact (((List.take_sublist i os).map _).filter _).length_le
theorem itemsR_le (ts : List TTx) : ∀ j, (itemsR (ts.take j)).length ≤ (itemsR ts).length := fun j => by
  have h : itemsR ts = itemsR (ts.take j) ++ itemsR (ts.drop j) := by
    unfold itemsR
    rw [← List.flatten_append, ← List.map_append, List.take_append_drop]
  rw [h, List.length_append]
  omega
/-- A slice of the call's own whose elements are texts of an earlier memory. -/
def AccAt (B : Nat) (w0 w : World) (p : Option Addr) (g c : Nat) (U : Nat → Value) (acc : List (List Nat)) : Prop := VOwn 32 1 B w p g acc.length c U ∧ ∀ i (h : i < acc.length), TextAt w0 (U i) acc[i]
theorem acc_snocA {B : Nat} {w0 w : World} {p : Option Addr} {g c m : Nat} {U : Nat → Value} {acc : List (List Nat)} {v : Value} {t : List Nat} (N : VOwn 32 1 B w p g (m + 1) c (vcat U (m * 1) (fun _ => v))) (hm : m = acc.length) (h : ∀ i (h : i < acc.length), TextAt w0 (U i) acc[i]) (hv : TextAt w0 v t) : AccAt B w0 w p g c (vcat U (m * 1) (fun _ => v)) (acc ++ [t]) := by
  subst hm
  refine ⟨by rw [List.length_append]; exact N, fun i hi => ?_⟩
  unfold vcat
  rw [Nat.mul_one]
  by_cases q : i < acc.length
  · rw [if_pos q, List.getElem_append_left q]
    exact h i q
  · rw [if_neg q, List.getElem_append_right (by omega)]
    have e : i - acc.length = 0 := by rw [List.length_append, List.length_singleton] at hi; omega
    simpa [e] using hv
/-- Those texts, and texts of an earlier memory behind them. -/
theorem accs_at {B m k : Nat} {w0 w : World} {p : Option Addr} {g c : Nat} {U Vq : Nat → Value} {acc sp : List (List Nat)} (N : VOwn 32 1 B w p g (m + k) c (vcat U (m * 1) Vq)) (hm : m = acc.length) (hk : k = sp.length) (h : ∀ i (h : i < acc.length), TextAt w0 (U i) acc[i]) (hq : ∀ i (h : i < sp.length), TextAt w0 (Vq i) sp[i]) (hb : Below w0.heap.size w0 w) (hl : m + k ≤ 4000000) : TextsAt w (.slice p (m + k) c) (acc ++ sp) := by
  subst hm hk
  have e : (acc ++ sp).length = acc.length + sp.length := List.length_append
  refine ⟨p, g, 0, c, vcat U (acc.length * 1) Vq, by rw [e], by rw [e]; omega, by rw [e]; exact N.row, fun i hi => ?_⟩
  unfold vcat
  rw [Nat.mul_one]
  by_cases q : i < acc.length
  · rw [if_pos q, List.getElem_append_left q]
    exact (h i q).below hb
  · rw [if_neg q, List.getElem_append_right (by omega)]
    exact (hq _ _).below hb
theorem infoTxI : ∃ z : Array Value, z.size = 4 ∧ (Tryd.prog.info? 80).map (fun i => (i.zero, i.size)) = some (some (.agg z), 4) := ⟨(((Tryd.prog.info? 80).bind (fun i => i.zero)).getD undef).cells, by kernel_rfl, by kernel_rfl⟩
theorem infoOutI : ∃ z : Array Value, z.size = 2 ∧ (Tryd.prog.info? 83).map (fun i => (i.zero, i.size)) = some (some (.agg z), 2) := ⟨(((Tryd.prog.info? 83).bind (fun i => i.zero)).getD undef).cells, by kernel_rfl, by kernel_rfl⟩
theorem all_k {k : Nat} {V : Nat → Value} (h : ∀ j, j < k → (V j).oneCell' = true) : (arr k V).all (·.oneCell') = true := Array.all_eq_true_iff_forall_mem.2 fun v hv => by
  obtain ⟨j, hj, rfl⟩ := Array.getElem_of_mem hv
  rw [arr_size] at hj
  have e : (arr k V)[j]? = some (V j) := arr_get k V j hj
  rw [Array.getElem?_eq_getElem (by rw [arr_size]; exact hj)] at e
  injection e with e
  rw [e]
  exact h j hj
theorem exec_gtrI {o : Oper} {ev : Operand → Value} {W : World} {x y : Operand} {a b : Int} {q : Bool} (ho : o.op = .binOp .gtr 3 x y 3) (hx : ev x = .int .i64 a) (hy : ev y = .int .i64 b) (hq : decide (b < a) = q) : (execOp ev o).run Tryd.prog W = .ok (.value (.bool q)) W := by
  subst hq
  unfold execOp
  by_cases h : b < a
  · simp [ho, hx, hy, go_sem, Tryd.underlying3, h]
  · simp [ho, hx, hy, go_sem, Tryd.underlying3, h]
theorem exec_neq5 {o : Oper} {ev : Operand → Value} {W : World} {x y : Operand} {a b : Int} {q : Bool} (ho : o.op = .binOp .neq 5 x y 5) (hx : ev x = .int .u8 a) (hy : ev y = .int .u8 b) (hq : (!decide (a = b)) = q) : (execOp ev o).run Tryd.prog W = .ok (.value (.bool q)) W := by
  subst hq
  unfold execOp
  by_cases h : a = b
  · simp [ho, hx, hy, go_sem, Tryd.underlying5, h]
  · simp [ho, hx, hy, go_sem, Tryd.underlying5, h]
set_option maxHeartbeats 32000000 in
theorem rfitems_any {w : World} {V : Nat → Value} {b : TBlk} {v : Value} {sp : List (List Nat)} (A : Hid (BlkCells w V b)) (S : Hid (TextsAt w v sp)) (hn : (itemsR b.txs).length + sp.length ≤ 4000000) :
    Calls Tryd.prog 20 #[.agg (arr 69 V), v] w fun e w' => (∃ v', e = .returned v' ∧ TextsOwn w.heap.size w' v' (onceL (itemsR b.txs ++ sp))) ∧ Below w.heap.size w w' := by
  have E := Lib.hid (Mem.nil w)
  obtain ⟨pt, gt, ot, ct, Vt, hvt, hlt', RT0, TT0⟩ := A.out.txs
  obtain ⟨ts, hts⟩ : ∃ ts, ts = b.txs := ⟨_, rfl⟩
  rw [← hts] at hvt hlt' RT0 TT0 hn ⊢
  obtain ⟨n, hnn⟩ : ∃ n, n = ts.length := ⟨_, rfl⟩
  rw [← hnn] at hvt hlt' RT0
  have C68 := Lib.hid (show (arr 69 V)[68]? = some (.slice pt n ct) by rw [arr_get 69 V 68 (by decide), hvt])
  have RR := Lib.hid RT0
  have TT := Lib.hid TT0
  have HN := Lib.hid hnn
  have NL := Lib.hid (show n ≤ 140737488351232 by omega)
  have TOT := Lib.hid hn
  have HB := Lib.hid (Below.refl w.heap.size w)
  obtain ⟨z4, hz4, hz4i⟩ := infoTxI
  obtain ⟨z2, hz2, hz2i⟩ := infoOutI
  have ZT := Lib.hid hz4i
  have ZTS := Lib.hid hz4
  have ZO := Lib.hid hz2i
  have ZOS := Lib.hid hz2
  obtain ⟨pq, gq, oq, cq, Vq, hvq, hlq, RQ0, TQ0⟩ := id S.out
  subst hvq
  obtain ⟨k0, hk0⟩ : ∃ k0, k0 = sp.length := ⟨_, rfl⟩
  have HK := Lib.hid hk0
  rw [← hk0] at hlq RQ0 S ⊢
  have RQ := Lib.hid RQ0
  have TQ := Lib.hid TQ0
  clear A hvt hlt' RT0 TT0 hn hnn hts hz4 hz4i hz2 hz2i hlq RQ0 TQ0 hk0
  go_enter Tryd.func20, Tryd.ntmps20
  go_wp2_with (first
    | ((with_reducible refine wpList_at 2 rfl ?_); refine mem_box E 42 rfl _ rfl rfl (arr_cells' 69 V) ?_; clear E; intro b2 w2 E)
    | ((with_reducible refine wpList_at 11 rfl ?_); refine mem_load_cell E 40 rfl (.tmp 10) rfl rfl List.mem_cons_self Tryd.underlying40 rfl C68.out ?_; replace HB := Lib.hid (HB.out.trans E.out.below)))
  clear E
  go_loopg [5, 13] n (fun k s5 s13 wr => ∃ (j : Nat) (acc : List (List Nat)) (p : Option Addr) (g c : Nat) (U : Nat → Value), j + k = n ∧ s5 = .slice p acc.length c ∧ s13 = .int .i64 (j : Int) ∧ Hid (acc = itemsR (ts.take j)) ∧ Hid (AccAt w.heap.size w wr p g c U acc) ∧ Hid (Below w.heap.size w wr))
  case atStart => exact ⟨0, [], none, 0, 0, fun _ => undef, by omega, rfl, rfl, Lib.hid rfl, Lib.hid ⟨vown_nothing _ _ _ _ _ HB.out.size, fun i h => absurd h (by simp)⟩, HB⟩
  case round =>
    clear HB
    obtain ⟨j, acc, p, g, c, U, hj, rfl, rfl, HA, VN, HB⟩ := hrel
    obtain ⟨kk, hkk⟩ : ∃ kk : Nat, kk = gk := ⟨_, rfl⟩
    rw [← hkk] at hj
    by_cases hlt : j < n
    · obtain rfl := RR.out.head (by omega)
      have ht : j < ts.length := by rw [← HN.out]; exact hlt
      have LT := Lib.hid (show decide ((j : Int) < (n : Int)) = true from decide_eq_true (by omega))
      have TXC := TT.out j ht
      obtain ⟨t, hT⟩ : ∃ t, t = ts[j] := ⟨_, rfl⟩
      have ON := Lib.hid (itemsR_succ ts ht)
      have LE1 := Lib.hid (itemsR_le ts (j + 1))
      rw [← hT] at TXC ON
      obtain ⟨Vx, hVx⟩ : ∃ Vx : Nat → Value, Vx = fun x => Vt (j * 4 + x) := ⟨_, rfl⟩
      rw [← hVx] at TXC
      have LDX := Lib.hid (show ∀ W, Below wr.heap.size wr W → (Instr.loadAt 80 (.pointer (some ⟨gt, ot + j * 4, none⟩))).run Tryd.prog W = .ok (.agg (arr 4 Vx)) W from fun W hb => by
        rw [hVx]
        exact (RR.out.below (HB.out.trans (hb.mono HB.out.size))).load hlt Tryd.underlying80 rfl (by kernel_rfl))
      obtain ⟨po, go, oo, co, Vo, hvo, hlo, RO0, TO0⟩ := TXC.outs
      obtain ⟨os, hos⟩ : ∃ os, os = t.outs := ⟨_, rfl⟩
      rw [← hos] at hvo hlo RO0 TO0 ON
      obtain ⟨m, hm⟩ : ∃ m, m = os.length := ⟨_, rfl⟩
      rw [← hm] at hvo hlo RO0
      have X2 := Lib.hid (show (arr 4 Vx)[2]? = some (.slice po m co) by rw [arr_get 4 Vx 2 (by decide), hvo])
      have XX := Lib.hid (all_k TXC.one)
      have RO := Lib.hid RO0
      have TO := Lib.hid TO0
      have OL := Lib.hid (show m = os.length ∧ m ≤ 140737488351232 from ⟨hm, by omega⟩)
      have HJ := Lib.hid (show j < n ∧ j + kk = n ∧ kk = gk from ⟨hlt, hj, hkk⟩)
      obtain ⟨Wr, hWr⟩ : ∃ D, D = wr := ⟨_, rfl⟩
      subst hWr
      have E := Lib.hid (Mem.nil Wr)
      obtain ⟨acc0, hacc0⟩ : ∃ a, a = acc := ⟨_, rfl⟩
      have A0 := Lib.hid (show acc0 = itemsR (ts.take j) from hacc0.trans HA.out)
      have AI := Lib.hid (show acc = acc0 ++ outsR (os.take 0) by rw [hacc0]; unfold outsR; simp)
      clear hT TXC hVx hvo hlo RO0 TO0 hos hm hlt hj hkk ht hacc0
      go_wp2_with (first | ((with_reducible refine wpList_at 14 rfl ?_); refine wpList_kn rfl (.bool true) (by exact exec_lssi rfl rfl rfl LT.out) ?_) | ((with_reducible refine wpList_at 15 rfl ?_); refine wpList_ix (k := 4) (j := j) Tryd.underlying40 (by kernel_rfl) (.tmp 11) (.tmp 13) rfl rfl rfl rfl HJ.out.1 rfl ?_) | ((with_reducible refine wpList_at 16 rfl ?_); refine wpList_ld 80 (.tmp 15) rfl rfl rfl (LDX.out _ E.out.below) ?_) | ((with_reducible refine wpList_at 7 rfl ?_); refine mem_alloc E 80 rfl rfl ZT.out ?_; clear E; intro b7 w8 E) | ((with_reducible refine wpList_ndI rfl ?_); refine mem_store_row 0 E 80 rfl (.tmp 7) (.tmp 16) rfl rfl rfl rfl (by rw [arr_size]; kernel_rfl) (by rw [arr_size]; exact ZTS.out) XX.out ?_; clear E; intro w9 E; simp only [List.set_cons_zero] at E) | ((with_reducible refine wpList_at 18 rfl ?_); refine mem_load_cell E 78 rfl (.tmp 17) rfl rfl List.mem_cons_self Tryd.underlying78 rfl X2.out ?_))
      replace VN := Lib.hid (show AccAt w.heap.size w w9 p g c U acc from ⟨VN.out.1.below E.out.below, VN.out.2⟩)
      replace HB := Lib.hid (HB.out.trans (E.out.below.mono HB.out.size))
      clear E
      go_loopg [5, 20] m (fun k s5 s20 wq => ∃ (i : Nat) (acc : List (List Nat)) (p : Option Addr) (g c : Nat) (U : Nat → Value), i + k = m ∧ s5 = .slice p acc.length c ∧ s20 = .int .i64 (i : Int) ∧ Hid (acc = acc0 ++ outsR (os.take i)) ∧ Hid (AccAt w.heap.size w wq p g c U acc) ∧ Hid (Below w.heap.size w wq))
      case atStart => exact ⟨0, acc, p, g, c, U, by omega, rfl, rfl, AI, VN, HB⟩
      case round =>
        clear AI VN HB HA
        obtain ⟨i, acc, p, g, c, U, hi, rfl, rfl, AI, VN, HB⟩ := hrel
        obtain ⟨k2, hk2⟩ : ∃ k2 : Nat, k2 = gk := ⟨_, rfl⟩
        rw [← hk2] at hi
        by_cases hlt : i < m
        · obtain rfl := RO.out.head (by omega)
          have him : i < os.length := by rw [← OL.out.1]; exact hlt
          have LT2 := Lib.hid (show decide ((i : Int) < (m : Int)) = true from decide_eq_true (by omega))
          have OC := TO.out i him
          obtain ⟨o, ho⟩ : ∃ o, o = os[i] := ⟨_, rfl⟩
          have OS := outsR_succ os him
          have LE2 := outsR_le os (i + 1)
          rw [← ho] at OC OS
          obtain ⟨Vy, hVy⟩ : ∃ Vy : Nat → Value, Vy = fun x => Vo (i * 2 + x) := ⟨_, rfl⟩
          rw [← hVy] at OC
          have LDO := Lib.hid (show ∀ W, Below wr.heap.size wr W → (Instr.loadAt 83 (.pointer (some ⟨go, oo + i * 2, none⟩))).run Tryd.prog W = .ok (.agg (arr 2 Vy)) W from fun W hb => by
            rw [hVy]
            exact (RO.out.below (HB.out.trans (hb.mono HB.out.size))).load hlt Tryd.underlying83 rfl (by kernel_rfl))
          obtain ⟨s, hs⟩ : ∃ s, s = o.sc := ⟨_, rfl⟩
          have TX0 := OC.sc
          rw [← hs] at TX0 OS
          obtain ⟨ps, gs, os', cs, hvs, hls, RS⟩ := id TX0
          rw [hvs] at TX0
          have TX := Lib.hid TX0
          obtain ⟨sn, hsn⟩ : ∃ sn, sn = s.length := ⟨_, rfl⟩
          rw [← hsn] at hvs hls RS TX
          have C1 := Lib.hid (show (arr 2 Vy)[1]? = some (.slice ps sn cs) by rw [arr_get 2 Vy 1 (by decide), hvs])
          have OO := Lib.hid (all_k OC.one)
          have HI := Lib.hid (show i < m ∧ i + k2 = m ∧ k2 = gk from ⟨hlt, hi, hk2⟩)
          obtain ⟨mm, hmm⟩ : ∃ mm, mm = acc.length := ⟨_, rfl⟩
          have HM := Lib.hid hmm
          have UA := Lib.hid VN.out.2
          have VN := Lib.hid VN.out.1
          rw [← hmm] at VN ⊢
          have ML := Lib.hid (show mm + 1 ≤ 4000001 by
            have h1 := LE1.out
            rw [ON.out, List.length_append] at h1
            have h2 := outsR_le os i
            have h3 := TOT.out
            rw [hmm, AI.out, A0.out, List.length_append]
            omega)
          have E := Lib.hid (Mem.nil wr)
          by_cases h0 : 0 < sn
          · obtain ⟨GB, hGB⟩ : ∃ b, b = true := ⟨_, rfl⟩
            subst hGB
            have GS := Lib.hid (show decide ((0 : Int) < (sn : Int)) = true from decide_eq_true (by omega))
            obtain rfl := RS.head (by omega)
            have SP := Lib.hid h0
            obtain ⟨x, hx⟩ : ∃ x, x = lf s 0 := ⟨_, rfl⟩
            have CS := Lib.hid (show ∀ W, Below wr.heap.size wr W → W.cell? ⟨gs, os' + 0 * 1, none⟩ = some (.int .u8 ((x : Nat) : Int)) from fun W hb => by
              have h := (RS.below (HB.out.trans (hb.mono HB.out.size))).cell 0 (by omega)
              rw [hx]
              simpa using h)
            by_cases h6 : x = 106
            · have NQ := Lib.hid (show (!decide ((x : Int) = 106)) = false by rw [decide_eq_true (by omega)]; rfl)
              have AI2 := Lib.hid (show acc = acc0 ++ outsR (os.take (i + 1)) by
                rw [AI.out, OS, if_neg (by unfold keepR; rw [← hx, h6]; simp), List.append_nil])
              clear hlt hi hk2 him OC ho OS LE2 hVy hs TX0 hvs hls RS hsn hmm h0 hx h6
              go_wp2_with (first | ((with_reducible refine wpList_at 21 rfl ?_); refine wpList_kn rfl (.bool true) (by exact exec_lssi rfl rfl rfl LT2.out) ?_) | ((with_reducible refine wpList_at 22 rfl ?_); refine wpList_ix (k := 2) (j := i) Tryd.underlying78 (by kernel_rfl) (.tmp 18) (.tmp 20) rfl rfl rfl rfl HI.out.1 rfl ?_) | ((with_reducible refine wpList_at 23 rfl ?_); refine wpList_ld 83 (.tmp 22) rfl rfl rfl (LDO.out _ E.out.below) ?_) | ((with_reducible refine wpList_at 9 rfl ?_); refine mem_alloc E 83 rfl rfl ZO.out ?_; clear E; intro b9 w6 E) | ((with_reducible refine wpList_ndI rfl ?_); refine mem_store_row 0 E 83 rfl (.tmp 9) (.tmp 23) rfl rfl rfl rfl (by rw [arr_size]; kernel_rfl) (by rw [arr_size]; exact ZOS.out) OO.out ?_; clear E; intro w7 E; simp only [List.set_cons_zero] at E) | ((with_reducible refine wpList_at 25 rfl ?_); refine mem_load_cell E 32 rfl (.tmp 24) rfl rfl List.mem_cons_self Tryd.underlying32 rfl C1.out ?_) | ((with_reducible refine wpList_at 27 rfl ?_); refine wpList_kn rfl (.bool true) (by exact exec_gtrI rfl rfl rfl GS.out) ?_) | ((with_reducible refine wpList_at 30 rfl ?_); refine mem_load_cell E 32 rfl (.tmp 29) rfl rfl List.mem_cons_self Tryd.underlying32 rfl C1.out ?_) | ((with_reducible refine wpList_at 31 rfl ?_); refine wpList_ix (k := 1) (j := 0) Tryd.underlying32 (by kernel_rfl) (.tmp 30) (.const (.int .i64 0)) rfl rfl rfl rfl SP.out rfl ?_) | ((with_reducible refine wpList_at 32 rfl ?_); refine wpList_ld1 5 (.tmp 31) rfl rfl rfl Tryd.underlying5 rfl (CS.out _ E.out.below) ?_) | ((with_reducible refine wpList_at 33 rfl ?_); refine wpList_kn rfl (.bool false) (by exact exec_neq5 rfl rfl rfl NQ.out) ?_) | ((with_reducible refine wpList_at 40 rfl ?_); refine wpList_kn rfl (.int .i64 ((i + 1 : Nat) : Int)) (by exact exec_add rfl rfl rfl (by have := HI.out; have := OL.out; rw [IntKind.wrap_i64]; omega)) ?_))
              go_roundg (m - (i + 1))
              case measure => have := HI.out; omega
              case rel => exact ⟨i + 1, acc, p, g, c, U, by have := HI.out; omega, by rw [HM.out], rfl, AI2, Lib.hid ⟨by rw [← HM.out]; exact VN.out.below E.out.below, UA.out⟩, Lib.hid (HB.out.trans (E.out.below.mono HB.out.size))⟩
            · have NQ := Lib.hid (show (!decide ((x : Int) = 106)) = true by rw [decide_eq_false (by omega)]; rfl)
              have AI2 := Lib.hid (show acc ++ [s] = acc0 ++ outsR (os.take (i + 1)) by
                rw [AI.out, OS, if_pos (by unfold keepR; rw [← hx, ← hsn, decide_eq_true h0, decide_eq_false h6]; rfl), List.append_assoc])
              clear hlt hi hk2 him OC ho OS LE2 hVy hs TX0 hvs hls RS hsn hmm h0 hx h6
              go_wp2_with (first | ((with_reducible refine wpList_at 21 rfl ?_); refine wpList_kn rfl (.bool true) (by exact exec_lssi rfl rfl rfl LT2.out) ?_) | ((with_reducible refine wpList_at 22 rfl ?_); refine wpList_ix (k := 2) (j := i) Tryd.underlying78 (by kernel_rfl) (.tmp 18) (.tmp 20) rfl rfl rfl rfl HI.out.1 rfl ?_) | ((with_reducible refine wpList_at 23 rfl ?_); refine wpList_ld 83 (.tmp 22) rfl rfl rfl (LDO.out _ E.out.below) ?_) | ((with_reducible refine wpList_at 9 rfl ?_); refine mem_alloc E 83 rfl rfl ZO.out ?_; clear E; intro b9 w6 E) | ((with_reducible refine wpList_ndI rfl ?_); refine mem_store_row 0 E 83 rfl (.tmp 9) (.tmp 23) rfl rfl rfl rfl (by rw [arr_size]; kernel_rfl) (by rw [arr_size]; exact ZOS.out) OO.out ?_; clear E; intro w7 E; simp only [List.set_cons_zero] at E) | ((with_reducible refine wpList_at 25 rfl ?_); refine mem_load_cell E 32 rfl (.tmp 24) rfl rfl List.mem_cons_self Tryd.underlying32 rfl C1.out ?_) | ((with_reducible refine wpList_at 27 rfl ?_); refine wpList_kn rfl (.bool true) (by exact exec_gtrI rfl rfl rfl GS.out) ?_) | ((with_reducible refine wpList_at 30 rfl ?_); refine mem_load_cell E 32 rfl (.tmp 29) rfl rfl List.mem_cons_self Tryd.underlying32 rfl C1.out ?_) | ((with_reducible refine wpList_at 31 rfl ?_); refine wpList_ix (k := 1) (j := 0) Tryd.underlying32 (by kernel_rfl) (.tmp 30) (.const (.int .i64 0)) rfl rfl rfl rfl SP.out rfl ?_) | ((with_reducible refine wpList_at 32 rfl ?_); refine wpList_ld1 5 (.tmp 31) rfl rfl rfl Tryd.underlying5 rfl (CS.out _ E.out.below) ?_) | ((with_reducible refine wpList_at 33 rfl ?_); refine wpList_kn rfl (.bool true) (by exact exec_neq5 rfl rfl rfl NQ.out) ?_) | ((with_reducible refine wpList_at 37 rfl ?_); refine mem_load_cell E 32 rfl (.tmp 36) rfl rfl List.mem_cons_self Tryd.underlying32 rfl C1.out ?_; have VN7 := Lib.hid (VN.out.below E.out.below); have HB7 := Lib.hid (HB.out.trans (E.out.below.mono HB.out.size))) | ((with_reducible refine wpList_at 38 rfl ?_); refine wpList_vbs 30 32 1 1 rfl _ rfl (fun _ => .slice (some ⟨gs, os', none⟩) sn cs) (fun i _ => rfl) (by unfold maxLen; omega) (ps := #[(0, .slice (some ⟨gs, os', none⟩) sn cs)]) (by kernel_rfl) (fun W => run_bs1v Tryd.underlying30 infoText3 _ rfl W) rfl ?_; intro p8 g8 w8 N8 hb8; have VN8 := Lib.hid (VN7.out.below hb8.out); have HB8 := Lib.hid (HB7.out.trans (hb8.out.mono HB7.out.size)); clear VN7 HB7) | ((with_reducible refine wpList_at 39 rfl ?_); refine wpList_vapp 30 32 1 24 Tryd.underlying30 infoText3 rfl (by omega) rfl (.tmp 35) (.tmp 38) rfl rfl VN8 rfl (Lib.hid N8.out.row) (by have := ML.out; unfold maxLen; omega) (by have := ML.out; omega) ?_; intro p9 g9 c9 w9 N9 hg9; have AC9 := Lib.hid (acc_snocA N9.out HM.out UA.out TX.out); have HB9 := Lib.hid (HB8.out.trans (VN8.out.under hg9.out (Nat.le_refl _) HB8.out.size)); clear hg9 N9 N8 hb8) | ((with_reducible refine wpList_at 40 rfl ?_); refine wpList_kn rfl (.int .i64 ((i + 1 : Nat) : Int)) (by exact exec_add rfl rfl rfl (by have := HI.out; have := OL.out; rw [IntKind.wrap_i64]; omega)) ?_))
              go_roundg (m - (i + 1))
              case measure => have := HI.out; omega
              case rel => exact ⟨i + 1, acc ++ [s], p9, g9, c9, vcat U (mm * 1) (fun _ => .slice (some ⟨gs, os', none⟩) sn cs), by have := HI.out; omega, by rw [List.length_append, HM.out]; rfl, rfl, AI2, AC9, HB9⟩
          · obtain ⟨GB, hGB⟩ : ∃ b, b = false := ⟨_, rfl⟩
            subst hGB
            have GS := Lib.hid (show decide ((0 : Int) < (sn : Int)) = false from decide_eq_false (by omega))
            have AI2 := Lib.hid (show acc = acc0 ++ outsR (os.take (i + 1)) by
              rw [AI.out, OS, if_neg (by unfold keepR; rw [← hsn, decide_eq_false h0]; simp), List.append_nil])
            clear hlt hi hk2 him OC ho OS LE2 hVy hs TX0 hvs hls RS hsn hmm h0
            go_wp2_with (first | ((with_reducible refine wpList_at 21 rfl ?_); refine wpList_kn rfl (.bool true) (by exact exec_lssi rfl rfl rfl LT2.out) ?_) | ((with_reducible refine wpList_at 22 rfl ?_); refine wpList_ix (k := 2) (j := i) Tryd.underlying78 (by kernel_rfl) (.tmp 18) (.tmp 20) rfl rfl rfl rfl HI.out.1 rfl ?_) | ((with_reducible refine wpList_at 23 rfl ?_); refine wpList_ld 83 (.tmp 22) rfl rfl rfl (LDO.out _ E.out.below) ?_) | ((with_reducible refine wpList_at 9 rfl ?_); refine mem_alloc E 83 rfl rfl ZO.out ?_; clear E; intro b9 w6 E) | ((with_reducible refine wpList_ndI rfl ?_); refine mem_store_row 0 E 83 rfl (.tmp 9) (.tmp 23) rfl rfl rfl rfl (by rw [arr_size]; kernel_rfl) (by rw [arr_size]; exact ZOS.out) OO.out ?_; clear E; intro w7 E; simp only [List.set_cons_zero] at E) | ((with_reducible refine wpList_at 25 rfl ?_); refine mem_load_cell E 32 rfl (.tmp 24) rfl rfl List.mem_cons_self Tryd.underlying32 rfl C1.out ?_) | ((with_reducible refine wpList_at 27 rfl ?_); refine wpList_kn rfl (.bool false) (by exact exec_gtrI rfl rfl rfl GS.out) ?_) | ((with_reducible refine wpList_at 30 rfl ?_); refine mem_load_cell E 32 rfl (.tmp 29) rfl rfl List.mem_cons_self Tryd.underlying32 rfl C1.out ?_) | ((with_reducible refine wpList_at 40 rfl ?_); refine wpList_kn rfl (.int .i64 ((i + 1 : Nat) : Int)) (by exact exec_add rfl rfl rfl (by have := HI.out; have := OL.out; rw [IntKind.wrap_i64]; omega)) ?_))
            go_roundg (m - (i + 1))
            case measure => have := HI.out; omega
            case rel => exact ⟨i + 1, acc, p, g, c, U, by have := HI.out; omega, by rw [HM.out], rfl, AI2, Lib.hid ⟨by rw [← HM.out]; exact VN.out.below E.out.below, UA.out⟩, Lib.hid (HB.out.trans (E.out.below.mono HB.out.size))⟩
        · obtain rfl : i = m := by omega
          have LT2 := Lib.hid (show decide ((i : Int) < (i : Int)) = false from decide_eq_false (by omega))
          have AJ := Lib.hid (show acc = itemsR (ts.take (j + 1)) by
            rw [AI.out, OL.out.1, List.take_length, ON.out, ← A0.out])
          clear hlt hi hk2 AI
          go_wp2_with (first | ((with_reducible refine wpList_at 21 rfl ?_); refine wpList_kn rfl (.bool false) (by exact exec_lssi rfl rfl rfl LT2.out) ?_) | ((with_reducible refine wpList_at 41 rfl ?_); refine wpList_kn rfl (.int .i64 ((j + 1 : Nat) : Int)) (by exact exec_add rfl rfl rfl (by have := HJ.out; have := NL.out; rw [IntKind.wrap_i64]; omega)) ?_))
          go_roundg (n - (j + 1))
          case measure => have := HJ.out; omega
          case rel => exact ⟨j + 1, acc, p, g, c, U, by have := HJ.out; omega, rfl, rfl, AJ, VN, HB⟩
    · obtain rfl : j = n := by omega
      have LT := Lib.hid (show decide ((j : Int) < (j : Int)) = false from decide_eq_false (by omega))
      have AJ := Lib.hid (show acc = itemsR ts by rw [HA.out, HN.out, List.take_length])
      have UA := Lib.hid VN.out.2
      have VN := Lib.hid VN.out.1
      obtain ⟨mm, hmm⟩ : ∃ mm, mm = acc.length := ⟨_, rfl⟩
      have HM := Lib.hid (show mm = acc.length ∧ mm + k0 ≤ 4000000 from ⟨hmm, by rw [hmm, AJ.out, HK.out]; exact TOT.out⟩)
      rw [← hmm] at VN ⊢
      clear hlt hj hkk hmm HA
      go_wp2_with (first | ((with_reducible refine wpList_at 14 rfl ?_); refine wpList_kn rfl (.bool false) (by exact exec_lssi rfl rfl rfl LT.out) ?_) | ((with_reducible refine wpList_at 44 rfl ?_); refine wpList_vapp 30 32 1 24 Tryd.underlying30 infoText3 rfl (by omega) rfl (.tmp 42) (.tmp 43) rfl rfl VN rfl (Lib.hid (RQ.out.below HB.out)) (by have := HM.out; unfold maxLen; omega) (by have := HM.out; omega) ?_; intro p9 g9 c9 w9 N9 hg9; have HB9 := Lib.hid (HB.out.trans (VN.out.under hg9.out (Nat.le_refl _) HB.out.size)); have TA9 := Lib.hid (accs_at N9.out HM.out.1 HK.out UA.out TQ.out HB9.out (by have := HM.out; omega))) | (go_at_call 40; refine (unlike_any TA9).mono ?_; rintro e w10 ⟨⟨v10, rfl, hT⟩, hb⟩; have RES := Lib.hid (hT.mono HB9.out.size); have HBF := Lib.hid (HB9.out.trans (hb.mono HB9.out.size)); clear hT hb))
      go_ret
      rw [← AJ.out]
      exact ⟨⟨_, rfl, RES.out⟩, HBF.out⟩
end Go.Proofs.YtoopcmcmjaikhaaDoor
