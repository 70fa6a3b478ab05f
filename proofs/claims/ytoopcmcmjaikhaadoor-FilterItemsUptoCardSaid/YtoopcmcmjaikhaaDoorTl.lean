/- The document's copy of a transaction. -/
import Derived.Test.YtoopcmcmjaikhaaDoorTk
set_option linter.unusedSimpArgs false
set_option linter.unusedVariables false
set_option maxRecDepth 100000
namespace Go.Proofs.YtoopcmcmjaikhaaDoor
open Go.RowKit Go.Lib Go.Sort

theorem nb_of {b T : Nat} {cs : Array Value} (hT : T ≠ 5) : ∀ q : Nat × TypeId × Array Value, q ∈ [(b, T, cs)] → q.2.1 ≠ 5 := fun q hq => by obtain rfl := List.mem_singleton.1 hq; exact hT
theorem vs_const (a : Value) : (#[a] : Array Value).toList = vs (fun _ => a) (1 * 1) := rfl
theorem arr_vs (n : Nat) (V : Nat → Value) : (arr n V).toList = vs V (1 * n) := by
  rw [Nat.one_mul, ← vs_arr]
theorem one_arr {n : Nat} {V : Nat → Value} (h : ∀ j, j < n → (V j).oneCell' = true) : ∀ i, i < 1 * n → (V i).oneCell' = true := fun i hi => h i (by omega)
theorem vcat_lo {V U : Nat → Value} {j k i x : Nat} (hi : i < j) (hx : x < k) : vcat V (j * k) U (i * k + x) = V (i * k + x) := by
  unfold vcat
  have : (i + 1) * k ≤ j * k := Nat.mul_le_mul_right k hi
  rw [Nat.add_mul] at this
  rw [if_pos (by omega)]
theorem vcat_hi {V U : Nat → Value} {j k x : Nat} : vcat V (j * k) U (j * k + x) = U x := by
  unfold vcat
  rw [if_neg (by omega)]
  congr 1
  omega
theorem InOwn.to {B : Nat} {w : World} {V U : Nat → Value} {t : TIn} (h : InOwn B w V t) (e : ∀ x, x < 36 → V x = U x) : InOwn B w U t :=
  ⟨h.len, h.idB, fun j hj => by rw [← e j (by omega)]; exact h.id j hj, by rw [← e 32 (by omega)]; exact h.idx, h.idxB, by rw [← e 33 (by omega)]; exact h.sc, by rw [← e 34 (by omega)]; exact h.sq, h.sqB, by rw [← e 35 (by omega)]; exact h.wit⟩
theorem OutOwn.to {B : Nat} {w : World} {V U : Nat → Value} {t : TOut} (h : OutOwn B w V t) (e : ∀ x, x < 2 → V x = U x) : OutOwn B w U t :=
  ⟨by rw [← e 0 (by omega)]; exact h.val, h.valB, by rw [← e 1 (by omega)]; exact h.sc⟩
theorem TextOwn.cells1 {B : Nat} {w : World} {v : Value} {t : List Nat} (h : TextOwn B w v t) : v.cells = #[v] ∧ v.oneCell' = true := by
  obtain ⟨p, g, c, rfl, _⟩ := h
  exact ⟨rfl, rfl⟩
theorem InCells.copied {W w : World} {B : Nat} {U : Nat → Value} {x : TIn} (h : InCells W U x) {a b : Value} (ha : TextOwn B w a x.sc) (hb : TextsOwn B w b x.wit) : InOwn B w (ups (ups U 33 a) 35 b) x :=
  ⟨h.len, h.idB, fun j hj => by rw [ups_ne _ _ (by omega), ups_ne _ _ (by omega)]; exact h.id j hj, by rw [ups_ne _ _ (by omega), ups_ne _ _ (by omega)]; exact h.idx, h.idxB,
   by rw [ups_ne _ _ (by omega), ups_at]; exact ha, by rw [ups_ne _ _ (by omega), ups_ne _ _ (by omega)]; exact h.sq, h.sqB, by rw [ups_at]; exact hb⟩
theorem OutCells.copied {W w : World} {B : Nat} {U : Nat → Value} {x : TOut} (h : OutCells W U x) {a : Value} (ha : TextOwn B w a x.sc) : OutOwn B w (ups U 1 a) x :=
  ⟨by rw [ups_ne _ _ (by omega)]; exact h.val, h.valB, by rw [ups_at]; exact ha⟩
theorem InCells.one_ups {W : World} {U : Nat → Value} {x : TIn} (h : InCells W U x) {a b : Value} (ha : a.oneCell' = true) (hb : b.oneCell' = true) : ∀ j, j < 36 → (ups (ups U 33 a) 35 b j).oneCell' = true := fun j hj => by
  unfold ups
  split
  · exact hb
  · split
    · exact ha
    · exact h.one j hj
theorem OutCells.one_ups {W : World} {U : Nat → Value} {x : TOut} (h : OutCells W U x) {a : Value} (ha : a.oneCell' = true) : ∀ j, j < 2 → (ups U 1 a j).oneCell' = true := fun j hj => by
  unfold ups
  split
  · exact ha
  · obtain rfl : j = 0 := by omega
    rw [h.val]
    rfl
theorem all_of {n : Nat} {V : Nat → Value} (h : ∀ j, j < n → (V j).oneCell' = true) : (arr n V).all (·.oneCell') = true := Array.all_eq_true_iff_forall_mem.2 fun v hv => by
  obtain ⟨j, hj, rfl⟩ := Array.getElem_of_mem hv
  rw [arr_size] at hj
  have e : (arr n V)[j]? = some (V j) := arr_get n V j hj
  rw [Array.getElem?_eq_getElem (by rw [arr_size]; exact hj)] at e
  injection e with e
  rw [e]
  exact h j hj

set_option maxHeartbeats 16000000 in
theorem rcopy_any {W : World} {V : Nat → Value} {t : TTx} (A : Hid (TxCells W V t)) : Calls Tryd.prog 46 #[.agg (arr 4 V)] W fun e w' => ∃ V', e = .returned (.agg (arr 4 V')) ∧ TxOwn W.heap.size w' V' t ∧ Below W.heap.size W w' := by
  have E := Lib.hid (Mem.nil W)
  obtain ⟨pi, gi, oi, ci, Vi, hvi, hci, Ri, hii⟩ := A.out.ins
  obtain ⟨po, go, oo, co, Vo, hvo, hco, Ro, hoo⟩ := A.out.outs
  have RI := Lib.hid Ri
  have RO := Lib.hid Ro
  have TI := Lib.hid hii
  have TO := Lib.hid hoo
  obtain ⟨n, hn⟩ : ∃ n, n = t.ins.length := ⟨_, rfl⟩
  obtain ⟨m, hm⟩ : ∃ m, m = t.outs.length := ⟨_, rfl⟩
  have HN := Lib.hid hn
  have HM := Lib.hid hm
  rw [← hn] at RI hvi hci
  rw [← hm] at RO hvo hco
  have c1 : (arr 4 V)[1]? = some (.slice pi n ci) := by rw [arr_get 4 V 1 (by omega), hvi]
  have c2 : (arr 4 V)[2]? = some (.slice po m co) := by rw [arr_get 4 V 2 (by omega), hvo]
  have TXO := Lib.hid (show ∀ i, i < 4 → (V i).oneCell' = true from fun i hi => by
    have h4 : i = 0 ∨ i = 1 ∨ i = 2 ∨ i = 3 := by omega
    rcases h4 with rfl | rfl | rfl | rfl
    · rw [A.out.ver]; rfl
    · rw [hvi]; rfl
    · rw [hvo]; rfl
    · rw [A.out.lock]; rfl)
  clear hn hm hvi Ri hii hvo Ro hoo
  go_enter Tryd.func46, Tryd.ntmps46
  go_wp2_with (first
    | (refine mem_box E 80 rfl _ rfl rfl (arr_cells' 4 V) ?_; clear E; intro b1 w1 E)
    | (refine mem_alloc E 80 rfl rfl infoTx ?_; clear E; intro b2 w2 E)
    | (refine mem_load_cell E 77 rfl (.tmp 12) rfl rfl (List.mem_cons_of_mem _ List.mem_cons_self) Tryd.underlying77 rfl c1 ?_))
  have HB : Hid (W.heap.size ≤ w2.heap.size ∧ b1 < w2.heap.size ∧ b2 < w2.heap.size) := Lib.hid ⟨E.out.below.size, E.out.lt _ (List.mem_cons_of_mem _ List.mem_cons_self), E.out.lt _ List.mem_cons_self⟩
  obtain ⟨zc, hzc⟩ : ∃ zc : Array Value, zc = (Value.agg #[.int .u32 0, .slice none 0 0, .slice none 0 0, .int .u32 0]).cells := ⟨_, rfl⟩
  have ZC : Hid (zc.size = 4) := Lib.hid (by rw [hzc]; rfl)
  rw [← hzc] at E
  clear hzc
  go_loopg [3, 15] n (fun k s i wr => ∃ (j : Nat) (p : Option Addr) (g c : Nat) (V3 : Nat → Value), j + k = n ∧ i = .int .i64 (j : Int) ∧ s = .slice p j c ∧ Hid (VOwn 121 36 w2.heap.size wr p g j c V3) ∧ Hid (∀ i (h : i < t.ins.length), i < j → InOwn w2.heap.size wr (fun x => V3 (i * 36 + x)) t.ins[i]) ∧ Hid (Mem W [(b2, 80, zc), (b1, 80, arr 4 V)] wr))
  case atStart => exact ⟨0, none, 0, 0, fun _ => undef, by omega, rfl, rfl, Lib.hid (vown_nothing _ _ _ _ _ (Nat.le_refl _)), Lib.hid (fun i _ h => absurd h (by omega)), E⟩
  case round =>
    clear E
    obtain ⟨j, p3, g3, c3, V3, hj, rfl, rfl, N3, I3, EM⟩ := hrel
    obtain ⟨kk, rfl⟩ : ∃ kk : Nat, kk = gk := ⟨_, rfl⟩
    obtain ⟨wo, rfl⟩ : ∃ wo : World, wo = wr := ⟨_, rfl⟩
    by_cases hlt : j < n
    · obtain rfl := RI.out.head (by omega)
      have ht : j < t.ins.length := by rw [← HN.out]; exact hlt
      obtain ⟨x, hx⟩ : ∃ x, x = t.ins[j] := ⟨_, rfl⟩
      have HX := Lib.hid hx
      obtain ⟨U, hU⟩ : ∃ U : Nat → Value, U = fun i => Vi (j * 36 + i) := ⟨_, rfl⟩
      have IC : Hid (InCells W U x) := Lib.hid (by rw [hx, hU]; exact TI.out j ht)
      have LD := Lib.hid (fun w' (hb : Below W.heap.size W w') => (RI.out.below hb).load (P := Tryd.prog) hlt Tryd.underlying121 rfl (by kernel_rfl))
      have ONE := Lib.hid (RI.out.arr_one hlt)
      rw [← hU] at LD ONE
      obtain ⟨ps, gs, os, cs, hvs, hcs, Rs⟩ := IC.out.sc
      obtain ⟨pw, gw, ow, cw, Vw, hvw, hcw, Rw, Tw⟩ := IC.out.wit
      have RS := Lib.hid Rs
      have RW := Lib.hid Rw
      have TW := Lib.hid Tw
      have a33 : (arr 36 U)[33]? = some (.slice ps x.sc.length cs) := by rw [arr_get 36 _ 33 (by omega), hvs]
      have LS := Lib.hid hcs
      obtain ⟨nw, hnw⟩ : ∃ nw, nw = x.wit.length := ⟨_, rfl⟩
      have HNW := Lib.hid hnw
      have HW := Lib.hid hcw
      rw [← hnw] at RW hvw
      have nw3 : nw ≤ 140737488355328 := by omega
      have a35 : Hid (U 35 = .slice pw nw cw) := Lib.hid hvw
      have E1 := Lib.hid (Mem.nil wo)
      clear hx hU hvs hcs Rs hvw hcw Rw Tw hnw
      go_wp2_with (first
        | (refine wpList_ix (k := 36) (j := j) Tryd.underlying77 (by kernel_rfl) (.tmp 13) (.tmp 15) rfl rfl rfl rfl hlt rfl ?_)
        | (refine wpList_ld 121 (.tmp 17) rfl rfl rfl (LD.out _ (EM.out.call E1.out.below).below) ?_)
        | (refine mem_alloc E1 121 rfl rfl infoIn ?_; clear E1; intro b5 w4 E1; simp only [arr_cells'] at E1)
        | (refine mem_store_row 0 E1 121 rfl (.tmp 5) (.tmp 18) rfl rfl rfl rfl (by kernel_rfl) (by simp only [arr_size]) ONE.out ?_; clear E1; intro w5 E1; simp only [List.set_cons_zero, List.set_cons_succ] at E1)
        | (refine wpList_bs0 rfl rfl E1 (nb_of (by decide)) ?_; clear E1; intro pb gb wb K HBb; clear HBb)
        | (refine mem_load_cell (Lib.hid K.out.mem) 32 rfl (.tmp 20) rfl rfl List.mem_cons_self Tryd.underlying32 rfl a33 ?_)
        | (at_builtin; refine wpList_wbl2 rfl (.tmp 19) (.tmp 21) rfl K rfl rfl rfl (Lib.hid (RS.out.below (EM.out.call K.out.mem.below).below)) (by have := LS.out; simp only [List.length_nil]; omega) ?_; clear K; intro p6 g6 c6 w6 zs Z K; have TS := Lib.hid (K.out.textOwn (by rw [Z.out]; rfl) LS.out); have E1 := Lib.hid K.out.mem; clear K Z)
        | (refine mem_store_cellk 0 E1 32 rfl (.tmp 23) (.tmp 22) rfl rfl rfl rfl (by kernel_rfl) rfl rfl (by rw [arr_size]; omega) ?_; clear E1; intro w7 E1 KT; simp only [List.set_cons_zero, List.set_cons_succ, arr_ups] at E1; replace TS := Lib.hid (TS.out.keep KT.out (by decide)); clear KT)
        | (refine mem_load_cell E1 30 rfl (.tmp 24) rfl rfl List.mem_cons_self Tryd.underlying30 rfl (by rw [arr_get 36 _ 35 (by omega), ups_ne _ _ (by omega), a35.out]) ?_))
      have TSZ := Lib.hid (show wo.heap.size ≤ w7.heap.size from E1.out.below.size)
      go_loopg [6, 27] nw (fun k s i wx => ∃ (j2 : Nat) (p : Option Addr) (g c : Nat) (V6 : Nat → Value), j2 + k = nw ∧ i = .int .i64 (j2 : Int) ∧ s = .slice p j2 c ∧ Hid (VOwn 32 1 w7.heap.size wx p g j2 c V6) ∧ Hid (∀ i (h : i < x.wit.length), i < j2 → TextOwn w7.heap.size wx (V6 i) x.wit[i]) ∧ Hid (Below w7.heap.size w7 wx))
      case atStart => exact ⟨0, none, 0, 0, fun _ => undef, by omega, rfl, rfl, Lib.hid (vown_nothing _ _ _ _ _ (Nat.le_refl _)), Lib.hid (fun i _ h => absurd h (by omega)), Lib.hid (Below.refl _ _)⟩
      case round =>
        obtain ⟨j2, p8, g8, c8, V6, hj2, rfl, rfl, N6, I6, B6⟩ := hrel
        obtain ⟨k2, rfl⟩ : ∃ k2 : Nat, k2 = gk := ⟨_, rfl⟩
        by_cases hlt2 : j2 < nw
        · obtain rfl := RW.out.head (by omega)
          have ht2 : j2 < x.wit.length := by rw [← HNW.out]; exact hlt2
          obtain ⟨y, hy⟩ : ∃ y, y = x.wit[j2] := ⟨_, rfl⟩
          have HY := Lib.hid hy
          obtain ⟨py, gy, oy, cy, hvy, hcy, Ry⟩ := TW.out j2 ht2
          rw [← hy] at hvy hcy Ry
          have BW := Lib.hid ((EM.out.call E1.out.below).below.trans (B6.out.mono ((EM.out.call E1.out.below).below.size)))
          have CC := Lib.hid ((RW.out.below BW.out).cell j2 (by omega))
          rw [hvy] at CC
          have RY := Lib.hid (Ry.below BW.out)
          have LY := Lib.hid hcy
          have E2 := Lib.hid (Mem.nil wr)
          clear hvy hcy Ry hy
          go_wp2_with (first
            | (refine wpList_ix (k := 1) (j := j2) Tryd.underlying30 (by kernel_rfl) (.tmp 25) (.tmp 27) rfl rfl rfl rfl hlt2 rfl ?_; rw [Nat.mul_one])
            | (refine wpList_ld1 32 (.tmp 29) rfl rfl rfl Tryd.underlying32 rfl CC ?_)
            | (refine wpList_bs0 rfl rfl E2 (fun _ h => by cases h) ?_; clear E2; intro pb gb wb K HBb; clear HBb)
            | (at_builtin; refine wpList_wbl2 rfl (.tmp 32) (.tmp 33) rfl K rfl rfl rfl (Lib.hid (RY.out.below K.out.mem.below)) (by have := LY.out; simp only [List.length_nil]; omega) ?_; clear K; intro p9 g9 c9 w9 z9 Z9 K; have TY := Lib.hid (K.out.textOwn (by rw [Z9.out]; rfl) LY.out); have E2 := Lib.hid K.out.mem; clear K Z9)
            | (refine wpList_vbs 30 32 1 1 rfl _ rfl (fun _ => .slice p9 z9.length c9) (fun _ _ => rfl) (by unfold maxLen; omega) (ps := #[(0, .slice p9 z9.length c9)]) (by kernel_rfl) (fun W => run_bs1v Tryd.underlying30 infoText3 _ rfl W) (vs_const _) ?_; intro p10 g10 w10 N10 hb10; replace E2 := Lib.hid (E2.out.call hb10.out); replace TY := Lib.hid (TY.out.below hb10.out); clear hb10)
            | (at_builtin; refine wpList_vapp 30 32 1 24 Tryd.underlying30 infoText3 rfl (by omega) rfl (.tmp 31) (.tmp 35) rfl rfl (Lib.hid (N6.out.below E2.out.below)) rfl (Lib.hid N10.out.row) (by unfold maxLen; omega) (by have := HW.out; have := HNW.out; omega) ?_; intro p11 g11 c11 w11 N11 hg11))
          have KT := Lib.hid (KeepT.of_grown (N6.out.below E2.out.below) hg11.out)
          have B11 := Lib.hid ((B6.out.trans (E2.out.below.mono B6.out.size)).trans ((N6.out.below E2.out.below).under hg11.out (Nat.le_refl _) (Nat.le_trans B6.out.size E2.out.below.size)))
          have I11 : Hid (∀ i (h : i < x.wit.length), i < j2 + 1 → TextOwn w7.heap.size w11 (vcat V6 (j2 * 1) (fun _ => .slice p9 z9.length c9) i) x.wit[i]) := Lib.hid (fun i h hi => by
            by_cases e : i = j2
            · subst e
              have e2 : vcat V6 (i * 1) (fun _ => Value.slice p9 z9.length c9) i = .slice p9 z9.length c9 := by unfold vcat; rw [if_neg (by omega)]
              rw [e2, ← HY.out]
              exact (TY.out.keep KT.out (by decide)).mono B6.out.size
            · have e2 : vcat V6 (j2 * 1) (fun _ => Value.slice p9 z9.length c9) i = V6 i := by unfold vcat; rw [if_pos (by omega)]
              rw [e2]
              exact ((I6.out i h (by omega)).below E2.out.below).keep KT.out (by decide))
          clear KT hg11 N10 TY
          go_roundg (nw - (j2 + 1))
          case measure => omega
          case rel => exact ⟨j2 + 1, p11, g11, c11, _, by omega, by go_num, rfl, N11, I11, B11⟩
        · obtain rfl : j2 = nw := by omega
          have WT : Hid (TextsOwn w7.heap.size wr (.slice p8 j2 c8) x.wit) := Lib.hid (by
            rw [HNW.out]
            exact ⟨p8, g8, c8, V6, rfl, HW.out, by rw [← HNW.out]; exact N6.out, fun i h => I6.out i h (by rw [HNW.out]; exact h)⟩)
          replace E1 := Lib.hid (E1.out.call B6.out)
          replace TS := Lib.hid (TS.out.below B6.out)
          clear N6 I6 B6
          go_wp2_with (first
            | (refine mem_store_cellk 0 E1 30 rfl (.tmp 39) (.tmp 38) rfl rfl rfl rfl (by kernel_rfl) rfl rfl (by rw [arr_size]; omega) ?_; clear E1; intro w12 E1 KT; simp only [List.set_cons_zero, List.set_cons_succ, arr_ups] at E1; replace TS := Lib.hid (TS.out.keep KT.out (by decide)); replace WT := Lib.hid (WT.out.keep KT.out (by decide) (by decide)); clear KT)
            | (refine mem_load_row E1 121 rfl (.tmp 5) rfl rfl List.mem_cons_self Tryd.underlying121 rfl (by simp only [arr_size]; kernel_rfl) ?_)
            | (refine wpList_vbs 77 121 36 1 rfl _ rfl (ups (ups U 33 (.slice p6 zs.length c6)) 35 (.slice p8 j2 c8)) (one_arr (IC.out.one_ups rfl rfl)) (by unfold maxLen; omega) (ps := #[(0, .agg (arr 36 (ups (ups U 33 (.slice p6 zs.length c6)) 35 (.slice p8 j2 c8))))]) (by kernel_rfl) (fun W => run_bs1 Tryd.underlying77 infoIn3 (by omega) (by omega) _ (arr_size _ _) W) (arr_vs _ _) ?_; intro p13 g13 w13 N13 hb13; replace E1 := Lib.hid (E1.out.call hb13.out); replace TS := Lib.hid (TS.out.below hb13.out); replace WT := Lib.hid (WT.out.below hb13.out); clear hb13)
            | (at_builtin; refine wpList_vapp 77 121 36 96 Tryd.underlying77 infoIn3 (arr_size _ _) (by omega) rfl (.tmp 40) (.tmp 42) rfl rfl (Lib.hid (N3.out.below E1.out.below)) rfl (Lib.hid N13.out.row) (by unfold maxLen; omega) (by omega) ?_; intro p14 g14 c14 w14 N14 hg14))
          have KT := Lib.hid (KeepT.of_grown (N3.out.below E1.out.below) hg14.out)
          have SZ := Lib.hid (show w2.heap.size ≤ w7.heap.size from Nat.le_trans N3.out.low (by have := TSZ.out; omega))
          have BU := Lib.hid ((N3.out.below E1.out.below).under hg14.out (Nat.le_refl _) (Nat.le_trans N3.out.low E1.out.below.size))
          have EM2 := Lib.hid ((EM.out.call E1.out.below).part BU.out HB.out.1 (fun q hq => by
            simp only [List.mem_cons, List.not_mem_nil, or_false] at hq
            rcases hq with rfl | rfl
            · exact HB.out.2.2
            · exact HB.out.2.1))
          have I14 : Hid (∀ i (h : i < t.ins.length), i < j + 1 → InOwn w2.heap.size w14 (fun y => vcat V3 (j * 36) (ups (ups U 33 (.slice p6 zs.length c6)) 35 (.slice p8 j2 c8)) (i * 36 + y)) t.ins[i]) := Lib.hid (fun i h hi => by
            by_cases e : i = j
            · subst e
              rw [← HX.out]
              exact (IC.out.copied ((TS.out.mono N3.out.low).keep KT.out (by decide)) ((WT.out.mono SZ.out).keep KT.out (by decide) (by decide))).to fun y hy => vcat_hi.symm
            · exact (((I3.out i h (by omega)).below E1.out.below).keep KT.out (by decide) (by decide)).to fun y hy => (vcat_lo (by omega) hy).symm)
          clear KT BU hg14 N13 E1 TS WT
          go_roundg (n - (j + 1))
          case measure => omega
          case rel => exact ⟨j + 1, p14, g14, c14, _, by omega, by go_num, rfl, N14, I14, EM2⟩
    · obtain rfl : j = n := by omega
      have INS : Hid (InsOwn w2.heap.size wo (.slice p3 j c3) t.ins) := Lib.hid (by
        rw [HN.out]
        exact ⟨p3, g3, c3, V3, rfl, by rw [← HN.out]; exact hci, by rw [← HN.out]; exact N3.out, fun i h => I3.out i h (by rw [HN.out]; exact h)⟩)
      have HBZ := Lib.hid EM.out.below.size
      clear N3 I3
      go_wp2_with (refine mem_load_cell EM 78 rfl (.tmp 45) rfl rfl (List.mem_cons_of_mem _ List.mem_cons_self) Tryd.underlying78 rfl c2 ?_)
      go_loopg [9, 48] m (fun k s i wx => ∃ (j2 : Nat) (p : Option Addr) (g c : Nat) (V6 : Nat → Value), j2 + k = m ∧ i = .int .i64 (j2 : Int) ∧ s = .slice p j2 c ∧ Hid (VOwn 83 2 wo.heap.size wx p g j2 c V6) ∧ Hid (∀ i (h : i < t.outs.length), i < j2 → OutOwn wo.heap.size wx (fun x => V6 (i * 2 + x)) t.outs[i]) ∧ Hid (Below wo.heap.size wo wx))
      case atStart => exact ⟨0, none, 0, 0, fun _ => undef, by omega, rfl, rfl, Lib.hid (vown_nothing _ _ _ _ _ (Nat.le_refl _)), Lib.hid (fun i _ h => absurd h (by omega)), Lib.hid (Below.refl _ _)⟩
      case round =>
        obtain ⟨j2, p8, g8, c8, V6, hj2, rfl, rfl, N6, I6, B6⟩ := hrel
        obtain ⟨k2, rfl⟩ : ∃ k2 : Nat, k2 = gk := ⟨_, rfl⟩
        by_cases hlt2 : j2 < m
        · obtain rfl := RO.out.head (by omega)
          have ht2 : j2 < t.outs.length := by rw [← HM.out]; exact hlt2
          obtain ⟨x, hx⟩ : ∃ x, x = t.outs[j2] := ⟨_, rfl⟩
          have HX := Lib.hid hx
          obtain ⟨U, hU⟩ : ∃ U : Nat → Value, U = fun i => Vo (j2 * 2 + i) := ⟨_, rfl⟩
          have OC : Hid (OutCells W U x) := Lib.hid (by rw [hx, hU]; exact TO.out j2 ht2)
          have LD := Lib.hid (fun w' (hb : Below W.heap.size W w') => (RO.out.below hb).load (P := Tryd.prog) hlt2 Tryd.underlying83 rfl (by kernel_rfl))
          have ONE := Lib.hid (RO.out.arr_one hlt2)
          rw [← hU] at LD ONE
          obtain ⟨ps, gs, os, cs, hvs, hcs, Rs⟩ := OC.out.sc
          have RS := Lib.hid Rs
          have a1 : (arr 2 U)[1]? = some (.slice ps x.sc.length cs) := by rw [arr_get 2 _ 1 (by omega), hvs]
          have LS := Lib.hid hcs
          have BW := Lib.hid (EM.out.below.trans (B6.out.mono EM.out.below.size))
          have E1 := Lib.hid (Mem.nil wr)
          clear hx hU hvs hcs Rs
          go_wp2_with (first
            | (refine wpList_ix (k := 2) (j := j2) Tryd.underlying78 (by kernel_rfl) (.tmp 46) (.tmp 48) rfl rfl rfl rfl hlt2 rfl ?_)
            | (refine wpList_ld 83 (.tmp 50) rfl rfl rfl (LD.out _ (BW.out.trans (E1.out.below.mono BW.out.size))) ?_)
            | (refine mem_alloc E1 83 rfl rfl infoOut ?_; clear E1; intro b5 w4 E1)
            | (refine mem_store_row 0 E1 83 rfl (.tmp 11) (.tmp 51) rfl rfl rfl rfl (by kernel_rfl) (by rw [arr_size]; rfl) ONE.out ?_; clear E1; intro w5 E1; simp only [List.set_cons_zero, List.set_cons_succ] at E1)
            | (refine wpList_bs0 rfl rfl E1 (nb_of (by decide)) ?_; clear E1; intro pb gb wb K HBb; clear HBb)
            | (refine mem_load_cell (Lib.hid K.out.mem) 32 rfl (.tmp 53) rfl rfl List.mem_cons_self Tryd.underlying32 rfl a1 ?_)
            | (at_builtin; refine wpList_wbl2 rfl (.tmp 52) (.tmp 54) rfl K rfl rfl rfl (Lib.hid (RS.out.below (BW.out.trans (K.out.mem.below.mono BW.out.size)))) (by have := LS.out; simp only [List.length_nil]; omega) ?_; clear K; intro p6 g6 c6 w6 zs Z K; have TS := Lib.hid (K.out.textOwn (by rw [Z.out]; rfl) LS.out); have E1 := Lib.hid K.out.mem; clear K Z)
            | (refine mem_store_cellk 0 E1 32 rfl (.tmp 56) (.tmp 55) rfl rfl rfl rfl (by kernel_rfl) rfl rfl (by rw [arr_size]; omega) ?_; clear E1; intro w7 E1 KT; simp only [List.set_cons_zero, List.set_cons_succ, arr_ups] at E1; replace TS := Lib.hid (TS.out.keep KT.out (by decide)); clear KT)
            | (refine mem_load_row E1 83 rfl (.tmp 11) rfl rfl List.mem_cons_self Tryd.underlying83 rfl (by simp only [arr_size]; kernel_rfl) ?_)
            | (refine wpList_vbs 78 83 2 1 rfl _ rfl (ups U 1 (.slice p6 zs.length c6)) (one_arr (OC.out.one_ups rfl)) (by unfold maxLen; omega) (ps := #[(0, .agg (arr 2 (ups U 1 (.slice p6 zs.length c6))))]) (by kernel_rfl) (fun W => run_bs1 Tryd.underlying78 infoOut3 (by omega) (by omega) _ (arr_size _ _) W) (arr_vs _ _) ?_; intro p13 g13 w13 N13 hb13; replace E1 := Lib.hid (E1.out.call hb13.out); replace TS := Lib.hid (TS.out.below hb13.out); clear hb13)
            | (at_builtin; refine wpList_vapp 78 83 2 32 Tryd.underlying78 infoOut3 rfl (by omega) rfl (.tmp 57) (.tmp 59) rfl rfl (Lib.hid (N6.out.below E1.out.below)) rfl (Lib.hid N13.out.row) (by unfold maxLen; omega) (by omega) ?_; intro p14 g14 c14 w14 N14 hg14))
          have KT := Lib.hid (KeepT.of_grown (N6.out.below E1.out.below) hg14.out)
          have B14 := Lib.hid ((B6.out.trans (E1.out.below.mono B6.out.size)).trans ((N6.out.below E1.out.below).under hg14.out (Nat.le_refl _) (Nat.le_trans B6.out.size E1.out.below.size)))
          have I14 : Hid (∀ i (h : i < t.outs.length), i < j2 + 1 → OutOwn wo.heap.size w14 (fun y => vcat V6 (j2 * 2) (ups U 1 (.slice p6 zs.length c6)) (i * 2 + y)) t.outs[i]) := Lib.hid (fun i h hi => by
            by_cases e : i = j2
            · subst e
              rw [← HX.out]
              exact (OC.out.copied ((TS.out.mono B6.out.size).keep KT.out (by decide))).to fun y hy => vcat_hi.symm
            · exact (((I6.out i h (by omega)).below E1.out.below).keep KT.out (by decide)).to fun y hy => (vcat_lo (by omega) hy).symm)
          clear KT hg14 N13 E1 TS
          go_roundg (m - (j2 + 1))
          case measure => omega
          case rel => exact ⟨j2 + 1, p14, g14, c14, _, by omega, by go_num, rfl, N14, I14, B14⟩
        · obtain rfl : j2 = m := by omega
          have OUTS : Hid (OutsOwn wo.heap.size wr (.slice p8 j2 c8) t.outs) := Lib.hid (by
            rw [HM.out]
            exact ⟨p8, g8, c8, V6, rfl, by rw [← HM.out]; exact hco, by rw [← HM.out]; exact N6.out, fun i h => I6.out i h (by rw [HM.out]; exact h)⟩)
          replace EM := Lib.hid (EM.out.call B6.out)
          replace INS := Lib.hid (INS.out.below B6.out)
          have SZ := Lib.hid (show W.heap.size ≤ wo.heap.size ∧ W.heap.size ≤ w2.heap.size from ⟨HBZ.out, HB.out.1⟩)
          clear N6 I6 B6
          go_wp2_with (first
            | (refine mem_store_cellk 1 EM 77 rfl (.tmp 64) (.tmp 62) rfl rfl rfl rfl (by kernel_rfl) rfl rfl (by rw [arr_size]; omega) ?_; clear EM; intro w12 EM KT; simp only [List.set_cons_zero, List.set_cons_succ, arr_ups] at EM; replace INS := Lib.hid (INS.out.keep KT.out (by decide) (by decide) (by decide)); replace OUTS := Lib.hid (OUTS.out.keep KT.out (by decide) (by decide)); clear KT)
            | (refine mem_store_cellk 1 EM 78 rfl (.tmp 65) (.tmp 63) rfl rfl rfl rfl (by kernel_rfl) rfl rfl (by rw [arr_size]; omega) ?_; clear EM; intro w13 EM KT; simp only [List.set_cons_zero, List.set_cons_succ, arr_ups] at EM; replace INS := Lib.hid (INS.out.keep KT.out (by decide) (by decide) (by decide)); replace OUTS := Lib.hid (OUTS.out.keep KT.out (by decide) (by decide)); clear KT)
            | (refine mem_load_row EM 80 rfl (.tmp 1) rfl rfl (List.mem_cons_of_mem _ List.mem_cons_self) Tryd.underlying80 rfl (by simp only [arr_size]; kernel_rfl) ?_)
            | (refine mem_store_rowk 0 EM 80 rfl (.tmp 2) (.tmp 66) rfl rfl rfl rfl (by kernel_rfl) (by rw [arr_size]; exact ZC.out) (all_of (fun i hi => by
                unfold ups
                split
                · rfl
                · split
                  · rfl
                  · exact TXO.out i hi)) ?_; clear EM; intro w14 EM KT; simp only [List.set_cons_zero, List.set_cons_succ] at EM; replace INS := Lib.hid (INS.out.keep KT.out (by decide) (by decide) (by decide)); replace OUTS := Lib.hid (OUTS.out.keep KT.out (by decide) (by decide)); clear KT))
          refine bodyPost_ret (results_cell_row (fn := Tryd.f46) rfl _ _ b2 80 _ (0, 0) _ rfl (EM.out.get List.mem_cons_self) Tryd.underlying80 rfl (by rw [arr_size]; kernel_rfl)) rfl ⟨_, rfl, ?_, EM.out.below⟩
          exact ⟨by rw [ups_ne _ _ (by omega), ups_ne _ _ (by omega)]; exact A.out.ver, A.out.verB, by rw [ups_ne _ _ (by omega), ups_at]; exact INS.out.mono SZ.out.2, by rw [ups_at]; exact OUTS.out.mono SZ.out.1, by rw [ups_ne _ _ (by omega), ups_ne _ _ (by omega)]; exact A.out.lock, A.out.lockB⟩
end Go.Proofs.YtoopcmcmjaikhaaDoor

