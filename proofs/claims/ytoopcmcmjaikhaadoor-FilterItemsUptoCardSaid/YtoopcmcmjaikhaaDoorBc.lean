/- A block in memory of its own; two blocks that are the same. -/
import Derived.Test.YtoopcmcmjaikhaaDoorTj
set_option linter.unusedSimpArgs false
set_option linter.unusedVariables false
set_option maxRecDepth 100000
namespace Go.Proofs.YtoopcmcmjaikhaaDoor
open Go.RowKit Go.Lib Go.Sort

def bc (h : Hd) (v : Value) : Nat → Value := fun j => if j = 68 then v else hc h j
def hr (m : Nat → Nat) : Hd := ⟨0, fun _ => 0, m, 0, 0, 0⟩
theorem hr_ok {m : Nat → Nat} (h : ∀ i, m i < 256) : (hr m).Ok := ⟨by show 0 < 4294967296; decide, by show 0 < 4294967296; decide, by show 0 < 4294967296; decide, by show 0 < 4294967296; decide, fun i => by show 0 < 256; decide, h⟩
theorem bc_at {w : World} {h : Hd} {v : Value} {ts : List TTx} (ok : h.Ok) (T : TxsAt w v ts) : BlkCells w (bc h v) ⟨h, ts⟩ := ⟨fun j hj => by unfold bc; rw [if_neg (by omega)], ok, by unfold bc; rw [if_pos rfl]; exact T⟩
theorem txs_nil (w : World) : TxsAt w (.slice none 0 0) [] := ⟨none, 0, 0, 0, fun _ => undef, rfl, by decide, VRow.nothing _ _ _, fun i hi => absurd hi (by simp)⟩
theorem built_blk0 : Tryd.prog.built 42 (#[] : Array (Nat × Value)).toList = some (arr 69 (bc (hr fun _ => 0) (.slice none 0 0))) := by kernel_rfl
theorem built_blk1 (p : Option Addr) (n c : Nat) : Tryd.prog.built 42 (#[(1, .slice p n c)] : Array (Nat × Value)).toList = some (arr 69 (bc (hr fun _ => 0) (.slice p n c))) := by kernel_rfl
theorem infoBlk0 : (Tryd.prog.info? 42).map (fun i => (i.zero, i.size)) = some (some (.agg (arr 69 (bc (hr fun _ => 0) (.slice none 0 0)))), 69) := by kernel_rfl
theorem ld_hdrA {W w w0 : World} {b T : Nat} {V : Nat → Value} {t : TBlk} (A : BlkCells w0 V t) (hh : W.heap[b]? = some (.cells (arr 69 V) T (0, 0))) (hb' : Below W.heap.size W w) :
    (Instr.loadAt 28 (.pointer (some ⟨b, 0, none⟩))).run Tryd.prog w = .ok (.agg (arr 68 (hc t.hd))) w := by
  have hr : w.rangeAt b 0 (vs (hc t.hd) 68) := fun j x hj => by
    obtain ⟨hl, rfl⟩ := vs_get _ _ _ _ hj
    rw [Nat.zero_add, hb'.cell (cell_lt (cell_of_here hh j (arr_get 69 V j (by omega))))]
    refine cell_of_here hh j ?_
    rw [arr_get 69 _ j (by omega), A.hd j hl]
  have := run_loadAt_mid (P := Tryd.prog) w b 0 28 (vs (hc t.hd) 68) _ hr hdr_is' rfl (by rw [vs_length]; kernel_rfl)
  rwa [vs_arr] at this

theorem part_v (h : Hd) (w : World) : (part 26 (arr 68 (hc h)) 0).run Tryd.prog w = .ok (.int .u32 ((h.v : Nat) : Int)) w := by kernel_rfl
theorem part_p (h : Hd) (w : World) : (part 23 (arr 68 (hc h)) 1).run Tryd.prog w = .ok (.agg (arr 32 (bv h.prev))) w := by kernel_rfl
theorem part_m (h : Hd) (w : World) : (part 23 (arr 68 (hc h)) 33).run Tryd.prog w = .ok (.agg (arr 32 (bv h.merkle))) w := by kernel_rfl
theorem part_t (h : Hd) (w : World) : (part 26 (arr 68 (hc h)) 65).run Tryd.prog w = .ok (.int .u32 ((h.t : Nat) : Int)) w := by kernel_rfl
theorem part_b (h : Hd) (w : World) : (part 26 (arr 68 (hc h)) 66).run Tryd.prog w = .ok (.int .u32 ((h.b : Nat) : Int)) w := by kernel_rfl
theorem part_n (h : Hd) (w : World) : (part 26 (arr 68 (hc h)) 67).run Tryd.prog w = .ok (.int .u32 ((h.n : Nat) : Int)) w := by kernel_rfl
theorem same_hdr (h : Hd) (w : World) : (Op.equalIn 10000 28 (.agg (arr 68 (hc h))) (.agg (arr 68 (hc h)))).run Tryd.prog w = .ok true w := by
  rw [run_equalIn_struct w 9999 28 _ _ hdr_is' (by kernel_rfl)]
  refine eqFields_all _ fun f hf => ?_
  have hm : (f.type, f.offset) ∈ [(26, 0), (23, 1), (23, 33), (26, 65), (26, 66), (26, 67)] := by
    rw [← hdr_fields']
    exact List.mem_map.2 ⟨f, hf, rfl⟩
  have num : ∀ (n : Nat), (Op.equalIn 9999 26 (.int .u32 ((n : Nat) : Int)) (.int .u32 ((n : Nat) : Int))).run Tryd.prog w = .ok true w := fun n => by
    rw [run_equalIn_int w 9998 26 .u32 .u32 _ _ Tryd.underlying26]
    simp
  simp only [List.mem_cons, List.not_mem_nil, or_false, Prod.mk.injEq] at hm
  rcases hm with ⟨e1, e2⟩ | ⟨e1, e2⟩ | ⟨e1, e2⟩ | ⟨e1, e2⟩ | ⟨e1, e2⟩ | ⟨e1, e2⟩
  · rw [e1, e2]; exact ⟨_, part_v h w, num _⟩
  · rw [e1, e2]; exact ⟨_, part_p h w, same_bytes_at (d := 9997) Tryd.underlying23 _ w⟩
  · rw [e1, e2]; exact ⟨_, part_m h w, same_bytes_at (d := 9997) Tryd.underlying23 _ w⟩
  · rw [e1, e2]; exact ⟨_, part_t h w, num _⟩
  · rw [e1, e2]; exact ⟨_, part_b h w, num _⟩
  · rw [e1, e2]; exact ⟨_, part_n h w, num _⟩

set_option maxHeartbeats 4000000 in
theorem eftx_any {w : World} {v v' : Value} {ts : List TTx} (A : Hid (TxsAt w v ts)) (A' : Hid (TxsAt w v' ts)) :
    Calls Tryd.prog 48 #[v, v', .func (.func 49) #[] #[]] w fun e w' => e = .returned (.bool true) ∧ Below w.heap.size w w' := by
  obtain ⟨p, g, o, c, V, hv, hc, R0, hi⟩ := A.out
  obtain ⟨p', g', o', c', V', hv', hc', R0', hi'⟩ := A'.out
  subst hv hv'
  have RR := Lib.hid R0
  have SS := Lib.hid R0'
  have TT := Lib.hid hi
  have TU := Lib.hid hi'
  clear R0 hi A R0' hi' A' hc'
  have E := Lib.hid (Mem.nil w)
  obtain ⟨n, hn⟩ : ∃ n, n = ts.length := ⟨_, rfl⟩
  have HN := Lib.hid hn
  rw [← hn] at RR SS hc ⊢
  have hn3 : n ≤ 140737488355328 := by omega
  clear hn hc
  go_enter Tryd.func48, Tryd.ntmps48
  go_wp2
  go_loopg [17] n (fun k i wr => ∃ j : Nat, j + k = n ∧ i = .int .i64 (j : Int) ∧ Hid (Mem w [] wr))
  case atStart => exact ⟨0, by omega, rfl, E⟩
  case round =>
    clear E
    obtain ⟨j, hj, rfl, E⟩ := hrel
    obtain ⟨kk, rfl⟩ : ∃ kk : Nat, kk = gk := ⟨_, rfl⟩
    by_cases hlt : j < n
    · obtain rfl := RR.out.head (by omega)
      obtain rfl := SS.out.head (by omega)
      have ht : j < ts.length := by rw [← HN.out]; exact hlt
      have EC := Lib.hid (TT.out j ht)
      have ED := Lib.hid (TU.out j ht)
      go_wp2_with (first
        | (refine wpList_ix (k := 4) (j := j) Tryd.underlying40 (by kernel_rfl) (.tmp 15) (.tmp 17) rfl rfl rfl rfl hlt rfl ?_)
        | (refine wpList_ix (k := 4) (j := j) Tryd.underlying40 (by kernel_rfl) (.tmp 22) (.tmp 23) rfl rfl rfl rfl hlt rfl ?_)
        | (refine wpList_ld 80 (.tmp 20) rfl rfl rfl ((RR.out.below E.out.below).load hlt Tryd.underlying80 rfl (by kernel_rfl)) ?_)
        | (refine wpList_ld 80 (.tmp 24) rfl rfl rfl ((SS.out.below E.out.below).load hlt Tryd.underlying80 rfl (by kernel_rfl)) ?_)
        | (refine mem_alloc E 80 rfl rfl infoTx ?_; clear E; intro bn wn E)
        | (refine mem_store_row 0 E 80 rfl (.tmp 8) (.tmp 21) rfl rfl rfl rfl (by kernel_rfl) (by rw [arr_size]; rfl) (RR.out.arr_one hlt) ?_; clear E; intro w5 E; simp only [List.set_cons_zero, List.set_cons_succ] at E)
        | (refine mem_store_row 0 E 80 rfl (.tmp 9) (.tmp 25) rfl rfl rfl rfl (by kernel_rfl) (by rw [arr_size]; rfl) (SS.out.arr_one hlt) ?_; clear E; intro w6 E; simp only [List.set_cons_zero, List.set_cons_succ] at E)
        | (refine mem_load_row E 80 rfl (.tmp 8) rfl rfl (List.mem_cons_of_mem _ List.mem_cons_self) Tryd.underlying80 rfl (by simp only [arr_size]; kernel_rfl) ?_)
        | (refine mem_load_row E 80 rfl (.tmp 9) rfl rfl List.mem_cons_self Tryd.underlying80 rfl (by simp only [arr_size]; kernel_rfl) ?_)
        | (go_at_call 49; refine (same_tx (Lib.hid (EC.out.below E.out.below)) (Lib.hid (ED.out.below E.out.below))).mono ?_; rintro e w7 ⟨rfl, hb⟩; replace E := Lib.hid (E.out.call hb); clear hb))
      go_roundg (n - (j + 1))
      case measure => omega
      case rel => exact ⟨j + 1, by omega, by go_num, Lib.hid E.out.tail.tail⟩
    · obtain rfl : j = n := by omega
      go_wp2
      go_ret
      exact ⟨rfl, E.out.below⟩


set_option maxHeartbeats 4000000 in
theorem same_blk {w : World} {V V' : Nat → Value} {t : TBlk} (A : Hid (BlkCells w V t)) (A' : Hid (BlkCells w V' t)) : Calls Tryd.prog 22 #[.agg (arr 69 V), .agg (arr 69 V')] w fun e w' => e = .returned (.bool true) ∧ Below w.heap.size w w' := by
  have E := Lib.hid (Mem.nil w)
  have c68 : (arr 69 V)[68]? = some (V 68) := arr_get 69 V 68 (by omega)
  have c68' : (arr 69 V')[68]? = some (V' 68) := arr_get 69 V' 68 (by omega)
  have S := Lib.hid fun w' (hb : Below w.heap.size w w') => eftx_any (Lib.hid (A.out.txs.below hb)) (Lib.hid (A'.out.txs.below hb))
  have EQ := same_hdr t.hd
  go_enter Tryd.func22, Tryd.ntmps22
  go_wp2_with (first
    | ((with_reducible refine wpList_at 2 rfl ?_); refine mem_box E 42 rfl (.tmp 0) rfl rfl (arr_cells' 69 V) ?_; clear E; intro b2 w2 E)
    | ((with_reducible refine wpList_at 3 rfl ?_); refine mem_box E 42 rfl (.tmp 1) rfl rfl (arr_cells' 69 V') ?_; clear E; intro b3 w3 E)
    | ((with_reducible refine wpList_at 6 rfl ?_); refine wpList_ld 28 (.tmp 5) rfl rfl rfl (ld_hdrA A.out (E.out.get (List.mem_cons_of_mem _ List.mem_cons_self)) (Below.refl _ _)) ?_)
    | ((with_reducible refine wpList_at 8 rfl ?_); refine wpList_ld 28 (.tmp 7) rfl rfl rfl (ld_hdrA A'.out (E.out.get List.mem_cons_self) (Below.refl _ _)) ?_)
    | ((with_reducible refine wpList_at 12 rfl ?_); refine mem_load_cell E 40 (by kernel_rfl) (.tmp 11) rfl rfl (List.mem_cons_of_mem _ List.mem_cons_self) Tryd.underlying40 rfl c68 ?_)
    | ((with_reducible refine wpList_at 14 rfl ?_); refine mem_load_cell E 40 (by kernel_rfl) (.tmp 13) rfl rfl List.mem_cons_self Tryd.underlying40 rfl c68' ?_)
    | (go_at_call 48; refine (S.out _ E.out.below).mono ?_; rintro e w4 ⟨rfl, hb⟩; replace E := Lib.hid (E.out.call hb); clear hb))
  go_ret
  exact ⟨by simp, E.out.below⟩
theorem TxOwn.to {B : Nat} {w : World} {V U : Nat → Value} {t : TTx} (h : TxOwn B w V t) (e : ∀ x, x < 4 → V x = U x) : TxOwn B w U t :=
  ⟨by rw [← e 0 (by omega)]; exact h.ver, h.verB, by rw [← e 1 (by omega)]; exact h.ins, by rw [← e 2 (by omega)]; exact h.outs, by rw [← e 3 (by omega)]; exact h.lock, h.lockB⟩
theorem TxOwn.mono {B B' : Nat} {w : World} {V : Nat → Value} {t : TTx} (h : TxOwn B w V t) (hB : B' ≤ B) : TxOwn B' w V t := ⟨h.ver, h.verB, h.ins.mono hB, h.outs.mono hB, h.lock, h.lockB⟩
theorem TxOwn.one {B : Nat} {w : World} {V : Nat → Value} {t : TTx} (h : TxOwn B w V t) : ∀ j, j < 4 → (V j).oneCell' = true := h.at.one
/-- A block in memory of its own. -/
structure BlkOwn (B : Nat) (w : World) (V : Nat → Value) (t : TBlk) : Prop where
  hd : ∀ j, j < 68 → V j = hc t.hd j
  ok : t.hd.Ok
  txs : ∃ p g c X, V 68 = .slice p t.txs.length c ∧ t.txs.length * 64 ≤ 140737488351232 ∧ VOwn 80 4 B w p g t.txs.length c X ∧ ∀ i (h : i < t.txs.length), TxOwn B w (fun x => X (i * 4 + x)) t.txs[i]
theorem BlkOwn.at {B : Nat} {w : World} {V : Nat → Value} {t : TBlk} (h : BlkOwn B w V t) : BlkCells w V t := by
  obtain ⟨p, g, c, X, e, hl, N, I⟩ := h.txs
  exact ⟨h.hd, h.ok, p, g, 0, c, X, e, hl, N.row, fun i hi => (I i hi).at⟩
theorem BlkOwn.below {B : Nat} {w w' : World} {V : Nat → Value} {t : TBlk} (h : BlkOwn B w V t) (hb : Below w.heap.size w w') : BlkOwn B w' V t := by
  obtain ⟨p, g, c, X, e, hl, N, I⟩ := h.txs
  exact ⟨h.hd, h.ok, p, g, c, X, e, hl, N.below hb, fun i hi => (I i hi).below hb⟩
theorem BlkOwn.keep {B : Nat} {w w' : World} {V : Nat → Value} {t : TBlk} (h : BlkOwn B w V t) (k : KeepT 42 w w') : BlkOwn B w' V t := by
  obtain ⟨p, g, c, X, e, hl, N, I⟩ := h.txs
  exact ⟨h.hd, h.ok, p, g, c, X, e, hl, N.keep k (by decide), fun i hi => (I i hi).keep k (by decide) (by decide) (by decide) (by decide)⟩
theorem blk_ones {w : World} {V : Nat → Value} {t : TBlk} (A : BlkCells w V t) : ∀ j, j < 69 → (V j).oneCell' = true := fun j hj => by
  by_cases h : j = 68
  · rw [h]; exact A.txs.one
  · rw [A.hd j (by omega)]
    unfold hc
    repeat' split
    all_goals rfl
set_option maxHeartbeats 8000000 in
theorem bcopy_any {W : World} {V : Nat → Value} {t : TBlk} (A : Hid (BlkCells W V t)) : Calls Tryd.prog 18 #[.agg (arr 69 V)] W fun e w' => ∃ B V', e = .returned (.agg (arr 69 V')) ∧ BlkOwn B w' V' t ∧ Below W.heap.size W w' := by
  have E := Lib.hid (Mem.nil W)
  obtain ⟨p, g, o, c, U, hv68, hlen, R0, hi⟩ := A.out.txs
  obtain ⟨n, hn⟩ : ∃ n, n = t.txs.length := ⟨_, rfl⟩
  have HN := Lib.hid hn
  have RR := Lib.hid R0
  have TT := Lib.hid hi
  have ONES := Lib.hid (blk_ones A.out)
  rw [← hn] at hv68 hlen RR
  have V68 : (arr 69 V)[68]? = some (.slice p n c) := by rw [arr_get 69 V 68 (by omega), hv68]
  have cn := RR.out.le
  have HLEN := Lib.hid hlen
  clear hn hi R0 hv68
  go_enter Tryd.func18, Tryd.ntmps18
  go_wp2_with (first
    | ((with_reducible refine wpList_at 1 rfl ?_); refine mem_box E 42 rfl (.tmp 0) rfl rfl (arr_cells' 69 V) ?_; clear E; intro b1 w1 E)
    | ((with_reducible refine wpList_at 2 rfl ?_); refine mem_alloc E 42 rfl rfl infoBlk0 ?_; clear E; intro b2 w2 E; simp only [arr_cells'] at E)
    | ((with_reducible refine wpList_at 7 rfl ?_); refine mem_load_cell E 40 rfl (.tmp 6) rfl rfl (List.mem_cons_of_mem _ List.mem_cons_self) Tryd.underlying40 rfl V68 ?_))
  obtain ⟨zc, hzc⟩ : ∃ zc : Array Value, zc = arr 69 (bc (hr fun _ => 0) (.slice none 0 0)) := ⟨_, rfl⟩
  have ZC : Hid (zc.size = 69) := Lib.hid (by rw [hzc, arr_size])
  rw [← hzc] at E
  clear hzc
  have HBZ := Lib.hid (show W.heap.size ≤ w2.heap.size from E.out.below.size)
  go_loopg [3, 9] n (fun k s i wr => ∃ (j : Nat) (p : Option Addr) (g c : Nat) (V3 : Nat → Value), j + k = n ∧ i = .int .i64 ((j : Nat) : Int) ∧ s = .slice p j c ∧ Hid (VOwn 80 4 w2.heap.size wr p g j c V3) ∧ Hid (∀ i (h : i < t.txs.length), i < j → TxOwn w2.heap.size wr (fun x => V3 (i * 4 + x)) t.txs[i]) ∧ Hid (Mem W [(b2, 42, zc), (b1, 42, arr 69 V)] wr) ∧ Hid (w2.heap.size ≤ wr.heap.size) ∧ Hid (Below w2.heap.size w2 wr))
  case atStart => exact ⟨0, none, 0, 0, fun _ => undef, by omega, rfl, rfl, Lib.hid (vown_nothing _ _ _ _ _ (Nat.le_refl _)), Lib.hid (fun i _ h => absurd h (by omega)), E, Lib.hid (Nat.le_refl _), Lib.hid (Below.refl _ _)⟩
  case round =>
    obtain ⟨E0, hE0⟩ : ∃ E0, E0 = E := ⟨_, rfl⟩
    clear hE0 E
    obtain ⟨j, p3, g3, c3, V3, hj, rfl, rfl, N3, I3, EM, SZ, B3⟩ := hrel
    obtain ⟨kk, rfl⟩ : ∃ kk : Nat, kk = gk := ⟨_, rfl⟩
    obtain ⟨wo, rfl⟩ : ∃ wo : World, wo = wr := ⟨_, rfl⟩
    by_cases hlt : j < n
    · have hlt' : ((j : Nat) : Int) < ((n : Nat) : Int) := by omega
      obtain rfl := RR.out.head (by omega)
      have ht : j < t.txs.length := by rw [← HN.out]; exact hlt
      obtain ⟨x, hx⟩ : ∃ x, x = t.txs[j] := ⟨_, rfl⟩
      have HX := Lib.hid hx
      have TC := Lib.hid ((TT.out j ht).below EM.out.below)
      have RJ := Lib.hid (RR.out.below EM.out.below)
      rw [← hx] at TC
      have E1 := Lib.hid (Mem.nil wo)
      clear hx
      go_wp2_with (first
        | ((with_reducible refine wpList_at 11 rfl ?_); refine wpList_ix (k := 4) (j := j) Tryd.underlying40 (by kernel_rfl) (.tmp 7) (.tmp 9) rfl rfl rfl rfl hlt rfl ?_)
        | ((with_reducible refine wpList_at 12 rfl ?_); refine wpList_ld 80 (.tmp 11) rfl rfl rfl (RJ.out.load hlt Tryd.underlying80 rfl (by kernel_rfl)) ?_)
        | ((with_reducible refine wpList_at 5 rfl ?_); refine mem_alloc E1 80 rfl rfl infoTx ?_; clear E1; intro b5 w4 E1)
        | ((with_reducible refine wpList_atn rfl ?_); refine mem_store_row 0 E1 80 rfl (.tmp 5) (.tmp 12) rfl rfl rfl rfl (by kernel_rfl) (by rw [arr_size]; rfl) (tx_one TC.out) ?_; clear E1; intro w5 E1; simp only [List.set_cons_zero, List.set_cons_succ] at E1)
        | ((with_reducible refine wpList_at 14 rfl ?_); refine mem_load_row E1 80 rfl (.tmp 5) rfl rfl List.mem_cons_self Tryd.underlying80 rfl (by simp only [arr_size]; kernel_rfl) ?_)
        | (go_at_call 46; refine (rcopy_any (Lib.hid (TC.out.below E1.out.below))).mono ?_; rintro e w6 ⟨Vn, rfl, O6, hb⟩; have TN := Lib.hid (O6.mono E1.out.below.size); replace E1 := Lib.hid (E1.out.call hb); clear hb O6)
        | ((with_reducible refine wpList_at 16 rfl ?_); refine wpList_vbs 40 80 4 1 rfl _ rfl Vn (one_arr TN.out.one) (by unfold maxLen; omega) (ps := #[(0, .agg (arr 4 Vn))]) (by kernel_rfl) (fun W => run_bs1 Tryd.underlying40 infoTx3 (by omega) (by omega) _ (arr_size _ _) W) (arr_vs _ _) ?_; intro p13 g13 w13 N13 hb13; replace E1 := Lib.hid (E1.out.call hb13.out); replace TN := Lib.hid (TN.out.below hb13.out); clear hb13)
        | (at_builtin; refine wpList_vapp 40 80 4 64 Tryd.underlying40 infoTx3 rfl (by omega) rfl (.tmp 13) (.tmp 16) rfl rfl (Lib.hid (N3.out.below E1.out.below)) rfl (Lib.hid N13.out.row) (by unfold maxLen; have := HLEN.out; omega) (by have := HLEN.out; omega) ?_; intro p14 g14 c14 w14 N14 hg14))
      have KT := Lib.hid (KeepT.of_grown (N3.out.below E1.out.below) hg14.out)
      have BG := Lib.hid ((N3.out.below E1.out.below).under hg14.out (Nat.le_refl _) (Nat.le_trans SZ.out E1.out.below.size))
      have B14 := Lib.hid ((B3.out.trans (E1.out.below.mono SZ.out)).trans BG.out)
      have I14 : Hid (∀ i (h : i < t.txs.length), i < j + 1 → TxOwn w2.heap.size w14 (fun y => vcat V3 (j * 4) Vn (i * 4 + y)) t.txs[i]) := Lib.hid (fun i h hi => by
        by_cases e : i = j
        · subst e
          rw [← HX.out]
          exact ((TN.out.mono SZ.out).keep KT.out (by decide) (by decide) (by decide) (by decide)).to fun y hy => vcat_hi.symm
        · exact (((I3.out i h (by omega)).below E1.out.below).keep KT.out (by decide) (by decide) (by decide) (by decide)).to fun y hy => (vcat_lo (by omega) hy).symm)
      have EMN := Lib.hid (E0.out.call B14.out)
      have SZN := Lib.hid (show w2.heap.size ≤ w14.heap.size from B14.out.size)
      clear KT hg14 N13 E1 TN
      go_roundg (n - (j + 1))
      case measure => omega
      case rel => exact ⟨j + 1, p14, g14, c14, _, by omega, by go_num, rfl, N14, I14, EMN, SZN, B14⟩
    · have hlt' : ¬ (((j : Nat) : Int) < ((n : Nat) : Int)) := by omega
      obtain rfl : j = n := by omega
      clear E0
      go_wp2_with (first
        | ((with_reducible refine wpList_atn rfl ?_); refine mem_store_cellk 1 EM 40 rfl (.tmp 20) (.tmp 19) rfl rfl rfl rfl (by kernel_rfl) rfl rfl (by rw [arr_size]; omega) ?_; clear EM; intro w12 EM KT; simp only [List.set_cons_zero, List.set_cons_succ, arr_ups] at EM)
        | ((with_reducible refine wpList_at 21 rfl ?_); refine mem_load_row EM 42 rfl (.tmp 1) rfl rfl (List.mem_cons_of_mem _ List.mem_cons_self) blk_is rfl (by simp only [arr_size]; kernel_rfl) ?_)
        | ((with_reducible refine wpList_atn rfl ?_); refine mem_store_rowk 0 EM 42 rfl (.tmp 2) (.tmp 21) rfl rfl rfl rfl (by kernel_rfl) (by rw [arr_size]; exact ZC.out) (all_of (fun i hi => by
            unfold ups
            split
            · rfl
            · exact ONES.out i hi)) ?_; clear EM; intro w14 EM KT2; simp only [List.set_cons_zero, List.set_cons_succ] at EM))
      refine bodyPost_ret (results_cell_row (fn := Tryd.f18) rfl _ _ b2 42 _ (0, 0) _ rfl (EM.out.get List.mem_cons_self) blk_is rfl (by rw [arr_size]; kernel_rfl)) rfl ⟨w2.heap.size, _, rfl, ?_, EM.out.below⟩
      refine ⟨fun k hk => by rw [ups_ne _ _ (by omega)]; exact A.out.hd k hk, A.out.ok, ?_⟩
      rw [ups_at, HN.out]
      exact ⟨p3, g3, c3, V3, rfl, by rw [← HN.out]; exact HLEN.out, by rw [← HN.out]; exact (N3.out.keep KT.out (by decide)).keep KT2.out (by decide), fun i h => ((I3.out i h (by rw [HN.out]; exact h)).keep KT.out (by decide) (by decide) (by decide) (by decide)).keep KT2.out (by decide) (by decide) (by decide) (by decide)⟩
end Go.Proofs.YtoopcmcmjaikhaaDoor

