/- Blocks in memory: a header's cells, then a slice of transactions; lists of transactions and blocks as arguments of a law. -/
import Derived.Test.YtgicnmfodbenlaaDoorTv
import Derived.Test.YtgicnmfodbenlaaDoorHa
set_option linter.unusedSimpArgs false
set_option maxRecDepth 100000
namespace Go.Proofs.YtgicnmfodbenlaaDoor
open Go.ChangeShapes Go.WideShapes Go.ChangeAt Go.RowKit Go.Lib Go.Deep

structure TBlk where
  hd : Hd
  txs : List TTx
def TxsAt (w : World) (v : Value) (ts : List TTx) : Prop :=
  ∃ p g o c V, v = .slice p ts.length c ∧ ts.length * 64 ≤ 140737488351232 ∧ VRow 4 w p g o ts.length c V ∧ ∀ i (h : i < ts.length), TxCells w (fun j => V (i * 4 + j)) ts[i]
/-- The 69 cells of a block. -/
structure BlkCells (w : World) (V : Nat → Value) (t : TBlk) : Prop where
  hd : ∀ j, j < 68 → V j = hc t.hd j
  ok : t.hd.Ok
  txs : TxsAt w (V 68) t.txs
def BlkAt (w : World) (v : Value) (t : TBlk) : Prop := ∃ V, v = .agg (arr 69 V) ∧ BlkCells w V t
section
variable {w w' : World} {V : Nat → Value} {v : Value}
theorem TxsAt.below {ts : List TTx} (h : TxsAt w v ts) (hb : Below w.heap.size w w') : TxsAt w' v ts := by
  obtain ⟨p, g, o, c, V, rfl, hc, R, hi⟩ := h
  exact ⟨p, g, o, c, V, rfl, hc, R.below hb, fun i h => (hi i h).below hb⟩
theorem BlkCells.below {t : TBlk} (h : BlkCells w V t) (hb : Below w.heap.size w w') : BlkCells w' V t := ⟨h.hd, h.ok, h.txs.below hb⟩
theorem BlkAt.below {t : TBlk} (h : BlkAt w v t) (hb : Below w.heap.size w w') : BlkAt w' v t := by
  obtain ⟨V, rfl, hc⟩ := h
  exact ⟨V, rfl, hc.below hb⟩
theorem TxsAt.one {ts : List TTx} (h : TxsAt w v ts) : v.oneCell' = true := by
  obtain ⟨p, g, o, c, V, rfl, _⟩ := h
  rfl
theorem TxsAt.len {ts : List TTx} (h : TxsAt w v ts) : ts.length * 64 ≤ 140737488351232 := by
  obtain ⟨p, g, o, c, V, rfl, hc, R, _⟩ := h
  exact hc
theorem TxCells.one {t : TTx} (h : TxCells w V t) : ∀ j, j < 4 → (V j).oneCell' = true := fun j hj => by
  have : j = 0 ∨ j = 1 ∨ j = 2 ∨ j = 3 := by omega
  rcases this with rfl | rfl | rfl | rfl
  · rw [h.ver]; rfl
  · obtain ⟨p, g, o, c, U, hv, _⟩ := h.ins
    rw [hv]; rfl
  · obtain ⟨p, g, o, c, U, hv, _⟩ := h.outs
    rw [hv]; rfl
  · rw [h.lock]; rfl
theorem TxCells.to {U : Nat → Value} {t : TTx} (h : TxCells w V t) (e : ∀ x, x < 4 → V x = U x) : TxCells w U t :=
  ⟨by rw [← e 0 (by omega)]; exact h.ver, h.verB, by rw [← e 1 (by omega)]; exact h.ins, by rw [← e 2 (by omega)]; exact h.outs, by rw [← e 3 (by omega)]; exact h.lock, h.lockB⟩
end
theorem hdr_fields' : (Tryd.prog.fieldsOf 26).toList.map (fun f => (f.type, f.offset)) = [(22, 0), (24, 1), (24, 33), (22, 65), (22, 66), (22, 67)] := by kernel_rfl
theorem hdr_is' : Tryd.prog.underlying 26 = some (.struct (Tryd.prog.fieldsOf 26)) := by kernel_rfl
theorem blk_fields : (Tryd.prog.fieldsOf 29).toList.map (fun f => (f.type, f.offset)) = [(26, 0), (27, 68)] := by kernel_rfl
theorem blk_is : Tryd.prog.underlying 29 = some (.struct (Tryd.prog.fieldsOf 29)) := by kernel_rfl
theorem cells_hdr : Tryd.prog.cellsOf 26 = 68 := by kernel_rfl
theorem cells_txl : Tryd.prog.cellsOf 27 = 1 := by kernel_rfl
theorem infoBlk : (Tryd.prog.info? 29).map (fun i => (i.size, i.bytes)) = some (69, 104) := by kernel_rfl
section
variable {H : Type} {enc : TypeId × Value → H} {W : World} {base : Nat}
theorem open_hdr' {fuel : Nat} {cs : List Value} {x : DataW H × List MemPlace} (h : DataW.trod enc Tryd.prog W base (fun _ => true) true fuel 26 cs = some x) (hl : Light x.1 26) : cs.length = 68 ∧ ∃ t : Hd, t.Ok ∧ ∀ j, j < 68 → cs.getD j undef = hc t j := by
  obtain ⟨_, _, _, _, hcl, _⟩ := DataW.trod_struct hdr_is' h
  rw [cells_hdr] at hcl
  obtain ⟨m0, y0, h0, l0⟩ := open_field hdr_is' hdr_fields' h hl (j := 0) rfl
  obtain ⟨m1, y1, h1, l1⟩ := open_field hdr_is' hdr_fields' h hl (j := 1) rfl
  obtain ⟨m2, y2, h2, l2⟩ := open_field hdr_is' hdr_fields' h hl (j := 2) rfl
  obtain ⟨m3, y3, h3, l3⟩ := open_field hdr_is' hdr_fields' h hl (j := 3) rfl
  obtain ⟨m4, y4, h4, l4⟩ := open_field hdr_is' hdr_fields' h hl (j := 4) rfl
  obtain ⟨m5, y5, h5, l5⟩ := open_field hdr_is' hdr_fields' h hl (j := 5) rfl
  rw [cells_32] at h0 h3 h4 h5
  rw [cells_h] at h1 h2
  obtain ⟨a0, b0, c0⟩ := open_u32' h0
  obtain ⟨_, a1, _, b1, c1⟩ := open_id' h1
  obtain ⟨_, a2, _, b2, c2⟩ := open_id' h2
  obtain ⟨a3, b3, c3⟩ := open_u32' h3
  obtain ⟨a4, b4, c4⟩ := open_u32' h4
  obtain ⟨a5, b5, c5⟩ := open_u32' h5
  refine ⟨hcl, ⟨a0, lf a1, lf a2, a3, a4, a5⟩, ⟨b0, b3, b4, b5, lf_lt b1, lf_lt b2⟩, fun j hj => ?_⟩
  have at_ : ∀ (o i : Nat) (y : Value), ((cs.drop o).take 32)[i]? = some y → cs.getD (o + i) undef = y := fun o i y h => by
    by_cases hi : i < 32
    · rw [List.getElem?_take, if_pos hi, List.getElem?_drop] at h
      rw [List.getD_eq_getElem?_getD, h]
      rfl
    · rw [List.getElem?_take, if_neg hi] at h
      cases h
  unfold hc
  repeat' split
  · subst j
    exact (drop_one c0).1
  · obtain ⟨k, rfl⟩ : ∃ k, j = 1 + k := ⟨j - 1, by omega⟩
    rw [at_ 1 k _ (c1 k (by omega)), Nat.add_sub_cancel_left]
    rfl
  · obtain ⟨k, rfl⟩ : ∃ k, j = 33 + k := ⟨j - 33, by omega⟩
    rw [at_ 33 k _ (c2 k (by omega)), Nat.add_sub_cancel_left]
    rfl
  · subst j
    exact (drop_one c3).1
  · subst j
    exact (drop_one c4).1
  · obtain rfl : j = 67 := by omega
    exact (drop_one c5).1
theorem open_txs' {fuel : Nat} {cs : List Value} {x : DataW H × List MemPlace} (h : DataW.trod enc Tryd.prog W base (fun _ => true) true fuel 27 cs = some x) (hl : Light x.1 27) : ∃ v t, cs = [v] ∧ TxsAt W v t :=
  open_rowsL (S := 27) (T := 44) (k := 4) (bytes := 64) (fun V t => TxCells W V t) ⟨0, [], [], 0⟩ Tryd.underlying27 (by kernel_rfl) (by omega) (by kernel_rfl) (fun V a h => h.one) (fun fuel cs x h hl => open_tx' h hl) (fun V U a h e => h.to e) h hl
theorem open_txs_arg {v : Value} {d : DataW H} {p : List MemPlace} {ts : List TypeId} {ds : List (DataW H)} {j : Nat} {b0 : Nat}
    (hv : Value.okWide Tryd.prog W .any b0 27 v) (hd : DataW.Trod enc Tryd.prog W base (fun _ => true) true 27 v d p)
    (hsz : (DataW.weightsEach Tryd.prog ts ds).all (· ≤ reachBytes) = true) (hts : ts[j]? = some 27) (hds : ds[j]? = some d) : ∃ t, TxsAt W v t := by
  obtain ⟨a, len, cap, rfl⟩ := okWide_slice Tryd.underlying27 hv
  obtain ⟨fuel, hf⟩ := hd
  obtain ⟨v, t, hcs, ht⟩ := open_txs' hf (light_of hsz hts hds)
  refine ⟨t, ?_⟩
  have e : [Value.slice a len cap] = [v] := by simpa [Value.cells] using hcs
  injection e with e
  rw [e]
  exact ht
theorem open_blk {v : Value} {d : DataW H} {p : List MemPlace} {ts : List TypeId} {ds : List (DataW H)} {j : Nat} {b0 : Nat}
    (hv : Value.okWide Tryd.prog W .any b0 29 v) (hd : DataW.Trod enc Tryd.prog W base (fun _ => true) true 29 v d p)
    (hsz : (DataW.weightsEach Tryd.prog ts ds).all (· ≤ reachBytes) = true) (hts : ts[j]? = some 29) (hds : ds[j]? = some d) : ∃ t, BlkAt W v t := by
  obtain ⟨cs, rfl, hsz2⟩ := okWide_struct blk_is hv
  obtain ⟨fuel, hf⟩ := hd
  have hl := light_of hsz hts hds
  obtain ⟨_, _, _, _, hcl, _⟩ := DataW.trod_struct blk_is hf
  have hC : Tryd.prog.cellsOf 29 = 69 := by kernel_rfl
  rw [hC] at hcl
  obtain ⟨m0, y0, h0, l0⟩ := open_field blk_is blk_fields hf hl (j := 0) rfl
  obtain ⟨m1, y1, h1, l1⟩ := open_field blk_is blk_fields hf hl (j := 1) rfl
  rw [cells_hdr, List.drop_zero] at h0
  rw [cells_txl] at h1
  obtain ⟨_, h, ok, hj⟩ := open_hdr' h0 l0
  obtain ⟨u, txs, c1, ht⟩ := open_txs' h1 l1
  refine ⟨⟨h, txs⟩, fun j => cs.toList.getD j undef, ?_, fun j hlt => ?_, ok, ?_⟩
  · congr 1
    apply Array.ext_getElem?
    intro i
    have h4 : cs.size = 69 := by simpa [Value.cells] using hcl
    rcases Nat.lt_or_ge i 69 with q | q
    · rw [arr_get 69 _ i q, List.getD_eq_getElem?_getD, Array.getElem?_toList, Array.getElem?_eq_getElem (by omega)]
      rfl
    · rw [Array.getElem?_eq_none (by omega), Array.getElem?_eq_none (by rw [arr_size]; exact q)]
  · have := hj j hlt
    rw [List.getD_eq_getElem?_getD, List.getElem?_take, if_pos hlt, ← List.getD_eq_getElem?_getD] at this
    exact this
  · have := (drop_one c1).1
    show TxsAt W (cs.toList.getD 68 undef) txs
    rw [show cs.toList.getD 68 undef = u from this]
    exact ht
end
end Go.Proofs.YtgicnmfodbenlaaDoor
