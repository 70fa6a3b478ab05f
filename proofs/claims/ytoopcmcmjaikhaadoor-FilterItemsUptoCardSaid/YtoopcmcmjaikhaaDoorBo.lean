/- Blocks in memory; a block as an argument of a law over plain data. -/
import Derived.Test.YtoopcmcmjaikhaaDoorTd
import Derived.Test.YtoopcmcmjaikhaaDoorHa
import Derived.Test.YtoopcmcmjaikhaaDoorLt2
set_option linter.unusedSimpArgs false
set_option linter.unusedVariables false
set_option maxRecDepth 100000
namespace Go.Proofs.YtoopcmcmjaikhaaDoor
open Go.ChangeShapes Go.WideShapes Go.ChangeAt Go.RowKit Go.Lib Go.Deep

section
variable {H : Type} {enc : TypeId × Value → H} {W : World} {base : Nat}
theorem open_u32' {fuel : Nat} {cs : List Value} {x : DataW H × List MemPlace} (h : DataW.trod enc Tryd.prog W base (fun _ => true) true fuel 26 cs = some x) : ∃ z : Nat, z < 4294967296 ∧ cs = [w32 z] := by
  obtain ⟨n, rfl, _, hw⟩ := DataW.trod_int Tryd.underlying26 h
  simp [Lit.wf, IntKind.min, IntKind.max, IntKind.bits, IntKind.signed] at hw
  exact ⟨n.toNat, by omega, by unfold w32; congr 2; omega⟩
theorem open_i64' {fuel : Nat} {cs : List Value} {x : DataW H × List MemPlace} (h : DataW.trod enc Tryd.prog W base (fun _ => true) true fuel 2 cs = some x) : ∃ z : Int, (-9223372036854775808 ≤ z ∧ z ≤ 9223372036854775807) ∧ cs = [.int .i64 z] := by
  obtain ⟨n, rfl, _, hw⟩ := DataW.trod_int Tryd.underlying2 h
  simp [Lit.wf, IntKind.min, IntKind.max, IntKind.bits, IntKind.signed] at hw
  exact ⟨n, by omega, rfl⟩
theorem field_at {T : TypeId} {L : List (TypeId × Nat)} (h : (Tryd.prog.fieldsOf T).toList.map (fun f => (f.type, f.offset)) = L) {j : Nat} {ty : TypeId} {o : Nat} (hj : L[j]? = some (ty, o)) : ∃ f, (Tryd.prog.fieldsOf T)[j]? = some f ∧ f.type = ty ∧ f.offset = o := by
  rw [← h, List.getElem?_map] at hj
  obtain ⟨f, hf, e⟩ := Option.map_eq_some_iff.1 hj
  refine ⟨f, by simpa using hf, ?_, ?_⟩
  · exact congrArg Prod.fst e
  · exact congrArg Prod.snd e
/-- A struct's field, with its reading. -/
theorem open_field {T : TypeId} {L : List (TypeId × Nat)} (hs : Tryd.prog.underlying T = some (.struct (Tryd.prog.fieldsOf T))) (h : (Tryd.prog.fieldsOf T).toList.map (fun f => (f.type, f.offset)) = L)
    {fuel : Nat} {cs : List Value} {x : DataW H × List MemPlace} (ht : DataW.trod enc Tryd.prog W base (fun _ => true) true fuel T cs = some x) (hl : Light x.1 T) {j : Nat} {ty : TypeId} {o : Nat} (hj : L[j]? = some (ty, o)) :
    ∃ m y, DataW.trod enc Tryd.prog W base (fun _ => true) true m ty ((cs.drop o).take (Tryd.prog.cellsOf ty)) = some y ∧ Light y.1 ty := by
  obtain ⟨f, hf, rfl, rfl⟩ := field_at h hj
  obtain ⟨xs, n, _, hx, _, hxl, hi⟩ := DataW.trod_struct hs ht
  have hjl : j < xs.length := by rw [hxl]; exact (Array.getElem?_eq_some_iff.1 hf).1
  have h1 := hi j f hf
  rw [List.getElem?_eq_getElem hjl] at h1
  refine ⟨n, _, h1, ?_⟩
  rw [hx] at hl
  exact light_struct hl hs hf (by rw [List.getElem?_map, List.getElem?_eq_getElem hjl]; rfl)
theorem drop_one {cs : List Value} {o : Nat} {v : Value} (h : (cs.drop o).take 1 = [v]) : cs.getD o undef = v ∧ o < cs.length := by
  have hl : o < cs.length := by
    rcases Nat.lt_or_ge o cs.length with q | q
    · exact q
    · rw [List.drop_eq_nil_of_le q] at h; cases h
  rw [List.drop_eq_getElem_cons hl] at h
  simp only [List.take_succ_cons, List.take_zero, List.cons.injEq, and_true] at h
  exact ⟨by rw [List.getD_eq_getElem?_getD, List.getElem?_eq_getElem hl, h]; rfl, hl⟩
theorem in_fields : (Tryd.prog.fieldsOf 121).toList.map (fun f => (f.type, f.offset)) = [(119, 0), (32, 33), (26, 34), (30, 35)] := by kernel_rfl
theorem in_is : Tryd.prog.underlying 121 = some (.struct (Tryd.prog.fieldsOf 121)) := by kernel_rfl
theorem pt_fields : (Tryd.prog.fieldsOf 119).toList.map (fun f => (f.type, f.offset)) = [(23, 0), (26, 32)] := by kernel_rfl
theorem pt_is : Tryd.prog.underlying 119 = some (.struct (Tryd.prog.fieldsOf 119)) := by kernel_rfl
theorem out_fields : (Tryd.prog.fieldsOf 83).toList.map (fun f => (f.type, f.offset)) = [(2, 0), (32, 1)] := by kernel_rfl
theorem out_is : Tryd.prog.underlying 83 = some (.struct (Tryd.prog.fieldsOf 83)) := by kernel_rfl
theorem tx_fields : (Tryd.prog.fieldsOf 80).toList.map (fun f => (f.type, f.offset)) = [(26, 0), (77, 1), (78, 2), (26, 3)] := by kernel_rfl
theorem tx_is : Tryd.prog.underlying 80 = some (.struct (Tryd.prog.fieldsOf 80)) := by kernel_rfl
theorem cells_b : Tryd.prog.cellsOf 32 = 1 := by kernel_rfl
theorem cells_bb : Tryd.prog.cellsOf 30 = 1 := by kernel_rfl
theorem cells_32 : Tryd.prog.cellsOf 26 = 1 := by kernel_rfl
theorem cells_ins : Tryd.prog.cellsOf 77 = 1 := by kernel_rfl
theorem cells_outs : Tryd.prog.cellsOf 78 = 1 := by kernel_rfl
theorem cells_2 : Tryd.prog.cellsOf 2 = 1 := by kernel_rfl
theorem cells_h : Tryd.prog.cellsOf 23 = 32 := by kernel_rfl
theorem cells_pt : Tryd.prog.cellsOf 119 = 33 := by kernel_rfl
theorem open_in' {fuel : Nat} {cs : List Value} {x : DataW H × List MemPlace} (h : DataW.trod enc Tryd.prog W base (fun _ => true) true fuel 121 cs = some x) (hl : Light x.1 121) : cs.length = 36 ∧ ∃ t, InCells W (fun j => cs.getD j undef) t := by
  obtain ⟨_, _, _, _, hcl, _⟩ := DataW.trod_struct in_is h
  have hC : Tryd.prog.cellsOf 121 = 36 := by kernel_rfl
  rw [hC] at hcl
  obtain ⟨m0, y0, h0, l0⟩ := open_field in_is in_fields h hl (j := 0) rfl
  obtain ⟨m1, y1, h1, l1⟩ := open_field in_is in_fields h hl (j := 1) rfl
  obtain ⟨m2, y2, h2, l2⟩ := open_field in_is in_fields h hl (j := 2) rfl
  obtain ⟨m3, y3, h3, l3⟩ := open_field in_is in_fields h hl (j := 3) rfl
  obtain ⟨n0, z0, e0, q0⟩ := open_field pt_is pt_fields h0 l0 (j := 0) rfl
  obtain ⟨n1, z1, e1, q1⟩ := open_field pt_is pt_fields h0 l0 (j := 1) rfl
  rw [cells_pt, List.drop_zero] at e0 e1
  rw [cells_h, List.drop_zero] at e0
  rw [cells_32] at e1 h2
  rw [cells_b] at h1
  rw [cells_bb] at h3
  obtain ⟨hl0, a, ha, hab, haj⟩ := open_id' e0
  obtain ⟨ix, hix, c1⟩ := open_u32' e1
  obtain ⟨v, s, c2, hs⟩ := open_text' h1 l1
  obtain ⟨sq, hsq, c3⟩ := open_u32' h2
  obtain ⟨u, ws, c4, hw⟩ := open_texts' h3 l3
  have d1 := drop_one c1
  refine ⟨hcl, ⟨a, ix, s, sq, ws⟩, ha, hab, fun j hj => ?_, ?_, hix, ?_, (drop_one c3).1, hsq, ?_⟩
  · have := haj j hj
    rw [List.getElem?_take, if_pos hj, List.getElem?_take, if_pos (by omega)] at this
    show cs.getD j undef = _
    rw [List.getD_eq_getElem?_getD, this]
    rfl
  · have := d1.1
    rw [List.getD_eq_getElem?_getD, List.getElem?_take, if_pos (by omega), ← List.getD_eq_getElem?_getD] at this
    exact this
  · show TextAt W (cs.getD 33 undef) s
    rw [(drop_one c2).1]
    exact hs
  · show TextsAt W (cs.getD 35 undef) ws
    rw [(drop_one c4).1]
    exact hw
theorem open_out' {fuel : Nat} {cs : List Value} {x : DataW H × List MemPlace} (h : DataW.trod enc Tryd.prog W base (fun _ => true) true fuel 83 cs = some x) (hl : Light x.1 83) : cs.length = 2 ∧ ∃ t, OutCells W (fun j => cs.getD j undef) t := by
  obtain ⟨_, _, _, _, hcl, _⟩ := DataW.trod_struct out_is h
  have hC : Tryd.prog.cellsOf 83 = 2 := by kernel_rfl
  rw [hC] at hcl
  obtain ⟨m0, y0, h0, l0⟩ := open_field out_is out_fields h hl (j := 0) rfl
  obtain ⟨m1, y1, h1, l1⟩ := open_field out_is out_fields h hl (j := 1) rfl
  rw [cells_2] at h0
  rw [cells_b] at h1
  obtain ⟨z, hz, c1⟩ := open_i64' h0
  obtain ⟨v, s, c2, hs⟩ := open_text' h1 l1
  refine ⟨hcl, ⟨z, s⟩, (drop_one c1).1, hz, ?_⟩
  show TextAt W (cs.getD 1 undef) s
  rw [(drop_one c2).1]
  exact hs
theorem InCells.to {V U : Nat → Value} {t : TIn} (h : InCells W V t) (e : ∀ x, x < 36 → V x = U x) : InCells W U t :=
  ⟨h.len, h.idB, fun j hj => by rw [← e j (by omega)]; exact h.id j hj, by rw [← e 32 (by omega)]; exact h.idx, h.idxB, by rw [← e 33 (by omega)]; exact h.sc, by rw [← e 34 (by omega)]; exact h.sq, h.sqB, by rw [← e 35 (by omega)]; exact h.wit⟩
theorem OutCells.to {V U : Nat → Value} {t : TOut} (h : OutCells W V t) (e : ∀ x, x < 2 → V x = U x) : OutCells W U t :=
  ⟨by rw [← e 0 (by omega)]; exact h.val, h.valB, by rw [← e 1 (by omega)]; exact h.sc⟩
theorem OutCells.one {V : Nat → Value} {t : TOut} (h : OutCells W V t) : ∀ j, j < 2 → (V j).oneCell' = true := fun j hj => by
  have : j = 0 ∨ j = 1 := by omega
  rcases this with rfl | rfl
  · rw [h.val]; rfl
  · exact h.sc.one
theorem tx_one {V : Nat → Value} {t : TTx} (h : TxCells W V t) : (arr 4 V).all (·.oneCell') = true := Array.all_eq_true_iff_forall_mem.2 fun v hv => by
  obtain ⟨j, hj, rfl⟩ := Array.getElem_of_mem hv
  rw [arr_size] at hj
  have e : (arr 4 V)[j]? = some (V j) := arr_get 4 V j hj
  rw [Array.getElem?_eq_getElem (by rw [arr_size]; exact hj)] at e
  injection e with e
  rw [e]
  have : j = 0 ∨ j = 1 ∨ j = 2 ∨ j = 3 := by omega
  rcases this with rfl | rfl | rfl | rfl
  · rw [h.ver]; rfl
  · obtain ⟨p, g, o, c, U, hv, _⟩ := h.ins
    rw [hv]; rfl
  · obtain ⟨p, g, o, c, U, hv, _⟩ := h.outs
    rw [hv]; rfl
  · rw [h.lock]; rfl
theorem open_tx' {fuel : Nat} {cs : List Value} {x : DataW H × List MemPlace} (h : DataW.trod enc Tryd.prog W base (fun _ => true) true fuel 80 cs = some x) (hl : Light x.1 80) : cs.length = 4 ∧ ∃ t, TxCells W (fun j => cs.getD j undef) t := by
  obtain ⟨_, _, _, _, hcl, _⟩ := DataW.trod_struct tx_is h
  have hC : Tryd.prog.cellsOf 80 = 4 := by kernel_rfl
  rw [hC] at hcl
  obtain ⟨m0, y0, h0, l0⟩ := open_field tx_is tx_fields h hl (j := 0) rfl
  obtain ⟨m1, y1, h1, l1⟩ := open_field tx_is tx_fields h hl (j := 1) rfl
  obtain ⟨m2, y2, h2, l2⟩ := open_field tx_is tx_fields h hl (j := 2) rfl
  obtain ⟨m3, y3, h3, l3⟩ := open_field tx_is tx_fields h hl (j := 3) rfl
  rw [cells_32] at h0 h3
  rw [cells_ins] at h1
  rw [cells_outs] at h2
  obtain ⟨a, ha, c0⟩ := open_u32' h0
  obtain ⟨b, hb, c3⟩ := open_u32' h3
  obtain ⟨v1, ins, c1, hi⟩ := open_rowsL (S := 77) (T := 121) (k := 36) (bytes := 96) (fun V t => InCells W V t) ⟨[], 0, [], 0, []⟩ Tryd.underlying77 (by kernel_rfl) (by omega) (by kernel_rfl) (fun V a h => h.one) (fun fuel cs x h hl => open_in' h hl) (fun V U a h e => h.to e) h1 l1
  obtain ⟨v2, outs, c2, ho⟩ := open_rowsL (S := 78) (T := 83) (k := 2) (bytes := 32) (fun V t => OutCells W V t) ⟨0, []⟩ Tryd.underlying78 (by kernel_rfl) (by omega) (by kernel_rfl) (fun V a h => h.one) (fun fuel cs x h hl => open_out' h hl) (fun V U a h e => h.to e) h2 l2
  refine ⟨hcl, ⟨a, ins, outs, b⟩, (drop_one c0).1, ha, ?_, ?_, (drop_one c3).1, hb⟩
  · show InsAt W (cs.getD 1 undef) ins
    rw [(drop_one c1).1]
    exact hi
  · show OutsAt W (cs.getD 2 undef) outs
    rw [(drop_one c2).1]
    exact ho
end
structure TBlk where
  hd : Hd
  txs : List TTx
def TxsAt (w : World) (v : Value) (ts : List TTx) : Prop :=
  ∃ p g o c V, v = .slice p ts.length c ∧ ts.length * 64 ≤ 140737488351232 ∧ VRow 4 w p g o ts.length c V ∧ ∀ i (h : i < ts.length), TxCells w (fun j => V (i * 4 + j)) ts[i]
/-- The 69 cells of a block. -/
structure BlkCells (w : World) (V : Nat → Value) (t : TBlk) : Prop where
  hd : ∀ j, j < 68 → V j = hc t.hd j
  ok : t.hd.Ok
  txs : TxsAt w (V 68) t.txs
def BlkAt (w : World) (v : Value) (t : TBlk) : Prop := ∃ V, v = .agg (arr 69 V) ∧ BlkCells w V t
section
variable {w w' : World} {V : Nat → Value} {v : Value}
theorem TxsAt.below {ts : List TTx} (h : TxsAt w v ts) (hb : Below w.heap.size w w') : TxsAt w' v ts := by
  obtain ⟨p, g, o, c, V, rfl, hc, R, hi⟩ := h
  exact ⟨p, g, o, c, V, rfl, hc, R.below hb, fun i h => (hi i h).below hb⟩
theorem BlkCells.below {t : TBlk} (h : BlkCells w V t) (hb : Below w.heap.size w w') : BlkCells w' V t := ⟨h.hd, h.ok, h.txs.below hb⟩
theorem BlkAt.below {t : TBlk} (h : BlkAt w v t) (hb : Below w.heap.size w w') : BlkAt w' v t := by
  obtain ⟨V, rfl, hc⟩ := h
  exact ⟨V, rfl, hc.below hb⟩
theorem TxsAt.one {ts : List TTx} (h : TxsAt w v ts) : v.oneCell' = true := by
  obtain ⟨p, g, o, c, V, rfl, _⟩ := h
  rfl
theorem TxsAt.len {ts : List TTx} (h : TxsAt w v ts) : ts.length * 64 ≤ 140737488351232 := by
  obtain ⟨p, g, o, c, V, rfl, hc, R, _⟩ := h
  exact hc
theorem TxCells.one {t : TTx} (h : TxCells w V t) : ∀ j, j < 4 → (V j).oneCell' = true := fun j hj => by
  have : j = 0 ∨ j = 1 ∨ j = 2 ∨ j = 3 := by omega
  rcases this with rfl | rfl | rfl | rfl
  · rw [h.ver]; rfl
  · obtain ⟨p, g, o, c, U, hv, _⟩ := h.ins
    rw [hv]; rfl
  · obtain ⟨p, g, o, c, U, hv, _⟩ := h.outs
    rw [hv]; rfl
  · rw [h.lock]; rfl
theorem TxCells.to {U : Nat → Value} {t : TTx} (h : TxCells w V t) (e : ∀ x, x < 4 → V x = U x) : TxCells w U t :=
  ⟨by rw [← e 0 (by omega)]; exact h.ver, h.verB, by rw [← e 1 (by omega)]; exact h.ins, by rw [← e 2 (by omega)]; exact h.outs, by rw [← e 3 (by omega)]; exact h.lock, h.lockB⟩
end
theorem hdr_fields' : (Tryd.prog.fieldsOf 28).toList.map (fun f => (f.type, f.offset)) = [(26, 0), (23, 1), (23, 33), (26, 65), (26, 66), (26, 67)] := by kernel_rfl
theorem hdr_is' : Tryd.prog.underlying 28 = some (.struct (Tryd.prog.fieldsOf 28)) := by kernel_rfl
theorem blk_fields : (Tryd.prog.fieldsOf 42).toList.map (fun f => (f.type, f.offset)) = [(28, 0), (40, 68)] := by kernel_rfl
theorem blk_is : Tryd.prog.underlying 42 = some (.struct (Tryd.prog.fieldsOf 42)) := by kernel_rfl
theorem cells_hdr : Tryd.prog.cellsOf 28 = 68 := by kernel_rfl
theorem cells_txl : Tryd.prog.cellsOf 40 = 1 := by kernel_rfl
theorem infoBlk : (Tryd.prog.info? 42).map (fun i => (i.size, i.bytes)) = some (69, 104) := by kernel_rfl
section
variable {H : Type} {enc : TypeId × Value → H} {W : World} {base : Nat}
theorem open_hdr' {fuel : Nat} {cs : List Value} {x : DataW H × List MemPlace} (h : DataW.trod enc Tryd.prog W base (fun _ => true) true fuel 28 cs = some x) (hl : Light x.1 28) : cs.length = 68 ∧ ∃ t : Hd, t.Ok ∧ ∀ j, j < 68 → cs.getD j undef = hc t j := by
  obtain ⟨_, _, _, _, hcl, _⟩ := DataW.trod_struct hdr_is' h
  rw [cells_hdr] at hcl
  obtain ⟨m0, y0, h0, l0⟩ := open_field hdr_is' hdr_fields' h hl (j := 0) rfl
  obtain ⟨m1, y1, h1, l1⟩ := open_field hdr_is' hdr_fields' h hl (j := 1) rfl
  obtain ⟨m2, y2, h2, l2⟩ := open_field hdr_is' hdr_fields' h hl (j := 2) rfl
  obtain ⟨m3, y3, h3, l3⟩ := open_field hdr_is' hdr_fields' h hl (j := 3) rfl
  obtain ⟨m4, y4, h4, l4⟩ := open_field hdr_is' hdr_fields' h hl (j := 4) rfl
  obtain ⟨m5, y5, h5, l5⟩ := open_field hdr_is' hdr_fields' h hl (j := 5) rfl
  rw [cells_32] at h0 h3 h4 h5
  rw [cells_h] at h1 h2
  obtain ⟨a0, b0, c0⟩ := open_u32' h0
  obtain ⟨_, a1, _, b1, c1⟩ := open_id' h1
  obtain ⟨_, a2, _, b2, c2⟩ := open_id' h2
  obtain ⟨a3, b3, c3⟩ := open_u32' h3
  obtain ⟨a4, b4, c4⟩ := open_u32' h4
  obtain ⟨a5, b5, c5⟩ := open_u32' h5
  refine ⟨hcl, ⟨a0, lf a1, lf a2, a3, a4, a5⟩, ⟨b0, b3, b4, b5, lf_lt b1, lf_lt b2⟩, fun j hj => ?_⟩
  have at_ : ∀ (o i : Nat) (y : Value), ((cs.drop o).take 32)[i]? = some y → cs.getD (o + i) undef = y := fun o i y h => by
    by_cases hi : i < 32
    · rw [List.getElem?_take, if_pos hi, List.getElem?_drop] at h
      rw [List.getD_eq_getElem?_getD, h]
      rfl
    · rw [List.getElem?_take, if_neg hi] at h
      cases h
  unfold hc
  repeat' split
  · subst j
    exact (drop_one c0).1
  · obtain ⟨k, rfl⟩ : ∃ k, j = 1 + k := ⟨j - 1, by omega⟩
    rw [at_ 1 k _ (c1 k (by omega)), Nat.add_sub_cancel_left]
    rfl
  · obtain ⟨k, rfl⟩ : ∃ k, j = 33 + k := ⟨j - 33, by omega⟩
    rw [at_ 33 k _ (c2 k (by omega)), Nat.add_sub_cancel_left]
    rfl
  · subst j
    exact (drop_one c3).1
  · subst j
    exact (drop_one c4).1
  · obtain rfl : j = 67 := by omega
    exact (drop_one c5).1
theorem open_txs' {fuel : Nat} {cs : List Value} {x : DataW H × List MemPlace} (h : DataW.trod enc Tryd.prog W base (fun _ => true) true fuel 40 cs = some x) (hl : Light x.1 40) : ∃ v t, cs = [v] ∧ TxsAt W v t :=
  open_rowsL (S := 40) (T := 80) (k := 4) (bytes := 64) (fun V t => TxCells W V t) ⟨0, [], [], 0⟩ Tryd.underlying40 (by kernel_rfl) (by omega) (by kernel_rfl) (fun V a h => h.one) (fun fuel cs x h hl => open_tx' h hl) (fun V U a h e => h.to e) h hl
theorem open_txs_arg {v : Value} {d : DataW H} {p : List MemPlace} {ts : List TypeId} {ds : List (DataW H)} {j : Nat} {b0 : Nat}
    (hv : Value.okWide Tryd.prog W .any b0 40 v) (hd : DataW.Trod enc Tryd.prog W base (fun _ => true) true 40 v d p)
    (hsz : (DataW.weightsEach Tryd.prog ts ds).all (· ≤ reachBytes) = true) (hts : ts[j]? = some 40) (hds : ds[j]? = some d) : ∃ t, TxsAt W v t := by
  obtain ⟨a, len, cap, rfl⟩ := okWide_slice Tryd.underlying40 hv
  obtain ⟨fuel, hf⟩ := hd
  obtain ⟨v, t, hcs, ht⟩ := open_txs' hf (light_of hsz hts hds)
  refine ⟨t, ?_⟩
  have e : [Value.slice a len cap] = [v] := by simpa [Value.cells] using hcs
  injection e with e
  rw [e]
  exact ht
theorem open_blk {v : Value} {d : DataW H} {p : List MemPlace} {ts : List TypeId} {ds : List (DataW H)} {j : Nat} {b0 : Nat}
    (hv : Value.okWide Tryd.prog W .any b0 42 v) (hd : DataW.Trod enc Tryd.prog W base (fun _ => true) true 42 v d p)
    (hsz : (DataW.weightsEach Tryd.prog ts ds).all (· ≤ reachBytes) = true) (hts : ts[j]? = some 42) (hds : ds[j]? = some d) : ∃ t, BlkAt W v t := by
  obtain ⟨cs, rfl, hsz2⟩ := okWide_struct blk_is hv
  obtain ⟨fuel, hf⟩ := hd
  have hl := light_of hsz hts hds
  obtain ⟨_, _, _, _, hcl, _⟩ := DataW.trod_struct blk_is hf
  have hC : Tryd.prog.cellsOf 42 = 69 := by kernel_rfl
  rw [hC] at hcl
  obtain ⟨m0, y0, h0, l0⟩ := open_field blk_is blk_fields hf hl (j := 0) rfl
  obtain ⟨m1, y1, h1, l1⟩ := open_field blk_is blk_fields hf hl (j := 1) rfl
  rw [cells_hdr, List.drop_zero] at h0
  rw [cells_txl] at h1
  obtain ⟨_, h, ok, hj⟩ := open_hdr' h0 l0
  obtain ⟨u, txs, c1, ht⟩ := open_txs' h1 l1
  refine ⟨⟨h, txs⟩, fun j => cs.toList.getD j undef, ?_, fun j hlt => ?_, ok, ?_⟩
  · congr 1
    apply Array.ext_getElem?
    intro i
    have h4 : cs.size = 69 := by simpa [Value.cells] using hcl
    rcases Nat.lt_or_ge i 69 with q | q
    · rw [arr_get 69 _ i q, List.getD_eq_getElem?_getD, Array.getElem?_toList, Array.getElem?_eq_getElem (by omega)]
      rfl
    · rw [Array.getElem?_eq_none (by omega), Array.getElem?_eq_none (by rw [arr_size]; exact q)]
  · have := hj j hlt
    rw [List.getD_eq_getElem?_getD, List.getElem?_take, if_pos hlt, ← List.getD_eq_getElem?_getD] at this
    exact this
  · have := (drop_one c1).1
    show TxsAt W (cs.toList.getD 68 undef) txs
    rw [show cs.toList.getD 68 undef = u from this]
    exact ht
end
end Go.Proofs.YtoopcmcmjaikhaaDoor
