/- A block as an argument of a law over plain data, and its outputs, bounded by its bulk. -/
import Derived.Test.YtoopcmcmjaikhaaDoorBo
set_option linter.unusedSimpArgs false
set_option linter.unusedVariables false
set_option maxRecDepth 100000
namespace Go.Proofs.YtoopcmcmjaikhaaDoor
open Go.ChangeShapes Go.WideShapes Go.ChangeAt Go.RowKit Go.Lib Go.Deep

theorem bulk_one {H : Type} (d : DataW H) : 1 ≤ Rows.uptoBulk d := by
  cases d with
  | lit l => cases l <;> simp [Rows.uptoBulk]
  | nil => simp [Rows.uptoBulk]
  | ptr d => simp [Rows.uptoBulk]
  | slice elems spare => simp [Rows.uptoBulk]
  | agg parts => simp [Rows.uptoBulk]
  | iface t d => simp [Rows.uptoBulk]
  | map entries => simp [Rows.uptoBulk]
  | held h => simp [Rows.uptoBulk]
theorem bulk_len {H : Type} (l : List (DataW H)) : l.length ≤ Rows.uptoBulkAll l := by
  induction l with
  | nil => simp [Rows.uptoBulkAll]
  | cons x r ih => have := bulk_one x; simp only [Rows.uptoBulkAll, List.length_cons]; omega
theorem bulk_part {H : Type} {d : DataW H} {l : List (DataW H)} (h : d ∈ l) : Rows.uptoBulk d ≤ Rows.uptoBulkAll l := by
  induction l with
  | nil => cases h
  | cons x r ih =>
    simp only [Rows.uptoBulkAll]
    cases List.mem_cons.1 h with
    | inl e => subst e; omega
    | inr e => have := ih e; omega
section
variable {H : Type} {enc : TypeId × Value → H} {W : World} {base : Nat}
theorem sum_one {α : Type} : ∀ l : List α, (l.map fun _ => 1).sum = l.length
  | [] => rfl
  | a :: l => by rw [List.map_cons, List.sum_cons, sum_one l, List.length_cons, Nat.add_comm]
theorem sum_bulk {α : Type} {μ : α → Nat} (f : Nat → α) (D : Nat → DataW H) : ∀ L : List Nat, (∀ i, i ∈ L → μ (f i) ≤ Rows.uptoBulk (D i)) → ((L.map f).map μ).sum ≤ Rows.uptoBulkAll (L.map D)
  | [], _ => by simp
  | i :: L, h => by
    have h1 := sum_bulk f D L fun q hq => h q (List.mem_cons_of_mem _ hq)
    have h2 := h i List.mem_cons_self
    simp only [List.map_cons, List.sum_cons, Rows.uptoBulkAll]
    omega
/-- Elements of a slice, each a row of k cells with a reading of its own. -/
theorem open_rowsM {S T k bytes : Nat} {α : Type} (EC : (Nat → Value) → α → Prop) (μ : α → Nat) (a0 : α) (hS : Tryd.prog.underlying S = some (.slice T)) (hC : Tryd.prog.cellsOf T = k) (hk : 0 < k) (hb : Tryd.prog.bytesOf T = bytes)
    (one : ∀ V a, EC V a → ∀ j, j < k → (V j).oneCell' = true)
    (el : ∀ (fuel : Nat) (cs : List Value) (x : DataW H × List MemPlace), DataW.trod enc Tryd.prog W base (fun _ => true) true fuel T cs = some x → Light x.1 T → cs.length = k ∧ ∃ a, EC (fun j => cs.getD j undef) a ∧ μ a ≤ Rows.uptoBulk x.1)
    (ext : ∀ V U a, EC V a → (∀ j, j < k → V j = U j) → EC U a)
    {fuel : Nat} {cs : List Value} {x : DataW H × List MemPlace} (h : DataW.trod enc Tryd.prog W base (fun _ => true) true fuel S cs = some x) (hl : Light x.1 S) :
    ∃ v l, cs = [v] ∧ ∃ p g o c V, v = .slice p (List.length l) c ∧ l.length * bytes ≤ 140737488351232 ∧ VRow k W p g o l.length c V ∧ (∀ i (h : i < l.length), EC (fun j => V (i * k + j)) l[i]) ∧ (l.map μ).sum ≤ Rows.uptoBulk x.1 := by
  rcases open_slice hS h with ⟨hcs, _⟩ | ⟨q, len, cap, m, n, D, Pl, hcs, _, hle, hm, hmm, hx, hi⟩
  · exact ⟨.slice none 0 0, [], hcs, none, 0, 0, 0, fun _ => undef, rfl, by simp, VRow.nothing _ _ _, fun i h => absurd h (by simp), by simp⟩
  · simp only [if_pos] at hmm
    subst hmm
    have hd' : x.1 = .slice ((List.range len).map D) ((List.range (m - len)).map fun j => D (len + j)) := by simpa using congrArg Prod.fst hx
    rw [hd'] at hl
    obtain ⟨hs, hl2⟩ := light_slice hl hS
    rw [hb] at hs
    simp only [List.length_map, List.length_range, reachBytes] at hs
    have key : ∀ i : Nat, ∃ r : (Nat → Value) × α, i < len → EC r.1 r.2 ∧ (∀ j, j < k → W.cell? ((q.add (i * k)).add j) = some (r.1 j)) ∧ μ r.2 ≤ Rows.uptoBulk (D i) := fun i => by
      by_cases hlt : i < len
      · obtain ⟨cs', hc, ht⟩ := hi i (by omega)
        rw [hC] at hc
        obtain ⟨hlen, a, ha, hmu⟩ := el _ _ _ ht (hl2 _ (List.mem_map.2 ⟨i, by simpa using hlt, rfl⟩))
        refine ⟨⟨fun j => cs'.getD j undef, a⟩, fun _ => ⟨ha, fun j hj => ?_, hmu⟩⟩
        obtain ⟨_, hcl, hat⟩ := World.cells?_some hc
        show W.cell? ((q.add (i * k)).add j) = some (cs'.getD j undef)
        rw [hat j hj, List.getD_eq_getElem?_getD, List.getElem?_eq_getElem (by omega)]
        rfl
      · exact ⟨⟨fun _ => undef, a0⟩, fun h => absurd h hlt⟩
    obtain ⟨r, hr⟩ := Classical.axiomOfChoice key
    have hq : 0 < len → q = ⟨q.block, q.off, none⟩ := fun h0 => by
      have h1 := (hr 0 h0).2.1 0 hk
      obtain ⟨b, o, s⟩ := q
      have hsp : s = none := by simpa [Addr.add] using World.cell?_spot h1
      subst hsp
      rfl
    refine ⟨_, (List.range len).map fun i => (r i).2, hcs, some q, q.block, q.off, m, fun i => (r (i / k)).1 (i % k), by simp, by
      have h1 : len * bytes ≤ (len + (m - len)) * bytes := Nat.mul_le_mul_right _ (by omega)
      simp only [List.length_map, List.length_range]
      omega, ?_, fun i hi' => ?_, ?_⟩
    · simp only [List.length_map, List.length_range]
      have div : ∀ i, i < len * k → i / k < len := fun i hi => (Nat.div_lt_iff_lt_mul hk).2 hi
      refine ⟨hle, hm, fun h => (by cases h), fun h0 => congrArg some (hq h0), fun i hi => ?_, fun i hi => one _ _ (hr _ (div i hi)).1 _ (Nat.mod_lt _ hk)⟩
      have h1 := (hr (i / k) (div i hi)).2.1 (i % k) (Nat.mod_lt _ hk)
      have h0 : 0 < len := Nat.lt_of_le_of_lt (Nat.zero_le _) (div i hi)
      rw [hq h0, row_add, row_add] at h1
      have e : q.off + i / k * k + i % k = q.off + i := by rw [Nat.add_assoc, Nat.mul_comm, Nat.div_add_mod]
      rw [e] at h1
      exact h1
    · simp only [List.length_map, List.length_range] at hi'
      rw [List.getElem_map, List.getElem_range]
      refine ext _ _ _ (hr i hi').1 fun j hj => ?_
      show (r i).1 j = (r ((i * k + j) / k)).1 ((i * k + j) % k)
      rw [Nat.mul_comm i k, Nat.mul_add_div hk, Nat.div_eq_of_lt hj, Nat.add_zero, Nat.mul_add_mod, Nat.mod_eq_of_lt hj]
    · rw [hd']
      have h1 := sum_bulk (μ := μ) (fun i => (r i).2) D (List.range len) fun i hi => (hr i (List.mem_range.1 hi)).2.2
      simp only [Rows.uptoBulk]
      omega
/-- A struct's field, with its reading. -/
theorem open_fieldM {T : TypeId} {L : List (TypeId × Nat)} (hs : Tryd.prog.underlying T = some (.struct (Tryd.prog.fieldsOf T))) (h : (Tryd.prog.fieldsOf T).toList.map (fun f => (f.type, f.offset)) = L)
    {fuel : Nat} {cs : List Value} {x : DataW H × List MemPlace} (ht : DataW.trod enc Tryd.prog W base (fun _ => true) true fuel T cs = some x) (hl : Light x.1 T) {j : Nat} {ty : TypeId} {o : Nat} (hj : L[j]? = some (ty, o)) :
    ∃ m y, DataW.trod enc Tryd.prog W base (fun _ => true) true m ty ((cs.drop o).take (Tryd.prog.cellsOf ty)) = some y ∧ Light y.1 ty ∧ Rows.uptoBulk y.1 ≤ Rows.uptoBulk x.1 := by
  obtain ⟨f, hf, rfl, rfl⟩ := field_at h hj
  obtain ⟨xs, n, _, hx, _, hxl, hi⟩ := DataW.trod_struct hs ht
  have hjl : j < xs.length := by rw [hxl]; exact (Array.getElem?_eq_some_iff.1 hf).1
  have h1 := hi j f hf
  rw [List.getElem?_eq_getElem hjl] at h1
  refine ⟨n, _, h1, ?_, ?_⟩
  · rw [hx] at hl
    exact light_struct hl hs hf (by rw [List.getElem?_map, List.getElem?_eq_getElem hjl]; rfl)
  · rw [hx]
    simp only [Rows.uptoBulk]
    exact Nat.le_trans (bulk_part (List.mem_map.2 ⟨_, List.getElem_mem hjl, rfl⟩)) (Nat.le_succ _)
theorem open_txM {fuel : Nat} {cs : List Value} {x : DataW H × List MemPlace} (h : DataW.trod enc Tryd.prog W base (fun _ => true) true fuel 80 cs = some x) (hl : Light x.1 80) : cs.length = 4 ∧ ∃ t, TxCells W (fun j => cs.getD j undef) t ∧ t.outs.length ≤ Rows.uptoBulk x.1 := by
  obtain ⟨_, _, _, _, hcl, _⟩ := DataW.trod_struct tx_is h
  have hC : Tryd.prog.cellsOf 80 = 4 := by kernel_rfl
  rw [hC] at hcl
  obtain ⟨m0, y0, h0, l0⟩ := open_field tx_is tx_fields h hl (j := 0) rfl
  obtain ⟨m1, y1, h1, l1⟩ := open_field tx_is tx_fields h hl (j := 1) rfl
  obtain ⟨m2, y2, h2, l2, b2⟩ := open_fieldM tx_is tx_fields h hl (j := 2) rfl
  obtain ⟨m3, y3, h3, l3⟩ := open_field tx_is tx_fields h hl (j := 3) rfl
  rw [cells_32] at h0 h3
  rw [cells_ins] at h1
  rw [cells_outs] at h2
  obtain ⟨a, ha, c0⟩ := open_u32' h0
  obtain ⟨b, hb, c3⟩ := open_u32' h3
  obtain ⟨v1, ins, c1, hi⟩ := open_rowsL (S := 77) (T := 121) (k := 36) (bytes := 96) (fun V t => InCells W V t) ⟨[], 0, [], 0, []⟩ Tryd.underlying77 (by kernel_rfl) (by omega) (by kernel_rfl) (fun V a h => h.one) (fun fuel cs x h hl => open_in' h hl) (fun V U a h e => h.to e) h1 l1
  obtain ⟨v2, outs, c2, p9, g9, o9, c9, V9, e9, n9, R9, I9, ho9⟩ := open_rowsM (S := 78) (T := 83) (k := 2) (bytes := 32) (fun V t => OutCells W V t) (fun _ => 1) ⟨0, []⟩ Tryd.underlying78 (by kernel_rfl) (by omega) (by kernel_rfl) (fun V a h => h.one) (fun fuel cs x h hl => by
    obtain ⟨e, t, ht⟩ := open_out' h hl
    exact ⟨e, t, ht, bulk_one _⟩) (fun V U a h e => h.to e) h2 l2
  have ho : OutsAt W v2 outs := ⟨p9, g9, o9, c9, V9, e9, n9, R9, I9⟩
  refine ⟨hcl, ⟨a, ins, outs, b⟩, ⟨(drop_one c0).1, ha, ?_, ?_, (drop_one c3).1, hb⟩, ?_⟩
  · show InsAt W (cs.getD 1 undef) ins
    rw [(drop_one c1).1]
    exact hi
  · show OutsAt W (cs.getD 2 undef) outs
    rw [(drop_one c2).1]
    exact ho
  · show outs.length ≤ _
    have h1 := sum_one outs
    omega
theorem open_blkM {v : Value} {d : DataW H} {p : List MemPlace} {ts : List TypeId} {ds : List (DataW H)} {j : Nat} {b0 : Nat}
    (hv : Value.okWide Tryd.prog W .any b0 42 v) (hd : DataW.Trod enc Tryd.prog W base (fun _ => true) true 42 v d p)
    (hsz : (DataW.weightsEach Tryd.prog ts ds).all (· ≤ reachBytes) = true) (hts : ts[j]? = some 42) (hds : ds[j]? = some d) : ∃ t, BlkAt W v t ∧ (t.txs.map fun t => t.outs.length).sum ≤ Rows.uptoBulk d := by
  obtain ⟨cs, rfl, hsz2⟩ := okWide_struct blk_is hv
  obtain ⟨fuel, hf⟩ := hd
  have hl := light_of hsz hts hds
  obtain ⟨_, _, _, _, hcl, _⟩ := DataW.trod_struct blk_is hf
  have hC : Tryd.prog.cellsOf 42 = 69 := by kernel_rfl
  rw [hC] at hcl
  obtain ⟨m0, y0, h0, l0⟩ := open_field blk_is blk_fields hf hl (j := 0) rfl
  obtain ⟨m1, y1, h1, l1, b1⟩ := open_fieldM blk_is blk_fields hf hl (j := 1) rfl
  rw [cells_hdr, List.drop_zero] at h0
  rw [cells_txl] at h1
  obtain ⟨_, h, ok, hj⟩ := open_hdr' h0 l0
  obtain ⟨u, txs, c1, p9, g9, o9, c9, V9, e9, n9, R9, I9, s9⟩ := open_rowsM (S := 40) (T := 80) (k := 4) (bytes := 64) (fun V t => TxCells W V t) (fun t => t.outs.length) ⟨0, [], [], 0⟩ Tryd.underlying40 (by kernel_rfl) (by omega) (by kernel_rfl) (fun V a h => h.one) (fun fuel cs x h hl => open_txM h hl) (fun V U a h e => h.to e) h1 l1
  have ht : TxsAt W u txs := ⟨p9, g9, o9, c9, V9, e9, n9, R9, I9⟩
  refine ⟨⟨h, txs⟩, ⟨fun j => cs.toList.getD j undef, ?_, fun j hlt => ?_, ok, ?_⟩, Nat.le_trans s9 b1⟩
  · congr 1
    apply Array.ext_getElem?
    intro i
    have h4 : cs.size = 69 := by simpa [Value.cells] using hcl
    rcases Nat.lt_or_ge i 69 with q | q
    · rw [arr_get 69 _ i q, List.getD_eq_getElem?_getD, Array.getElem?_toList, Array.getElem?_eq_getElem (by omega)]
      rfl
    · rw [Array.getElem?_eq_none (by omega), Array.getElem?_eq_none (by rw [arr_size]; exact q)]
  · have := hj j hlt
    rw [List.getD_eq_getElem?_getD, List.getElem?_take, if_pos hlt, ← List.getD_eq_getElem?_getD] at this
    exact this
  · have := (drop_one c1).1
    show TxsAt W (cs.toList.getD 68 undef) txs
    rw [show cs.toList.getD 68 undef = u from this]
    exact ht
end
end Go.Proofs.YtoopcmcmjaikhaaDoor
