/- Texts of ours, merged: Ta, Ha, Bd, Cb, Hb, Hc0. -/
import Derived.Test.YtfjpjhhkafkepaaDoorZA
import Derived.Deep.Slices
import Derived.Test.YtfjpjhhkafkepaaDoorZB
section
set_option linter.unusedSimpArgs false
set_option maxRecDepth 100000
namespace Go.Proofs.YtfjpjhhkafkepaaDoor
open Go.ChangeShapes Go.WideShapes Go.ChangeAt Go.RowKit Go.Lib Go.Deep

/-- No part of it weighs more than is in reach. -/
def Light {H : Type} (d : DataW H) (t : TypeId) : Prop := ∀ n, n ∈ d.weights Tryd.prog t → n ≤ reachBytes
theorem light_of {H : Type} {ts : List TypeId} {ds : List (DataW H)} (h : (DataW.weightsEach Tryd.prog ts ds).all (· ≤ reachBytes) = true) {j : Nat} {t : TypeId} {d : DataW H} (ht : ts[j]? = some t) (hd : ds[j]? = some d) : Light d t := fun n hn => by
  have := List.all_eq_true.1 h _ (DataW.weights_mem_each ht hd n hn)
  simpa using this
theorem mem_weightsAll {H : Type} {e : TypeId} {d : DataW H} : ∀ {l : List (DataW H)}, d ∈ l → ∀ n, n ∈ d.weights Tryd.prog e → n ∈ DataW.weightsAll Tryd.prog e l
  | [], h, _, _ => by cases h
  | x :: l, h, n, hn => by
    simp only [DataW.weightsAll, List.mem_append]
    rcases List.mem_cons.1 h with rfl | h
    · exact .inl hn
    · exact .inr (mem_weightsAll h n hn)
theorem light_slice {H : Type} {S e : TypeId} {elems spare : List (DataW H)} (h : Light (.slice elems spare) S) (hu : Tryd.prog.underlying S = some (.slice e)) : (elems.length + spare.length) * Tryd.prog.bytesOf e ≤ reachBytes ∧ ∀ d, d ∈ elems → Light d e := by
  refine ⟨h _ (by simp [DataW.weights, hu]), fun d hd n hn => h n ?_⟩
  simp only [DataW.weights, hu, List.mem_cons, List.mem_append]
  exact .inr (.inl (mem_weightsAll hd n hn))
theorem light_struct {H : Type} {T : TypeId} {fs : Array Field} {parts : List (DataW H)} (h : Light (.agg parts) T) (hu : Tryd.prog.underlying T = some (.struct fs)) {j : Nat} {f : Field} {d : DataW H} (hf : fs[j]? = some f) (hd : parts[j]? = some d) : Light d f.type := fun n hn => h n (by
  simp only [DataW.weights, hu]
  exact DataW.weights_mem_each (j := j) (by rw [List.getElem?_map, Array.getElem?_toList, hf]; rfl) hd n hn)
section
variable {H : Type} {enc : TypeId × Value → H} {W : World} {base : Nat}
theorem open_u8' {fuel : Nat} {cs : List Value} {x : DataW H × List MemPlace} (h : DataW.trod enc Tryd.prog W base (fun _ => true) true fuel 5 cs = some x) : ∃ z : Nat, z < 256 ∧ cs = [.int .u8 (z : Int)] := by
  obtain ⟨n, rfl, _, hw⟩ := DataW.trod_int Tryd.underlying5 h
  simp [Lit.wf, IntKind.min, IntKind.max, IntKind.bits, IntKind.signed] at hw
  exact ⟨n.toNat, by omega, by congr 2; omega⟩
theorem open_u32' {fuel : Nat} {cs : List Value} {x : DataW H × List MemPlace} (h : DataW.trod enc Tryd.prog W base (fun _ => true) true fuel 22 cs = some x) : ∃ z : Nat, z < 4294967296 ∧ cs = [w32 z] := by
  obtain ⟨n, rfl, _, hw⟩ := DataW.trod_int Tryd.underlying22 h
  simp [Lit.wf, IntKind.min, IntKind.max, IntKind.bits, IntKind.signed] at hw
  exact ⟨n.toNat, by omega, by unfold w32; congr 2; omega⟩
theorem open_i64' {fuel : Nat} {cs : List Value} {x : DataW H × List MemPlace} (h : DataW.trod enc Tryd.prog W base (fun _ => true) true fuel 2 cs = some x) : ∃ z : Int, (-9223372036854775808 ≤ z ∧ z ≤ 9223372036854775807) ∧ cs = [.int .i64 z] := by
  obtain ⟨n, rfl, _, hw⟩ := DataW.trod_int Tryd.underlying2 h
  simp [Lit.wf, IntKind.min, IntKind.max, IntKind.bits, IntKind.signed] at hw
  exact ⟨n, by omega, rfl⟩
theorem open_id' {fuel : Nat} {cs : List Value} {x : DataW H × List MemPlace} (h : DataW.trod enc Tryd.prog W base (fun _ => true) true fuel 24 cs = some x) : cs.length = 32 ∧ ∃ a : List Nat, a.length = 32 ∧ IsB a ∧ ∀ j, j < 32 → cs[j]? = some (byv (lf a j)) := by
  obtain ⟨xs, m, _, _, hl, hx, hi⟩ := DataW.trod_array Tryd.underlying24 h
  have hC : Tryd.prog.cellsOf 24 = 32 := by kernel_rfl
  rw [hC] at hl
  have key : ∀ i : Nat, ∃ z : Nat, z < 256 ∧ (i < 32 → cs[i]? = some (.int .u8 (z : Int))) := fun i => by
    by_cases h32 : i < 32
    · have h1 := hi i h32
      rw [cellsB, Nat.mul_one, List.getElem?_eq_getElem (by omega)] at h1
      obtain ⟨z, hz, e⟩ := open_u8' h1
      refine ⟨z, hz, fun _ => ?_⟩
      rw [List.drop_eq_getElem_cons (by omega)] at e
      simp only [List.take_succ_cons, List.take_zero, List.cons.injEq, and_true] at e
      rw [List.getElem?_eq_getElem (by omega), e]
    · exact ⟨0, by omega, fun h => absurd h h32⟩
  obtain ⟨f, hf⟩ := Classical.axiomOfChoice key
  refine ⟨hl, tl f 32, tl_length _ _, isB_tl (fun i => (hf i).1) 32, fun j hj => ?_⟩
  rw [lf_tl f hj]
  exact (hf j).2 hj
theorem open_text' {fuel : Nat} {cs : List Value} {x : DataW H × List MemPlace} (h : DataW.trod enc Tryd.prog W base (fun _ => true) true fuel 30 cs = some x) (hl : Light x.1 30) : ∃ v t, cs = [v] ∧ TextAt W v t := by
  rcases open_ints Tryd.underlying30 Tryd.underlying5 (by kernel_rfl) h with ⟨hcs, _⟩ | ⟨q, l, c, zs, hcs, _, hlc, hm, hz, hx, hcell, hwz⟩
  · exact ⟨.slice none 0 0, [], hcs, none, 0, 0, 0, rfl, by simp, Row.nothing _ _ (lf_lt isB_nil)⟩
  · have hz' : zs.length = c := by simpa using hz
    have hd' : x.1 = .slice (lits .u8 (zs.take l)) (lits .u8 (zs.drop l)) := by simpa using congrArg Prod.fst hx
    rw [hd'] at hl
    have hs := (light_slice hl Tryd.underlying30).1
    rw [b5] at hs
    simp only [lits, List.length_map, List.length_take, List.length_drop, reachBytes] at hs
    have hr := range_u8 hwz
    have R : Row W (some q) q.block q.off l c (fun i => (zs[i]?.getD 0).toNat) := ⟨hlc, by unfold maxLen; omega, fun h => (by cases h), fun h0 => by
      have h1 := hcell 0 (by omega)
      obtain ⟨b, o, s⟩ := q
      have hsp : s = none := by simpa [Addr.add] using World.cell?_spot h1
      subst hsp
      rfl, fun i hi => by
      have h1 := hcell i (by omega)
      have h0 := hcell 0 (by omega)
      have hri := hr i
      obtain ⟨b, o, s⟩ := q
      have hsp : s = none := by simpa [Addr.add] using World.cell?_spot h0
      subst hsp
      rw [row_add] at h1
      rw [Int.toNat_of_nonneg hri.1]
      simpa using h1, fun i => by have := hr i; omega⟩
    refine ⟨_, tl (fun i => (zs[i]?.getD 0).toNat) l, hcs, some q, q.block, q.off, c, by rw [tl_length], by rw [tl_length]; omega, R.tl⟩
/-- Elements of a slice, each a row of k cells with a reading of its own. -/
theorem open_rowsL {S T k bytes : Nat} {α : Type} (EC : (Nat → Value) → α → Prop) (a0 : α) (hS : Tryd.prog.underlying S = some (.slice T)) (hC : Tryd.prog.cellsOf T = k) (hk : 0 < k) (hb : Tryd.prog.bytesOf T = bytes)
    (one : ∀ V a, EC V a → ∀ j, j < k → (V j).oneCell' = true)
    (el : ∀ (fuel : Nat) (cs : List Value) (x : DataW H × List MemPlace), DataW.trod enc Tryd.prog W base (fun _ => true) true fuel T cs = some x → Light x.1 T → cs.length = k ∧ ∃ a, EC (fun j => cs.getD j undef) a)
    (ext : ∀ V U a, EC V a → (∀ j, j < k → V j = U j) → EC U a)
    {fuel : Nat} {cs : List Value} {x : DataW H × List MemPlace} (h : DataW.trod enc Tryd.prog W base (fun _ => true) true fuel S cs = some x) (hl : Light x.1 S) :
    ∃ v l, cs = [v] ∧ ∃ p g o c V, v = .slice p (List.length l) c ∧ l.length * bytes ≤ 140737488351232 ∧ VRow k W p g o l.length c V ∧ ∀ i (h : i < l.length), EC (fun j => V (i * k + j)) l[i] := by
  rcases open_slice hS h with ⟨hcs, _⟩ | ⟨q, len, cap, m, n, D, Pl, hcs, _, hle, hm, hmm, hx, hi⟩
  · exact ⟨.slice none 0 0, [], hcs, none, 0, 0, 0, fun _ => undef, rfl, by simp, VRow.nothing _ _ _, fun i h => absurd h (by simp)⟩
  · simp only [if_pos] at hmm
    subst hmm
    have hd' : x.1 = .slice ((List.range len).map D) ((List.range (m - len)).map fun j => D (len + j)) := by simpa using congrArg Prod.fst hx
    rw [hd'] at hl
    obtain ⟨hs, hl2⟩ := light_slice hl hS
    rw [hb] at hs
    simp only [List.length_map, List.length_range, reachBytes] at hs
    have key : ∀ i : Nat, ∃ r : (Nat → Value) × α, i < len → EC r.1 r.2 ∧ ∀ j, j < k → W.cell? ((q.add (i * k)).add j) = some (r.1 j) := fun i => by
      by_cases hlt : i < len
      · obtain ⟨cs', hc, ht⟩ := hi i (by omega)
        rw [hC] at hc
        obtain ⟨hlen, a, ha⟩ := el _ _ _ ht (hl2 _ (List.mem_map.2 ⟨i, by simpa using hlt, rfl⟩))
        refine ⟨⟨fun j => cs'.getD j undef, a⟩, fun _ => ⟨ha, fun j hj => ?_⟩⟩
        obtain ⟨_, hcl, hat⟩ := World.cells?_some hc
        show W.cell? ((q.add (i * k)).add j) = some (cs'.getD j undef)
        rw [hat j hj, List.getD_eq_getElem?_getD, List.getElem?_eq_getElem (by omega)]
        rfl
      · exact ⟨⟨fun _ => undef, a0⟩, fun h => absurd h hlt⟩
    obtain ⟨r, hr⟩ := Classical.axiomOfChoice key
    have hq : 0 < len → q = ⟨q.block, q.off, none⟩ := fun h0 => by
      have h1 := (hr 0 h0).2 0 hk
      obtain ⟨b, o, s⟩ := q
      have hsp : s = none := by simpa [Addr.add] using World.cell?_spot h1
      subst hsp
      rfl
    refine ⟨_, (List.range len).map fun i => (r i).2, hcs, some q, q.block, q.off, m, fun i => (r (i / k)).1 (i % k), by simp, by
      have h1 : len * bytes ≤ (len + (m - len)) * bytes := Nat.mul_le_mul_right _ (by omega)
      simp only [List.length_map, List.length_range]
      omega, ?_, fun i hi' => ?_⟩
    · simp only [List.length_map, List.length_range]
      have div : ∀ i, i < len * k → i / k < len := fun i hi => (Nat.div_lt_iff_lt_mul hk).2 hi
      refine ⟨hle, hm, fun h => (by cases h), fun h0 => congrArg some (hq h0), fun i hi => ?_, fun i hi => one _ _ (hr _ (div i hi)).1 _ (Nat.mod_lt _ hk)⟩
      have h1 := (hr (i / k) (div i hi)).2 (i % k) (Nat.mod_lt _ hk)
      have h0 : 0 < len := Nat.lt_of_le_of_lt (Nat.zero_le _) (div i hi)
      rw [hq h0, row_add, row_add] at h1
      have e : q.off + i / k * k + i % k = q.off + i := by rw [Nat.add_assoc, Nat.mul_comm, Nat.div_add_mod]
      rw [e] at h1
      exact h1
    · simp only [List.length_map, List.length_range] at hi'
      rw [List.getElem_map, List.getElem_range]
      refine ext _ _ _ (hr i hi').1 fun j hj => ?_
      show (r i).1 j = (r ((i * k + j) / k)).1 ((i * k + j) % k)
      rw [Nat.mul_comm i k, Nat.mul_add_div hk, Nat.div_eq_of_lt hj, Nat.add_zero, Nat.mul_add_mod, Nat.mod_eq_of_lt hj]
theorem open_texts' {fuel : Nat} {cs : List Value} {x : DataW H × List MemPlace} (h : DataW.trod enc Tryd.prog W base (fun _ => true) true fuel 73 cs = some x) (hl : Light x.1 73) : ∃ v t, cs = [v] ∧ TextsAt W v t := by
  obtain ⟨v, l, hcs, p, g, o, c, V, hv, hb, R, hi⟩ := open_rowsL (S := 73) (T := 30) (k := 1) (bytes := 24) (fun V t => TextAt W (V 0) t) [] Tryd.underlying73 (by kernel_rfl) (by omega) (by kernel_rfl)
    (fun V a h j hj => by obtain rfl : j = 0 := by omega
                          exact h.one)
    (fun fuel cs x h hl => by
      obtain ⟨v, t, rfl, ht⟩ := open_text' h hl
      exact ⟨rfl, t, ht⟩)
    (fun V U a h e => by rw [← e 0 (by omega)]; exact h) h hl
  exact ⟨v, l, hcs, p, g, o, c, V, hv, hb, R, fun i h => by
    have h1 : TextAt W (V (i * 1 + 0)) l[i] := hi i h
    rwa [Nat.mul_one, Nat.add_zero] at h1⟩
theorem field_at {T : TypeId} {L : List (TypeId × Nat)} (h : (Tryd.prog.fieldsOf T).toList.map (fun f => (f.type, f.offset)) = L) {j : Nat} {ty : TypeId} {o : Nat} (hj : L[j]? = some (ty, o)) : ∃ f, (Tryd.prog.fieldsOf T)[j]? = some f ∧ f.type = ty ∧ f.offset = o := by
  rw [← h, List.getElem?_map] at hj
  obtain ⟨f, hf, e⟩ := Option.map_eq_some_iff.1 hj
  refine ⟨f, by simpa using hf, ?_, ?_⟩
  · exact congrArg Prod.fst e
  · exact congrArg Prod.snd e
/-- A struct's field, with its reading. -/
theorem open_field {T : TypeId} {L : List (TypeId × Nat)} (hs : Tryd.prog.underlying T = some (.struct (Tryd.prog.fieldsOf T))) (h : (Tryd.prog.fieldsOf T).toList.map (fun f => (f.type, f.offset)) = L)
    {fuel : Nat} {cs : List Value} {x : DataW H × List MemPlace} (ht : DataW.trod enc Tryd.prog W base (fun _ => true) true fuel T cs = some x) (hl : Light x.1 T) {j : Nat} {ty : TypeId} {o : Nat} (hj : L[j]? = some (ty, o)) :
    ∃ m y, DataW.trod enc Tryd.prog W base (fun _ => true) true m ty ((cs.drop o).take (Tryd.prog.cellsOf ty)) = some y ∧ Light y.1 ty := by
  obtain ⟨f, hf, rfl, rfl⟩ := field_at h hj
  obtain ⟨xs, n, _, hx, _, hxl, hi⟩ := DataW.trod_struct hs ht
  have hjl : j < xs.length := by rw [hxl]; exact (Array.getElem?_eq_some_iff.1 hf).1
  have h1 := hi j f hf
  rw [List.getElem?_eq_getElem hjl] at h1
  refine ⟨n, _, h1, ?_⟩
  rw [hx] at hl
  exact light_struct hl hs hf (by rw [List.getElem?_map, List.getElem?_eq_getElem hjl]; rfl)
theorem drop_one {cs : List Value} {o : Nat} {v : Value} (h : (cs.drop o).take 1 = [v]) : cs.getD o undef = v ∧ o < cs.length := by
  have hl : o < cs.length := by
    rcases Nat.lt_or_ge o cs.length with q | q
    · exact q
    · rw [List.drop_eq_nil_of_le q] at h; cases h
  rw [List.drop_eq_getElem_cons hl] at h
  simp only [List.take_succ_cons, List.take_zero, List.cons.injEq, and_true] at h
  exact ⟨by rw [List.getD_eq_getElem?_getD, List.getElem?_eq_getElem hl, h]; rfl, hl⟩
theorem in_fields : (Tryd.prog.fieldsOf 75).toList.map (fun f => (f.type, f.offset)) = [(72, 0), (30, 33), (22, 34), (73, 35)] := by kernel_rfl
theorem in_is : Tryd.prog.underlying 75 = some (.struct (Tryd.prog.fieldsOf 75)) := by kernel_rfl
theorem pt_fields : (Tryd.prog.fieldsOf 72).toList.map (fun f => (f.type, f.offset)) = [(24, 0), (22, 32)] := by kernel_rfl
theorem pt_is : Tryd.prog.underlying 72 = some (.struct (Tryd.prog.fieldsOf 72)) := by kernel_rfl
theorem out_fields : (Tryd.prog.fieldsOf 77).toList.map (fun f => (f.type, f.offset)) = [(2, 0), (30, 1)] := by kernel_rfl
theorem out_is : Tryd.prog.underlying 77 = some (.struct (Tryd.prog.fieldsOf 77)) := by kernel_rfl
theorem tx_fields : (Tryd.prog.fieldsOf 58).toList.map (fun f => (f.type, f.offset)) = [(22, 0), (55, 1), (56, 2), (22, 3)] := by kernel_rfl
theorem tx_is : Tryd.prog.underlying 58 = some (.struct (Tryd.prog.fieldsOf 58)) := by kernel_rfl
theorem cells_b : Tryd.prog.cellsOf 30 = 1 := by kernel_rfl
theorem cells_bb : Tryd.prog.cellsOf 73 = 1 := by kernel_rfl
theorem cells_32 : Tryd.prog.cellsOf 22 = 1 := by kernel_rfl
theorem cells_ins : Tryd.prog.cellsOf 55 = 1 := by kernel_rfl
theorem cells_outs : Tryd.prog.cellsOf 56 = 1 := by kernel_rfl
theorem cells_2 : Tryd.prog.cellsOf 2 = 1 := by kernel_rfl
theorem cells_h : Tryd.prog.cellsOf 24 = 32 := by kernel_rfl
theorem cells_pt : Tryd.prog.cellsOf 72 = 33 := by kernel_rfl
theorem open_in' {fuel : Nat} {cs : List Value} {x : DataW H × List MemPlace} (h : DataW.trod enc Tryd.prog W base (fun _ => true) true fuel 75 cs = some x) (hl : Light x.1 75) : cs.length = 36 ∧ ∃ t, InCells W (fun j => cs.getD j undef) t := by
  obtain ⟨_, _, _, _, hcl, _⟩ := DataW.trod_struct in_is h
  have hC : Tryd.prog.cellsOf 75 = 36 := by kernel_rfl
  rw [hC] at hcl
  obtain ⟨m0, y0, h0, l0⟩ := open_field in_is in_fields h hl (j := 0) rfl
  obtain ⟨m1, y1, h1, l1⟩ := open_field in_is in_fields h hl (j := 1) rfl
  obtain ⟨m2, y2, h2, l2⟩ := open_field in_is in_fields h hl (j := 2) rfl
  obtain ⟨m3, y3, h3, l3⟩ := open_field in_is in_fields h hl (j := 3) rfl
  obtain ⟨n0, z0, e0, q0⟩ := open_field pt_is pt_fields h0 l0 (j := 0) rfl
  obtain ⟨n1, z1, e1, q1⟩ := open_field pt_is pt_fields h0 l0 (j := 1) rfl
  rw [cells_pt, List.drop_zero] at e0 e1
  rw [cells_h, List.drop_zero] at e0
  rw [cells_32] at e1 h2
  rw [cells_b] at h1
  rw [cells_bb] at h3
  obtain ⟨hl0, a, ha, hab, haj⟩ := open_id' e0
  obtain ⟨ix, hix, c1⟩ := open_u32' e1
  obtain ⟨v, s, c2, hs⟩ := open_text' h1 l1
  obtain ⟨sq, hsq, c3⟩ := open_u32' h2
  obtain ⟨u, ws, c4, hw⟩ := open_texts' h3 l3
  have d1 := drop_one c1
  refine ⟨hcl, ⟨a, ix, s, sq, ws⟩, ha, hab, fun j hj => ?_, ?_, hix, ?_, (drop_one c3).1, hsq, ?_⟩
  · have := haj j hj
    rw [List.getElem?_take, if_pos hj, List.getElem?_take, if_pos (by omega)] at this
    show cs.getD j undef = _
    rw [List.getD_eq_getElem?_getD, this]
    rfl
  · have := d1.1
    rw [List.getD_eq_getElem?_getD, List.getElem?_take, if_pos (by omega), ← List.getD_eq_getElem?_getD] at this
    exact this
  · show TextAt W (cs.getD 33 undef) s
    rw [(drop_one c2).1]
    exact hs
  · show TextsAt W (cs.getD 35 undef) ws
    rw [(drop_one c4).1]
    exact hw
theorem open_out' {fuel : Nat} {cs : List Value} {x : DataW H × List MemPlace} (h : DataW.trod enc Tryd.prog W base (fun _ => true) true fuel 77 cs = some x) (hl : Light x.1 77) : cs.length = 2 ∧ ∃ t, OutCells W (fun j => cs.getD j undef) t := by
  obtain ⟨_, _, _, _, hcl, _⟩ := DataW.trod_struct out_is h
  have hC : Tryd.prog.cellsOf 77 = 2 := by kernel_rfl
  rw [hC] at hcl
  obtain ⟨m0, y0, h0, l0⟩ := open_field out_is out_fields h hl (j := 0) rfl
  obtain ⟨m1, y1, h1, l1⟩ := open_field out_is out_fields h hl (j := 1) rfl
  rw [cells_2] at h0
  rw [cells_b] at h1
  obtain ⟨z, hz, c1⟩ := open_i64' h0
  obtain ⟨v, s, c2, hs⟩ := open_text' h1 l1
  refine ⟨hcl, ⟨z, s⟩, (drop_one c1).1, hz, ?_⟩
  show TextAt W (cs.getD 1 undef) s
  rw [(drop_one c2).1]
  exact hs
theorem InCells.to {V U : Nat → Value} {t : TIn} (h : InCells W V t) (e : ∀ x, x < 36 → V x = U x) : InCells W U t :=
  ⟨h.len, h.idB, fun j hj => by rw [← e j (by omega)]; exact h.id j hj, by rw [← e 32 (by omega)]; exact h.idx, h.idxB, by rw [← e 33 (by omega)]; exact h.sc, by rw [← e 34 (by omega)]; exact h.sq, h.sqB, by rw [← e 35 (by omega)]; exact h.wit⟩
theorem OutCells.to {V U : Nat → Value} {t : TOut} (h : OutCells W V t) (e : ∀ x, x < 2 → V x = U x) : OutCells W U t :=
  ⟨by rw [← e 0 (by omega)]; exact h.val, h.valB, by rw [← e 1 (by omega)]; exact h.sc⟩
theorem OutCells.one {V : Nat → Value} {t : TOut} (h : OutCells W V t) : ∀ j, j < 2 → (V j).oneCell' = true := fun j hj => by
  have : j = 0 ∨ j = 1 := by omega
  rcases this with rfl | rfl
  · rw [h.val]; rfl
  · exact h.sc.one
theorem tx_one {V : Nat → Value} {t : TTx} (h : TxCells W V t) : (arr 4 V).all (·.oneCell') = true := Array.all_eq_true_iff_forall_mem.2 fun v hv => by
  obtain ⟨j, hj, rfl⟩ := Array.getElem_of_mem hv
  rw [arr_size] at hj
  have e : (arr 4 V)[j]? = some (V j) := arr_get 4 V j hj
  rw [Array.getElem?_eq_getElem (by rw [arr_size]; exact hj)] at e
  injection e with e
  rw [e]
  have : j = 0 ∨ j = 1 ∨ j = 2 ∨ j = 3 := by omega
  rcases this with rfl | rfl | rfl | rfl
  · rw [h.ver]; rfl
  · obtain ⟨p, g, o, c, U, hv, _⟩ := h.ins
    rw [hv]; rfl
  · obtain ⟨p, g, o, c, U, hv, _⟩ := h.outs
    rw [hv]; rfl
  · rw [h.lock]; rfl
theorem open_tx' {fuel : Nat} {cs : List Value} {x : DataW H × List MemPlace} (h : DataW.trod enc Tryd.prog W base (fun _ => true) true fuel 58 cs = some x) (hl : Light x.1 58) : cs.length = 4 ∧ ∃ t, TxCells W (fun j => cs.getD j undef) t := by
  obtain ⟨_, _, _, _, hcl, _⟩ := DataW.trod_struct tx_is h
  have hC : Tryd.prog.cellsOf 58 = 4 := by kernel_rfl
  rw [hC] at hcl
  obtain ⟨m0, y0, h0, l0⟩ := open_field tx_is tx_fields h hl (j := 0) rfl
  obtain ⟨m1, y1, h1, l1⟩ := open_field tx_is tx_fields h hl (j := 1) rfl
  obtain ⟨m2, y2, h2, l2⟩ := open_field tx_is tx_fields h hl (j := 2) rfl
  obtain ⟨m3, y3, h3, l3⟩ := open_field tx_is tx_fields h hl (j := 3) rfl
  rw [cells_32] at h0 h3
  rw [cells_ins] at h1
  rw [cells_outs] at h2
  obtain ⟨a, ha, c0⟩ := open_u32' h0
  obtain ⟨b, hb, c3⟩ := open_u32' h3
  obtain ⟨v1, ins, c1, hi⟩ := open_rowsL (S := 55) (T := 75) (k := 36) (bytes := 96) (fun V t => InCells W V t) ⟨[], 0, [], 0, []⟩ Tryd.underlying55 (by kernel_rfl) (by omega) (by kernel_rfl) (fun V a h => h.one) (fun fuel cs x h hl => open_in' h hl) (fun V U a h e => h.to e) h1 l1
  obtain ⟨v2, outs, c2, ho⟩ := open_rowsL (S := 56) (T := 77) (k := 2) (bytes := 32) (fun V t => OutCells W V t) ⟨0, []⟩ Tryd.underlying56 (by kernel_rfl) (by omega) (by kernel_rfl) (fun V a h => h.one) (fun fuel cs x h hl => open_out' h hl) (fun V U a h e => h.to e) h2 l2
  refine ⟨hcl, ⟨a, ins, outs, b⟩, (drop_one c0).1, ha, ?_, ?_, (drop_one c3).1, hb⟩
  · show InsAt W (cs.getD 1 undef) ins
    rw [(drop_one c1).1]
    exact hi
  · show OutsAt W (cs.getD 2 undef) outs
    rw [(drop_one c2).1]
    exact ho
theorem open_tx {v : Value} {d : DataW H} {p : List MemPlace} {ts : List TypeId} {ds : List (DataW H)} {j : Nat} {b0 : Nat}
    (hv : Value.okWide Tryd.prog W .any b0 58 v) (hd : DataW.Trod enc Tryd.prog W base (fun _ => true) true 58 v d p)
    (hsz : (DataW.weightsEach Tryd.prog ts ds).all (· ≤ reachBytes) = true) (hts : ts[j]? = some 58) (hds : ds[j]? = some d) : ∃ t, TxAt W v t := by
  obtain ⟨cs, rfl, hsz2⟩ := okWide_struct tx_is hv
  obtain ⟨fuel, hf⟩ := hd
  obtain ⟨hcl, t, ht⟩ := open_tx' hf (light_of hsz hts hds)
  refine ⟨t, fun j => cs.toList.getD j undef, ?_, ht⟩
  congr 1
  apply Array.ext_getElem?
  intro i
  have h4 : cs.size = 4 := by simpa [Value.cells] using hcl
  rcases Nat.lt_or_ge i 4 with q | q
  · rw [arr_get 4 _ i q, List.getD_eq_getElem?_getD, Array.getElem?_toList, Array.getElem?_eq_getElem (by omega)]
    rfl
  · rw [Array.getElem?_eq_none (by omega), Array.getElem?_eq_none (by rw [arr_size]; exact q)]
theorem open_texts_arg {v : Value} {d : DataW H} {p : List MemPlace} {ts : List TypeId} {ds : List (DataW H)} {j : Nat} {b0 : Nat}
    (hv : Value.okWide Tryd.prog W .any b0 73 v) (hd : DataW.Trod enc Tryd.prog W base (fun _ => true) true 73 v d p)
    (hsz : (DataW.weightsEach Tryd.prog ts ds).all (· ≤ reachBytes) = true) (hts : ts[j]? = some 73) (hds : ds[j]? = some d) : ∃ t, TextsAt W v t := by
  obtain ⟨a, len, cap, rfl⟩ := okWide_slice Tryd.underlying73 hv
  obtain ⟨fuel, hf⟩ := hd
  obtain ⟨v, t, hcs, ht⟩ := open_texts' hf (light_of hsz hts hds)
  refine ⟨t, ?_⟩
  have e : [Value.slice a len cap] = [v] := by simpa [Value.cells] using hcs
  injection e with e
  rw [e]
  exact ht
end
end Go.Proofs.YtfjpjhhkafkepaaDoor
end
section
set_option linter.unusedSimpArgs false
set_option maxRecDepth 100000
namespace Go.Proofs.YtfjpjhhkafkepaaDoor
open Go.RowKit Go.Lib

structure Hd where
  v : Nat
  prev : Nat → Nat
  merkle : Nat → Nat
  t : Nat
  b : Nat
  n : Nat
structure Hd.Ok (h : Hd) : Prop where
  v : h.v < 4294967296
  t : h.t < 4294967296
  b : h.b < 4294967296
  n : h.n < 4294967296
  prev : ∀ i, h.prev i < 256
  merkle : ∀ i, h.merkle i < 256
/-- The cells of a header. -/
def hc (h : Hd) : Nat → Value := fun i =>
  if i = 0 then .int .u32 ((h.v : Nat) : Int) else if i ≤ 32 then .int .u8 ((h.prev (i - 1) : Nat) : Int) else if i ≤ 64 then .int .u8 ((h.merkle (i - 33) : Nat) : Int)
  else if i = 65 then .int .u32 ((h.t : Nat) : Int) else if i = 66 then .int .u32 ((h.b : Nat) : Int) else .int .u32 ((h.n : Nat) : Int)
/-- Its bytes. -/
def hb (h : Hd) : Nat → Nat := fun i =>
  if i < 4 then byteAt h.v i else if i < 36 then h.prev (i - 4) else if i < 68 then h.merkle (i - 36) else if i < 72 then byteAt h.t (i - 68) else if i < 76 then byteAt h.b (i - 72) else byteAt h.n (i - 76)
/-- The header of bytes. -/
def hdOf (x : Nat → Nat) : Hd := ⟨ofBytes x 4, fun i => x (4 + i), fun i => x (36 + i), ofBytes (fun i => x (68 + i)) 4, ofBytes (fun i => x (72 + i)) 4, ofBytes (fun i => x (76 + i)) 4⟩
def h0 : Hd := ⟨0, fun _ => 0, fun _ => 0, 0, 0, 0⟩
theorem hb_lt {h : Hd} (ok : h.Ok) (i : Nat) : hb h i < 256 := by
  unfold hb
  repeat' split
  all_goals first | exact byteAt_lt _ _ | exact ok.prev _ | exact ok.merkle _
theorem hdOf_ok {x : Nat → Nat} (hx : ∀ i, x i < 256) : (hdOf x).Ok := by
  have h4 : ∀ f : Nat → Nat, (∀ i, f i < 256) → ofBytes f 4 < 4294967296 := fun f hf => by
    have := ofBytes_lt (f := f) (m := 4) fun i _ => hf i
    simpa using this
  exact ⟨h4 _ hx, h4 _ (fun i => hx _), h4 _ (fun i => hx _), h4 _ (fun i => hx _), fun i => hx _, fun i => hx _⟩
theorem hb_hdOf {x : Nat → Nat} (hx : ∀ i, x i < 256) (i : Nat) (hi : i < 80) : hb (hdOf x) i = x i := by
  unfold hb hdOf
  simp only
  split
  · exact byteAt_ofBytes (fun i _ => hx i) i (by omega)
  · split
    · congr 1; omega
    · split
      · congr 1; omega
      · split
        · rw [byteAt_ofBytes (fun i _ => hx _) _ (by omega)]; congr 1; omega
        · split
          · rw [byteAt_ofBytes (fun i _ => hx _) _ (by omega)]; congr 1; omega
          · rw [byteAt_ofBytes (fun i _ => hx _) _ (by omega)]; congr 1; omega
/-- A header read from its bytes: its cells are the same. -/
theorem hc_back {h : Hd} (ok : h.Ok) {x : Nat → Nat} (hx : ∀ i, i < 80 → x i = hb h i) : arr 68 (hc (hdOf x)) = arr 68 (hc h) := by
  have h4 : ∀ n, n < 4294967296 → ofBytes (byteAt n) 4 = n := fun n hn => by
    rw [ofBytes_byteAt]; exact Nat.mod_eq_of_lt (by simpa using hn)
  have e1 : (hdOf x).v = h.v := by
    show ofBytes x 4 = _
    rw [ofBytes_congr (g := byteAt h.v) (fun i hi => by rw [hx i (by omega)]; unfold hb; rw [if_pos (by omega)])]
    exact h4 _ ok.v
  have e2 : (hdOf x).t = h.t := by
    show ofBytes (fun i => x (68 + i)) 4 = _
    rw [ofBytes_congr (g := byteAt h.t) (fun i hi => by rw [hx _ (by omega)]; unfold hb; rw [if_neg (by omega), if_neg (by omega), if_neg (by omega), if_pos (by omega)]; congr 1; omega)]
    exact h4 _ ok.t
  have e3 : (hdOf x).b = h.b := by
    show ofBytes (fun i => x (72 + i)) 4 = _
    rw [ofBytes_congr (g := byteAt h.b) (fun i hi => by rw [hx _ (by omega)]; unfold hb; rw [if_neg (by omega), if_neg (by omega), if_neg (by omega), if_neg (by omega), if_pos (by omega)]; congr 1; omega)]
    exact h4 _ ok.b
  have e4 : (hdOf x).n = h.n := by
    show ofBytes (fun i => x (76 + i)) 4 = _
    rw [ofBytes_congr (g := byteAt h.n) (fun i hi => by rw [hx _ (by omega)]; unfold hb; rw [if_neg (by omega), if_neg (by omega), if_neg (by omega), if_neg (by omega), if_neg (by omega)]; congr 1; omega)]
    exact h4 _ ok.n
  refine arr_congr fun i hi => ?_
  unfold hc
  rw [e1, e2, e3, e4]
  by_cases c0 : i = 0
  · rw [if_pos c0, if_pos c0]
  · rw [if_neg c0, if_neg c0]
    by_cases c1 : i ≤ 32
    · rw [if_pos c1, if_pos c1]
      show Value.int .u8 ((x (4 + (i - 1)) : Nat) : Int) = _
      rw [hx _ (by omega)]
      unfold hb
      rw [if_neg (by omega), if_pos (by omega)]
      congr 3; omega
    · rw [if_neg c1, if_neg c1]
      by_cases c2 : i ≤ 64
      · rw [if_pos c2, if_pos c2]
        show Value.int .u8 ((x (36 + (i - 33)) : Nat) : Int) = _
        rw [hx _ (by omega)]
        unfold hb
        rw [if_neg (by omega), if_neg (by omega), if_pos (by omega)]
        congr 3; omega
      · rw [if_neg c2, if_neg c2]
theorem hc_v (h : Hd) : (arr 68 (hc h))[0]? = some (.int .u32 ((h.v : Nat) : Int)) := arr_get 68 _ 0 (by decide)
theorem hc_t (h : Hd) : (arr 68 (hc h))[65]? = some (.int .u32 ((h.t : Nat) : Int)) := arr_get 68 _ 65 (by decide)
theorem hc_b (h : Hd) : (arr 68 (hc h))[66]? = some (.int .u32 ((h.b : Nat) : Int)) := arr_get 68 _ 66 (by decide)
theorem hc_n (h : Hd) : (arr 68 (hc h))[67]? = some (.int .u32 ((h.n : Nat) : Int)) := arr_get 68 _ 67 (by decide)
theorem hc_one (h : Hd) : (arr 68 (hc h)).all (·.oneCell') = true := Array.all_eq_true_iff_forall_mem.2 fun v hv => by
  unfold arr at hv
  simp at hv
  obtain ⟨i, _, rfl⟩ := hv
  unfold hc
  repeat' split
  all_goals rfl
theorem infoH : (Tryd.prog.info? 26).map (fun i => (i.zero, i.size)) = some (some (.agg (arr 68 (hc h0))), 68) := by kernel_rfl
theorem built_h0 : Tryd.prog.built 26 (#[] : Array (Nat × Value)).toList = some (arr 68 (hc h0)) := by kernel_rfl
section
variable {w w0 : World} {l : List (Nat × TypeId × Array Value)} {b : Nat} {h : Hd}
theorem Mem.prev (E : Mem w0 l w) (hm : (b, 26, arr 68 (hc h)) ∈ l) (ok : h.Ok) : Row w (some ⟨b, 1, none⟩) b 1 32 32 h.prev :=
  ⟨Nat.le_refl _, by unfold maxLen; omega, fun e => (by cases e), fun _ => rfl, fun i hi => by
    rw [cell_of_here (E.get hm) (1 + i) (arr_get 68 (hc h) (1 + i) (by omega))]
    unfold hc
    rw [if_neg (by omega), if_pos (by omega)]
    congr 4; omega, ok.prev⟩
theorem Mem.merkle (E : Mem w0 l w) (hm : (b, 26, arr 68 (hc h)) ∈ l) (ok : h.Ok) : Row w (some ⟨b, 33, none⟩) b 33 32 32 h.merkle :=
  ⟨Nat.le_refl _, by unfold maxLen; omega, fun e => (by cases e), fun _ => rfl, fun i hi => by
    rw [cell_of_here (E.get hm) (33 + i) (arr_get 68 (hc h) (33 + i) (by omega))]
    unfold hc
    rw [if_neg (by omega), if_neg (by omega), if_pos (by omega)]
    congr 4; omega, ok.merkle⟩
end
/-- A header's bytes, part by part. -/
theorem enc_parts (h : Hd) (i : Nat) (hi : i < 80) : cat (cat (cat (cat (cat (cat (fun _ => 0) 0 (byteAt h.v)) 4 h.prev) 36 h.merkle) 68 (byteAt h.t)) 72 (byteAt h.b)) 76 (byteAt h.n) i = hb h i := by
  unfold cat hb
  repeat' split
  all_goals first | rfl | omega
end Go.Proofs.YtfjpjhhkafkepaaDoor
end
section
set_option linter.unusedSimpArgs false
set_option maxRecDepth 100000
namespace Go.Proofs.YtfjpjhhkafkepaaDoor
open Go.ChangeShapes Go.WideShapes Go.ChangeAt Go.RowKit Go.Lib Go.Deep

structure TBlk where
  hd : Hd
  txs : List TTx
def TxsAt (w : World) (v : Value) (ts : List TTx) : Prop :=
  ∃ p g o c V, v = .slice p ts.length c ∧ ts.length * 64 ≤ 140737488351232 ∧ VRow 4 w p g o ts.length c V ∧ ∀ i (h : i < ts.length), TxCells w (fun j => V (i * 4 + j)) ts[i]
/-- The 69 cells of a block. -/
structure BlkCells (w : World) (V : Nat → Value) (t : TBlk) : Prop where
  hd : ∀ j, j < 68 → V j = hc t.hd j
  ok : t.hd.Ok
  txs : TxsAt w (V 68) t.txs
def BlkAt (w : World) (v : Value) (t : TBlk) : Prop := ∃ V, v = .agg (arr 69 V) ∧ BlkCells w V t
section
variable {w w' : World} {V : Nat → Value} {v : Value}
theorem TxsAt.below {ts : List TTx} (h : TxsAt w v ts) (hb : Below w.heap.size w w') : TxsAt w' v ts := by
  obtain ⟨p, g, o, c, V, rfl, hc, R, hi⟩ := h
  exact ⟨p, g, o, c, V, rfl, hc, R.below hb, fun i h => (hi i h).below hb⟩
theorem BlkCells.below {t : TBlk} (h : BlkCells w V t) (hb : Below w.heap.size w w') : BlkCells w' V t := ⟨h.hd, h.ok, h.txs.below hb⟩
theorem BlkAt.below {t : TBlk} (h : BlkAt w v t) (hb : Below w.heap.size w w') : BlkAt w' v t := by
  obtain ⟨V, rfl, hc⟩ := h
  exact ⟨V, rfl, hc.below hb⟩
theorem TxsAt.one {ts : List TTx} (h : TxsAt w v ts) : v.oneCell' = true := by
  obtain ⟨p, g, o, c, V, rfl, _⟩ := h
  rfl
theorem TxsAt.len {ts : List TTx} (h : TxsAt w v ts) : ts.length * 64 ≤ 140737488351232 := by
  obtain ⟨p, g, o, c, V, rfl, hc, R, _⟩ := h
  exact hc
theorem TxCells.one {t : TTx} (h : TxCells w V t) : ∀ j, j < 4 → (V j).oneCell' = true := fun j hj => by
  have : j = 0 ∨ j = 1 ∨ j = 2 ∨ j = 3 := by omega
  rcases this with rfl | rfl | rfl | rfl
  · rw [h.ver]; rfl
  · obtain ⟨p, g, o, c, U, hv, _⟩ := h.ins
    rw [hv]; rfl
  · obtain ⟨p, g, o, c, U, hv, _⟩ := h.outs
    rw [hv]; rfl
  · rw [h.lock]; rfl
theorem TxCells.to {U : Nat → Value} {t : TTx} (h : TxCells w V t) (e : ∀ x, x < 4 → V x = U x) : TxCells w U t :=
  ⟨by rw [← e 0 (by omega)]; exact h.ver, h.verB, by rw [← e 1 (by omega)]; exact h.ins, by rw [← e 2 (by omega)]; exact h.outs, by rw [← e 3 (by omega)]; exact h.lock, h.lockB⟩
end
theorem hdr_fields' : (Tryd.prog.fieldsOf 26).toList.map (fun f => (f.type, f.offset)) = [(22, 0), (24, 1), (24, 33), (22, 65), (22, 66), (22, 67)] := by kernel_rfl
theorem hdr_is' : Tryd.prog.underlying 26 = some (.struct (Tryd.prog.fieldsOf 26)) := by kernel_rfl
theorem blk_fields : (Tryd.prog.fieldsOf 29).toList.map (fun f => (f.type, f.offset)) = [(26, 0), (27, 68)] := by kernel_rfl
theorem blk_is : Tryd.prog.underlying 29 = some (.struct (Tryd.prog.fieldsOf 29)) := by kernel_rfl
theorem cells_hdr : Tryd.prog.cellsOf 26 = 68 := by kernel_rfl
theorem cells_txl : Tryd.prog.cellsOf 27 = 1 := by kernel_rfl
theorem infoBlk : (Tryd.prog.info? 29).map (fun i => (i.size, i.bytes)) = some (69, 104) := by kernel_rfl
section
variable {H : Type} {enc : TypeId × Value → H} {W : World} {base : Nat}
theorem open_hdr' {fuel : Nat} {cs : List Value} {x : DataW H × List MemPlace} (h : DataW.trod enc Tryd.prog W base (fun _ => true) true fuel 26 cs = some x) (hl : Light x.1 26) : cs.length = 68 ∧ ∃ t : Hd, t.Ok ∧ ∀ j, j < 68 → cs.getD j undef = hc t j := by
  obtain ⟨_, _, _, _, hcl, _⟩ := DataW.trod_struct hdr_is' h
  rw [cells_hdr] at hcl
  obtain ⟨m0, y0, h0, l0⟩ := open_field hdr_is' hdr_fields' h hl (j := 0) rfl
  obtain ⟨m1, y1, h1, l1⟩ := open_field hdr_is' hdr_fields' h hl (j := 1) rfl
  obtain ⟨m2, y2, h2, l2⟩ := open_field hdr_is' hdr_fields' h hl (j := 2) rfl
  obtain ⟨m3, y3, h3, l3⟩ := open_field hdr_is' hdr_fields' h hl (j := 3) rfl
  obtain ⟨m4, y4, h4, l4⟩ := open_field hdr_is' hdr_fields' h hl (j := 4) rfl
  obtain ⟨m5, y5, h5, l5⟩ := open_field hdr_is' hdr_fields' h hl (j := 5) rfl
  rw [cells_32] at h0 h3 h4 h5
  rw [cells_h] at h1 h2
  obtain ⟨a0, b0, c0⟩ := open_u32' h0
  obtain ⟨_, a1, _, b1, c1⟩ := open_id' h1
  obtain ⟨_, a2, _, b2, c2⟩ := open_id' h2
  obtain ⟨a3, b3, c3⟩ := open_u32' h3
  obtain ⟨a4, b4, c4⟩ := open_u32' h4
  obtain ⟨a5, b5, c5⟩ := open_u32' h5
  refine ⟨hcl, ⟨a0, lf a1, lf a2, a3, a4, a5⟩, ⟨b0, b3, b4, b5, lf_lt b1, lf_lt b2⟩, fun j hj => ?_⟩
  have at_ : ∀ (o i : Nat) (y : Value), ((cs.drop o).take 32)[i]? = some y → cs.getD (o + i) undef = y := fun o i y h => by
    by_cases hi : i < 32
    · rw [List.getElem?_take, if_pos hi, List.getElem?_drop] at h
      rw [List.getD_eq_getElem?_getD, h]
      rfl
    · rw [List.getElem?_take, if_neg hi] at h
      cases h
  unfold hc
  repeat' split
  · subst j
    exact (drop_one c0).1
  · obtain ⟨k, rfl⟩ : ∃ k, j = 1 + k := ⟨j - 1, by omega⟩
    rw [at_ 1 k _ (c1 k (by omega)), Nat.add_sub_cancel_left]
    rfl
  · obtain ⟨k, rfl⟩ : ∃ k, j = 33 + k := ⟨j - 33, by omega⟩
    rw [at_ 33 k _ (c2 k (by omega)), Nat.add_sub_cancel_left]
    rfl
  · subst j
    exact (drop_one c3).1
  · subst j
    exact (drop_one c4).1
  · obtain rfl : j = 67 := by omega
    exact (drop_one c5).1
theorem open_txs' {fuel : Nat} {cs : List Value} {x : DataW H × List MemPlace} (h : DataW.trod enc Tryd.prog W base (fun _ => true) true fuel 27 cs = some x) (hl : Light x.1 27) : ∃ v t, cs = [v] ∧ TxsAt W v t :=
  open_rowsL (S := 27) (T := 58) (k := 4) (bytes := 64) (fun V t => TxCells W V t) ⟨0, [], [], 0⟩ Tryd.underlying27 (by kernel_rfl) (by omega) (by kernel_rfl) (fun V a h => h.one) (fun fuel cs x h hl => open_tx' h hl) (fun V U a h e => h.to e) h hl
theorem open_txs_arg {v : Value} {d : DataW H} {p : List MemPlace} {ts : List TypeId} {ds : List (DataW H)} {j : Nat} {b0 : Nat}
    (hv : Value.okWide Tryd.prog W .any b0 27 v) (hd : DataW.Trod enc Tryd.prog W base (fun _ => true) true 27 v d p)
    (hsz : (DataW.weightsEach Tryd.prog ts ds).all (· ≤ reachBytes) = true) (hts : ts[j]? = some 27) (hds : ds[j]? = some d) : ∃ t, TxsAt W v t := by
  obtain ⟨a, len, cap, rfl⟩ := okWide_slice Tryd.underlying27 hv
  obtain ⟨fuel, hf⟩ := hd
  obtain ⟨v, t, hcs, ht⟩ := open_txs' hf (light_of hsz hts hds)
  refine ⟨t, ?_⟩
  have e : [Value.slice a len cap] = [v] := by simpa [Value.cells] using hcs
  injection e with e
  rw [e]
  exact ht
theorem open_blk {v : Value} {d : DataW H} {p : List MemPlace} {ts : List TypeId} {ds : List (DataW H)} {j : Nat} {b0 : Nat}
    (hv : Value.okWide Tryd.prog W .any b0 29 v) (hd : DataW.Trod enc Tryd.prog W base (fun _ => true) true 29 v d p)
    (hsz : (DataW.weightsEach Tryd.prog ts ds).all (· ≤ reachBytes) = true) (hts : ts[j]? = some 29) (hds : ds[j]? = some d) : ∃ t, BlkAt W v t := by
  obtain ⟨cs, rfl, hsz2⟩ := okWide_struct blk_is hv
  obtain ⟨fuel, hf⟩ := hd
  have hl := light_of hsz hts hds
  obtain ⟨_, _, _, _, hcl, _⟩ := DataW.trod_struct blk_is hf
  have hC : Tryd.prog.cellsOf 29 = 69 := by kernel_rfl
  rw [hC] at hcl
  obtain ⟨m0, y0, h0, l0⟩ := open_field blk_is blk_fields hf hl (j := 0) rfl
  obtain ⟨m1, y1, h1, l1⟩ := open_field blk_is blk_fields hf hl (j := 1) rfl
  rw [cells_hdr, List.drop_zero] at h0
  rw [cells_txl] at h1
  obtain ⟨_, h, ok, hj⟩ := open_hdr' h0 l0
  obtain ⟨u, txs, c1, ht⟩ := open_txs' h1 l1
  refine ⟨⟨h, txs⟩, fun j => cs.toList.getD j undef, ?_, fun j hlt => ?_, ok, ?_⟩
  · congr 1
    apply Array.ext_getElem?
    intro i
    have h4 : cs.size = 69 := by simpa [Value.cells] using hcl
    rcases Nat.lt_or_ge i 69 with q | q
    · rw [arr_get 69 _ i q, List.getD_eq_getElem?_getD, Array.getElem?_toList, Array.getElem?_eq_getElem (by omega)]
      rfl
    · rw [Array.getElem?_eq_none (by omega), Array.getElem?_eq_none (by rw [arr_size]; exact q)]
  · have := hj j hlt
    rw [List.getD_eq_getElem?_getD, List.getElem?_take, if_pos hlt, ← List.getD_eq_getElem?_getD] at this
    exact this
  · have := (drop_one c1).1
    show TxsAt W (cs.toList.getD 68 undef) txs
    rw [show cs.toList.getD 68 undef = u from this]
    exact ht
end
end Go.Proofs.YtfjpjhhkafkepaaDoor
end
section
set_option linter.unusedSimpArgs false
set_option linter.unusedVariables false
namespace Go.Proofs.YtfjpjhhkafkepaaDoor
open Go.RowKit Go.Lib Go.Sort
open Go.RowKit Go.Lib Go.Sort
section
variable {ops : Array Oper} {rest : List Oper} {Q : Exit → Act → World → Prop} {op : Oper} {a : Act} {w : World}
theorem wpList_at {P : Program} (t : Nat) (hd : op.dst = some t) (h : wpList P ops Q (op :: rest) a w) : wpList P ops Q (op :: rest) a w := h
theorem wpList_atn {P : Program} (hd : op.dst = none) (h : wpList P ops Q (op :: rest) a w) : wpList P ops Q (op :: rest) a w := h
end
end Go.Proofs.YtfjpjhhkafkepaaDoor
end
section
set_option linter.unusedSimpArgs false
namespace Go.Proofs.YtfjpjhhkafkepaaDoor
open Go.RowKit Go.Lib

theorem own_four (w : World) (v : Nat) : Own w.heap.size (w.alloc (.cells #[.int .u8 ((byteAt v 0 : Nat) : Int), .int .u8 ((byteAt v 1 : Nat) : Int), .int .u8 ((byteAt v 2 : Nat) : Int), .int .u8 ((byteAt v 3 : Nat) : Int)] 5)) (some ⟨w.heap.size, 0, none⟩) w.heap.size 4 4 (byteAt v) := own_new w (byteAt v) 4 (by unfold maxLen; omega) (byteAt_lt v)
set_option maxRecDepth 100000 in
set_option maxHeartbeats 2000000 in
theorem put_any {B : Nat} {w : World} {p : Option Addr} {g n c v : Nat} {x : Nat → Nat} (N : Hid (Own B w p g n c x)) (hv : v < 4294967296) (hn : n ≤ 1048576) :
    Calls Tryd.prog 51 #[.slice p n c, .int .u32 ((v : Nat) : Int)] w fun e w' => ∃ p' g' c', e = .returned (.slice p' (n + 4) c') ∧ Own B w' p' g' (n + 4) c' (cat x n (byteAt v)) ∧ Below B w w' := by
  have e0 : ((v : Nat) : Int) % 256 = ((byteAt v 0 : Nat) : Int) := by unfold byteAt; simp
  have e1 : ((v : Nat) : Int) / 256 % 256 = ((byteAt v 1 : Nat) : Int) := by unfold byteAt; simp
  have e2 : ((v : Nat) : Int) / 65536 % 256 = ((byteAt v 2 : Nat) : Int) := by unfold byteAt; simp
  have e3 : ((v : Nat) : Int) / 16777216 = ((byteAt v 3 : Nat) : Int) := by unfold byteAt; simp; omega
  have N1 := Lib.hid (N.out.below (below_new w (.cells #[.int .u8 ((byteAt v 0 : Nat) : Int), .int .u8 ((byteAt v 1 : Nat) : Int), .int .u8 ((byteAt v 2 : Nat) : Int), .int .u8 ((byteAt v 3 : Nat) : Int)] 5)))
  have R := Lib.hid (own_four w v).row
  have B1 := Lib.hid (show Below B w (w.alloc (.cells #[.int .u8 ((byteAt v 0 : Nat) : Int), .int .u8 ((byteAt v 1 : Nat) : Int), .int .u8 ((byteAt v 2 : Nat) : Int), .int .u8 ((byteAt v 3 : Nat) : Int)] 5)) from (below_new w _).mono N.out.low)
  go_enter Tryd.func51, Tryd.ntmps51
  go_wp2_with (at_builtin; refine wpList_app (.inl rfl) (.tmp 5) (.tmp 17) rfl rfl N1 rfl R (by omega) ?_)
  intro p3 g3 c3 w3 N3 hb
  have B3 := Lib.hid (B1.out.trans hb.out)
  clear hb
  go_wp2
  go_ret
  exact ⟨p3, g3, c3, rfl, N3.out, B3.out⟩

set_option maxRecDepth 100000 in
set_option maxHeartbeats 4000000 in
theorem henc_any {h : Hd} (ok : Hid h.Ok) (w : World) : Calls Tryd.prog 32 #[.agg (arr 68 (hc h))] w (Gets w 80 (hb h)) := by
  have E := Lib.hid (Mem.nil w)
  have sl := run_hash
  go_enter Tryd.func32, Tryd.ntmps32
  go_wp2_with (first
    | (refine mem_box E 26 rfl _ rfl rfl (arr_cells' 68 (hc h)) ?_; clear E; intro b w2 E)
    | (at_make; refine wpList_mk rfl _ _ rfl E 80 80 rfl rfl rfl (by omega) ?_; clear E; intro B p1 g1 w2 K)
    | (refine mem_load_cell (Lib.hid K.out.mem) 22 (by kernel_rfl) (.tmp 6) rfl rfl List.mem_cons_self Tryd.underlying22 rfl (hc_v h) ?_)
    | (refine mem_load_cell (Lib.hid K.out.mem) 22 (by kernel_rfl) (.tmp 18) rfl rfl List.mem_cons_self Tryd.underlying22 rfl (hc_t h) ?_)
    | (refine mem_load_cell (Lib.hid K.out.mem) 22 (by kernel_rfl) (.tmp 22) rfl rfl List.mem_cons_self Tryd.underlying22 rfl (hc_b h) ?_)
    | (refine mem_load_cell (Lib.hid K.out.mem) 22 (by kernel_rfl) (.tmp 26) rfl rfl List.mem_cons_self Tryd.underlying22 rfl (hc_n h) ?_)
    | (go_at_call 51; refine (put_any (Lib.hid K.out.own) (by first | exact ok.out.v | exact ok.out.t | exact ok.out.b | exact ok.out.n) (by omega)).mono ?_; rintro e w3 ⟨p2, g2, c2, rfl, N2, hb2⟩; replace K := Lib.hid (K.out.turn N2 hb2); simp only [Nat.reduceAdd] at K; clear N2 hb2)
    | (at_builtin; refine wpList_wapp (.inl rfl) (.tmp 9) (.tmp 11) rfl K rfl rfl (Lib.hid (K.out.mem.prev List.mem_cons_self ok.out)) (by omega) ?_; clear K; intro p4 g4 c4 w4 K; simp only [Nat.reduceAdd] at K)
    | (at_builtin; refine wpList_wapp (.inl rfl) (.tmp 13) (.tmp 15) rfl K rfl rfl (Lib.hid (K.out.mem.merkle List.mem_cons_self ok.out)) (by omega) ?_; clear K; intro p4 g4 c4 w4 K; simp only [Nat.reduceAdd] at K))
  go_ret
  exact ⟨_, _, _, rfl, (K.out.to (enc_parts h) (hb_lt ok.out)).gets.1, K.out.gets.2⟩
end Go.Proofs.YtfjpjhhkafkepaaDoor
end
section
set_option linter.unusedSimpArgs false
set_option linter.unusedVariables false
namespace Go.Proofs.YtfjpjhhkafkepaaDoor
open Go.RowKit Go.Lib Go.Sort

theorem Mem.fst {w0 w : World} {x y : Nat × TypeId × Array Value} {l : List (Nat × TypeId × Array Value)} (E : Mem w0 (x :: y :: l) w) : Mem w0 [x] w := E.sub (List.Sublist.cons_cons _ (List.nil_sublist _))
/-- A row of later blocks stays while an earlier block of the list is written. -/
theorem row_of_own {w0 w1 w2 : World} {l : List (Nat × TypeId × Array Value)} {B g n c : Nat} {p : Option Addr} {x : Nat → Nat} (N : Own B w1 p g n c x) (E : Mem w0 l w1) (hs : ∀ q, q ∈ l → q.1 < B) {i b T : Nat} {c1 : Array Value} (hi : l[i]? = some (b, T, c1)) (ho : Only b w1 w2) : Row w2 p g 0 n c x := by
  have hb : b < B := hs _ (List.mem_of_getElem? hi)
  refine ⟨N.row.le, N.row.cap, N.row.nil, N.row.head, fun j hj => ?_, N.row.byte⟩
  have h1 := N.row.cell j hj
  refine ho.cell (fun e => ?_) h1
  have hp := N.row.head (by omega)
  have := (World.ownsRow.lt N.own g (by rw [hp]; rfl)).1
  simp at e
  omega
theorem run_part {g o n c : Nat} (l k : Nat) (hk : 0 < k) (h : l + k ≤ c) (W : World) : (Instr.sliceAt 30 (.slice (some ⟨g, o, none⟩) n c) (some (.int .i64 ((l : Nat) : Int))) (some (.int .i64 ((l + k : Nat) : Int))) (some (.int .i64 ((l + k : Nat) : Int)))).run Tryd.prog W = .ok (.slice (some ⟨g, o + l, none⟩) k k) W := by
  rw [run_sl (bounds_lhm (by omega) (Nat.le_refl _) h)]
  unfold sliced
  rw [if_neg (by omega), Nat.mul_one]
  show Result.ok (Value.slice (some ((⟨g, o, none⟩ : Addr).add l)) (l + k - l) (l + k - l)) W = _
  rw [row_add, Nat.add_sub_cancel_left]
theorem Row.part {w : World} {g o n c : Nat} {x : Nat → Nat} (R : Row w (some ⟨g, o, none⟩) g o n c x) (l k : Nat) (h : l + k ≤ n) : Row w (some ⟨g, o + l, none⟩) g (o + l) k k (fun i => x (l + i)) :=
  ⟨Nat.le_refl _, by have := R.cap; have := R.le; omega, fun e => (by cases e), fun _ => rfl, fun i hi => by rw [Nat.add_assoc]; exact R.cell (l + i) (by omega), fun i => R.byte _⟩
theorem run_arrayAt (a : Addr) (n c : Nat) (h : 32 ≤ n) (w : World) : (Instr.arrayAt 24 (.slice (some a) n c)).run Tryd.prog w = .ok (.pointer (some a)) w := by
  have hu : Tryd.prog.underlying 24 = some (.array 32 5) := Tryd.underlying24
  simp [Instr.arrayAt, run_underlying hu]
  omega
theorem load_hash {w : World} {g o n c : Nat} {x : Nat → Nat} {p : Option Addr} (R : Row w p g o n c x) (h : 32 ≤ n) : (Instr.loadAt 24 (.pointer (some ⟨g, o, none⟩))).run Tryd.prog w = .ok (.agg (arr 32 (bv x))) w := by
  have hr : w.rangeAt g o (arr 32 (bv x)).toList := fun j v hj => by
    have hj32 : j < 32 := by
      have := (List.getElem?_eq_some_iff.1 hj).1
      rw [Array.length_toList, arr_size] at this
      exact this
    rw [Array.getElem?_toList, arr_get 32 _ j hj32] at hj
    obtain rfl := Option.some.inj hj
    exact R.cell j (by omega)
  simpa using run_loadAt_mid (P := Tryd.prog) w g o 24 (arr 32 (bv x)).toList _ hr Tryd.underlying24 rfl (by rw [Array.length_toList, arr_size]; kernel_rfl)
theorem load_hdr {w0 w : World} {l : List (Nat × TypeId × Array Value)} {b : Nat} {h : Hd} (E : Mem w0 l w) (hm : (b, 26, arr 68 (hc h)) ∈ l) : (Instr.loadAt 26 (.pointer (some ⟨b, 0, none⟩))).run Tryd.prog w = .ok (.agg (arr 68 (hc h))) w := by
  simpa using run_loadAt_mid (P := Tryd.prog) w b 0 26 (arr 68 (hc h)).toList _ (range_all (E.get hm)) Tryd.underlying26 rfl (by rw [Array.length_toList, arr_size]; kernel_rfl)
theorem built_hd (h : Hd) : Tryd.prog.built 26 (#[(0, .int .u32 ((h.v : Nat) : Int)), (1, .agg (arr 32 (bv h.prev))), (2, .agg (arr 32 (bv h.merkle))), (3, .int .u32 ((h.t : Nat) : Int)), (4, .int .u32 ((h.b : Nat) : Int)), (5, .int .u32 ((h.n : Nat) : Int))] : Array (Nat × Value)).toList = some (arr 68 (hc h)) := by kernel_rfl
theorem zeroH (w : World) : (zeroValue 26).run Tryd.prog w = .ok (.agg (arr 68 (hc h0))) w := (zero_of_info infoH).1 w
abbrev noHeader (k : Nat) : Value := .tuple #[.agg (arr 68 (hc h0)), .slice none 0 0, .int .i64 ((k : Nat) : Int)]
def HdGood (w : World) (n : Nat) (x : Nat → Nat) (e : Ending) (w' : World) : Prop :=
  ∃ p g c, e = .returned (.tuple #[.agg (arr 68 (hc (hdOf x))), .slice p (n - 80) c, .int .i64 0]) ∧ Row w' p g 0 (n - 80) c (fun i => x (80 + i)) ∧ Below w.heap.size w w'

set_option maxRecDepth 100000 in
set_option maxHeartbeats 4000000 in
theorem hdec_short {w : World} {p : Option Addr} {n c : Nat} (h : n < 80) : Calls Tryd.prog 67 #[.slice p n c] w fun e w' => e = .returned (noHeader 50) ∧ Below w.heap.size w w' := by
  have E := Lib.hid (Mem.nil w)
  have zH := zeroH
  go_enter Tryd.func67, Tryd.ntmps67
  go_wp2_with (first
    | (refine mem_alloc E 26 rfl rfl infoH ?_; clear E; intro b w2 E; simp only [arr_cells'] at E)
    | (refine wpList_build_to rfl 26 _ rfl #[] rfl _ built_h0 ?_)
    | (refine mem_store_row 0 E 26 rfl _ _ rfl rfl rfl rfl (by kernel_rfl) (by simp only [arr_size]) (hc_one _) ?_; clear E; intro w2 E; simp only [List.set_cons_zero, List.set_cons_succ] at E))
  exact bodyPost_ret (res_row_tmp_tmp (fn := Tryd.f67) rfl _ _ b 68 26 _ _ rfl (E.out.get List.mem_cons_self) Tryd.underlying26 rfl (by kernel_rfl)) rfl ⟨rfl, E.out.below⟩

end Go.Proofs.YtfjpjhhkafkepaaDoor
end

