/- What arguments are; IDs; a small transaction is written. -/
import Derived.Test.YtgicnmfodbenlaaDoorTd
import Derived.Test.YtgicnmfodbenlaaDoorOp
import Derived.Test.YtgicnmfodbenlaaDoorTr
import Derived.Test.YtgicnmfodbenlaaDoorDl
import Derived.Deep.Slices
section
set_option linter.unusedSimpArgs false
set_option maxRecDepth 100000
namespace Go.Proofs.YtgicnmfodbenlaaDoor
open Go.ChangeShapes Go.WideShapes Go.ChangeAt Go.RowKit Go.Lib Go.Deep

/-- No part of it weighs more than is in reach. -/
def Light {H : Type} (d : DataW H) (t : TypeId) : Prop := ∀ n, n ∈ d.weights Tryd.prog t → n ≤ reachBytes
theorem light_of {H : Type} {ts : List TypeId} {ds : List (DataW H)} (h : (DataW.weightsEach Tryd.prog ts ds).all (· ≤ reachBytes) = true) {j : Nat} {t : TypeId} {d : DataW H} (ht : ts[j]? = some t) (hd : ds[j]? = some d) : Light d t := fun n hn => by
  have := List.all_eq_true.1 h _ (DataW.weights_mem_each ht hd n hn)
  simpa using this
theorem mem_weightsAll {H : Type} {e : TypeId} {d : DataW H} : ∀ {l : List (DataW H)}, d ∈ l → ∀ n, n ∈ d.weights Tryd.prog e → n ∈ DataW.weightsAll Tryd.prog e l
  | [], h, _, _ => by cases h
  | x :: l, h, n, hn => by
    simp only [DataW.weightsAll, List.mem_append]
    rcases List.mem_cons.1 h with rfl | h
    · exact .inl hn
    · exact .inr (mem_weightsAll h n hn)
theorem light_slice {H : Type} {S e : TypeId} {elems spare : List (DataW H)} (h : Light (.slice elems spare) S) (hu : Tryd.prog.underlying S = some (.slice e)) : (elems.length + spare.length) * Tryd.prog.bytesOf e ≤ reachBytes ∧ ∀ d, d ∈ elems → Light d e := by
  refine ⟨h _ (by simp [DataW.weights, hu]), fun d hd n hn => h n ?_⟩
  simp only [DataW.weights, hu, List.mem_cons, List.mem_append]
  exact .inr (.inl (mem_weightsAll hd n hn))
theorem light_struct {H : Type} {T : TypeId} {fs : Array Field} {parts : List (DataW H)} (h : Light (.agg parts) T) (hu : Tryd.prog.underlying T = some (.struct fs)) {j : Nat} {f : Field} {d : DataW H} (hf : fs[j]? = some f) (hd : parts[j]? = some d) : Light d f.type := fun n hn => h n (by
  simp only [DataW.weights, hu]
  exact DataW.weights_mem_each (j := j) (by rw [List.getElem?_map, Array.getElem?_toList, hf]; rfl) hd n hn)
section
variable {H : Type} {enc : TypeId × Value → H} {W : World} {base : Nat}
theorem open_u8' {fuel : Nat} {cs : List Value} {x : DataW H × List MemPlace} (h : DataW.trod enc Tryd.prog W base (fun _ => true) true fuel 5 cs = some x) : ∃ z : Nat, z < 256 ∧ cs = [.int .u8 (z : Int)] := by
  obtain ⟨n, rfl, _, hw⟩ := DataW.trod_int Tryd.underlying5 h
  simp [Lit.wf, IntKind.min, IntKind.max, IntKind.bits, IntKind.signed] at hw
  exact ⟨n.toNat, by omega, by congr 2; omega⟩
theorem open_u32' {fuel : Nat} {cs : List Value} {x : DataW H × List MemPlace} (h : DataW.trod enc Tryd.prog W base (fun _ => true) true fuel 22 cs = some x) : ∃ z : Nat, z < 4294967296 ∧ cs = [w32 z] := by
  obtain ⟨n, rfl, _, hw⟩ := DataW.trod_int Tryd.underlying22 h
  simp [Lit.wf, IntKind.min, IntKind.max, IntKind.bits, IntKind.signed] at hw
  exact ⟨n.toNat, by omega, by unfold w32; congr 2; omega⟩
theorem open_i64' {fuel : Nat} {cs : List Value} {x : DataW H × List MemPlace} (h : DataW.trod enc Tryd.prog W base (fun _ => true) true fuel 2 cs = some x) : ∃ z : Int, (-9223372036854775808 ≤ z ∧ z ≤ 9223372036854775807) ∧ cs = [.int .i64 z] := by
  obtain ⟨n, rfl, _, hw⟩ := DataW.trod_int Tryd.underlying2 h
  simp [Lit.wf, IntKind.min, IntKind.max, IntKind.bits, IntKind.signed] at hw
  exact ⟨n, by omega, rfl⟩
theorem open_id' {fuel : Nat} {cs : List Value} {x : DataW H × List MemPlace} (h : DataW.trod enc Tryd.prog W base (fun _ => true) true fuel 24 cs = some x) : cs.length = 32 ∧ ∃ a : List Nat, a.length = 32 ∧ IsB a ∧ ∀ j, j < 32 → cs[j]? = some (byv (lf a j)) := by
  obtain ⟨xs, m, _, _, hl, hx, hi⟩ := DataW.trod_array Tryd.underlying24 h
  have hC : Tryd.prog.cellsOf 24 = 32 := by kernel_rfl
  rw [hC] at hl
  have key : ∀ i : Nat, ∃ z : Nat, z < 256 ∧ (i < 32 → cs[i]? = some (.int .u8 (z : Int))) := fun i => by
    by_cases h32 : i < 32
    · have h1 := hi i h32
      rw [cellsB, Nat.mul_one, List.getElem?_eq_getElem (by omega)] at h1
      obtain ⟨z, hz, e⟩ := open_u8' h1
      refine ⟨z, hz, fun _ => ?_⟩
      rw [List.drop_eq_getElem_cons (by omega)] at e
      simp only [List.take_succ_cons, List.take_zero, List.cons.injEq, and_true] at e
      rw [List.getElem?_eq_getElem (by omega), e]
    · exact ⟨0, by omega, fun h => absurd h h32⟩
  obtain ⟨f, hf⟩ := Classical.axiomOfChoice key
  refine ⟨hl, tl f 32, tl_length _ _, isB_tl (fun i => (hf i).1) 32, fun j hj => ?_⟩
  rw [lf_tl f hj]
  exact (hf j).2 hj
theorem open_text' {fuel : Nat} {cs : List Value} {x : DataW H × List MemPlace} (h : DataW.trod enc Tryd.prog W base (fun _ => true) true fuel 31 cs = some x) (hl : Light x.1 31) : ∃ v t, cs = [v] ∧ TextAt W v t := by
  rcases open_ints Tryd.underlying31 Tryd.underlying5 (by kernel_rfl) h with ⟨hcs, _⟩ | ⟨q, l, c, zs, hcs, _, hlc, hm, hz, hx, hcell, hwz⟩
  · exact ⟨.slice none 0 0, [], hcs, none, 0, 0, 0, rfl, by simp, Row.nothing _ _ (lf_lt isB_nil)⟩
  · have hz' : zs.length = c := by simpa using hz
    have hd' : x.1 = .slice (lits .u8 (zs.take l)) (lits .u8 (zs.drop l)) := by simpa using congrArg Prod.fst hx
    rw [hd'] at hl
    have hs := (light_slice hl Tryd.underlying31).1
    rw [b5] at hs
    simp only [lits, List.length_map, List.length_take, List.length_drop, reachBytes] at hs
    have hr := range_u8 hwz
    have R : Row W (some q) q.block q.off l c (fun i => (zs[i]?.getD 0).toNat) := ⟨hlc, by unfold maxLen; omega, fun h => (by cases h), fun h0 => by
      have h1 := hcell 0 (by omega)
      obtain ⟨b, o, s⟩ := q
      have hsp : s = none := by simpa [Addr.add] using World.cell?_spot h1
      subst hsp
      rfl, fun i hi => by
      have h1 := hcell i (by omega)
      have h0 := hcell 0 (by omega)
      have hri := hr i
      obtain ⟨b, o, s⟩ := q
      have hsp : s = none := by simpa [Addr.add] using World.cell?_spot h0
      subst hsp
      rw [row_add] at h1
      rw [Int.toNat_of_nonneg hri.1]
      simpa using h1, fun i => by have := hr i; omega⟩
    refine ⟨_, tl (fun i => (zs[i]?.getD 0).toNat) l, hcs, some q, q.block, q.off, c, by rw [tl_length], by rw [tl_length]; omega, R.tl⟩
/-- Elements of a slice, each a row of k cells with a reading of its own. -/
theorem open_rowsL {S T k bytes : Nat} {α : Type} (EC : (Nat → Value) → α → Prop) (a0 : α) (hS : Tryd.prog.underlying S = some (.slice T)) (hC : Tryd.prog.cellsOf T = k) (hk : 0 < k) (hb : Tryd.prog.bytesOf T = bytes)
    (one : ∀ V a, EC V a → ∀ j, j < k → (V j).oneCell' = true)
    (el : ∀ (fuel : Nat) (cs : List Value) (x : DataW H × List MemPlace), DataW.trod enc Tryd.prog W base (fun _ => true) true fuel T cs = some x → Light x.1 T → cs.length = k ∧ ∃ a, EC (fun j => cs.getD j undef) a)
    (ext : ∀ V U a, EC V a → (∀ j, j < k → V j = U j) → EC U a)
    {fuel : Nat} {cs : List Value} {x : DataW H × List MemPlace} (h : DataW.trod enc Tryd.prog W base (fun _ => true) true fuel S cs = some x) (hl : Light x.1 S) :
    ∃ v l, cs = [v] ∧ ∃ p g o c V, v = .slice p (List.length l) c ∧ l.length * bytes ≤ 140737488351232 ∧ VRow k W p g o l.length c V ∧ ∀ i (h : i < l.length), EC (fun j => V (i * k + j)) l[i] := by
  rcases open_slice hS h with ⟨hcs, _⟩ | ⟨q, len, cap, m, n, D, Pl, hcs, _, hle, hm, hmm, hx, hi⟩
  · exact ⟨.slice none 0 0, [], hcs, none, 0, 0, 0, fun _ => undef, rfl, by simp, VRow.nothing _ _ _, fun i h => absurd h (by simp)⟩
  · simp only [if_pos] at hmm
    subst hmm
    have hd' : x.1 = .slice ((List.range len).map D) ((List.range (m - len)).map fun j => D (len + j)) := by simpa using congrArg Prod.fst hx
    rw [hd'] at hl
    obtain ⟨hs, hl2⟩ := light_slice hl hS
    rw [hb] at hs
    simp only [List.length_map, List.length_range, reachBytes] at hs
    have key : ∀ i : Nat, ∃ r : (Nat → Value) × α, i < len → EC r.1 r.2 ∧ ∀ j, j < k → W.cell? ((q.add (i * k)).add j) = some (r.1 j) := fun i => by
      by_cases hlt : i < len
      · obtain ⟨cs', hc, ht⟩ := hi i (by omega)
        rw [hC] at hc
        obtain ⟨hlen, a, ha⟩ := el _ _ _ ht (hl2 _ (List.mem_map.2 ⟨i, by simpa using hlt, rfl⟩))
        refine ⟨⟨fun j => cs'.getD j undef, a⟩, fun _ => ⟨ha, fun j hj => ?_⟩⟩
        obtain ⟨_, hcl, hat⟩ := World.cells?_some hc
        show W.cell? ((q.add (i * k)).add j) = some (cs'.getD j undef)
        rw [hat j hj, List.getD_eq_getElem?_getD, List.getElem?_eq_getElem (by omega)]
        rfl
      · exact ⟨⟨fun _ => undef, a0⟩, fun h => absurd h hlt⟩
    obtain ⟨r, hr⟩ := Classical.axiomOfChoice key
    have hq : 0 < len → q = ⟨q.block, q.off, none⟩ := fun h0 => by
      have h1 := (hr 0 h0).2 0 hk
      obtain ⟨b, o, s⟩ := q
      have hsp : s = none := by simpa [Addr.add] using World.cell?_spot h1
      subst hsp
      rfl
    refine ⟨_, (List.range len).map fun i => (r i).2, hcs, some q, q.block, q.off, m, fun i => (r (i / k)).1 (i % k), by simp, by
      have h1 : len * bytes ≤ (len + (m - len)) * bytes := Nat.mul_le_mul_right _ (by omega)
      simp only [List.length_map, List.length_range]
      omega, ?_, fun i hi' => ?_⟩
    · simp only [List.length_map, List.length_range]
      have div : ∀ i, i < len * k → i / k < len := fun i hi => (Nat.div_lt_iff_lt_mul hk).2 hi
      refine ⟨hle, hm, fun h => (by cases h), fun h0 => congrArg some (hq h0), fun i hi => ?_, fun i hi => one _ _ (hr _ (div i hi)).1 _ (Nat.mod_lt _ hk)⟩
      have h1 := (hr (i / k) (div i hi)).2 (i % k) (Nat.mod_lt _ hk)
      have h0 : 0 < len := Nat.lt_of_le_of_lt (Nat.zero_le _) (div i hi)
      rw [hq h0, row_add, row_add] at h1
      have e : q.off + i / k * k + i % k = q.off + i := by rw [Nat.add_assoc, Nat.mul_comm, Nat.div_add_mod]
      rw [e] at h1
      exact h1
    · simp only [List.length_map, List.length_range] at hi'
      rw [List.getElem_map, List.getElem_range]
      refine ext _ _ _ (hr i hi').1 fun j hj => ?_
      show (r i).1 j = (r ((i * k + j) / k)).1 ((i * k + j) % k)
      rw [Nat.mul_comm i k, Nat.mul_add_div hk, Nat.div_eq_of_lt hj, Nat.add_zero, Nat.mul_add_mod, Nat.mod_eq_of_lt hj]
theorem open_texts' {fuel : Nat} {cs : List Value} {x : DataW H × List MemPlace} (h : DataW.trod enc Tryd.prog W base (fun _ => true) true fuel 62 cs = some x) (hl : Light x.1 62) : ∃ v t, cs = [v] ∧ TextsAt W v t := by
  obtain ⟨v, l, hcs, p, g, o, c, V, hv, hb, R, hi⟩ := open_rowsL (S := 62) (T := 31) (k := 1) (bytes := 24) (fun V t => TextAt W (V 0) t) [] Tryd.underlying62 (by kernel_rfl) (by omega) (by kernel_rfl)
    (fun V a h j hj => by obtain rfl : j = 0 := by omega
                          exact h.one)
    (fun fuel cs x h hl => by
      obtain ⟨v, t, rfl, ht⟩ := open_text' h hl
      exact ⟨rfl, t, ht⟩)
    (fun V U a h e => by rw [← e 0 (by omega)]; exact h) h hl
  exact ⟨v, l, hcs, p, g, o, c, V, hv, hb, R, fun i h => by
    have h1 : TextAt W (V (i * 1 + 0)) l[i] := hi i h
    rwa [Nat.mul_one, Nat.add_zero] at h1⟩
theorem field_at {T : TypeId} {L : List (TypeId × Nat)} (h : (Tryd.prog.fieldsOf T).toList.map (fun f => (f.type, f.offset)) = L) {j : Nat} {ty : TypeId} {o : Nat} (hj : L[j]? = some (ty, o)) : ∃ f, (Tryd.prog.fieldsOf T)[j]? = some f ∧ f.type = ty ∧ f.offset = o := by
  rw [← h, List.getElem?_map] at hj
  obtain ⟨f, hf, e⟩ := Option.map_eq_some_iff.1 hj
  refine ⟨f, by simpa using hf, ?_, ?_⟩
  · exact congrArg Prod.fst e
  · exact congrArg Prod.snd e
/-- A struct's field, with its reading. -/
theorem open_field {T : TypeId} {L : List (TypeId × Nat)} (hs : Tryd.prog.underlying T = some (.struct (Tryd.prog.fieldsOf T))) (h : (Tryd.prog.fieldsOf T).toList.map (fun f => (f.type, f.offset)) = L)
    {fuel : Nat} {cs : List Value} {x : DataW H × List MemPlace} (ht : DataW.trod enc Tryd.prog W base (fun _ => true) true fuel T cs = some x) (hl : Light x.1 T) {j : Nat} {ty : TypeId} {o : Nat} (hj : L[j]? = some (ty, o)) :
    ∃ m y, DataW.trod enc Tryd.prog W base (fun _ => true) true m ty ((cs.drop o).take (Tryd.prog.cellsOf ty)) = some y ∧ Light y.1 ty := by
  obtain ⟨f, hf, rfl, rfl⟩ := field_at h hj
  obtain ⟨xs, n, _, hx, _, hxl, hi⟩ := DataW.trod_struct hs ht
  have hjl : j < xs.length := by rw [hxl]; exact (Array.getElem?_eq_some_iff.1 hf).1
  have h1 := hi j f hf
  rw [List.getElem?_eq_getElem hjl] at h1
  refine ⟨n, _, h1, ?_⟩
  rw [hx] at hl
  exact light_struct hl hs hf (by rw [List.getElem?_map, List.getElem?_eq_getElem hjl]; rfl)
theorem drop_one {cs : List Value} {o : Nat} {v : Value} (h : (cs.drop o).take 1 = [v]) : cs.getD o undef = v ∧ o < cs.length := by
  have hl : o < cs.length := by
    rcases Nat.lt_or_ge o cs.length with q | q
    · exact q
    · rw [List.drop_eq_nil_of_le q] at h; cases h
  rw [List.drop_eq_getElem_cons hl] at h
  simp only [List.take_succ_cons, List.take_zero, List.cons.injEq, and_true] at h
  exact ⟨by rw [List.getD_eq_getElem?_getD, List.getElem?_eq_getElem hl, h]; rfl, hl⟩
theorem in_fields : (Tryd.prog.fieldsOf 64).toList.map (fun f => (f.type, f.offset)) = [(61, 0), (31, 33), (22, 34), (62, 35)] := by kernel_rfl
theorem in_is : Tryd.prog.underlying 64 = some (.struct (Tryd.prog.fieldsOf 64)) := by kernel_rfl
theorem pt_fields : (Tryd.prog.fieldsOf 61).toList.map (fun f => (f.type, f.offset)) = [(24, 0), (22, 32)] := by kernel_rfl
theorem pt_is : Tryd.prog.underlying 61 = some (.struct (Tryd.prog.fieldsOf 61)) := by kernel_rfl
theorem out_fields : (Tryd.prog.fieldsOf 66).toList.map (fun f => (f.type, f.offset)) = [(2, 0), (31, 1)] := by kernel_rfl
theorem out_is : Tryd.prog.underlying 66 = some (.struct (Tryd.prog.fieldsOf 66)) := by kernel_rfl
theorem tx_fields : (Tryd.prog.fieldsOf 44).toList.map (fun f => (f.type, f.offset)) = [(22, 0), (41, 1), (42, 2), (22, 3)] := by kernel_rfl
theorem tx_is : Tryd.prog.underlying 44 = some (.struct (Tryd.prog.fieldsOf 44)) := by kernel_rfl
theorem cells_b : Tryd.prog.cellsOf 31 = 1 := by kernel_rfl
theorem cells_bb : Tryd.prog.cellsOf 62 = 1 := by kernel_rfl
theorem cells_32 : Tryd.prog.cellsOf 22 = 1 := by kernel_rfl
theorem cells_ins : Tryd.prog.cellsOf 41 = 1 := by kernel_rfl
theorem cells_outs : Tryd.prog.cellsOf 42 = 1 := by kernel_rfl
theorem cells_2 : Tryd.prog.cellsOf 2 = 1 := by kernel_rfl
theorem cells_h : Tryd.prog.cellsOf 24 = 32 := by kernel_rfl
theorem cells_pt : Tryd.prog.cellsOf 61 = 33 := by kernel_rfl
theorem open_in' {fuel : Nat} {cs : List Value} {x : DataW H × List MemPlace} (h : DataW.trod enc Tryd.prog W base (fun _ => true) true fuel 64 cs = some x) (hl : Light x.1 64) : cs.length = 36 ∧ ∃ t, InCells W (fun j => cs.getD j undef) t := by
  obtain ⟨_, _, _, _, hcl, _⟩ := DataW.trod_struct in_is h
  have hC : Tryd.prog.cellsOf 64 = 36 := by kernel_rfl
  rw [hC] at hcl
  obtain ⟨m0, y0, h0, l0⟩ := open_field in_is in_fields h hl (j := 0) rfl
  obtain ⟨m1, y1, h1, l1⟩ := open_field in_is in_fields h hl (j := 1) rfl
  obtain ⟨m2, y2, h2, l2⟩ := open_field in_is in_fields h hl (j := 2) rfl
  obtain ⟨m3, y3, h3, l3⟩ := open_field in_is in_fields h hl (j := 3) rfl
  obtain ⟨n0, z0, e0, q0⟩ := open_field pt_is pt_fields h0 l0 (j := 0) rfl
  obtain ⟨n1, z1, e1, q1⟩ := open_field pt_is pt_fields h0 l0 (j := 1) rfl
  rw [cells_pt, List.drop_zero] at e0 e1
  rw [cells_h, List.drop_zero] at e0
  rw [cells_32] at e1 h2
  rw [cells_b] at h1
  rw [cells_bb] at h3
  obtain ⟨hl0, a, ha, hab, haj⟩ := open_id' e0
  obtain ⟨ix, hix, c1⟩ := open_u32' e1
  obtain ⟨v, s, c2, hs⟩ := open_text' h1 l1
  obtain ⟨sq, hsq, c3⟩ := open_u32' h2
  obtain ⟨u, ws, c4, hw⟩ := open_texts' h3 l3
  have d1 := drop_one c1
  refine ⟨hcl, ⟨a, ix, s, sq, ws⟩, ha, hab, fun j hj => ?_, ?_, hix, ?_, (drop_one c3).1, hsq, ?_⟩
  · have := haj j hj
    rw [List.getElem?_take, if_pos hj, List.getElem?_take, if_pos (by omega)] at this
    show cs.getD j undef = _
    rw [List.getD_eq_getElem?_getD, this]
    rfl
  · have := d1.1
    rw [List.getD_eq_getElem?_getD, List.getElem?_take, if_pos (by omega), ← List.getD_eq_getElem?_getD] at this
    exact this
  · show TextAt W (cs.getD 33 undef) s
    rw [(drop_one c2).1]
    exact hs
  · show TextsAt W (cs.getD 35 undef) ws
    rw [(drop_one c4).1]
    exact hw
theorem open_out' {fuel : Nat} {cs : List Value} {x : DataW H × List MemPlace} (h : DataW.trod enc Tryd.prog W base (fun _ => true) true fuel 66 cs = some x) (hl : Light x.1 66) : cs.length = 2 ∧ ∃ t, OutCells W (fun j => cs.getD j undef) t := by
  obtain ⟨_, _, _, _, hcl, _⟩ := DataW.trod_struct out_is h
  have hC : Tryd.prog.cellsOf 66 = 2 := by kernel_rfl
  rw [hC] at hcl
  obtain ⟨m0, y0, h0, l0⟩ := open_field out_is out_fields h hl (j := 0) rfl
  obtain ⟨m1, y1, h1, l1⟩ := open_field out_is out_fields h hl (j := 1) rfl
  rw [cells_2] at h0
  rw [cells_b] at h1
  obtain ⟨z, hz, c1⟩ := open_i64' h0
  obtain ⟨v, s, c2, hs⟩ := open_text' h1 l1
  refine ⟨hcl, ⟨z, s⟩, (drop_one c1).1, hz, ?_⟩
  show TextAt W (cs.getD 1 undef) s
  rw [(drop_one c2).1]
  exact hs
theorem InCells.to {V U : Nat → Value} {t : TIn} (h : InCells W V t) (e : ∀ x, x < 36 → V x = U x) : InCells W U t :=
  ⟨h.len, h.idB, fun j hj => by rw [← e j (by omega)]; exact h.id j hj, by rw [← e 32 (by omega)]; exact h.idx, h.idxB, by rw [← e 33 (by omega)]; exact h.sc, by rw [← e 34 (by omega)]; exact h.sq, h.sqB, by rw [← e 35 (by omega)]; exact h.wit⟩
theorem OutCells.to {V U : Nat → Value} {t : TOut} (h : OutCells W V t) (e : ∀ x, x < 2 → V x = U x) : OutCells W U t :=
  ⟨by rw [← e 0 (by omega)]; exact h.val, h.valB, by rw [← e 1 (by omega)]; exact h.sc⟩
theorem OutCells.one {V : Nat → Value} {t : TOut} (h : OutCells W V t) : ∀ j, j < 2 → (V j).oneCell' = true := fun j hj => by
  have : j = 0 ∨ j = 1 := by omega
  rcases this with rfl | rfl
  · rw [h.val]; rfl
  · exact h.sc.one
theorem tx_one {V : Nat → Value} {t : TTx} (h : TxCells W V t) : (arr 4 V).all (·.oneCell') = true := Array.all_eq_true_iff_forall_mem.2 fun v hv => by
  obtain ⟨j, hj, rfl⟩ := Array.getElem_of_mem hv
  rw [arr_size] at hj
  have e : (arr 4 V)[j]? = some (V j) := arr_get 4 V j hj
  rw [Array.getElem?_eq_getElem (by rw [arr_size]; exact hj)] at e
  injection e with e
  rw [e]
  have : j = 0 ∨ j = 1 ∨ j = 2 ∨ j = 3 := by omega
  rcases this with rfl | rfl | rfl | rfl
  · rw [h.ver]; rfl
  · obtain ⟨p, g, o, c, U, hv, _⟩ := h.ins
    rw [hv]; rfl
  · obtain ⟨p, g, o, c, U, hv, _⟩ := h.outs
    rw [hv]; rfl
  · rw [h.lock]; rfl
theorem open_tx' {fuel : Nat} {cs : List Value} {x : DataW H × List MemPlace} (h : DataW.trod enc Tryd.prog W base (fun _ => true) true fuel 44 cs = some x) (hl : Light x.1 44) : cs.length = 4 ∧ ∃ t, TxCells W (fun j => cs.getD j undef) t := by
  obtain ⟨_, _, _, _, hcl, _⟩ := DataW.trod_struct tx_is h
  have hC : Tryd.prog.cellsOf 44 = 4 := by kernel_rfl
  rw [hC] at hcl
  obtain ⟨m0, y0, h0, l0⟩ := open_field tx_is tx_fields h hl (j := 0) rfl
  obtain ⟨m1, y1, h1, l1⟩ := open_field tx_is tx_fields h hl (j := 1) rfl
  obtain ⟨m2, y2, h2, l2⟩ := open_field tx_is tx_fields h hl (j := 2) rfl
  obtain ⟨m3, y3, h3, l3⟩ := open_field tx_is tx_fields h hl (j := 3) rfl
  rw [cells_32] at h0 h3
  rw [cells_ins] at h1
  rw [cells_outs] at h2
  obtain ⟨a, ha, c0⟩ := open_u32' h0
  obtain ⟨b, hb, c3⟩ := open_u32' h3
  obtain ⟨v1, ins, c1, hi⟩ := open_rowsL (S := 41) (T := 64) (k := 36) (bytes := 96) (fun V t => InCells W V t) ⟨[], 0, [], 0, []⟩ Tryd.underlying41 (by kernel_rfl) (by omega) (by kernel_rfl) (fun V a h => h.one) (fun fuel cs x h hl => open_in' h hl) (fun V U a h e => h.to e) h1 l1
  obtain ⟨v2, outs, c2, ho⟩ := open_rowsL (S := 42) (T := 66) (k := 2) (bytes := 32) (fun V t => OutCells W V t) ⟨0, []⟩ Tryd.underlying42 (by kernel_rfl) (by omega) (by kernel_rfl) (fun V a h => h.one) (fun fuel cs x h hl => open_out' h hl) (fun V U a h e => h.to e) h2 l2
  refine ⟨hcl, ⟨a, ins, outs, b⟩, (drop_one c0).1, ha, ?_, ?_, (drop_one c3).1, hb⟩
  · show InsAt W (cs.getD 1 undef) ins
    rw [(drop_one c1).1]
    exact hi
  · show OutsAt W (cs.getD 2 undef) outs
    rw [(drop_one c2).1]
    exact ho
theorem open_tx {v : Value} {d : DataW H} {p : List MemPlace} {ts : List TypeId} {ds : List (DataW H)} {j : Nat} {b0 : Nat}
    (hv : Value.okWide Tryd.prog W .any b0 44 v) (hd : DataW.Trod enc Tryd.prog W base (fun _ => true) true 44 v d p)
    (hsz : (DataW.weightsEach Tryd.prog ts ds).all (· ≤ reachBytes) = true) (hts : ts[j]? = some 44) (hds : ds[j]? = some d) : ∃ t, TxAt W v t := by
  obtain ⟨cs, rfl, hsz2⟩ := okWide_struct tx_is hv
  obtain ⟨fuel, hf⟩ := hd
  obtain ⟨hcl, t, ht⟩ := open_tx' hf (light_of hsz hts hds)
  refine ⟨t, fun j => cs.toList.getD j undef, ?_, ht⟩
  congr 1
  apply Array.ext_getElem?
  intro i
  have h4 : cs.size = 4 := by simpa [Value.cells] using hcl
  rcases Nat.lt_or_ge i 4 with q | q
  · rw [arr_get 4 _ i q, List.getD_eq_getElem?_getD, Array.getElem?_toList, Array.getElem?_eq_getElem (by omega)]
    rfl
  · rw [Array.getElem?_eq_none (by omega), Array.getElem?_eq_none (by rw [arr_size]; exact q)]
theorem open_texts_arg {v : Value} {d : DataW H} {p : List MemPlace} {ts : List TypeId} {ds : List (DataW H)} {j : Nat} {b0 : Nat}
    (hv : Value.okWide Tryd.prog W .any b0 62 v) (hd : DataW.Trod enc Tryd.prog W base (fun _ => true) true 62 v d p)
    (hsz : (DataW.weightsEach Tryd.prog ts ds).all (· ≤ reachBytes) = true) (hts : ts[j]? = some 62) (hds : ds[j]? = some d) : ∃ t, TextsAt W v t := by
  obtain ⟨a, len, cap, rfl⟩ := okWide_slice Tryd.underlying62 hv
  obtain ⟨fuel, hf⟩ := hd
  obtain ⟨v, t, hcs, ht⟩ := open_texts' hf (light_of hsz hts hds)
  refine ⟨t, ?_⟩
  have e : [Value.slice a len cap] = [v] := by simpa [Value.cells] using hcs
  injection e with e
  rw [e]
  exact ht
end
end Go.Proofs.YtgicnmfodbenlaaDoor
end
section
set_option linter.unusedSimpArgs false
set_option linter.unusedVariables false
set_option maxRecDepth 100000
namespace Go.Proofs.YtgicnmfodbenlaaDoor
open Go.RowKit Go.Lib Go.Sort

/-- The error of writing a transaction. -/
def errOf (t : TTx) : Int := if canB t then 0 else 1
/-- A transaction's hash. -/
def idOf (t : TTx) : List Nat := if canB t then dbl (txB false t) else tl (fun _ => 0) 32
theorem isH_idOf (t : TTx) : IsH (idOf t) := by
  unfold idOf
  split
  · exact isH_dbl _
  · exact ⟨tl_length _ _, isB_tl (x := fun _ => 0) (fun _ => by omega) 32⟩
theorem zeros32' : arr 32 (bv fun _ => 0) = arr 32 (bv (lf (tl (fun _ => 0) 32))) := arr_congr fun i hi => by
  unfold bv
  rw [lf_tl _ hi]
theorem txB_le {W : World} {V : Nat → Value} {t : TTx} (A : TxCells W V t) (hc : canB t = true) (m : Bool) : (txB m t).length ≤ 2100000000 := by
  have h := parts_le (can_facts hc) A.idlen
  unfold txB
  cases m
  · simp only [List.length_append, low_length, List.length_nil, Bool.false_eq_true, if_false]
    omega
  · simp only [List.length_append, low_length, List.length_cons, List.length_nil, if_true]
    omega

set_option maxHeartbeats 4000000 in
theorem rtxid_good {W : World} {V : Nat → Value} {t : TTx} (A : Hid (TxCells W V t)) (hc : canB t = true) : Calls Tryd.prog 13 #[.agg (arr 4 V)] W fun e w' => e = .returned (.tuple #[.agg (arr 32 (bv (lf (dbl (txB false t))))), .int .i64 0]) ∧ Below W.heap.size W w' := by
  have E := Lib.hid (Mem.nil W)
  have AT : TxAt W (.agg (arr 4 V)) t := ⟨V, rfl, A.out⟩
  have LE := Lib.hid (txB_le A.out hc false)
  have EN := Lib.hid (show ∀ w', Below W.heap.size W w' → Calls Tryd.prog 23 #[.agg (arr 4 V), .bool false] w' fun e w'' => ∃ p g c, e = .returned (.tuple #[.slice p (txB false t).length c, .int .i64 0]) ∧ Own w'.heap.size w'' p g (txB false t).length c (lf (txB false t)) ∧ Below w'.heap.size w' w'' from fun w' hb => by
    have := rtxenc_any (Lib.hid (AT.below hb)) false
    unfold Enc at this
    rw [hc] at this
    exact this)
  obtain ⟨bs, hbs⟩ : ∃ bs, bs = txB false t := ⟨_, rfl⟩
  rw [← hbs] at LE EN ⊢
  clear hbs AT A hc
  go_enter Tryd.func13, Tryd.ntmps13
  go_wp2_with (first
    | (refine mem_box E 44 rfl _ rfl rfl (arr_cells' 4 V) ?_; clear E; intro b1 w1 E)
    | (refine mem_alloc E 24 rfl rfl infoHash ?_; clear E; intro b2 w2 E; simp only [arr_cells'] at E)
    | (refine mem_load_row E 44 rfl (.tmp 1) rfl rfl (List.mem_cons_of_mem _ List.mem_cons_self) Tryd.underlying44 rfl (by simp only [arr_size]; kernel_rfl) ?_)
    | (go_at_call 23; refine (EN.out _ E.out.below).mono ?_; rintro e w3 ⟨p, g, c, rfl, N, hb⟩; replace E := Lib.hid (E.out.call hb); have R := Lib.hid N.row; clear hb N)
    | (go_at_call 26; refine (ref_double_l R (by have := LE.out; omega)).mono ?_; rintro e w4 ⟨rfl, hb⟩; replace E := Lib.hid (E.out.call hb); clear hb)
    | (refine mem_store_row 0 E 24 rfl (.tmp 2) (.tmp 16) rfl rfl rfl rfl (by kernel_rfl) (by simp only [arr_size]) (bv_one _ _) ?_; clear E; intro w6 E; simp only [List.set_cons_zero, List.set_cons_succ] at E))
  exact bodyPost_ret (res_row_tmp (fn := Tryd.f13) (p := 2) (u := 3) rfl _ _ b2 32 24 _ _ rfl (E.out.get List.mem_cons_self) Tryd.underlying24 rfl (by kernel_rfl)) rfl ⟨rfl, E.out.below⟩
set_option maxHeartbeats 4000000 in
theorem rtxid_bad {W : World} {V : Nat → Value} {t : TTx} (A : Hid (TxCells W V t)) (hc : canB t = false) : Calls Tryd.prog 13 #[.agg (arr 4 V)] W fun e w' => e = .returned (.tuple #[.agg (arr 32 (bv fun _ => 0)), .int .i64 1]) ∧ Below W.heap.size W w' := by
  have E := Lib.hid (Mem.nil W)
  have AT : TxAt W (.agg (arr 4 V)) t := ⟨V, rfl, A.out⟩
  have EN := Lib.hid (show ∀ w', Below W.heap.size W w' → Calls Tryd.prog 23 #[.agg (arr 4 V), .bool false] w' fun e w'' => e = .returned (.tuple #[.slice none 0 0, .int .i64 1]) ∧ Below w'.heap.size w' w'' from fun w' hb => by
    have := rtxenc_any (Lib.hid (AT.below hb)) false
    unfold Enc at this
    rw [hc] at this
    exact this)
  clear AT A hc
  go_enter Tryd.func13, Tryd.ntmps13
  go_wp2_with (first
    | (refine mem_box E 44 rfl _ rfl rfl (arr_cells' 4 V) ?_; clear E; intro b1 w1 E)
    | (refine mem_alloc E 24 rfl rfl infoHash ?_; clear E; intro b2 w2 E; simp only [arr_cells'] at E)
    | (refine mem_load_row E 44 rfl (.tmp 1) rfl rfl (List.mem_cons_of_mem _ List.mem_cons_self) Tryd.underlying44 rfl (by simp only [arr_size]; kernel_rfl) ?_)
    | (go_at_call 23; refine (EN.out _ E.out.below).mono ?_; rintro e w3 ⟨rfl, hb⟩; replace E := Lib.hid (E.out.call hb); clear hb)
    | (refine wpList_bld 24 _ rfl rfl (ps := #[]) (by kernel_rfl) built_hash0 ?_)
    | (refine mem_store_row 0 E 24 rfl (.tmp 2) (.tmp 13) rfl rfl rfl rfl (by kernel_rfl) (by simp only [arr_size]) (bv_one _ _) ?_; clear E; intro w6 E; simp only [List.set_cons_zero, List.set_cons_succ] at E))
  exact bodyPost_ret (res_row_tmp (fn := Tryd.f13) (p := 2) (u := 3) rfl _ _ b2 32 24 _ _ rfl (E.out.get List.mem_cons_self) Tryd.underlying24 rfl (by kernel_rfl)) rfl ⟨rfl, E.out.below⟩
theorem rtxid_any {W : World} {v : Value} {t : TTx} (A : Hid (TxAt W v t)) : Calls Tryd.prog 13 #[v] W fun e w' => e = .returned (.tuple #[.agg (arr 32 (bv (lf (idOf t)))), .int .i64 (errOf t)]) ∧ Below W.heap.size W w' := by
  obtain ⟨V, rfl, A1⟩ := A.out
  unfold idOf errOf
  by_cases hc : canB t = true
  · rw [if_pos hc, if_pos hc]
    exact rtxid_good (Lib.hid A1) hc
  · rw [if_neg hc, if_neg hc, ← zeros32']
    exact rtxid_bad (Lib.hid A1) (by simpa using hc)

theorem inz_one (i : Nat) : (inz i).oneCell' = true := by
  unfold inz
  split
  · rfl
  · split
    · rfl
    · rfl
theorem arr36 (V : Nat → Value) : (arr 36 V).toList = vs V (1 * 36) := by
  rw [← vs_arr]
/-- A small transaction. -/
def tx0 : TTx := ⟨0, [⟨tl (fun _ => 0) 32, 0, [], 0, []⟩], [], 0⟩
theorem can_tx0 : canB tx0 = true := by decide
theorem has_tx0 : tx0.ins.any hasB = false := by decide
theorem len_tx0 : (txB false tx0).length = 51 := by
  have e1 : (inB ⟨tl (fun _ => 0) 32, 0, [], 0, []⟩).length = 41 := by
    unfold inB text
    simp only [List.length_append, low_length, tl_length, cnt_length, List.length_nil]
    rfl
  unfold txB tx0 listB
  simp only [List.length_append, low_length, cnt_length, List.map_cons, List.map_nil, List.flatten_cons, List.flatten_nil, List.length_cons, List.length_nil, e1, Bool.false_eq_true, if_false]
  rfl
def tx0v (a : Value) : Nat → Value := fun i => if i = 1 then a else if i = 2 then .slice none 0 0 else .int .u32 0
theorem built_in0 : Tryd.prog.built 64 (#[] : Array (Nat × Value)).toList = some (arr 36 inz) := by kernel_rfl
theorem built_tx0 (p : Option Addr) : Tryd.prog.built 44 (#[(1, .slice p 1 1)] : Array (Nat × Value)).toList = some (arr 4 (tx0v (.slice p 1 1))) := by kernel_rfl
theorem tx0_at {w : World} {B : Nat} {p : Option Addr} {g : Nat} (N : VOwn 64 36 B w p g 1 1 inz) : TxAt w (.agg (arr 4 (tx0v (.slice p 1 1)))) tx0 := by
  have nl : TextAt w (.slice none 0 0) [] := ⟨none, 0, 0, 0, rfl, by simp, Row.nothing _ _ (lf_lt isB_nil)⟩
  refine ⟨_, rfl, rfl, by decide, ⟨p, g, 0, 1, inz, rfl, by decide, N.row, fun i hi => ?_⟩, ⟨none, 0, 0, 0, fun _ => undef, rfl, by decide, VRow.nothing _ _ _, fun i hi => absurd hi (by simp [tx0])⟩, rfl, by decide⟩
  obtain rfl : i = 0 := by
    have : i < 1 := hi
    omega
  have z : ∀ j, j < 32 → lf (tl (fun _ => 0) 32) j = 0 := fun j hj => lf_tl _ hj
  refine ⟨tl_length _ _, isB_tl (x := fun _ => 0) (fun _ => by omega) 32, fun j hj => ?_, rfl, (by show (0 : Nat) < 4294967296; decide), nl, rfl, (by show (0 : Nat) < 4294967296; decide), ⟨none, 0, 0, 0, fun _ => undef, rfl, (by show (0 : Nat) * 24 ≤ 140737488351232; decide), VRow.nothing _ _ _, fun i hi => absurd hi (by simp [tx0])⟩⟩
  show inz (0 * 36 + j) = byv (lf (tl (fun _ => 0) 32) j)
  rw [z j hj, Nat.zero_mul, Nat.zero_add]
  unfold inz byv
  rw [if_pos hj]
  rfl
end Go.Proofs.YtgicnmfodbenlaaDoor
end

