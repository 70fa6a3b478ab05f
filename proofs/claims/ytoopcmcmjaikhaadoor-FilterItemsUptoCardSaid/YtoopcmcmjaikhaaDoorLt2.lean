/- What arguments of the types [][]byte and Hash are, in a law over plain data. -/
import Derived.Test.YtoopcmcmjaikhaaDoorFi
import Derived.Test.YtoopcmcmjaikhaaDoorZA
import Derived.Deep.Slices
import Derived.Lib.SmallJoins
set_option linter.unusedSimpArgs false
set_option linter.unusedVariables false
set_option maxRecDepth 100000
namespace Go.Proofs.YtoopcmcmjaikhaaDoor
open Go.ChangeShapes Go.WideShapes Go.ChangeAt Go.RowKit Go.Lib Go.Deep

/-- No part of it weighs more than is in reach. -/
def Light {H : Type} (d : DataW H) (t : TypeId) : Prop := ∀ n, n ∈ d.weights Tryd.prog t → n ≤ reachBytes
theorem light_of {H : Type} {ts : List TypeId} {ds : List (DataW H)} (h : (DataW.weightsEach Tryd.prog ts ds).all (· ≤ reachBytes) = true) {j : Nat} {t : TypeId} {d : DataW H} (ht : ts[j]? = some t) (hd : ds[j]? = some d) : Light d t := fun n hn => by
  have := List.all_eq_true.1 h _ (DataW.weights_mem_each ht hd n hn)
  simpa using this
theorem mem_weightsAll {H : Type} {e : TypeId} {d : DataW H} : ∀ {l : List (DataW H)}, d ∈ l → ∀ n, n ∈ d.weights Tryd.prog e → n ∈ DataW.weightsAll Tryd.prog e l
  | [], h, _, _ => by cases h
  | x :: l, h, n, hn => by
    simp only [DataW.weightsAll, List.mem_append]
    rcases List.mem_cons.1 h with rfl | h
    · exact .inl hn
    · exact .inr (mem_weightsAll h n hn)
theorem light_slice {H : Type} {S e : TypeId} {elems spare : List (DataW H)} (h : Light (.slice elems spare) S) (hu : Tryd.prog.underlying S = some (.slice e)) : (elems.length + spare.length) * Tryd.prog.bytesOf e ≤ reachBytes ∧ ∀ d, d ∈ elems → Light d e := by
  refine ⟨h _ (by simp [DataW.weights, hu]), fun d hd n hn => h n ?_⟩
  simp only [DataW.weights, hu, List.mem_cons, List.mem_append]
  exact .inr (.inl (mem_weightsAll hd n hn))
theorem light_struct {H : Type} {T : TypeId} {fs : Array Field} {parts : List (DataW H)} (h : Light (.agg parts) T) (hu : Tryd.prog.underlying T = some (.struct fs)) {j : Nat} {f : Field} {d : DataW H} (hf : fs[j]? = some f) (hd : parts[j]? = some d) : Light d f.type := fun n hn => h n (by
  simp only [DataW.weights, hu]
  exact DataW.weights_mem_each (j := j) (by rw [List.getElem?_map, Array.getElem?_toList, hf]; rfl) hd n hn)
section
variable {H : Type} {enc : TypeId × Value → H} {W : World} {base : Nat}
theorem open_text' {fuel : Nat} {cs : List Value} {x : DataW H × List MemPlace} (h : DataW.trod enc Tryd.prog W base (fun _ => true) true fuel 32 cs = some x) (hl : Light x.1 32) : ∃ v t, cs = [v] ∧ TextAt W v t := by
  rcases open_ints Tryd.underlying32 Tryd.underlying5 (by kernel_rfl) h with ⟨hcs, _⟩ | ⟨q, l, c, zs, hcs, _, hlc, hm, hz, hx, hcell, hwz⟩
  · exact ⟨.slice none 0 0, [], hcs, none, 0, 0, 0, rfl, by simp, Row.nothing _ _ (lf_lt isB_nil)⟩
  · have hz' : zs.length = c := by simpa using hz
    have hd' : x.1 = .slice (lits .u8 (zs.take l)) (lits .u8 (zs.drop l)) := by simpa using congrArg Prod.fst hx
    rw [hd'] at hl
    have hs := (light_slice hl Tryd.underlying32).1
    rw [b5] at hs
    simp only [lits, List.length_map, List.length_take, List.length_drop, reachBytes] at hs
    have hr := range_u8 hwz
    have R : Row W (some q) q.block q.off l c (fun i => (zs[i]?.getD 0).toNat) := ⟨hlc, by unfold maxLen; omega, fun h => (by cases h), fun h0 => by
      have h1 := hcell 0 (by omega)
      obtain ⟨b, o, s⟩ := q
      have hsp : s = none := by simpa [Addr.add] using World.cell?_spot h1
      subst hsp
      rfl, fun i hi => by
      have h1 := hcell i (by omega)
      have h0 := hcell 0 (by omega)
      have hri := hr i
      obtain ⟨b, o, s⟩ := q
      have hsp : s = none := by simpa [Addr.add] using World.cell?_spot h0
      subst hsp
      rw [row_add] at h1
      rw [Int.toNat_of_nonneg hri.1]
      simpa using h1, fun i => by have := hr i; omega⟩
    refine ⟨_, tl (fun i => (zs[i]?.getD 0).toNat) l, hcs, some q, q.block, q.off, c, by rw [tl_length], by rw [tl_length]; omega, R.tl⟩
/-- Elements of a slice, each a row of k cells with a reading of its own. -/
theorem open_rowsL {S T k bytes : Nat} {α : Type} (EC : (Nat → Value) → α → Prop) (a0 : α) (hS : Tryd.prog.underlying S = some (.slice T)) (hC : Tryd.prog.cellsOf T = k) (hk : 0 < k) (hb : Tryd.prog.bytesOf T = bytes)
    (one : ∀ V a, EC V a → ∀ j, j < k → (V j).oneCell' = true)
    (el : ∀ (fuel : Nat) (cs : List Value) (x : DataW H × List MemPlace), DataW.trod enc Tryd.prog W base (fun _ => true) true fuel T cs = some x → Light x.1 T → cs.length = k ∧ ∃ a, EC (fun j => cs.getD j undef) a)
    (ext : ∀ V U a, EC V a → (∀ j, j < k → V j = U j) → EC U a)
    {fuel : Nat} {cs : List Value} {x : DataW H × List MemPlace} (h : DataW.trod enc Tryd.prog W base (fun _ => true) true fuel S cs = some x) (hl : Light x.1 S) :
    ∃ v l, cs = [v] ∧ ∃ p g o c V, v = .slice p (List.length l) c ∧ l.length * bytes ≤ 140737488351232 ∧ VRow k W p g o l.length c V ∧ ∀ i (h : i < l.length), EC (fun j => V (i * k + j)) l[i] := by
  rcases open_slice hS h with ⟨hcs, _⟩ | ⟨q, len, cap, m, n, D, Pl, hcs, _, hle, hm, hmm, hx, hi⟩
  · exact ⟨.slice none 0 0, [], hcs, none, 0, 0, 0, fun _ => undef, rfl, by simp, VRow.nothing _ _ _, fun i h => absurd h (by simp)⟩
  · simp only [if_pos] at hmm
    subst hmm
    have hd' : x.1 = .slice ((List.range len).map D) ((List.range (m - len)).map fun j => D (len + j)) := by simpa using congrArg Prod.fst hx
    rw [hd'] at hl
    obtain ⟨hs, hl2⟩ := light_slice hl hS
    rw [hb] at hs
    simp only [List.length_map, List.length_range, reachBytes] at hs
    have key : ∀ i : Nat, ∃ r : (Nat → Value) × α, i < len → EC r.1 r.2 ∧ ∀ j, j < k → W.cell? ((q.add (i * k)).add j) = some (r.1 j) := fun i => by
      by_cases hlt : i < len
      · obtain ⟨cs', hc, ht⟩ := hi i (by omega)
        rw [hC] at hc
        obtain ⟨hlen, a, ha⟩ := el _ _ _ ht (hl2 _ (List.mem_map.2 ⟨i, by simpa using hlt, rfl⟩))
        refine ⟨⟨fun j => cs'.getD j undef, a⟩, fun _ => ⟨ha, fun j hj => ?_⟩⟩
        obtain ⟨_, hcl, hat⟩ := World.cells?_some hc
        show W.cell? ((q.add (i * k)).add j) = some (cs'.getD j undef)
        rw [hat j hj, List.getD_eq_getElem?_getD, List.getElem?_eq_getElem (by omega)]
        rfl
      · exact ⟨⟨fun _ => undef, a0⟩, fun h => absurd h hlt⟩
    obtain ⟨r, hr⟩ := Classical.axiomOfChoice key
    have hq : 0 < len → q = ⟨q.block, q.off, none⟩ := fun h0 => by
      have h1 := (hr 0 h0).2 0 hk
      obtain ⟨b, o, s⟩ := q
      have hsp : s = none := by simpa [Addr.add] using World.cell?_spot h1
      subst hsp
      rfl
    refine ⟨_, (List.range len).map fun i => (r i).2, hcs, some q, q.block, q.off, m, fun i => (r (i / k)).1 (i % k), by simp, by
      have h1 : len * bytes ≤ (len + (m - len)) * bytes := Nat.mul_le_mul_right _ (by omega)
      simp only [List.length_map, List.length_range]
      omega, ?_, fun i hi' => ?_⟩
    · simp only [List.length_map, List.length_range]
      have div : ∀ i, i < len * k → i / k < len := fun i hi => (Nat.div_lt_iff_lt_mul hk).2 hi
      refine ⟨hle, hm, fun h => (by cases h), fun h0 => congrArg some (hq h0), fun i hi => ?_, fun i hi => one _ _ (hr _ (div i hi)).1 _ (Nat.mod_lt _ hk)⟩
      have h1 := (hr (i / k) (div i hi)).2 (i % k) (Nat.mod_lt _ hk)
      have h0 : 0 < len := Nat.lt_of_le_of_lt (Nat.zero_le _) (div i hi)
      rw [hq h0, row_add, row_add] at h1
      have e : q.off + i / k * k + i % k = q.off + i := by rw [Nat.add_assoc, Nat.mul_comm, Nat.div_add_mod]
      rw [e] at h1
      exact h1
    · simp only [List.length_map, List.length_range] at hi'
      rw [List.getElem_map, List.getElem_range]
      refine ext _ _ _ (hr i hi').1 fun j hj => ?_
      show (r i).1 j = (r ((i * k + j) / k)).1 ((i * k + j) % k)
      rw [Nat.mul_comm i k, Nat.mul_add_div hk, Nat.div_eq_of_lt hj, Nat.add_zero, Nat.mul_add_mod, Nat.mod_eq_of_lt hj]
theorem open_texts' {fuel : Nat} {cs : List Value} {x : DataW H × List MemPlace} (h : DataW.trod enc Tryd.prog W base (fun _ => true) true fuel 30 cs = some x) (hl : Light x.1 30) : ∃ v t, cs = [v] ∧ TextsAt W v t := by
  obtain ⟨v, l, hcs, p, g, o, c, V, hv, hb, R, hi⟩ := open_rowsL (S := 30) (T := 32) (k := 1) (bytes := 24) (fun V t => TextAt W (V 0) t) [] Tryd.underlying30 (by kernel_rfl) (by omega) (by kernel_rfl)
    (fun V a h j hj => by obtain rfl : j = 0 := by omega
                          exact h.one)
    (fun fuel cs x h hl => by
      obtain ⟨v, t, rfl, ht⟩ := open_text' h hl
      exact ⟨rfl, t, ht⟩)
    (fun V U a h e => by rw [← e 0 (by omega)]; exact h) h hl
  exact ⟨v, l, hcs, p, g, o, c, V, hv, hb, R, fun i h => by
    have h1 : TextAt W (V (i * 1 + 0)) l[i] := hi i h
    rwa [Nat.mul_one, Nat.add_zero] at h1⟩
/-- A hash. -/
def IsH (a : List Nat) : Prop := a.length = 32 ∧ IsB a
def byv (z : Nat) : Value := .int .u8 ((z : Nat) : Int)
theorem open_u8' {fuel : Nat} {cs : List Value} {x : DataW H × List MemPlace} (h : DataW.trod enc Tryd.prog W base (fun _ => true) true fuel 5 cs = some x) : ∃ z : Nat, z < 256 ∧ cs = [.int .u8 (z : Int)] := by
  obtain ⟨n, rfl, _, hw⟩ := DataW.trod_int Tryd.underlying5 h
  simp [Lit.wf, IntKind.min, IntKind.max, IntKind.bits, IntKind.signed] at hw
  exact ⟨n.toNat, by omega, by congr 2; omega⟩
theorem open_id' {fuel : Nat} {cs : List Value} {x : DataW H × List MemPlace} (h : DataW.trod enc Tryd.prog W base (fun _ => true) true fuel 23 cs = some x) : cs.length = 32 ∧ ∃ a : List Nat, a.length = 32 ∧ IsB a ∧ ∀ j, j < 32 → cs[j]? = some (byv (lf a j)) := by
  obtain ⟨xs, m, _, _, hl, hx, hi⟩ := DataW.trod_array Tryd.underlying23 h
  have hC : Tryd.prog.cellsOf 23 = 32 := by kernel_rfl
  rw [hC] at hl
  have key : ∀ i : Nat, ∃ z : Nat, z < 256 ∧ (i < 32 → cs[i]? = some (.int .u8 (z : Int))) := fun i => by
    by_cases h32 : i < 32
    · have h1 := hi i h32
      rw [cellsB, Nat.mul_one, List.getElem?_eq_getElem (by omega)] at h1
      obtain ⟨z, hz, e⟩ := open_u8' h1
      refine ⟨z, hz, fun _ => ?_⟩
      rw [List.drop_eq_getElem_cons (by omega)] at e
      simp only [List.take_succ_cons, List.take_zero, List.cons.injEq, and_true] at e
      rw [List.getElem?_eq_getElem (by omega), e]
    · exact ⟨0, by omega, fun h => absurd h h32⟩
  obtain ⟨f, hf⟩ := Classical.axiomOfChoice key
  refine ⟨hl, tl f 32, tl_length _ _, isB_tl (fun i => (hf i).1) 32, fun j hj => ?_⟩
  rw [lf_tl f hj]
  exact (hf j).2 hj
theorem open_texts_arg {v : Value} {d : DataW H} {p : List MemPlace} {ts : List TypeId} {ds : List (DataW H)} {j : Nat} {b0 : Nat}
    (hv : Value.okWide Tryd.prog W .any b0 30 v) (hd : DataW.Trod enc Tryd.prog W base (fun _ => true) true 30 v d p)
    (hsz : (DataW.weightsEach Tryd.prog ts ds).all (· ≤ reachBytes) = true) (hts : ts[j]? = some 30) (hds : ds[j]? = some d) : ∃ t, TextsAt W v t := by
  obtain ⟨a, len, cap, rfl⟩ := okWide_slice Tryd.underlying30 hv
  obtain ⟨fuel, hf⟩ := hd
  obtain ⟨v, t, hcs, ht⟩ := open_texts' hf (light_of hsz hts hds)
  refine ⟨t, ?_⟩
  have e : [Value.slice a len cap] = [v] := by simpa [Value.cells] using hcs
  injection e with e
  rw [e]
  exact ht
end
theorem okWide_hash {W : World} {base : Nat} {v : Value} (h : Value.okWide Tryd.prog W .any base 23 v) : ∃ cs, v = .agg cs := by
  simp only [Value.okWide, Tryd.underlying23] at h
  obtain ⟨cs, h1, _⟩ := h
  exact ⟨cs, h1⟩
theorem open_hash_arg {H : Type} {enc : TypeId × Value → H} {W : World} {base : Nat} {v : Value} {d : DataW H} {p : List MemPlace} {b0 : Nat}
    (hv : Value.okWide Tryd.prog W .any b0 23 v) (hd : DataW.Trod enc Tryd.prog W base (fun _ => true) true 23 v d p) : ∃ a : List Nat, IsH a ∧ v = .agg (arr 32 (bv (lf a))) := by
  obtain ⟨cs, rfl⟩ := okWide_hash hv
  obtain ⟨fuel, hf⟩ := hd
  obtain ⟨hl, a, ha, hb, hj⟩ := open_id' hf
  refine ⟨a, ⟨ha, hb⟩, ?_⟩
  congr 1
  apply Array.ext_getElem?
  intro i
  have h4 : cs.size = 32 := by simpa [Value.cells] using hl
  rcases Nat.lt_or_ge i 32 with q | q
  · have := hj i q
    rw [arr_get 32 _ i q]
    simpa [Value.cells, byv, bv] using this
  · rw [Array.getElem?_eq_none (by omega), Array.getElem?_eq_none (by rw [arr_size]; exact q)]
end Go.Proofs.YtoopcmcmjaikhaaDoor

