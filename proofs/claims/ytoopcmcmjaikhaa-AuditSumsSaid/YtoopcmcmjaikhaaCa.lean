/- What an argument of the type []api.Coin is, in a law over plain data. -/
import Derived.Test.YtoopcmcmjaikhaaOp
import Derived.Test.YtoopcmcmjaikhaaVr
import Derived.Test.YtoopcmcmjaikhaaHm
import Derived.Deep.Slices
set_option linter.unusedSimpArgs false
set_option linter.unusedVariables false
set_option maxRecDepth 100000
namespace Go.Proofs.Ytoopcmcmjaikhaa
open Go.ChangeShapes Go.WideShapes Go.ChangeAt Go.RowKit Go.Lib Go.Deep

theorem cells_u8 : Try.prog.cellsOf 5 = 1 := by kernel_rfl
/-- No part of it weighs more than is in reach. -/
def Light {H : Type} (d : DataW H) (t : TypeId) : Prop := ∀ n, n ∈ d.weights Try.prog t → n ≤ reachBytes
theorem light_of {H : Type} {ts : List TypeId} {ds : List (DataW H)} (h : (DataW.weightsEach Try.prog ts ds).all (· ≤ reachBytes) = true) {j : Nat} {t : TypeId} {d : DataW H} (ht : ts[j]? = some t) (hd : ds[j]? = some d) : Light d t := fun n hn => by
  have := List.all_eq_true.1 h _ (DataW.weights_mem_each ht hd n hn)
  simpa using this
theorem mem_weightsAll {H : Type} {e : TypeId} {d : DataW H} : ∀ {l : List (DataW H)}, d ∈ l → ∀ n, n ∈ d.weights Try.prog e → n ∈ DataW.weightsAll Try.prog e l
  | [], h, _, _ => by cases h
  | x :: l, h, n, hn => by
    simp only [DataW.weightsAll, List.mem_append]
    rcases List.mem_cons.1 h with rfl | h
    · exact .inl hn
    · exact .inr (mem_weightsAll h n hn)
theorem light_slice {H : Type} {S e : TypeId} {elems spare : List (DataW H)} (h : Light (.slice elems spare) S) (hu : Try.prog.underlying S = some (.slice e)) : (elems.length + spare.length) * Try.prog.bytesOf e ≤ reachBytes ∧ ∀ d, d ∈ elems → Light d e := by
  refine ⟨h _ (by simp [DataW.weights, hu]), fun d hd n hn => h n ?_⟩
  simp only [DataW.weights, hu, List.mem_cons, List.mem_append]
  exact .inr (.inl (mem_weightsAll hd n hn))
theorem light_struct {H : Type} {T : TypeId} {fs : Array Field} {parts : List (DataW H)} (h : Light (.agg parts) T) (hu : Try.prog.underlying T = some (.struct fs)) {j : Nat} {f : Field} {d : DataW H} (hf : fs[j]? = some f) (hd : parts[j]? = some d) : Light d f.type := fun n hn => h n (by
  simp only [DataW.weights, hu]
  exact DataW.weights_mem_each (j := j) (by rw [List.getElem?_map, Array.getElem?_toList, hf]; rfl) hd n hn)
section
variable {H : Type} {enc : TypeId × Value → H} {W : World} {base : Nat}
theorem open_u8' {fuel : Nat} {cs : List Value} {x : DataW H × List MemPlace} (h : DataW.trod enc Try.prog W base (fun _ => true) true fuel 5 cs = some x) : ∃ z : Nat, z < 256 ∧ cs = [.int .u8 (z : Int)] := by
  obtain ⟨n, rfl, _, hw⟩ := DataW.trod_int Try.underlying5 h
  simp [Lit.wf, IntKind.min, IntKind.max, IntKind.bits, IntKind.signed] at hw
  exact ⟨n.toNat, by omega, by congr 2; omega⟩
theorem open_i64' {fuel : Nat} {cs : List Value} {x : DataW H × List MemPlace} (h : DataW.trod enc Try.prog W base (fun _ => true) true fuel 2 cs = some x) : ∃ z : Int, (-9223372036854775808 ≤ z ∧ z ≤ 9223372036854775807) ∧ cs = [.int .i64 z] := by
  obtain ⟨n, rfl, _, hw⟩ := DataW.trod_int Try.underlying2 h
  simp [Lit.wf, IntKind.min, IntKind.max, IntKind.bits, IntKind.signed] at hw
  exact ⟨n, by omega, rfl⟩
theorem open_u32' {fuel : Nat} {cs : List Value} {x : DataW H × List MemPlace} (h : DataW.trod enc Try.prog W base (fun _ => true) true fuel 28 cs = some x) : ∃ z : Int, cs = [.int .u32 z] := by
  obtain ⟨n, rfl, _, hw⟩ := DataW.trod_int Try.underlying28 h
  exact ⟨n, rfl⟩
theorem open_int' {fuel : Nat} {cs : List Value} {x : DataW H × List MemPlace} (h : DataW.trod enc Try.prog W base (fun _ => true) true fuel 3 cs = some x) : ∃ z : Int, cs = [.int .i64 z] := by
  obtain ⟨n, rfl, _, hw⟩ := DataW.trod_int Try.underlying3 h
  exact ⟨n, rfl⟩
theorem open_text1 {fuel : Nat} {cs : List Value} {x : DataW H × List MemPlace} (h : DataW.trod enc Try.prog W base (fun _ => true) true fuel 31 cs = some x) : ∃ p n c, cs = [.slice p n c] := by
  rcases open_ints Try.underlying31 Try.underlying5 (by kernel_rfl) h with ⟨hcs, _⟩ | ⟨q, l, c, zs, hcs, _, hlc, hm, hz, hx, hcell, hwz⟩
  · exact ⟨_, _, _, hcs⟩
  · exact ⟨_, _, _, hcs⟩
theorem open_hash1 {fuel : Nat} {cs : List Value} {x : DataW H × List MemPlace} (h : DataW.trod enc Try.prog W base (fun _ => true) true fuel 27 cs = some x) : cs.length = 32 ∧ ∀ j, j < 32 → ∃ z : Nat, cs[j]? = some (.int .u8 (z : Int)) := by
  obtain ⟨xs, m, _, _, hl, hx, hi⟩ := DataW.trod_array Try.underlying27 h
  have hC : Try.prog.cellsOf 27 = 32 := by kernel_rfl
  rw [hC] at hl
  refine ⟨hl, fun i h32 => ?_⟩
  have h1 := hi i h32
  rw [cells_u8, Nat.mul_one, List.getElem?_eq_getElem (by omega)] at h1
  obtain ⟨z, hz, e⟩ := open_u8' h1
  refine ⟨z, ?_⟩
  rw [List.drop_eq_getElem_cons (by omega)] at e
  simp only [List.take_succ_cons, List.take_zero, List.cons.injEq, and_true] at e
  rw [List.getElem?_eq_getElem (by omega), e]
/-- Elements of a slice, each a row of k cells with a reading of its own. -/
theorem open_rowsL {S T k bytes : Nat} {α : Type} (EC : (Nat → Value) → α → Prop) (a0 : α) (hS : Try.prog.underlying S = some (.slice T)) (hC : Try.prog.cellsOf T = k) (hk : 0 < k) (hb : Try.prog.bytesOf T = bytes)
    (one : ∀ V a, EC V a → ∀ j, j < k → (V j).oneCell' = true)
    (el : ∀ (fuel : Nat) (cs : List Value) (x : DataW H × List MemPlace), DataW.trod enc Try.prog W base (fun _ => true) true fuel T cs = some x → Light x.1 T → cs.length = k ∧ ∃ a, EC (fun j => cs.getD j undef) a)
    (ext : ∀ V U a, EC V a → (∀ j, j < k → V j = U j) → EC U a)
    {fuel : Nat} {cs : List Value} {x : DataW H × List MemPlace} (h : DataW.trod enc Try.prog W base (fun _ => true) true fuel S cs = some x) (hl : Light x.1 S) :
    ∃ v l, cs = [v] ∧ ∃ p g o c V, v = .slice p (List.length l) c ∧ l.length * bytes ≤ 140737488351232 ∧ VRow k W p g o l.length c V ∧ ∀ i (h : i < l.length), EC (fun j => V (i * k + j)) l[i] := by
  rcases open_slice hS h with ⟨hcs, _⟩ | ⟨q, len, cap, m, n, D, Pl, hcs, _, hle, hm, hmm, hx, hi⟩
  · exact ⟨.slice none 0 0, [], hcs, none, 0, 0, 0, fun _ => undef, rfl, by simp, VRow.nothing _ _ _, fun i h => absurd h (by simp)⟩
  · simp only [if_pos] at hmm
    subst hmm
    have hd' : x.1 = .slice ((List.range len).map D) ((List.range (m - len)).map fun j => D (len + j)) := by simpa using congrArg Prod.fst hx
    rw [hd'] at hl
    obtain ⟨hs, hl2⟩ := light_slice hl hS
    rw [hb] at hs
    simp only [List.length_map, List.length_range, reachBytes] at hs
    have key : ∀ i : Nat, ∃ r : (Nat → Value) × α, i < len → EC r.1 r.2 ∧ ∀ j, j < k → W.cell? ((q.add (i * k)).add j) = some (r.1 j) := fun i => by
      by_cases hlt : i < len
      · obtain ⟨cs', hc, ht⟩ := hi i (by omega)
        rw [hC] at hc
        obtain ⟨hlen, a, ha⟩ := el _ _ _ ht (hl2 _ (List.mem_map.2 ⟨i, by simpa using hlt, rfl⟩))
        refine ⟨⟨fun j => cs'.getD j undef, a⟩, fun _ => ⟨ha, fun j hj => ?_⟩⟩
        obtain ⟨_, hcl, hat⟩ := World.cells?_some hc
        show W.cell? ((q.add (i * k)).add j) = some (cs'.getD j undef)
        rw [hat j hj, List.getD_eq_getElem?_getD, List.getElem?_eq_getElem (by omega)]
        rfl
      · exact ⟨⟨fun _ => undef, a0⟩, fun h => absurd h hlt⟩
    obtain ⟨r, hr⟩ := Classical.axiomOfChoice key
    have hq : 0 < len → q = ⟨q.block, q.off, none⟩ := fun h0 => by
      have h1 := (hr 0 h0).2 0 hk
      obtain ⟨b, o, s⟩ := q
      have hsp : s = none := by simpa [Addr.add] using World.cell?_spot h1
      subst hsp
      rfl
    refine ⟨_, (List.range len).map fun i => (r i).2, hcs, some q, q.block, q.off, m, fun i => (r (i / k)).1 (i % k), by simp, by
      have h1 : len * bytes ≤ (len + (m - len)) * bytes := Nat.mul_le_mul_right _ (by omega)
      simp only [List.length_map, List.length_range]
      omega, ?_, fun i hi' => ?_⟩
    · simp only [List.length_map, List.length_range]
      have div : ∀ i, i < len * k → i / k < len := fun i hi => (Nat.div_lt_iff_lt_mul hk).2 hi
      refine ⟨hle, hm, fun h => (by cases h), fun h0 => congrArg some (hq h0), fun i hi => ?_, fun i hi => one _ _ (hr _ (div i hi)).1 _ (Nat.mod_lt _ hk)⟩
      have h1 := (hr (i / k) (div i hi)).2 (i % k) (Nat.mod_lt _ hk)
      have h0 : 0 < len := Nat.lt_of_le_of_lt (Nat.zero_le _) (div i hi)
      rw [hq h0, row_add, row_add] at h1
      have e : q.off + i / k * k + i % k = q.off + i := by rw [Nat.add_assoc, Nat.mul_comm, Nat.div_add_mod]
      rw [e] at h1
      exact h1
    · simp only [List.length_map, List.length_range] at hi'
      rw [List.getElem_map, List.getElem_range]
      refine ext _ _ _ (hr i hi').1 fun j hj => ?_
      show (r i).1 j = (r ((i * k + j) / k)).1 ((i * k + j) % k)
      rw [Nat.mul_comm i k, Nat.mul_add_div hk, Nat.div_eq_of_lt hj, Nat.add_zero, Nat.mul_add_mod, Nat.mod_eq_of_lt hj]
theorem field_at {T : TypeId} {L : List (TypeId × Nat)} (h : (Try.prog.fieldsOf T).toList.map (fun f => (f.type, f.offset)) = L) {j : Nat} {ty : TypeId} {o : Nat} (hj : L[j]? = some (ty, o)) : ∃ f, (Try.prog.fieldsOf T)[j]? = some f ∧ f.type = ty ∧ f.offset = o := by
  rw [← h, List.getElem?_map] at hj
  obtain ⟨f, hf, e⟩ := Option.map_eq_some_iff.1 hj
  refine ⟨f, by simpa using hf, ?_, ?_⟩
  · exact congrArg Prod.fst e
  · exact congrArg Prod.snd e
/-- A struct's field, with its reading. -/
theorem open_field {T : TypeId} {L : List (TypeId × Nat)} (hs : Try.prog.underlying T = some (.struct (Try.prog.fieldsOf T))) (h : (Try.prog.fieldsOf T).toList.map (fun f => (f.type, f.offset)) = L)
    {fuel : Nat} {cs : List Value} {x : DataW H × List MemPlace} (ht : DataW.trod enc Try.prog W base (fun _ => true) true fuel T cs = some x) (hl : Light x.1 T) {j : Nat} {ty : TypeId} {o : Nat} (hj : L[j]? = some (ty, o)) :
    ∃ m y, DataW.trod enc Try.prog W base (fun _ => true) true m ty ((cs.drop o).take (Try.prog.cellsOf ty)) = some y ∧ Light y.1 ty := by
  obtain ⟨f, hf, rfl, rfl⟩ := field_at h hj
  obtain ⟨xs, n, _, hx, _, hxl, hi⟩ := DataW.trod_struct hs ht
  have hjl : j < xs.length := by rw [hxl]; exact (Array.getElem?_eq_some_iff.1 hf).1
  have h1 := hi j f hf
  rw [List.getElem?_eq_getElem hjl] at h1
  refine ⟨n, _, h1, ?_⟩
  rw [hx] at hl
  exact light_struct hl hs hf (by rw [List.getElem?_map, List.getElem?_eq_getElem hjl]; rfl)
theorem drop_one {cs : List Value} {o : Nat} {v : Value} (h : (cs.drop o).take 1 = [v]) : cs.getD o undef = v ∧ o < cs.length := by
  have hl : o < cs.length := by
    rcases Nat.lt_or_ge o cs.length with q | q
    · exact q
    · rw [List.drop_eq_nil_of_le q] at h; cases h
  rw [List.drop_eq_getElem_cons hl] at h
  simp only [List.take_succ_cons, List.take_zero, List.cons.injEq, and_true] at h
  exact ⟨by rw [List.getD_eq_getElem?_getD, List.getElem?_eq_getElem hl, h]; rfl, hl⟩
theorem pt_fields : (Try.prog.fieldsOf 30).toList.map (fun f => (f.type, f.offset)) = [(27, 0), (28, 32)] := by kernel_rfl
theorem pt_is : Try.prog.underlying 30 = some (.struct (Try.prog.fieldsOf 30)) := by kernel_rfl
theorem out_fields : (Try.prog.fieldsOf 33).toList.map (fun f => (f.type, f.offset)) = [(2, 0), (31, 1)] := by kernel_rfl
theorem out_is : Try.prog.underlying 33 = some (.struct (Try.prog.fieldsOf 33)) := by kernel_rfl
theorem coin_fields : (Try.prog.fieldsOf 35).toList.map (fun f => (f.type, f.offset)) = [(30, 0), (33, 33), (3, 35)] := by kernel_rfl
theorem coin_is : Try.prog.underlying 35 = some (.struct (Try.prog.fieldsOf 35)) := by kernel_rfl
theorem cells_b : Try.prog.cellsOf 31 = 1 := by kernel_rfl
theorem cells_32 : Try.prog.cellsOf 28 = 1 := by kernel_rfl
theorem cells_2 : Try.prog.cellsOf 2 = 1 := by kernel_rfl
theorem cells_3 : Try.prog.cellsOf 3 = 1 := by kernel_rfl
theorem cells_h : Try.prog.cellsOf 27 = 32 := by kernel_rfl
theorem cells_pt : Try.prog.cellsOf 30 = 33 := by kernel_rfl
theorem cells_out : Try.prog.cellsOf 33 = 2 := by kernel_rfl
/-- A coin's cells, as far as its value is asked for. -/
structure CoinC (V : Nat → Value) (z : Int) : Prop where
  one : ∀ j, j < 36 → (V j).oneCell' = true
  val : V 33 = .int .i64 z
  low : -9223372036854775808 ≤ z
  high : z ≤ 9223372036854775807
theorem CoinC.to {V U : Nat → Value} {z : Int} (h : CoinC V z) (e : ∀ j, j < 36 → V j = U j) : CoinC U z :=
  ⟨fun j hj => by rw [← e j hj]; exact h.one j hj, by rw [← e 33 (by omega)]; exact h.val, h.low, h.high⟩
theorem open_coin' {fuel : Nat} {cs : List Value} {x : DataW H × List MemPlace} (h : DataW.trod enc Try.prog W base (fun _ => true) true fuel 35 cs = some x) (hl : Light x.1 35) : cs.length = 36 ∧ ∃ z, CoinC (fun j => cs.getD j undef) z := by
  obtain ⟨_, _, _, _, hcl, _⟩ := DataW.trod_struct coin_is h
  have hC : Try.prog.cellsOf 35 = 36 := by kernel_rfl
  rw [hC] at hcl
  obtain ⟨m0, y0, h0, l0⟩ := open_field coin_is coin_fields h hl (j := 0) rfl
  obtain ⟨m1, y1, h1, l1⟩ := open_field coin_is coin_fields h hl (j := 1) rfl
  obtain ⟨m2, y2, h2, l2⟩ := open_field coin_is coin_fields h hl (j := 2) rfl
  rw [cells_pt, List.drop_zero] at h0
  rw [cells_out] at h1
  rw [cells_3] at h2
  obtain ⟨n0, z0, e0, q0⟩ := open_field pt_is pt_fields h0 l0 (j := 0) rfl
  obtain ⟨n1, z1, e1, q1⟩ := open_field pt_is pt_fields h0 l0 (j := 1) rfl
  obtain ⟨n2, z2, e2, q2⟩ := open_field out_is out_fields h1 l1 (j := 0) rfl
  obtain ⟨n3, z3, e3, q3⟩ := open_field out_is out_fields h1 l1 (j := 1) rfl
  rw [cells_h, List.drop_zero] at e0
  rw [cells_32] at e1
  rw [cells_2] at e2
  rw [cells_b] at e3
  obtain ⟨hl0, haj⟩ := open_hash1 e0
  obtain ⟨ix, c1⟩ := open_u32' e1
  obtain ⟨z, hz, c2⟩ := open_i64' e2
  obtain ⟨p, n, c, c3⟩ := open_text1 e3
  obtain ⟨ht, c4⟩ := open_int' h2
  have d1 := (drop_one c1).1
  have d2 := (drop_one c2).1
  have d3 := (drop_one c3).1
  have d4 := (drop_one c4).1
  rw [List.getD_eq_getElem?_getD, List.getElem?_take, if_pos (by omega)] at d1
  rw [List.getD_eq_getElem?_getD, List.getElem?_take, if_pos (by omega), List.getElem?_drop] at d2 d3
  rw [List.getD_eq_getElem?_getD] at d4
  refine ⟨hcl, z, fun j hj => ?_, by show cs.getD 33 undef = _; rw [List.getD_eq_getElem?_getD]; exact d2, hz.1, hz.2⟩
  show (cs.getD j undef).oneCell' = true
  rw [List.getD_eq_getElem?_getD]
  by_cases q : j < 32
  · obtain ⟨a, ha⟩ := haj j q
    rw [List.getElem?_take, if_pos q, List.getElem?_take, if_pos (by omega)] at ha
    rw [ha]
    rfl
  · have : j = 32 ∨ j = 33 ∨ j = 34 ∨ j = 35 := by omega
    rcases this with rfl | rfl | rfl | rfl
    · rw [d1]; rfl
    · rw [d2]; rfl
    · rw [d3]; rfl
    · rw [d4]; rfl
/-- A list of coins, told by their values. -/
def CoinsAt (w : World) (v : Value) (l : List Int) : Prop :=
  ∃ p g o c V, v = .slice p (List.length l) c ∧ l.length * 80 ≤ 140737488351232 ∧ VRow 36 w p g o l.length c V ∧ ∀ i (h : i < l.length), CoinC (fun j => V (i * 36 + j)) l[i]
theorem CoinsAt.below {w w' : World} {v : Value} {l : List Int} (h : CoinsAt w v l) (hb : Below w.heap.size w w') : CoinsAt w' v l := by
  obtain ⟨p, g, o, c, V, hv, hc, R, hi⟩ := h
  exact ⟨p, g, o, c, V, hv, hc, R.below hb, hi⟩
theorem CoinsAt.empty (w : World) : CoinsAt w (.slice none 0 0) [] := ⟨none, 0, 0, 0, fun _ => undef, rfl, by simp, VRow.nothing _ _ _, fun i h => absurd h (by simp)⟩
theorem open_coins_arg {v : Value} {d : DataW H} {p : List MemPlace} {ts : List TypeId} {ds : List (DataW H)} {j : Nat} {b0 : Nat}
    (hv : Value.okWide Try.prog W .any b0 22 v) (hd : DataW.Trod enc Try.prog W base (fun _ => true) true 22 v d p)
    (hsz : (DataW.weightsEach Try.prog ts ds).all (· ≤ reachBytes) = true) (hts : ts[j]? = some 22) (hds : ds[j]? = some d) : ∃ l, CoinsAt W v l := by
  obtain ⟨a, len, cap, rfl⟩ := okWide_slice Try.underlying22 hv
  obtain ⟨fuel, hf⟩ := hd
  obtain ⟨v, l, hcs, ht⟩ := open_rowsL (S := 22) (T := 35) (k := 36) (bytes := 80) CoinC 0 Try.underlying22 (by kernel_rfl) (by omega) (by kernel_rfl) (fun V a h => h.one) (fun fuel cs x h hl => open_coin' h hl) (fun V U a h e => h.to e) hf (light_of hsz hts hds)
  refine ⟨l, ?_⟩
  have e : [Value.slice a len cap] = [v] := by simpa [Value.cells] using hcs
  injection e with e
  rw [e]
  exact ht
end
end Go.Proofs.Ytoopcmcmjaikhaa
