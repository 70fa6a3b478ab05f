/- Lists of headers: what an argument of the type []api.Header is; a header's ID as numbers. -/
import Derived.Test.YtoopcmcmjaikhaaDoorRc
import Derived.Test.YtoopcmcmjaikhaaDoorLt2
set_option linter.unusedSimpArgs false
set_option linter.unusedVariables false
set_option maxRecDepth 100000
namespace Go.Proofs.YtoopcmcmjaikhaaDoor
open Go.ChangeShapes Go.WideShapes Go.ChangeAt Go.RowKit Go.Lib Go.Deep

theorem hdr_fields' : (Tryd.prog.fieldsOf 28).toList.map (fun f => (f.type, f.offset)) = [(26, 0), (23, 1), (23, 33), (26, 65), (26, 66), (26, 67)] := by kernel_rfl
theorem hdr_is' : Tryd.prog.underlying 28 = some (.struct (Tryd.prog.fieldsOf 28)) := by kernel_rfl
theorem cells_hdr : Tryd.prog.cellsOf 28 = 68 := by kernel_rfl
theorem cells_32 : Tryd.prog.cellsOf 26 = 1 := by kernel_rfl
theorem cells_h : Tryd.prog.cellsOf 23 = 32 := by kernel_rfl
section
variable {H : Type} {enc : TypeId × Value → H} {W : World} {base : Nat}
theorem open_u32' {fuel : Nat} {cs : List Value} {x : DataW H × List MemPlace} (h : DataW.trod enc Tryd.prog W base (fun _ => true) true fuel 26 cs = some x) : ∃ z : Nat, z < 4294967296 ∧ cs = [.int .u32 ((z : Nat) : Int)] := by
  obtain ⟨n, rfl, _, hw⟩ := DataW.trod_int Tryd.underlying26 h
  simp [Lit.wf, IntKind.min, IntKind.max, IntKind.bits, IntKind.signed] at hw
  exact ⟨n.toNat, by omega, by congr 2; omega⟩
theorem field_at {T : TypeId} {L : List (TypeId × Nat)} (h : (Tryd.prog.fieldsOf T).toList.map (fun f => (f.type, f.offset)) = L) {j : Nat} {ty : TypeId} {o : Nat} (hj : L[j]? = some (ty, o)) : ∃ f, (Tryd.prog.fieldsOf T)[j]? = some f ∧ f.type = ty ∧ f.offset = o := by
  rw [← h, List.getElem?_map] at hj
  obtain ⟨f, hf, e⟩ := Option.map_eq_some_iff.1 hj
  refine ⟨f, by simpa using hf, ?_, ?_⟩
  · exact congrArg Prod.fst e
  · exact congrArg Prod.snd e
/-- A struct's field, with its reading. -/
theorem open_field {T : TypeId} {L : List (TypeId × Nat)} (hs : Tryd.prog.underlying T = some (.struct (Tryd.prog.fieldsOf T))) (h : (Tryd.prog.fieldsOf T).toList.map (fun f => (f.type, f.offset)) = L)
    {fuel : Nat} {cs : List Value} {x : DataW H × List MemPlace} (ht : DataW.trod enc Tryd.prog W base (fun _ => true) true fuel T cs = some x) (hl : Light x.1 T) {j : Nat} {ty : TypeId} {o : Nat} (hj : L[j]? = some (ty, o)) :
    ∃ m y, DataW.trod enc Tryd.prog W base (fun _ => true) true m ty ((cs.drop o).take (Tryd.prog.cellsOf ty)) = some y ∧ Light y.1 ty := by
  obtain ⟨f, hf, rfl, rfl⟩ := field_at h hj
  obtain ⟨xs, n, _, hx, _, hxl, hi⟩ := DataW.trod_struct hs ht
  have hjl : j < xs.length := by rw [hxl]; exact (Array.getElem?_eq_some_iff.1 hf).1
  have h1 := hi j f hf
  rw [List.getElem?_eq_getElem hjl] at h1
  refine ⟨n, _, h1, ?_⟩
  rw [hx] at hl
  exact light_struct hl hs hf (by rw [List.getElem?_map, List.getElem?_eq_getElem hjl]; rfl)
theorem drop_one {cs : List Value} {o : Nat} {v : Value} (h : (cs.drop o).take 1 = [v]) : cs.getD o undef = v ∧ o < cs.length := by
  have hl : o < cs.length := by
    rcases Nat.lt_or_ge o cs.length with q | q
    · exact q
    · rw [List.drop_eq_nil_of_le q] at h; cases h
  rw [List.drop_eq_getElem_cons hl] at h
  simp only [List.take_succ_cons, List.take_zero, List.cons.injEq, and_true] at h
  exact ⟨by rw [List.getD_eq_getElem?_getD, List.getElem?_eq_getElem hl, h]; rfl, hl⟩
theorem open_hdr' {fuel : Nat} {cs : List Value} {x : DataW H × List MemPlace} (h : DataW.trod enc Tryd.prog W base (fun _ => true) true fuel 28 cs = some x) (hl : Light x.1 28) : cs.length = 68 ∧ ∃ t : Hd, t.Ok ∧ ∀ j, j < 68 → cs.getD j undef = hc t j := by
  obtain ⟨_, _, _, _, hcl, _⟩ := DataW.trod_struct hdr_is' h
  rw [cells_hdr] at hcl
  obtain ⟨m0, y0, h0, l0⟩ := open_field hdr_is' hdr_fields' h hl (j := 0) rfl
  obtain ⟨m1, y1, h1, l1⟩ := open_field hdr_is' hdr_fields' h hl (j := 1) rfl
  obtain ⟨m2, y2, h2, l2⟩ := open_field hdr_is' hdr_fields' h hl (j := 2) rfl
  obtain ⟨m3, y3, h3, l3⟩ := open_field hdr_is' hdr_fields' h hl (j := 3) rfl
  obtain ⟨m4, y4, h4, l4⟩ := open_field hdr_is' hdr_fields' h hl (j := 4) rfl
  obtain ⟨m5, y5, h5, l5⟩ := open_field hdr_is' hdr_fields' h hl (j := 5) rfl
  rw [cells_32] at h0 h3 h4 h5
  rw [cells_h] at h1 h2
  obtain ⟨a0, b0, c0⟩ := open_u32' h0
  obtain ⟨_, a1, _, b1, c1⟩ := open_id' h1
  obtain ⟨_, a2, _, b2, c2⟩ := open_id' h2
  obtain ⟨a3, b3, c3⟩ := open_u32' h3
  obtain ⟨a4, b4, c4⟩ := open_u32' h4
  obtain ⟨a5, b5, c5⟩ := open_u32' h5
  refine ⟨hcl, ⟨a0, lf a1, lf a2, a3, a4, a5⟩, ⟨b0, b3, b4, b5, lf_lt b1, lf_lt b2⟩, fun j hj => ?_⟩
  have at_ : ∀ (o i : Nat) (y : Value), ((cs.drop o).take 32)[i]? = some y → cs.getD (o + i) undef = y := fun o i y h => by
    by_cases hi : i < 32
    · rw [List.getElem?_take, if_pos hi, List.getElem?_drop] at h
      rw [List.getD_eq_getElem?_getD, h]
      rfl
    · rw [List.getElem?_take, if_neg hi] at h
      cases h
  unfold hc
  repeat' split
  · subst j
    exact (drop_one c0).1
  · obtain ⟨k, rfl⟩ : ∃ k, j = 1 + k := ⟨j - 1, by omega⟩
    rw [at_ 1 k _ (c1 k (by omega)), Nat.add_sub_cancel_left]
    rfl
  · obtain ⟨k, rfl⟩ : ∃ k, j = 33 + k := ⟨j - 33, by omega⟩
    rw [at_ 33 k _ (c2 k (by omega)), Nat.add_sub_cancel_left]
    rfl
  · subst j
    exact (drop_one c3).1
  · subst j
    exact (drop_one c4).1
  · obtain rfl : j = 67 := by omega
    exact (drop_one c5).1
def HdC (V : Nat → Value) (t : Hd) : Prop := (∀ j, j < 68 → V j = hc t j) ∧ t.Ok
theorem HdC.one {V : Nat → Value} {t : Hd} (h : HdC V t) (j : Nat) (hj : j < 68) : (V j).oneCell' = true := by
  rw [h.1 j hj]
  unfold hc
  repeat' split
  all_goals rfl
def HdsAt (w : World) (v : Value) (l : List Hd) : Prop :=
  ∃ p g o c V, v = .slice p (List.length l) c ∧ l.length * 80 ≤ 140737488351232 ∧ VRow 68 w p g o l.length c V ∧ ∀ i (h : i < l.length), HdC (fun j => V (i * 68 + j)) l[i]
theorem HdsAt.below {w w' : World} {v : Value} {l : List Hd} (h : HdsAt w v l) (hb : Below w.heap.size w w') : HdsAt w' v l := by
  obtain ⟨p, g, o, c, V, hv, hc, R, hi⟩ := h
  exact ⟨p, g, o, c, V, hv, hc, R.below hb, hi⟩
theorem HdsAt.empty (w : World) : HdsAt w (.slice none 0 0) [] := ⟨none, 0, 0, 0, fun _ => undef, rfl, by simp, VRow.nothing _ _ _, fun i h => absurd h (by simp)⟩
theorem heads_take {w : World} {p : Option Addr} {c m : Nat} {l : List Hd} (A : HdsAt w (.slice p l.length c) l) (hm : m ≤ l.length) : ∃ q, sliced p 0 m c 68 = .slice q m c ∧ m ≤ c ∧ HdsAt w (.slice q (l.take m).length c) (l.take m) := by
  obtain ⟨p2, g, o, c2, V, hv, hc, R, hi⟩ := A
  injection hv with e1 _ e3
  subst e1 e3
  have hl : (l.take m).length = m := by rw [List.length_take]; omega
  obtain ⟨q, hq, R2⟩ := R.slice (l := 0) (h := m) (m := c) (by omega) hm (by have := R.le; omega) (Nat.le_refl _)
  refine ⟨q, by simpa using hq, by have := R.le; omega, q, g, o, c, V, rfl, by rw [hl]; omega, ?_, fun i h => ?_⟩
  · rw [hl]
    have R3 := R2.to (U := V) (fun i hi => by simp)
    simpa using R3
  · rw [List.getElem_take]
    exact hi i (by omega)
theorem open_heads_arg {v : Value} {d : DataW H} {p : List MemPlace} {ts : List TypeId} {ds : List (DataW H)} {j : Nat} {b0 : Nat}
    (hv : Value.okWide Tryd.prog W .any b0 24 v) (hd : DataW.Trod enc Tryd.prog W base (fun _ => true) true 24 v d p)
    (hsz : (DataW.weightsEach Tryd.prog ts ds).all (· ≤ reachBytes) = true) (hts : ts[j]? = some 24) (hds : ds[j]? = some d) : ∃ l, HdsAt W v l := by
  obtain ⟨a, len, cap, rfl⟩ := okWide_slice Tryd.underlying24 hv
  obtain ⟨fuel, hf⟩ := hd
  obtain ⟨v, l, hcs, ht⟩ := open_rowsL (S := 24) (T := 28) (k := 68) (bytes := 80) HdC h0 Tryd.underlying24 (by kernel_rfl) (by omega) (by kernel_rfl) (fun V a h => h.one) (fun fuel cs x h hl => by
    obtain ⟨e, t, ok, he⟩ := open_hdr' h hl
    exact ⟨e, t, he, ok⟩) (fun V U a h e => ⟨fun j hj => by rw [← e j hj]; exact h.1 j hj, h.2⟩) hf (light_of hsz hts hds)
  refine ⟨l, ?_⟩
  have e : [Value.slice a len cap] = [v] := by simpa [Value.cells] using hcs
  injection e with e
  rw [e]
  exact ht
end
/-- The numbers of a header's ID. -/
def idF (h : Hd) : Nat → Nat := fun i => (S.shaI (S.shaI (hx h) 80) 32 i).toNat
theorem arr_idF (h : Hd) : arr 32 (S.sha2 (hx h) 80) = arr 32 (bv (idF h)) := arr_congr fun i hi => by
  unfold S.sha2
  rw [S.sha_num]
  unfold bv idF
  rw [Int.toNat_of_nonneg (S.shaI_range _ _ _).1]
theorem idb_any {h : Hd} (ok : Hid h.Ok) {w : World} (L : Hid (S.Both w)) : Calls Tryd.prog 31 #[.agg (arr 68 (hc h))] w fun e w' => e = .returned (.agg (arr 32 (bv (idF h)))) ∧ Below w.heap.size w w' := by
  have h := id_any ok L
  rwa [arr_idF] at h
theorem ridb_any {h : Hd} (ok : Hid h.Ok) {w : World} : Calls Tryd.prog 9 #[.agg (arr 68 (hc h))] w fun e w' => e = .returned (.agg (arr 32 (bv (idF h)))) ∧ Below w.heap.size w w' := by
  have h := rid_any ok (w := w)
  rwa [arr_idF] at h
theorem hash_midF {W : World} {b o : Nat} {a : Nat → Nat} {V : Nat → Value} {n T : Nat} (hb : W.heap[b]? = some (.cells (arr n V) T (0, 0))) (ho : o + 32 ≤ n) (hV : ∀ j, j < 32 → V (o + j) = .int .u8 ((a j : Nat) : Int)) : (Instr.loadAt 23 (.pointer (some ⟨b, o, none⟩))).run Tryd.prog W = .ok (.agg (arr 32 (bv a))) W := by
  have hr : W.rangeAt b o (vs (bv a) 32) := fun j v hj => by
    obtain ⟨h, rfl⟩ := vs_get _ _ _ _ hj
    rw [cell_of_here hb (o + j) (arr_get n V (o + j) (by omega)), hV j h]
    rfl
  have := run_loadAt_mid (P := Tryd.prog) W b o 23 (vs (bv a) 32) _ hr Tryd.underlying23 rfl (by rw [vs_length]; kernel_rfl)
  rwa [vs_arr] at this
theorem load_prev {W : World} {b T : Nat} {h : Hd} (hb : W.heap[b]? = some (.cells (arr 68 (hc h)) T (0, 0))) : (Instr.loadAt 23 (.pointer (some ⟨b, 1, none⟩))).run Tryd.prog W = .ok (.agg (arr 32 (bv h.prev))) W := hash_midF hb (by decide) fun j hj => by
  unfold hc
  rw [if_neg (by omega), if_pos (by omega), Nat.add_sub_cancel_left]
/-- Whether two hashes are the same. -/
def eqN (a b : Nat → Nat) : Bool := (List.range 32).all fun i => ((a i : Nat) : Int) == ((b i : Nat) : Int)
/-- Whether the header of a place doesn't stand where it should. -/
def badN (f : Nat → Nat) (l : List Hd) (i : Nat) : Bool := if i = 0 then !(eqN (idF (l.getD 0 h0)) f) else !(eqN (l.getD i h0).prev (idF (l.getD (i - 1) h0)))
def leadsN (f : Nat → Nat) (l : List Hd) : Bool := (List.range l.length).all fun i => !(badN f l i)
theorem leads_bad {f : Nat → Nat} {l : List Hd} {i : Nat} (hi : i < l.length) (h : badN f l i = true) : leadsN f l = false := by
  unfold leadsN
  rw [List.all_eq_false]
  exact ⟨i, List.mem_range.2 hi, by simp [h]⟩
theorem leads_all {f : Nat → Nat} {l : List Hd} (h : ∀ i, i < l.length → badN f l i = false) : leadsN f l = true := by
  unfold leadsN
  rw [List.all_eq_true]
  exact fun i hi => by simp [h i (List.mem_range.1 hi)]
theorem exec_neqA {o : Oper} {ev : Operand → Value} {T R : TypeId} {x y : Operand} {a b : Array Value} {W : World} (ho : o.op = .binOp .neq T x y R) (hx : ev x = .agg a) (hy : ev y = .agg b) (hm : Tryd.prog.eqGuardType Tryd.prog.depth T = false) {r : Bool} (h : (Op.equalIn 10000 T (.agg a) (.agg b)).run Tryd.prog W = .ok r W) : (execOp ev o).run Tryd.prog W = .ok (.value (.bool (!r))) W := by
  unfold execOp
  simp only [ho, hx, hy, Sem.run_bind, run_eqGuard_agg W .neq T x y a b hm, run_neq_struct, h, Result.andThen_ok]
  rfl
theorem exec_eql3 {o : Oper} {ev : Operand → Value} {W : World} {x y : Operand} {a b : Int} {q : Bool} (ho : o.op = .binOp .eql 3 x y 3) (hx : ev x = .int .i64 a) (hy : ev y = .int .i64 b) (hq : decide (a = b) = q) : (execOp ev o).run Tryd.prog W = .ok (.value (.bool q)) W := by
  subst hq
  unfold execOp
  by_cases h : a = b
  · simp [ho, hx, hy, go_sem, Tryd.underlying3, h]
  · simp [ho, hx, hy, go_sem, Tryd.underlying3, h]
theorem exec_gtr3 {o : Oper} {ev : Operand → Value} {W : World} {x y : Operand} {a b : Int} {q : Bool} (ho : o.op = .binOp .gtr 3 x y 3) (hx : ev x = .int .i64 a) (hy : ev y = .int .i64 b) (hq : decide (b < a) = q) : (execOp ev o).run Tryd.prog W = .ok (.value (.bool q)) W := by
  subst hq
  unfold execOp
  by_cases h : b < a
  · simp [ho, hx, hy, go_sem, Tryd.underlying3, h]
  · simp [ho, hx, hy, go_sem, Tryd.underlying3, h]
theorem exec_lss3 {o : Oper} {ev : Operand → Value} {W : World} {x y : Operand} {a b : Int} {q : Bool} (ho : o.op = .binOp .lss 3 x y 3) (hx : ev x = .int .i64 a) (hy : ev y = .int .i64 b) (hq : decide (a < b) = q) : (execOp ev o).run Tryd.prog W = .ok (.value (.bool q)) W := by
  subst hq
  unfold execOp
  by_cases h : a < b
  · simp [ho, hx, hy, go_sem, Tryd.underlying3, h]
  · simp [ho, hx, hy, go_sem, Tryd.underlying3, h]
theorem infoHz : ∃ z : Array Value, z.size = 68 ∧ (Tryd.prog.info? 28).map (fun i => (i.zero, i.size)) = some (some (.agg z), 68) := ⟨(((Tryd.prog.info? 28).bind (fun i => i.zero)).getD undef).cells, by kernel_rfl, by kernel_rfl⟩
section
variable {P : Program} {ops : Array Oper} {Q : Exit → Act → World → Prop} {md : Region.Mode} {S : World → Prop} {fuel : Nat} {listed : Array Bool} {a : Act} {w : World}
theorem hm_off {oi : Oper} (i t : Nat) (hd : oi.dst = some t) (hi : ops[i]? = some oi) (hs : Region.noSelect ops = true) (hf : Region.free md ops listed i = true) (hr : (Region.ready md ops listed).contains i = true)
    (hQ : ∀ c a w, Q (.panic c) (a.put oi.dst undef) w → Q (.panic c) a w) (hw : Region.wanted oi (yielded ops a.tmps) = false) (hS : S w)
    (h : wpAnyH P md ops Q S fuel (listed.setIfInBounds i true) (a.put (some t) undef) w) : wpAnyH P md ops Q S (fuel + 1) listed a w :=
  wpAnyH_take hi hs hf hr hQ (.inr ⟨hw, rfl⟩) hS (by rw [hd]; exact h)
end
end Go.Proofs.YtoopcmcmjaikhaaDoor
