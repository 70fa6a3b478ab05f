/- The number of an item in a filter: what the program's closure and the document's function return. -/
import Derived.Test.YtoopcmcmjaikhaaDoorFi
import Derived.Test.YtoopcmcmjaikhaaDoorXk
import Derived.Test.YtoopcmcmjaikhaaDoorZU
import Derived.Test.YtoopcmcmjaikhaaDoorZT
import Derived.Test.YtoopcmcmjaikhaaDoorZS
import Derived.LaidMore
import Derived.OpenShut
import Derived.Stop.Joined
set_option linter.unusedSimpArgs false
set_option linter.unusedVariables false
set_option maxRecDepth 100000
namespace Go.Proofs.YtoopcmcmjaikhaaDoor
open Go.ChangeShapes Go.WideShapes Go.ChangeAt Go.RowKit Go.Lib Go.Sort

theorem ints_of_trod2 {H : Type} {enc : TypeId × Value → H} {w : World} {base : Nat} {spare : Nat → Bool} {held : Bool} {fuel n : Nat} {t e : TypeId} {k : IntKind} {cs : List Value} {p : List MemPlace} {ns : List Int}
    (ht : Tryd.prog.underlying t = some (.array n e)) (he : Tryd.prog.underlying e = some (.int k)) (hc : Tryd.prog.cellsOf e = 1)
    (h : DataW.trod enc Tryd.prog w base spare held fuel t cs = some (.agg (ns.map fun z => .lit (.int k z)), p)) (i : Nat) (z : Int) (hz : ns[i]? = some z) : cs[i]? = some (.int k z) := by
  obtain ⟨xs, m, rfl, hx, hlen, hn, hel⟩ := DataW.trod_array ht h
  simp only [Prod.mk.injEq, DataW.agg.injEq] at hx
  have h1 : (ns.map fun z => (DataW.lit (.int k z) : DataW H))[i]? = (xs.map (·.1))[i]? := by rw [hx.1]
  rw [List.getElem?_map, List.getElem?_map, hz] at h1
  rcases hxi : xs[i]? with _ | y
  · rw [hxi] at h1; simp at h1
  · rw [hxi] at h1
    have hi : i < n := by have := (List.getElem?_eq_some_iff.1 hxi).1; omega
    have h2 := hel i hi
    rw [hxi, hc] at h2
    obtain ⟨r, e1, e2, _⟩ := DataW.trod_int he h2
    rw [e2] at h1
    simp at h1
    subst h1
    have h3 : ((cs.drop (i * 1)).take 1)[0]? = some (.int k z) := by rw [e1]; rfl
    simpa using h3

/-- What the rows over sip list. -/
def sipLaid : List (String × DataW Unit) := [("sporran/sip.startWords", Rows.laid_sporran_sip_startWords)]
theorem gSip : Tryd.prog.globalNamed "sporran/sip.startWords" = some 0 := by kernel_rfl
theorem tSip : (Tryd.prog.globals[0]?).map (·.type) = some 138 := by kernel_rfl
theorem cU64 : Tryd.prog.cellsOf 59 = 1 := by kernel_rfl
def sipWords : List Int := [8317987319222330741, 7237128888997146477, 7816392313619706465, 8387220255154660723]
/-- The four words of sip lie where they are laid. -/
def SipLaid (w : World) : Prop := ∀ (i : Nat) (z : Int), sipWords[i]? = some z → w.cell? ⟨0, i, none⟩ = some (.int .u64 z)
theorem SipLaid.below {w w' : World} (h : SipLaid w) (hb : Below w.heap.size w w') : SipLaid w' := fun i z hz => by
  have := h i z hz
  rw [hb.cell (cell_lt this), this]
theorem of_sip {W : World} (h : laidMetH Tryd.prog sipLaid W) : SipLaid W := by
  intro i z hz
  rw [MakeChecks.laidMetH_plain _ _ _ (by kernel_rfl)] at h
  obtain ⟨ps, ⟨g0, t0, cs0, f0, p0, q0, hg0, ht0, hv0, hd0, _, _⟩, _, _⟩ := h
  obtain rfl := Option.some.inj (gSip.symm.trans hg0)
  obtain rfl := Option.some.inj (tSip.symm.trans ht0)
  have hd : DataW.trod _ Tryd.prog W 0 _ _ f0 138 cs0.toList = some (.agg (sipWords.map fun z => .lit (.int .u64 z)), p0) := hd0
  have h1 := ints_of_trod2 Tryd.underlying138 Tryd.underlying59 cU64 hd i z hz
  rw [World.var?_cell hg0 hv0 i]
  simpa using h1

/-- SipHash of a text. -/
def sipI (k0 k1 : Nat) (t : List Nat) : Int := S.sipSum (k0 : Int) (k1 : Int) (fun i => ((lf t i : Nat) : Int)) t.length
theorem sipI_in (k0 k1 : Nat) (t : List Nat) : S.In64 (sipI k0 k1 t) := by
  unfold sipI S.sipSum S.sipEnd S.folded
  exact S.in_wrap _
def sipN (k0 k1 : Nat) (t : List Nat) : Nat := (sipI k0 k1 t).toNat
theorem sipN_is (k0 k1 : Nat) (t : List Nat) : ((sipN k0 k1 t : Nat) : Int) = sipI k0 k1 t := by
  have := (sipI_in k0 k1 t).1
  unfold sipN
  omega
theorem sipN_lt (k0 k1 : Nat) (t : List Nat) : sipN k0 k1 t < 18446744073709551616 := by
  have := (sipI_in k0 k1 t).2
  have := (sipI_in k0 k1 t).1
  unfold sipN
  omega
/-- An item's number below M. -/
def inum (k0 k1 M : Nat) (t : List Nat) : Nat := S.hi (sipN k0 k1 t) M
theorem inum_lt {k0 k1 M : Nat} {t : List Nat} (h : 0 < M) : inum k0 k1 M t < M := S.hi_lt _ _ (sipN_lt _ _ _) h
theorem sip_text {w : World} {v : Value} {t : List Nat} (T : TextAt w v t) (L : SipLaid w) (k0 k1 : Nat) : Calls Tryd.prog 66 #[.int .u64 (k0 : Int), .int .u64 (k1 : Int), v] w fun e w' => e = .returned (.int .u64 ((sipN k0 k1 t : Nat) : Int)) ∧ Below w.heap.size w w' := by
  obtain ⟨p, g, o, c, rfl, hl, R⟩ := T
  rw [sipN_is]
  exact S.sip_any k0 k1 p g o t.length c (fun i => ((lf t i : Nat) : Int)) (by have := R.cap; unfold maxLen at this; omega) R.le (fun i => by have := R.byte i; constructor <;> omega) w R.head R.cell (L 0 _ rfl) (L 1 _ rfl) (L 2 _ rfl) (L 3 _ rfl)
theorem rsip_text {w : World} {v : Value} {t : List Nat} (T : TextAt w v t) (k0 k1 : Nat) : Calls Tryd.prog 77 #[.int .u64 (k0 : Int), .int .u64 (k1 : Int), v] w fun e w' => e = .returned (.int .u64 ((sipN k0 k1 t : Nat) : Int)) ∧ Below w.heap.size w w' := by
  obtain ⟨p, g, o, c, rfl, hl, R⟩ := T
  rw [sipN_is]
  exact S.ref_sip_any k0 k1 p g o t.length c (fun i => ((lf t i : Nat) : Int)) (by omega) (fun i => by have := R.byte i; constructor <;> omega) w R.head R.cell
theorem scale_num {w : World} {k0 k1 M : Nat} {t : List Nat} (h : M < 18446744073709551616) : Calls Tryd.prog 65 #[.int .u64 ((sipN k0 k1 t : Nat) : Int), .int .u64 (M : Int)] w fun e w' => e = .returned (.int .u64 ((inum k0 k1 M t : Nat) : Int)) ∧ w = w' := S.scale_any _ _ (sipN_lt _ _ _) h w
theorem rscale_num {w : World} {k0 k1 M : Nat} {t : List Nat} (h : M < 18446744073709551616) : Calls Tryd.prog 76 #[.int .u64 ((sipN k0 k1 t : Nat) : Int), .int .u64 (M : Int)] w fun e w' => e = .returned (.int .u64 ((inum k0 k1 M t : Nat) : Int)) ∧ w = w' := S.ref_scale_any _ _ (sipN_lt _ _ _) h w

/-- The three boxes that the closure looks into. -/
def Keys3 (w : World) (b5 b6 b7 k0 k1 M : Nat) : Prop := w.cell? ⟨b5, 0, none⟩ = some (.int .u64 (k0 : Int)) ∧ w.cell? ⟨b6, 0, none⟩ = some (.int .u64 (k1 : Int)) ∧ w.cell? ⟨b7, 0, none⟩ = some (.int .u64 (M : Int))
theorem Keys3.below {w w' : World} {b5 b6 b7 k0 k1 M : Nat} (h : Keys3 w b5 b6 b7 k0 k1 M) (hb : Below w.heap.size w w') : Keys3 w' b5 b6 b7 k0 k1 M :=
  ⟨(hb.cell (cell_lt h.1)).trans h.1, (hb.cell (cell_lt h.2.1)).trans h.2.1, (hb.cell (cell_lt h.2.2)).trans h.2.2⟩
set_option maxHeartbeats 8000000 in
theorem num1_any {w : World} {b5 b6 b7 k0 k1 M : Nat} {v : Value} {t : List Nat} (T : Hid (TextAt w v t)) (L : Hid (SipLaid w)) (KY : Hid (Keys3 w b5 b6 b7 k0 k1 M)) (hM : M < 18446744073709551616) : Calls Tryd.prog 64 #[v, .pointer (some ⟨b5, 0, none⟩), .pointer (some ⟨b6, 0, none⟩), .pointer (some ⟨b7, 0, none⟩)] w fun e w' => e = .returned (.int .u64 ((inum k0 k1 M t : Nat) : Int)) ∧ Below w.heap.size w w' := by
  have HM := Lib.hid hM
  clear hM
  go_enter Tryd.func64, Tryd.ntmps64
  go_upto_region 1 with fail
  refine wp_region_T (Φ := fun X => Below w.heap.size w X) (S := fun X => Keys3 X b5 b6 b7 k0 k1 M) (Lib.hid (Below.refl _ _)) (fun _ h => h.drew) (fun X h => KY.out.below h) (by kernel_rfl) ?_
  intro wx TT S0
  refine hm_run 0 6 (.int .u64 (k0 : Int)) rfl rfl (by kernel_rfl) (by kernel_rfl) (by kernel_rfl) (fun _ _ _ h => h) rfl (fun W hW => exec_load rfl (run_load_one Tryd.underlying59 rfl (hW.1))) S0.out ?_
  try simp only [Act.put, List.getElem_toArray, List.getElem_cons_succ, List.getElem_cons_zero, List.setIfInBounds_toArray, List.set_cons_zero, List.set_cons_succ]
  refine hm_run 1 7 (.int .u64 (k1 : Int)) rfl rfl (by kernel_rfl) (by kernel_rfl) (by kernel_rfl) (fun _ _ _ h => h) rfl (fun W hW => exec_load rfl (run_load_one Tryd.underlying59 rfl (hW.2.1))) S0.out ?_
  try simp only [Act.put, List.getElem_toArray, List.getElem_cons_succ, List.getElem_cons_zero, List.setIfInBounds_toArray, List.set_cons_zero, List.set_cons_succ]
  refine hm_run 2 8 (v) rfl rfl (by kernel_rfl) (by kernel_rfl) (by kernel_rfl) (fun _ _ _ h => h) rfl (fun _ _ => rfl) S0.out ?_
  try simp only [Act.put, List.getElem_toArray, List.getElem_cons_succ, List.getElem_cons_zero, List.setIfInBounds_toArray, List.set_cons_zero, List.set_cons_succ]
  refine hm_run 4 10 (.int .u64 (M : Int)) rfl rfl (by kernel_rfl) (by kernel_rfl) (by kernel_rfl) (fun _ _ _ h => h) rfl (fun W hW => exec_load rfl (run_load_one Tryd.underlying59 rfl (hW.2.2))) S0.out ?_
  try simp only [Act.put, List.getElem_toArray, List.getElem_cons_succ, List.getElem_cons_zero, List.setIfInBounds_toArray, List.set_cons_zero, List.set_cons_succ]
  refine hm_one (i := 3) (by kernel_rfl) ?_
  refine hm_step 3 rfl (by kernel_rfl) fun K hK => ?_
  try simp only [Act.put, List.getElem_toArray, List.getElem_cons_succ, List.getElem_cons_zero, List.setIfInBounds_toArray, List.set_cons_zero, List.set_cons_succ]
  go_simp
  go_at_call 66
  refine (sip_text (T.out.below TT.out) (L.out.below TT.out) _ _).mono ?_
  rintro e w7 ⟨rfl, hb7⟩
  replace TT := Lib.hid (TT.out.trans (hb7.mono TT.out.size))
  have S3_4 := Lib.hid (KY.out.below TT.out)
  clear hb7
  refine hK _ _ S3_4.out ?_
  clear hK K
  try simp only [Act.put, List.getElem_toArray, List.getElem_cons_succ, List.getElem_cons_zero, List.setIfInBounds_toArray, List.set_cons_zero, List.set_cons_succ]
  refine hm_one (i := 5) (by kernel_rfl) ?_
  refine hm_step 5 rfl (by kernel_rfl) fun K hK => ?_
  try simp only [Act.put, List.getElem_toArray, List.getElem_cons_succ, List.getElem_cons_zero, List.setIfInBounds_toArray, List.set_cons_zero, List.set_cons_succ]
  go_simp
  go_at_call 65
  refine (scale_num HM.out).mono ?_
  rintro e w7 ⟨rfl, rfl⟩
  have S5_5 := S3_4
  refine hK _ _ S5_5.out ?_
  clear hK K
  try simp only [Act.put, List.getElem_toArray, List.getElem_cons_succ, List.getElem_cons_zero, List.setIfInBounds_toArray, List.set_cons_zero, List.set_cons_succ]
  refine hm_run 6 5 (.int .u64 ((inum k0 k1 M t : Nat) : Int)) rfl rfl (by kernel_rfl) (by kernel_rfl) (by kernel_rfl) (fun _ _ _ h => h) rfl (fun _ _ => rfl) S5_5.out ?_
  try simp only [Act.put, List.getElem_toArray, List.getElem_cons_succ, List.getElem_cons_zero, List.setIfInBounds_toArray, List.set_cons_zero, List.set_cons_succ]
  refine wpAnyH_done (by kernel_rfl) ?_ _
  go_wp2_with fail
  go_ret
  exact ⟨rfl, TT.out⟩
theorem row_g8 {w : World} {b T : Nat} {x : Nat → Nat} (hx : ∀ i, x i < 256) (hh : w.heap[b]? = some (.cells (arr 32 (bv x)) T (0, 0))) : Row w (some ⟨b, 0, none⟩) b 0 8 32 x :=
  ⟨by omega, by unfold maxLen; omega, fun e => (by cases e), fun _ => rfl, fun i hi => cell_of_here hh _ (by rw [Nat.zero_add]; exact arr_get 32 _ _ (by omega)), hx⟩
theorem row_g16 {w : World} {b T : Nat} {x : Nat → Nat} (hx : ∀ i, x i < 256) (hh : w.heap[b]? = some (.cells (arr 32 (bv x)) T (0, 0))) : Row w (some ⟨b, 8, none⟩) b 8 8 24 (fun i => x (8 + i)) :=
  ⟨by omega, by unfold maxLen; omega, fun e => (by cases e), fun _ => rfl, fun i hi => cell_of_here hh _ (arr_get 32 _ _ (by omega)), fun i => hx _⟩
theorem exec_cvu {o : Oper} {ev : Operand → Value} {W : World} {x : Operand} {a : Nat} (ho : o.op = .convert 3 59 x) (hx : ev x = .int .i64 (a : Int)) (hr : a < 18446744073709551616) : (execOp ev o).run Tryd.prog W = .ok (.value (.int .u64 (a : Int))) W := by
  have e : IntKind.u64.wrap (a : Int) = (a : Int) := by rw [IntKind.wrap_u64]; omega
  unfold execOp
  simp [ho, hx, go_sem, convert, Tryd.underlying59, Tryd.underlying3, e]
theorem exec_lssi {o : Oper} {ev : Operand → Value} {W : World} {x y : Operand} {a b : Int} {q : Bool} (ho : o.op = .binOp .lss 3 x y 3) (hx : ev x = .int .i64 a) (hy : ev y = .int .i64 b) (hq : decide (a < b) = q) : (execOp ev o).run Tryd.prog W = .ok (.value (.bool q)) W := by
  subst hq
  unfold execOp
  by_cases h : a < b
  · simp [ho, hx, hy, go_sem, Tryd.underlying3, h]
  · simp [ho, hx, hy, go_sem, Tryd.underlying3, h]
theorem exec_eqli {o : Oper} {ev : Operand → Value} {W : World} {x y : Operand} {a b : Int} {q : Bool} (ho : o.op = .binOp .eql 3 x y 3) (hx : ev x = .int .i64 a) (hy : ev y = .int .i64 b) (hq : decide (a = b) = q) : (execOp ev o).run Tryd.prog W = .ok (.value (.bool q)) W := by
  subst hq
  unfold execOp
  by_cases h : a = b
  · subst h
    simp [ho, hx, hy, go_sem, Tryd.underlying3]
  · simp [ho, hx, hy, go_sem, Tryd.underlying3, h]
theorem exec_neqE {o : Oper} {ev : Operand → Value} {W : World} {x y : Operand} {a b : Int} {q : Bool} (ho : o.op = .binOp .neq 33 x y 33) (hx : ev x = .int .i64 a) (hy : ev y = .int .i64 b) (hq : decide (a = b) = !q) : (execOp ev o).run Tryd.prog W = .ok (.value (.bool q)) W := by
  obtain rfl : q = !decide (a = b) := by rw [hq]; simp
  unfold execOp
  by_cases h : a = b
  · subst h
    simp [ho, hx, hy, go_sem, Tryd.underlying33]
  · simp [ho, hx, hy, go_sem, Tryd.underlying33, h]
/-- The two words under which the items of a block are summed. -/
def key0 (x : Nat → Nat) : Nat := ofBytes x 8
def key1 (x : Nat → Nat) : Nat := ofBytes (fun i => x (8 + i)) 8
set_option maxHeartbeats 32000000 in
theorem fnums_any {w : World} {x : Nat → Nat} {n : Nat} (hx : ∀ i, x i < 256) (hn : n ≤ 20000) : Calls Tryd.prog 34 #[.agg (arr 32 (bv x)), .int .i64 (n : Int)] w fun e w' => (∃ b5 b6 b7, e = .returned (.func (.func 64) #[] #[.pointer (some ⟨b5, 0, none⟩), .pointer (some ⟨b6, 0, none⟩), .pointer (some ⟨b7, 0, none⟩)]) ∧ Keys3 w' b5 b6 b7 (key0 x) (key1 x) (n * 784931)) ∧ Below w.heap.size w w' := by
  have E := Lib.hid (Mem.nil w)
  have HX := Lib.hid hx
  have HN := Lib.hid hn
  obtain ⟨k0, hk0⟩ : ∃ k, k = key0 x := ⟨_, rfl⟩
  obtain ⟨k1, hk1⟩ : ∃ k, k = key1 x := ⟨_, rfl⟩
  have K0 := Lib.hid (show ∀ (W : World) (b T : Nat), W.heap[b]? = some (.cells (arr 32 (bv x)) T (0, 0)) → Calls Tryd.prog 63 #[.slice (some ⟨b, 0, none⟩) 8 32] W fun e w' => e = .returned (.int .u64 (k0 : Int)) ∧ W = w' from fun W b T h => by rw [hk0]; exact bnum_any (Lib.hid (row_g8 HX.out h)) (by omega))
  have K1 := Lib.hid (show ∀ (W : World) (b T : Nat), W.heap[b]? = some (.cells (arr 32 (bv x)) T (0, 0)) → Calls Tryd.prog 63 #[.slice (some ⟨b, 8, none⟩) 8 24] W fun e w' => e = .returned (.int .u64 (k1 : Int)) ∧ W = w' from fun W b T h => by rw [hk1]; exact bnum_any (Lib.hid (row_g16 HX.out h)) (by omega))
  rw [← hk0, ← hk1]
  clear hk0 hk1 hx hn
  go_enter Tryd.func34, Tryd.ntmps34
  go_upto_region 1 with (first
    | ((with_reducible refine wpList_at 2 rfl ?_); refine mem_box E 23 rfl _ rfl rfl (arr_cells' 32 (bv x)) ?_; clear E; intro b2 w2 E))
  refine wp_region_T (Φ := fun X => Below w2.heap.size w2 X) (S := fun _ => True) (Lib.hid (Below.refl _ _)) (fun _ h => h.drew) (fun _ _ => trivial) (by kernel_rfl) ?_
  intro wx TT S0
  replace E := Lib.hid (E.out.call TT.out)
  refine hm_run 0 8 (.slice (some ⟨b2, 0, none⟩) 8 32) rfl rfl (by kernel_rfl) (by kernel_rfl) (by kernel_rfl) (fun _ _ _ h => h) rfl (fun W _ => exec_sl rfl (run_h8 b2 W)) S0.out ?_
  try simp only [Act.put, List.getElem_toArray, List.getElem_cons_succ, List.getElem_cons_zero, List.setIfInBounds_toArray, List.set_cons_zero, List.set_cons_succ]
  refine hm_run 2 10 (.slice (some ⟨b2, 8, none⟩) 8 24) rfl rfl (by kernel_rfl) (by kernel_rfl) (by kernel_rfl) (fun _ _ _ h => h) rfl (fun W _ => exec_sl rfl (run_h16 b2 W)) S0.out ?_
  try simp only [Act.put, List.getElem_toArray, List.getElem_cons_succ, List.getElem_cons_zero, List.setIfInBounds_toArray, List.set_cons_zero, List.set_cons_succ]
  refine hm_three (i := 1) (j := 4) (k := 5) (by kernel_rfl) ?_ ?_ ?_
  · refine hm_step 1 rfl (by kernel_rfl) fun K hK => ?_
    try simp only [Act.put, List.getElem_toArray, List.getElem_cons_succ, List.getElem_cons_zero, List.setIfInBounds_toArray, List.set_cons_zero, List.set_cons_succ]
    go_simp
    go_at_call 63
    refine (K0.out _ b2 23 (E.out.get (b := b2) (by first | exact List.mem_cons_self | exact List.mem_cons_of_mem _ List.mem_cons_self | exact List.mem_cons_of_mem _ (List.mem_cons_of_mem _ List.mem_cons_self) | exact List.mem_cons_of_mem _ (List.mem_cons_of_mem _ (List.mem_cons_of_mem _ List.mem_cons_self))))).mono ?_
    rintro e w7 ⟨rfl, rfl⟩
    have S1_2 := S0
    refine hK _ _ S1_2.out ?_
    clear hK K
    try simp only [Act.put, List.getElem_toArray, List.getElem_cons_succ, List.getElem_cons_zero, List.setIfInBounds_toArray, List.set_cons_zero, List.set_cons_succ]
    refine hm_three (i := 3) (j := 4) (k := 5) (by kernel_rfl) ?_ ?_ ?_
    · refine hm_step 3 rfl (by kernel_rfl) fun K hK => ?_
      try simp only [Act.put, List.getElem_toArray, List.getElem_cons_succ, List.getElem_cons_zero, List.setIfInBounds_toArray, List.set_cons_zero, List.set_cons_succ]
      go_simp
      go_at_call 63
      refine (K1.out _ b2 23 (E.out.get (b := b2) (by first | exact List.mem_cons_self | exact List.mem_cons_of_mem _ List.mem_cons_self | exact List.mem_cons_of_mem _ (List.mem_cons_of_mem _ List.mem_cons_self) | exact List.mem_cons_of_mem _ (List.mem_cons_of_mem _ (List.mem_cons_of_mem _ List.mem_cons_self))))).mono ?_
      rintro e w7 ⟨rfl, rfl⟩
      have S3_3 := S1_2
      refine hK _ _ S3_3.out ?_
      clear hK K
      try simp only [Act.put, List.getElem_toArray, List.getElem_cons_succ, List.getElem_cons_zero, List.setIfInBounds_toArray, List.set_cons_zero, List.set_cons_succ]
      refine hm_two (i := 4) (j := 5) (by kernel_rfl) ?_ ?_
      · refine hm_step 4 rfl (by kernel_rfl) fun K hK => ?_
        try simp only [Act.put, List.getElem_toArray, List.getElem_cons_succ, List.getElem_cons_zero, List.setIfInBounds_toArray, List.set_cons_zero, List.set_cons_succ]
        refine mo_alloc E 59 rfl (z := .int .u64 0) (n := 1) (by kernel_rfl) ?_
        clear E
        intro b5 w8 E
        have S4_4 := S3_3
        refine hK _ _ S4_4.out ?_
        clear hK K
        try simp only [Act.put, List.getElem_toArray, List.getElem_cons_succ, List.getElem_cons_zero, List.setIfInBounds_toArray, List.set_cons_zero, List.set_cons_succ]
        refine hm_one (i := 5) (by kernel_rfl) ?_
        refine hm_step 5 rfl (by kernel_rfl) fun K hK => ?_
        try simp only [Act.put, List.getElem_toArray, List.getElem_cons_succ, List.getElem_cons_zero, List.setIfInBounds_toArray, List.set_cons_zero, List.set_cons_succ]
        refine mo_alloc E 59 rfl (z := .int .u64 0) (n := 1) (by kernel_rfl) ?_
        clear E
        intro b6 w8 E
        have S5_5 := S4_4
        refine hK _ _ S5_5.out ?_
        clear hK K
        try simp only [Act.put, List.getElem_toArray, List.getElem_cons_succ, List.getElem_cons_zero, List.setIfInBounds_toArray, List.set_cons_zero, List.set_cons_succ]
        refine hm_one (i := 6) (by kernel_rfl) ?_
        refine hm_step 6 rfl (by kernel_rfl) fun K hK => ?_
        try simp only [Act.put, List.getElem_toArray, List.getElem_cons_succ, List.getElem_cons_zero, List.setIfInBounds_toArray, List.set_cons_zero, List.set_cons_succ]
        first | refine mo_store_cell 0 E 59 (.tmp 5) (.tmp 9) rfl rfl rfl rfl (by kernel_rfl) rfl rfl rfl rfl ?_ | refine mo_store_cell 1 E 59 (.tmp 5) (.tmp 9) rfl rfl rfl rfl (by kernel_rfl) rfl rfl rfl rfl ?_
        clear E
        intro w9 E
        simp only [List.set_cons_zero, List.set_cons_succ] at E
        have S6_6 := S5_5
        refine hK _ _ S6_6.out ?_
        clear hK K
        try simp only [Act.put, List.getElem_toArray, List.getElem_cons_succ, List.getElem_cons_zero, List.setIfInBounds_toArray, List.set_cons_zero, List.set_cons_succ]
        refine hm_one (i := 7) (by kernel_rfl) ?_
        refine hm_step 7 rfl (by kernel_rfl) fun K hK => ?_
        try simp only [Act.put, List.getElem_toArray, List.getElem_cons_succ, List.getElem_cons_zero, List.setIfInBounds_toArray, List.set_cons_zero, List.set_cons_succ]
        first | refine mo_store_cell 0 E 59 (.tmp 6) (.tmp 11) rfl rfl rfl rfl (by kernel_rfl) rfl rfl rfl rfl ?_ | refine mo_store_cell 1 E 59 (.tmp 6) (.tmp 11) rfl rfl rfl rfl (by kernel_rfl) rfl rfl rfl rfl ?_
        clear E
        intro w9 E
        simp only [List.set_cons_zero, List.set_cons_succ] at E
        have S7_7 := S6_6
        refine hK _ _ S7_7.out ?_
        clear hK K
        try simp only [Act.put, List.getElem_toArray, List.getElem_cons_succ, List.getElem_cons_zero, List.setIfInBounds_toArray, List.set_cons_zero, List.set_cons_succ]
        refine wpAnyH_done (by kernel_rfl) ?_ _
        go_wp2_with (first
          | ((with_reducible refine wpList_at 13 rfl ?_); refine wpList_kn rfl (.int .u64 (n : Int)) (by exact exec_cvu rfl rfl (by have := HN.out; omega)) ?_)
          | ((with_reducible refine wpList_at 14 rfl ?_); refine wpList_kn rfl (.int .u64 ((n * 784931 : Nat) : Int)) (by exact exec_mulE (b := 784931) rfl rfl rfl (by have := HN.out; omega)) ?_)
          | ((with_reducible refine wpList_at 7 rfl ?_); refine mem_alloc E 59 rfl rfl (z := .int .u64 0) (n := 1) (by kernel_rfl) ?_; clear E; intro b7 w11 E)
          | ((with_reducible refine wpList_atn rfl ?_); refine mem_store_cell 0 E 59 rfl (.tmp 7) (.tmp 14) rfl rfl rfl rfl (by kernel_rfl) rfl rfl rfl rfl ?_; clear E; intro w12 E; simp only [List.set_cons_zero, List.set_cons_succ] at E))
        go_ret
        exact ⟨⟨b5, b6, b7, rfl, cell_of_here (E.out.get (b := b5) (T := 59) (c := #[.int .u64 (k0 : Int)]) (by first | exact List.mem_cons_self | exact List.mem_cons_of_mem _ List.mem_cons_self | exact List.mem_cons_of_mem _ (List.mem_cons_of_mem _ List.mem_cons_self) | exact List.mem_cons_of_mem _ (List.mem_cons_of_mem _ (List.mem_cons_of_mem _ List.mem_cons_self)))) 0 rfl, cell_of_here (E.out.get (b := b6) (T := 59) (c := #[.int .u64 (k1 : Int)]) (by first | exact List.mem_cons_self | exact List.mem_cons_of_mem _ List.mem_cons_self | exact List.mem_cons_of_mem _ (List.mem_cons_of_mem _ List.mem_cons_self) | exact List.mem_cons_of_mem _ (List.mem_cons_of_mem _ (List.mem_cons_of_mem _ List.mem_cons_self)))) 0 rfl, cell_of_here (E.out.get (b := b7) (T := 59) (c := #[.int .u64 ((n * 784931 : Nat) : Int)]) (by first | exact List.mem_cons_self | exact List.mem_cons_of_mem _ List.mem_cons_self | exact List.mem_cons_of_mem _ (List.mem_cons_of_mem _ List.mem_cons_self) | exact List.mem_cons_of_mem _ (List.mem_cons_of_mem _ (List.mem_cons_of_mem _ List.mem_cons_self)))) 0 rfl⟩, E.out.below⟩
      · refine hm_step 5 rfl (by kernel_rfl) fun K hK => ?_
        try simp only [Act.put, List.getElem_toArray, List.getElem_cons_succ, List.getElem_cons_zero, List.setIfInBounds_toArray, List.set_cons_zero, List.set_cons_succ]
        refine mo_alloc E 59 rfl (z := .int .u64 0) (n := 1) (by kernel_rfl) ?_
        clear E
        intro b6 w8 E
        have S5_4 := S3_3
        refine hK _ _ S5_4.out ?_
        clear hK K
        try simp only [Act.put, List.getElem_toArray, List.getElem_cons_succ, List.getElem_cons_zero, List.setIfInBounds_toArray, List.set_cons_zero, List.set_cons_succ]
        refine hm_one (i := 4) (by kernel_rfl) ?_
        refine hm_step 4 rfl (by kernel_rfl) fun K hK => ?_
        try simp only [Act.put, List.getElem_toArray, List.getElem_cons_succ, List.getElem_cons_zero, List.setIfInBounds_toArray, List.set_cons_zero, List.set_cons_succ]
        refine mo_alloc E 59 rfl (z := .int .u64 0) (n := 1) (by kernel_rfl) ?_
        clear E
        intro b5 w8 E
        have S4_5 := S5_4
        refine hK _ _ S4_5.out ?_
        clear hK K
        try simp only [Act.put, List.getElem_toArray, List.getElem_cons_succ, List.getElem_cons_zero, List.setIfInBounds_toArray, List.set_cons_zero, List.set_cons_succ]
        refine hm_one (i := 6) (by kernel_rfl) ?_
        refine hm_step 6 rfl (by kernel_rfl) fun K hK => ?_
        try simp only [Act.put, List.getElem_toArray, List.getElem_cons_succ, List.getElem_cons_zero, List.setIfInBounds_toArray, List.set_cons_zero, List.set_cons_succ]
        first | refine mo_store_cell 0 E 59 (.tmp 5) (.tmp 9) rfl rfl rfl rfl (by kernel_rfl) rfl rfl rfl rfl ?_ | refine mo_store_cell 1 E 59 (.tmp 5) (.tmp 9) rfl rfl rfl rfl (by kernel_rfl) rfl rfl rfl rfl ?_
        clear E
        intro w9 E
        simp only [List.set_cons_zero, List.set_cons_succ] at E
        have S6_6 := S4_5
        refine hK _ _ S6_6.out ?_
        clear hK K
        try simp only [Act.put, List.getElem_toArray, List.getElem_cons_succ, List.getElem_cons_zero, List.setIfInBounds_toArray, List.set_cons_zero, List.set_cons_succ]
        refine hm_one (i := 7) (by kernel_rfl) ?_
        refine hm_step 7 rfl (by kernel_rfl) fun K hK => ?_
        try simp only [Act.put, List.getElem_toArray, List.getElem_cons_succ, List.getElem_cons_zero, List.setIfInBounds_toArray, List.set_cons_zero, List.set_cons_succ]
        first | refine mo_store_cell 0 E 59 (.tmp 6) (.tmp 11) rfl rfl rfl rfl (by kernel_rfl) rfl rfl rfl rfl ?_ | refine mo_store_cell 1 E 59 (.tmp 6) (.tmp 11) rfl rfl rfl rfl (by kernel_rfl) rfl rfl rfl rfl ?_
        clear E
        intro w9 E
        simp only [List.set_cons_zero, List.set_cons_succ] at E
        have S7_7 := S6_6
        refine hK _ _ S7_7.out ?_
        clear hK K
        try simp only [Act.put, List.getElem_toArray, List.getElem_cons_succ, List.getElem_cons_zero, List.setIfInBounds_toArray, List.set_cons_zero, List.set_cons_succ]
        refine wpAnyH_done (by kernel_rfl) ?_ _
        go_wp2_with (first
          | ((with_reducible refine wpList_at 13 rfl ?_); refine wpList_kn rfl (.int .u64 (n : Int)) (by exact exec_cvu rfl rfl (by have := HN.out; omega)) ?_)
          | ((with_reducible refine wpList_at 14 rfl ?_); refine wpList_kn rfl (.int .u64 ((n * 784931 : Nat) : Int)) (by exact exec_mulE (b := 784931) rfl rfl rfl (by have := HN.out; omega)) ?_)
          | ((with_reducible refine wpList_at 7 rfl ?_); refine mem_alloc E 59 rfl rfl (z := .int .u64 0) (n := 1) (by kernel_rfl) ?_; clear E; intro b7 w11 E)
          | ((with_reducible refine wpList_atn rfl ?_); refine mem_store_cell 0 E 59 rfl (.tmp 7) (.tmp 14) rfl rfl rfl rfl (by kernel_rfl) rfl rfl rfl rfl ?_; clear E; intro w12 E; simp only [List.set_cons_zero, List.set_cons_succ] at E))
        go_ret
        exact ⟨⟨b5, b6, b7, rfl, cell_of_here (E.out.get (b := b5) (T := 59) (c := #[.int .u64 (k0 : Int)]) (by first | exact List.mem_cons_self | exact List.mem_cons_of_mem _ List.mem_cons_self | exact List.mem_cons_of_mem _ (List.mem_cons_of_mem _ List.mem_cons_self) | exact List.mem_cons_of_mem _ (List.mem_cons_of_mem _ (List.mem_cons_of_mem _ List.mem_cons_self)))) 0 rfl, cell_of_here (E.out.get (b := b6) (T := 59) (c := #[.int .u64 (k1 : Int)]) (by first | exact List.mem_cons_self | exact List.mem_cons_of_mem _ List.mem_cons_self | exact List.mem_cons_of_mem _ (List.mem_cons_of_mem _ List.mem_cons_self) | exact List.mem_cons_of_mem _ (List.mem_cons_of_mem _ (List.mem_cons_of_mem _ List.mem_cons_self)))) 0 rfl, cell_of_here (E.out.get (b := b7) (T := 59) (c := #[.int .u64 ((n * 784931 : Nat) : Int)]) (by first | exact List.mem_cons_self | exact List.mem_cons_of_mem _ List.mem_cons_self | exact List.mem_cons_of_mem _ (List.mem_cons_of_mem _ List.mem_cons_self) | exact List.mem_cons_of_mem _ (List.mem_cons_of_mem _ (List.mem_cons_of_mem _ List.mem_cons_self)))) 0 rfl⟩, E.out.below⟩
    · refine hm_step 4 rfl (by kernel_rfl) fun K hK => ?_
      try simp only [Act.put, List.getElem_toArray, List.getElem_cons_succ, List.getElem_cons_zero, List.setIfInBounds_toArray, List.set_cons_zero, List.set_cons_succ]
      refine mo_alloc E 59 rfl (z := .int .u64 0) (n := 1) (by kernel_rfl) ?_
      clear E
      intro b5 w8 E
      have S4_3 := S1_2
      refine hK _ _ S4_3.out ?_
      clear hK K
      try simp only [Act.put, List.getElem_toArray, List.getElem_cons_succ, List.getElem_cons_zero, List.setIfInBounds_toArray, List.set_cons_zero, List.set_cons_succ]
      refine hm_two (i := 3) (j := 5) (by kernel_rfl) ?_ ?_
      · refine hm_step 3 rfl (by kernel_rfl) fun K hK => ?_
        try simp only [Act.put, List.getElem_toArray, List.getElem_cons_succ, List.getElem_cons_zero, List.setIfInBounds_toArray, List.set_cons_zero, List.set_cons_succ]
        go_simp
        go_at_call 63
        refine (K1.out _ b2 23 (E.out.get (b := b2) (by first | exact List.mem_cons_self | exact List.mem_cons_of_mem _ List.mem_cons_self | exact List.mem_cons_of_mem _ (List.mem_cons_of_mem _ List.mem_cons_self) | exact List.mem_cons_of_mem _ (List.mem_cons_of_mem _ (List.mem_cons_of_mem _ List.mem_cons_self))))).mono ?_
        rintro e w7 ⟨rfl, rfl⟩
        have S3_4 := S4_3
        refine hK _ _ S3_4.out ?_
        clear hK K
        try simp only [Act.put, List.getElem_toArray, List.getElem_cons_succ, List.getElem_cons_zero, List.setIfInBounds_toArray, List.set_cons_zero, List.set_cons_succ]
        refine hm_one (i := 5) (by kernel_rfl) ?_
        refine hm_step 5 rfl (by kernel_rfl) fun K hK => ?_
        try simp only [Act.put, List.getElem_toArray, List.getElem_cons_succ, List.getElem_cons_zero, List.setIfInBounds_toArray, List.set_cons_zero, List.set_cons_succ]
        refine mo_alloc E 59 rfl (z := .int .u64 0) (n := 1) (by kernel_rfl) ?_
        clear E
        intro b6 w8 E
        have S5_5 := S3_4
        refine hK _ _ S5_5.out ?_
        clear hK K
        try simp only [Act.put, List.getElem_toArray, List.getElem_cons_succ, List.getElem_cons_zero, List.setIfInBounds_toArray, List.set_cons_zero, List.set_cons_succ]
        refine hm_one (i := 6) (by kernel_rfl) ?_
        refine hm_step 6 rfl (by kernel_rfl) fun K hK => ?_
        try simp only [Act.put, List.getElem_toArray, List.getElem_cons_succ, List.getElem_cons_zero, List.setIfInBounds_toArray, List.set_cons_zero, List.set_cons_succ]
        first | refine mo_store_cell 0 E 59 (.tmp 5) (.tmp 9) rfl rfl rfl rfl (by kernel_rfl) rfl rfl rfl rfl ?_ | refine mo_store_cell 1 E 59 (.tmp 5) (.tmp 9) rfl rfl rfl rfl (by kernel_rfl) rfl rfl rfl rfl ?_
        clear E
        intro w9 E
        simp only [List.set_cons_zero, List.set_cons_succ] at E
        have S6_6 := S5_5
        refine hK _ _ S6_6.out ?_
        clear hK K
        try simp only [Act.put, List.getElem_toArray, List.getElem_cons_succ, List.getElem_cons_zero, List.setIfInBounds_toArray, List.set_cons_zero, List.set_cons_succ]
        refine hm_one (i := 7) (by kernel_rfl) ?_
        refine hm_step 7 rfl (by kernel_rfl) fun K hK => ?_
        try simp only [Act.put, List.getElem_toArray, List.getElem_cons_succ, List.getElem_cons_zero, List.setIfInBounds_toArray, List.set_cons_zero, List.set_cons_succ]
        first | refine mo_store_cell 0 E 59 (.tmp 6) (.tmp 11) rfl rfl rfl rfl (by kernel_rfl) rfl rfl rfl rfl ?_ | refine mo_store_cell 1 E 59 (.tmp 6) (.tmp 11) rfl rfl rfl rfl (by kernel_rfl) rfl rfl rfl rfl ?_
        clear E
        intro w9 E
        simp only [List.set_cons_zero, List.set_cons_succ] at E
        have S7_7 := S6_6
        refine hK _ _ S7_7.out ?_
        clear hK K
        try simp only [Act.put, List.getElem_toArray, List.getElem_cons_succ, List.getElem_cons_zero, List.setIfInBounds_toArray, List.set_cons_zero, List.set_cons_succ]
        refine wpAnyH_done (by kernel_rfl) ?_ _
        go_wp2_with (first
          | ((with_reducible refine wpList_at 13 rfl ?_); refine wpList_kn rfl (.int .u64 (n : Int)) (by exact exec_cvu rfl rfl (by have := HN.out; omega)) ?_)
          | ((with_reducible refine wpList_at 14 rfl ?_); refine wpList_kn rfl (.int .u64 ((n * 784931 : Nat) : Int)) (by exact exec_mulE (b := 784931) rfl rfl rfl (by have := HN.out; omega)) ?_)
          | ((with_reducible refine wpList_at 7 rfl ?_); refine mem_alloc E 59 rfl rfl (z := .int .u64 0) (n := 1) (by kernel_rfl) ?_; clear E; intro b7 w11 E)
          | ((with_reducible refine wpList_atn rfl ?_); refine mem_store_cell 0 E 59 rfl (.tmp 7) (.tmp 14) rfl rfl rfl rfl (by kernel_rfl) rfl rfl rfl rfl ?_; clear E; intro w12 E; simp only [List.set_cons_zero, List.set_cons_succ] at E))
        go_ret
        exact ⟨⟨b5, b6, b7, rfl, cell_of_here (E.out.get (b := b5) (T := 59) (c := #[.int .u64 (k0 : Int)]) (by first | exact List.mem_cons_self | exact List.mem_cons_of_mem _ List.mem_cons_self | exact List.mem_cons_of_mem _ (List.mem_cons_of_mem _ List.mem_cons_self) | exact List.mem_cons_of_mem _ (List.mem_cons_of_mem _ (List.mem_cons_of_mem _ List.mem_cons_self)))) 0 rfl, cell_of_here (E.out.get (b := b6) (T := 59) (c := #[.int .u64 (k1 : Int)]) (by first | exact List.mem_cons_self | exact List.mem_cons_of_mem _ List.mem_cons_self | exact List.mem_cons_of_mem _ (List.mem_cons_of_mem _ List.mem_cons_self) | exact List.mem_cons_of_mem _ (List.mem_cons_of_mem _ (List.mem_cons_of_mem _ List.mem_cons_self)))) 0 rfl, cell_of_here (E.out.get (b := b7) (T := 59) (c := #[.int .u64 ((n * 784931 : Nat) : Int)]) (by first | exact List.mem_cons_self | exact List.mem_cons_of_mem _ List.mem_cons_self | exact List.mem_cons_of_mem _ (List.mem_cons_of_mem _ List.mem_cons_self) | exact List.mem_cons_of_mem _ (List.mem_cons_of_mem _ (List.mem_cons_of_mem _ List.mem_cons_self)))) 0 rfl⟩, E.out.below⟩
      · refine hm_step 5 rfl (by kernel_rfl) fun K hK => ?_
        try simp only [Act.put, List.getElem_toArray, List.getElem_cons_succ, List.getElem_cons_zero, List.setIfInBounds_toArray, List.set_cons_zero, List.set_cons_succ]
        refine mo_alloc E 59 rfl (z := .int .u64 0) (n := 1) (by kernel_rfl) ?_
        clear E
        intro b6 w8 E
        have S5_4 := S4_3
        refine hK _ _ S5_4.out ?_
        clear hK K
        try simp only [Act.put, List.getElem_toArray, List.getElem_cons_succ, List.getElem_cons_zero, List.setIfInBounds_toArray, List.set_cons_zero, List.set_cons_succ]
        refine hm_one (i := 3) (by kernel_rfl) ?_
        refine hm_step 3 rfl (by kernel_rfl) fun K hK => ?_
        try simp only [Act.put, List.getElem_toArray, List.getElem_cons_succ, List.getElem_cons_zero, List.setIfInBounds_toArray, List.set_cons_zero, List.set_cons_succ]
        go_simp
        go_at_call 63
        refine (K1.out _ b2 23 (E.out.get (b := b2) (by first | exact List.mem_cons_self | exact List.mem_cons_of_mem _ List.mem_cons_self | exact List.mem_cons_of_mem _ (List.mem_cons_of_mem _ List.mem_cons_self) | exact List.mem_cons_of_mem _ (List.mem_cons_of_mem _ (List.mem_cons_of_mem _ List.mem_cons_self))))).mono ?_
        rintro e w7 ⟨rfl, rfl⟩
        have S3_5 := S5_4
        refine hK _ _ S3_5.out ?_
        clear hK K
        try simp only [Act.put, List.getElem_toArray, List.getElem_cons_succ, List.getElem_cons_zero, List.setIfInBounds_toArray, List.set_cons_zero, List.set_cons_succ]
        refine hm_one (i := 6) (by kernel_rfl) ?_
        refine hm_step 6 rfl (by kernel_rfl) fun K hK => ?_
        try simp only [Act.put, List.getElem_toArray, List.getElem_cons_succ, List.getElem_cons_zero, List.setIfInBounds_toArray, List.set_cons_zero, List.set_cons_succ]
        first | refine mo_store_cell 0 E 59 (.tmp 5) (.tmp 9) rfl rfl rfl rfl (by kernel_rfl) rfl rfl rfl rfl ?_ | refine mo_store_cell 1 E 59 (.tmp 5) (.tmp 9) rfl rfl rfl rfl (by kernel_rfl) rfl rfl rfl rfl ?_
        clear E
        intro w9 E
        simp only [List.set_cons_zero, List.set_cons_succ] at E
        have S6_6 := S3_5
        refine hK _ _ S6_6.out ?_
        clear hK K
        try simp only [Act.put, List.getElem_toArray, List.getElem_cons_succ, List.getElem_cons_zero, List.setIfInBounds_toArray, List.set_cons_zero, List.set_cons_succ]
        refine hm_one (i := 7) (by kernel_rfl) ?_
        refine hm_step 7 rfl (by kernel_rfl) fun K hK => ?_
        try simp only [Act.put, List.getElem_toArray, List.getElem_cons_succ, List.getElem_cons_zero, List.setIfInBounds_toArray, List.set_cons_zero, List.set_cons_succ]
        first | refine mo_store_cell 0 E 59 (.tmp 6) (.tmp 11) rfl rfl rfl rfl (by kernel_rfl) rfl rfl rfl rfl ?_ | refine mo_store_cell 1 E 59 (.tmp 6) (.tmp 11) rfl rfl rfl rfl (by kernel_rfl) rfl rfl rfl rfl ?_
        clear E
        intro w9 E
        simp only [List.set_cons_zero, List.set_cons_succ] at E
        have S7_7 := S6_6
        refine hK _ _ S7_7.out ?_
        clear hK K
        try simp only [Act.put, List.getElem_toArray, List.getElem_cons_succ, List.getElem_cons_zero, List.setIfInBounds_toArray, List.set_cons_zero, List.set_cons_succ]
        refine wpAnyH_done (by kernel_rfl) ?_ _
        go_wp2_with (first
          | ((with_reducible refine wpList_at 13 rfl ?_); refine wpList_kn rfl (.int .u64 (n : Int)) (by exact exec_cvu rfl rfl (by have := HN.out; omega)) ?_)
          | ((with_reducible refine wpList_at 14 rfl ?_); refine wpList_kn rfl (.int .u64 ((n * 784931 : Nat) : Int)) (by exact exec_mulE (b := 784931) rfl rfl rfl (by have := HN.out; omega)) ?_)
          | ((with_reducible refine wpList_at 7 rfl ?_); refine mem_alloc E 59 rfl rfl (z := .int .u64 0) (n := 1) (by kernel_rfl) ?_; clear E; intro b7 w11 E)
          | ((with_reducible refine wpList_atn rfl ?_); refine mem_store_cell 0 E 59 rfl (.tmp 7) (.tmp 14) rfl rfl rfl rfl (by kernel_rfl) rfl rfl rfl rfl ?_; clear E; intro w12 E; simp only [List.set_cons_zero, List.set_cons_succ] at E))
        go_ret
        exact ⟨⟨b5, b6, b7, rfl, cell_of_here (E.out.get (b := b5) (T := 59) (c := #[.int .u64 (k0 : Int)]) (by first | exact List.mem_cons_self | exact List.mem_cons_of_mem _ List.mem_cons_self | exact List.mem_cons_of_mem _ (List.mem_cons_of_mem _ List.mem_cons_self) | exact List.mem_cons_of_mem _ (List.mem_cons_of_mem _ (List.mem_cons_of_mem _ List.mem_cons_self)))) 0 rfl, cell_of_here (E.out.get (b := b6) (T := 59) (c := #[.int .u64 (k1 : Int)]) (by first | exact List.mem_cons_self | exact List.mem_cons_of_mem _ List.mem_cons_self | exact List.mem_cons_of_mem _ (List.mem_cons_of_mem _ List.mem_cons_self) | exact List.mem_cons_of_mem _ (List.mem_cons_of_mem _ (List.mem_cons_of_mem _ List.mem_cons_self)))) 0 rfl, cell_of_here (E.out.get (b := b7) (T := 59) (c := #[.int .u64 ((n * 784931 : Nat) : Int)]) (by first | exact List.mem_cons_self | exact List.mem_cons_of_mem _ List.mem_cons_self | exact List.mem_cons_of_mem _ (List.mem_cons_of_mem _ List.mem_cons_self) | exact List.mem_cons_of_mem _ (List.mem_cons_of_mem _ (List.mem_cons_of_mem _ List.mem_cons_self)))) 0 rfl⟩, E.out.below⟩
    · refine hm_step 5 rfl (by kernel_rfl) fun K hK => ?_
      try simp only [Act.put, List.getElem_toArray, List.getElem_cons_succ, List.getElem_cons_zero, List.setIfInBounds_toArray, List.set_cons_zero, List.set_cons_succ]
      refine mo_alloc E 59 rfl (z := .int .u64 0) (n := 1) (by kernel_rfl) ?_
      clear E
      intro b6 w8 E
      have S5_3 := S1_2
      refine hK _ _ S5_3.out ?_
      clear hK K
      try simp only [Act.put, List.getElem_toArray, List.getElem_cons_succ, List.getElem_cons_zero, List.setIfInBounds_toArray, List.set_cons_zero, List.set_cons_succ]
      refine hm_two (i := 3) (j := 4) (by kernel_rfl) ?_ ?_
      · refine hm_step 3 rfl (by kernel_rfl) fun K hK => ?_
        try simp only [Act.put, List.getElem_toArray, List.getElem_cons_succ, List.getElem_cons_zero, List.setIfInBounds_toArray, List.set_cons_zero, List.set_cons_succ]
        go_simp
        go_at_call 63
        refine (K1.out _ b2 23 (E.out.get (b := b2) (by first | exact List.mem_cons_self | exact List.mem_cons_of_mem _ List.mem_cons_self | exact List.mem_cons_of_mem _ (List.mem_cons_of_mem _ List.mem_cons_self) | exact List.mem_cons_of_mem _ (List.mem_cons_of_mem _ (List.mem_cons_of_mem _ List.mem_cons_self))))).mono ?_
        rintro e w7 ⟨rfl, rfl⟩
        have S3_4 := S5_3
        refine hK _ _ S3_4.out ?_
        clear hK K
        try simp only [Act.put, List.getElem_toArray, List.getElem_cons_succ, List.getElem_cons_zero, List.setIfInBounds_toArray, List.set_cons_zero, List.set_cons_succ]
        refine hm_one (i := 4) (by kernel_rfl) ?_
        refine hm_step 4 rfl (by kernel_rfl) fun K hK => ?_
        try simp only [Act.put, List.getElem_toArray, List.getElem_cons_succ, List.getElem_cons_zero, List.setIfInBounds_toArray, List.set_cons_zero, List.set_cons_succ]
        refine mo_alloc E 59 rfl (z := .int .u64 0) (n := 1) (by kernel_rfl) ?_
        clear E
        intro b5 w8 E
        have S4_5 := S3_4
        refine hK _ _ S4_5.out ?_
        clear hK K
        try simp only [Act.put, List.getElem_toArray, List.getElem_cons_succ, List.getElem_cons_zero, List.setIfInBounds_toArray, List.set_cons_zero, List.set_cons_succ]
        refine hm_one (i := 6) (by kernel_rfl) ?_
        refine hm_step 6 rfl (by kernel_rfl) fun K hK => ?_
        try simp only [Act.put, List.getElem_toArray, List.getElem_cons_succ, List.getElem_cons_zero, List.setIfInBounds_toArray, List.set_cons_zero, List.set_cons_succ]
        first | refine mo_store_cell 0 E 59 (.tmp 5) (.tmp 9) rfl rfl rfl rfl (by kernel_rfl) rfl rfl rfl rfl ?_ | refine mo_store_cell 1 E 59 (.tmp 5) (.tmp 9) rfl rfl rfl rfl (by kernel_rfl) rfl rfl rfl rfl ?_
        clear E
        intro w9 E
        simp only [List.set_cons_zero, List.set_cons_succ] at E
        have S6_6 := S4_5
        refine hK _ _ S6_6.out ?_
        clear hK K
        try simp only [Act.put, List.getElem_toArray, List.getElem_cons_succ, List.getElem_cons_zero, List.setIfInBounds_toArray, List.set_cons_zero, List.set_cons_succ]
        refine hm_one (i := 7) (by kernel_rfl) ?_
        refine hm_step 7 rfl (by kernel_rfl) fun K hK => ?_
        try simp only [Act.put, List.getElem_toArray, List.getElem_cons_succ, List.getElem_cons_zero, List.setIfInBounds_toArray, List.set_cons_zero, List.set_cons_succ]
        first | refine mo_store_cell 0 E 59 (.tmp 6) (.tmp 11) rfl rfl rfl rfl (by kernel_rfl) rfl rfl rfl rfl ?_ | refine mo_store_cell 1 E 59 (.tmp 6) (.tmp 11) rfl rfl rfl rfl (by kernel_rfl) rfl rfl rfl rfl ?_
        clear E
        intro w9 E
        simp only [List.set_cons_zero, List.set_cons_succ] at E
        have S7_7 := S6_6
        refine hK _ _ S7_7.out ?_
        clear hK K
        try simp only [Act.put, List.getElem_toArray, List.getElem_cons_succ, List.getElem_cons_zero, List.setIfInBounds_toArray, List.set_cons_zero, List.set_cons_succ]
        refine wpAnyH_done (by kernel_rfl) ?_ _
        go_wp2_with (first
          | ((with_reducible refine wpList_at 13 rfl ?_); refine wpList_kn rfl (.int .u64 (n : Int)) (by exact exec_cvu rfl rfl (by have := HN.out; omega)) ?_)
          | ((with_reducible refine wpList_at 14 rfl ?_); refine wpList_kn rfl (.int .u64 ((n * 784931 : Nat) : Int)) (by exact exec_mulE (b := 784931) rfl rfl rfl (by have := HN.out; omega)) ?_)
          | ((with_reducible refine wpList_at 7 rfl ?_); refine mem_alloc E 59 rfl rfl (z := .int .u64 0) (n := 1) (by kernel_rfl) ?_; clear E; intro b7 w11 E)
          | ((with_reducible refine wpList_atn rfl ?_); refine mem_store_cell 0 E 59 rfl (.tmp 7) (.tmp 14) rfl rfl rfl rfl (by kernel_rfl) rfl rfl rfl rfl ?_; clear E; intro w12 E; simp only [List.set_cons_zero, List.set_cons_succ] at E))
        go_ret
        exact ⟨⟨b5, b6, b7, rfl, cell_of_here (E.out.get (b := b5) (T := 59) (c := #[.int .u64 (k0 : Int)]) (by first | exact List.mem_cons_self | exact List.mem_cons_of_mem _ List.mem_cons_self | exact List.mem_cons_of_mem _ (List.mem_cons_of_mem _ List.mem_cons_self) | exact List.mem_cons_of_mem _ (List.mem_cons_of_mem _ (List.mem_cons_of_mem _ List.mem_cons_self)))) 0 rfl, cell_of_here (E.out.get (b := b6) (T := 59) (c := #[.int .u64 (k1 : Int)]) (by first | exact List.mem_cons_self | exact List.mem_cons_of_mem _ List.mem_cons_self | exact List.mem_cons_of_mem _ (List.mem_cons_of_mem _ List.mem_cons_self) | exact List.mem_cons_of_mem _ (List.mem_cons_of_mem _ (List.mem_cons_of_mem _ List.mem_cons_self)))) 0 rfl, cell_of_here (E.out.get (b := b7) (T := 59) (c := #[.int .u64 ((n * 784931 : Nat) : Int)]) (by first | exact List.mem_cons_self | exact List.mem_cons_of_mem _ List.mem_cons_self | exact List.mem_cons_of_mem _ (List.mem_cons_of_mem _ List.mem_cons_self) | exact List.mem_cons_of_mem _ (List.mem_cons_of_mem _ (List.mem_cons_of_mem _ List.mem_cons_self)))) 0 rfl⟩, E.out.below⟩
      · refine hm_step 4 rfl (by kernel_rfl) fun K hK => ?_
        try simp only [Act.put, List.getElem_toArray, List.getElem_cons_succ, List.getElem_cons_zero, List.setIfInBounds_toArray, List.set_cons_zero, List.set_cons_succ]
        refine mo_alloc E 59 rfl (z := .int .u64 0) (n := 1) (by kernel_rfl) ?_
        clear E
        intro b5 w8 E
        have S4_4 := S5_3
        refine hK _ _ S4_4.out ?_
        clear hK K
        try simp only [Act.put, List.getElem_toArray, List.getElem_cons_succ, List.getElem_cons_zero, List.setIfInBounds_toArray, List.set_cons_zero, List.set_cons_succ]
        refine hm_one (i := 3) (by kernel_rfl) ?_
        refine hm_step 3 rfl (by kernel_rfl) fun K hK => ?_
        try simp only [Act.put, List.getElem_toArray, List.getElem_cons_succ, List.getElem_cons_zero, List.setIfInBounds_toArray, List.set_cons_zero, List.set_cons_succ]
        go_simp
        go_at_call 63
        refine (K1.out _ b2 23 (E.out.get (b := b2) (by first | exact List.mem_cons_self | exact List.mem_cons_of_mem _ List.mem_cons_self | exact List.mem_cons_of_mem _ (List.mem_cons_of_mem _ List.mem_cons_self) | exact List.mem_cons_of_mem _ (List.mem_cons_of_mem _ (List.mem_cons_of_mem _ List.mem_cons_self))))).mono ?_
        rintro e w7 ⟨rfl, rfl⟩
        have S3_5 := S4_4
        refine hK _ _ S3_5.out ?_
        clear hK K
        try simp only [Act.put, List.getElem_toArray, List.getElem_cons_succ, List.getElem_cons_zero, List.setIfInBounds_toArray, List.set_cons_zero, List.set_cons_succ]
        refine hm_one (i := 6) (by kernel_rfl) ?_
        refine hm_step 6 rfl (by kernel_rfl) fun K hK => ?_
        try simp only [Act.put, List.getElem_toArray, List.getElem_cons_succ, List.getElem_cons_zero, List.setIfInBounds_toArray, List.set_cons_zero, List.set_cons_succ]
        first | refine mo_store_cell 0 E 59 (.tmp 5) (.tmp 9) rfl rfl rfl rfl (by kernel_rfl) rfl rfl rfl rfl ?_ | refine mo_store_cell 1 E 59 (.tmp 5) (.tmp 9) rfl rfl rfl rfl (by kernel_rfl) rfl rfl rfl rfl ?_
        clear E
        intro w9 E
        simp only [List.set_cons_zero, List.set_cons_succ] at E
        have S6_6 := S3_5
        refine hK _ _ S6_6.out ?_
        clear hK K
        try simp only [Act.put, List.getElem_toArray, List.getElem_cons_succ, List.getElem_cons_zero, List.setIfInBounds_toArray, List.set_cons_zero, List.set_cons_succ]
        refine hm_one (i := 7) (by kernel_rfl) ?_
        refine hm_step 7 rfl (by kernel_rfl) fun K hK => ?_
        try simp only [Act.put, List.getElem_toArray, List.getElem_cons_succ, List.getElem_cons_zero, List.setIfInBounds_toArray, List.set_cons_zero, List.set_cons_succ]
        first | refine mo_store_cell 0 E 59 (.tmp 6) (.tmp 11) rfl rfl rfl rfl (by kernel_rfl) rfl rfl rfl rfl ?_ | refine mo_store_cell 1 E 59 (.tmp 6) (.tmp 11) rfl rfl rfl rfl (by kernel_rfl) rfl rfl rfl rfl ?_
        clear E
        intro w9 E
        simp only [List.set_cons_zero, List.set_cons_succ] at E
        have S7_7 := S6_6
        refine hK _ _ S7_7.out ?_
        clear hK K
        try simp only [Act.put, List.getElem_toArray, List.getElem_cons_succ, List.getElem_cons_zero, List.setIfInBounds_toArray, List.set_cons_zero, List.set_cons_succ]
        refine wpAnyH_done (by kernel_rfl) ?_ _
        go_wp2_with (first
          | ((with_reducible refine wpList_at 13 rfl ?_); refine wpList_kn rfl (.int .u64 (n : Int)) (by exact exec_cvu rfl rfl (by have := HN.out; omega)) ?_)
          | ((with_reducible refine wpList_at 14 rfl ?_); refine wpList_kn rfl (.int .u64 ((n * 784931 : Nat) : Int)) (by exact exec_mulE (b := 784931) rfl rfl rfl (by have := HN.out; omega)) ?_)
          | ((with_reducible refine wpList_at 7 rfl ?_); refine mem_alloc E 59 rfl rfl (z := .int .u64 0) (n := 1) (by kernel_rfl) ?_; clear E; intro b7 w11 E)
          | ((with_reducible refine wpList_atn rfl ?_); refine mem_store_cell 0 E 59 rfl (.tmp 7) (.tmp 14) rfl rfl rfl rfl (by kernel_rfl) rfl rfl rfl rfl ?_; clear E; intro w12 E; simp only [List.set_cons_zero, List.set_cons_succ] at E))
        go_ret
        exact ⟨⟨b5, b6, b7, rfl, cell_of_here (E.out.get (b := b5) (T := 59) (c := #[.int .u64 (k0 : Int)]) (by first | exact List.mem_cons_self | exact List.mem_cons_of_mem _ List.mem_cons_self | exact List.mem_cons_of_mem _ (List.mem_cons_of_mem _ List.mem_cons_self) | exact List.mem_cons_of_mem _ (List.mem_cons_of_mem _ (List.mem_cons_of_mem _ List.mem_cons_self)))) 0 rfl, cell_of_here (E.out.get (b := b6) (T := 59) (c := #[.int .u64 (k1 : Int)]) (by first | exact List.mem_cons_self | exact List.mem_cons_of_mem _ List.mem_cons_self | exact List.mem_cons_of_mem _ (List.mem_cons_of_mem _ List.mem_cons_self) | exact List.mem_cons_of_mem _ (List.mem_cons_of_mem _ (List.mem_cons_of_mem _ List.mem_cons_self)))) 0 rfl, cell_of_here (E.out.get (b := b7) (T := 59) (c := #[.int .u64 ((n * 784931 : Nat) : Int)]) (by first | exact List.mem_cons_self | exact List.mem_cons_of_mem _ List.mem_cons_self | exact List.mem_cons_of_mem _ (List.mem_cons_of_mem _ List.mem_cons_self) | exact List.mem_cons_of_mem _ (List.mem_cons_of_mem _ (List.mem_cons_of_mem _ List.mem_cons_self)))) 0 rfl⟩, E.out.below⟩
  · refine hm_step 4 rfl (by kernel_rfl) fun K hK => ?_
    try simp only [Act.put, List.getElem_toArray, List.getElem_cons_succ, List.getElem_cons_zero, List.setIfInBounds_toArray, List.set_cons_zero, List.set_cons_succ]
    refine mo_alloc E 59 rfl (z := .int .u64 0) (n := 1) (by kernel_rfl) ?_
    clear E
    intro b5 w8 E
    have S4_2 := S0
    refine hK _ _ S4_2.out ?_
    clear hK K
    try simp only [Act.put, List.getElem_toArray, List.getElem_cons_succ, List.getElem_cons_zero, List.setIfInBounds_toArray, List.set_cons_zero, List.set_cons_succ]
    refine hm_two (i := 1) (j := 5) (by kernel_rfl) ?_ ?_
    · refine hm_step 1 rfl (by kernel_rfl) fun K hK => ?_
      try simp only [Act.put, List.getElem_toArray, List.getElem_cons_succ, List.getElem_cons_zero, List.setIfInBounds_toArray, List.set_cons_zero, List.set_cons_succ]
      go_simp
      go_at_call 63
      refine (K0.out _ b2 23 (E.out.get (b := b2) (by first | exact List.mem_cons_self | exact List.mem_cons_of_mem _ List.mem_cons_self | exact List.mem_cons_of_mem _ (List.mem_cons_of_mem _ List.mem_cons_self) | exact List.mem_cons_of_mem _ (List.mem_cons_of_mem _ (List.mem_cons_of_mem _ List.mem_cons_self))))).mono ?_
      rintro e w7 ⟨rfl, rfl⟩
      have S1_3 := S4_2
      refine hK _ _ S1_3.out ?_
      clear hK K
      try simp only [Act.put, List.getElem_toArray, List.getElem_cons_succ, List.getElem_cons_zero, List.setIfInBounds_toArray, List.set_cons_zero, List.set_cons_succ]
      refine hm_two (i := 3) (j := 5) (by kernel_rfl) ?_ ?_
      · refine hm_step 3 rfl (by kernel_rfl) fun K hK => ?_
        try simp only [Act.put, List.getElem_toArray, List.getElem_cons_succ, List.getElem_cons_zero, List.setIfInBounds_toArray, List.set_cons_zero, List.set_cons_succ]
        go_simp
        go_at_call 63
        refine (K1.out _ b2 23 (E.out.get (b := b2) (by first | exact List.mem_cons_self | exact List.mem_cons_of_mem _ List.mem_cons_self | exact List.mem_cons_of_mem _ (List.mem_cons_of_mem _ List.mem_cons_self) | exact List.mem_cons_of_mem _ (List.mem_cons_of_mem _ (List.mem_cons_of_mem _ List.mem_cons_self))))).mono ?_
        rintro e w7 ⟨rfl, rfl⟩
        have S3_4 := S1_3
        refine hK _ _ S3_4.out ?_
        clear hK K
        try simp only [Act.put, List.getElem_toArray, List.getElem_cons_succ, List.getElem_cons_zero, List.setIfInBounds_toArray, List.set_cons_zero, List.set_cons_succ]
        refine hm_one (i := 5) (by kernel_rfl) ?_
        refine hm_step 5 rfl (by kernel_rfl) fun K hK => ?_
        try simp only [Act.put, List.getElem_toArray, List.getElem_cons_succ, List.getElem_cons_zero, List.setIfInBounds_toArray, List.set_cons_zero, List.set_cons_succ]
        refine mo_alloc E 59 rfl (z := .int .u64 0) (n := 1) (by kernel_rfl) ?_
        clear E
        intro b6 w8 E
        have S5_5 := S3_4
        refine hK _ _ S5_5.out ?_
        clear hK K
        try simp only [Act.put, List.getElem_toArray, List.getElem_cons_succ, List.getElem_cons_zero, List.setIfInBounds_toArray, List.set_cons_zero, List.set_cons_succ]
        refine hm_one (i := 6) (by kernel_rfl) ?_
        refine hm_step 6 rfl (by kernel_rfl) fun K hK => ?_
        try simp only [Act.put, List.getElem_toArray, List.getElem_cons_succ, List.getElem_cons_zero, List.setIfInBounds_toArray, List.set_cons_zero, List.set_cons_succ]
        first | refine mo_store_cell 0 E 59 (.tmp 5) (.tmp 9) rfl rfl rfl rfl (by kernel_rfl) rfl rfl rfl rfl ?_ | refine mo_store_cell 1 E 59 (.tmp 5) (.tmp 9) rfl rfl rfl rfl (by kernel_rfl) rfl rfl rfl rfl ?_
        clear E
        intro w9 E
        simp only [List.set_cons_zero, List.set_cons_succ] at E
        have S6_6 := S5_5
        refine hK _ _ S6_6.out ?_
        clear hK K
        try simp only [Act.put, List.getElem_toArray, List.getElem_cons_succ, List.getElem_cons_zero, List.setIfInBounds_toArray, List.set_cons_zero, List.set_cons_succ]
        refine hm_one (i := 7) (by kernel_rfl) ?_
        refine hm_step 7 rfl (by kernel_rfl) fun K hK => ?_
        try simp only [Act.put, List.getElem_toArray, List.getElem_cons_succ, List.getElem_cons_zero, List.setIfInBounds_toArray, List.set_cons_zero, List.set_cons_succ]
        first | refine mo_store_cell 0 E 59 (.tmp 6) (.tmp 11) rfl rfl rfl rfl (by kernel_rfl) rfl rfl rfl rfl ?_ | refine mo_store_cell 1 E 59 (.tmp 6) (.tmp 11) rfl rfl rfl rfl (by kernel_rfl) rfl rfl rfl rfl ?_
        clear E
        intro w9 E
        simp only [List.set_cons_zero, List.set_cons_succ] at E
        have S7_7 := S6_6
        refine hK _ _ S7_7.out ?_
        clear hK K
        try simp only [Act.put, List.getElem_toArray, List.getElem_cons_succ, List.getElem_cons_zero, List.setIfInBounds_toArray, List.set_cons_zero, List.set_cons_succ]
        refine wpAnyH_done (by kernel_rfl) ?_ _
        go_wp2_with (first
          | ((with_reducible refine wpList_at 13 rfl ?_); refine wpList_kn rfl (.int .u64 (n : Int)) (by exact exec_cvu rfl rfl (by have := HN.out; omega)) ?_)
          | ((with_reducible refine wpList_at 14 rfl ?_); refine wpList_kn rfl (.int .u64 ((n * 784931 : Nat) : Int)) (by exact exec_mulE (b := 784931) rfl rfl rfl (by have := HN.out; omega)) ?_)
          | ((with_reducible refine wpList_at 7 rfl ?_); refine mem_alloc E 59 rfl rfl (z := .int .u64 0) (n := 1) (by kernel_rfl) ?_; clear E; intro b7 w11 E)
          | ((with_reducible refine wpList_atn rfl ?_); refine mem_store_cell 0 E 59 rfl (.tmp 7) (.tmp 14) rfl rfl rfl rfl (by kernel_rfl) rfl rfl rfl rfl ?_; clear E; intro w12 E; simp only [List.set_cons_zero, List.set_cons_succ] at E))
        go_ret
        exact ⟨⟨b5, b6, b7, rfl, cell_of_here (E.out.get (b := b5) (T := 59) (c := #[.int .u64 (k0 : Int)]) (by first | exact List.mem_cons_self | exact List.mem_cons_of_mem _ List.mem_cons_self | exact List.mem_cons_of_mem _ (List.mem_cons_of_mem _ List.mem_cons_self) | exact List.mem_cons_of_mem _ (List.mem_cons_of_mem _ (List.mem_cons_of_mem _ List.mem_cons_self)))) 0 rfl, cell_of_here (E.out.get (b := b6) (T := 59) (c := #[.int .u64 (k1 : Int)]) (by first | exact List.mem_cons_self | exact List.mem_cons_of_mem _ List.mem_cons_self | exact List.mem_cons_of_mem _ (List.mem_cons_of_mem _ List.mem_cons_self) | exact List.mem_cons_of_mem _ (List.mem_cons_of_mem _ (List.mem_cons_of_mem _ List.mem_cons_self)))) 0 rfl, cell_of_here (E.out.get (b := b7) (T := 59) (c := #[.int .u64 ((n * 784931 : Nat) : Int)]) (by first | exact List.mem_cons_self | exact List.mem_cons_of_mem _ List.mem_cons_self | exact List.mem_cons_of_mem _ (List.mem_cons_of_mem _ List.mem_cons_self) | exact List.mem_cons_of_mem _ (List.mem_cons_of_mem _ (List.mem_cons_of_mem _ List.mem_cons_self)))) 0 rfl⟩, E.out.below⟩
      · refine hm_step 5 rfl (by kernel_rfl) fun K hK => ?_
        try simp only [Act.put, List.getElem_toArray, List.getElem_cons_succ, List.getElem_cons_zero, List.setIfInBounds_toArray, List.set_cons_zero, List.set_cons_succ]
        refine mo_alloc E 59 rfl (z := .int .u64 0) (n := 1) (by kernel_rfl) ?_
        clear E
        intro b6 w8 E
        have S5_4 := S1_3
        refine hK _ _ S5_4.out ?_
        clear hK K
        try simp only [Act.put, List.getElem_toArray, List.getElem_cons_succ, List.getElem_cons_zero, List.setIfInBounds_toArray, List.set_cons_zero, List.set_cons_succ]
        refine hm_one (i := 3) (by kernel_rfl) ?_
        refine hm_step 3 rfl (by kernel_rfl) fun K hK => ?_
        try simp only [Act.put, List.getElem_toArray, List.getElem_cons_succ, List.getElem_cons_zero, List.setIfInBounds_toArray, List.set_cons_zero, List.set_cons_succ]
        go_simp
        go_at_call 63
        refine (K1.out _ b2 23 (E.out.get (b := b2) (by first | exact List.mem_cons_self | exact List.mem_cons_of_mem _ List.mem_cons_self | exact List.mem_cons_of_mem _ (List.mem_cons_of_mem _ List.mem_cons_self) | exact List.mem_cons_of_mem _ (List.mem_cons_of_mem _ (List.mem_cons_of_mem _ List.mem_cons_self))))).mono ?_
        rintro e w7 ⟨rfl, rfl⟩
        have S3_5 := S5_4
        refine hK _ _ S3_5.out ?_
        clear hK K
        try simp only [Act.put, List.getElem_toArray, List.getElem_cons_succ, List.getElem_cons_zero, List.setIfInBounds_toArray, List.set_cons_zero, List.set_cons_succ]
        refine hm_one (i := 6) (by kernel_rfl) ?_
        refine hm_step 6 rfl (by kernel_rfl) fun K hK => ?_
        try simp only [Act.put, List.getElem_toArray, List.getElem_cons_succ, List.getElem_cons_zero, List.setIfInBounds_toArray, List.set_cons_zero, List.set_cons_succ]
        first | refine mo_store_cell 0 E 59 (.tmp 5) (.tmp 9) rfl rfl rfl rfl (by kernel_rfl) rfl rfl rfl rfl ?_ | refine mo_store_cell 1 E 59 (.tmp 5) (.tmp 9) rfl rfl rfl rfl (by kernel_rfl) rfl rfl rfl rfl ?_
        clear E
        intro w9 E
        simp only [List.set_cons_zero, List.set_cons_succ] at E
        have S6_6 := S3_5
        refine hK _ _ S6_6.out ?_
        clear hK K
        try simp only [Act.put, List.getElem_toArray, List.getElem_cons_succ, List.getElem_cons_zero, List.setIfInBounds_toArray, List.set_cons_zero, List.set_cons_succ]
        refine hm_one (i := 7) (by kernel_rfl) ?_
        refine hm_step 7 rfl (by kernel_rfl) fun K hK => ?_
        try simp only [Act.put, List.getElem_toArray, List.getElem_cons_succ, List.getElem_cons_zero, List.setIfInBounds_toArray, List.set_cons_zero, List.set_cons_succ]
        first | refine mo_store_cell 0 E 59 (.tmp 6) (.tmp 11) rfl rfl rfl rfl (by kernel_rfl) rfl rfl rfl rfl ?_ | refine mo_store_cell 1 E 59 (.tmp 6) (.tmp 11) rfl rfl rfl rfl (by kernel_rfl) rfl rfl rfl rfl ?_
        clear E
        intro w9 E
        simp only [List.set_cons_zero, List.set_cons_succ] at E
        have S7_7 := S6_6
        refine hK _ _ S7_7.out ?_
        clear hK K
        try simp only [Act.put, List.getElem_toArray, List.getElem_cons_succ, List.getElem_cons_zero, List.setIfInBounds_toArray, List.set_cons_zero, List.set_cons_succ]
        refine wpAnyH_done (by kernel_rfl) ?_ _
        go_wp2_with (first
          | ((with_reducible refine wpList_at 13 rfl ?_); refine wpList_kn rfl (.int .u64 (n : Int)) (by exact exec_cvu rfl rfl (by have := HN.out; omega)) ?_)
          | ((with_reducible refine wpList_at 14 rfl ?_); refine wpList_kn rfl (.int .u64 ((n * 784931 : Nat) : Int)) (by exact exec_mulE (b := 784931) rfl rfl rfl (by have := HN.out; omega)) ?_)
          | ((with_reducible refine wpList_at 7 rfl ?_); refine mem_alloc E 59 rfl rfl (z := .int .u64 0) (n := 1) (by kernel_rfl) ?_; clear E; intro b7 w11 E)
          | ((with_reducible refine wpList_atn rfl ?_); refine mem_store_cell 0 E 59 rfl (.tmp 7) (.tmp 14) rfl rfl rfl rfl (by kernel_rfl) rfl rfl rfl rfl ?_; clear E; intro w12 E; simp only [List.set_cons_zero, List.set_cons_succ] at E))
        go_ret
        exact ⟨⟨b5, b6, b7, rfl, cell_of_here (E.out.get (b := b5) (T := 59) (c := #[.int .u64 (k0 : Int)]) (by first | exact List.mem_cons_self | exact List.mem_cons_of_mem _ List.mem_cons_self | exact List.mem_cons_of_mem _ (List.mem_cons_of_mem _ List.mem_cons_self) | exact List.mem_cons_of_mem _ (List.mem_cons_of_mem _ (List.mem_cons_of_mem _ List.mem_cons_self)))) 0 rfl, cell_of_here (E.out.get (b := b6) (T := 59) (c := #[.int .u64 (k1 : Int)]) (by first | exact List.mem_cons_self | exact List.mem_cons_of_mem _ List.mem_cons_self | exact List.mem_cons_of_mem _ (List.mem_cons_of_mem _ List.mem_cons_self) | exact List.mem_cons_of_mem _ (List.mem_cons_of_mem _ (List.mem_cons_of_mem _ List.mem_cons_self)))) 0 rfl, cell_of_here (E.out.get (b := b7) (T := 59) (c := #[.int .u64 ((n * 784931 : Nat) : Int)]) (by first | exact List.mem_cons_self | exact List.mem_cons_of_mem _ List.mem_cons_self | exact List.mem_cons_of_mem _ (List.mem_cons_of_mem _ List.mem_cons_self) | exact List.mem_cons_of_mem _ (List.mem_cons_of_mem _ (List.mem_cons_of_mem _ List.mem_cons_self)))) 0 rfl⟩, E.out.below⟩
    · refine hm_step 5 rfl (by kernel_rfl) fun K hK => ?_
      try simp only [Act.put, List.getElem_toArray, List.getElem_cons_succ, List.getElem_cons_zero, List.setIfInBounds_toArray, List.set_cons_zero, List.set_cons_succ]
      refine mo_alloc E 59 rfl (z := .int .u64 0) (n := 1) (by kernel_rfl) ?_
      clear E
      intro b6 w8 E
      have S5_3 := S4_2
      refine hK _ _ S5_3.out ?_
      clear hK K
      try simp only [Act.put, List.getElem_toArray, List.getElem_cons_succ, List.getElem_cons_zero, List.setIfInBounds_toArray, List.set_cons_zero, List.set_cons_succ]
      refine hm_one (i := 1) (by kernel_rfl) ?_
      refine hm_step 1 rfl (by kernel_rfl) fun K hK => ?_
      try simp only [Act.put, List.getElem_toArray, List.getElem_cons_succ, List.getElem_cons_zero, List.setIfInBounds_toArray, List.set_cons_zero, List.set_cons_succ]
      go_simp
      go_at_call 63
      refine (K0.out _ b2 23 (E.out.get (b := b2) (by first | exact List.mem_cons_self | exact List.mem_cons_of_mem _ List.mem_cons_self | exact List.mem_cons_of_mem _ (List.mem_cons_of_mem _ List.mem_cons_self) | exact List.mem_cons_of_mem _ (List.mem_cons_of_mem _ (List.mem_cons_of_mem _ List.mem_cons_self))))).mono ?_
      rintro e w7 ⟨rfl, rfl⟩
      have S1_4 := S5_3
      refine hK _ _ S1_4.out ?_
      clear hK K
      try simp only [Act.put, List.getElem_toArray, List.getElem_cons_succ, List.getElem_cons_zero, List.setIfInBounds_toArray, List.set_cons_zero, List.set_cons_succ]
      refine hm_one (i := 3) (by kernel_rfl) ?_
      refine hm_step 3 rfl (by kernel_rfl) fun K hK => ?_
      try simp only [Act.put, List.getElem_toArray, List.getElem_cons_succ, List.getElem_cons_zero, List.setIfInBounds_toArray, List.set_cons_zero, List.set_cons_succ]
      go_simp
      go_at_call 63
      refine (K1.out _ b2 23 (E.out.get (b := b2) (by first | exact List.mem_cons_self | exact List.mem_cons_of_mem _ List.mem_cons_self | exact List.mem_cons_of_mem _ (List.mem_cons_of_mem _ List.mem_cons_self) | exact List.mem_cons_of_mem _ (List.mem_cons_of_mem _ (List.mem_cons_of_mem _ List.mem_cons_self))))).mono ?_
      rintro e w7 ⟨rfl, rfl⟩
      have S3_5 := S1_4
      refine hK _ _ S3_5.out ?_
      clear hK K
      try simp only [Act.put, List.getElem_toArray, List.getElem_cons_succ, List.getElem_cons_zero, List.setIfInBounds_toArray, List.set_cons_zero, List.set_cons_succ]
      refine hm_one (i := 6) (by kernel_rfl) ?_
      refine hm_step 6 rfl (by kernel_rfl) fun K hK => ?_
      try simp only [Act.put, List.getElem_toArray, List.getElem_cons_succ, List.getElem_cons_zero, List.setIfInBounds_toArray, List.set_cons_zero, List.set_cons_succ]
      first | refine mo_store_cell 0 E 59 (.tmp 5) (.tmp 9) rfl rfl rfl rfl (by kernel_rfl) rfl rfl rfl rfl ?_ | refine mo_store_cell 1 E 59 (.tmp 5) (.tmp 9) rfl rfl rfl rfl (by kernel_rfl) rfl rfl rfl rfl ?_
      clear E
      intro w9 E
      simp only [List.set_cons_zero, List.set_cons_succ] at E
      have S6_6 := S3_5
      refine hK _ _ S6_6.out ?_
      clear hK K
      try simp only [Act.put, List.getElem_toArray, List.getElem_cons_succ, List.getElem_cons_zero, List.setIfInBounds_toArray, List.set_cons_zero, List.set_cons_succ]
      refine hm_one (i := 7) (by kernel_rfl) ?_
      refine hm_step 7 rfl (by kernel_rfl) fun K hK => ?_
      try simp only [Act.put, List.getElem_toArray, List.getElem_cons_succ, List.getElem_cons_zero, List.setIfInBounds_toArray, List.set_cons_zero, List.set_cons_succ]
      first | refine mo_store_cell 0 E 59 (.tmp 6) (.tmp 11) rfl rfl rfl rfl (by kernel_rfl) rfl rfl rfl rfl ?_ | refine mo_store_cell 1 E 59 (.tmp 6) (.tmp 11) rfl rfl rfl rfl (by kernel_rfl) rfl rfl rfl rfl ?_
      clear E
      intro w9 E
      simp only [List.set_cons_zero, List.set_cons_succ] at E
      have S7_7 := S6_6
      refine hK _ _ S7_7.out ?_
      clear hK K
      try simp only [Act.put, List.getElem_toArray, List.getElem_cons_succ, List.getElem_cons_zero, List.setIfInBounds_toArray, List.set_cons_zero, List.set_cons_succ]
      refine wpAnyH_done (by kernel_rfl) ?_ _
      go_wp2_with (first
        | ((with_reducible refine wpList_at 13 rfl ?_); refine wpList_kn rfl (.int .u64 (n : Int)) (by exact exec_cvu rfl rfl (by have := HN.out; omega)) ?_)
        | ((with_reducible refine wpList_at 14 rfl ?_); refine wpList_kn rfl (.int .u64 ((n * 784931 : Nat) : Int)) (by exact exec_mulE (b := 784931) rfl rfl rfl (by have := HN.out; omega)) ?_)
        | ((with_reducible refine wpList_at 7 rfl ?_); refine mem_alloc E 59 rfl rfl (z := .int .u64 0) (n := 1) (by kernel_rfl) ?_; clear E; intro b7 w11 E)
        | ((with_reducible refine wpList_atn rfl ?_); refine mem_store_cell 0 E 59 rfl (.tmp 7) (.tmp 14) rfl rfl rfl rfl (by kernel_rfl) rfl rfl rfl rfl ?_; clear E; intro w12 E; simp only [List.set_cons_zero, List.set_cons_succ] at E))
      go_ret
      exact ⟨⟨b5, b6, b7, rfl, cell_of_here (E.out.get (b := b5) (T := 59) (c := #[.int .u64 (k0 : Int)]) (by first | exact List.mem_cons_self | exact List.mem_cons_of_mem _ List.mem_cons_self | exact List.mem_cons_of_mem _ (List.mem_cons_of_mem _ List.mem_cons_self) | exact List.mem_cons_of_mem _ (List.mem_cons_of_mem _ (List.mem_cons_of_mem _ List.mem_cons_self)))) 0 rfl, cell_of_here (E.out.get (b := b6) (T := 59) (c := #[.int .u64 (k1 : Int)]) (by first | exact List.mem_cons_self | exact List.mem_cons_of_mem _ List.mem_cons_self | exact List.mem_cons_of_mem _ (List.mem_cons_of_mem _ List.mem_cons_self) | exact List.mem_cons_of_mem _ (List.mem_cons_of_mem _ (List.mem_cons_of_mem _ List.mem_cons_self)))) 0 rfl, cell_of_here (E.out.get (b := b7) (T := 59) (c := #[.int .u64 ((n * 784931 : Nat) : Int)]) (by first | exact List.mem_cons_self | exact List.mem_cons_of_mem _ List.mem_cons_self | exact List.mem_cons_of_mem _ (List.mem_cons_of_mem _ List.mem_cons_self) | exact List.mem_cons_of_mem _ (List.mem_cons_of_mem _ (List.mem_cons_of_mem _ List.mem_cons_self)))) 0 rfl⟩, E.out.below⟩
  · refine hm_step 5 rfl (by kernel_rfl) fun K hK => ?_
    try simp only [Act.put, List.getElem_toArray, List.getElem_cons_succ, List.getElem_cons_zero, List.setIfInBounds_toArray, List.set_cons_zero, List.set_cons_succ]
    refine mo_alloc E 59 rfl (z := .int .u64 0) (n := 1) (by kernel_rfl) ?_
    clear E
    intro b6 w8 E
    have S5_2 := S0
    refine hK _ _ S5_2.out ?_
    clear hK K
    try simp only [Act.put, List.getElem_toArray, List.getElem_cons_succ, List.getElem_cons_zero, List.setIfInBounds_toArray, List.set_cons_zero, List.set_cons_succ]
    refine hm_two (i := 1) (j := 4) (by kernel_rfl) ?_ ?_
    · refine hm_step 1 rfl (by kernel_rfl) fun K hK => ?_
      try simp only [Act.put, List.getElem_toArray, List.getElem_cons_succ, List.getElem_cons_zero, List.setIfInBounds_toArray, List.set_cons_zero, List.set_cons_succ]
      go_simp
      go_at_call 63
      refine (K0.out _ b2 23 (E.out.get (b := b2) (by first | exact List.mem_cons_self | exact List.mem_cons_of_mem _ List.mem_cons_self | exact List.mem_cons_of_mem _ (List.mem_cons_of_mem _ List.mem_cons_self) | exact List.mem_cons_of_mem _ (List.mem_cons_of_mem _ (List.mem_cons_of_mem _ List.mem_cons_self))))).mono ?_
      rintro e w7 ⟨rfl, rfl⟩
      have S1_3 := S5_2
      refine hK _ _ S1_3.out ?_
      clear hK K
      try simp only [Act.put, List.getElem_toArray, List.getElem_cons_succ, List.getElem_cons_zero, List.setIfInBounds_toArray, List.set_cons_zero, List.set_cons_succ]
      refine hm_two (i := 3) (j := 4) (by kernel_rfl) ?_ ?_
      · refine hm_step 3 rfl (by kernel_rfl) fun K hK => ?_
        try simp only [Act.put, List.getElem_toArray, List.getElem_cons_succ, List.getElem_cons_zero, List.setIfInBounds_toArray, List.set_cons_zero, List.set_cons_succ]
        go_simp
        go_at_call 63
        refine (K1.out _ b2 23 (E.out.get (b := b2) (by first | exact List.mem_cons_self | exact List.mem_cons_of_mem _ List.mem_cons_self | exact List.mem_cons_of_mem _ (List.mem_cons_of_mem _ List.mem_cons_self) | exact List.mem_cons_of_mem _ (List.mem_cons_of_mem _ (List.mem_cons_of_mem _ List.mem_cons_self))))).mono ?_
        rintro e w7 ⟨rfl, rfl⟩
        have S3_4 := S1_3
        refine hK _ _ S3_4.out ?_
        clear hK K
        try simp only [Act.put, List.getElem_toArray, List.getElem_cons_succ, List.getElem_cons_zero, List.setIfInBounds_toArray, List.set_cons_zero, List.set_cons_succ]
        refine hm_one (i := 4) (by kernel_rfl) ?_
        refine hm_step 4 rfl (by kernel_rfl) fun K hK => ?_
        try simp only [Act.put, List.getElem_toArray, List.getElem_cons_succ, List.getElem_cons_zero, List.setIfInBounds_toArray, List.set_cons_zero, List.set_cons_succ]
        refine mo_alloc E 59 rfl (z := .int .u64 0) (n := 1) (by kernel_rfl) ?_
        clear E
        intro b5 w8 E
        have S4_5 := S3_4
        refine hK _ _ S4_5.out ?_
        clear hK K
        try simp only [Act.put, List.getElem_toArray, List.getElem_cons_succ, List.getElem_cons_zero, List.setIfInBounds_toArray, List.set_cons_zero, List.set_cons_succ]
        refine hm_one (i := 6) (by kernel_rfl) ?_
        refine hm_step 6 rfl (by kernel_rfl) fun K hK => ?_
        try simp only [Act.put, List.getElem_toArray, List.getElem_cons_succ, List.getElem_cons_zero, List.setIfInBounds_toArray, List.set_cons_zero, List.set_cons_succ]
        first | refine mo_store_cell 0 E 59 (.tmp 5) (.tmp 9) rfl rfl rfl rfl (by kernel_rfl) rfl rfl rfl rfl ?_ | refine mo_store_cell 1 E 59 (.tmp 5) (.tmp 9) rfl rfl rfl rfl (by kernel_rfl) rfl rfl rfl rfl ?_
        clear E
        intro w9 E
        simp only [List.set_cons_zero, List.set_cons_succ] at E
        have S6_6 := S4_5
        refine hK _ _ S6_6.out ?_
        clear hK K
        try simp only [Act.put, List.getElem_toArray, List.getElem_cons_succ, List.getElem_cons_zero, List.setIfInBounds_toArray, List.set_cons_zero, List.set_cons_succ]
        refine hm_one (i := 7) (by kernel_rfl) ?_
        refine hm_step 7 rfl (by kernel_rfl) fun K hK => ?_
        try simp only [Act.put, List.getElem_toArray, List.getElem_cons_succ, List.getElem_cons_zero, List.setIfInBounds_toArray, List.set_cons_zero, List.set_cons_succ]
        first | refine mo_store_cell 0 E 59 (.tmp 6) (.tmp 11) rfl rfl rfl rfl (by kernel_rfl) rfl rfl rfl rfl ?_ | refine mo_store_cell 1 E 59 (.tmp 6) (.tmp 11) rfl rfl rfl rfl (by kernel_rfl) rfl rfl rfl rfl ?_
        clear E
        intro w9 E
        simp only [List.set_cons_zero, List.set_cons_succ] at E
        have S7_7 := S6_6
        refine hK _ _ S7_7.out ?_
        clear hK K
        try simp only [Act.put, List.getElem_toArray, List.getElem_cons_succ, List.getElem_cons_zero, List.setIfInBounds_toArray, List.set_cons_zero, List.set_cons_succ]
        refine wpAnyH_done (by kernel_rfl) ?_ _
        go_wp2_with (first
          | ((with_reducible refine wpList_at 13 rfl ?_); refine wpList_kn rfl (.int .u64 (n : Int)) (by exact exec_cvu rfl rfl (by have := HN.out; omega)) ?_)
          | ((with_reducible refine wpList_at 14 rfl ?_); refine wpList_kn rfl (.int .u64 ((n * 784931 : Nat) : Int)) (by exact exec_mulE (b := 784931) rfl rfl rfl (by have := HN.out; omega)) ?_)
          | ((with_reducible refine wpList_at 7 rfl ?_); refine mem_alloc E 59 rfl rfl (z := .int .u64 0) (n := 1) (by kernel_rfl) ?_; clear E; intro b7 w11 E)
          | ((with_reducible refine wpList_atn rfl ?_); refine mem_store_cell 0 E 59 rfl (.tmp 7) (.tmp 14) rfl rfl rfl rfl (by kernel_rfl) rfl rfl rfl rfl ?_; clear E; intro w12 E; simp only [List.set_cons_zero, List.set_cons_succ] at E))
        go_ret
        exact ⟨⟨b5, b6, b7, rfl, cell_of_here (E.out.get (b := b5) (T := 59) (c := #[.int .u64 (k0 : Int)]) (by first | exact List.mem_cons_self | exact List.mem_cons_of_mem _ List.mem_cons_self | exact List.mem_cons_of_mem _ (List.mem_cons_of_mem _ List.mem_cons_self) | exact List.mem_cons_of_mem _ (List.mem_cons_of_mem _ (List.mem_cons_of_mem _ List.mem_cons_self)))) 0 rfl, cell_of_here (E.out.get (b := b6) (T := 59) (c := #[.int .u64 (k1 : Int)]) (by first | exact List.mem_cons_self | exact List.mem_cons_of_mem _ List.mem_cons_self | exact List.mem_cons_of_mem _ (List.mem_cons_of_mem _ List.mem_cons_self) | exact List.mem_cons_of_mem _ (List.mem_cons_of_mem _ (List.mem_cons_of_mem _ List.mem_cons_self)))) 0 rfl, cell_of_here (E.out.get (b := b7) (T := 59) (c := #[.int .u64 ((n * 784931 : Nat) : Int)]) (by first | exact List.mem_cons_self | exact List.mem_cons_of_mem _ List.mem_cons_self | exact List.mem_cons_of_mem _ (List.mem_cons_of_mem _ List.mem_cons_self) | exact List.mem_cons_of_mem _ (List.mem_cons_of_mem _ (List.mem_cons_of_mem _ List.mem_cons_self)))) 0 rfl⟩, E.out.below⟩
      · refine hm_step 4 rfl (by kernel_rfl) fun K hK => ?_
        try simp only [Act.put, List.getElem_toArray, List.getElem_cons_succ, List.getElem_cons_zero, List.setIfInBounds_toArray, List.set_cons_zero, List.set_cons_succ]
        refine mo_alloc E 59 rfl (z := .int .u64 0) (n := 1) (by kernel_rfl) ?_
        clear E
        intro b5 w8 E
        have S4_4 := S1_3
        refine hK _ _ S4_4.out ?_
        clear hK K
        try simp only [Act.put, List.getElem_toArray, List.getElem_cons_succ, List.getElem_cons_zero, List.setIfInBounds_toArray, List.set_cons_zero, List.set_cons_succ]
        refine hm_one (i := 3) (by kernel_rfl) ?_
        refine hm_step 3 rfl (by kernel_rfl) fun K hK => ?_
        try simp only [Act.put, List.getElem_toArray, List.getElem_cons_succ, List.getElem_cons_zero, List.setIfInBounds_toArray, List.set_cons_zero, List.set_cons_succ]
        go_simp
        go_at_call 63
        refine (K1.out _ b2 23 (E.out.get (b := b2) (by first | exact List.mem_cons_self | exact List.mem_cons_of_mem _ List.mem_cons_self | exact List.mem_cons_of_mem _ (List.mem_cons_of_mem _ List.mem_cons_self) | exact List.mem_cons_of_mem _ (List.mem_cons_of_mem _ (List.mem_cons_of_mem _ List.mem_cons_self))))).mono ?_
        rintro e w7 ⟨rfl, rfl⟩
        have S3_5 := S4_4
        refine hK _ _ S3_5.out ?_
        clear hK K
        try simp only [Act.put, List.getElem_toArray, List.getElem_cons_succ, List.getElem_cons_zero, List.setIfInBounds_toArray, List.set_cons_zero, List.set_cons_succ]
        refine hm_one (i := 6) (by kernel_rfl) ?_
        refine hm_step 6 rfl (by kernel_rfl) fun K hK => ?_
        try simp only [Act.put, List.getElem_toArray, List.getElem_cons_succ, List.getElem_cons_zero, List.setIfInBounds_toArray, List.set_cons_zero, List.set_cons_succ]
        first | refine mo_store_cell 0 E 59 (.tmp 5) (.tmp 9) rfl rfl rfl rfl (by kernel_rfl) rfl rfl rfl rfl ?_ | refine mo_store_cell 1 E 59 (.tmp 5) (.tmp 9) rfl rfl rfl rfl (by kernel_rfl) rfl rfl rfl rfl ?_
        clear E
        intro w9 E
        simp only [List.set_cons_zero, List.set_cons_succ] at E
        have S6_6 := S3_5
        refine hK _ _ S6_6.out ?_
        clear hK K
        try simp only [Act.put, List.getElem_toArray, List.getElem_cons_succ, List.getElem_cons_zero, List.setIfInBounds_toArray, List.set_cons_zero, List.set_cons_succ]
        refine hm_one (i := 7) (by kernel_rfl) ?_
        refine hm_step 7 rfl (by kernel_rfl) fun K hK => ?_
        try simp only [Act.put, List.getElem_toArray, List.getElem_cons_succ, List.getElem_cons_zero, List.setIfInBounds_toArray, List.set_cons_zero, List.set_cons_succ]
        first | refine mo_store_cell 0 E 59 (.tmp 6) (.tmp 11) rfl rfl rfl rfl (by kernel_rfl) rfl rfl rfl rfl ?_ | refine mo_store_cell 1 E 59 (.tmp 6) (.tmp 11) rfl rfl rfl rfl (by kernel_rfl) rfl rfl rfl rfl ?_
        clear E
        intro w9 E
        simp only [List.set_cons_zero, List.set_cons_succ] at E
        have S7_7 := S6_6
        refine hK _ _ S7_7.out ?_
        clear hK K
        try simp only [Act.put, List.getElem_toArray, List.getElem_cons_succ, List.getElem_cons_zero, List.setIfInBounds_toArray, List.set_cons_zero, List.set_cons_succ]
        refine wpAnyH_done (by kernel_rfl) ?_ _
        go_wp2_with (first
          | ((with_reducible refine wpList_at 13 rfl ?_); refine wpList_kn rfl (.int .u64 (n : Int)) (by exact exec_cvu rfl rfl (by have := HN.out; omega)) ?_)
          | ((with_reducible refine wpList_at 14 rfl ?_); refine wpList_kn rfl (.int .u64 ((n * 784931 : Nat) : Int)) (by exact exec_mulE (b := 784931) rfl rfl rfl (by have := HN.out; omega)) ?_)
          | ((with_reducible refine wpList_at 7 rfl ?_); refine mem_alloc E 59 rfl rfl (z := .int .u64 0) (n := 1) (by kernel_rfl) ?_; clear E; intro b7 w11 E)
          | ((with_reducible refine wpList_atn rfl ?_); refine mem_store_cell 0 E 59 rfl (.tmp 7) (.tmp 14) rfl rfl rfl rfl (by kernel_rfl) rfl rfl rfl rfl ?_; clear E; intro w12 E; simp only [List.set_cons_zero, List.set_cons_succ] at E))
        go_ret
        exact ⟨⟨b5, b6, b7, rfl, cell_of_here (E.out.get (b := b5) (T := 59) (c := #[.int .u64 (k0 : Int)]) (by first | exact List.mem_cons_self | exact List.mem_cons_of_mem _ List.mem_cons_self | exact List.mem_cons_of_mem _ (List.mem_cons_of_mem _ List.mem_cons_self) | exact List.mem_cons_of_mem _ (List.mem_cons_of_mem _ (List.mem_cons_of_mem _ List.mem_cons_self)))) 0 rfl, cell_of_here (E.out.get (b := b6) (T := 59) (c := #[.int .u64 (k1 : Int)]) (by first | exact List.mem_cons_self | exact List.mem_cons_of_mem _ List.mem_cons_self | exact List.mem_cons_of_mem _ (List.mem_cons_of_mem _ List.mem_cons_self) | exact List.mem_cons_of_mem _ (List.mem_cons_of_mem _ (List.mem_cons_of_mem _ List.mem_cons_self)))) 0 rfl, cell_of_here (E.out.get (b := b7) (T := 59) (c := #[.int .u64 ((n * 784931 : Nat) : Int)]) (by first | exact List.mem_cons_self | exact List.mem_cons_of_mem _ List.mem_cons_self | exact List.mem_cons_of_mem _ (List.mem_cons_of_mem _ List.mem_cons_self) | exact List.mem_cons_of_mem _ (List.mem_cons_of_mem _ (List.mem_cons_of_mem _ List.mem_cons_self)))) 0 rfl⟩, E.out.below⟩
    · refine hm_step 4 rfl (by kernel_rfl) fun K hK => ?_
      try simp only [Act.put, List.getElem_toArray, List.getElem_cons_succ, List.getElem_cons_zero, List.setIfInBounds_toArray, List.set_cons_zero, List.set_cons_succ]
      refine mo_alloc E 59 rfl (z := .int .u64 0) (n := 1) (by kernel_rfl) ?_
      clear E
      intro b5 w8 E
      have S4_3 := S5_2
      refine hK _ _ S4_3.out ?_
      clear hK K
      try simp only [Act.put, List.getElem_toArray, List.getElem_cons_succ, List.getElem_cons_zero, List.setIfInBounds_toArray, List.set_cons_zero, List.set_cons_succ]
      refine hm_one (i := 1) (by kernel_rfl) ?_
      refine hm_step 1 rfl (by kernel_rfl) fun K hK => ?_
      try simp only [Act.put, List.getElem_toArray, List.getElem_cons_succ, List.getElem_cons_zero, List.setIfInBounds_toArray, List.set_cons_zero, List.set_cons_succ]
      go_simp
      go_at_call 63
      refine (K0.out _ b2 23 (E.out.get (b := b2) (by first | exact List.mem_cons_self | exact List.mem_cons_of_mem _ List.mem_cons_self | exact List.mem_cons_of_mem _ (List.mem_cons_of_mem _ List.mem_cons_self) | exact List.mem_cons_of_mem _ (List.mem_cons_of_mem _ (List.mem_cons_of_mem _ List.mem_cons_self))))).mono ?_
      rintro e w7 ⟨rfl, rfl⟩
      have S1_4 := S4_3
      refine hK _ _ S1_4.out ?_
      clear hK K
      try simp only [Act.put, List.getElem_toArray, List.getElem_cons_succ, List.getElem_cons_zero, List.setIfInBounds_toArray, List.set_cons_zero, List.set_cons_succ]
      refine hm_one (i := 3) (by kernel_rfl) ?_
      refine hm_step 3 rfl (by kernel_rfl) fun K hK => ?_
      try simp only [Act.put, List.getElem_toArray, List.getElem_cons_succ, List.getElem_cons_zero, List.setIfInBounds_toArray, List.set_cons_zero, List.set_cons_succ]
      go_simp
      go_at_call 63
      refine (K1.out _ b2 23 (E.out.get (b := b2) (by first | exact List.mem_cons_self | exact List.mem_cons_of_mem _ List.mem_cons_self | exact List.mem_cons_of_mem _ (List.mem_cons_of_mem _ List.mem_cons_self) | exact List.mem_cons_of_mem _ (List.mem_cons_of_mem _ (List.mem_cons_of_mem _ List.mem_cons_self))))).mono ?_
      rintro e w7 ⟨rfl, rfl⟩
      have S3_5 := S1_4
      refine hK _ _ S3_5.out ?_
      clear hK K
      try simp only [Act.put, List.getElem_toArray, List.getElem_cons_succ, List.getElem_cons_zero, List.setIfInBounds_toArray, List.set_cons_zero, List.set_cons_succ]
      refine hm_one (i := 6) (by kernel_rfl) ?_
      refine hm_step 6 rfl (by kernel_rfl) fun K hK => ?_
      try simp only [Act.put, List.getElem_toArray, List.getElem_cons_succ, List.getElem_cons_zero, List.setIfInBounds_toArray, List.set_cons_zero, List.set_cons_succ]
      first | refine mo_store_cell 0 E 59 (.tmp 5) (.tmp 9) rfl rfl rfl rfl (by kernel_rfl) rfl rfl rfl rfl ?_ | refine mo_store_cell 1 E 59 (.tmp 5) (.tmp 9) rfl rfl rfl rfl (by kernel_rfl) rfl rfl rfl rfl ?_
      clear E
      intro w9 E
      simp only [List.set_cons_zero, List.set_cons_succ] at E
      have S6_6 := S3_5
      refine hK _ _ S6_6.out ?_
      clear hK K
      try simp only [Act.put, List.getElem_toArray, List.getElem_cons_succ, List.getElem_cons_zero, List.setIfInBounds_toArray, List.set_cons_zero, List.set_cons_succ]
      refine hm_one (i := 7) (by kernel_rfl) ?_
      refine hm_step 7 rfl (by kernel_rfl) fun K hK => ?_
      try simp only [Act.put, List.getElem_toArray, List.getElem_cons_succ, List.getElem_cons_zero, List.setIfInBounds_toArray, List.set_cons_zero, List.set_cons_succ]
      first | refine mo_store_cell 0 E 59 (.tmp 6) (.tmp 11) rfl rfl rfl rfl (by kernel_rfl) rfl rfl rfl rfl ?_ | refine mo_store_cell 1 E 59 (.tmp 6) (.tmp 11) rfl rfl rfl rfl (by kernel_rfl) rfl rfl rfl rfl ?_
      clear E
      intro w9 E
      simp only [List.set_cons_zero, List.set_cons_succ] at E
      have S7_7 := S6_6
      refine hK _ _ S7_7.out ?_
      clear hK K
      try simp only [Act.put, List.getElem_toArray, List.getElem_cons_succ, List.getElem_cons_zero, List.setIfInBounds_toArray, List.set_cons_zero, List.set_cons_succ]
      refine wpAnyH_done (by kernel_rfl) ?_ _
      go_wp2_with (first
        | ((with_reducible refine wpList_at 13 rfl ?_); refine wpList_kn rfl (.int .u64 (n : Int)) (by exact exec_cvu rfl rfl (by have := HN.out; omega)) ?_)
        | ((with_reducible refine wpList_at 14 rfl ?_); refine wpList_kn rfl (.int .u64 ((n * 784931 : Nat) : Int)) (by exact exec_mulE (b := 784931) rfl rfl rfl (by have := HN.out; omega)) ?_)
        | ((with_reducible refine wpList_at 7 rfl ?_); refine mem_alloc E 59 rfl rfl (z := .int .u64 0) (n := 1) (by kernel_rfl) ?_; clear E; intro b7 w11 E)
        | ((with_reducible refine wpList_atn rfl ?_); refine mem_store_cell 0 E 59 rfl (.tmp 7) (.tmp 14) rfl rfl rfl rfl (by kernel_rfl) rfl rfl rfl rfl ?_; clear E; intro w12 E; simp only [List.set_cons_zero, List.set_cons_succ] at E))
      go_ret
      exact ⟨⟨b5, b6, b7, rfl, cell_of_here (E.out.get (b := b5) (T := 59) (c := #[.int .u64 (k0 : Int)]) (by first | exact List.mem_cons_self | exact List.mem_cons_of_mem _ List.mem_cons_self | exact List.mem_cons_of_mem _ (List.mem_cons_of_mem _ List.mem_cons_self) | exact List.mem_cons_of_mem _ (List.mem_cons_of_mem _ (List.mem_cons_of_mem _ List.mem_cons_self)))) 0 rfl, cell_of_here (E.out.get (b := b6) (T := 59) (c := #[.int .u64 (k1 : Int)]) (by first | exact List.mem_cons_self | exact List.mem_cons_of_mem _ List.mem_cons_self | exact List.mem_cons_of_mem _ (List.mem_cons_of_mem _ List.mem_cons_self) | exact List.mem_cons_of_mem _ (List.mem_cons_of_mem _ (List.mem_cons_of_mem _ List.mem_cons_self)))) 0 rfl, cell_of_here (E.out.get (b := b7) (T := 59) (c := #[.int .u64 ((n * 784931 : Nat) : Int)]) (by first | exact List.mem_cons_self | exact List.mem_cons_of_mem _ List.mem_cons_self | exact List.mem_cons_of_mem _ (List.mem_cons_of_mem _ List.mem_cons_self) | exact List.mem_cons_of_mem _ (List.mem_cons_of_mem _ (List.mem_cons_of_mem _ List.mem_cons_self)))) 0 rfl⟩, E.out.below⟩
set_option maxHeartbeats 8000000 in
theorem rvalue_any {w : World} {x : Nat → Nat} {n : Nat} {v : Value} {t : List Nat} (hx : ∀ i, x i < 256) (hn : n ≤ 20000) (T : Hid (TextAt w v t)) : Calls Tryd.prog 41 #[.agg (arr 32 (bv x)), v, .int .i64 (n : Int)] w fun e w' => e = .returned (.int .u64 ((inum (key0 x) (key1 x) (n * 784931) t : Nat) : Int)) ∧ Below w.heap.size w w' := by
  have E := Lib.hid (Mem.nil w)
  have HX := Lib.hid hx
  have HN := Lib.hid hn
  obtain ⟨k0, hk0⟩ : ∃ k, k = key0 x := ⟨_, rfl⟩
  obtain ⟨k1, hk1⟩ : ∃ k, k = key1 x := ⟨_, rfl⟩
  have K0 := Lib.hid (show ∀ (W : World) (b T : Nat), W.heap[b]? = some (.cells (arr 32 (bv x)) T (0, 0)) → Calls Tryd.prog 75 #[.slice (some ⟨b, 0, none⟩) 8 32] W fun e w' => e = .returned (.int .u64 (k0 : Int)) ∧ W = w' from fun W b T h => by rw [hk0]; exact ref_number_any (Lib.hid (row_g8 HX.out h)) (by omega))
  have K1 := Lib.hid (show ∀ (W : World) (b T : Nat), W.heap[b]? = some (.cells (arr 32 (bv x)) T (0, 0)) → Calls Tryd.prog 75 #[.slice (some ⟨b, 8, none⟩) 8 24] W fun e w' => e = .returned (.int .u64 (k1 : Int)) ∧ W = w' from fun W b T h => by rw [hk1]; exact ref_number_any (Lib.hid (row_g16 HX.out h)) (by omega))
  obtain ⟨M, hM⟩ : ∃ M, M = n * 784931 := ⟨_, rfl⟩
  have HM := Lib.hid hM
  rw [← hk0, ← hk1, ← hM]
  clear hk0 hk1 hx hn hM
  go_enter Tryd.func41, Tryd.ntmps41
  go_upto_region 1 with (first
    | ((with_reducible refine wpList_at 3 rfl ?_); refine mem_box E 23 rfl _ rfl rfl (arr_cells' 32 (bv x)) ?_; clear E; intro b3 w2 E))
  refine wp_region_T (Φ := fun X => Below w2.heap.size w2 X) (S := fun _ => True) (Lib.hid (Below.refl _ _)) (fun _ h => h.drew) (fun _ _ => trivial) (by kernel_rfl) ?_
  intro wx TT S0
  replace E := Lib.hid (E.out.call TT.out)
  refine hm_run 0 9 (.slice (some ⟨b3, 0, none⟩) 8 32) rfl rfl (by kernel_rfl) (by kernel_rfl) (by kernel_rfl) (fun _ _ _ h => h) rfl (fun W _ => exec_sl rfl (run_h8 b3 W)) S0.out ?_
  try simp only [Act.put, List.getElem_toArray, List.getElem_cons_succ, List.getElem_cons_zero, List.setIfInBounds_toArray, List.set_cons_zero, List.set_cons_succ]
  refine hm_run 2 11 (.slice (some ⟨b3, 8, none⟩) 8 24) rfl rfl (by kernel_rfl) (by kernel_rfl) (by kernel_rfl) (fun _ _ _ h => h) rfl (fun W _ => exec_sl rfl (run_h16 b3 W)) S0.out ?_
  try simp only [Act.put, List.getElem_toArray, List.getElem_cons_succ, List.getElem_cons_zero, List.setIfInBounds_toArray, List.set_cons_zero, List.set_cons_succ]
  refine hm_one (i := 1) (by kernel_rfl) ?_
  refine hm_step 1 rfl (by kernel_rfl) fun K hK => ?_
  try simp only [Act.put, List.getElem_toArray, List.getElem_cons_succ, List.getElem_cons_zero, List.setIfInBounds_toArray, List.set_cons_zero, List.set_cons_succ]
  go_simp
  go_at_call 75
  refine (K0.out _ b3 23 (E.out.get (b := b3) (by first | exact List.mem_cons_self | exact List.mem_cons_of_mem _ List.mem_cons_self | exact List.mem_cons_of_mem _ (List.mem_cons_of_mem _ List.mem_cons_self) | exact List.mem_cons_of_mem _ (List.mem_cons_of_mem _ (List.mem_cons_of_mem _ List.mem_cons_self))))).mono ?_
  rintro e w7 ⟨rfl, rfl⟩
  have S1_2 := S0
  refine hK _ _ S1_2.out ?_
  clear hK K
  try simp only [Act.put, List.getElem_toArray, List.getElem_cons_succ, List.getElem_cons_zero, List.setIfInBounds_toArray, List.set_cons_zero, List.set_cons_succ]
  refine hm_one (i := 3) (by kernel_rfl) ?_
  refine hm_step 3 rfl (by kernel_rfl) fun K hK => ?_
  try simp only [Act.put, List.getElem_toArray, List.getElem_cons_succ, List.getElem_cons_zero, List.setIfInBounds_toArray, List.set_cons_zero, List.set_cons_succ]
  go_simp
  go_at_call 75
  refine (K1.out _ b3 23 (E.out.get (b := b3) (by first | exact List.mem_cons_self | exact List.mem_cons_of_mem _ List.mem_cons_self | exact List.mem_cons_of_mem _ (List.mem_cons_of_mem _ List.mem_cons_self) | exact List.mem_cons_of_mem _ (List.mem_cons_of_mem _ (List.mem_cons_of_mem _ List.mem_cons_self))))).mono ?_
  rintro e w7 ⟨rfl, rfl⟩
  have S3_3 := S1_2
  refine hK _ _ S3_3.out ?_
  clear hK K
  try simp only [Act.put, List.getElem_toArray, List.getElem_cons_succ, List.getElem_cons_zero, List.setIfInBounds_toArray, List.set_cons_zero, List.set_cons_succ]
  refine hm_run 4 7 (.int .u64 (k0 : Int)) rfl rfl (by kernel_rfl) (by kernel_rfl) (by kernel_rfl) (fun _ _ _ h => h) rfl (fun _ _ => rfl) S3_3.out ?_
  try simp only [Act.put, List.getElem_toArray, List.getElem_cons_succ, List.getElem_cons_zero, List.setIfInBounds_toArray, List.set_cons_zero, List.set_cons_succ]
  refine hm_run 5 8 (.int .u64 (k1 : Int)) rfl rfl (by kernel_rfl) (by kernel_rfl) (by kernel_rfl) (fun _ _ _ h => h) rfl (fun _ _ => rfl) S3_3.out ?_
  try simp only [Act.put, List.getElem_toArray, List.getElem_cons_succ, List.getElem_cons_zero, List.setIfInBounds_toArray, List.set_cons_zero, List.set_cons_succ]
  refine wpAnyH_done (by kernel_rfl) ?_ _
  go_wp2_with (first
    | (go_at_call 77; refine (rsip_text (T.out.below E.out.below) _ _).mono ?_; rintro e w8 ⟨rfl, hb8⟩; replace E := Lib.hid (E.out.call hb8); clear hb8)
    | ((with_reducible refine wpList_at 18 rfl ?_); refine wpList_kn rfl (.int .u64 (n : Int)) (by exact exec_cvu rfl rfl (by have := HN.out; omega)) ?_)
    | ((with_reducible refine wpList_at 19 rfl ?_); refine wpList_kn rfl (.int .u64 (M : Int)) (by rw [HM.out]; exact exec_mulE (b := 784931) rfl rfl rfl (by have := HN.out; omega)) ?_)
    | (go_at_call 76; refine (rscale_num (by have := HN.out; have := HM.out; omega)).mono ?_; rintro e w9 ⟨rfl, rfl⟩))
  go_ret
  exact ⟨rfl, E.out.below⟩
end Go.Proofs.YtoopcmcmjaikhaaDoor

