/- For every slice of bytes: of a copy of it, the kind and the bytes in it are the document's, and lie in memory of their own; a script of data is known; the call returns true. The table of patterns is laid as the program's text lays it; the card ties it to that text. No other condition. -/
import Derived.Test.YtofmleiblcafiaaDoorPs
import Derived.Test.YtofmleiblcafiaaDoorTie
import Derived.Test.YtofmleiblcafiaaDoorCards
import Derived.ShutString
import Derived.ChangeOld
import Derived.Below
import Derived.SevenTiedAt
set_option linter.unusedVariables false
set_option linter.unusedSimpArgs false
namespace Go.Proofs.YtofmleiblcafiaaDoor.scriptClasses
open Go.ChangeShapes Go.WideShapes Go.ChangeAt Go.RowKit Go.Lib Go.Sort Go.Proofs.YtofmleiblcafiaaDoor

set_option maxRecDepth 100000
theorem cls_len {xs b : List Nat} {k : Nat} (h : Cls xs k b) : b.length ≤ xs.length := by
  rcases h with ⟨j, hj, rfl, h1, h2⟩ | ⟨rfl, rfl, _⟩
  · rw [h1]; simp only [List.length_append]; omega
  · simp
theorem own_put {w : World} {p : Option Addr} {B g n c i v : Nat} {x : Nat → Nat} (N : Own B w p g n c x) (hi : i < n) (hv : v < 256) : Own B (w.setCell ⟨g, i, none⟩ (.int .u8 (v : Int))) p g n c (fun k => if k = i then v else x k) ∧ Below B w (w.setCell ⟨g, i, none⟩ (.int .u8 (v : Int))) ∧ w.frozen? ⟨g, i, none⟩ = false := by
  obtain rfl := N.row.head (by omega)
  obtain ⟨hl, h | ⟨g', cap, cur, hv', hb, hg, hn, hc, hs, ht⟩⟩ := N.own
  · cases h.1
  · cases hv'
    rw [Nat.mul_one] at hs ht
    have H := (Holds.start hg).set (i := i) (v := .int .u8 (v : Int)) rfl
    have hb2 : Below B w (w.setCell ⟨g, i, none⟩ (.int .u8 (v : Int))) := ⟨H.only.os, H.only.tape, H.only.output, H.only.size, fun k hk => H.only.block k (by have := N.low; omega) (by omega)⟩
    refine ⟨⟨⟨by rw [fbs_length, Nat.mul_one], .inr ⟨g, c, _, rfl, hb, H.here, hn, hc, by rw [Array.size_setIfInBounds, hs, Nat.mul_one], ?_⟩⟩, .inr rfl, fun k => ?_, Nat.le_trans N.low hb2.size⟩, hb2, free_of_here hg i⟩
    · rw [Nat.mul_one]
      apply List.ext_getElem?
      intro k
      have h1 : (cur.toList.take n)[k]? = (fbs x n)[k]? := by rw [ht]
      rcases Nat.lt_or_ge k n with q | q
      · rw [List.getElem?_take_of_lt q] at h1 ⊢
        rw [fbs_at _ _ _ q] at h1 ⊢
        rw [Array.toList_setIfInBounds, List.getElem?_set]
        by_cases e : i = k
        · subst e
          rw [if_pos rfl, if_pos (by rw [Array.length_toList]; omega), if_pos rfl]
        · rw [if_neg e, if_neg (fun h => e h.symm), h1]
      · rw [List.getElem?_eq_none (by rw [List.length_take]; omega), List.getElem?_eq_none (by rw [fbs_length]; exact q)]
    · split
      · exact hv
      · exact N.byte k
section
variable {ops : Array Oper} {rest : List Oper} {Q : Exit → Act → World → Prop} {op : Oper} {a : Act} {w : World}
theorem wpList_atn {P : Program} (hd : op.dst = none) (h : wpList P ops Q (op :: rest) a w) : wpList P ops Q (op :: rest) a w := h
/-- A byte, stored into a row of the call's own. -/
theorem wpList_bput (hg : op.guard = none) (x y : Operand) (ho : op.op = .store 5 x y) {B g n c i v : Nat} {p : Option Addr} {f : Nat → Nat} (N : Hid (Own B w p g n c f)) (hx : a.eval x = .pointer (some ⟨g, 0 + i * 1, none⟩)) (hy : a.eval y = .int .u8 (v : Int)) (hi : i < n) (hv : v < 256)
    (k : ∀ w', Hid (Own B w' p g n c fun k => if k = i then v else f k) → Hid (Below B w w') → wpList Tryd.prog ops Q rest (a.put op.dst undef) w') : wpList Tryd.prog ops Q (op :: rest) a w := by
  obtain ⟨O, hb, hf⟩ := own_put N.out hi hv
  rw [Nat.zero_add, Nat.mul_one] at hx
  have hc := N.out.row.cell i hi
  rw [Nat.zero_add] at hc
  refine wpList_plain hg fun K hK => ?_
  unfold Oper.wp execOp
  simp only [ho, hx, hy, Sem.run_bind, Sem.run_pure, run_store_one (P := Tryd.prog) (ty := 5) (v := .int .u8 (v : Int)) (by kernel_rfl) rfl rfl hc hf, Result.andThen_ok]
  exact hK _ _ (k _ (Lib.hid O) (Lib.hid hb))
theorem exec_xor {o : Oper} {ev : Operand → Value} {W : World} {x y : Operand} {m n : Int} (ho : o.op = .binOp .xor 5 x y 5) (hx : ev x = .int .u8 m) (hy : ev y = .int .u8 n) : ∃ v : Nat, v < 256 ∧ (execOp ev o).run Tryd.prog W = .ok (.value (.int .u8 (v : Int))) W := by
  have h := wf_bits .xor .u8 m n
  simp [Lit.wf, IntKind.min, IntKind.max, IntKind.bits, IntKind.signed] at h
  refine ⟨(bits .xor .u8 m n).toNat, by omega, ?_⟩
  rw [Int.toNat_of_nonneg (by omega)]
  unfold execOp
  simp [ho, hx, hy, go_sem]
end
section
variable {ops : Array Oper} {rest : List Oper} {Q : Exit → Act → World → Prop} {op : Oper} {a : Act} {w : World}
theorem wpList_xor (hw : Region.wanted op (yielded ops a.tmps) = true) (x y : Operand) (ho : op.op = .binOp .xor 5 x y 5) {m n : Int} (hx : a.eval x = .int .u8 m) (hy : a.eval y = .int .u8 n) (k : ∀ v : Nat, Hid (v < 256) → wpList Tryd.prog ops Q rest (a.put op.dst (.int .u8 (v : Int))) w) : wpList Tryd.prog ops Q (op :: rest) a w := by
  obtain ⟨v, hv, hr⟩ := exec_xor (W := w) ho hx hy
  exact wpList_known4 hw _ _ hr (k v (Lib.hid hv))
end
set_option maxHeartbeats 8000000 in
theorem walk (W : World) (hL : laidMetH Tryd.prog patLaid W) (a0 : Option Addr) (g0 o0 n0 c0 : Nat) (x0 : Nat → Nat) (w0 : Row W a0 g0 o0 n0 c0 x0) (m0 : c0 ≤ 140737488351232) :
    Calls Tryd.prog 3 #[.slice a0 n0 c0] W fun e w' => e = .returned (.bool true) ∧ Below W.heap.size W w' := by
  have PL := Lib.hid (of_pat hL)
  have hn : n0 ≤ 140737488355328 := by have := w0.le; omega
  have R := Lib.hid w0
  clear hL w0 m0
  go_enter Tryd.func3, Tryd.ntmps3
  go_upto_region 5 with (first
    | (go_at_call 12; refine (clone_any R hn).mono ?_; rintro e w1 ⟨p1, g1, c1, rfl, N, hb⟩; have BB := Lib.hid hb; have RG := Lib.hid N.row; replace PL := Lib.hid (PL.out.below hb); replace R := Lib.hid (R.out.below hb); clear hb N)
    | (go_at_call 13; refine (class_any PL.out RG hn).mono ?_; rintro e w2 ⟨k, b, p2, g2, c2, rfl, hc, N, hb⟩; have HC := Lib.hid hc; have N2 := Lib.hid N; have B2 := Lib.hid hb; clear hc N hb)
    | (go_at_call 14; refine (rclass_any (Lib.hid (R.out.below B2.out)) hn).mono ?_; rintro e w3 ⟨k3, b3, p3, g3, c3, rfl, hc, N, hb⟩; obtain ⟨e1, e2⟩ := hc.same HC.out; subst e1 e2; have N3 := Lib.hid N.row; replace N2 := Lib.hid (N2.out.below hb); replace B2 := Lib.hid (B2.out.trans (hb.mono B2.out.size)); clear hc N hb)
    | (go_at_call 15; refine (equal_any (Lib.hid N2.out.row) N3 rfl (Lib.hid fun i _ => rfl)).mono ?_; rintro e w4 ⟨rfl, rfl⟩))
  clear N3
  obtain ⟨m, hm⟩ : ∃ m, m = b3.length := ⟨_, rfl⟩
  obtain ⟨f, hf⟩ : ∃ f, f = lf b3 := ⟨_, rfl⟩
  rw [← hm]
  rw [← hm, ← hf] at N2
  have hml : m ≤ 140737488355328 := by rw [hm]; have := cls_len HC.out; rw [tl_length] at this; omega
  clear hm hf HC
  go_wp2
  go_loopg [32] m (fun k i wr => ∃ (q : Nat) (f : Nat → Nat), q + k = m ∧ i = .int .i64 (q : Int) ∧ Hid (Own w1.heap.size wr p2 g2 m c2 f) ∧ Hid (Below w1.heap.size w1 wr))
  case atStart => exact ⟨0, f, by omega, rfl, N2, B2⟩
  case round =>
    clear N2 B2
    obtain ⟨q, f, hq, rfl, N2, B2⟩ := hrel
    obtain ⟨kk, rfl⟩ : ∃ kk : Nat, kk = gk := ⟨_, rfl⟩
    by_cases hlt : q < m
    · have HLT := Lib.hid hlt
      obtain rfl := N2.out.row.head (by omega)
      have CL := Lib.hid (show wr.cell? ⟨g2, 0 + q * 1, none⟩ = some (.int .u8 (f q : Int)) by rw [Nat.mul_one]; exact N2.out.row.cell q hlt)
      go_wp2_with (first
        | ((with_reducible refine wpList_at 37 rfl ?_); refine wpList_ix (k := 1) (j := q) Tryd.underlying22 (by kernel_rfl) (.tmp 35) (.tmp 36) rfl rfl rfl rfl HLT.out rfl ?_; try simp only [Act.put, List.setIfInBounds_toArray, List.set_cons_zero, List.set_cons_succ])
        | ((with_reducible refine wpList_at 38 rfl ?_); refine wpList_ld1 5 (.tmp 37) rfl rfl rfl Tryd.underlying5 rfl CL.out ?_; try simp only [Act.put, List.setIfInBounds_toArray, List.set_cons_zero, List.set_cons_succ])
        | ((with_reducible refine wpList_at 39 rfl ?_); refine wpList_xor rfl (.tmp 38) (.const (.int .u8 1)) rfl rfl rfl ?_; intro v hv; try simp only [Act.put, List.setIfInBounds_toArray, List.set_cons_zero, List.set_cons_succ])
        | ((with_reducible refine wpList_at 40 rfl ?_); refine wpList_ix (k := 1) (j := q) Tryd.underlying22 (by kernel_rfl) (.tmp 35) (.tmp 36) rfl rfl rfl rfl HLT.out rfl ?_; try simp only [Act.put, List.setIfInBounds_toArray, List.set_cons_zero, List.set_cons_succ])
        | ((refine wpList_atn rfl ?_); refine wpList_bput rfl (.tmp 40) (.tmp 39) rfl N2 rfl rfl HLT.out hv.out ?_; clear N2; intro w8 N2 hb8; replace B2 := Lib.hid (B2.out.trans hb8.out)))
      go_roundg (m - (q + 1))
      case measure => omega
      case rel => exact ⟨q + 1, _, by omega, by go_num, N2, B2⟩
    · obtain rfl : q = m := by omega
      have RG2 := Lib.hid (RG.out.below B2.out)
      have R2 := Lib.hid (R.out.below B2.out)
      have PL2 := Lib.hid (PL.out.below B2.out)
      replace BB := Lib.hid (BB.out.trans (B2.out.mono BB.out.size))
      clear N2 B2 RG R PL
      go_wp2_with (first
        | (go_at_call 15; refine (equal_any RG2 R2 rfl (Lib.hid fun i _ => rfl)).mono ?_; rintro e w4 ⟨rfl, rfl⟩)
        | (go_at_call 16; refine (awake13_any PL2).mono ?_; rintro e w5 ⟨rfl, hb⟩; replace BB := Lib.hid (BB.out.trans (hb.mono BB.out.size)); clear hb))
      go_ret
      exact ⟨rfl, BB.out⟩

set_option maxRecDepth 100000 in
theorem lifted (os : Os) (started : os.Started) (H : Type) (enc : TypeId × Value → H) :
    ReturnsInHanded {} Tryd.checked os 3 .any (fun w args => (Rows.scriptClassesSpec.pre enc Tryd.prog Tryd.f3 [] false w args ∧ laidMetH Tryd.prog patLaid w) ∧ sizedMet enc Tryd.prog Tryd.f3 (OpenSpec.ofChange Rows.scriptClassesSpec) false w args)
      (Rows.scriptClassesSpec.post enc Tryd.prog Tryd.f3 false true false false) := by
  refine returnsInHanded_of_change_and (C := Tryd.checked) (X := fun w _ => laidMetH Tryd.prog patLaid w) (fun _ _ _ hh h => h.of_heap hh) own started (by kernel_rfl) Tryd.func3
    (ChangeSpec.witness_shaped (enc := enc) (C := Tryd.checked) (os := os) (X := fun w _ => laidMetH Tryd.prog patLaid w) false (World.doorLaid Tryd.prog 400 os) #[.slice none 0 0] 8 rfl (World.shaped_of_RefB (by kernel_rfl) (by kernel_rfl)) (by kernel_rfl) (by kernel_rfl) (by kernel_rfl) (pat_door_met os _)) ?_
  intro W base args ds gs before hval0 hW _ hsz0 hL _
  have hval : ∀ (j : Nat) t v, Tryd.f3.params[j]? = some t → args[j]? = some v → Value.okWide Tryd.prog W .any base t v := hval0
  have hsz : (DataW.weightsEach Tryd.prog (Tryd.f3.params.toList ++ Rows.scriptClassesSpec.plain.varTypes Tryd.prog) (ds ++ gs)).all (· ≤ reachBytes) = true := hsz0
  have hW' := hW
  obtain ⟨p, q, hA0, hV, rfl, hfz, hnd⟩ := hW
  have hA : DataW.TrodAll enc Tryd.prog W 0 (fun _ => true) true Tryd.f3.params.toList args.toList ds p := hA0
  rw [Tryd.params3] at hA hval hsz
  obtain ⟨v0, vs0, d0, ds0, p0, q0, hargs, rfl, rfl, h0, r0⟩ := trodAll_cons hA
  obtain ⟨rfl, rfl, rfl⟩ := trodAll_nil r0
  obtain rfl : args = #[v0] := by cases args; simp_all
  obtain ⟨rfl, rfl⟩ := trodVars_none hV
  have k0 := h0
  have lt0 : ∀ x ∈ p0, x.block < W.heap.size := by obtain ⟨m, hm⟩ := k0; exact DataW.trod_lt m _ _ _ hm
  obtain ⟨a0, g0, o0, n0, c0, x0, rfl, w0, m0⟩ := open_row (j := 0) (hval 0 22 v0 rfl rfl) h0 hsz rfl rfl
  clear hA0 hval0 hsz0
  simp only [List.append_nil] at hW'
  refine (walk W hL a0 g0 o0 n0 c0 x0 w0 m0).mono fun e W' ⟨he, bel⟩ => ?_
  subst he
  exact ⟨_, rfl, _, _, _, [], _, [], hW', trodAll_mk1 (shut_bool Tryd.underlying4 _), (trodAll_cons_mk (Below.trod laidOut (by kernel_rfl) (of_decide_eq_true (by kernel_rfl)) k0 bel lt0) trodAll_mk0), rfl, bel.frame _, fun h => by cases h⟩

theorem over : Rows.ScriptClassesSaid :=
  OpenClaim.holds_of_wide 3 Tryd.f3 rfl rfl rfl rfl rfl rfl rfl ⟨rfl, rfl, rfl, rfl, rfl⟩ rfl rfl rfl rfl rfl (by kernel_rfl) Tryd.func3 (by kernel_rfl)
    (of_decide_eq_true (by kernel_rfl)) (by unfold Func.isWrapper; first | (rw [if_pos (by decide +kernel)]; kernel_rfl) | (rw [if_neg (by decide +kernel)]; exact ⟨rfl, rfl⟩))
    (fun os started H enc _ => lifted os started H enc)

/-- The tied card. -/
theorem card_holds : Rows.ScriptClassesCardSaid :=
  Claim7.holds_tied_plain_at .later [] [.data] true (true, "b32e7a9d5d5d1f98a55fc2d6bc5609c027a3105d4a9a0737bc6d65fbf460a3fe") false
    over (fun _ h => by cases h) (by kernel_rfl) (fun _ h => by cases h) scriptClasses_row_tie rfl ⟨rfl, rfl⟩ (by kernel_rfl) rfl
    (fun f fn hf hfn => by
      obtain rfl : f = 3 := Option.some.inj ((show Tryd.prog.funcNamed "sporran/sporranlaw13.ScriptClasses" = some 3 by kernel_rfl).symm.trans hf) |>.symm
      obtain rfl : fn = Tryd.f3 := (Option.some.inj (Tryd.func3.symm.trans hfn)).symm
      exact ⟨by kernel_rfl, fun j t ht => by
        rw [Tryd.params3] at ht
        have hm : t ∈ [22] := by simpa using Array.mem_of_getElem? ht
        have hall : ([22].all fun u => !Tryd.prog.wantsStandIn u) = true := by kernel_rfl
        exact (show Tryd.prog.wantsStandIn t = false by simpa using List.all_eq_true.1 hall t hm)⟩)
    (by kernel_rfl)
#print axioms card_holds
end Go.Proofs.YtofmleiblcafiaaDoor.scriptClasses
