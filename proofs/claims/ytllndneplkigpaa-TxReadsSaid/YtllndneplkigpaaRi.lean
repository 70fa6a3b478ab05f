/- tx.readIn, tx.readOut. -/
import Derived.Test.YtllndneplkigpaaZE
import Derived.Test.YtllndneplkigpaaZA
set_option linter.unusedSimpArgs false
set_option linter.unusedVariables false
set_option maxRecDepth 100000
namespace Go.Proofs.Ytllndneplkigpaa
open Go.RowKit Go.Lib Go.Sort

/-- V with some values from place o on. -/
def upl (V : Nat → Value) : Nat → List Value → Nat → Value
  | _, [] => V
  | o, v :: vs => upl (ups V o v) (o + 1) vs
theorem upl_out (vs : List Value) : ∀ (V : Nat → Value) (o j : Nat), (j < o ∨ o + vs.length ≤ j) → upl V o vs j = V j := by
  induction vs with
  | nil => intro V o j _; rfl
  | cons v vs ih =>
    intro V o j h
    rw [List.length_cons] at h
    show upl (ups V o v) (o + 1) vs j = V j
    rw [ih _ _ _ (by omega), ups_ne _ _ (by omega)]
theorem upl_in (vs : List Value) : ∀ (V : Nat → Value) (o j : Nat) (h : j < vs.length), upl V o vs (o + j) = vs[j] := by
  induction vs with
  | nil => intro V o j h; simp at h
  | cons v vs ih =>
    intro V o j h
    show upl (ups V o v) (o + 1) vs (o + j) = _
    cases j with
    | zero => rw [upl_out _ _ _ _ (by omega), Nat.add_zero, ups_at]; rfl
    | succ j =>
      rw [List.length_cons] at h
      rw [show o + (j + 1) = o + 1 + j by omega, ih _ _ _ (by omega)]
      rfl
theorem holds_setCells {b T n : Nat} {w0 : World} (vs : List Value) : ∀ (V : Nat → Value) (o : Nat) (w : World), Holds b T (arr n V) w0 w → Holds b T (arr n (upl V o vs)) w0 (w.setCells b o vs) := by
  induction vs with
  | nil => intro V o w h; exact h
  | cons v vs ih =>
    intro V o w h
    exact ih _ _ _ (h.set (arr_ups n V o v))
section
variable {ops : Array Oper} {rest : List Oper} {Q : Exit → Act → World → Prop} {op : Oper} {a : Act} {w w0 : World} {l : List (Nat × TypeId × Array Value)}
/-- A row stored into a part of a block of the call's own. -/
theorem mem_store_part (i : Nat) (E : Hid (Mem w0 l w)) (ty : TypeId) (hg : op.guard = none) (x y : Operand) (ho : op.op = .store ty x y) {b T o n : Nat} {V : Nat → Value} {cs : Array Value} (hx : a.eval x = .pointer (some ⟨b, o, none⟩)) (hy : a.eval y = .agg cs) (hi : l[i]? = some (b, T, arr n V))
    (hs : (Try.prog.info? ty).map (·.size) = some cs.size) (hn : o + cs.size ≤ n) (h1 : cs.all (·.oneCell') = true)
    (h : ∀ w', Hid (Mem w0 (l.set i (b, T, arr n (upl V o cs.toList))) w') → Hid (KeepT T w w') → wpList Try.prog ops Q rest (a.put op.dst undef) w') : wpList Try.prog ops Q (op :: rest) a w := by
  have hg' := E.out.get (List.mem_of_getElem? hi)
  have hH := holds_setCells cs.toList V o w (Holds.start hg')
  refine wpList_store_mid hg ty x y ho b o cs hx hy (fun j hj => ⟨?_, free_of_here hg' _⟩) hs h1 (h _ (Lib.hid (E.out.turn hi hH.here hH.only)) (Lib.hid (KeepT.of_only hg' hH.only)))
  rw [cell_of_here hg' (o + j) (arr_get n V (o + j) (by omega))]
  rfl
end
theorem textOwn_one {B : Nat} {w : World} {v : Value} {t : List Nat} (h : TextOwn B w v t) : v.cells = #[v] ∧ v.oneCell' = true := by
  obtain ⟨p, g, c, rfl, _⟩ := h
  exact ⟨rfl, rfl⟩
theorem texts_none (B : Nat) (w : World) (hB : B ≤ w.heap.size) : TextsOwn B w (.slice none 0 0) [] := ⟨none, 0, 0, fun _ => undef, rfl, by simp, vown_nothing _ _ _ _ _ hB, fun i h => by simp at h⟩
theorem pNum_lt {m : Nat} {xs r : List Nat} {a : Nat} (h : pNum m xs = .good a r) (hx : IsB xs) : a < 2 ^ (8 * m) := by
  obtain ⟨t, s, h1, h2⟩ := Res.bind_good h
  injection h2 with h2 _
  have := pTake_good h1
  subst h2
  exact ofBytes_lt fun i hi => lf_lt (fun y hy => by rw [this.2.1] at hy; exact hx y (List.mem_of_mem_take hy)) i
section
variable {D W : World} {b : Nat} {u : Value} {xs : List Nat}
theorem num4_ok {xs r : List Nat} {v : Value} {D : World} {a : Nat} (h : pNum 4 xs = .good a r) (A : TextAt D v xs) : a < 4294967296 := by
  have := pNum_lt h A.isB
  omega
set_option maxHeartbeats 4000000 in
theorem pin_any (R : Hid (Rd D W b u xs)) : Calls Try.prog 63 #[.pointer (some ⟨b, 0, none⟩)] W (RdPost D W b (fun w' v a => ∃ V, v = .agg (arr 36 V) ∧ InOwn W.heap.size w' V a) (pIn xs)) := by
  have E := Lib.hid R.out.start
  go_enter Try.func63, Try.ntmps63
  go_upto_region 1 with (refine mem_alloc E 67 rfl rfl infoIn ?_; clear E; intro b0 w0 E; simp only [arr_cells'] at E)
  go_upto_region 2 with (refine mem_alloc E 67 rfl rfl infoIn ?_; clear E; intro b2 w2 E; simp only [arr_cells'] at E)
  go_upto_region 6 with (first
    | (go_at_call 93; refine (phash_any (Lib.hid (E.out.rnext R.out R.out.dat))).mono ?_; intro e1 w1 h1; rcases h1.cases with ⟨er, hr, rfl, ho⟩ | ⟨a1, r1, v1, u1, hr, rfl, ha, hb, rfl, hl1, hB1⟩; case inl => exact ⟨rfl, RdPost.bad (Res.bb hr) (E.out.ronly.trans ho)⟩
       (have HR1 := Lib.hid hr; have HA := Lib.hid ha; have HL1 := Lib.hid hl1; have HB1 := Lib.hid hB1; replace E := Lib.hid (E.out.rcall R.out.box hb); clear hr ha hb h1 hl1 hB1))
    | (refine mem_store_part 0 E 37 rfl (.tmp 7) (.tmp 5) rfl rfl rfl rfl (by rw [arr_size]; kernel_rfl) (by rw [arr_size]; omega) (bv_one _ _) ?_; clear E; intro w3 E KT3; clear KT3; simp only [List.set_cons_zero, List.set_cons_succ] at E)
    | (go_at_call 60; have := HR3; refine (pnum4 (Lib.hid (E.out.rnext R.out HA.out))).mono ?_; intro e1 w4 h1; rcases h1.cases with ⟨er, hr, rfl, ho⟩ | ⟨a4, r4, v4, u4, hr, rfl, ha, hb, rfl⟩; case inl => exact ⟨rfl, RdPost.bad ((Res.bg HR1.out).trans ((Res.bg HR2.out).trans ((Res.bg HR3.out).trans (Res.bb hr)))) (E.out.ronly.trans ho)⟩
       (clear this; have HR4 := Lib.hid hr; have HN4 := num4_ok hr HA.out; have cw4 : IntKind.u32.wrap (a4 : Int) = (a4 : Int) := by rw [IntKind.wrap_u32]; omega
        replace HA := Lib.hid ha; replace TS := Lib.hid (TS.out.keep (rkeep (E.out.rbox R.out.box) hb) (by decide)); replace E := Lib.hid (E.out.rcall R.out.box hb); clear hr ha hb h1))
    | (go_at_call 60; refine (pnum4 (Lib.hid (E.out.rnext R.out HA.out))).mono ?_; intro e1 w4 h1; rcases h1.cases with ⟨er, hr, rfl, ho⟩ | ⟨a2, r2, v2, u2, hr, rfl, ha, hb, rfl⟩; case inl => exact ⟨rfl, RdPost.bad ((Res.bg HR1.out).trans (Res.bb hr)) (E.out.ronly.trans ho)⟩
       (have HR2 := Lib.hid hr; have HN2 := num4_ok hr HA.out; have cw2 : IntKind.u32.wrap (a2 : Int) = (a2 : Int) := by rw [IntKind.wrap_u32]; omega
        replace HA := Lib.hid ha; replace E := Lib.hid (E.out.rcall R.out.box hb); clear hr ha hb h1))
    | (refine mem_store_cellk (v := .int .u32 (a2 : Int)) 0 E 24 rfl (.tmp 12) (.tmp 10) rfl rfl rfl rfl (by kernel_rfl) rfl rfl (by rw [arr_size]; omega) ?_; clear E; intro w5 E KT; clear KT; simp only [List.set_cons_zero, List.set_cons_succ, arr_ups] at E)
    | (go_at_call 68; refine (preadtext_any (Lib.hid (E.out.rnext R.out HA.out))).mono ?_; intro e1 w6 h1; rcases h1.cases with ⟨er, hr, rfl, ho⟩ | ⟨a3, r3, v3, u3, hr, rfl, ha, hb, hv⟩; case inl => exact ⟨rfl, RdPost.bad ((Res.bg HR1.out).trans ((Res.bg HR2.out).trans (Res.bb hr))) (E.out.ronly.trans ho)⟩
       (have HR3 := Lib.hid hr; have TS := Lib.hid (hv.mono E.out.rsize); have T1 := Lib.hid (textOwn_one hv); replace HA := Lib.hid ha; replace E := Lib.hid (E.out.rcall R.out.box hb); clear hr ha hb h1 hv))
    | (refine mem_store_cellk (v := v3) 0 E 22 rfl (.tmp 15) (.tmp 14) rfl rfl rfl rfl (by kernel_rfl) T1.out.1 T1.out.2 (by rw [arr_size]; omega) ?_; clear E; intro w7 E KT; simp only [List.set_cons_zero, List.set_cons_succ, arr_ups] at E; replace TS := Lib.hid (TS.out.keep KT.out (by decide)); clear KT)
    | (refine mem_store_cellk (v := .int .u32 (a4 : Int)) 0 E 24 rfl (.tmp 19) (.tmp 18) rfl rfl rfl rfl (by kernel_rfl) rfl rfl (by rw [arr_size]; omega) ?_; clear E; intro w8 E KT; simp only [List.set_cons_zero, List.set_cons_succ, arr_ups] at E; replace TS := Lib.hid (TS.out.keep KT.out (by decide)); clear KT))
  have IO : InOwn W.heap.size w8 (ups (ups (ups (upl inz 0 (arr 32 (bv (lf a1))).toList) 32 (.int .u32 (a2 : Int))) 33 v3) 34 (.int .u32 (a4 : Int))) ⟨a1, a2, a3, a4, []⟩ := by
    refine ⟨HL1.out, HB1.out, fun j hj => ?_, ?_, HN2, ?_, ?_, HN4, ?_⟩
    · rw [ups_ne _ _ (by omega), ups_ne _ _ (by omega), ups_ne _ _ (by omega)]
      have := upl_in (arr 32 (bv (lf a1))).toList inz 0 j (by rw [Array.length_toList, arr_size]; exact hj)
      rw [Nat.zero_add] at this
      rw [this, Array.getElem_toList]
      have e := arr_get 32 (bv (lf a1)) j hj
      rw [Array.getElem?_eq_getElem (by rw [arr_size]; exact hj)] at e
      exact Option.some.inj e
    · rw [ups_ne _ _ (by omega), ups_ne _ _ (by omega), ups_at]; rfl
    · rw [ups_ne _ _ (by omega), ups_at]; exact TS.out
    · rw [ups_at]; rfl
    · rw [ups_ne _ _ (by omega), ups_ne _ _ (by omega), ups_ne _ _ (by omega), upl_out _ _ _ _ (by rw [Array.length_toList, arr_size]; omega)]
      exact texts_none _ _ E.out.rsize
  have IO := Lib.hid IO
  have PP := Lib.hid (show pIn xs = .good ⟨a1, a2, a3, a4, []⟩ r4 from (Res.bg HR1.out).trans ((Res.bg HR2.out).trans ((Res.bg HR3.out).trans (Res.bg HR4.out))))
  obtain ⟨V9, hV9⟩ : ∃ V9 : Nat → Value, V9 = ups (ups (ups (upl inz 0 (arr 32 (bv (lf a1))).toList) 32 (.int .u32 (a2 : Int))) 33 v3) 34 (.int .u32 (a4 : Int)) := ⟨_, rfl⟩
  rw [← hV9] at IO E
  clear hV9
  go_wp2_with (first
    | (refine mem_load_row E 67 rfl (.tmp 3) rfl rfl List.mem_cons_self Try.underlying67 rfl (by simp only [arr_size]; kernel_rfl) ?_)
    | (refine mem_store_rowk 1 E 67 rfl (.tmp 2) (.tmp 20) rfl rfl rfl rfl (by kernel_rfl) (by simp only [arr_size]) (all_of IO.out.at.one) ?_; clear E; intro w9 E KT; simp only [List.set_cons_zero, List.set_cons_succ] at E; replace IO := Lib.hid (IO.out.keep KT.out (by decide) (by decide)); clear KT))
  refine bodyPost_ret (results_cell_row (fn := Try.f63) rfl _ _ b0 67 _ (0, 0) _ rfl (E.out.get (List.mem_cons_of_mem _ List.mem_cons_self)) Try.underlying67 rfl (by rw [arr_size]; kernel_rfl)) rfl ?_
  exact RdPost.good PP.out HA.out E.out ⟨_, rfl, IO.out⟩
end
end Go.Proofs.Ytllndneplkigpaa
