/- The document's frame at the beginning of bytes: a whole one. -/
import Derived.Test.YtkjcljobcidhfaaDoorRgb
set_option linter.unusedSimpArgs false
set_option linter.unusedVariables false
set_option maxRecDepth 100000
namespace Go.Proofs.YtkjcljobcidhfaaDoor
open Go.RowKit Go.Lib Go.Sort

section
variable {P : Program} {ops : Array Oper} {C : World → Prop} {Q : Act → Prop} {a : Act} {o : Oper} {rest : List Oper}
theorem wpQuiet_at (v : Value) (hw : Region.wanted o (yielded ops a.tmps) = true) (hl : ∀ w, C w → (execOp a.eval o).run P w = .ok (.value v) w) (h : wpQuiet P ops C Q rest (a.put o.dst v)) : wpQuiet P ops C Q (o :: rest) a := by
  show if _ then _ else _
  rw [if_pos hw]
  refine ⟨v, fun w hC => ?_, h⟩
  unfold Oper.quietAt
  rw [hl w hC]
  exact ⟨rfl, rfl⟩
end
theorem exec_neqS {o : Oper} {ev : Operand → Value} {W : World} {x y : Operand} {s t : ByteArray} (r : Bool) (ho : o.op = .binOp .neq 9 x y 9) (hx : ev x = .string s) (hy : ev y = .string t) (hr : s = t ↔ r = false) : (execOp ev o).run Tryd.prog W = .ok (.value (.bool r)) W := by
  unfold execOp
  by_cases h : s = t
  · have hr2 := hr.1 h
    subst h hr2
    simp [ho, hx, hy, go_sem, binOp, Tryd.underlying9, Op.stringOp]
  · have hr2 : r = true := by simpa using (fun q => h (hr.2 q))
    subst hr2
    have h2 : ¬ s.toList = t.toList := fun q => h (bas_inj q)
    simp [ho, hx, hy, go_sem, binOp, Tryd.underlying9, Op.stringOp, h2]
theorem exec_addu {o : Oper} {ev : Operand → Value} {W : World} {x y : Operand} {a b : Int} {r : Int} (ho : o.op = .binOp .add 66 x y 66) (hx : ev x = .int .u64 a) (hy : ev y = .int .u64 b) (hr : IntKind.u64.wrap (a + b) = r) : (execOp ev o).run Tryd.prog W = .ok (.value (.int .u64 r)) W := by
  subst hr
  unfold execOp
  simp [ho, hx, hy, go_sem, binOp, Tryd.underlying66]
theorem bs_none (W : World) : (Instr.buildSlice 26 0 #[]).run Tryd.prog W = .ok (.slice (some ⟨W.heap.size, 0, none⟩) 0 0) (W.alloc (.cells #[] 5)) := by kernel_rfl
theorem exec_bs0 {o : Oper} {ev : Operand → Value} {W : World} (ho : o.op = .buildSlice 26 0 #[]) : (execOp ev o).run Tryd.prog W = .ok (.value (.slice (some ⟨W.heap.size, 0, none⟩) 0 0)) (W.alloc (.cells #[] 5)) := by
  unfold execOp
  simp only [ho, Array.map_empty, Sem.run_bind, bs_none W, Result.andThen_ok]
  rfl
section
variable {ops : Array Oper} {rest : List Oper} {Q : Exit → Act → World → Prop} {op : Oper} {a : Act} {w : World}
theorem wpList_bse (hw : Region.wanted op (yielded ops a.tmps) = true) (ho : op.op = .buildSlice 26 0 #[])
    (k : ∀ p g w', Hid (Own w.heap.size w' p g 0 0 (fun _ => 0)) → Hid (Below w.heap.size w w') → wpList Tryd.prog ops Q rest (a.put op.dst (.slice p 0 0)) w') : wpList Tryd.prog ops Q (op :: rest) a w :=
  BigFrame.wpList_want hw fun K hK => mo_known _ _ (exec_bs0 ho) (hK _ _ (k _ _ _ (Lib.hid (own_start w _ fun _ => by omega)) (Lib.hid (below_new w _))))
end
section
variable {ops : Array Oper} {rest : List Oper} {Q : Exit → Act → World → Prop} {op : Oper} {a : Act} {w0 w : World} {l : List (Nat × TypeId × Array Value)}
theorem mem_allocb (E : Hid (Mem w0 l w)) (T : TypeId) (hg : op.guard = none) (ho : op.op = .alloc T) {z : Value} {n : Nat} (hz : (Tryd.prog.info? T).map (fun i => (i.zero, i.size)) = some (some z, n))
    (h : ∀ b w', Hid (Mem w0 ((b, T, z.cells) :: l) w') → Hid (Below w.heap.size w w') → wpList Tryd.prog ops Q rest (a.put op.dst (.pointer (some ⟨b, 0, none⟩))) w') : wpList Tryd.prog ops Q (op :: rest) a w := by
  refine mem_known hg (.pointer (some ⟨w.heap.size, 0, none⟩)) (w.alloc (.cells z.cells T)) ?_ (h _ _ (Lib.hid (E.out.new T _)) (Lib.hid (below_new w _)))
  unfold execOp
  simp only [ho, Sem.run_bind, Instr.alloc, (zero_of_info hz).1, Result.andThen_ok]
  rfl
end

theorem ownK {B T : Nat} {w w' : World} {p : Option Addr} {g n c : Nat} {x : Nat → Nat} (N : Own B w p g n c x) (k : KeepT T w w') (h : (5 : TypeId) ≠ T) : Own B w' p g n c x := ⟨ownsRow_keep N.own k h, N.spot, N.byte, Nat.le_trans N.low k.size⟩
theorem lenO {L : Nat} {pay : List Nat} (h : L = pay.length) : 0 + L = pay.length := by omega
theorem payO {B : Nat} {w : World} {p : Option Addr} {g c L : Nat} {pay : List Nat} (N : Own B w p g (0 + L) c (cat (fun _ => 0) 0 (lf pay))) (h : L = pay.length) : Own B w p g pay.length c (lf pay) := by
  subst h
  rw [Nat.zero_add] at N
  exact N.to (fun i hi => cat_zero _ _ _) fun i => by have := N.byte i; rwa [cat_zero] at this

set_option maxHeartbeats 16000000 in
theorem rfirst_sum {W : World} {bx : Nat} {p p24 p0 p4 p16 : Option Addr} {n c c0 c4 c24 g24 o24 g20 o20 c20 k0 c16 L m : Nat} {cs : ByteArray} {zs : List Nat} (h : 24 ≤ n) {pay : List Nat} {x20 : Nat → Nat} {p25 : Option Addr} {g25 o25 c25 r : Nat} {p20 : Option Addr}
    (CX : Hid (∀ w', Below W.heap.size W w' → w'.cell? ⟨bx, 0, none⟩ = some (.slice p n c)))
    (CB : Hid (W.heap[bx]? = some (.cells #[.slice p n c, .int .i64 0] 29 (0, 0))))
    (S4 : Hid (∀ W', (Instr.sliceAt 26 (.slice p n c) (some (.int .i64 4)) (some (.int .i64 16)) none).run Tryd.prog W' = .ok (.slice p4 12 c4) W'))
    (T4 : Hid (∀ w', Below W.heap.size W w' → Calls Tryd.prog 31 #[.slice p4 12 c4] w' fun e w'' => e = .returned (.string cs) ∧ w' = w''))
    (S0 : Hid (∀ W', (Instr.sliceAt 26 (.slice p n c) none (some (.int .i64 4)) none).run Tryd.prog W' = .ok (.slice p0 4 c0) W'))
    (N0 : Hid (∀ w', Below W.heap.size W w' → Calls Tryd.prog 32 #[.slice p0 4 c0] w' fun e w'' => e = .returned (.int .u64 (m : Int)) ∧ w' = w'')) (hm : m = 3652501241) (hc : cs ≠ ⟨#[]⟩)
    (S16 : Hid (∀ W', (Instr.sliceAt 26 (.slice p n c) (some (.int .i64 16)) (some (.int .i64 20)) none).run Tryd.prog W' = .ok (.slice p16 4 c16) W'))
    (N16 : Hid (∀ w', Below W.heap.size W w' → Calls Tryd.prog 32 #[.slice p16 4 c16] w' fun e w'' => e = .returned (.int .u64 (L : Int)) ∧ w' = w'')) (hn : n ≤ 140737488351232) (hl : L ≤ 200000) (hw : 24 + L ≤ n) (hlp : L = pay.length)
    (S24 : Hid (∀ W', (Instr.sliceAt 26 (.slice p n c) (some (.int .i64 24)) (some (.int .u64 ((24 + L : Nat) : Int))) none).run Tryd.prog W' = .ok (.slice p24 L c24) W'))
    (R24 : Hid (Row W p24 g24 o24 L c24 (lf pay)))
    (S20 : Hid (∀ W', (Instr.sliceAt 26 (.slice p n c) (some (.int .i64 20)) (some (.int .i64 24)) none).run Tryd.prog W' = .ok (.slice p20 4 c20) W'))
    (R20 : Hid (Row W p20 g20 o20 4 c20 x20)) (EQ : Hid (¬ strX (lf (dbl pay)) 4 = strX x20 4)) : Calls Tryd.prog 22 #[.pointer (some ⟨bx, 0, none⟩)] W (RFirstEnd bx zs W (.bad 92)) := by
  have HS := Lib.hid (show IntKind.i64.wrap ((n : Int) - 24) = ((n - 24 : Nat) : Int) by rw [IntKind.wrap_i64]; omega)
  have HS2 := Lib.hid (show ((n - 24 : Nat) : Int) ≤ 9223372036854775807 by omega)
  have E := Lib.hid (Mem.nil W)
  have HL := Lib.hid (show decide ((n : Int) < 24) = false from decide_eq_false (by omega))
  clear h
  have HM := Lib.hid (show decide ((m : Int) = 3652501241) = !false from decide_eq_true (by omega))
  clear hm
  have HC := Lib.hid (show cs = ⟨#[]⟩ ↔ false = true from ⟨fun q => absurd q hc, fun q => by cases q⟩)
  clear hc
  have HG := Lib.hid (show decide ((200000 : Int) < (L : Int)) = false from decide_eq_false (by omega))
  have HG3 := Lib.hid (show IntKind.u64.wrap ((24 : Int) + (L : Int)) = ((24 + L : Nat) : Int) by rw [IntKind.wrap_u64]; omega)
  have HG4 := Lib.hid hl
  have HLL := Lib.hid hlp
  have HW := Lib.hid (show decide (((n - 24 : Nat) : Int) < (L : Int)) = false from decide_eq_false (by omega))
  have DB := Lib.hid (lf_lt (isH_dbl pay).byte)
  clear hl hw hlp hn
  go_enter Tryd.func22, Tryd.ntmps22
  go_upto_region 15 with (first
      | ((with_reducible refine wpList_at 2 rfl ?_); refine mem_alloc E 42 rfl rfl infoFr ?_; clear E; intro b2 w2 E2; have E := Lib.hid (show Mem W [(b2, 42, fr0)] w2 from E2.out); clear E2)
      | ((with_reducible refine wpList_at 10 rfl ?_); refine wpList_ld1 26 (.tmp 9) rfl rfl rfl Tryd.underlying26 rfl (CX.out _ E.out.below) ?_)
      | ((with_reducible refine wpList_at 12 rfl ?_); refine wpList_kn rfl (.bool false) (by exact exec_lssi rfl rfl rfl HL.out) ?_)
      | ((with_reducible refine wpList_at 17 rfl ?_); refine wpList_ld1 26 (.tmp 16) rfl rfl rfl Tryd.underlying26 rfl (CX.out _ E.out.below) ?_)
      | ((with_reducible refine wpList_at 18 rfl ?_); refine wpList_kn rfl (.slice p4 12 c4) (by exact exec_sl rfl (S4.out _)) ?_)
      | (go_at_call 31; (with_reducible refine (T4.out _ E.out.below).mono ?_); rintro e w4 ⟨rfl, rfl⟩)
      | ((with_reducible refine wpList_at 20 rfl ?_); refine wpList_bld 42 _ rfl rfl (ps := #[(0, .string cs)]) (by kernel_rfl) (built_frs cs) ?_)
      | ((with_reducible refine wpList_at 4 rfl ?_); refine mem_alloc E 42 rfl rfl infoFr ?_; clear E; intro b4 w4 E4; have E := Lib.hid (show Mem W [(b4, 42, fr0), (b2, 42, fr0)] w4 from E4.out); clear E4)
      | ((with_reducible refine wpList_atn rfl ?_); refine mem_store_row 0 E 42 rfl (.tmp 4) (.tmp 20) rfl rfl rfl rfl (by kernel_rfl) rfl (frV_one _ _ _ _) ?_; clear E; intro w5 E5; have E := Lib.hid (show Mem W [(b4, 42, frV cs (.slice none 0 0)), (b2, 42, fr0)] w5 from E5.out); clear E5)
      | ((with_reducible refine wpList_at 24 rfl ?_); refine wpList_ld1 26 (.tmp 23) rfl rfl rfl Tryd.underlying26 rfl (CX.out _ E.out.below) ?_)
      | ((with_reducible refine wpList_at 25 rfl ?_); refine wpList_kn rfl (.slice p0 4 c0) (by exact exec_sl rfl (S0.out _)) ?_)
      | (go_at_call 32; (with_reducible refine (N0.out _ E.out.below).mono ?_); rintro e w4 ⟨rfl, rfl⟩)
      | ((with_reducible refine wpList_at 27 rfl ?_); refine wpList_kn rfl (.bool false) (by exact exec_neq64 rfl rfl rfl HM.out) ?_)
      | ((with_reducible refine wpList_at 30 rfl ?_); refine mem_load_cell E 9 (by first | rfl | kernel_rfl) (.tmp 29) rfl rfl List.mem_cons_self Tryd.underlying9 rfl (v := .string cs) rfl ?_)
      | ((with_reducible refine wpList_at 31 rfl ?_); refine wpList_kn rfl (.bool false) (by exact exec_eqS false rfl rfl rfl HC.out) ?_)
      | ((with_reducible refine wpList_at 40 rfl ?_); refine wpList_ld1 26 (.tmp 39) rfl rfl rfl Tryd.underlying26 rfl (CX.out _ E.out.below) ?_)
      | ((with_reducible refine wpList_at 41 rfl ?_); refine wpList_kn rfl (.slice p16 4 c16) (by exact exec_sl rfl (S16.out _)) ?_)
      | (go_at_call 32; (with_reducible refine (N16.out _ E.out.below).mono ?_); rintro e w4 ⟨rfl, rfl⟩)
      | ((with_reducible refine wpList_at 44 rfl ?_); refine wpList_kn rfl (.bool false) (by exact exec_gtr64 rfl rfl rfl HG.out) ?_)
      | ((with_reducible refine wpList_at 52 rfl ?_); refine wpList_ld1 26 (.tmp 51) rfl rfl rfl Tryd.underlying26 rfl (CX.out _ E.out.below) ?_)
      | ((with_reducible refine wpList_at 54 rfl ?_); refine wpList_kn rfl (.int .i64 ((n - 24 : Nat) : Int)) (by exact exec_sub rfl rfl rfl HS.out) ?_)
      | ((with_reducible refine wpList_at 55 rfl ?_); refine wpList_kn rfl (.int .u64 ((n - 24 : Nat) : Int)) (by exact exec_subc rfl rfl HS2.out) ?_)
      | ((with_reducible refine wpList_at 57 rfl ?_); refine wpList_kn rfl (.bool false) (by exact exec_lss64 rfl rfl rfl HW.out) ?_)
      | ((with_reducible refine wpList_at 59 rfl ?_); refine wpList_bse rfl rfl ?_; intro p7 g7 w7 N7 hb7; have EB := E.out; replace E := Lib.hid (EB.call hb7.out); have LB := Lib.hid (show ∀ q, q ∈ [(b4, 42, frV cs (.slice none 0 0)), (b2, 42, fr0)] → q.1 < _ from fun q hq => EB.lt q hq); have WB := Lib.hid EB.below.size; clear hb7 EB)
      | ((with_reducible refine wpList_at 63 rfl ?_); refine wpList_ld1 26 (.tmp 62) rfl rfl rfl Tryd.underlying26 rfl (CX.out _ E.out.below) ?_)
      | ((with_reducible refine wpList_at 65 rfl ?_); refine wpList_kn rfl (.int .u64 ((24 + L : Nat) : Int)) (by exact exec_addu rfl rfl rfl HG3.out) ?_)
      | ((with_reducible refine wpList_at 66 rfl ?_); refine wpList_kn rfl (.slice p24 L c24) (by exact exec_sl rfl (S24.out _)) ?_)
      | ((with_reducible refine wpList_at 67 rfl ?_); refine wpList_app (.inr rfl) (.tmp 59) (.tmp 66) rfl rfl N7 rfl (Lib.hid (R24.out.below E.out.below)) (by have := HG4.out; omega) ?_; clear N7; intro p8 g8 c8 w8 N8x hb8; have N8 := Lib.hid ((payO N8x.out HLL.out).mono WB.out); clear N8x; (try simp only [Nat.zero_add]); replace E := Lib.hid (E.out.part hb8.out WB.out LB.out); clear hb8 LB WB)
      | ((with_reducible refine wpList_atn rfl ?_); refine mem_store_cellk 0 E 26 rfl (.tmp 68) (.tmp 67) rfl rfl rfl rfl (by kernel_rfl) rfl rfl (show 1 < 2 by omega) ?_; clear E; intro w9 E9 KT; replace N8 := Lib.hid (show Own _ w9 p8 g8 pay.length c8 (lf pay) from ⟨ownsRow_keep N8.out.own KT.out (by decide), N8.out.spot, N8.out.byte, Nat.le_trans N8.out.low KT.out.size⟩); have E := Lib.hid (show Mem W [(b4, 42, frV cs (.slice p8 L c8)), (b2, 42, fr0)] w9 from E9.out); clear E9 KT)
      | ((with_reducible refine wpList_at 70 rfl ?_); refine wpList_ld1 26 (.tmp 69) rfl rfl rfl Tryd.underlying26 rfl (cell_of_here (E.out.get List.mem_cons_self) 1 (v := .slice p8 L c8) rfl) ?_; have NP := N8; have DD := Lib.hid (ref_double_l (Lib.hid NP.out.row) (by have := HLL.out; have := HG4.out; omega)); rw [← HLL.out] at DD)
      | (go_at_call 33; (with_reducible refine DD.out.mono ?_); rintro e w10 ⟨rfl, hb⟩; replace E := Lib.hid (E.out.call hb); replace NP := Lib.hid (NP.out.below hb); clear hb)
      | ((with_reducible refine wpList_at 6 rfl ?_); refine mem_allocb E 73 rfl rfl infoHash ?_; clear E; intro b6 w11 E hb; simp only [arr_cells'] at E; replace NP := Lib.hid (NP.out.below hb.out); clear hb)
      | ((with_reducible refine wpList_atn rfl ?_); refine mem_store_rowk 0 E 73 rfl (.tmp 6) (.tmp 71) rfl rfl rfl rfl (by kernel_rfl) (by simp only [arr_size]) (bv_one _ _) ?_; clear E; intro w12 E12 KT; replace NP := Lib.hid (show Own _ w12 p8 g8 pay.length c8 (lf pay) from ⟨ownsRow_keep NP.out.own KT.out (by decide), NP.out.spot, NP.out.byte, Nat.le_trans NP.out.low KT.out.size⟩); have E := Lib.hid (show Mem W [(b6, 73, arr 32 (bv (lf (dbl pay)))), (b4, 42, frV cs (.slice p8 L c8)), (b2, 42, fr0)] w12 from E12.out); clear E12 KT))
  refine wp_region_quiet_below (by kernel_rfl) (by kernel_rfl) ?_
  refine wpQuiet_pure (.slice (some ⟨b6, 0, none⟩) 4 32) rfl (fun w => exec_sl rfl (run_h4 b6 w)) ?_
  refine wpQuiet_at (.string (strX (lf (dbl pay)) 4)) rfl (fun w3 hC => by obtain ⟨pz, rfl⟩ := hC; exact exec_cvs rfl (row_strX (h4Row DB.out ((E.out.call (below_regrown w12 pz.d pz.os)).get List.mem_cons_self)))) ?_
  quiet_step (fail)
  quiet_step (fail)
  quiet_step (fail)
  refine wpQuiet_load_at 26 (.tmp 76) rfl rfl ⟨bx, 0, none⟩ rfl (.slice p n c) (fun w3 hC => by obtain ⟨pz, rfl⟩ := hC; exact run_load_one Tryd.underlying26 rfl (CX.out _ (E.out.call (below_regrown w12 pz.d pz.os)).below)) ?_
  refine wpQuiet_pure (.slice p20 4 c20) rfl (fun w => exec_sl rfl (S20.out w)) ?_
  refine wpQuiet_at (.string (strX x20 4)) rfl (fun w3 hC => by obtain ⟨pz, rfl⟩ := hC; exact exec_cvs rfl (row_strX (R20.out.below (E.out.call (below_regrown w12 pz.d pz.os)).below))) ?_
  refine wpQuiet_pure (.bool true) rfl (fun w => exec_neqS true rfl rfl rfl ⟨fun h => absurd h EQ.out, fun h => by cases h⟩) ?_
  refine wpQuiet_nil ?_
  intro _ hw'
  obtain ⟨⟨dq, osq⟩, hw''⟩ := hw'
  subst hw''
  replace E := Lib.hid (E.out.call (below_regrown w12 dq osq))
  go_wp2_with (first
      | ((with_reducible refine wpList_atn rfl ?_); refine wpList_setc (show _ = some (Obj.cells #[.slice p n c, .int .i64 0] 29 (0, 0)) by rw [E.out.below.block bx (heap_lt CB.out)]; exact CB.out) rfl 27 (.tmp 83) (.const (.int .i64 92)) rfl rfl rfl (by kernel_rfl) rfl rfl rfl ?_; replace E := Lib.hid (E.out.setOld (j := 1) (v := .int .i64 92) CB.out))
      | ((with_reducible refine wpList_at 84 rfl ?_); refine wpList_bld 42 _ rfl rfl (ps := #[]) (by kernel_rfl) built_fr0 ?_)
      | ((with_reducible refine wpList_atn rfl ?_); refine mem_store_row 2 E 42 rfl (.tmp 2) (.tmp 84) rfl rfl rfl rfl (by kernel_rfl) rfl fr0_one ?_; clear E; intro w13 E13; have E := Lib.hid (show Mem (W.setCell ⟨bx, 1, none⟩ (.int .i64 92)) [(b6, 73, arr 32 (bv (lf (dbl pay)))), (b4, 42, frV cs (.slice p8 L c8)), (b2, 42, fr0)] w13 from E13.out); clear E13))
  exact bodyPost_ret (res_ct (fn := Tryd.f22) rfl _ _ _ rfl (E.out.get (List.mem_cons_of_mem _ (List.mem_cons_of_mem _ List.mem_cons_self))) Tryd.underlying42 rfl (by kernel_rfl)) rfl ⟨rfl, by have := E.out.below; rwa [size_set] at this⟩

set_option maxHeartbeats 16000000 in
theorem rfirst_good {W : World} {bx : Nat} {p p24 p0 p4 p16 : Option Addr} {n c c0 c4 c24 g24 o24 g20 o20 c20 k0 c16 L m : Nat} {cs : ByteArray} {zs : List Nat} (h : 24 ≤ n) {pay : List Nat} {x20 : Nat → Nat} {p25 : Option Addr} {g25 o25 c25 r : Nat} {p20 : Option Addr}
    (CX : Hid (∀ w', Below W.heap.size W w' → w'.cell? ⟨bx, 0, none⟩ = some (.slice p n c)))
    (CB : Hid (W.heap[bx]? = some (.cells #[.slice p n c, .int .i64 0] 29 (0, 0))))
    (S4 : Hid (∀ W', (Instr.sliceAt 26 (.slice p n c) (some (.int .i64 4)) (some (.int .i64 16)) none).run Tryd.prog W' = .ok (.slice p4 12 c4) W'))
    (T4 : Hid (∀ w', Below W.heap.size W w' → Calls Tryd.prog 31 #[.slice p4 12 c4] w' fun e w'' => e = .returned (.string cs) ∧ w' = w''))
    (S0 : Hid (∀ W', (Instr.sliceAt 26 (.slice p n c) none (some (.int .i64 4)) none).run Tryd.prog W' = .ok (.slice p0 4 c0) W'))
    (N0 : Hid (∀ w', Below W.heap.size W w' → Calls Tryd.prog 32 #[.slice p0 4 c0] w' fun e w'' => e = .returned (.int .u64 (m : Int)) ∧ w' = w'')) (hm : m = 3652501241) (hc : cs ≠ ⟨#[]⟩)
    (S16 : Hid (∀ W', (Instr.sliceAt 26 (.slice p n c) (some (.int .i64 16)) (some (.int .i64 20)) none).run Tryd.prog W' = .ok (.slice p16 4 c16) W'))
    (N16 : Hid (∀ w', Below W.heap.size W w' → Calls Tryd.prog 32 #[.slice p16 4 c16] w' fun e w'' => e = .returned (.int .u64 (L : Int)) ∧ w' = w'')) (hn : n ≤ 140737488351232) (hl : L ≤ 200000) (hw : 24 + L ≤ n) (hlp : L = pay.length)
    (S24 : Hid (∀ W', (Instr.sliceAt 26 (.slice p n c) (some (.int .i64 24)) (some (.int .u64 ((24 + L : Nat) : Int))) none).run Tryd.prog W' = .ok (.slice p24 L c24) W'))
    (R24 : Hid (Row W p24 g24 o24 L c24 (lf pay)))
    (S20 : Hid (∀ W', (Instr.sliceAt 26 (.slice p n c) (some (.int .i64 20)) (some (.int .i64 24)) none).run Tryd.prog W' = .ok (.slice p20 4 c20) W'))
    (S25 : Hid (∀ W', (Instr.sliceAt 26 (.slice p n c) (some (.int .u64 ((24 + L : Nat) : Int))) none none).run Tryd.prog W' = .ok (.slice p25 r c25) W'))
    (R25 : Hid (Row W p25 g25 o25 r c25 (lf (zs.drop (24 + pay.length))))) (HRL : Hid (r = (zs.drop (24 + pay.length)).length)) (HR4 : Hid (r ≤ 140737488351232))
    (R20 : Hid (Row W p20 g20 o20 4 c20 x20)) (EQ : Hid (strX (lf (dbl pay)) 4 = strX x20 4)) : Calls Tryd.prog 22 #[.pointer (some ⟨bx, 0, none⟩)] W (RFirstEnd bx zs W (.frame k0 cs pay)) := by
  have HS := Lib.hid (show IntKind.i64.wrap ((n : Int) - 24) = ((n - 24 : Nat) : Int) by rw [IntKind.wrap_i64]; omega)
  have HS2 := Lib.hid (show ((n - 24 : Nat) : Int) ≤ 9223372036854775807 by omega)
  have E := Lib.hid (Mem.nil W)
  have HL := Lib.hid (show decide ((n : Int) < 24) = false from decide_eq_false (by omega))
  clear h
  have HM := Lib.hid (show decide ((m : Int) = 3652501241) = !false from decide_eq_true (by omega))
  clear hm
  have HC := Lib.hid (show cs = ⟨#[]⟩ ↔ false = true from ⟨fun q => absurd q hc, fun q => by cases q⟩)
  clear hc
  have HG := Lib.hid (show decide ((200000 : Int) < (L : Int)) = false from decide_eq_false (by omega))
  have HG3 := Lib.hid (show IntKind.u64.wrap ((24 : Int) + (L : Int)) = ((24 + L : Nat) : Int) by rw [IntKind.wrap_u64]; omega)
  have HG4 := Lib.hid hl
  have HLL := Lib.hid hlp
  have HW := Lib.hid (show decide (((n - 24 : Nat) : Int) < (L : Int)) = false from decide_eq_false (by omega))
  have DB := Lib.hid (lf_lt (isH_dbl pay).byte)
  clear hl hw hlp hn
  go_enter Tryd.func22, Tryd.ntmps22
  go_upto_region 15 with (first
      | ((with_reducible refine wpList_at 2 rfl ?_); refine mem_alloc E 42 rfl rfl infoFr ?_; clear E; intro b2 w2 E2; have E := Lib.hid (show Mem W [(b2, 42, fr0)] w2 from E2.out); clear E2)
      | ((with_reducible refine wpList_at 10 rfl ?_); refine wpList_ld1 26 (.tmp 9) rfl rfl rfl Tryd.underlying26 rfl (CX.out _ E.out.below) ?_)
      | ((with_reducible refine wpList_at 12 rfl ?_); refine wpList_kn rfl (.bool false) (by exact exec_lssi rfl rfl rfl HL.out) ?_)
      | ((with_reducible refine wpList_at 17 rfl ?_); refine wpList_ld1 26 (.tmp 16) rfl rfl rfl Tryd.underlying26 rfl (CX.out _ E.out.below) ?_)
      | ((with_reducible refine wpList_at 18 rfl ?_); refine wpList_kn rfl (.slice p4 12 c4) (by exact exec_sl rfl (S4.out _)) ?_)
      | (go_at_call 31; (with_reducible refine (T4.out _ E.out.below).mono ?_); rintro e w4 ⟨rfl, rfl⟩)
      | ((with_reducible refine wpList_at 20 rfl ?_); refine wpList_bld 42 _ rfl rfl (ps := #[(0, .string cs)]) (by kernel_rfl) (built_frs cs) ?_)
      | ((with_reducible refine wpList_at 4 rfl ?_); refine mem_alloc E 42 rfl rfl infoFr ?_; clear E; intro b4 w4 E4; have E := Lib.hid (show Mem W [(b4, 42, fr0), (b2, 42, fr0)] w4 from E4.out); clear E4)
      | ((with_reducible refine wpList_atn rfl ?_); refine mem_store_row 0 E 42 rfl (.tmp 4) (.tmp 20) rfl rfl rfl rfl (by kernel_rfl) rfl (frV_one _ _ _ _) ?_; clear E; intro w5 E5; have E := Lib.hid (show Mem W [(b4, 42, frV cs (.slice none 0 0)), (b2, 42, fr0)] w5 from E5.out); clear E5)
      | ((with_reducible refine wpList_at 24 rfl ?_); refine wpList_ld1 26 (.tmp 23) rfl rfl rfl Tryd.underlying26 rfl (CX.out _ E.out.below) ?_)
      | ((with_reducible refine wpList_at 25 rfl ?_); refine wpList_kn rfl (.slice p0 4 c0) (by exact exec_sl rfl (S0.out _)) ?_)
      | (go_at_call 32; (with_reducible refine (N0.out _ E.out.below).mono ?_); rintro e w4 ⟨rfl, rfl⟩)
      | ((with_reducible refine wpList_at 27 rfl ?_); refine wpList_kn rfl (.bool false) (by exact exec_neq64 rfl rfl rfl HM.out) ?_)
      | ((with_reducible refine wpList_at 30 rfl ?_); refine mem_load_cell E 9 (by first | rfl | kernel_rfl) (.tmp 29) rfl rfl List.mem_cons_self Tryd.underlying9 rfl (v := .string cs) rfl ?_)
      | ((with_reducible refine wpList_at 31 rfl ?_); refine wpList_kn rfl (.bool false) (by exact exec_eqS false rfl rfl rfl HC.out) ?_)
      | ((with_reducible refine wpList_at 40 rfl ?_); refine wpList_ld1 26 (.tmp 39) rfl rfl rfl Tryd.underlying26 rfl (CX.out _ E.out.below) ?_)
      | ((with_reducible refine wpList_at 41 rfl ?_); refine wpList_kn rfl (.slice p16 4 c16) (by exact exec_sl rfl (S16.out _)) ?_)
      | (go_at_call 32; (with_reducible refine (N16.out _ E.out.below).mono ?_); rintro e w4 ⟨rfl, rfl⟩)
      | ((with_reducible refine wpList_at 44 rfl ?_); refine wpList_kn rfl (.bool false) (by exact exec_gtr64 rfl rfl rfl HG.out) ?_)
      | ((with_reducible refine wpList_at 52 rfl ?_); refine wpList_ld1 26 (.tmp 51) rfl rfl rfl Tryd.underlying26 rfl (CX.out _ E.out.below) ?_)
      | ((with_reducible refine wpList_at 54 rfl ?_); refine wpList_kn rfl (.int .i64 ((n - 24 : Nat) : Int)) (by exact exec_sub rfl rfl rfl HS.out) ?_)
      | ((with_reducible refine wpList_at 55 rfl ?_); refine wpList_kn rfl (.int .u64 ((n - 24 : Nat) : Int)) (by exact exec_subc rfl rfl HS2.out) ?_)
      | ((with_reducible refine wpList_at 57 rfl ?_); refine wpList_kn rfl (.bool false) (by exact exec_lss64 rfl rfl rfl HW.out) ?_)
      | ((with_reducible refine wpList_at 59 rfl ?_); refine wpList_bse rfl rfl ?_; intro p7 g7 w7 N7 hb7; have EB := E.out; replace E := Lib.hid (EB.call hb7.out); have LB := Lib.hid (show ∀ q, q ∈ [(b4, 42, frV cs (.slice none 0 0)), (b2, 42, fr0)] → q.1 < _ from fun q hq => EB.lt q hq); have WB := Lib.hid EB.below.size; clear hb7 EB)
      | ((with_reducible refine wpList_at 63 rfl ?_); refine wpList_ld1 26 (.tmp 62) rfl rfl rfl Tryd.underlying26 rfl (CX.out _ E.out.below) ?_)
      | ((with_reducible refine wpList_at 65 rfl ?_); refine wpList_kn rfl (.int .u64 ((24 + L : Nat) : Int)) (by exact exec_addu rfl rfl rfl HG3.out) ?_)
      | ((with_reducible refine wpList_at 66 rfl ?_); refine wpList_kn rfl (.slice p24 L c24) (by exact exec_sl rfl (S24.out _)) ?_)
      | ((with_reducible refine wpList_at 67 rfl ?_); refine wpList_app (.inr rfl) (.tmp 59) (.tmp 66) rfl rfl N7 rfl (Lib.hid (R24.out.below E.out.below)) (by have := HG4.out; omega) ?_; clear N7; intro p8 g8 c8 w8 N8x hb8; have N8 := Lib.hid ((payO N8x.out HLL.out).mono WB.out); clear N8x; (try simp only [Nat.zero_add]); replace E := Lib.hid (E.out.part hb8.out WB.out LB.out); clear hb8 LB WB)
      | ((with_reducible refine wpList_atn rfl ?_); refine mem_store_cellk 0 E 26 rfl (.tmp 68) (.tmp 67) rfl rfl rfl rfl (by kernel_rfl) rfl rfl (show 1 < 2 by omega) ?_; clear E; intro w9 E9 KT; replace N8 := Lib.hid (show Own _ w9 p8 g8 pay.length c8 (lf pay) from ⟨ownsRow_keep N8.out.own KT.out (by decide), N8.out.spot, N8.out.byte, Nat.le_trans N8.out.low KT.out.size⟩); have E := Lib.hid (show Mem W [(b4, 42, frV cs (.slice p8 L c8)), (b2, 42, fr0)] w9 from E9.out); clear E9 KT)
      | ((with_reducible refine wpList_at 70 rfl ?_); refine wpList_ld1 26 (.tmp 69) rfl rfl rfl Tryd.underlying26 rfl (cell_of_here (E.out.get List.mem_cons_self) 1 (v := .slice p8 L c8) rfl) ?_; have NP := N8; have DD := Lib.hid (ref_double_l (Lib.hid NP.out.row) (by have := HLL.out; have := HG4.out; omega)); rw [← HLL.out] at DD)
      | (go_at_call 33; (with_reducible refine DD.out.mono ?_); rintro e w10 ⟨rfl, hb⟩; replace E := Lib.hid (E.out.call hb); replace NP := Lib.hid (NP.out.below hb); clear hb)
      | ((with_reducible refine wpList_at 6 rfl ?_); refine mem_allocb E 73 rfl rfl infoHash ?_; clear E; intro b6 w11 E hb; simp only [arr_cells'] at E; replace NP := Lib.hid (NP.out.below hb.out); clear hb)
      | ((with_reducible refine wpList_atn rfl ?_); refine mem_store_rowk 0 E 73 rfl (.tmp 6) (.tmp 71) rfl rfl rfl rfl (by kernel_rfl) (by simp only [arr_size]) (bv_one _ _) ?_; clear E; intro w12 E12 KT; replace NP := Lib.hid (show Own _ w12 p8 g8 pay.length c8 (lf pay) from ⟨ownsRow_keep NP.out.own KT.out (by decide), NP.out.spot, NP.out.byte, Nat.le_trans NP.out.low KT.out.size⟩); have E := Lib.hid (show Mem W [(b6, 73, arr 32 (bv (lf (dbl pay)))), (b4, 42, frV cs (.slice p8 L c8)), (b2, 42, fr0)] w12 from E12.out); clear E12 KT))
  refine wp_region_quiet_below (by kernel_rfl) (by kernel_rfl) ?_
  refine wpQuiet_pure (.slice (some ⟨b6, 0, none⟩) 4 32) rfl (fun w => exec_sl rfl (run_h4 b6 w)) ?_
  refine wpQuiet_at (.string (strX (lf (dbl pay)) 4)) rfl (fun w3 hC => by obtain ⟨pz, rfl⟩ := hC; exact exec_cvs rfl (row_strX (h4Row DB.out ((E.out.call (below_regrown w12 pz.d pz.os)).get List.mem_cons_self)))) ?_
  quiet_step (fail)
  quiet_step (fail)
  quiet_step (fail)
  refine wpQuiet_load_at 26 (.tmp 76) rfl rfl ⟨bx, 0, none⟩ rfl (.slice p n c) (fun w3 hC => by obtain ⟨pz, rfl⟩ := hC; exact run_load_one Tryd.underlying26 rfl (CX.out _ (E.out.call (below_regrown w12 pz.d pz.os)).below)) ?_
  refine wpQuiet_pure (.slice p20 4 c20) rfl (fun w => exec_sl rfl (S20.out w)) ?_
  refine wpQuiet_at (.string (strX x20 4)) rfl (fun w3 hC => by obtain ⟨pz, rfl⟩ := hC; exact exec_cvs rfl (row_strX (R20.out.below (E.out.call (below_regrown w12 pz.d pz.os)).below))) ?_
  refine wpQuiet_pure (.bool false) rfl (fun w => exec_neqS false rfl rfl rfl ⟨fun _ => rfl, fun _ => EQ.out⟩) ?_
  refine wpQuiet_nil ?_
  intro _ hw'
  obtain ⟨⟨dq, osq⟩, hw''⟩ := hw'
  subst hw''
  replace E := Lib.hid (E.out.call (below_regrown w12 dq osq))
  replace NP := Lib.hid (NP.out.below (below_regrown w12 dq osq))
  go_wp2_with (first
      | ((with_reducible refine wpList_at 86 rfl ?_); refine wpList_bse rfl rfl ?_; intro p9 g9 w13 N9 hb9)
      | ((with_reducible refine wpList_at 90 rfl ?_); refine wpList_ld1 26 (.tmp 89) rfl rfl rfl Tryd.underlying26 rfl (CX.out _ (E.out.call hb9.out).below) ?_)
      | ((with_reducible refine wpList_at 92 rfl ?_); refine wpList_kn rfl (.int .u64 ((24 + L : Nat) : Int)) (by exact exec_addu rfl rfl rfl HG3.out) ?_)
      | ((with_reducible refine wpList_at 93 rfl ?_); refine wpList_kn rfl (.slice p25 r c25) (by exact exec_sl rfl (S25.out _)) ?_)
      | ((with_reducible refine wpList_at 94 rfl ?_); refine wpList_app (.inr rfl) (.tmp 86) (.tmp 93) rfl rfl N9 rfl (Lib.hid (R25.out.below (E.out.call hb9.out).below)) (by have := HR4.out; omega) ?_; clear N9; intro p10 g10 c10 w14 N10x hb10; have N10 := Lib.hid ((payO N10x.out HRL.out).mono E.out.below.size); clear N10x; (try simp only [Nat.zero_add]); replace E := Lib.hid (E.out.call (hb9.out.trans hb10.out)); replace NP := Lib.hid (NP.out.below (hb9.out.trans hb10.out)); clear hb9 hb10)
      | ((with_reducible refine wpList_atn rfl ?_); refine wpList_setc (v := .slice p10 r c10) (show _ = some (Obj.cells #[.slice p n c, .int .i64 0] 29 (0, 0)) by rw [E.out.below.block bx (heap_lt CB.out)]; exact CB.out) rfl 26 (.tmp 96) (.tmp 94) rfl rfl rfl (by kernel_rfl) rfl rfl rfl ?_; have KT := Lib.hid (KeepT.of_only (show _ = some (Obj.cells #[.slice p n c, .int .i64 0] 29 (0, 0)) by rw [E.out.below.block bx (heap_lt CB.out)]; exact CB.out) (only_set bx 0 (.slice p10 r c10))); replace E := Lib.hid (E.out.setOld (j := 0) (v := .slice p10 r c10) CB.out); replace NP := Lib.hid (ownK NP.out KT.out (by decide)); replace N10 := Lib.hid (ownK N10.out KT.out (by decide)); clear KT)
      | ((with_reducible refine wpList_at 97 rfl ?_); refine mem_load_row E 42 rfl (.tmp 4) rfl rfl (List.mem_cons_of_mem _ List.mem_cons_self) Tryd.underlying42 rfl (by kernel_rfl) ?_)
      | ((with_reducible refine wpList_atn rfl ?_); refine mem_store_rowk 2 E 42 rfl (.tmp 2) (.tmp 97) rfl rfl rfl rfl (by kernel_rfl) rfl (frV_one _ _ _ _) ?_; clear E; intro w15 E15 KT; have E := Lib.hid (show Mem (W.setCell ⟨bx, 0, none⟩ (.slice p10 r c10)) [(b6, 73, arr 32 (bv (lf (dbl pay)))), (b4, 42, frV cs (.slice p8 L c8)), (b2, 42, frV cs (.slice p8 L c8))] w15 from E15.out); replace NP := Lib.hid (ownK NP.out KT.out (by decide)); replace N10 := Lib.hid (ownK N10.out KT.out (by decide)); clear E15 KT))
  have e1 := HLL.out
  have e2 := HRL.out
  subst e1
  subst e2
  exact bodyPost_ret (res_ct (fn := Tryd.f22) rfl _ _ _ rfl (E.out.get (List.mem_cons_of_mem _ (List.mem_cons_of_mem _ List.mem_cons_self))) Tryd.underlying42 rfl (by kernel_rfl)) rfl ⟨p8, g8, c8, p10, g10, c10, rfl, NP.out, N10.out, by have := E.out.below; rwa [size_set] at this⟩
end Go.Proofs.YtkjcljobcidhfaaDoor
