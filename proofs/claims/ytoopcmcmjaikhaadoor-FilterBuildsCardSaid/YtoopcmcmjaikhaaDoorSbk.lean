/- The sort of uint64: breakPatterns. -/
import Derived.Test.YtoopcmcmjaikhaaDoorScp
import Derived.Sort.Walk7
import Derived.Shelf.SlSortCmp.Xorshift
import Derived.Shelf.Lay
import Derived.Ground.SlsfProg
set_option linter.unusedSimpArgs false
set_option linter.unusedVariables false
set_option maxRecDepth 100000
namespace Go.Proofs
open Go.Shelf
shelf_lay SlLaysF0.n48 Slsf 48 at Tryd as YtoopcmcmjaikhaaDoor.lays48
shelf_lay SlLaysF0.n47 Slsf 47 at Tryd as YtoopcmcmjaikhaaDoor.lays47
end Go.Proofs
namespace Go.Proofs.YtoopcmcmjaikhaaDoor
open Go.RowKit Go.Lib

theorem next_any (rb X : Nat) (hX : X < 18446744073709551616) (w : World) (hc : w.cell? ⟨rb, 0, none⟩ = some (.int .u64 X)) (hf : w.frozen? ⟨rb, 0, none⟩ = false) : Calls Tryd.prog 124 #[.pointer (some ⟨rb, 0, none⟩)] w fun e w' => e = .returned (.int .u64 (Go.Sort.xorNextN X : Nat)) ∧ w' = (w.setCell ⟨rb, 0, none⟩ (.int .u64 (Go.Sort.xorNextN X : Nat))).drewN 3 := AnyF.xorshift_Next lays48 rb 0 X hX w hc hf
theorem npow_any (n : Nat) (hn : n < 4611686018427387904) (w : World) : Calls Tryd.prog 123 #[.int .i64 n] w fun e w' => e = .returned (.int .u64 ((1 <<< Go.Sort.bitsLen n : Nat) : Int)) ∧ w' = w := AnyF.nextPowerOfTwo lays47 n hn w
/-- What a round leaves beside the row: the box of the random number. -/
structure BX (B : Nat) (w : World) (sb g r : Nat) (w' : World) : Prop where
  below : Below B w w'
  box : VOwn 168 1 sb w' (some ⟨sb, 0, none⟩) sb 1 1 (fun _ => .int .u64 ((r : Nat) : Int))
  ne : some g ≠ some sb
  low : B ≤ sb
theorem grown_cell (w : World) (a : Addr) (u : Value) : w.grownBy (w.setCell a u) (some a.block) := ⟨rfl, rfl, rfl, (KeepsWalks.setCell w _ u).size, fun k _ hk => Below.heap_setCell _ _ _ k (fun e => hk (by rw [e]))⟩
structure GB (B g : Nat) (w w' : World) : Prop where
  below : Below B w w'
  but : w.grownBy w' (some g)
theorem BX.drew {B sb g r : Nat} {w w' : World} (h : BX B w sb g r w') : BX B w sb g r w'.drew := ⟨h.below.drew, h.box.below (Below.refl _ _).drew, h.ne, h.low⟩
theorem BX.trans {B sb g r : Nat} {w w' w2 : World} (h : BX B w sb g r w') (k : GB B g w' w2) : BX B w sb g r w2 := ⟨h.below.trans k.below, h.box.kept k.but (.inr h.ne), h.ne, h.low⟩
section
variable {Q : Exit → Act → World → Prop} {op : Oper} {a : Act} {w : World} {K : Act → World → Prop}
theorem mo_vputG {B g n c i v : Nat} {d : Array Nat} (x y : Operand) (ho : op.op = .store 59 x y) (N : Hid (NRow B w g n c d ∧ d.size = n)) (hx : a.eval x = .pointer (some ⟨g, 0 + i * 1, none⟩)) (hy : a.eval y = .int .u64 (v : Int)) (hi : i < n)
    (k : ∀ w', Hid (NRow B w' g n c (d.setIfInBounds i v) ∧ (d.setIfInBounds i v).size = n) → Hid (GB B g w w') → K (a.put op.dst undef) w') : op.wp Tryd.prog a w K Q := by
  obtain ⟨O, hb, hf⟩ := nput (v := v) N.out.1 hi N.out.2
  rw [Nat.zero_add, Nat.mul_one] at hx
  have hc := N.out.1.row.cell i (by omega)
  rw [Nat.zero_add] at hc
  unfold Oper.wp execOp
  simp only [ho, hx, hy, Sem.run_bind, Sem.run_pure, run_store_one (P := Tryd.prog) (ty := 59) (v := .int .u64 (v : Int)) (by kernel_rfl) rfl rfl hc hf, Result.andThen_ok]
  exact k _ (Lib.hid ⟨O, by rw [Array.size_setIfInBounds]; exact N.out.2⟩) (Lib.hid ⟨hb, grown_cell _ _ _⟩)
end
theorem exec_subU {o : Oper} {ev : Operand → Value} {W : World} {x y : Operand} {a b r : Int} (ho : o.op = .binOp .sub 50 x y 50) (hx : ev x = .int .u64 a) (hy : ev y = .int .u64 b) (hr : IntKind.u64.wrap (a - b) = r) : (execOp ev o).run Tryd.prog W = .ok (.value (.int .u64 r)) W := by
  subst hr
  unfold execOp
  simp [ho, hx, hy, go_sem, Tryd.underlying50]
theorem exec_andU {o : Oper} {ev : Operand → Value} {W : World} {x y : Operand} {a b r : Int} (ho : o.op = .binOp .and 50 x y 50) (hx : ev x = .int .u64 a) (hy : ev y = .int .u64 b) (hr : bits .and .u64 a b = r) : (execOp ev o).run Tryd.prog W = .ok (.value (.int .u64 r)) W := by
  subst hr
  unfold execOp
  simp [ho, hx, hy, go_sem, Tryd.underlying50]
theorem exec_cvU {o : Oper} {ev : Operand → Value} {W : World} {x : Operand} {a r : Int} (ho : o.op = .convert 50 3 x) (hx : ev x = .int .u64 a) (hr : IntKind.i64.wrap a = r) : (execOp ev o).run Tryd.prog W = .ok (.value (.int .i64 r)) W := by
  subst hr
  unfold execOp
  simp [ho, hx, go_sem, Tryd.underlying50, Tryd.underlying3]
theorem exec_cvX {o : Oper} {ev : Operand → Value} {W : World} {x : Operand} {a r : Int} (ho : o.op = .convert 3 168 x) (hx : ev x = .int .i64 a) (hr : IntKind.u64.wrap a = r) : (execOp ev o).run Tryd.prog W = .ok (.value (.int .u64 r)) W := by
  subst hr
  unfold execOp
  simp [ho, hx, go_sem, Tryd.underlying168, Tryd.underlying3]
section
variable {Q : Exit → Act → World → Prop} {op : Oper} {a : Act} {w : World} {ops : Array Oper} {rest : List Oper}
theorem wpList_putX {T B g n c : Nat} {V : Nat → Value} {v : Value} (hgd : op.guard = none) (ty : TypeId) (x y : Operand) (ho : op.op = .store ty x y) (N : Hid (VOwn T 1 B w (some ⟨g, 0, none⟩) g (n + 1) c V)) (hx : a.eval x = .pointer (some ⟨g, 0, none⟩)) (hy : a.eval y = v) (hs : (Tryd.prog.info? ty).map (·.size) = some 1) (h1 : v.cells = #[v]) (h2 : v.oneCell' = true)
    (h : ∀ w', Hid (VOwn T 1 B w' (some ⟨g, 0, none⟩) g (n + 1) c (fun k => if k = 0 then v else V k)) → Hid (w.grownBy w' (some g)) → wpList Tryd.prog ops Q rest (a.put op.dst undef) w') : wpList Tryd.prog ops Q (op :: rest) a w :=
  wpList_put0 hgd ty x y ho N hx hy hs h1 h2 (Nat.succ_pos n) (h _ (Lib.hid (vset0 N.out v h2)) (Lib.hid (grownBy_setCell' _ _ _)))
end
theorem nrow_lt {B g n c : Nat} {w : World} {d : Array Nat} (N : NRow B w g n c d) : g < w.heap.size := by
  rcases N.typed with h | ⟨cur, h, _⟩
  · cases h
  · exact (Array.getElem?_eq_some_iff.mp h).1
theorem below3 (W : World) : Below W.heap.size W (W.drewN 3) := (((Below.refl _ W).drew).drew).drew
theorem below_at {W w2 : World} {sb B : Nat} (h : W.grownBy w2 (some sb)) (hB : B ≤ sb) (hs : sb ≤ W.heap.size) : Below B W w2 := ⟨h.os, h.tape, h.output, h.size, fun k hk => h.block k (by omega) (fun e => by injection e with e; omega)⟩
set_option maxHeartbeats 64000000 in
theorem brk64_any {w : World} {B g n c a b : Nat} {d : Array Nat} (N : Hid (NRow B w g n c d ∧ d.size = n)) (hab : a ≤ b) (hbn : b ≤ n) (hn : n ≤ 20000) : Calls Tryd.prog 101 #[.slice (some ⟨g, 0, none⟩) n c, .int .i64 (a : Int), .int .i64 (b : Int)] w fun e w' => e = .returned (.tuple #[]) ∧ (NRow B w' g n c (Go.Sort.breakPatterns d a b) ∧ (Go.Sort.breakPatterns d a b).size = n) ∧ Below B w w' := by
  obtain ⟨R, hR⟩ : ∃ R, R = Go.Sort.breakPatterns d a b := ⟨_, rfl⟩
  rw [← hR]
  obtain ⟨l, hl⟩ : ∃ l, l = b - a := ⟨_, rfl⟩
  have HB0 := Lib.hid (Below.refl B w)
  by_cases h8 : 8 ≤ l
  case neg =>
    have G8 := Lib.hid (show decide ((8 : Int) ≤ (l : Int)) = false from decide_eq_false (by omega))
    obtain rfl : R = d := by rw [hR]; unfold Go.Sort.breakPatterns; rw [← hl]; exact if_neg (by omega)
    have BI := Lib.hid (show a ≤ b ∧ b ≤ n ∧ n ≤ 20000 ∧ l = b - a from ⟨hab, hbn, hn, hl⟩)
    clear hab hbn hn hl h8 hR
    go_enter Tryd.func101, Tryd.ntmps101
    go_wp2_with (first | ((with_reducible refine wpList_at 13 rfl ?_); refine wpList_kn rfl (.int .i64 (l : Int)) (by exact exec_sub rfl rfl rfl (by have := BI.out; rw [IntKind.wrap_i64]; omega)) ?_) | ((with_reducible refine wpList_at 15 rfl ?_); refine wpList_kn rfl (.bool false) (by exact exec_geqN rfl rfl rfl G8.out) ?_))
    go_end0
    exact ⟨rfl, N.out, HB0.out⟩
  have G8 := Lib.hid (show decide ((8 : Int) ≤ (l : Int)) = true from decide_eq_true (by omega))
  obtain ⟨q, hq⟩ : ∃ q, q = l / 4 := ⟨_, rfl⟩
  obtain ⟨q2, hq2⟩ : ∃ x, x = q * 2 := ⟨_, rfl⟩
  obtain ⟨e, he⟩ : ∃ x, x = a + q2 := ⟨_, rfl⟩
  obtain ⟨e1, he1⟩ : ∃ x, x = e + 1 := ⟨_, rfl⟩
  obtain ⟨i0, hi0⟩ : ∃ x, x = e - 1 := ⟨_, rfl⟩
  obtain ⟨M, hM⟩ : ∃ M : Nat, M = 1 <<< Go.Sort.bitsLen l := ⟨_, rfl⟩
  have hMa : 1 ≤ M := by rw [hM, Nat.one_shiftLeft]; exact Nat.two_pow_pos _
  have hMb : M ≤ 2 * l := by rw [hM, Nat.one_shiftLeft]; exact Go.Sort.two_pow_bitsLen_le (by omega)
  obtain ⟨M1, hM1⟩ : ∃ x, x = M - 1 := ⟨_, rfl⟩
  have CN := Lib.hid (show ∀ W, Calls Tryd.prog 123 #[.int .i64 (l : Int)] W fun e w' => e = .returned (.int .u64 (M : Int)) ∧ w' = W by rw [hM]; exact fun W => npow_any l (by omega) W)
  have OUT0 := Lib.hid (show bpRest a l M i0 3 0 (UInt64.ofNat l, d) = R by
    rw [hR, show b = a + l by omega, breakPatterns_eq d a l h8, ← hM, ← hq, ← hq2, ← he, ← hi0])
  have BI := Lib.hid (show a ≤ b ∧ b ≤ n ∧ n ≤ 20000 ∧ l = b - a ∧ 8 ≤ l ∧ q = l / 4 ∧ q2 = q * 2 ∧ e = a + q2 ∧ e1 = e + 1 ∧ i0 = e - 1 ∧ 1 ≤ M ∧ M ≤ 2 * l ∧ M1 = M - 1 from ⟨hab, hbn, hn, hl, h8, hq, hq2, he, he1, hi0, hMa, hMb, hM1⟩)
  have HG := Lib.hid (nrow_lt N.out.1)
  have LO := Lib.hid N.out.1.low
  clear hab hbn hn hl h8 hq hq2 he he1 hi0 hM hMa hMb hM1 hR
  go_enter Tryd.func101, Tryd.ntmps101
  go_upto_region 5 with (first | ((with_reducible refine wpList_at 13 rfl ?_); refine wpList_kn rfl (.int .i64 (l : Int)) (by exact exec_sub rfl rfl rfl (by have := BI.out; rw [IntKind.wrap_i64]; omega)) ?_) | ((with_reducible refine wpList_at 15 rfl ?_); refine wpList_kn rfl (.bool true) (by exact exec_geqN rfl rfl rfl G8.out) ?_) | ((with_reducible refine wpList_at 17 rfl ?_); refine wpList_kn rfl (.int .u64 (l : Int)) (by exact exec_cvX rfl rfl (by have := BI.out; rw [IntKind.wrap_u64]; omega)) ?_) | ((with_reducible refine wpList_at 7 rfl ?_); with_reducible refine wpList_allocX rfl 168 rfl (v := .int .u64 0) (by kernel_rfl) rfl rfl fun sb w1 SB X HB => ?_; replace N := Lib.hid (And.intro (N.out.1.below HB.out) N.out.2)) | ((with_reducible refine wpList_atn rfl ?_); with_reducible refine wpList_putX (n := 0) (v := .int .u64 (l : Int)) rfl 168 (.tmp 7) (.tmp 17) rfl X rfl rfl (by kernel_rfl) rfl rfl fun w2 X2 HB2 => ?_) | (go_at_call 123; with_reducible refine (CN.out _).mono ?_; rintro e w7 ⟨rfl, rfl⟩) | ((with_reducible refine wpList_at 22 rfl ?_); refine wpList_kn rfl (.int .i64 (q : Int)) (by exact exec_quo (m := l) (q := 4) (z := q) rfl rfl rfl (by decide) (by have := BI.out; omega) (by have := BI.out; omega)) ?_) | ((with_reducible refine wpList_at 23 rfl ?_); refine wpList_kn rfl (.int .i64 (q2 : Int)) (by exact exec_mul rfl rfl rfl (by have := BI.out; rw [IntKind.wrap_i64]; omega)) ?_) | ((with_reducible refine wpList_at 24 rfl ?_); refine wpList_kn rfl (.int .i64 (e : Int)) (by exact exec_add rfl rfl rfl (by have := BI.out; rw [IntKind.wrap_i64]; omega)) ?_) | ((with_reducible refine wpList_at 25 rfl ?_); refine wpList_kn rfl (.int .i64 (i0 : Int)) (by exact exec_sub rfl rfl rfl (by have := BI.out; rw [IntKind.wrap_i64]; omega)) ?_))
  have NE := Lib.hid (show some g ≠ some sb from fun h => by injection h with h; have := SB.out; have := HG.out; omega)
  replace N := Lib.hid (And.intro (N.out.1.kept HB2.out (.inr fun h => NE.out h.symm)) N.out.2)
  replace HB := Lib.hid (BX.mk ((HB.out.mono LO.out).trans (below_at HB2.out (by have := SB.out; have := LO.out; omega) (by have := SB.out; have := HB.out.size; omega))) ((X2.out).to fun k hk => by rw [if_pos (by omega)]) NE.out (by have := SB.out; have := LO.out; omega) : BX B w sb g l _)
  clear X2 HB2 SB HG LO HB0
  go_loopg [9] 3 (fun k s9 wr => ∃ (t : Nat) (r : UInt64) (d2 : Array Nat) (ix : Nat), 3 - t = k ∧ t ≤ 3 ∧ ix = i0 + t ∧ s9 = .int .i64 (ix : Int) ∧ Hid (NRow B wr g n c d2 ∧ d2.size = n) ∧ Hid (bpRest a l M i0 (3 - t) t (r, d2) = R) ∧ Hid (BX B w sb g r.toNat wr))
  case atStart => exact ⟨0, UInt64.ofNat l, d, i0, rfl, by omega, rfl, rfl, N, OUT0, by rw [show (UInt64.ofNat l).toNat = l from by have := BI.out; simp; omega]; exact HB⟩
  case round =>
    clear N OUT0 HB
    obtain ⟨t, r, d2, ix, hk, ht, hix, rfl, N, REL, HB⟩ := hrel
    obtain ⟨D, hD⟩ : ∃ D, D = wr := ⟨_, rfl⟩
    subst hD
    have KH := Lib.hid hk
    by_cases ht3 : t = 3
    · have LE := Lib.hid (show decide ((ix : Int) ≤ (e1 : Int)) = false from decide_eq_false (by have := BI.out; omega))
      obtain rfl : d2 = R := by rw [← REL.out, ht3]; rfl
      clear REL hk ht hix ht3
      go_wp2_with (first | ((with_reducible refine wpList_at 29 rfl ?_); refine wpList_kn rfl (.int .i64 (q : Int)) (by exact exec_quo (m := l) (q := 4) (z := q) rfl rfl rfl (by decide) (by have := BI.out; omega) (by have := BI.out; omega)) ?_) | ((with_reducible refine wpList_at 30 rfl ?_); refine wpList_kn rfl (.int .i64 (q2 : Int)) (by exact exec_mul rfl rfl rfl (by have := BI.out; rw [IntKind.wrap_i64]; omega)) ?_) | ((with_reducible refine wpList_at 31 rfl ?_); refine wpList_kn rfl (.int .i64 (e : Int)) (by exact exec_add rfl rfl rfl (by have := BI.out; rw [IntKind.wrap_i64]; omega)) ?_) | ((with_reducible refine wpList_at 32 rfl ?_); refine wpList_kn rfl (.int .i64 (e1 : Int)) (by exact exec_add rfl rfl rfl (by have := BI.out; rw [IntKind.wrap_i64]; omega)) ?_) | ((with_reducible refine wpList_at 33 rfl ?_); refine wpList_kn rfl (.bool false) (by exact exec_leqN rfl rfl rfl LE.out) ?_))
      go_end0
      exact ⟨rfl, N.out, HB.out.below⟩
    have LE := Lib.hid (show decide ((ix : Int) ≤ (e1 : Int)) = true from decide_eq_true (by have := BI.out; omega))
    obtain ⟨rn, hrn⟩ : ∃ rn : Nat, rn = r.toNat := ⟨_, rfl⟩
    have lr : rn < 18446744073709551616 := by rw [hrn]; exact r.toNat_lt
    obtain ⟨r2, hr2⟩ : ∃ x : Nat, x = Go.Sort.xorNextN rn := ⟨_, rfl⟩
    have lr2 : r2 < 18446744073709551616 := by rw [hr2]; exact Go.Sort.xorNextN_lt rn lr
    have er2 : (Go.Sort.xorNext r).toNat = r2 := by rw [hr2, hrn, Go.Sort.xorNext_toNat]
    obtain ⟨O, hO⟩ : ∃ O : Nat, O = r2 &&& M1 := ⟨_, rfl⟩
    have lO : O ≤ M1 := by rw [hO]; exact Nat.and_le_right
    have EA := Lib.hid (show bits .and .u64 (r2 : Int) (M1 : Int) = (O : Int) by rw [bits_and_u64_nat _ _ lr2 (by have := BI.out; omega), hO])
    obtain ⟨ix1, hix1⟩ : ∃ x, x = ix + 1 := ⟨_, rfl⟩
    rw [← hrn] at HB
    have CX := Lib.hid (show ∀ W, BX B w sb g rn W → (NRow B W g n c d2 ∧ d2.size = n) → Calls Tryd.prog 124 #[.pointer (some ⟨sb, 0, none⟩)] W fun e w' => e = .returned (.int .u64 (r2 : Int)) ∧ (NRow B w' g n c d2 ∧ d2.size = n) ∧ BX B w sb g r2 w' from fun W h hN => by
      obtain ⟨_, _, hf⟩ := vput h.box (Nat.zero_lt_one) (v := .int .u64 0) rfl
      refine (next_any sb rn lr W (cell_v0 (Lib.hid h.box) (by decide)) hf).mono ?_
      rintro e w7 ⟨rfl, rfl⟩
      rw [← hr2]
      have hg : W.grownBy (W.setCell ⟨sb, 0, none⟩ (.int .u64 (r2 : Int))) (some sb) := grownBy_setCell' _ _ _
      have hb := below3 (W.setCell ⟨sb, 0, none⟩ (.int .u64 (r2 : Int)))
      refine ⟨rfl, ⟨(hN.1.kept hg (.inr fun q => h.ne q.symm)).below hb, hN.2⟩, (h.below.trans (below_at hg h.low h.box.low)).trans (hb.mono (Nat.le_trans h.low (Nat.le_trans h.box.low hg.size))), ?_, h.ne, h.low⟩
      exact VOwn.below ((vset0 (n := 0) h.box (.int .u64 (r2 : Int)) rfl).to fun k hk => by rw [if_pos (by omega)]) hb)
    by_cases hge : l ≤ O
    · obtain ⟨o, ho⟩ : ∃ o, o = O - l := ⟨_, rfl⟩
      have GE := Lib.hid (show decide ((l : Int) ≤ (O : Int)) = true from decide_eq_true (by omega))
      have REL2 := Lib.hid (show bpRest a l M i0 (3 - (t + 1)) (t + 1) (Go.Sort.xorNext r, Go.Sort.swp d2 ix (a + o)) = R by
        rw [← REL.out, hix]; exact (bp_step a l M i0 t r d2 o (by omega) (by rw [er2, ← show M1 = M - 1 by have := BI.out; omega, ← hO, if_pos hge, ho])).symm)
      have BO := Lib.hid (show O ≤ M1 ∧ M1 < 100000 ∧ l ≤ O ∧ o = O - l by have := BI.out; omega)
      have BND := Lib.hid (show ix < n ∧ a + o < n ∧ n ≤ 20000 ∧ ix1 = ix + 1 ∧ t < 3 ∧ ix = i0 + t by have := BI.out; omega)
      have ER := Lib.hid er2
      clear er2
      clear REL hk ht hix ht3 hrn lr hr2 lr2 hO lO hix1 hge ho
      go_upto_region 10 with (first | ((with_reducible refine wpList_at 29 rfl ?_); refine wpList_kn rfl (.int .i64 (q : Int)) (by exact exec_quo (m := l) (q := 4) (z := q) rfl rfl rfl (by decide) (by have := BI.out; omega) (by have := BI.out; omega)) ?_) | ((with_reducible refine wpList_at 30 rfl ?_); refine wpList_kn rfl (.int .i64 (q2 : Int)) (by exact exec_mul rfl rfl rfl (by have := BI.out; rw [IntKind.wrap_i64]; omega)) ?_) | ((with_reducible refine wpList_at 31 rfl ?_); refine wpList_kn rfl (.int .i64 (e : Int)) (by exact exec_add rfl rfl rfl (by have := BI.out; rw [IntKind.wrap_i64]; omega)) ?_) | ((with_reducible refine wpList_at 32 rfl ?_); refine wpList_kn rfl (.int .i64 (e1 : Int)) (by exact exec_add rfl rfl rfl (by have := BI.out; rw [IntKind.wrap_i64]; omega)) ?_) | ((with_reducible refine wpList_at 33 rfl ?_); refine wpList_kn rfl (.bool true) (by exact exec_leqN rfl rfl rfl LE.out) ?_) | (go_at_call 124; with_reducible refine (CX.out _ HB.out N.out).mono ?_; rintro e w7 ⟨rfl, hN, hX⟩; clear N HB; have N := Lib.hid hN; have HB := Lib.hid hX; clear hN hX) | ((with_reducible refine wpList_at 38 rfl ?_); refine wpList_kn rfl (.int .u64 (M1 : Int)) (by exact exec_subU rfl rfl rfl (by have := BI.out; rw [IntKind.wrap_u64]; omega)) ?_) | ((with_reducible refine wpList_at 39 rfl ?_); refine wpList_kn rfl (.int .u64 (O : Int)) (by exact exec_andU rfl rfl rfl EA.out) ?_) | ((with_reducible refine wpList_at 40 rfl ?_); refine wpList_kn rfl (.int .i64 (O : Int)) (by exact exec_cvU rfl rfl (by have := BO.out; rw [IntKind.wrap_i64]; omega)) ?_) | ((with_reducible refine wpList_at 43 rfl ?_); refine wpList_kn rfl (.bool true) (by exact exec_geqN rfl rfl rfl GE.out) ?_) | ((with_reducible refine wpList_at 46 rfl ?_); refine wpList_kn rfl (.int .i64 (o : Int)) (by exact exec_sub rfl rfl rfl (by have := BO.out; rw [IntKind.wrap_i64]; omega)) ?_))
      refine wp_region_T (Φ := fun X => (NRow B X g n c d2 ∧ d2.size = n) ∧ BX B w sb g r2 X) (S := fun _ => True) (Lib.hid ⟨N.out, HB.out⟩) (fun X h => ⟨⟨h.1.1.below ((Below.refl _ _).drew), h.1.2⟩, h.2.drew⟩) (fun _ _ => trivial) (by kernel_rfl) ?_
      clear N HB
      intro wx TT S0
      have N := Lib.hid TT.out.1
      have HB := Lib.hid TT.out.2
      clear TT
      refine hm_run 0 47 (.slice (some ⟨g, 0, none⟩) n c) rfl rfl (by kernel_rfl) (by kernel_rfl) (by kernel_rfl) (fun _ _ _ h => h) rfl (fun _ _ => rfl) trivial ?_
      try simp only [Act.put, lqA, lqB, lqC, lqD, lqE, lqF]
      refine hm_run 1 48 (.int .i64 ((ix : Nat) : Int)) rfl rfl (by kernel_rfl) (by kernel_rfl) (by kernel_rfl) (fun _ _ _ h => h) rfl (fun _ _ => rfl) trivial ?_
      try simp only [Act.put, lqA, lqB, lqC, lqD, lqE, lqF]
      refine hm_run 2 49 (.slice (some ⟨g, 0, none⟩) n c) rfl rfl (by kernel_rfl) (by kernel_rfl) (by kernel_rfl) (fun _ _ _ h => h) rfl (fun _ _ => rfl) trivial ?_
      try simp only [Act.put, lqA, lqB, lqC, lqD, lqE, lqF]
      refine hm_run 3 50 (.int .i64 ((a : Nat) : Int)) rfl rfl (by kernel_rfl) (by kernel_rfl) (by kernel_rfl) (fun _ _ _ h => h) rfl (fun _ _ => rfl) trivial ?_
      try simp only [Act.put, lqA, lqB, lqC, lqD, lqE, lqF]
      refine hm_run 4 51 (.int .i64 ((o : Nat) : Int)) rfl rfl (by kernel_rfl) (by kernel_rfl) (by kernel_rfl) (fun _ _ _ h => h) rfl (fun _ _ => rfl) trivial ?_
      try simp only [Act.put, lqA, lqB, lqC, lqD, lqE, lqF]
      refine hm_run 5 52 (.int .i64 ((a + o : Nat) : Int)) rfl rfl (by kernel_rfl) (by kernel_rfl) (by kernel_rfl) (fun _ _ _ h => h) rfl (fun _ _ => exec_add rfl rfl rfl (by have := BND.out; rw [IntKind.wrap_i64]; omega)) trivial ?_
      try simp only [Act.put, lqA, lqB, lqC, lqD, lqE, lqF]
      refine hm_run 6 53 (.slice (some ⟨g, 0, none⟩) n c) rfl rfl (by kernel_rfl) (by kernel_rfl) (by kernel_rfl) (fun _ _ _ h => h) rfl (fun _ _ => rfl) trivial ?_
      try simp only [Act.put, lqA, lqB, lqC, lqD, lqE, lqF]
      refine hm_run 7 54 (.int .i64 ((a : Nat) : Int)) rfl rfl (by kernel_rfl) (by kernel_rfl) (by kernel_rfl) (fun _ _ _ h => h) rfl (fun _ _ => rfl) trivial ?_
      try simp only [Act.put, lqA, lqB, lqC, lqD, lqE, lqF]
      refine hm_run 8 55 (.int .i64 ((o : Nat) : Int)) rfl rfl (by kernel_rfl) (by kernel_rfl) (by kernel_rfl) (fun _ _ _ h => h) rfl (fun _ _ => rfl) trivial ?_
      try simp only [Act.put, lqA, lqB, lqC, lqD, lqE, lqF]
      refine hm_run 9 56 (.int .i64 ((a + o : Nat) : Int)) rfl rfl (by kernel_rfl) (by kernel_rfl) (by kernel_rfl) (fun _ _ _ h => h) rfl (fun _ _ => exec_add rfl rfl rfl (by have := BND.out; rw [IntKind.wrap_i64]; omega)) trivial ?_
      try simp only [Act.put, lqA, lqB, lqC, lqD, lqE, lqF]
      refine hm_run 10 57 (.pointer (some ⟨g, 0 + (a + o) * 1, none⟩)) rfl rfl (by kernel_rfl) (by kernel_rfl) (by kernel_rfl) (fun _ _ _ h => h) rfl (fun W _ => exec_ix rfl (run_ix (k := 1) (j := a + o) Tryd.underlying54 (by kernel_rfl) (by have := BND.out; omega) rfl W)) trivial ?_
      try simp only [Act.put, lqA, lqB, lqC, lqD, lqE, lqF]
      refine hm_run 12 59 (.slice (some ⟨g, 0, none⟩) n c) rfl rfl (by kernel_rfl) (by kernel_rfl) (by kernel_rfl) (fun _ _ _ h => h) rfl (fun _ _ => rfl) trivial ?_
      try simp only [Act.put, lqA, lqB, lqC, lqD, lqE, lqF]
      refine hm_run 13 60 (.int .i64 ((ix : Nat) : Int)) rfl rfl (by kernel_rfl) (by kernel_rfl) (by kernel_rfl) (fun _ _ _ h => h) rfl (fun _ _ => rfl) trivial ?_
      try simp only [Act.put, lqA, lqB, lqC, lqD, lqE, lqF]
      refine hm_run 14 61 (.pointer (some ⟨g, 0 + (ix) * 1, none⟩)) rfl rfl (by kernel_rfl) (by kernel_rfl) (by kernel_rfl) (fun _ _ _ h => h) rfl (fun W _ => exec_ix rfl (run_ix (k := 1) (j := ix) Tryd.underlying54 (by kernel_rfl) (by have := BND.out; omega) rfl W)) trivial ?_
      try simp only [Act.put, lqA, lqB, lqC, lqD, lqE, lqF]
      refine hm_two (i := 11) (j := 15) (by kernel_rfl) ?_ ?_
      · refine hm_step 11 rfl (by kernel_rfl) fun K hK => ?_
        try simp only [Act.put, lqA, lqB, lqC, lqD, lqE, lqF]
        refine mo_known (.int .u64 ((d2[a + o]! : Nat) : Int)) _ (exec_load rfl (run_load_one Tryd.underlying59 rfl (cell_dn N (by have := BND.out; omega)))) ?_
        refine hK _ _ trivial ?_
        clear hK K
        try simp only [Act.put, lqA, lqB, lqC, lqD, lqE, lqF]
        refine hm_one (i := 15) (by kernel_rfl) ?_
        refine hm_step 15 rfl (by kernel_rfl) fun K hK => ?_
        try simp only [Act.put, lqA, lqB, lqC, lqD, lqE, lqF]
        refine mo_known (.int .u64 ((d2[ix]! : Nat) : Int)) _ (exec_load rfl (run_load_one Tryd.underlying59 rfl (cell_dn N (by have := BND.out; omega)))) ?_
        refine hK _ _ trivial ?_
        clear hK K
        try simp only [Act.put, lqA, lqB, lqC, lqD, lqE, lqF]
        refine hm_run 16 63 (.pointer (some ⟨g, 0 + (ix) * 1, none⟩)) rfl rfl (by kernel_rfl) (by kernel_rfl) (by kernel_rfl) (fun _ _ _ h => h) rfl (fun W _ => exec_ix rfl (run_ix (k := 1) (j := ix) Tryd.underlying54 (by kernel_rfl) (by have := BND.out; omega) rfl W)) trivial ?_
        try simp only [Act.put, lqA, lqB, lqC, lqD, lqE, lqF]
        refine hm_one (i := 17) (by kernel_rfl) ?_
        refine hm_step 17 rfl (by kernel_rfl) fun K hK => ?_
        try simp only [Act.put, lqA, lqB, lqC, lqD, lqE, lqF]
        refine mo_vputG (i := ix) (v := d2[a + o]!) (.tmp 63) (.tmp 58) rfl N rfl rfl (by have := BND.out; omega) ?_
        clear N
        intro w9 N hb9
        replace HB := Lib.hid (HB.out.trans hb9.out)
        clear hb9
        refine hK _ _ trivial ?_
        clear hK K
        try simp only [Act.put, lqA, lqB, lqC, lqD, lqE, lqF]
        refine hm_run 18 64 (.pointer (some ⟨g, 0 + (a + o) * 1, none⟩)) rfl rfl (by kernel_rfl) (by kernel_rfl) (by kernel_rfl) (fun _ _ _ h => h) rfl (fun W _ => exec_ix rfl (run_ix (k := 1) (j := a + o) Tryd.underlying54 (by kernel_rfl) (by have := BND.out; omega) rfl W)) trivial ?_
        try simp only [Act.put, lqA, lqB, lqC, lqD, lqE, lqF]
        refine hm_one (i := 19) (by kernel_rfl) ?_
        refine hm_step 19 rfl (by kernel_rfl) fun K hK => ?_
        try simp only [Act.put, lqA, lqB, lqC, lqD, lqE, lqF]
        refine mo_vputG (i := a + o) (v := d2[ix]!) (.tmp 64) (.tmp 62) rfl N rfl rfl (by have := BND.out; omega) ?_
        clear N
        intro w9 N hb9
        replace HB := Lib.hid (HB.out.trans hb9.out)
        clear hb9
        refine hK _ _ trivial ?_
        clear hK K
        try simp only [Act.put, lqA, lqB, lqC, lqD, lqE, lqF]
        refine wpAnyH_done (by kernel_rfl) ?_ _
        go_wp2_with ((with_reducible refine wpList_at 35 rfl ?_); refine wpList_kn rfl (.int .i64 (ix1 : Int)) (by exact exec_add rfl rfl rfl (by have := BND.out; rw [IntKind.wrap_i64]; omega)) ?_)
        go_roundg (3 - (t + 1))
        case measure => have := BND.out; have := KH.out; omega
        case rel => exact ⟨t + 1, Go.Sort.xorNext r, ((d2.setIfInBounds (ix) d2[a + o]!).setIfInBounds (a + o) d2[ix]!), ix1, rfl, by have := BND.out; omega, by have := BND.out; omega, rfl, N, REL2, by rw [ER.out]; exact HB⟩
      · refine hm_step 15 rfl (by kernel_rfl) fun K hK => ?_
        try simp only [Act.put, lqA, lqB, lqC, lqD, lqE, lqF]
        refine mo_known (.int .u64 ((d2[ix]! : Nat) : Int)) _ (exec_load rfl (run_load_one Tryd.underlying59 rfl (cell_dn N (by have := BND.out; omega)))) ?_
        refine hK _ _ trivial ?_
        clear hK K
        try simp only [Act.put, lqA, lqB, lqC, lqD, lqE, lqF]
        refine hm_one (i := 11) (by kernel_rfl) ?_
        refine hm_step 11 rfl (by kernel_rfl) fun K hK => ?_
        try simp only [Act.put, lqA, lqB, lqC, lqD, lqE, lqF]
        refine mo_known (.int .u64 ((d2[a + o]! : Nat) : Int)) _ (exec_load rfl (run_load_one Tryd.underlying59 rfl (cell_dn N (by have := BND.out; omega)))) ?_
        refine hK _ _ trivial ?_
        clear hK K
        try simp only [Act.put, lqA, lqB, lqC, lqD, lqE, lqF]
        refine hm_run 16 63 (.pointer (some ⟨g, 0 + (ix) * 1, none⟩)) rfl rfl (by kernel_rfl) (by kernel_rfl) (by kernel_rfl) (fun _ _ _ h => h) rfl (fun W _ => exec_ix rfl (run_ix (k := 1) (j := ix) Tryd.underlying54 (by kernel_rfl) (by have := BND.out; omega) rfl W)) trivial ?_
        try simp only [Act.put, lqA, lqB, lqC, lqD, lqE, lqF]
        refine hm_one (i := 17) (by kernel_rfl) ?_
        refine hm_step 17 rfl (by kernel_rfl) fun K hK => ?_
        try simp only [Act.put, lqA, lqB, lqC, lqD, lqE, lqF]
        refine mo_vputG (i := ix) (v := d2[a + o]!) (.tmp 63) (.tmp 58) rfl N rfl rfl (by have := BND.out; omega) ?_
        clear N
        intro w9 N hb9
        replace HB := Lib.hid (HB.out.trans hb9.out)
        clear hb9
        refine hK _ _ trivial ?_
        clear hK K
        try simp only [Act.put, lqA, lqB, lqC, lqD, lqE, lqF]
        refine hm_run 18 64 (.pointer (some ⟨g, 0 + (a + o) * 1, none⟩)) rfl rfl (by kernel_rfl) (by kernel_rfl) (by kernel_rfl) (fun _ _ _ h => h) rfl (fun W _ => exec_ix rfl (run_ix (k := 1) (j := a + o) Tryd.underlying54 (by kernel_rfl) (by have := BND.out; omega) rfl W)) trivial ?_
        try simp only [Act.put, lqA, lqB, lqC, lqD, lqE, lqF]
        refine hm_one (i := 19) (by kernel_rfl) ?_
        refine hm_step 19 rfl (by kernel_rfl) fun K hK => ?_
        try simp only [Act.put, lqA, lqB, lqC, lqD, lqE, lqF]
        refine mo_vputG (i := a + o) (v := d2[ix]!) (.tmp 64) (.tmp 62) rfl N rfl rfl (by have := BND.out; omega) ?_
        clear N
        intro w9 N hb9
        replace HB := Lib.hid (HB.out.trans hb9.out)
        clear hb9
        refine hK _ _ trivial ?_
        clear hK K
        try simp only [Act.put, lqA, lqB, lqC, lqD, lqE, lqF]
        refine wpAnyH_done (by kernel_rfl) ?_ _
        go_wp2_with ((with_reducible refine wpList_at 35 rfl ?_); refine wpList_kn rfl (.int .i64 (ix1 : Int)) (by exact exec_add rfl rfl rfl (by have := BND.out; rw [IntKind.wrap_i64]; omega)) ?_)
        go_roundg (3 - (t + 1))
        case measure => have := BND.out; have := KH.out; omega
        case rel => exact ⟨t + 1, Go.Sort.xorNext r, ((d2.setIfInBounds (ix) d2[a + o]!).setIfInBounds (a + o) d2[ix]!), ix1, rfl, by have := BND.out; omega, by have := BND.out; omega, rfl, N, REL2, by rw [ER.out]; exact HB⟩
    · obtain ⟨o, ho⟩ : ∃ o, o = O := ⟨_, rfl⟩
      subst ho
      have GE := Lib.hid (show decide ((l : Int) ≤ (o : Int)) = false from decide_eq_false (by omega))
      have REL2 := Lib.hid (show bpRest a l M i0 (3 - (t + 1)) (t + 1) (Go.Sort.xorNext r, Go.Sort.swp d2 ix (a + o)) = R by
        rw [← REL.out, hix]; exact (bp_step a l M i0 t r d2 o (by omega) (by rw [er2, ← show M1 = M - 1 by have := BI.out; omega, ← hO, if_neg hge])).symm)
      have BO := Lib.hid (show o ≤ M1 ∧ M1 < 100000 by have := BI.out; omega)
      have BND := Lib.hid (show ix < n ∧ a + o < n ∧ n ≤ 20000 ∧ ix1 = ix + 1 ∧ t < 3 ∧ ix = i0 + t by have := BI.out; omega)
      have ER := Lib.hid er2
      clear er2
      clear REL hk ht hix ht3 hrn lr hr2 lr2 hO lO hix1 hge
      go_upto_region 10 with (first | ((with_reducible refine wpList_at 29 rfl ?_); refine wpList_kn rfl (.int .i64 (q : Int)) (by exact exec_quo (m := l) (q := 4) (z := q) rfl rfl rfl (by decide) (by have := BI.out; omega) (by have := BI.out; omega)) ?_) | ((with_reducible refine wpList_at 30 rfl ?_); refine wpList_kn rfl (.int .i64 (q2 : Int)) (by exact exec_mul rfl rfl rfl (by have := BI.out; rw [IntKind.wrap_i64]; omega)) ?_) | ((with_reducible refine wpList_at 31 rfl ?_); refine wpList_kn rfl (.int .i64 (e : Int)) (by exact exec_add rfl rfl rfl (by have := BI.out; rw [IntKind.wrap_i64]; omega)) ?_) | ((with_reducible refine wpList_at 32 rfl ?_); refine wpList_kn rfl (.int .i64 (e1 : Int)) (by exact exec_add rfl rfl rfl (by have := BI.out; rw [IntKind.wrap_i64]; omega)) ?_) | ((with_reducible refine wpList_at 33 rfl ?_); refine wpList_kn rfl (.bool true) (by exact exec_leqN rfl rfl rfl LE.out) ?_) | (go_at_call 124; with_reducible refine (CX.out _ HB.out N.out).mono ?_; rintro e w7 ⟨rfl, hN, hX⟩; clear N HB; have N := Lib.hid hN; have HB := Lib.hid hX; clear hN hX) | ((with_reducible refine wpList_at 38 rfl ?_); refine wpList_kn rfl (.int .u64 (M1 : Int)) (by exact exec_subU rfl rfl rfl (by have := BI.out; rw [IntKind.wrap_u64]; omega)) ?_) | ((with_reducible refine wpList_at 39 rfl ?_); refine wpList_kn rfl (.int .u64 (o : Int)) (by exact exec_andU rfl rfl rfl EA.out) ?_) | ((with_reducible refine wpList_at 40 rfl ?_); refine wpList_kn rfl (.int .i64 (o : Int)) (by exact exec_cvU rfl rfl (by have := BO.out; rw [IntKind.wrap_i64]; omega)) ?_) | ((with_reducible refine wpList_at 43 rfl ?_); refine wpList_kn rfl (.bool false) (by exact exec_geqN rfl rfl rfl GE.out) ?_))
      refine wp_region_T (Φ := fun X => (NRow B X g n c d2 ∧ d2.size = n) ∧ BX B w sb g r2 X) (S := fun _ => True) (Lib.hid ⟨N.out, HB.out⟩) (fun X h => ⟨⟨h.1.1.below ((Below.refl _ _).drew), h.1.2⟩, h.2.drew⟩) (fun _ _ => trivial) (by kernel_rfl) ?_
      clear N HB
      intro wx TT S0
      have N := Lib.hid TT.out.1
      have HB := Lib.hid TT.out.2
      clear TT
      refine hm_run 0 47 (.slice (some ⟨g, 0, none⟩) n c) rfl rfl (by kernel_rfl) (by kernel_rfl) (by kernel_rfl) (fun _ _ _ h => h) rfl (fun _ _ => rfl) trivial ?_
      try simp only [Act.put, lqA, lqB, lqC, lqD, lqE, lqF]
      refine hm_run 1 48 (.int .i64 ((ix : Nat) : Int)) rfl rfl (by kernel_rfl) (by kernel_rfl) (by kernel_rfl) (fun _ _ _ h => h) rfl (fun _ _ => rfl) trivial ?_
      try simp only [Act.put, lqA, lqB, lqC, lqD, lqE, lqF]
      refine hm_run 2 49 (.slice (some ⟨g, 0, none⟩) n c) rfl rfl (by kernel_rfl) (by kernel_rfl) (by kernel_rfl) (fun _ _ _ h => h) rfl (fun _ _ => rfl) trivial ?_
      try simp only [Act.put, lqA, lqB, lqC, lqD, lqE, lqF]
      refine hm_run 3 50 (.int .i64 ((a : Nat) : Int)) rfl rfl (by kernel_rfl) (by kernel_rfl) (by kernel_rfl) (fun _ _ _ h => h) rfl (fun _ _ => rfl) trivial ?_
      try simp only [Act.put, lqA, lqB, lqC, lqD, lqE, lqF]
      refine hm_run 4 51 (.int .i64 ((o : Nat) : Int)) rfl rfl (by kernel_rfl) (by kernel_rfl) (by kernel_rfl) (fun _ _ _ h => h) rfl (fun _ _ => rfl) trivial ?_
      try simp only [Act.put, lqA, lqB, lqC, lqD, lqE, lqF]
      refine hm_run 5 52 (.int .i64 ((a + o : Nat) : Int)) rfl rfl (by kernel_rfl) (by kernel_rfl) (by kernel_rfl) (fun _ _ _ h => h) rfl (fun _ _ => exec_add rfl rfl rfl (by have := BND.out; rw [IntKind.wrap_i64]; omega)) trivial ?_
      try simp only [Act.put, lqA, lqB, lqC, lqD, lqE, lqF]
      refine hm_run 6 53 (.slice (some ⟨g, 0, none⟩) n c) rfl rfl (by kernel_rfl) (by kernel_rfl) (by kernel_rfl) (fun _ _ _ h => h) rfl (fun _ _ => rfl) trivial ?_
      try simp only [Act.put, lqA, lqB, lqC, lqD, lqE, lqF]
      refine hm_run 7 54 (.int .i64 ((a : Nat) : Int)) rfl rfl (by kernel_rfl) (by kernel_rfl) (by kernel_rfl) (fun _ _ _ h => h) rfl (fun _ _ => rfl) trivial ?_
      try simp only [Act.put, lqA, lqB, lqC, lqD, lqE, lqF]
      refine hm_run 8 55 (.int .i64 ((o : Nat) : Int)) rfl rfl (by kernel_rfl) (by kernel_rfl) (by kernel_rfl) (fun _ _ _ h => h) rfl (fun _ _ => rfl) trivial ?_
      try simp only [Act.put, lqA, lqB, lqC, lqD, lqE, lqF]
      refine hm_run 9 56 (.int .i64 ((a + o : Nat) : Int)) rfl rfl (by kernel_rfl) (by kernel_rfl) (by kernel_rfl) (fun _ _ _ h => h) rfl (fun _ _ => exec_add rfl rfl rfl (by have := BND.out; rw [IntKind.wrap_i64]; omega)) trivial ?_
      try simp only [Act.put, lqA, lqB, lqC, lqD, lqE, lqF]
      refine hm_run 10 57 (.pointer (some ⟨g, 0 + (a + o) * 1, none⟩)) rfl rfl (by kernel_rfl) (by kernel_rfl) (by kernel_rfl) (fun _ _ _ h => h) rfl (fun W _ => exec_ix rfl (run_ix (k := 1) (j := a + o) Tryd.underlying54 (by kernel_rfl) (by have := BND.out; omega) rfl W)) trivial ?_
      try simp only [Act.put, lqA, lqB, lqC, lqD, lqE, lqF]
      refine hm_run 12 59 (.slice (some ⟨g, 0, none⟩) n c) rfl rfl (by kernel_rfl) (by kernel_rfl) (by kernel_rfl) (fun _ _ _ h => h) rfl (fun _ _ => rfl) trivial ?_
      try simp only [Act.put, lqA, lqB, lqC, lqD, lqE, lqF]
      refine hm_run 13 60 (.int .i64 ((ix : Nat) : Int)) rfl rfl (by kernel_rfl) (by kernel_rfl) (by kernel_rfl) (fun _ _ _ h => h) rfl (fun _ _ => rfl) trivial ?_
      try simp only [Act.put, lqA, lqB, lqC, lqD, lqE, lqF]
      refine hm_run 14 61 (.pointer (some ⟨g, 0 + (ix) * 1, none⟩)) rfl rfl (by kernel_rfl) (by kernel_rfl) (by kernel_rfl) (fun _ _ _ h => h) rfl (fun W _ => exec_ix rfl (run_ix (k := 1) (j := ix) Tryd.underlying54 (by kernel_rfl) (by have := BND.out; omega) rfl W)) trivial ?_
      try simp only [Act.put, lqA, lqB, lqC, lqD, lqE, lqF]
      refine hm_two (i := 11) (j := 15) (by kernel_rfl) ?_ ?_
      · refine hm_step 11 rfl (by kernel_rfl) fun K hK => ?_
        try simp only [Act.put, lqA, lqB, lqC, lqD, lqE, lqF]
        refine mo_known (.int .u64 ((d2[a + o]! : Nat) : Int)) _ (exec_load rfl (run_load_one Tryd.underlying59 rfl (cell_dn N (by have := BND.out; omega)))) ?_
        refine hK _ _ trivial ?_
        clear hK K
        try simp only [Act.put, lqA, lqB, lqC, lqD, lqE, lqF]
        refine hm_one (i := 15) (by kernel_rfl) ?_
        refine hm_step 15 rfl (by kernel_rfl) fun K hK => ?_
        try simp only [Act.put, lqA, lqB, lqC, lqD, lqE, lqF]
        refine mo_known (.int .u64 ((d2[ix]! : Nat) : Int)) _ (exec_load rfl (run_load_one Tryd.underlying59 rfl (cell_dn N (by have := BND.out; omega)))) ?_
        refine hK _ _ trivial ?_
        clear hK K
        try simp only [Act.put, lqA, lqB, lqC, lqD, lqE, lqF]
        refine hm_run 16 63 (.pointer (some ⟨g, 0 + (ix) * 1, none⟩)) rfl rfl (by kernel_rfl) (by kernel_rfl) (by kernel_rfl) (fun _ _ _ h => h) rfl (fun W _ => exec_ix rfl (run_ix (k := 1) (j := ix) Tryd.underlying54 (by kernel_rfl) (by have := BND.out; omega) rfl W)) trivial ?_
        try simp only [Act.put, lqA, lqB, lqC, lqD, lqE, lqF]
        refine hm_one (i := 17) (by kernel_rfl) ?_
        refine hm_step 17 rfl (by kernel_rfl) fun K hK => ?_
        try simp only [Act.put, lqA, lqB, lqC, lqD, lqE, lqF]
        refine mo_vputG (i := ix) (v := d2[a + o]!) (.tmp 63) (.tmp 58) rfl N rfl rfl (by have := BND.out; omega) ?_
        clear N
        intro w9 N hb9
        replace HB := Lib.hid (HB.out.trans hb9.out)
        clear hb9
        refine hK _ _ trivial ?_
        clear hK K
        try simp only [Act.put, lqA, lqB, lqC, lqD, lqE, lqF]
        refine hm_run 18 64 (.pointer (some ⟨g, 0 + (a + o) * 1, none⟩)) rfl rfl (by kernel_rfl) (by kernel_rfl) (by kernel_rfl) (fun _ _ _ h => h) rfl (fun W _ => exec_ix rfl (run_ix (k := 1) (j := a + o) Tryd.underlying54 (by kernel_rfl) (by have := BND.out; omega) rfl W)) trivial ?_
        try simp only [Act.put, lqA, lqB, lqC, lqD, lqE, lqF]
        refine hm_one (i := 19) (by kernel_rfl) ?_
        refine hm_step 19 rfl (by kernel_rfl) fun K hK => ?_
        try simp only [Act.put, lqA, lqB, lqC, lqD, lqE, lqF]
        refine mo_vputG (i := a + o) (v := d2[ix]!) (.tmp 64) (.tmp 62) rfl N rfl rfl (by have := BND.out; omega) ?_
        clear N
        intro w9 N hb9
        replace HB := Lib.hid (HB.out.trans hb9.out)
        clear hb9
        refine hK _ _ trivial ?_
        clear hK K
        try simp only [Act.put, lqA, lqB, lqC, lqD, lqE, lqF]
        refine wpAnyH_done (by kernel_rfl) ?_ _
        go_wp2_with ((with_reducible refine wpList_at 35 rfl ?_); refine wpList_kn rfl (.int .i64 (ix1 : Int)) (by exact exec_add rfl rfl rfl (by have := BND.out; rw [IntKind.wrap_i64]; omega)) ?_)
        go_roundg (3 - (t + 1))
        case measure => have := BND.out; have := KH.out; omega
        case rel => exact ⟨t + 1, Go.Sort.xorNext r, ((d2.setIfInBounds (ix) d2[a + o]!).setIfInBounds (a + o) d2[ix]!), ix1, rfl, by have := BND.out; omega, by have := BND.out; omega, rfl, N, REL2, by rw [ER.out]; exact HB⟩
      · refine hm_step 15 rfl (by kernel_rfl) fun K hK => ?_
        try simp only [Act.put, lqA, lqB, lqC, lqD, lqE, lqF]
        refine mo_known (.int .u64 ((d2[ix]! : Nat) : Int)) _ (exec_load rfl (run_load_one Tryd.underlying59 rfl (cell_dn N (by have := BND.out; omega)))) ?_
        refine hK _ _ trivial ?_
        clear hK K
        try simp only [Act.put, lqA, lqB, lqC, lqD, lqE, lqF]
        refine hm_one (i := 11) (by kernel_rfl) ?_
        refine hm_step 11 rfl (by kernel_rfl) fun K hK => ?_
        try simp only [Act.put, lqA, lqB, lqC, lqD, lqE, lqF]
        refine mo_known (.int .u64 ((d2[a + o]! : Nat) : Int)) _ (exec_load rfl (run_load_one Tryd.underlying59 rfl (cell_dn N (by have := BND.out; omega)))) ?_
        refine hK _ _ trivial ?_
        clear hK K
        try simp only [Act.put, lqA, lqB, lqC, lqD, lqE, lqF]
        refine hm_run 16 63 (.pointer (some ⟨g, 0 + (ix) * 1, none⟩)) rfl rfl (by kernel_rfl) (by kernel_rfl) (by kernel_rfl) (fun _ _ _ h => h) rfl (fun W _ => exec_ix rfl (run_ix (k := 1) (j := ix) Tryd.underlying54 (by kernel_rfl) (by have := BND.out; omega) rfl W)) trivial ?_
        try simp only [Act.put, lqA, lqB, lqC, lqD, lqE, lqF]
        refine hm_one (i := 17) (by kernel_rfl) ?_
        refine hm_step 17 rfl (by kernel_rfl) fun K hK => ?_
        try simp only [Act.put, lqA, lqB, lqC, lqD, lqE, lqF]
        refine mo_vputG (i := ix) (v := d2[a + o]!) (.tmp 63) (.tmp 58) rfl N rfl rfl (by have := BND.out; omega) ?_
        clear N
        intro w9 N hb9
        replace HB := Lib.hid (HB.out.trans hb9.out)
        clear hb9
        refine hK _ _ trivial ?_
        clear hK K
        try simp only [Act.put, lqA, lqB, lqC, lqD, lqE, lqF]
        refine hm_run 18 64 (.pointer (some ⟨g, 0 + (a + o) * 1, none⟩)) rfl rfl (by kernel_rfl) (by kernel_rfl) (by kernel_rfl) (fun _ _ _ h => h) rfl (fun W _ => exec_ix rfl (run_ix (k := 1) (j := a + o) Tryd.underlying54 (by kernel_rfl) (by have := BND.out; omega) rfl W)) trivial ?_
        try simp only [Act.put, lqA, lqB, lqC, lqD, lqE, lqF]
        refine hm_one (i := 19) (by kernel_rfl) ?_
        refine hm_step 19 rfl (by kernel_rfl) fun K hK => ?_
        try simp only [Act.put, lqA, lqB, lqC, lqD, lqE, lqF]
        refine mo_vputG (i := a + o) (v := d2[ix]!) (.tmp 64) (.tmp 62) rfl N rfl rfl (by have := BND.out; omega) ?_
        clear N
        intro w9 N hb9
        replace HB := Lib.hid (HB.out.trans hb9.out)
        clear hb9
        refine hK _ _ trivial ?_
        clear hK K
        try simp only [Act.put, lqA, lqB, lqC, lqD, lqE, lqF]
        refine wpAnyH_done (by kernel_rfl) ?_ _
        go_wp2_with ((with_reducible refine wpList_at 35 rfl ?_); refine wpList_kn rfl (.int .i64 (ix1 : Int)) (by exact exec_add rfl rfl rfl (by have := BND.out; rw [IntKind.wrap_i64]; omega)) ?_)
        go_roundg (3 - (t + 1))
        case measure => have := BND.out; have := KH.out; omega
        case rel => exact ⟨t + 1, Go.Sort.xorNext r, ((d2.setIfInBounds (ix) d2[a + o]!).setIfInBounds (a + o) d2[ix]!), ix1, rfl, by have := BND.out; omega, by have := BND.out; omega, rfl, N, REL2, by rw [ER.out]; exact HB⟩
end Go.Proofs.YtoopcmcmjaikhaaDoor
