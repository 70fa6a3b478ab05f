/- address.parseBits: the script of an address of bits. -/
import Derived.Test.YtghjgkgfpblijaaDoorA9
set_option linter.unusedSimpArgs false
set_option linter.unusedVariables false
set_option maxRecDepth 100000
namespace Go.Proofs.YtghjgkgfpblijaaDoor
open Go.ChangeShapes Go.WideShapes Go.RowKit Go.Lib Go.Sort

/-- The script of an address's numbers. -/
def pbits (all : List Nat) : Option (List Nat) := if all.length < 7 then none else if chk all ≠ endV (all.getD 0 0) then none else if grp 8 5 ((grp 5 8 ((all.take (all.length - 6)).drop 1)).take ((all.length - 7) * 5 / 8)) ≠ (all.take (all.length - 6)).drop 1 then none else mkOf (kOf (all.getD 0 0) ((all.length - 7) * 5 / 8)) ((grp 5 8 ((all.take (all.length - 6)).drop 1)).take ((all.length - 7) * 5 / 8))
def pB (s : ByteArray) : Option (List Nat) := if 62 < s.size then none else match numS s with | none => none | some all => pbits all
theorem numS_ok {s : ByteArray} {l : List Nat} (h : numS s = some l) : l.length ≤ s.size ∧ ∀ x, x ∈ l → x < 32 := by
  unfold numS at h
  split at h
  · rename_i hp
    have hz := hasP_size hp
    split at h
    · rename_i ha
      injection h with h
      subst h
      exact ⟨by rw [show (plL SL (rstP s SB)).length = _ from tl_length _ _]; omega, tl_mem fun i hi => ha i hi⟩
    · cases h
  · split at h
    · rename_i hp
      have hz := hasP_size hp
      split at h
      · rename_i ha
        injection h with h
        subst h
        exact ⟨by rw [show (plL GL (rstP s GB)).length = _ from tl_length _ _]; omega, tl_mem fun i hi => ha i hi⟩
      · cases h
    · cases h
theorem exec_neq32v {o : Oper} {ev : Operand → Value} {W : World} {x y : Operand} {a b : Nat} {q : Bool} (ho : o.op = .binOp .neq 59 x y 59) (hx : ev x = .int .u32 (a : Int)) (hy : ev y = .int .u32 (b : Int)) (hq : decide (a ≠ b) = q) : (execOp ev o).run Tryd.prog W = .ok (.value (.bool q)) W := by
  subst hq
  unfold execOp
  by_cases h : a = b
  · subst h
    simp [ho, hx, hy, go_sem, Tryd.underlying59]
  · have h2 : ¬ ((a : Int) = (b : Int)) := by omega
    simp [ho, hx, hy, go_sem, Tryd.underlying59, h, h2]
theorem exec_quo3v {o : Oper} {ev : Operand → Value} {W : World} {x y : Operand} {a r : Nat} (ho : o.op = .binOp .quo 3 x y 3) (hx : ev x = .int .i64 (a : Int)) (hy : ev y = .int .i64 8) (ha : a < 9223372036854775808) (hr : a / 8 = r) : (execOp ev o).run Tryd.prog W = .ok (.value (.int .i64 (r : Int))) W := by
  subst hr
  have h : IntKind.i64.wrap ((a : Int) / 8) = (a : Int) / 8 := by rw [IntKind.wrap_i64]; omega
  unfold execOp
  simp [ho, hx, hy, go_sem, h]
set_option maxHeartbeats 16000000 in
theorem pbits_any {w : World} (PL : Hid (PLaid w)) (CL : Hid (S.CLaid w)) (s : ByteArray) : Calls Tryd.prog 26 #[.string s] w (OEnd w (pB s)) := by
  obtain ⟨sz, hsz⟩ : ∃ sz, sz = s.size := ⟨_, rfl⟩
  have HSZ := Lib.hid hsz.symm
  by_cases hbig : 62 < sz
  · have HG := Lib.hid (show decide (62 < sz) = true by simp [hbig])
    have NO := Lib.hid (show pB s = none by unfold pB; rw [if_pos (by omega)])
    clear hbig hsz
    go_enter Tryd.func26, Tryd.ntmps26
    go_wp2_with (first
        | ((with_reducible refine wpList_at 10 rfl ?_); refine wpList_known4 rfl (.int .i64 (sz : Int)) _ (by exact by rw [← HSZ.out]; exact exec_lenS rfl rfl) ?_; try simp only [Act.put, List.setIfInBounds_toArray, List.set_cons_zero, List.set_cons_succ])
        | ((with_reducible refine wpList_at 11 rfl ?_); refine wpList_known4 rfl (.bool true) _ (by exact exec_gtr3v (a := sz) (b := 62) (q := true) rfl rfl rfl HG.out) ?_; try simp only [Act.put, List.setIfInBounds_toArray, List.set_cons_zero, List.set_cons_succ]))
    go_ret2
    exact oEnd_no NO.out (Below.refl _ _)
  · have HG := Lib.hid (show decide (62 < sz) = false by simp; omega)
    cases hns : numS s with
    | none =>
      have NO := Lib.hid (show pB s = none by unfold pB; rw [if_neg (by omega), hns])
      have ND := Lib.hid (show Calls Tryd.prog 49 #[.string s] w (fun e w' => e = .returned (.tuple #[.slice none 0 0, .bool false]) ∧ Below w.heap.size w w') from (numbers_any w s (by omega)).mono fun e w' h => by
        obtain ⟨hb, ⟨_, he⟩ | ⟨l, p, g, c, hl, _⟩⟩ := h
        · exact ⟨he, hb⟩
        · rw [hns] at hl; cases hl)
      clear hbig hsz hns
      go_enter Tryd.func26, Tryd.ntmps26
      go_wp2_with (first
        | ((with_reducible refine wpList_at 10 rfl ?_); refine wpList_known4 rfl (.int .i64 (sz : Int)) _ (by exact by rw [← HSZ.out]; exact exec_lenS rfl rfl) ?_; try simp only [Act.put, List.setIfInBounds_toArray, List.set_cons_zero, List.set_cons_succ])
        | ((with_reducible refine wpList_at 11 rfl ?_); refine wpList_known4 rfl (.bool false) _ (by exact exec_gtr3v (a := sz) (b := 62) (q := false) rfl rfl rfl HG.out) ?_; try simp only [Act.put, List.setIfInBounds_toArray, List.set_cons_zero, List.set_cons_succ])
        | (go_at_call 49; refine ND.out.mono ?_; rintro e w2 ⟨rfl, hb⟩; have BB := Lib.hid hb; clear hb))
      go_ret2
      exact oEnd_no NO.out BB.out
    | some l =>
      obtain ⟨hll, hlb⟩ := numS_ok hns
      obtain ⟨n, hn⟩ : ∃ n, n = l.length := ⟨_, rfl⟩
      have PBE := Lib.hid (show pB s = pbits l by unfold pB; rw [if_neg (by omega), hns])
      have ND := Lib.hid (show Calls Tryd.prog 49 #[.string s] w (fun e w' => Below w.heap.size w w' ∧ ∃ p g c, e = .returned (.tuple #[.slice p n c, .bool true]) ∧ Own w.heap.size w' p g n c (lf l)) from (numbers_any w s (by omega)).mono fun e w' h => by
        obtain ⟨hb, ⟨ho, _⟩ | ⟨l2, p, g, c, hl, he, N⟩⟩ := h
        · rw [hns] at ho; cases ho
        · rw [hns] at hl
          injection hl with hl
          subst hl
          rw [← hn] at he N
          exact ⟨hb, p, g, c, he, N⟩)
      have nb : n ≤ 62 := by omega
      have HN := Lib.hid hn
      have HLB := Lib.hid hlb
      clear hsz hns hlb hll hbig
      by_cases h7 : n < 7
      · have HL := Lib.hid (show decide (n < 7) = true by simp [h7])
        have NO := Lib.hid (show pB s = none by rw [PBE.out]; unfold pbits; rw [if_pos (by omega)])
        clear h7 hn
        go_enter Tryd.func26, Tryd.ntmps26
        go_wp2_with (first
        | ((with_reducible refine wpList_at 10 rfl ?_); refine wpList_known4 rfl (.int .i64 (sz : Int)) _ (by exact by rw [← HSZ.out]; exact exec_lenS rfl rfl) ?_; try simp only [Act.put, List.setIfInBounds_toArray, List.set_cons_zero, List.set_cons_succ])
        | ((with_reducible refine wpList_at 11 rfl ?_); refine wpList_known4 rfl (.bool false) _ (by exact exec_gtr3v (a := sz) (b := 62) (q := false) rfl rfl rfl HG.out) ?_; try simp only [Act.put, List.setIfInBounds_toArray, List.set_cons_zero, List.set_cons_succ])
        | (go_at_call 49; refine ND.out.mono ?_; rintro e w2 ⟨hb, p, g, c, rfl, N0⟩; have N := Lib.hid N0; have BB := Lib.hid hb; clear N0 hb)
        | ((with_reducible refine wpList_at 22 rfl ?_); refine wpList_known4 rfl (.bool true) _ (by exact exec_lss3v (a := n) (b := 7) (q := true) rfl rfl rfl HL.out) ?_; try simp only [Act.put, List.setIfInBounds_toArray, List.set_cons_zero, List.set_cons_succ]))
        go_ret2
        exact oEnd_no NO.out BB.out
      · have HL := Lib.hid (show decide (n < 7) = false by simp; omega)
        obtain ⟨v, hv⟩ : ∃ v, v = lf l 0 := ⟨_, rfl⟩
        have vb : v < 32 := by rw [hv, lf_get (by omega)]; exact HLB.out _ (List.getElem_mem _)
        obtain ⟨u, hu⟩ : ∃ u, u = chk l := ⟨_, rfl⟩
        obtain ⟨ev, hev⟩ : ∃ ev, ev = endV v := ⟨_, rfl⟩
        have HXB := Lib.hid (show ∀ i, i < n → lf l i < 32 from fun i hi => by rw [lf_get (by omega)]; exact HLB.out _ (List.getElem_mem _))
        have HTL := Lib.hid (show tl (lf l) n = l by rw [hn, tl_lf])
        have HCK := Lib.hid (show chk (tl (lf l) n) = u by rw [HTL.out, hu])
        have HEV := Lib.hid hev.symm
        have V0 := Lib.hid (show ∀ (W : World) (g c : Nat) (p : Option Addr), Own w.heap.size W p g n c (lf l) → W.cell? ⟨g, 0, none⟩ = some (.int .u8 (v : Int)) from fun W g c p N => by have := N.row.cell 0 (by omega); rw [Nat.add_zero] at this; rw [hv]; exact this)
        by_cases hc : u = ev
        · obtain ⟨gl, hgl⟩ : ∃ gl, gl = n - 7 := ⟨_, rfl⟩
          obtain ⟨n6, hn6⟩ : ∃ n6, n6 = n - 6 := ⟨_, rfl⟩
          obtain ⟨gx, hgx⟩ : ∃ gx : Nat → Nat, gx = fun i => lf l (1 + i) := ⟨_, rfl⟩
          have GE : tl gx gl = (l.take (l.length - 6)).drop 1 := by
            have e1 : l.take n6 = tl (lf l) n6 := by rw [← HTL.out, tl_take (by omega), HTL.out]
            rw [← hn, ← hn6, e1, tl_drop (by omega), hgx, show n6 - 1 = gl by omega]
          obtain ⟨RB, hRB⟩ : ∃ RB, RB = grp 5 8 (tl gx gl) := ⟨_, rfl⟩
          obtain ⟨rl, hrl⟩ : ∃ rl, rl = RB.length := ⟨_, rfl⟩
          have rlv : rl = (5 * gl + 7) / 8 := by rw [hrl, hRB, grp_len (by omega), tl_length]; omega
          obtain ⟨g5, hg5⟩ : ∃ g5, g5 = gl * 5 := ⟨_, rfl⟩
          obtain ⟨bl, hbl⟩ : ∃ bl, bl = g5 / 8 := ⟨_, rfl⟩
          have blr : bl ≤ rl := by omega
          have glb : gl ≤ 55 := by omega
          have rlb : rl ≤ 40 := by omega
          have blb : bl ≤ 40 := by omega
          have BE : tl (lf RB) bl = RB.take bl := by
            have : RB = tl (lf RB) rl := by rw [hrl, tl_lf]
            rw [← tl_take (n := rl) blr, ← this]
          obtain ⟨RC, hRC⟩ : ∃ RC, RC = grp 8 5 (tl (lf RB) bl) := ⟨_, rfl⟩
          obtain ⟨rc, hrc⟩ : ∃ rc, rc = RC.length := ⟨_, rfl⟩
          have rcb : rc ≤ 100 := by
            rw [hrc, hRC, grp_len (by omega), tl_length]; omega
          obtain ⟨q, hq⟩ : ∃ q, q = decide (RC = tl gx gl) := ⟨_, rfl⟩
          obtain ⟨ko, hko⟩ : ∃ ko, ko = kOf v bl := ⟨_, rfl⟩
          have HC := Lib.hid (show decide (u ≠ ev) = false by simp [hc])
          have hpb : pbits l = if q = false then none else mkOf ko (tl (lf RB) bl) := by
            unfold pbits
            rw [if_neg (by omega), ← hu, show l.getD 0 0 = v from hv.symm, ← hev, if_neg (by simpa using hc), ← GE, ← hRB, ← hn, ← hgl, ← hg5, ← hbl, ← BE, ← hRC, ← hko]
            by_cases hh : RC = tl gx gl
            · rw [if_neg (by simpa using hh), hq, decide_eq_true hh]; rfl
            · rw [if_pos hh, hq, decide_eq_false hh]; rfl
          have HPB := Lib.hid hpb
          have HGB := Lib.hid (show ∀ i, i < gl → gx i < 32 from fun i hi => by rw [hgx]; exact HXB.out (1 + i) (by omega))
          have HRB := Lib.hid hRB.symm
          have HRL := Lib.hid hrl
          have HRC := Lib.hid hRC.symm
          have HRD := Lib.hid hrc
          have HBB := Lib.hid (show ∀ i, i < bl → lf RB i < 256 from fun i hi => by
            rw [lf_get (by omega)]
            have := grpX_lt (o := 8) (V := acc (2 ^ 5) (tl gx gl)) (T := 5 * (tl gx gl).length) (by omega) RB[i] (by
              have : RB = grpX 8 (acc (2 ^ 5) (tl gx gl)) (5 * (tl gx gl).length) := hRB
              rw [← this]; exact List.getElem_mem _)
            exact this)
          have HQ := Lib.hid (show decide (tl (lf RC) rc = tl gx gl) = q by rw [hrc, tl_lf, hq])
          have HKO := Lib.hid hko.symm
          have Y1 := Lib.hid (show 6 ≤ n ∧ n < 9223372036854775808 ∧ n - 6 = n6 by omega)
          have Y2 := Lib.hid (show gl * 5 = g5 ∧ g5 < 9223372036854775808 by omega)
          have Y4 := Lib.hid (show (gl : Int) * 5 / 8 = (bl : Int) by omega)
          have YB := Lib.hid (show 1 ≤ n6 ∧ n6 ≤ n ∧ n6 - 1 = gl ∧ bl ≤ rl by omega)
          have HGX := Lib.hid hgx
          have n7 : 7 ≤ n := by omega
          clear hv hu hev hc hgl hn6 hgx GE hRB hrl rlv hg5 hbl blr BE hRC hrc hko hpb hn h7 hq
          go_enter Tryd.func26, Tryd.ntmps26
          go_upto_region 9 with (first
        | ((with_reducible refine wpList_at 10 rfl ?_); refine wpList_known4 rfl (.int .i64 (sz : Int)) _ (by exact by rw [← HSZ.out]; exact exec_lenS rfl rfl) ?_; try simp only [Act.put, List.setIfInBounds_toArray, List.set_cons_zero, List.set_cons_succ])
        | ((with_reducible refine wpList_at 11 rfl ?_); refine wpList_known4 rfl (.bool false) _ (by exact exec_gtr3v (a := sz) (b := 62) (q := false) rfl rfl rfl HG.out) ?_; try simp only [Act.put, List.setIfInBounds_toArray, List.set_cons_zero, List.set_cons_succ])
        | (go_at_call 49; refine ND.out.mono ?_; rintro e w2 ⟨hb, p, g, c, rfl, N0⟩; obtain rfl := N0.row.head (by omega); have N := Lib.hid N0; have BB := Lib.hid hb; clear N0 hb)
        | ((with_reducible refine wpList_at 22 rfl ?_); refine wpList_known4 rfl (.bool false) _ (by exact exec_lss3v (a := n) (b := 7) (q := false) rfl rfl rfl HL.out) ?_; try simp only [Act.put, List.setIfInBounds_toArray, List.set_cons_zero, List.set_cons_succ])
        | ((with_reducible refine wpList_at 25 rfl ?_); refine wpList_ix (k := 1) (j := 0) Tryd.underlying22 (by kernel_rfl) (.tmp 24) (.const (.int .i64 0)) rfl rfl rfl rfl (by omega) rfl ?_; rw [Nat.mul_one]; try simp only [Act.put, List.setIfInBounds_toArray, List.set_cons_zero, List.set_cons_succ])
        | ((with_reducible refine wpList_at 26 rfl ?_); refine wpList_ld1 5 (.tmp 25) rfl rfl rfl Tryd.underlying5 rfl (V0.out _ _ _ _ N.out) ?_; try simp only [Act.put, List.setIfInBounds_toArray, List.set_cons_zero, List.set_cons_succ])
        | (go_at_call 40; ((with_reducible refine (check_any (Lib.hid (CL.out.below BB.out)) (Lib.hid N.out.row) (by omega) HXB).mono ?_); intro e w3 h3); obtain ⟨he3, hb3⟩ := h3; rw [HCK.out] at he3; subst he3; replace N := Lib.hid (N.out.below hb3); replace BB := Lib.hid (BB.out.trans (hb3.mono BB.out.size)); clear hb3)
        | (go_at_call 41; ((with_reducible refine (endof_any v _).mono ?_); rintro e w4 ⟨he4, rfl⟩); rw [HEV.out] at he4; subst he4)
        | ((with_reducible refine wpList_at 31 rfl ?_); refine wpList_known4 rfl (.bool false) _ (by exact exec_neq32v (a := u) (b := ev) (q := false) rfl rfl rfl HC.out) ?_; try simp only [Act.put, List.setIfInBounds_toArray, List.set_cons_zero, List.set_cons_succ]))
          obtain ⟨p1, e1, R1⟩ := N.out.row.slice (l := 1) (h := n6) (m := c) (by have := YB.out; omega) YB.out.2.1 (by have := YB.out; have := N.out.row.le; omega) (Nat.le_refl _)
          rw [YB.out.2.2.1] at e1 R1
          rw [← HGX.out] at R1
          have SL1 := Lib.hid (fun W : World => (run_sl (w := W) (p := some ⟨g, 0, none⟩) (bounds_lh (n := n) (l := 1) (h := n6) (c := c) YB.out.1 (by have := YB.out; have := N.out.row.le; omega))).trans (by rw [e1]))
          have RG := Lib.hid R1
          clear e1 R1 N
          go_upto_region 10 with (first
        | ((with_reducible refine wpList_at 35 rfl ?_); refine wpList_known4 rfl (.int .i64 (n6 : Int)) _ (by exact exec_sub3v (a := n) (b := 6) (r := n6) rfl rfl rfl Y1.out.1 Y1.out.2.1 Y1.out.2.2) ?_; try simp only [Act.put, List.setIfInBounds_toArray, List.set_cons_zero, List.set_cons_succ])
        | ((with_reducible refine wpList_at 36 rfl ?_); refine wpList_known4 rfl (.slice p1 gl (c - 1)) _ (by exact exec_slLH rfl rfl rfl rfl (SL1.out _)) ?_; try simp only [Act.put, List.setIfInBounds_toArray, List.set_cons_zero, List.set_cons_succ]))
          go_upto_region 11 with (first
        | (go_at_call 39; ((with_reducible refine (regroup58_any RG (by omega) HGB).mono ?_); intro e w5 h5); obtain ⟨r5, p5, g5, c5, rfl, HR5, N5, hb5⟩ := getsL_var h5; obtain rfl : RB = r5 := (HR5.out.trans HRB.out).symm; rw [← HRL.out] at N5 ⊢; have R5 := Lib.hid N5.row; replace RG := Lib.hid (RG.out.below hb5); replace BB := Lib.hid (BB.out.trans (hb5.mono BB.out.size)); clear h5 HR5 N5 hb5)
        | ((with_reducible refine wpList_at 43 rfl ?_); obtain ⟨p6, e6, R6x⟩ := R5.out.slice (l := 0) (h := bl) (m := c5) (by omega) YB.out.2.2.2 (Nat.le_trans YB.out.2.2.2 R5.out.le) (Nat.le_refl _); simp only [Nat.sub_zero, Nat.zero_add] at e6 R6x; have R6 := Lib.hid R6x; have SL6 := Lib.hid (fun W : World => (run_sl (w := W) (p := p5) (bounds_h (n := rl) (h := bl) (c := c5) (Nat.le_trans YB.out.2.2.2 R5.out.le))).trans (by rw [e6])); rw [← Y4.out] at SL6; clear e6 R6x; refine wpList_known4 rfl (.slice p6 bl c5) _ (by exact exec_slH rfl rfl rfl (SL6.out _)) ?_; try simp only [Act.put, List.setIfInBounds_toArray, List.set_cons_zero, List.set_cons_succ]))
          cases q with
          | false =>
            have NO := Lib.hid (show pB s = none by rw [PBE.out, HPB.out]; rfl)
            clear HPB
            go_wp2_with (first
        | (go_at_call 39; ((with_reducible refine (regroup85_any R6 (by omega) HBB).mono ?_); intro e w7 h7); obtain ⟨r7, p7, g7, c7, rfl, HR7, N7, hb7⟩ := getsL_var h7; obtain rfl : RC = r7 := (HR7.out.trans HRC.out).symm; rw [← HRD.out] at N7 ⊢; have R7 := Lib.hid N7.row; replace RG := Lib.hid (RG.out.below hb7); replace R6 := Lib.hid (R6.out.below hb7); replace BB := Lib.hid (BB.out.trans (hb7.mono BB.out.size)); clear h7 HR7 N7 hb7)
        | (go_at_call 50; ((with_reducible refine (eqb_any R7 RG (by omega) (by omega) false HQ.out).mono ?_); rintro e w8 ⟨rfl, hb8⟩); replace R6 := Lib.hid (R6.out.below hb8); replace BB := Lib.hid (BB.out.trans (hb8.mono BB.out.size)); clear hb8))
            go_ret2
            exact oEnd_no NO.out BB.out
          | true =>
            have NO := Lib.hid (show pB s = mkOf ko (tl (lf RB) bl) by rw [PBE.out, HPB.out]; rfl)
            clear HPB
            go_wp2_with (first
        | (go_at_call 39; ((with_reducible refine (regroup85_any R6 (by omega) HBB).mono ?_); intro e w7 h7); obtain ⟨r7, p7, g7, c7, rfl, HR7, N7, hb7⟩ := getsL_var h7; obtain rfl : RC = r7 := (HR7.out.trans HRC.out).symm; rw [← HRD.out] at N7 ⊢; have R7 := Lib.hid N7.row; replace RG := Lib.hid (RG.out.below hb7); replace R6 := Lib.hid (R6.out.below hb7); replace BB := Lib.hid (BB.out.trans (hb7.mono BB.out.size)); clear h7 HR7 N7 hb7)
        | (go_at_call 50; ((with_reducible refine (eqb_any R7 RG (by omega) (by omega) true HQ.out).mono ?_); rintro e w8 ⟨rfl, hb8⟩); replace R6 := Lib.hid (R6.out.below hb8); replace BB := Lib.hid (BB.out.trans (hb8.mono BB.out.size)); clear hb8)
        | (go_at_call 51; ((with_reducible refine (kindof_any v bl _).mono ?_); rintro e w9 ⟨rfl, rfl⟩); rw [HKO.out])
        | (go_at_call 15; ((with_reducible refine (make_any (PL.out.below BB.out) ko R6 (by omega)).mono ?_); intro e wa hE); obtain ⟨ra, oka, pa, ga, ca, rfl, ho, hr, Na, hba⟩ := hE; have N6 := Lib.hid Na; replace BB := Lib.hid (BB.out.trans (hba.mono BB.out.size)); have HO := Lib.hid (And.intro ho hr); clear Na hba ho hr))
            go_ret2
            exact ⟨ra, oka, pa, ga, ca, rfl, by rw [NO.out]; exact HO.out.1, by rw [NO.out]; exact HO.out.2, N6.out, BB.out⟩
        · have HC := Lib.hid (show decide (u ≠ ev) = true by simp [hc])
          have NO := Lib.hid (show pB s = none by
            rw [PBE.out]
            unfold pbits
            rw [if_neg (by omega), ← hu, show l.getD 0 0 = v from hv.symm, ← hev, if_pos hc])
          have n7 : 7 ≤ n := by omega
          clear hv hu hev hc hn h7
          go_enter Tryd.func26, Tryd.ntmps26
          go_wp2_with (first
        | ((with_reducible refine wpList_at 10 rfl ?_); refine wpList_known4 rfl (.int .i64 (sz : Int)) _ (by exact by rw [← HSZ.out]; exact exec_lenS rfl rfl) ?_; try simp only [Act.put, List.setIfInBounds_toArray, List.set_cons_zero, List.set_cons_succ])
        | ((with_reducible refine wpList_at 11 rfl ?_); refine wpList_known4 rfl (.bool false) _ (by exact exec_gtr3v (a := sz) (b := 62) (q := false) rfl rfl rfl HG.out) ?_; try simp only [Act.put, List.setIfInBounds_toArray, List.set_cons_zero, List.set_cons_succ])
        | (go_at_call 49; refine ND.out.mono ?_; rintro e w2 ⟨hb, p, g, c, rfl, N0⟩; obtain rfl := N0.row.head (by omega); have N := Lib.hid N0; have BB := Lib.hid hb; clear N0 hb)
        | ((with_reducible refine wpList_at 22 rfl ?_); refine wpList_known4 rfl (.bool false) _ (by exact exec_lss3v (a := n) (b := 7) (q := false) rfl rfl rfl HL.out) ?_; try simp only [Act.put, List.setIfInBounds_toArray, List.set_cons_zero, List.set_cons_succ])
        | ((with_reducible refine wpList_at 25 rfl ?_); refine wpList_ix (k := 1) (j := 0) Tryd.underlying22 (by kernel_rfl) (.tmp 24) (.const (.int .i64 0)) rfl rfl rfl rfl (by omega) rfl ?_; rw [Nat.mul_one]; try simp only [Act.put, List.setIfInBounds_toArray, List.set_cons_zero, List.set_cons_succ])
        | ((with_reducible refine wpList_at 26 rfl ?_); refine wpList_ld1 5 (.tmp 25) rfl rfl rfl Tryd.underlying5 rfl (V0.out _ _ _ _ N.out) ?_; try simp only [Act.put, List.setIfInBounds_toArray, List.set_cons_zero, List.set_cons_succ])
        | (go_at_call 40; ((with_reducible refine (check_any (Lib.hid (CL.out.below BB.out)) (Lib.hid N.out.row) (by omega) HXB).mono ?_); intro e w3 h3); obtain ⟨he3, hb3⟩ := h3; rw [HCK.out] at he3; subst he3; replace N := Lib.hid (N.out.below hb3); replace BB := Lib.hid (BB.out.trans (hb3.mono BB.out.size)); clear hb3)
        | (go_at_call 41; ((with_reducible refine (endof_any v _).mono ?_); rintro e w4 ⟨he4, rfl⟩); rw [HEV.out] at he4; subst he4)
        | ((with_reducible refine wpList_at 31 rfl ?_); refine wpList_known4 rfl (.bool true) _ (by exact exec_neq32v (a := u) (b := ev) (q := true) rfl rfl rfl HC.out) ?_; try simp only [Act.put, List.setIfInBounds_toArray, List.set_cons_zero, List.set_cons_succ]))
          go_ret2
          exact oEnd_no NO.out BB.out
end Go.Proofs.YtghjgkgfpblijaaDoor
