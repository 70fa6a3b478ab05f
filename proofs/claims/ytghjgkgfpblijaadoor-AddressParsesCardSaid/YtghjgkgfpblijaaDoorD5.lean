/- The document's Parse. -/
import Derived.Test.YtghjgkgfpblijaaDoorD4
set_option linter.unusedSimpArgs false
set_option linter.unusedVariables false
set_option maxRecDepth 100000
namespace Go.Proofs.YtghjgkgfpblijaaDoor
open Go.ChangeShapes Go.WideShapes Go.RowKit Go.Lib Go.Sort

theorem exec_eqSd {o : Oper} {ev : Operand → Value} {W : World} {x y : Operand} {s t : ByteArray} {q : Bool} (ho : o.op = .binOp .eql 9 x y 9) (hx : ev x = .string s) (hy : ev y = .string t) (hq : decide (s = t) = q) : (execOp ev o).run Tryd.prog W = .ok (.value (.bool q)) W := exec_eqS q ho hx hy (by rw [← hq]; simp)
theorem irow_sub {w : World} {p : Option Addr} {g n c l h : Nat} {x : Nat → Nat} (R : VRow 1 w p g 0 n c (iv x)) (h1 : l ≤ h) (h2 : h ≤ n) : ∃ p', sliced p l h c 1 = .slice p' (h - l) (c - l) ∧ VRow 1 w p' g l (h - l) (c - l) (iv fun i => x (l + i)) := by
  obtain ⟨p2, e2, R2⟩ := VRow.slice R (l := l) (h := h) (m := c) h1 h2 (Nat.le_trans h2 R.le) (Nat.le_refl _)
  rw [Nat.mul_one, Nat.zero_add] at R2
  exact ⟨p2, e2, R2⟩
theorem rtext_known {w : World} {p : Option Addr} {g o n c k : Nat} {r b : List Nat} (R : Hid (Row w p g o n c (lf r))) (hr : Hid (n = r.length)) (hn : n ≤ 140737488355328) (hc : Cls r k b) :
    Calls Tryd.prog 9 #[.slice p n c] w fun e w' => e = .returned (.tuple #[.string (tK k b).1, .int .i64 (tK k b).2]) ∧ Below w.heap.size w w' :=
  (rtext_any R hn).mono fun e w' h => by
    obtain ⟨⟨k2, b2, hc2, he⟩, hb⟩ := h
    rw [hr.out, tl_lf] at hc2
    obtain ⟨h1, h2⟩ := hc.same hc2
    subst h1 h2
    exact ⟨he, hb⟩
/-- Text of the slice of no script. -/
theorem rtext_some {w : World} {p : Option Addr} {g o n c : Nat} {x : Nat → Nat} (R : Hid (Row w p g o n c x)) (hn : n ≤ 140737488355328) :
    Calls Tryd.prog 9 #[.slice p n c] w fun e w' => ∃ T z, e = .returned (.tuple #[.string T, .int .i64 z]) ∧ Below w.heap.size w w' :=
  (rtext_any R hn).mono fun e w' h => by
    obtain ⟨⟨k2, b2, hc2, he⟩, hb⟩ := h
    exact ⟨_, _, he, hb⟩
theorem rmake_some {w : World} {K : Int} {p : Option Addr} {g o n c : Nat} {x : Nat → Nat} (R : Hid (Row w p g o n c x)) (hn : n ≤ 140737488351232) {r : List Nat} (h : mkOf K (tl x n) = some r) :
    Calls Tryd.prog 29 #[.int .i64 K, .slice p n c] w fun e w' => ∃ p2 g2 c2, e = .returned (.tuple #[.slice p2 r.length c2, .bool true]) ∧ Row w' p2 g2 0 r.length c2 (lf r) ∧ Below w.heap.size w w' :=
  (rmake_any K R hn).mono fun e w' hE => by
    obtain ⟨r2, ok, p2, g2, c2, he, ho, hr, N, hb⟩ := hE
    rw [h] at ho hr
    subst ho
    obtain rfl : r = r2 := hr.symm
    exact ⟨p2, g2, c2, he, N, hb⟩
theorem rmake_none {w : World} {K : Int} {p : Option Addr} {g o n c : Nat} {x : Nat → Nat} (R : Hid (Row w p g o n c x)) (hn : n ≤ 140737488351232) (h : mkOf K (tl x n) = none) :
    Calls Tryd.prog 29 #[.int .i64 K, .slice p n c] w fun e w' => ∃ p2 g2 c2, e = .returned (.tuple #[.slice p2 0 c2, .bool false]) ∧ Row w' p2 g2 0 0 c2 (lf []) ∧ Below w.heap.size w w' :=
  (rmake_any K R hn).mono fun e w' hE => by
    obtain ⟨r2, ok, p2, g2, c2, he, ho, hr, N, hb⟩ := hE
    rw [h] at ho hr
    subst ho
    obtain rfl : [] = r2 := hr.symm
    exact ⟨p2, g2, c2, he, N, hb⟩
theorem cand_lt (s : ByteArray) : (∀ x, x ∈ (candS s).1 → x < 256) ∧ (candS s).1.length ≤ 90 := by
  unfold candS
  split
  · rename_i h
    refine ⟨bO_lt _, ?_⟩
    have hz : s.size ≤ 90 := by have := h.1; unfold cA at this; rw [decide_eq_true_eq] at this; exact this.2.1
    unfold bO
    rw [tl_length, tl_length]
    omega
  · exact ⟨fun x hx => (by cases hx), by show 0 ≤ _; omega⟩
/-- A round's find. -/
def hitA (b : List Nat) (X : ByteArray) (j : Nat) : Prop := ∃ z, mkOf ((j + 1 : Nat) : Int) b = some z ∧ (tK (j + 1) b).1 = X
theorem aEnd_some {w w' : World} {s : ByteArray} {r : List Nat} {p : Option Addr} {g n c : Nat} (h : pA s = some r) (hn : n = r.length) (R : Row w' p g 0 n c (lf r)) (hb : Below w.heap.size w w') : AEnd w (pA s) (.returned (.tuple #[.slice p n c, .int .i64 0])) w' := by
  subst hn
  rw [h]
  exact ⟨r, p, g, c, rfl, rfl, R, hb⟩
theorem aEnd_none {w w' : World} {s : ByteArray} (h : pA s = none) (hb : Below w.heap.size w w') : AEnd w (pA s) (.returned (.tuple #[.slice none 0 0, .int .i64 140])) w' := by
  rw [h]
  exact ⟨[], none, 0, 0, rfl, rfl, Row.nothing _ _ (lf_lt isB_nil), hb⟩
theorem pA_sum {s : ByteArray} {r : List Nat} (h : pS s = some r) : pA s = some r := by unfold pA; rw [h]
theorem runb_good {s : ByteArray} (h : ¬ (300 < s.size ∨ ¬ AllIn D58 s)) {l : List Nat} (hl : reb 58 256 (plL D58 s) = l) {n : Nat} (hn : n = l.length) (w : World) : Calls Tryd.prog 27 #[.string s] w fun e w' => ∃ p g c, e = .returned (.tuple #[.slice p n c, .int .i64 0]) ∧ Own w.heap.size w' p g n c (lf l) ∧ Below w.heap.size w w' :=
  (runb_any w s).mono fun e w' hE => by
    obtain ⟨hb, ⟨h1, _⟩ | ⟨_, h1, _⟩ | ⟨_, _, r, p, g, c, hr, he, N⟩⟩ := hE
    · exact absurd (.inl h1) h
    · exact absurd (.inr h1) h
    · rw [hl] at hr
      subst hr
      subst hn
      exact ⟨p, g, c, he, N, hb⟩
theorem runb_bad {s : ByteArray} (h : 300 < s.size ∨ ¬ AllIn D58 s) (w : World) : Calls Tryd.prog 27 #[.string s] w fun e w' => ∃ z : Int, z ≠ 0 ∧ e = .returned (.tuple #[.slice none 0 0, .int .i64 z]) ∧ Below w.heap.size w w' :=
  (runb_any w s).mono fun e w' hE => by
    obtain ⟨hb, ⟨_, he⟩ | ⟨_, _, he⟩ | ⟨h1, h2, _⟩⟩ := hE
    · exact ⟨4, by omega, he, hb⟩
    · exact ⟨140, by omega, he, hb⟩
    · exact absurd h (by rintro (q | q); omega; exact q h2)
set_option maxHeartbeats 64000000 in
theorem rparse_any {w : World} (s : ByteArray) (hs : s.size ≤ 140737488351232) : Calls Tryd.prog 12 #[.string s] w (AEnd w (pA s)) := by
  have hsb : s.size ≤ 140737488355328 := by omega
  have HSB := Lib.hid hsb
  have LOW := Lib.hid (fun W : World => rlower_any (w := W) s hsb)
  have CDA := Lib.hid (fun (X : ByteArray) (W : World) => cand_any (w := W) X)
  by_cases hU : 300 < s.size ∨ ¬ AllIn D58 s
  · have RUN := Lib.hid (runb_bad hU w)
    have HPS := Lib.hid (show pS s = none from by unfold pS; rw [if_pos hU])
    clear hU hs hsb
    go_enter Tryd.func12, Tryd.ntmps12
    go_upto_region 2 with (first
      | (go_at_call 27; ((with_reducible refine RUN.out.mono ?_); intro e w2 h2); obtain ⟨z, hz0, rfl, hb⟩ := h2; have Y1 := Lib.hid (show decide (z = 0) = false by simp [hz0]); have BB := Lib.hid hb; clear hb hz0))
    go_upto_region 11 with (first
      | ((with_reducible refine wpList_at 26 rfl ?_); refine wpList_known4 rfl (.bool false) _ (by exact exec_eqE3 (z := z) (z2 := 0) (q := false) rfl rfl rfl Y1.out) ?_; try simp only [Act.put, List.setIfInBounds_toArray, List.set_cons_zero, List.set_cons_succ]))
    by_cases hup : isUp s
    · obtain ⟨X, hX⟩ : ∃ X, X = lwS s := ⟨_, rfl⟩
      have HUP := Lib.hid (show decide (isUp s) = true from decide_eq_true hup)
      have HLW := Lib.hid hX.symm
      have HSM := Lib.hid (show smS s = X by unfold smS; rw [if_pos hup, hX])
      clear hup hX
      have HON := Lib.hid (fun z (h : pA s = some z) => bits_only HPS.out h)
      have HGO := Lib.hid (fun (b x : List Nat) (j : Nat) (h2 : 2 ≤ j) (h5 : j < 5) (hb : ∀ x, x ∈ b → x < 256) (h : mkOf ((j + 1 : Nat) : Int) b = some x) (ht : (tK (j + 1) b).1 = smS s) => bits_good h2 h5 hb h ht HPS.out)
      rw [HSM.out] at HON HGO
      obtain ⟨hcb1, hcb2⟩ := cand_lt X
      obtain ⟨cb, hcb⟩ : ∃ cb, cb = (candS X).1 := ⟨_, rfl⟩
      obtain ⟨ok, hok⟩ : ∃ ok, ok = (candS X).2 := ⟨_, rfl⟩
      obtain ⟨cl, hcl⟩ : ∃ cl, cl = cb.length := ⟨_, rfl⟩
      have CDX := Lib.hid (show ∀ W, Calls Tryd.prog 32 #[.string X] W fun e w' => ∃ p g c, e = .returned (.tuple #[.slice p cl c, .bool ok]) ∧ Row w' p g 0 cl c (lf cb) ∧ Below W.heap.size W w' from fun W => by
        have := CDA.out X W
        unfold CandEnd at this
        rw [← hcb, ← hok, ← hcl] at this
        exact this)
      have CPR := Lib.hid (show candS X = (cb, ok) by rw [hcb, hok])
      rw [← hcb] at hcb1 hcb2
      have HCB := Lib.hid hcb1
      have clb : cl ≤ 90 := by omega
      have HCL := Lib.hid (show tl (lf cb) cl = cb by rw [hcl, tl_lf])
      clear hcb hok hcl hcb1 hcb2 CDA
      cases ok with
      | false =>
        have NO := Lib.hid (show pA s = none by
          cases h : pA s with
          | none => rfl
          | some z =>
            obtain ⟨b, h1, _⟩ := HON.out z h
            rw [CPR.out] at h1
            injection h1 with _ h1
            cases h1)
        clear HON HGO CPR HCB HCL
        go_wp2_with (first
          | (go_at_call 30; ((with_reducible refine (rupper_any s HSB.out _).mono ?_); rintro e wu ⟨heu, rfl⟩); rw [HUP.out] at heu; subst heu)
          | (go_at_call 31; ((with_reducible refine (LOW.out _).mono ?_); intro e wl hl9); obtain ⟨hel, hb⟩ := hl9; rw [HLW.out] at hel; subst hel; replace BB := Lib.hid (BB.out.trans (hb.mono BB.out.size)); clear hb)
          | (go_at_call 32; ((with_reducible refine (CDX.out _).mono ?_); intro e wc hc9); obtain ⟨pc, gc, cc, rfl, Rc, hb⟩ := hc9; have RC := Lib.hid Rc; replace BB := Lib.hid (BB.out.trans (hb.mono BB.out.size)); clear Rc hb))
        go_ret2
        exact aEnd_none NO.out BB.out
      | true =>
        go_upto_region 17 with (first
          | (go_at_call 30; ((with_reducible refine (rupper_any s HSB.out _).mono ?_); rintro e wu ⟨heu, rfl⟩); rw [HUP.out] at heu; subst heu)
          | (go_at_call 31; ((with_reducible refine (LOW.out _).mono ?_); intro e wl hl9); obtain ⟨hel, hb⟩ := hl9; rw [HLW.out] at hel; subst hel; replace BB := Lib.hid (BB.out.trans (hb.mono BB.out.size)); clear hb)
          | (go_at_call 32; ((with_reducible refine (CDX.out _).mono ?_); intro e wc hc9); obtain ⟨pc, gc, cc, rfl, Rc, hb⟩ := hc9; have RC := Lib.hid Rc; replace BB := Lib.hid (BB.out.trans (hb.mono BB.out.size)); clear Rc hb))
        go_upto_region 18 with (first
          | (go_at_call 28; ((with_reducible refine (kinds_any _).mono ?_); intro e wk hk); obtain ⟨p8, g8, rfl, N8, hb⟩ := hk; replace RC := Lib.hid (RC.out.below hb); replace BB := Lib.hid (BB.out.trans (hb.mono BB.out.size)); obtain ⟨p9, e9, R9x⟩ := irow_sub N8.row (l := 2) (h := 5) (by omega) (by omega); have SL3 := Lib.hid (fun W : World => (run_slI (w := W) (bounds_l (n := 5) (l := 2) (c := 5) (by omega))).trans (by rw [e9])); have R9 := Lib.hid R9x; clear N8 hb e9 R9x)
          | ((with_reducible refine wpList_at 69 rfl ?_); refine wpList_known4 rfl (.slice p9 3 3) _ (by exact exec_slL rfl rfl rfl (SL3.out _)) ?_; try simp only [Act.put, List.setIfInBounds_toArray, List.set_cons_zero, List.set_cons_succ]))
        obtain rfl := R9.out.head (by omega)
        have BBA := BB
        have V0 := Lib.hid (Below.refl wk.heap.size wk)
        have Q0 := Lib.hid (show ∀ i, i < 0 → ¬ hitA cb X (2 + i) from fun i h => absurd h (by omega))
        clear BB SL3 CDX
        go_loopg [71] 3 (fun k i wr => ∃ j : Nat, j + k = 3 ∧ i = .int .i64 (j : Int) ∧ Hid (∀ i, i < j → ¬ hitA cb X (2 + i)) ∧ Hid (Below wk.heap.size wk wr))
        case atStart => exact ⟨0, by omega, rfl, Q0, V0⟩
        case round =>
          clear Q0 V0
          obtain ⟨j, hj, rfl, QQ, XX⟩ := hrel
          obtain ⟨kk, rfl⟩ : ∃ kk : Nat, kk = gk := ⟨_, rfl⟩
          obtain ⟨wv, rfl⟩ : ∃ wo : World, wo = wr := ⟨_, rfl⟩
          by_cases hlt : j < 3
          · have HLT := Lib.hid hlt
            have YL := Lib.hid (show decide (j < 3) = true by simp [hlt])
            obtain ⟨j2, hj2⟩ : ∃ j2, j2 = 2 + j := ⟨_, rfl⟩
            obtain ⟨kd, hkd⟩ : ∃ kd, kd = j2 + 1 := ⟨_, rfl⟩
            have CK := Lib.hid (show wv.cell? ⟨g8, 2 + j, none⟩ = some (.int .i64 (kd : Int)) by
              have := irow_cell (R9.out.below XX.out) hlt
              rw [this, hkd, hj2])
            have R4 := Lib.hid (RC.out.below XX.out)
            cases hm : mkOf ((j2 + 1 : Nat) : Int) cb with
            | none =>
              have HMK := Lib.hid (show mkOf ((kd : Nat) : Int) (tl (lf cb) cl) = none by rw [HCL.out, hkd]; exact hm)
              have QQ2 := Lib.hid (show ∀ i, i < j + 1 → ¬ hitA cb X (2 + i) from fun i hi => by
                rcases Nat.lt_or_ge i j with h | h
                · exact QQ.out i h
                · obtain rfl : i = j := by omega
                  rintro ⟨z, h1, _⟩
                  rw [← hj2, hm] at h1
                  cases h1)
              clear hm hkd QQ
              go_wp2_with (first
                | ((with_reducible refine wpList_at 72 rfl ?_); refine wpList_known4 rfl (.bool true) _ (by exact exec_lss3v (a := j) (b := 3) (q := true) rfl rfl rfl YL.out) ?_; try simp only [Act.put, List.setIfInBounds_toArray, List.set_cons_zero, List.set_cons_succ])
                | ((with_reducible refine wpList_at 73 rfl ?_); refine wpList_ix (k := 1) (j := j) Tryd.underlying37 (by kernel_rfl) (.tmp 69) (.tmp 71) rfl rfl rfl rfl HLT.out rfl ?_; rw [Nat.mul_one]; try simp only [Act.put, List.setIfInBounds_toArray, List.set_cons_zero, List.set_cons_succ])
                | ((with_reducible refine wpList_at 74 rfl ?_); refine wpList_ld1 3 (.tmp 73) rfl rfl rfl Tryd.underlying3 rfl CK.out ?_; try simp only [Act.put, List.setIfInBounds_toArray, List.set_cons_zero, List.set_cons_succ])
                | (go_at_call 29; ((with_reducible refine (rmake_none R4 (by omega) HMK.out).mono ?_); intro e w6 h6); obtain ⟨p6, g6, c6, rfl, R6, hb⟩ := h6; have RM := Lib.hid R6; replace XX := Lib.hid (XX.out.trans (hb.mono XX.out.size)); clear R6 hb)
                | (go_at_call 9; ((with_reducible refine (rtext_some RM (by omega)).mono ?_); intro e w7 h7); obtain ⟨TT, tz, rfl, hb⟩ := h7; replace XX := Lib.hid (XX.out.trans (hb.mono XX.out.size)); clear hb))
              go_roundg (3 - (j + 1))
              case measure => omega
              case rel => exact ⟨j + 1, by omega, by go_num, QQ2, XX⟩
            | some r =>
              have hc := cls_mkA (by omega) hm
              have hl3 := cls_short hc (by omega) (by omega)
              rw [Nat.add_sub_cancel] at hl3
              have hms := mk_sizes (j := j2) (b := cb) (by omega) hl3
              rw [hm] at hms
              have hre : r = hL j2 ++ cb ++ tL j2 := by have := hms.1; injection this
              have hrz : r.length ≤ 60 := by rw [hre]; exact hms.2.2
              obtain ⟨rl, hrl⟩ : ∃ rl, rl = r.length := ⟨_, rfl⟩
              have HRL := Lib.hid hrl
              have rlb : rl ≤ 60 := by omega
              have HMK := Lib.hid (show mkOf ((kd : Nat) : Int) (tl (lf cb) cl) = some r by rw [HCL.out, hkd]; exact hm)
              have HC := Lib.hid (show Cls r kd cb by rw [hkd]; exact hc)
              obtain ⟨T, hT⟩ : ∃ T, T = (tK kd cb).1 := ⟨_, rfl⟩
              obtain ⟨tz, htz⟩ : ∃ tz, tz = (tK kd cb).2 := ⟨_, rfl⟩
              have HT := Lib.hid hT.symm
              have HTZ := Lib.hid htz.symm
              by_cases hq : T = X
              · have YQ := Lib.hid (show decide (T = X) = true from decide_eq_true hq)
                have PAS := Lib.hid (HGO.out cb r j2 (by omega) (by omega) HCB.out hm (by rw [← hkd, ← hT]; exact hq))
                clear hq hT htz hre hrz hms hl3 hc hrl hkd hm QQ HON HGO
                go_wp2_with (first
                  | ((with_reducible refine wpList_at 72 rfl ?_); refine wpList_known4 rfl (.bool true) _ (by exact exec_lss3v (a := j) (b := 3) (q := true) rfl rfl rfl YL.out) ?_; try simp only [Act.put, List.setIfInBounds_toArray, List.set_cons_zero, List.set_cons_succ])
                  | ((with_reducible refine wpList_at 73 rfl ?_); refine wpList_ix (k := 1) (j := j) Tryd.underlying37 (by kernel_rfl) (.tmp 69) (.tmp 71) rfl rfl rfl rfl HLT.out rfl ?_; rw [Nat.mul_one]; try simp only [Act.put, List.setIfInBounds_toArray, List.set_cons_zero, List.set_cons_succ])
                  | ((with_reducible refine wpList_at 74 rfl ?_); refine wpList_ld1 3 (.tmp 73) rfl rfl rfl Tryd.underlying3 rfl CK.out ?_; try simp only [Act.put, List.setIfInBounds_toArray, List.set_cons_zero, List.set_cons_succ])
                  | (go_at_call 29; ((with_reducible refine (rmake_some R4 (by omega) HMK.out).mono ?_); intro e w6 h6); obtain ⟨p6, g6, c6, rfl, R6, hb⟩ := h6; rw [← HRL.out] at R6 ⊢; have RM := Lib.hid R6; replace XX := Lib.hid (XX.out.trans (hb.mono XX.out.size)); clear R6 hb)
                  | (go_at_call 9; ((with_reducible refine (rtext_known RM HRL (by omega) HC.out).mono ?_); intro e w7 h7); obtain ⟨he7, hb⟩ := h7; rw [HT.out, HTZ.out] at he7; subst he7; replace RM := Lib.hid (RM.out.below hb); replace XX := Lib.hid (XX.out.trans (hb.mono XX.out.size)); clear hb)
                  | ((with_reducible refine wpList_at 90 rfl ?_); refine wpList_known4 rfl (.bool true) _ (by exact exec_eqSd (q := true) rfl rfl rfl YQ.out) ?_; try simp only [Act.put, List.setIfInBounds_toArray, List.set_cons_zero, List.set_cons_succ]))
                go_ret2
                exact aEnd_some PAS.out HRL.out RM.out (BBA.out.trans (XX.out.mono BBA.out.size))
              · have YQ := Lib.hid (show decide (T = X) = false from decide_eq_false hq)
                have QQ2 := Lib.hid (show ∀ i, i < j + 1 → ¬ hitA cb X (2 + i) from fun i hi => by
                  rcases Nat.lt_or_ge i j with h | h
                  · exact QQ.out i h
                  · obtain rfl : i = j := by omega
                    rintro ⟨_, _, h2⟩
                    exact hq (by rw [hT, hkd, hj2]; exact h2))
                clear hq hT htz hre hrz hms hl3 hc hrl hkd hm QQ
                go_wp2_with (first
                  | ((with_reducible refine wpList_at 72 rfl ?_); refine wpList_known4 rfl (.bool true) _ (by exact exec_lss3v (a := j) (b := 3) (q := true) rfl rfl rfl YL.out) ?_; try simp only [Act.put, List.setIfInBounds_toArray, List.set_cons_zero, List.set_cons_succ])
                  | ((with_reducible refine wpList_at 73 rfl ?_); refine wpList_ix (k := 1) (j := j) Tryd.underlying37 (by kernel_rfl) (.tmp 69) (.tmp 71) rfl rfl rfl rfl HLT.out rfl ?_; rw [Nat.mul_one]; try simp only [Act.put, List.setIfInBounds_toArray, List.set_cons_zero, List.set_cons_succ])
                  | ((with_reducible refine wpList_at 74 rfl ?_); refine wpList_ld1 3 (.tmp 73) rfl rfl rfl Tryd.underlying3 rfl CK.out ?_; try simp only [Act.put, List.setIfInBounds_toArray, List.set_cons_zero, List.set_cons_succ])
                  | (go_at_call 29; ((with_reducible refine (rmake_some R4 (by omega) HMK.out).mono ?_); intro e w6 h6); obtain ⟨p6, g6, c6, rfl, R6, hb⟩ := h6; rw [← HRL.out] at R6 ⊢; have RM := Lib.hid R6; replace XX := Lib.hid (XX.out.trans (hb.mono XX.out.size)); clear R6 hb)
                  | (go_at_call 9; ((with_reducible refine (rtext_known RM HRL (by omega) HC.out).mono ?_); intro e w7 h7); obtain ⟨he7, hb⟩ := h7; rw [HT.out, HTZ.out] at he7; subst he7; replace RM := Lib.hid (RM.out.below hb); replace XX := Lib.hid (XX.out.trans (hb.mono XX.out.size)); clear hb)
                  | ((with_reducible refine wpList_at 90 rfl ?_); refine wpList_known4 rfl (.bool false) _ (by exact exec_eqSd (q := false) rfl rfl rfl YQ.out) ?_; try simp only [Act.put, List.setIfInBounds_toArray, List.set_cons_zero, List.set_cons_succ]))
                go_roundg (3 - (j + 1))
                case measure => omega
                case rel => exact ⟨j + 1, by omega, by go_num, QQ2, XX⟩
          · obtain rfl : j = 3 := by omega
            have YL := Lib.hid (show decide (3 < 3) = false by decide)
            have NO := Lib.hid (show pA s = none by
              cases h : pA s with
              | none => rfl
              | some z =>
                obtain ⟨b, h1, i, h2, h3, h4, h5⟩ := HON.out z h
                rw [CPR.out] at h1
                injection h1 with h1 _
                subst h1
                obtain ⟨q, rfl⟩ : ∃ q, i = 2 + q := ⟨i - 2, by omega⟩
                exact absurd ⟨z, h4, h5⟩ (QQ.out q (by omega)))
            clear HON HGO QQ hlt
            go_wp2_with (first
              | ((with_reducible refine wpList_at 72 rfl ?_); refine wpList_known4 rfl (.bool false) _ (by exact exec_lss3v (a := 3) (b := 3) (q := false) rfl rfl rfl YL.out) ?_; try simp only [Act.put, List.setIfInBounds_toArray, List.set_cons_zero, List.set_cons_succ]))
            go_ret2
            exact aEnd_none NO.out (BBA.out.trans (XX.out.mono BBA.out.size))
    · have HUP := Lib.hid (show decide (isUp s) = false from decide_eq_false hup)
      have HSM := Lib.hid (show smS s = s by unfold smS; rw [if_neg hup])
      clear hup
      have HON := Lib.hid (fun z (h : pA s = some z) => bits_only HPS.out h)
      have HGO := Lib.hid (fun (b x : List Nat) (j : Nat) (h2 : 2 ≤ j) (h5 : j < 5) (hb : ∀ x, x ∈ b → x < 256) (h : mkOf ((j + 1 : Nat) : Int) b = some x) (ht : (tK (j + 1) b).1 = smS s) => bits_good h2 h5 hb h ht HPS.out)
      rw [HSM.out] at HON HGO
      obtain ⟨hcb1, hcb2⟩ := cand_lt s
      obtain ⟨cb, hcb⟩ : ∃ cb, cb = (candS s).1 := ⟨_, rfl⟩
      obtain ⟨ok, hok⟩ : ∃ ok, ok = (candS s).2 := ⟨_, rfl⟩
      obtain ⟨cl, hcl⟩ : ∃ cl, cl = cb.length := ⟨_, rfl⟩
      have CDX := Lib.hid (show ∀ W, Calls Tryd.prog 32 #[.string s] W fun e w' => ∃ p g c, e = .returned (.tuple #[.slice p cl c, .bool ok]) ∧ Row w' p g 0 cl c (lf cb) ∧ Below W.heap.size W w' from fun W => by
        have := CDA.out s W
        unfold CandEnd at this
        rw [← hcb, ← hok, ← hcl] at this
        exact this)
      have CPR := Lib.hid (show candS s = (cb, ok) by rw [hcb, hok])
      rw [← hcb] at hcb1 hcb2
      have HCB := Lib.hid hcb1
      have clb : cl ≤ 90 := by omega
      have HCL := Lib.hid (show tl (lf cb) cl = cb by rw [hcl, tl_lf])
      clear hcb hok hcl hcb1 hcb2 CDA
      cases ok with
      | false =>
        have NO := Lib.hid (show pA s = none by
          cases h : pA s with
          | none => rfl
          | some z =>
            obtain ⟨b, h1, _⟩ := HON.out z h
            rw [CPR.out] at h1
            injection h1 with _ h1
            cases h1)
        clear HON HGO CPR HCB HCL
        go_wp2_with (first
          | (go_at_call 30; ((with_reducible refine (rupper_any s HSB.out _).mono ?_); rintro e wu ⟨heu, rfl⟩); rw [HUP.out] at heu; subst heu)
          | (go_at_call 32; ((with_reducible refine (CDX.out _).mono ?_); intro e wc hc9); obtain ⟨pc, gc, cc, rfl, Rc, hb⟩ := hc9; have RC := Lib.hid Rc; replace BB := Lib.hid (BB.out.trans (hb.mono BB.out.size)); clear Rc hb))
        go_ret2
        exact aEnd_none NO.out BB.out
      | true =>
        go_upto_region 17 with (first
          | (go_at_call 30; ((with_reducible refine (rupper_any s HSB.out _).mono ?_); rintro e wu ⟨heu, rfl⟩); rw [HUP.out] at heu; subst heu)
          | (go_at_call 32; ((with_reducible refine (CDX.out _).mono ?_); intro e wc hc9); obtain ⟨pc, gc, cc, rfl, Rc, hb⟩ := hc9; have RC := Lib.hid Rc; replace BB := Lib.hid (BB.out.trans (hb.mono BB.out.size)); clear Rc hb))
        go_upto_region 18 with (first
          | (go_at_call 28; ((with_reducible refine (kinds_any _).mono ?_); intro e wk hk); obtain ⟨p8, g8, rfl, N8, hb⟩ := hk; replace RC := Lib.hid (RC.out.below hb); replace BB := Lib.hid (BB.out.trans (hb.mono BB.out.size)); obtain ⟨p9, e9, R9x⟩ := irow_sub N8.row (l := 2) (h := 5) (by omega) (by omega); have SL3 := Lib.hid (fun W : World => (run_slI (w := W) (bounds_l (n := 5) (l := 2) (c := 5) (by omega))).trans (by rw [e9])); have R9 := Lib.hid R9x; clear N8 hb e9 R9x)
          | ((with_reducible refine wpList_at 69 rfl ?_); refine wpList_known4 rfl (.slice p9 3 3) _ (by exact exec_slL rfl rfl rfl (SL3.out _)) ?_; try simp only [Act.put, List.setIfInBounds_toArray, List.set_cons_zero, List.set_cons_succ]))
        obtain rfl := R9.out.head (by omega)
        have BBA := BB
        have V0 := Lib.hid (Below.refl wk.heap.size wk)
        have Q0 := Lib.hid (show ∀ i, i < 0 → ¬ hitA cb s (2 + i) from fun i h => absurd h (by omega))
        clear BB SL3 CDX
        go_loopg [71] 3 (fun k i wr => ∃ j : Nat, j + k = 3 ∧ i = .int .i64 (j : Int) ∧ Hid (∀ i, i < j → ¬ hitA cb s (2 + i)) ∧ Hid (Below wk.heap.size wk wr))
        case atStart => exact ⟨0, by omega, rfl, Q0, V0⟩
        case round =>
          clear Q0 V0
          obtain ⟨j, hj, rfl, QQ, XX⟩ := hrel
          obtain ⟨kk, rfl⟩ : ∃ kk : Nat, kk = gk := ⟨_, rfl⟩
          obtain ⟨wv, rfl⟩ : ∃ wo : World, wo = wr := ⟨_, rfl⟩
          by_cases hlt : j < 3
          · have HLT := Lib.hid hlt
            have YL := Lib.hid (show decide (j < 3) = true by simp [hlt])
            obtain ⟨j2, hj2⟩ : ∃ j2, j2 = 2 + j := ⟨_, rfl⟩
            obtain ⟨kd, hkd⟩ : ∃ kd, kd = j2 + 1 := ⟨_, rfl⟩
            have CK := Lib.hid (show wv.cell? ⟨g8, 2 + j, none⟩ = some (.int .i64 (kd : Int)) by
              have := irow_cell (R9.out.below XX.out) hlt
              rw [this, hkd, hj2])
            have R4 := Lib.hid (RC.out.below XX.out)
            cases hm : mkOf ((j2 + 1 : Nat) : Int) cb with
            | none =>
              have HMK := Lib.hid (show mkOf ((kd : Nat) : Int) (tl (lf cb) cl) = none by rw [HCL.out, hkd]; exact hm)
              have QQ2 := Lib.hid (show ∀ i, i < j + 1 → ¬ hitA cb s (2 + i) from fun i hi => by
                rcases Nat.lt_or_ge i j with h | h
                · exact QQ.out i h
                · obtain rfl : i = j := by omega
                  rintro ⟨z, h1, _⟩
                  rw [← hj2, hm] at h1
                  cases h1)
              clear hm hkd QQ
              go_wp2_with (first
                | ((with_reducible refine wpList_at 72 rfl ?_); refine wpList_known4 rfl (.bool true) _ (by exact exec_lss3v (a := j) (b := 3) (q := true) rfl rfl rfl YL.out) ?_; try simp only [Act.put, List.setIfInBounds_toArray, List.set_cons_zero, List.set_cons_succ])
                | ((with_reducible refine wpList_at 73 rfl ?_); refine wpList_ix (k := 1) (j := j) Tryd.underlying37 (by kernel_rfl) (.tmp 69) (.tmp 71) rfl rfl rfl rfl HLT.out rfl ?_; rw [Nat.mul_one]; try simp only [Act.put, List.setIfInBounds_toArray, List.set_cons_zero, List.set_cons_succ])
                | ((with_reducible refine wpList_at 74 rfl ?_); refine wpList_ld1 3 (.tmp 73) rfl rfl rfl Tryd.underlying3 rfl CK.out ?_; try simp only [Act.put, List.setIfInBounds_toArray, List.set_cons_zero, List.set_cons_succ])
                | (go_at_call 29; ((with_reducible refine (rmake_none R4 (by omega) HMK.out).mono ?_); intro e w6 h6); obtain ⟨p6, g6, c6, rfl, R6, hb⟩ := h6; have RM := Lib.hid R6; replace XX := Lib.hid (XX.out.trans (hb.mono XX.out.size)); clear R6 hb)
                | (go_at_call 9; ((with_reducible refine (rtext_some RM (by omega)).mono ?_); intro e w7 h7); obtain ⟨TT, tz, rfl, hb⟩ := h7; replace XX := Lib.hid (XX.out.trans (hb.mono XX.out.size)); clear hb))
              go_roundg (3 - (j + 1))
              case measure => omega
              case rel => exact ⟨j + 1, by omega, by go_num, QQ2, XX⟩
            | some r =>
              have hc := cls_mkA (by omega) hm
              have hl3 := cls_short hc (by omega) (by omega)
              rw [Nat.add_sub_cancel] at hl3
              have hms := mk_sizes (j := j2) (b := cb) (by omega) hl3
              rw [hm] at hms
              have hre : r = hL j2 ++ cb ++ tL j2 := by have := hms.1; injection this
              have hrz : r.length ≤ 60 := by rw [hre]; exact hms.2.2
              obtain ⟨rl, hrl⟩ : ∃ rl, rl = r.length := ⟨_, rfl⟩
              have HRL := Lib.hid hrl
              have rlb : rl ≤ 60 := by omega
              have HMK := Lib.hid (show mkOf ((kd : Nat) : Int) (tl (lf cb) cl) = some r by rw [HCL.out, hkd]; exact hm)
              have HC := Lib.hid (show Cls r kd cb by rw [hkd]; exact hc)
              obtain ⟨T, hT⟩ : ∃ T, T = (tK kd cb).1 := ⟨_, rfl⟩
              obtain ⟨tz, htz⟩ : ∃ tz, tz = (tK kd cb).2 := ⟨_, rfl⟩
              have HT := Lib.hid hT.symm
              have HTZ := Lib.hid htz.symm
              by_cases hq : T = s
              · have YQ := Lib.hid (show decide (T = s) = true from decide_eq_true hq)
                have PAS := Lib.hid (HGO.out cb r j2 (by omega) (by omega) HCB.out hm (by rw [← hkd, ← hT]; exact hq))
                clear hq hT htz hre hrz hms hl3 hc hrl hkd hm QQ HON HGO
                go_wp2_with (first
                  | ((with_reducible refine wpList_at 72 rfl ?_); refine wpList_known4 rfl (.bool true) _ (by exact exec_lss3v (a := j) (b := 3) (q := true) rfl rfl rfl YL.out) ?_; try simp only [Act.put, List.setIfInBounds_toArray, List.set_cons_zero, List.set_cons_succ])
                  | ((with_reducible refine wpList_at 73 rfl ?_); refine wpList_ix (k := 1) (j := j) Tryd.underlying37 (by kernel_rfl) (.tmp 69) (.tmp 71) rfl rfl rfl rfl HLT.out rfl ?_; rw [Nat.mul_one]; try simp only [Act.put, List.setIfInBounds_toArray, List.set_cons_zero, List.set_cons_succ])
                  | ((with_reducible refine wpList_at 74 rfl ?_); refine wpList_ld1 3 (.tmp 73) rfl rfl rfl Tryd.underlying3 rfl CK.out ?_; try simp only [Act.put, List.setIfInBounds_toArray, List.set_cons_zero, List.set_cons_succ])
                  | (go_at_call 29; ((with_reducible refine (rmake_some R4 (by omega) HMK.out).mono ?_); intro e w6 h6); obtain ⟨p6, g6, c6, rfl, R6, hb⟩ := h6; rw [← HRL.out] at R6 ⊢; have RM := Lib.hid R6; replace XX := Lib.hid (XX.out.trans (hb.mono XX.out.size)); clear R6 hb)
                  | (go_at_call 9; ((with_reducible refine (rtext_known RM HRL (by omega) HC.out).mono ?_); intro e w7 h7); obtain ⟨he7, hb⟩ := h7; rw [HT.out, HTZ.out] at he7; subst he7; replace RM := Lib.hid (RM.out.below hb); replace XX := Lib.hid (XX.out.trans (hb.mono XX.out.size)); clear hb)
                  | ((with_reducible refine wpList_at 90 rfl ?_); refine wpList_known4 rfl (.bool true) _ (by exact exec_eqSd (q := true) rfl rfl rfl YQ.out) ?_; try simp only [Act.put, List.setIfInBounds_toArray, List.set_cons_zero, List.set_cons_succ]))
                go_ret2
                exact aEnd_some PAS.out HRL.out RM.out (BBA.out.trans (XX.out.mono BBA.out.size))
              · have YQ := Lib.hid (show decide (T = s) = false from decide_eq_false hq)
                have QQ2 := Lib.hid (show ∀ i, i < j + 1 → ¬ hitA cb s (2 + i) from fun i hi => by
                  rcases Nat.lt_or_ge i j with h | h
                  · exact QQ.out i h
                  · obtain rfl : i = j := by omega
                    rintro ⟨_, _, h2⟩
                    exact hq (by rw [hT, hkd, hj2]; exact h2))
                clear hq hT htz hre hrz hms hl3 hc hrl hkd hm QQ
                go_wp2_with (first
                  | ((with_reducible refine wpList_at 72 rfl ?_); refine wpList_known4 rfl (.bool true) _ (by exact exec_lss3v (a := j) (b := 3) (q := true) rfl rfl rfl YL.out) ?_; try simp only [Act.put, List.setIfInBounds_toArray, List.set_cons_zero, List.set_cons_succ])
                  | ((with_reducible refine wpList_at 73 rfl ?_); refine wpList_ix (k := 1) (j := j) Tryd.underlying37 (by kernel_rfl) (.tmp 69) (.tmp 71) rfl rfl rfl rfl HLT.out rfl ?_; rw [Nat.mul_one]; try simp only [Act.put, List.setIfInBounds_toArray, List.set_cons_zero, List.set_cons_succ])
                  | ((with_reducible refine wpList_at 74 rfl ?_); refine wpList_ld1 3 (.tmp 73) rfl rfl rfl Tryd.underlying3 rfl CK.out ?_; try simp only [Act.put, List.setIfInBounds_toArray, List.set_cons_zero, List.set_cons_succ])
                  | (go_at_call 29; ((with_reducible refine (rmake_some R4 (by omega) HMK.out).mono ?_); intro e w6 h6); obtain ⟨p6, g6, c6, rfl, R6, hb⟩ := h6; rw [← HRL.out] at R6 ⊢; have RM := Lib.hid R6; replace XX := Lib.hid (XX.out.trans (hb.mono XX.out.size)); clear R6 hb)
                  | (go_at_call 9; ((with_reducible refine (rtext_known RM HRL (by omega) HC.out).mono ?_); intro e w7 h7); obtain ⟨he7, hb⟩ := h7; rw [HT.out, HTZ.out] at he7; subst he7; replace RM := Lib.hid (RM.out.below hb); replace XX := Lib.hid (XX.out.trans (hb.mono XX.out.size)); clear hb)
                  | ((with_reducible refine wpList_at 90 rfl ?_); refine wpList_known4 rfl (.bool false) _ (by exact exec_eqSd (q := false) rfl rfl rfl YQ.out) ?_; try simp only [Act.put, List.setIfInBounds_toArray, List.set_cons_zero, List.set_cons_succ]))
                go_roundg (3 - (j + 1))
                case measure => omega
                case rel => exact ⟨j + 1, by omega, by go_num, QQ2, XX⟩
          · obtain rfl : j = 3 := by omega
            have YL := Lib.hid (show decide (3 < 3) = false by decide)
            have NO := Lib.hid (show pA s = none by
              cases h : pA s with
              | none => rfl
              | some z =>
                obtain ⟨b, h1, i, h2, h3, h4, h5⟩ := HON.out z h
                rw [CPR.out] at h1
                injection h1 with h1 _
                subst h1
                obtain ⟨q, rfl⟩ : ∃ q, i = 2 + q := ⟨i - 2, by omega⟩
                exact absurd ⟨z, h4, h5⟩ (QQ.out q (by omega)))
            clear HON HGO QQ hlt
            go_wp2_with (first
              | ((with_reducible refine wpList_at 72 rfl ?_); refine wpList_known4 rfl (.bool false) _ (by exact exec_lss3v (a := 3) (b := 3) (q := false) rfl rfl rfl YL.out) ?_; try simp only [Act.put, List.setIfInBounds_toArray, List.set_cons_zero, List.set_cons_succ]))
            go_ret2
            exact aEnd_none NO.out (BBA.out.trans (XX.out.mono BBA.out.size))
  · obtain ⟨l, hl⟩ : ∃ l, l = reb 58 256 (plL D58 s) := ⟨_, rfl⟩
    obtain ⟨n, hn⟩ : ∃ n, n = l.length := ⟨_, rfl⟩
    have RUN := Lib.hid (runb_good hU hl.symm hn w)
    by_cases h25 : n = 25
    · obtain rfl : 25 = n := h25.symm
      obtain ⟨b, hbd⟩ : ∃ b, b = tl (fun i => lf l (1 + i)) 20 := ⟨_, rfl⟩
      have hbb : ∀ x, x ∈ b → x < 256 := by rw [hbd]; exact isB_tl (fun i => lf_lt (by rw [hl]; exact reb_lt (by omega) _) _) 20
      have hb20 : b.length = 20 := by rw [hbd]; exact tl_length _ _
      have hdt : (l.drop 1).take 20 = b := by
        have e1 : l = tl (lf l) 25 := by rw [hn, tl_lf]
        have e2 : l.drop 1 = tl (fun i => lf l (1 + i)) 24 := (congrArg (List.drop 1) e1).trans (tl_drop (f := lf l) (n := 25) (k := 1) (by omega))
        rw [hbd, e2]
        exact tl_take (by omega)
      have ONLY := Lib.hid (show ∀ z, pS s = some z → ∃ j, j < 2 ∧ hitA b s j from fun z hz => by
        obtain ⟨_, l2, b2, h1, h2, h3, j, h4, h5, h6⟩ := sums_only hz
        rw [← hl] at h1
        subst h1
        rw [hdt] at h3
        subst h3
        exact ⟨j, h4, z, h5, h6⟩)
      have GOOD := Lib.hid (show ∀ j z, j < 2 → mkOf ((j + 1 : Nat) : Int) b = some z → (tK (j + 1) b).1 = s → pS s = some z from fun j z hj h1 h2 => sums_good hj hbb h1 h2)
      have HB20 := Lib.hid hb20
      have HBD := Lib.hid hbd.symm
      have Y1 := Lib.hid (show decide ((0 : Int) = 0) = true by decide)
      have Q0 := Lib.hid (show ∀ i, i < 0 → ¬ hitA b s i from fun i h => absurd h (by omega))
      clear hU hl hbd hbb hb20 hdt hs hsb hn
      go_enter Tryd.func12, Tryd.ntmps12
      go_upto_region 3 with (first
        | (go_at_call 27; ((with_reducible refine RUN.out.mono ?_); intro e w2 h2); obtain ⟨p2, g2, c2, rfl, N2, hb⟩ := h2; have N := Lib.hid N2; have BB := Lib.hid hb; clear N2 hb)
        | ((with_reducible refine wpList_at 26 rfl ?_); refine wpList_known4 rfl (.bool true) _ (by exact exec_eqE3 (z := 0) (z2 := 0) (q := true) rfl rfl rfl Y1.out) ?_; try simp only [Act.put, List.setIfInBounds_toArray, List.set_cons_zero, List.set_cons_succ]))
      obtain ⟨p3, e3, R3x⟩ := N.out.row.slice (l := 1) (h := 21) (m := c2) (by omega) (by omega) (by have := N.out.row.le; omega) (Nat.le_refl _)
      have SL1 := Lib.hid (fun W : World => (run_sl (w := W) (bounds_lh (n := 25) (l := 1) (h := 21) (c := c2) (by omega) (by have := N.out.row.le; omega))).trans (by rw [e3]))
      have R3 := Lib.hid R3x
      clear e3 R3x N
      go_upto_region 4 with (first
        | (go_at_call 28; ((with_reducible refine (kinds_any _).mono ?_); intro e w4 h4); obtain ⟨p4, g4, rfl, N4, hb⟩ := h4; replace R3 := Lib.hid (R3.out.below hb); replace BB := Lib.hid (BB.out.trans (hb.mono BB.out.size)); obtain ⟨p5, e5, R5x⟩ := irow_sub N4.row (l := 0) (h := 2) (by omega) (by omega); have SL2 := Lib.hid (fun W : World => (run_slI (w := W) (bounds_h (n := 5) (h := 2) (c := 5) (by omega))).trans (by rw [e5])); have R5 := Lib.hid R5x; clear N4 hb e5 R5x)
        | ((with_reducible refine wpList_at 33 rfl ?_); refine wpList_known4 rfl (.slice p5 2 5) _ (by exact exec_slH rfl rfl rfl (SL2.out _)) ?_; try simp only [Act.put, List.setIfInBounds_toArray, List.set_cons_zero, List.set_cons_succ]))
      obtain rfl := R5.out.head (by omega)
      have BB0 := BB
      have X0 := Lib.hid (Below.refl w4.heap.size w4)
      clear BB SL2 RUN Y1
      go_loopg [35] 2 (fun k i wr => ∃ j : Nat, j + k = 2 ∧ i = .int .i64 (j : Int) ∧ Hid (∀ i, i < j → ¬ hitA b s i) ∧ Hid (Below w4.heap.size w4 wr))
      case atStart => exact ⟨0, by omega, rfl, Q0, X0⟩
      case round =>
        clear Q0 X0
        obtain ⟨j, hj, rfl, QQ, XX⟩ := hrel
        obtain ⟨kk, rfl⟩ : ∃ kk : Nat, kk = gk := ⟨_, rfl⟩
        obtain ⟨wo, rfl⟩ : ∃ wo : World, wo = wr := ⟨_, rfl⟩
        by_cases hlt : j < 2
        · have HLT := Lib.hid hlt
          have YL := Lib.hid (show decide (j < 2) = true by simp [hlt])
          have hcj : cC j = 20 := by
            have c : j = 0 ∨ j = 1 := by omega
            rcases c with rfl | rfl <;> rfl
          obtain ⟨kd, hkd⟩ : ∃ kd, kd = j + 1 := ⟨_, rfl⟩
          have CK := Lib.hid (show wo.cell? ⟨g4, 0 + j, none⟩ = some (.int .i64 (kd : Int)) by
            have := irow_cell (R5.out.below XX.out) hlt
            rw [this, hkd, Nat.zero_add])
          obtain ⟨m1, m2, m3⟩ := mk_sizes (j := j) (b := b) (by omega) (by rw [HB20.out, hcj])
          obtain ⟨r, hr⟩ : ∃ r, r = hL j ++ b ++ tL j := ⟨_, rfl⟩
          rw [← hr] at m1 m2 m3
          obtain ⟨rl, hrl⟩ : ∃ rl, rl = r.length := ⟨_, rfl⟩
          have HRL := Lib.hid hrl
          have rlb : rl ≤ 60 := by omega
          have HMK := Lib.hid (show mkOf ((kd : Nat) : Int) (tl (fun i => lf l (1 + i)) 20) = some r by rw [HBD.out, hkd]; exact m1)
          have HC := Lib.hid (show Cls r kd b by rw [hkd]; exact m2)
          obtain ⟨T, hT⟩ : ∃ T, T = (tK kd b).1 := ⟨_, rfl⟩
          obtain ⟨tz, htz⟩ : ∃ tz, tz = (tK kd b).2 := ⟨_, rfl⟩
          have HT := Lib.hid hT.symm
          have HTZ := Lib.hid htz.symm
          have R4 := Lib.hid (R3.out.below XX.out)
          by_cases hq : T = s
          · have YQ := Lib.hid (show decide (T = s) = true from decide_eq_true hq)
            have PAS := Lib.hid (pA_sum (GOOD.out j r hlt m1 (by rw [← hkd, ← hT]; exact hq)))
            clear hq hT htz hr m1 m2 m3 hrl hkd hlt hcj QQ
            go_wp2_with (first
              | ((with_reducible refine wpList_at 36 rfl ?_); refine wpList_known4 rfl (.bool true) _ (by exact exec_lss3v (a := j) (b := 2) (q := true) rfl rfl rfl YL.out) ?_; try simp only [Act.put, List.setIfInBounds_toArray, List.set_cons_zero, List.set_cons_succ])
              | ((with_reducible refine wpList_at 37 rfl ?_); refine wpList_ix (k := 1) (j := j) Tryd.underlying37 (by kernel_rfl) (.tmp 33) (.tmp 35) rfl rfl rfl rfl HLT.out rfl ?_; rw [Nat.mul_one]; try simp only [Act.put, List.setIfInBounds_toArray, List.set_cons_zero, List.set_cons_succ])
              | ((with_reducible refine wpList_at 38 rfl ?_); refine wpList_ld1 3 (.tmp 37) rfl rfl rfl Tryd.underlying3 rfl CK.out ?_; try simp only [Act.put, List.setIfInBounds_toArray, List.set_cons_zero, List.set_cons_succ])
              | ((with_reducible refine wpList_at 42 rfl ?_); refine wpList_known4 rfl (.slice p3 20 (c2 - 1)) _ (by exact exec_slLH rfl rfl rfl rfl (SL1.out _)) ?_; try simp only [Act.put, List.setIfInBounds_toArray, List.set_cons_zero, List.set_cons_succ])
              | (go_at_call 29; ((with_reducible refine (rmake_some R4 (by omega) HMK.out).mono ?_); intro e w6 h6); obtain ⟨p6, g6, c6, rfl, R6, hb⟩ := h6; rw [← HRL.out] at R6 ⊢; have RM := Lib.hid R6; replace XX := Lib.hid (XX.out.trans (hb.mono XX.out.size)); clear R6 hb)
              | (go_at_call 9; ((with_reducible refine (rtext_known RM HRL (by omega) HC.out).mono ?_); intro e w7 h7); obtain ⟨he7, hb⟩ := h7; rw [HT.out, HTZ.out] at he7; subst he7; replace RM := Lib.hid (RM.out.below hb); replace XX := Lib.hid (XX.out.trans (hb.mono XX.out.size)); clear hb)
              | ((with_reducible refine wpList_at 53 rfl ?_); refine wpList_known4 rfl (.bool true) _ (by exact exec_eqSd (q := true) rfl rfl rfl YQ.out) ?_; try simp only [Act.put, List.setIfInBounds_toArray, List.set_cons_zero, List.set_cons_succ]))
            go_ret2
            exact aEnd_some PAS.out HRL.out RM.out (BB0.out.trans (XX.out.mono BB0.out.size))
          · have YQ := Lib.hid (show decide (T = s) = false from decide_eq_false hq)
            have QQ2 := Lib.hid (show ∀ i, i < j + 1 → ¬ hitA b s i from fun i hi => by
              rcases Nat.lt_or_ge i j with h | h
              · exact QQ.out i h
              · obtain rfl : i = j := by omega
                rintro ⟨_, _, h2⟩
                exact hq (by rw [hT, hkd]; exact h2))
            clear hq hT htz hr m1 m2 m3 hrl hkd hcj QQ
            go_wp2_with (first
              | ((with_reducible refine wpList_at 36 rfl ?_); refine wpList_known4 rfl (.bool true) _ (by exact exec_lss3v (a := j) (b := 2) (q := true) rfl rfl rfl YL.out) ?_; try simp only [Act.put, List.setIfInBounds_toArray, List.set_cons_zero, List.set_cons_succ])
              | ((with_reducible refine wpList_at 37 rfl ?_); refine wpList_ix (k := 1) (j := j) Tryd.underlying37 (by kernel_rfl) (.tmp 33) (.tmp 35) rfl rfl rfl rfl HLT.out rfl ?_; rw [Nat.mul_one]; try simp only [Act.put, List.setIfInBounds_toArray, List.set_cons_zero, List.set_cons_succ])
              | ((with_reducible refine wpList_at 38 rfl ?_); refine wpList_ld1 3 (.tmp 37) rfl rfl rfl Tryd.underlying3 rfl CK.out ?_; try simp only [Act.put, List.setIfInBounds_toArray, List.set_cons_zero, List.set_cons_succ])
              | ((with_reducible refine wpList_at 42 rfl ?_); refine wpList_known4 rfl (.slice p3 20 (c2 - 1)) _ (by exact exec_slLH rfl rfl rfl rfl (SL1.out _)) ?_; try simp only [Act.put, List.setIfInBounds_toArray, List.set_cons_zero, List.set_cons_succ])
              | (go_at_call 29; ((with_reducible refine (rmake_some R4 (by omega) HMK.out).mono ?_); intro e w6 h6); obtain ⟨p6, g6, c6, rfl, R6, hb⟩ := h6; rw [← HRL.out] at R6 ⊢; have RM := Lib.hid R6; replace XX := Lib.hid (XX.out.trans (hb.mono XX.out.size)); clear R6 hb)
              | (go_at_call 9; ((with_reducible refine (rtext_known RM HRL (by omega) HC.out).mono ?_); intro e w7 h7); obtain ⟨he7, hb⟩ := h7; rw [HT.out, HTZ.out] at he7; subst he7; replace RM := Lib.hid (RM.out.below hb); replace XX := Lib.hid (XX.out.trans (hb.mono XX.out.size)); clear hb)
              | ((with_reducible refine wpList_at 53 rfl ?_); refine wpList_known4 rfl (.bool false) _ (by exact exec_eqSd (q := false) rfl rfl rfl YQ.out) ?_; try simp only [Act.put, List.setIfInBounds_toArray, List.set_cons_zero, List.set_cons_succ]))
            go_roundg (2 - (j + 1))
            case measure => omega
            case rel => exact ⟨j + 1, by omega, by go_num, QQ2, XX⟩
        · obtain rfl : j = 2 := by omega
          have YL := Lib.hid (show decide (2 < 2) = false by decide)
          have HPS := Lib.hid (show pS s = none by
            cases h : pS s with
            | none => rfl
            | some z =>
              obtain ⟨i, h1, h2⟩ := ONLY.out z h
              exact absurd h2 (QQ.out i h1))
          have BB := Lib.hid (BB0.out.trans (XX.out.mono BB0.out.size))
          clear QQ XX ONLY GOOD R3 R5 BB0 HB20 HBD hlt SL1
          go_upto_region 11 with (first
            | ((with_reducible refine wpList_at 36 rfl ?_); refine wpList_known4 rfl (.bool false) _ (by exact exec_lss3v (a := 2) (b := 2) (q := false) rfl rfl rfl YL.out) ?_; try simp only [Act.put, List.setIfInBounds_toArray, List.set_cons_zero, List.set_cons_succ]))
          by_cases hup : isUp s
          · obtain ⟨X, hX⟩ : ∃ X, X = lwS s := ⟨_, rfl⟩
            have HUP := Lib.hid (show decide (isUp s) = true from decide_eq_true hup)
            have HLW := Lib.hid hX.symm
            have HSM := Lib.hid (show smS s = X by unfold smS; rw [if_pos hup, hX])
            clear hup hX
            have HON := Lib.hid (fun z (h : pA s = some z) => bits_only HPS.out h)
            have HGO := Lib.hid (fun (b x : List Nat) (j : Nat) (h2 : 2 ≤ j) (h5 : j < 5) (hb : ∀ x, x ∈ b → x < 256) (h : mkOf ((j + 1 : Nat) : Int) b = some x) (ht : (tK (j + 1) b).1 = smS s) => bits_good h2 h5 hb h ht HPS.out)
            rw [HSM.out] at HON HGO
            obtain ⟨hcb1, hcb2⟩ := cand_lt X
            obtain ⟨cb, hcb⟩ : ∃ cb, cb = (candS X).1 := ⟨_, rfl⟩
            obtain ⟨ok, hok⟩ : ∃ ok, ok = (candS X).2 := ⟨_, rfl⟩
            obtain ⟨cl, hcl⟩ : ∃ cl, cl = cb.length := ⟨_, rfl⟩
            have CDX := Lib.hid (show ∀ W, Calls Tryd.prog 32 #[.string X] W fun e w' => ∃ p g c, e = .returned (.tuple #[.slice p cl c, .bool ok]) ∧ Row w' p g 0 cl c (lf cb) ∧ Below W.heap.size W w' from fun W => by
              have := CDA.out X W
              unfold CandEnd at this
              rw [← hcb, ← hok, ← hcl] at this
              exact this)
            have CPR := Lib.hid (show candS X = (cb, ok) by rw [hcb, hok])
            rw [← hcb] at hcb1 hcb2
            have HCB := Lib.hid hcb1
            have clb : cl ≤ 90 := by omega
            have HCL := Lib.hid (show tl (lf cb) cl = cb by rw [hcl, tl_lf])
            clear hcb hok hcl hcb1 hcb2 CDA
            cases ok with
            | false =>
              have NO := Lib.hid (show pA s = none by
                cases h : pA s with
                | none => rfl
                | some z =>
                  obtain ⟨b, h1, _⟩ := HON.out z h
                  rw [CPR.out] at h1
                  injection h1 with _ h1
                  cases h1)
              clear HON HGO CPR HCB HCL
              go_wp2_with (first
                | (go_at_call 30; ((with_reducible refine (rupper_any s HSB.out _).mono ?_); rintro e wu ⟨heu, rfl⟩); rw [HUP.out] at heu; subst heu)
                | (go_at_call 31; ((with_reducible refine (LOW.out _).mono ?_); intro e wl hl9); obtain ⟨hel, hb⟩ := hl9; rw [HLW.out] at hel; subst hel; replace BB := Lib.hid (BB.out.trans (hb.mono BB.out.size)); clear hb)
                | (go_at_call 32; ((with_reducible refine (CDX.out _).mono ?_); intro e wc hc9); obtain ⟨pc, gc, cc, rfl, Rc, hb⟩ := hc9; have RC := Lib.hid Rc; replace BB := Lib.hid (BB.out.trans (hb.mono BB.out.size)); clear Rc hb))
              go_ret2
              exact aEnd_none NO.out BB.out
            | true =>
              go_upto_region 17 with (first
                | (go_at_call 30; ((with_reducible refine (rupper_any s HSB.out _).mono ?_); rintro e wu ⟨heu, rfl⟩); rw [HUP.out] at heu; subst heu)
                | (go_at_call 31; ((with_reducible refine (LOW.out _).mono ?_); intro e wl hl9); obtain ⟨hel, hb⟩ := hl9; rw [HLW.out] at hel; subst hel; replace BB := Lib.hid (BB.out.trans (hb.mono BB.out.size)); clear hb)
                | (go_at_call 32; ((with_reducible refine (CDX.out _).mono ?_); intro e wc hc9); obtain ⟨pc, gc, cc, rfl, Rc, hb⟩ := hc9; have RC := Lib.hid Rc; replace BB := Lib.hid (BB.out.trans (hb.mono BB.out.size)); clear Rc hb))
              go_upto_region 18 with (first
                | (go_at_call 28; ((with_reducible refine (kinds_any _).mono ?_); intro e wk hk); obtain ⟨p8, g8, rfl, N8, hb⟩ := hk; replace RC := Lib.hid (RC.out.below hb); replace BB := Lib.hid (BB.out.trans (hb.mono BB.out.size)); obtain ⟨p9, e9, R9x⟩ := irow_sub N8.row (l := 2) (h := 5) (by omega) (by omega); have SL3 := Lib.hid (fun W : World => (run_slI (w := W) (bounds_l (n := 5) (l := 2) (c := 5) (by omega))).trans (by rw [e9])); have R9 := Lib.hid R9x; clear N8 hb e9 R9x)
                | ((with_reducible refine wpList_at 69 rfl ?_); refine wpList_known4 rfl (.slice p9 3 3) _ (by exact exec_slL rfl rfl rfl (SL3.out _)) ?_; try simp only [Act.put, List.setIfInBounds_toArray, List.set_cons_zero, List.set_cons_succ]))
              obtain rfl := R9.out.head (by omega)
              have BBA := BB
              have V0 := Lib.hid (Below.refl wk.heap.size wk)
              have Q0 := Lib.hid (show ∀ i, i < 0 → ¬ hitA cb X (2 + i) from fun i h => absurd h (by omega))
              clear BB SL3 CDX
              go_loopg [71] 3 (fun k i wr => ∃ j : Nat, j + k = 3 ∧ i = .int .i64 (j : Int) ∧ Hid (∀ i, i < j → ¬ hitA cb X (2 + i)) ∧ Hid (Below wk.heap.size wk wr))
              case atStart => exact ⟨0, by omega, rfl, Q0, V0⟩
              case round =>
                clear Q0 V0
                obtain ⟨j, hj, rfl, QQ, XX⟩ := hrel
                obtain ⟨kk, rfl⟩ : ∃ kk : Nat, kk = gk := ⟨_, rfl⟩
                obtain ⟨wv, rfl⟩ : ∃ wo : World, wo = wr := ⟨_, rfl⟩
                by_cases hlt : j < 3
                · have HLT := Lib.hid hlt
                  have YL := Lib.hid (show decide (j < 3) = true by simp [hlt])
                  obtain ⟨j2, hj2⟩ : ∃ j2, j2 = 2 + j := ⟨_, rfl⟩
                  obtain ⟨kd, hkd⟩ : ∃ kd, kd = j2 + 1 := ⟨_, rfl⟩
                  have CK := Lib.hid (show wv.cell? ⟨g8, 2 + j, none⟩ = some (.int .i64 (kd : Int)) by
                    have := irow_cell (R9.out.below XX.out) hlt
                    rw [this, hkd, hj2])
                  have R4 := Lib.hid (RC.out.below XX.out)
                  cases hm : mkOf ((j2 + 1 : Nat) : Int) cb with
                  | none =>
                    have HMK := Lib.hid (show mkOf ((kd : Nat) : Int) (tl (lf cb) cl) = none by rw [HCL.out, hkd]; exact hm)
                    have QQ2 := Lib.hid (show ∀ i, i < j + 1 → ¬ hitA cb X (2 + i) from fun i hi => by
                      rcases Nat.lt_or_ge i j with h | h
                      · exact QQ.out i h
                      · obtain rfl : i = j := by omega
                        rintro ⟨z, h1, _⟩
                        rw [← hj2, hm] at h1
                        cases h1)
                    clear hm hkd QQ
                    go_wp2_with (first
                      | ((with_reducible refine wpList_at 72 rfl ?_); refine wpList_known4 rfl (.bool true) _ (by exact exec_lss3v (a := j) (b := 3) (q := true) rfl rfl rfl YL.out) ?_; try simp only [Act.put, List.setIfInBounds_toArray, List.set_cons_zero, List.set_cons_succ])
                      | ((with_reducible refine wpList_at 73 rfl ?_); refine wpList_ix (k := 1) (j := j) Tryd.underlying37 (by kernel_rfl) (.tmp 69) (.tmp 71) rfl rfl rfl rfl HLT.out rfl ?_; rw [Nat.mul_one]; try simp only [Act.put, List.setIfInBounds_toArray, List.set_cons_zero, List.set_cons_succ])
                      | ((with_reducible refine wpList_at 74 rfl ?_); refine wpList_ld1 3 (.tmp 73) rfl rfl rfl Tryd.underlying3 rfl CK.out ?_; try simp only [Act.put, List.setIfInBounds_toArray, List.set_cons_zero, List.set_cons_succ])
                      | (go_at_call 29; ((with_reducible refine (rmake_none R4 (by omega) HMK.out).mono ?_); intro e w6 h6); obtain ⟨p6, g6, c6, rfl, R6, hb⟩ := h6; have RM := Lib.hid R6; replace XX := Lib.hid (XX.out.trans (hb.mono XX.out.size)); clear R6 hb)
                      | (go_at_call 9; ((with_reducible refine (rtext_some RM (by omega)).mono ?_); intro e w7 h7); obtain ⟨TT, tz, rfl, hb⟩ := h7; replace XX := Lib.hid (XX.out.trans (hb.mono XX.out.size)); clear hb))
                    go_roundg (3 - (j + 1))
                    case measure => omega
                    case rel => exact ⟨j + 1, by omega, by go_num, QQ2, XX⟩
                  | some r =>
                    have hc := cls_mkA (by omega) hm
                    have hl3 := cls_short hc (by omega) (by omega)
                    rw [Nat.add_sub_cancel] at hl3
                    have hms := mk_sizes (j := j2) (b := cb) (by omega) hl3
                    rw [hm] at hms
                    have hre : r = hL j2 ++ cb ++ tL j2 := by have := hms.1; injection this
                    have hrz : r.length ≤ 60 := by rw [hre]; exact hms.2.2
                    obtain ⟨rl, hrl⟩ : ∃ rl, rl = r.length := ⟨_, rfl⟩
                    have HRL := Lib.hid hrl
                    have rlb : rl ≤ 60 := by omega
                    have HMK := Lib.hid (show mkOf ((kd : Nat) : Int) (tl (lf cb) cl) = some r by rw [HCL.out, hkd]; exact hm)
                    have HC := Lib.hid (show Cls r kd cb by rw [hkd]; exact hc)
                    obtain ⟨T, hT⟩ : ∃ T, T = (tK kd cb).1 := ⟨_, rfl⟩
                    obtain ⟨tz, htz⟩ : ∃ tz, tz = (tK kd cb).2 := ⟨_, rfl⟩
                    have HT := Lib.hid hT.symm
                    have HTZ := Lib.hid htz.symm
                    by_cases hq : T = X
                    · have YQ := Lib.hid (show decide (T = X) = true from decide_eq_true hq)
                      have PAS := Lib.hid (HGO.out cb r j2 (by omega) (by omega) HCB.out hm (by rw [← hkd, ← hT]; exact hq))
                      clear hq hT htz hre hrz hms hl3 hc hrl hkd hm QQ HON HGO
                      go_wp2_with (first
                        | ((with_reducible refine wpList_at 72 rfl ?_); refine wpList_known4 rfl (.bool true) _ (by exact exec_lss3v (a := j) (b := 3) (q := true) rfl rfl rfl YL.out) ?_; try simp only [Act.put, List.setIfInBounds_toArray, List.set_cons_zero, List.set_cons_succ])
                        | ((with_reducible refine wpList_at 73 rfl ?_); refine wpList_ix (k := 1) (j := j) Tryd.underlying37 (by kernel_rfl) (.tmp 69) (.tmp 71) rfl rfl rfl rfl HLT.out rfl ?_; rw [Nat.mul_one]; try simp only [Act.put, List.setIfInBounds_toArray, List.set_cons_zero, List.set_cons_succ])
                        | ((with_reducible refine wpList_at 74 rfl ?_); refine wpList_ld1 3 (.tmp 73) rfl rfl rfl Tryd.underlying3 rfl CK.out ?_; try simp only [Act.put, List.setIfInBounds_toArray, List.set_cons_zero, List.set_cons_succ])
                        | (go_at_call 29; ((with_reducible refine (rmake_some R4 (by omega) HMK.out).mono ?_); intro e w6 h6); obtain ⟨p6, g6, c6, rfl, R6, hb⟩ := h6; rw [← HRL.out] at R6 ⊢; have RM := Lib.hid R6; replace XX := Lib.hid (XX.out.trans (hb.mono XX.out.size)); clear R6 hb)
                        | (go_at_call 9; ((with_reducible refine (rtext_known RM HRL (by omega) HC.out).mono ?_); intro e w7 h7); obtain ⟨he7, hb⟩ := h7; rw [HT.out, HTZ.out] at he7; subst he7; replace RM := Lib.hid (RM.out.below hb); replace XX := Lib.hid (XX.out.trans (hb.mono XX.out.size)); clear hb)
                        | ((with_reducible refine wpList_at 90 rfl ?_); refine wpList_known4 rfl (.bool true) _ (by exact exec_eqSd (q := true) rfl rfl rfl YQ.out) ?_; try simp only [Act.put, List.setIfInBounds_toArray, List.set_cons_zero, List.set_cons_succ]))
                      go_ret2
                      exact aEnd_some PAS.out HRL.out RM.out (BBA.out.trans (XX.out.mono BBA.out.size))
                    · have YQ := Lib.hid (show decide (T = X) = false from decide_eq_false hq)
                      have QQ2 := Lib.hid (show ∀ i, i < j + 1 → ¬ hitA cb X (2 + i) from fun i hi => by
                        rcases Nat.lt_or_ge i j with h | h
                        · exact QQ.out i h
                        · obtain rfl : i = j := by omega
                          rintro ⟨_, _, h2⟩
                          exact hq (by rw [hT, hkd, hj2]; exact h2))
                      clear hq hT htz hre hrz hms hl3 hc hrl hkd hm QQ
                      go_wp2_with (first
                        | ((with_reducible refine wpList_at 72 rfl ?_); refine wpList_known4 rfl (.bool true) _ (by exact exec_lss3v (a := j) (b := 3) (q := true) rfl rfl rfl YL.out) ?_; try simp only [Act.put, List.setIfInBounds_toArray, List.set_cons_zero, List.set_cons_succ])
                        | ((with_reducible refine wpList_at 73 rfl ?_); refine wpList_ix (k := 1) (j := j) Tryd.underlying37 (by kernel_rfl) (.tmp 69) (.tmp 71) rfl rfl rfl rfl HLT.out rfl ?_; rw [Nat.mul_one]; try simp only [Act.put, List.setIfInBounds_toArray, List.set_cons_zero, List.set_cons_succ])
                        | ((with_reducible refine wpList_at 74 rfl ?_); refine wpList_ld1 3 (.tmp 73) rfl rfl rfl Tryd.underlying3 rfl CK.out ?_; try simp only [Act.put, List.setIfInBounds_toArray, List.set_cons_zero, List.set_cons_succ])
                        | (go_at_call 29; ((with_reducible refine (rmake_some R4 (by omega) HMK.out).mono ?_); intro e w6 h6); obtain ⟨p6, g6, c6, rfl, R6, hb⟩ := h6; rw [← HRL.out] at R6 ⊢; have RM := Lib.hid R6; replace XX := Lib.hid (XX.out.trans (hb.mono XX.out.size)); clear R6 hb)
                        | (go_at_call 9; ((with_reducible refine (rtext_known RM HRL (by omega) HC.out).mono ?_); intro e w7 h7); obtain ⟨he7, hb⟩ := h7; rw [HT.out, HTZ.out] at he7; subst he7; replace RM := Lib.hid (RM.out.below hb); replace XX := Lib.hid (XX.out.trans (hb.mono XX.out.size)); clear hb)
                        | ((with_reducible refine wpList_at 90 rfl ?_); refine wpList_known4 rfl (.bool false) _ (by exact exec_eqSd (q := false) rfl rfl rfl YQ.out) ?_; try simp only [Act.put, List.setIfInBounds_toArray, List.set_cons_zero, List.set_cons_succ]))
                      go_roundg (3 - (j + 1))
                      case measure => omega
                      case rel => exact ⟨j + 1, by omega, by go_num, QQ2, XX⟩
                · obtain rfl : j = 3 := by omega
                  have YL := Lib.hid (show decide (3 < 3) = false by decide)
                  have NO := Lib.hid (show pA s = none by
                    cases h : pA s with
                    | none => rfl
                    | some z =>
                      obtain ⟨b, h1, i, h2, h3, h4, h5⟩ := HON.out z h
                      rw [CPR.out] at h1
                      injection h1 with h1 _
                      subst h1
                      obtain ⟨q, rfl⟩ : ∃ q, i = 2 + q := ⟨i - 2, by omega⟩
                      exact absurd ⟨z, h4, h5⟩ (QQ.out q (by omega)))
                  clear HON HGO QQ hlt
                  go_wp2_with (first
                    | ((with_reducible refine wpList_at 72 rfl ?_); refine wpList_known4 rfl (.bool false) _ (by exact exec_lss3v (a := 3) (b := 3) (q := false) rfl rfl rfl YL.out) ?_; try simp only [Act.put, List.setIfInBounds_toArray, List.set_cons_zero, List.set_cons_succ]))
                  go_ret2
                  exact aEnd_none NO.out (BBA.out.trans (XX.out.mono BBA.out.size))
          · have HUP := Lib.hid (show decide (isUp s) = false from decide_eq_false hup)
            have HSM := Lib.hid (show smS s = s by unfold smS; rw [if_neg hup])
            clear hup
            have HON := Lib.hid (fun z (h : pA s = some z) => bits_only HPS.out h)
            have HGO := Lib.hid (fun (b x : List Nat) (j : Nat) (h2 : 2 ≤ j) (h5 : j < 5) (hb : ∀ x, x ∈ b → x < 256) (h : mkOf ((j + 1 : Nat) : Int) b = some x) (ht : (tK (j + 1) b).1 = smS s) => bits_good h2 h5 hb h ht HPS.out)
            rw [HSM.out] at HON HGO
            obtain ⟨hcb1, hcb2⟩ := cand_lt s
            obtain ⟨cb, hcb⟩ : ∃ cb, cb = (candS s).1 := ⟨_, rfl⟩
            obtain ⟨ok, hok⟩ : ∃ ok, ok = (candS s).2 := ⟨_, rfl⟩
            obtain ⟨cl, hcl⟩ : ∃ cl, cl = cb.length := ⟨_, rfl⟩
            have CDX := Lib.hid (show ∀ W, Calls Tryd.prog 32 #[.string s] W fun e w' => ∃ p g c, e = .returned (.tuple #[.slice p cl c, .bool ok]) ∧ Row w' p g 0 cl c (lf cb) ∧ Below W.heap.size W w' from fun W => by
              have := CDA.out s W
              unfold CandEnd at this
              rw [← hcb, ← hok, ← hcl] at this
              exact this)
            have CPR := Lib.hid (show candS s = (cb, ok) by rw [hcb, hok])
            rw [← hcb] at hcb1 hcb2
            have HCB := Lib.hid hcb1
            have clb : cl ≤ 90 := by omega
            have HCL := Lib.hid (show tl (lf cb) cl = cb by rw [hcl, tl_lf])
            clear hcb hok hcl hcb1 hcb2 CDA
            cases ok with
            | false =>
              have NO := Lib.hid (show pA s = none by
                cases h : pA s with
                | none => rfl
                | some z =>
                  obtain ⟨b, h1, _⟩ := HON.out z h
                  rw [CPR.out] at h1
                  injection h1 with _ h1
                  cases h1)
              clear HON HGO CPR HCB HCL
              go_wp2_with (first
                | (go_at_call 30; ((with_reducible refine (rupper_any s HSB.out _).mono ?_); rintro e wu ⟨heu, rfl⟩); rw [HUP.out] at heu; subst heu)
                | (go_at_call 32; ((with_reducible refine (CDX.out _).mono ?_); intro e wc hc9); obtain ⟨pc, gc, cc, rfl, Rc, hb⟩ := hc9; have RC := Lib.hid Rc; replace BB := Lib.hid (BB.out.trans (hb.mono BB.out.size)); clear Rc hb))
              go_ret2
              exact aEnd_none NO.out BB.out
            | true =>
              go_upto_region 17 with (first
                | (go_at_call 30; ((with_reducible refine (rupper_any s HSB.out _).mono ?_); rintro e wu ⟨heu, rfl⟩); rw [HUP.out] at heu; subst heu)
                | (go_at_call 32; ((with_reducible refine (CDX.out _).mono ?_); intro e wc hc9); obtain ⟨pc, gc, cc, rfl, Rc, hb⟩ := hc9; have RC := Lib.hid Rc; replace BB := Lib.hid (BB.out.trans (hb.mono BB.out.size)); clear Rc hb))
              go_upto_region 18 with (first
                | (go_at_call 28; ((with_reducible refine (kinds_any _).mono ?_); intro e wk hk); obtain ⟨p8, g8, rfl, N8, hb⟩ := hk; replace RC := Lib.hid (RC.out.below hb); replace BB := Lib.hid (BB.out.trans (hb.mono BB.out.size)); obtain ⟨p9, e9, R9x⟩ := irow_sub N8.row (l := 2) (h := 5) (by omega) (by omega); have SL3 := Lib.hid (fun W : World => (run_slI (w := W) (bounds_l (n := 5) (l := 2) (c := 5) (by omega))).trans (by rw [e9])); have R9 := Lib.hid R9x; clear N8 hb e9 R9x)
                | ((with_reducible refine wpList_at 69 rfl ?_); refine wpList_known4 rfl (.slice p9 3 3) _ (by exact exec_slL rfl rfl rfl (SL3.out _)) ?_; try simp only [Act.put, List.setIfInBounds_toArray, List.set_cons_zero, List.set_cons_succ]))
              obtain rfl := R9.out.head (by omega)
              have BBA := BB
              have V0 := Lib.hid (Below.refl wk.heap.size wk)
              have Q0 := Lib.hid (show ∀ i, i < 0 → ¬ hitA cb s (2 + i) from fun i h => absurd h (by omega))
              clear BB SL3 CDX
              go_loopg [71] 3 (fun k i wr => ∃ j : Nat, j + k = 3 ∧ i = .int .i64 (j : Int) ∧ Hid (∀ i, i < j → ¬ hitA cb s (2 + i)) ∧ Hid (Below wk.heap.size wk wr))
              case atStart => exact ⟨0, by omega, rfl, Q0, V0⟩
              case round =>
                clear Q0 V0
                obtain ⟨j, hj, rfl, QQ, XX⟩ := hrel
                obtain ⟨kk, rfl⟩ : ∃ kk : Nat, kk = gk := ⟨_, rfl⟩
                obtain ⟨wv, rfl⟩ : ∃ wo : World, wo = wr := ⟨_, rfl⟩
                by_cases hlt : j < 3
                · have HLT := Lib.hid hlt
                  have YL := Lib.hid (show decide (j < 3) = true by simp [hlt])
                  obtain ⟨j2, hj2⟩ : ∃ j2, j2 = 2 + j := ⟨_, rfl⟩
                  obtain ⟨kd, hkd⟩ : ∃ kd, kd = j2 + 1 := ⟨_, rfl⟩
                  have CK := Lib.hid (show wv.cell? ⟨g8, 2 + j, none⟩ = some (.int .i64 (kd : Int)) by
                    have := irow_cell (R9.out.below XX.out) hlt
                    rw [this, hkd, hj2])
                  have R4 := Lib.hid (RC.out.below XX.out)
                  cases hm : mkOf ((j2 + 1 : Nat) : Int) cb with
                  | none =>
                    have HMK := Lib.hid (show mkOf ((kd : Nat) : Int) (tl (lf cb) cl) = none by rw [HCL.out, hkd]; exact hm)
                    have QQ2 := Lib.hid (show ∀ i, i < j + 1 → ¬ hitA cb s (2 + i) from fun i hi => by
                      rcases Nat.lt_or_ge i j with h | h
                      · exact QQ.out i h
                      · obtain rfl : i = j := by omega
                        rintro ⟨z, h1, _⟩
                        rw [← hj2, hm] at h1
                        cases h1)
                    clear hm hkd QQ
                    go_wp2_with (first
                      | ((with_reducible refine wpList_at 72 rfl ?_); refine wpList_known4 rfl (.bool true) _ (by exact exec_lss3v (a := j) (b := 3) (q := true) rfl rfl rfl YL.out) ?_; try simp only [Act.put, List.setIfInBounds_toArray, List.set_cons_zero, List.set_cons_succ])
                      | ((with_reducible refine wpList_at 73 rfl ?_); refine wpList_ix (k := 1) (j := j) Tryd.underlying37 (by kernel_rfl) (.tmp 69) (.tmp 71) rfl rfl rfl rfl HLT.out rfl ?_; rw [Nat.mul_one]; try simp only [Act.put, List.setIfInBounds_toArray, List.set_cons_zero, List.set_cons_succ])
                      | ((with_reducible refine wpList_at 74 rfl ?_); refine wpList_ld1 3 (.tmp 73) rfl rfl rfl Tryd.underlying3 rfl CK.out ?_; try simp only [Act.put, List.setIfInBounds_toArray, List.set_cons_zero, List.set_cons_succ])
                      | (go_at_call 29; ((with_reducible refine (rmake_none R4 (by omega) HMK.out).mono ?_); intro e w6 h6); obtain ⟨p6, g6, c6, rfl, R6, hb⟩ := h6; have RM := Lib.hid R6; replace XX := Lib.hid (XX.out.trans (hb.mono XX.out.size)); clear R6 hb)
                      | (go_at_call 9; ((with_reducible refine (rtext_some RM (by omega)).mono ?_); intro e w7 h7); obtain ⟨TT, tz, rfl, hb⟩ := h7; replace XX := Lib.hid (XX.out.trans (hb.mono XX.out.size)); clear hb))
                    go_roundg (3 - (j + 1))
                    case measure => omega
                    case rel => exact ⟨j + 1, by omega, by go_num, QQ2, XX⟩
                  | some r =>
                    have hc := cls_mkA (by omega) hm
                    have hl3 := cls_short hc (by omega) (by omega)
                    rw [Nat.add_sub_cancel] at hl3
                    have hms := mk_sizes (j := j2) (b := cb) (by omega) hl3
                    rw [hm] at hms
                    have hre : r = hL j2 ++ cb ++ tL j2 := by have := hms.1; injection this
                    have hrz : r.length ≤ 60 := by rw [hre]; exact hms.2.2
                    obtain ⟨rl, hrl⟩ : ∃ rl, rl = r.length := ⟨_, rfl⟩
                    have HRL := Lib.hid hrl
                    have rlb : rl ≤ 60 := by omega
                    have HMK := Lib.hid (show mkOf ((kd : Nat) : Int) (tl (lf cb) cl) = some r by rw [HCL.out, hkd]; exact hm)
                    have HC := Lib.hid (show Cls r kd cb by rw [hkd]; exact hc)
                    obtain ⟨T, hT⟩ : ∃ T, T = (tK kd cb).1 := ⟨_, rfl⟩
                    obtain ⟨tz, htz⟩ : ∃ tz, tz = (tK kd cb).2 := ⟨_, rfl⟩
                    have HT := Lib.hid hT.symm
                    have HTZ := Lib.hid htz.symm
                    by_cases hq : T = s
                    · have YQ := Lib.hid (show decide (T = s) = true from decide_eq_true hq)
                      have PAS := Lib.hid (HGO.out cb r j2 (by omega) (by omega) HCB.out hm (by rw [← hkd, ← hT]; exact hq))
                      clear hq hT htz hre hrz hms hl3 hc hrl hkd hm QQ HON HGO
                      go_wp2_with (first
                        | ((with_reducible refine wpList_at 72 rfl ?_); refine wpList_known4 rfl (.bool true) _ (by exact exec_lss3v (a := j) (b := 3) (q := true) rfl rfl rfl YL.out) ?_; try simp only [Act.put, List.setIfInBounds_toArray, List.set_cons_zero, List.set_cons_succ])
                        | ((with_reducible refine wpList_at 73 rfl ?_); refine wpList_ix (k := 1) (j := j) Tryd.underlying37 (by kernel_rfl) (.tmp 69) (.tmp 71) rfl rfl rfl rfl HLT.out rfl ?_; rw [Nat.mul_one]; try simp only [Act.put, List.setIfInBounds_toArray, List.set_cons_zero, List.set_cons_succ])
                        | ((with_reducible refine wpList_at 74 rfl ?_); refine wpList_ld1 3 (.tmp 73) rfl rfl rfl Tryd.underlying3 rfl CK.out ?_; try simp only [Act.put, List.setIfInBounds_toArray, List.set_cons_zero, List.set_cons_succ])
                        | (go_at_call 29; ((with_reducible refine (rmake_some R4 (by omega) HMK.out).mono ?_); intro e w6 h6); obtain ⟨p6, g6, c6, rfl, R6, hb⟩ := h6; rw [← HRL.out] at R6 ⊢; have RM := Lib.hid R6; replace XX := Lib.hid (XX.out.trans (hb.mono XX.out.size)); clear R6 hb)
                        | (go_at_call 9; ((with_reducible refine (rtext_known RM HRL (by omega) HC.out).mono ?_); intro e w7 h7); obtain ⟨he7, hb⟩ := h7; rw [HT.out, HTZ.out] at he7; subst he7; replace RM := Lib.hid (RM.out.below hb); replace XX := Lib.hid (XX.out.trans (hb.mono XX.out.size)); clear hb)
                        | ((with_reducible refine wpList_at 90 rfl ?_); refine wpList_known4 rfl (.bool true) _ (by exact exec_eqSd (q := true) rfl rfl rfl YQ.out) ?_; try simp only [Act.put, List.setIfInBounds_toArray, List.set_cons_zero, List.set_cons_succ]))
                      go_ret2
                      exact aEnd_some PAS.out HRL.out RM.out (BBA.out.trans (XX.out.mono BBA.out.size))
                    · have YQ := Lib.hid (show decide (T = s) = false from decide_eq_false hq)
                      have QQ2 := Lib.hid (show ∀ i, i < j + 1 → ¬ hitA cb s (2 + i) from fun i hi => by
                        rcases Nat.lt_or_ge i j with h | h
                        · exact QQ.out i h
                        · obtain rfl : i = j := by omega
                          rintro ⟨_, _, h2⟩
                          exact hq (by rw [hT, hkd, hj2]; exact h2))
                      clear hq hT htz hre hrz hms hl3 hc hrl hkd hm QQ
                      go_wp2_with (first
                        | ((with_reducible refine wpList_at 72 rfl ?_); refine wpList_known4 rfl (.bool true) _ (by exact exec_lss3v (a := j) (b := 3) (q := true) rfl rfl rfl YL.out) ?_; try simp only [Act.put, List.setIfInBounds_toArray, List.set_cons_zero, List.set_cons_succ])
                        | ((with_reducible refine wpList_at 73 rfl ?_); refine wpList_ix (k := 1) (j := j) Tryd.underlying37 (by kernel_rfl) (.tmp 69) (.tmp 71) rfl rfl rfl rfl HLT.out rfl ?_; rw [Nat.mul_one]; try simp only [Act.put, List.setIfInBounds_toArray, List.set_cons_zero, List.set_cons_succ])
                        | ((with_reducible refine wpList_at 74 rfl ?_); refine wpList_ld1 3 (.tmp 73) rfl rfl rfl Tryd.underlying3 rfl CK.out ?_; try simp only [Act.put, List.setIfInBounds_toArray, List.set_cons_zero, List.set_cons_succ])
                        | (go_at_call 29; ((with_reducible refine (rmake_some R4 (by omega) HMK.out).mono ?_); intro e w6 h6); obtain ⟨p6, g6, c6, rfl, R6, hb⟩ := h6; rw [← HRL.out] at R6 ⊢; have RM := Lib.hid R6; replace XX := Lib.hid (XX.out.trans (hb.mono XX.out.size)); clear R6 hb)
                        | (go_at_call 9; ((with_reducible refine (rtext_known RM HRL (by omega) HC.out).mono ?_); intro e w7 h7); obtain ⟨he7, hb⟩ := h7; rw [HT.out, HTZ.out] at he7; subst he7; replace RM := Lib.hid (RM.out.below hb); replace XX := Lib.hid (XX.out.trans (hb.mono XX.out.size)); clear hb)
                        | ((with_reducible refine wpList_at 90 rfl ?_); refine wpList_known4 rfl (.bool false) _ (by exact exec_eqSd (q := false) rfl rfl rfl YQ.out) ?_; try simp only [Act.put, List.setIfInBounds_toArray, List.set_cons_zero, List.set_cons_succ]))
                      go_roundg (3 - (j + 1))
                      case measure => omega
                      case rel => exact ⟨j + 1, by omega, by go_num, QQ2, XX⟩
                · obtain rfl : j = 3 := by omega
                  have YL := Lib.hid (show decide (3 < 3) = false by decide)
                  have NO := Lib.hid (show pA s = none by
                    cases h : pA s with
                    | none => rfl
                    | some z =>
                      obtain ⟨b, h1, i, h2, h3, h4, h5⟩ := HON.out z h
                      rw [CPR.out] at h1
                      injection h1 with h1 _
                      subst h1
                      obtain ⟨q, rfl⟩ : ∃ q, i = 2 + q := ⟨i - 2, by omega⟩
                      exact absurd ⟨z, h4, h5⟩ (QQ.out q (by omega)))
                  clear HON HGO QQ hlt
                  go_wp2_with (first
                    | ((with_reducible refine wpList_at 72 rfl ?_); refine wpList_known4 rfl (.bool false) _ (by exact exec_lss3v (a := 3) (b := 3) (q := false) rfl rfl rfl YL.out) ?_; try simp only [Act.put, List.setIfInBounds_toArray, List.set_cons_zero, List.set_cons_succ]))
                  go_ret2
                  exact aEnd_none NO.out (BBA.out.trans (XX.out.mono BBA.out.size))
    · have YN := Lib.hid (show decide (n = 25) = false by simp [h25])
      have HPS := Lib.hid (show pS s = none by
        cases h : pS s with
        | none => rfl
        | some z =>
          obtain ⟨_, l2, b2, h1, h2, _⟩ := sums_only h
          exact absurd (by rw [hn, hl, h1, h2]) h25)
      have Y1 := Lib.hid (show decide ((0 : Int) = 0) = true by decide)
      clear hU hl hn h25 hs hsb
      go_enter Tryd.func12, Tryd.ntmps12
      go_upto_region 2 with (first
        | (go_at_call 27; ((with_reducible refine RUN.out.mono ?_); intro e w2 h2); obtain ⟨p2, g2, c2, rfl, N2, hb⟩ := h2; have BB := Lib.hid hb; clear N2 hb))
      go_upto_region 11 with (first
        | ((with_reducible refine wpList_at 26 rfl ?_); refine wpList_known4 rfl (.bool true) _ (by exact exec_eqE3 (z := 0) (z2 := 0) (q := true) rfl rfl rfl Y1.out) ?_; try simp only [Act.put, List.setIfInBounds_toArray, List.set_cons_zero, List.set_cons_succ])
        | ((with_reducible refine wpList_at 30 rfl ?_); refine wpList_known4 rfl (.bool false) _ (by exact exec_eql3v (a := n) (b := 25) (q := false) rfl rfl rfl YN.out) ?_; try simp only [Act.put, List.setIfInBounds_toArray, List.set_cons_zero, List.set_cons_succ]))
      by_cases hup : isUp s
      · obtain ⟨X, hX⟩ : ∃ X, X = lwS s := ⟨_, rfl⟩
        have HUP := Lib.hid (show decide (isUp s) = true from decide_eq_true hup)
        have HLW := Lib.hid hX.symm
        have HSM := Lib.hid (show smS s = X by unfold smS; rw [if_pos hup, hX])
        clear hup hX
        have HON := Lib.hid (fun z (h : pA s = some z) => bits_only HPS.out h)
        have HGO := Lib.hid (fun (b x : List Nat) (j : Nat) (h2 : 2 ≤ j) (h5 : j < 5) (hb : ∀ x, x ∈ b → x < 256) (h : mkOf ((j + 1 : Nat) : Int) b = some x) (ht : (tK (j + 1) b).1 = smS s) => bits_good h2 h5 hb h ht HPS.out)
        rw [HSM.out] at HON HGO
        obtain ⟨hcb1, hcb2⟩ := cand_lt X
        obtain ⟨cb, hcb⟩ : ∃ cb, cb = (candS X).1 := ⟨_, rfl⟩
        obtain ⟨ok, hok⟩ : ∃ ok, ok = (candS X).2 := ⟨_, rfl⟩
        obtain ⟨cl, hcl⟩ : ∃ cl, cl = cb.length := ⟨_, rfl⟩
        have CDX := Lib.hid (show ∀ W, Calls Tryd.prog 32 #[.string X] W fun e w' => ∃ p g c, e = .returned (.tuple #[.slice p cl c, .bool ok]) ∧ Row w' p g 0 cl c (lf cb) ∧ Below W.heap.size W w' from fun W => by
          have := CDA.out X W
          unfold CandEnd at this
          rw [← hcb, ← hok, ← hcl] at this
          exact this)
        have CPR := Lib.hid (show candS X = (cb, ok) by rw [hcb, hok])
        rw [← hcb] at hcb1 hcb2
        have HCB := Lib.hid hcb1
        have clb : cl ≤ 90 := by omega
        have HCL := Lib.hid (show tl (lf cb) cl = cb by rw [hcl, tl_lf])
        clear hcb hok hcl hcb1 hcb2 CDA
        cases ok with
        | false =>
          have NO := Lib.hid (show pA s = none by
            cases h : pA s with
            | none => rfl
            | some z =>
              obtain ⟨b, h1, _⟩ := HON.out z h
              rw [CPR.out] at h1
              injection h1 with _ h1
              cases h1)
          clear HON HGO CPR HCB HCL
          go_wp2_with (first
            | (go_at_call 30; ((with_reducible refine (rupper_any s HSB.out _).mono ?_); rintro e wu ⟨heu, rfl⟩); rw [HUP.out] at heu; subst heu)
            | (go_at_call 31; ((with_reducible refine (LOW.out _).mono ?_); intro e wl hl9); obtain ⟨hel, hb⟩ := hl9; rw [HLW.out] at hel; subst hel; replace BB := Lib.hid (BB.out.trans (hb.mono BB.out.size)); clear hb)
            | (go_at_call 32; ((with_reducible refine (CDX.out _).mono ?_); intro e wc hc9); obtain ⟨pc, gc, cc, rfl, Rc, hb⟩ := hc9; have RC := Lib.hid Rc; replace BB := Lib.hid (BB.out.trans (hb.mono BB.out.size)); clear Rc hb))
          go_ret2
          exact aEnd_none NO.out BB.out
        | true =>
          go_upto_region 17 with (first
            | (go_at_call 30; ((with_reducible refine (rupper_any s HSB.out _).mono ?_); rintro e wu ⟨heu, rfl⟩); rw [HUP.out] at heu; subst heu)
            | (go_at_call 31; ((with_reducible refine (LOW.out _).mono ?_); intro e wl hl9); obtain ⟨hel, hb⟩ := hl9; rw [HLW.out] at hel; subst hel; replace BB := Lib.hid (BB.out.trans (hb.mono BB.out.size)); clear hb)
            | (go_at_call 32; ((with_reducible refine (CDX.out _).mono ?_); intro e wc hc9); obtain ⟨pc, gc, cc, rfl, Rc, hb⟩ := hc9; have RC := Lib.hid Rc; replace BB := Lib.hid (BB.out.trans (hb.mono BB.out.size)); clear Rc hb))
          go_upto_region 18 with (first
            | (go_at_call 28; ((with_reducible refine (kinds_any _).mono ?_); intro e wk hk); obtain ⟨p8, g8, rfl, N8, hb⟩ := hk; replace RC := Lib.hid (RC.out.below hb); replace BB := Lib.hid (BB.out.trans (hb.mono BB.out.size)); obtain ⟨p9, e9, R9x⟩ := irow_sub N8.row (l := 2) (h := 5) (by omega) (by omega); have SL3 := Lib.hid (fun W : World => (run_slI (w := W) (bounds_l (n := 5) (l := 2) (c := 5) (by omega))).trans (by rw [e9])); have R9 := Lib.hid R9x; clear N8 hb e9 R9x)
            | ((with_reducible refine wpList_at 69 rfl ?_); refine wpList_known4 rfl (.slice p9 3 3) _ (by exact exec_slL rfl rfl rfl (SL3.out _)) ?_; try simp only [Act.put, List.setIfInBounds_toArray, List.set_cons_zero, List.set_cons_succ]))
          obtain rfl := R9.out.head (by omega)
          have BBA := BB
          have V0 := Lib.hid (Below.refl wk.heap.size wk)
          have Q0 := Lib.hid (show ∀ i, i < 0 → ¬ hitA cb X (2 + i) from fun i h => absurd h (by omega))
          clear BB SL3 CDX
          go_loopg [71] 3 (fun k i wr => ∃ j : Nat, j + k = 3 ∧ i = .int .i64 (j : Int) ∧ Hid (∀ i, i < j → ¬ hitA cb X (2 + i)) ∧ Hid (Below wk.heap.size wk wr))
          case atStart => exact ⟨0, by omega, rfl, Q0, V0⟩
          case round =>
            clear Q0 V0
            obtain ⟨j, hj, rfl, QQ, XX⟩ := hrel
            obtain ⟨kk, rfl⟩ : ∃ kk : Nat, kk = gk := ⟨_, rfl⟩
            obtain ⟨wv, rfl⟩ : ∃ wo : World, wo = wr := ⟨_, rfl⟩
            by_cases hlt : j < 3
            · have HLT := Lib.hid hlt
              have YL := Lib.hid (show decide (j < 3) = true by simp [hlt])
              obtain ⟨j2, hj2⟩ : ∃ j2, j2 = 2 + j := ⟨_, rfl⟩
              obtain ⟨kd, hkd⟩ : ∃ kd, kd = j2 + 1 := ⟨_, rfl⟩
              have CK := Lib.hid (show wv.cell? ⟨g8, 2 + j, none⟩ = some (.int .i64 (kd : Int)) by
                have := irow_cell (R9.out.below XX.out) hlt
                rw [this, hkd, hj2])
              have R4 := Lib.hid (RC.out.below XX.out)
              cases hm : mkOf ((j2 + 1 : Nat) : Int) cb with
              | none =>
                have HMK := Lib.hid (show mkOf ((kd : Nat) : Int) (tl (lf cb) cl) = none by rw [HCL.out, hkd]; exact hm)
                have QQ2 := Lib.hid (show ∀ i, i < j + 1 → ¬ hitA cb X (2 + i) from fun i hi => by
                  rcases Nat.lt_or_ge i j with h | h
                  · exact QQ.out i h
                  · obtain rfl : i = j := by omega
                    rintro ⟨z, h1, _⟩
                    rw [← hj2, hm] at h1
                    cases h1)
                clear hm hkd QQ
                go_wp2_with (first
                  | ((with_reducible refine wpList_at 72 rfl ?_); refine wpList_known4 rfl (.bool true) _ (by exact exec_lss3v (a := j) (b := 3) (q := true) rfl rfl rfl YL.out) ?_; try simp only [Act.put, List.setIfInBounds_toArray, List.set_cons_zero, List.set_cons_succ])
                  | ((with_reducible refine wpList_at 73 rfl ?_); refine wpList_ix (k := 1) (j := j) Tryd.underlying37 (by kernel_rfl) (.tmp 69) (.tmp 71) rfl rfl rfl rfl HLT.out rfl ?_; rw [Nat.mul_one]; try simp only [Act.put, List.setIfInBounds_toArray, List.set_cons_zero, List.set_cons_succ])
                  | ((with_reducible refine wpList_at 74 rfl ?_); refine wpList_ld1 3 (.tmp 73) rfl rfl rfl Tryd.underlying3 rfl CK.out ?_; try simp only [Act.put, List.setIfInBounds_toArray, List.set_cons_zero, List.set_cons_succ])
                  | (go_at_call 29; ((with_reducible refine (rmake_none R4 (by omega) HMK.out).mono ?_); intro e w6 h6); obtain ⟨p6, g6, c6, rfl, R6, hb⟩ := h6; have RM := Lib.hid R6; replace XX := Lib.hid (XX.out.trans (hb.mono XX.out.size)); clear R6 hb)
                  | (go_at_call 9; ((with_reducible refine (rtext_some RM (by omega)).mono ?_); intro e w7 h7); obtain ⟨TT, tz, rfl, hb⟩ := h7; replace XX := Lib.hid (XX.out.trans (hb.mono XX.out.size)); clear hb))
                go_roundg (3 - (j + 1))
                case measure => omega
                case rel => exact ⟨j + 1, by omega, by go_num, QQ2, XX⟩
              | some r =>
                have hc := cls_mkA (by omega) hm
                have hl3 := cls_short hc (by omega) (by omega)
                rw [Nat.add_sub_cancel] at hl3
                have hms := mk_sizes (j := j2) (b := cb) (by omega) hl3
                rw [hm] at hms
                have hre : r = hL j2 ++ cb ++ tL j2 := by have := hms.1; injection this
                have hrz : r.length ≤ 60 := by rw [hre]; exact hms.2.2
                obtain ⟨rl, hrl⟩ : ∃ rl, rl = r.length := ⟨_, rfl⟩
                have HRL := Lib.hid hrl
                have rlb : rl ≤ 60 := by omega
                have HMK := Lib.hid (show mkOf ((kd : Nat) : Int) (tl (lf cb) cl) = some r by rw [HCL.out, hkd]; exact hm)
                have HC := Lib.hid (show Cls r kd cb by rw [hkd]; exact hc)
                obtain ⟨T, hT⟩ : ∃ T, T = (tK kd cb).1 := ⟨_, rfl⟩
                obtain ⟨tz, htz⟩ : ∃ tz, tz = (tK kd cb).2 := ⟨_, rfl⟩
                have HT := Lib.hid hT.symm
                have HTZ := Lib.hid htz.symm
                by_cases hq : T = X
                · have YQ := Lib.hid (show decide (T = X) = true from decide_eq_true hq)
                  have PAS := Lib.hid (HGO.out cb r j2 (by omega) (by omega) HCB.out hm (by rw [← hkd, ← hT]; exact hq))
                  clear hq hT htz hre hrz hms hl3 hc hrl hkd hm QQ HON HGO
                  go_wp2_with (first
                    | ((with_reducible refine wpList_at 72 rfl ?_); refine wpList_known4 rfl (.bool true) _ (by exact exec_lss3v (a := j) (b := 3) (q := true) rfl rfl rfl YL.out) ?_; try simp only [Act.put, List.setIfInBounds_toArray, List.set_cons_zero, List.set_cons_succ])
                    | ((with_reducible refine wpList_at 73 rfl ?_); refine wpList_ix (k := 1) (j := j) Tryd.underlying37 (by kernel_rfl) (.tmp 69) (.tmp 71) rfl rfl rfl rfl HLT.out rfl ?_; rw [Nat.mul_one]; try simp only [Act.put, List.setIfInBounds_toArray, List.set_cons_zero, List.set_cons_succ])
                    | ((with_reducible refine wpList_at 74 rfl ?_); refine wpList_ld1 3 (.tmp 73) rfl rfl rfl Tryd.underlying3 rfl CK.out ?_; try simp only [Act.put, List.setIfInBounds_toArray, List.set_cons_zero, List.set_cons_succ])
                    | (go_at_call 29; ((with_reducible refine (rmake_some R4 (by omega) HMK.out).mono ?_); intro e w6 h6); obtain ⟨p6, g6, c6, rfl, R6, hb⟩ := h6; rw [← HRL.out] at R6 ⊢; have RM := Lib.hid R6; replace XX := Lib.hid (XX.out.trans (hb.mono XX.out.size)); clear R6 hb)
                    | (go_at_call 9; ((with_reducible refine (rtext_known RM HRL (by omega) HC.out).mono ?_); intro e w7 h7); obtain ⟨he7, hb⟩ := h7; rw [HT.out, HTZ.out] at he7; subst he7; replace RM := Lib.hid (RM.out.below hb); replace XX := Lib.hid (XX.out.trans (hb.mono XX.out.size)); clear hb)
                    | ((with_reducible refine wpList_at 90 rfl ?_); refine wpList_known4 rfl (.bool true) _ (by exact exec_eqSd (q := true) rfl rfl rfl YQ.out) ?_; try simp only [Act.put, List.setIfInBounds_toArray, List.set_cons_zero, List.set_cons_succ]))
                  go_ret2
                  exact aEnd_some PAS.out HRL.out RM.out (BBA.out.trans (XX.out.mono BBA.out.size))
                · have YQ := Lib.hid (show decide (T = X) = false from decide_eq_false hq)
                  have QQ2 := Lib.hid (show ∀ i, i < j + 1 → ¬ hitA cb X (2 + i) from fun i hi => by
                    rcases Nat.lt_or_ge i j with h | h
                    · exact QQ.out i h
                    · obtain rfl : i = j := by omega
                      rintro ⟨_, _, h2⟩
                      exact hq (by rw [hT, hkd, hj2]; exact h2))
                  clear hq hT htz hre hrz hms hl3 hc hrl hkd hm QQ
                  go_wp2_with (first
                    | ((with_reducible refine wpList_at 72 rfl ?_); refine wpList_known4 rfl (.bool true) _ (by exact exec_lss3v (a := j) (b := 3) (q := true) rfl rfl rfl YL.out) ?_; try simp only [Act.put, List.setIfInBounds_toArray, List.set_cons_zero, List.set_cons_succ])
                    | ((with_reducible refine wpList_at 73 rfl ?_); refine wpList_ix (k := 1) (j := j) Tryd.underlying37 (by kernel_rfl) (.tmp 69) (.tmp 71) rfl rfl rfl rfl HLT.out rfl ?_; rw [Nat.mul_one]; try simp only [Act.put, List.setIfInBounds_toArray, List.set_cons_zero, List.set_cons_succ])
                    | ((with_reducible refine wpList_at 74 rfl ?_); refine wpList_ld1 3 (.tmp 73) rfl rfl rfl Tryd.underlying3 rfl CK.out ?_; try simp only [Act.put, List.setIfInBounds_toArray, List.set_cons_zero, List.set_cons_succ])
                    | (go_at_call 29; ((with_reducible refine (rmake_some R4 (by omega) HMK.out).mono ?_); intro e w6 h6); obtain ⟨p6, g6, c6, rfl, R6, hb⟩ := h6; rw [← HRL.out] at R6 ⊢; have RM := Lib.hid R6; replace XX := Lib.hid (XX.out.trans (hb.mono XX.out.size)); clear R6 hb)
                    | (go_at_call 9; ((with_reducible refine (rtext_known RM HRL (by omega) HC.out).mono ?_); intro e w7 h7); obtain ⟨he7, hb⟩ := h7; rw [HT.out, HTZ.out] at he7; subst he7; replace RM := Lib.hid (RM.out.below hb); replace XX := Lib.hid (XX.out.trans (hb.mono XX.out.size)); clear hb)
                    | ((with_reducible refine wpList_at 90 rfl ?_); refine wpList_known4 rfl (.bool false) _ (by exact exec_eqSd (q := false) rfl rfl rfl YQ.out) ?_; try simp only [Act.put, List.setIfInBounds_toArray, List.set_cons_zero, List.set_cons_succ]))
                  go_roundg (3 - (j + 1))
                  case measure => omega
                  case rel => exact ⟨j + 1, by omega, by go_num, QQ2, XX⟩
            · obtain rfl : j = 3 := by omega
              have YL := Lib.hid (show decide (3 < 3) = false by decide)
              have NO := Lib.hid (show pA s = none by
                cases h : pA s with
                | none => rfl
                | some z =>
                  obtain ⟨b, h1, i, h2, h3, h4, h5⟩ := HON.out z h
                  rw [CPR.out] at h1
                  injection h1 with h1 _
                  subst h1
                  obtain ⟨q, rfl⟩ : ∃ q, i = 2 + q := ⟨i - 2, by omega⟩
                  exact absurd ⟨z, h4, h5⟩ (QQ.out q (by omega)))
              clear HON HGO QQ hlt
              go_wp2_with (first
                | ((with_reducible refine wpList_at 72 rfl ?_); refine wpList_known4 rfl (.bool false) _ (by exact exec_lss3v (a := 3) (b := 3) (q := false) rfl rfl rfl YL.out) ?_; try simp only [Act.put, List.setIfInBounds_toArray, List.set_cons_zero, List.set_cons_succ]))
              go_ret2
              exact aEnd_none NO.out (BBA.out.trans (XX.out.mono BBA.out.size))
      · have HUP := Lib.hid (show decide (isUp s) = false from decide_eq_false hup)
        have HSM := Lib.hid (show smS s = s by unfold smS; rw [if_neg hup])
        clear hup
        have HON := Lib.hid (fun z (h : pA s = some z) => bits_only HPS.out h)
        have HGO := Lib.hid (fun (b x : List Nat) (j : Nat) (h2 : 2 ≤ j) (h5 : j < 5) (hb : ∀ x, x ∈ b → x < 256) (h : mkOf ((j + 1 : Nat) : Int) b = some x) (ht : (tK (j + 1) b).1 = smS s) => bits_good h2 h5 hb h ht HPS.out)
        rw [HSM.out] at HON HGO
        obtain ⟨hcb1, hcb2⟩ := cand_lt s
        obtain ⟨cb, hcb⟩ : ∃ cb, cb = (candS s).1 := ⟨_, rfl⟩
        obtain ⟨ok, hok⟩ : ∃ ok, ok = (candS s).2 := ⟨_, rfl⟩
        obtain ⟨cl, hcl⟩ : ∃ cl, cl = cb.length := ⟨_, rfl⟩
        have CDX := Lib.hid (show ∀ W, Calls Tryd.prog 32 #[.string s] W fun e w' => ∃ p g c, e = .returned (.tuple #[.slice p cl c, .bool ok]) ∧ Row w' p g 0 cl c (lf cb) ∧ Below W.heap.size W w' from fun W => by
          have := CDA.out s W
          unfold CandEnd at this
          rw [← hcb, ← hok, ← hcl] at this
          exact this)
        have CPR := Lib.hid (show candS s = (cb, ok) by rw [hcb, hok])
        rw [← hcb] at hcb1 hcb2
        have HCB := Lib.hid hcb1
        have clb : cl ≤ 90 := by omega
        have HCL := Lib.hid (show tl (lf cb) cl = cb by rw [hcl, tl_lf])
        clear hcb hok hcl hcb1 hcb2 CDA
        cases ok with
        | false =>
          have NO := Lib.hid (show pA s = none by
            cases h : pA s with
            | none => rfl
            | some z =>
              obtain ⟨b, h1, _⟩ := HON.out z h
              rw [CPR.out] at h1
              injection h1 with _ h1
              cases h1)
          clear HON HGO CPR HCB HCL
          go_wp2_with (first
            | (go_at_call 30; ((with_reducible refine (rupper_any s HSB.out _).mono ?_); rintro e wu ⟨heu, rfl⟩); rw [HUP.out] at heu; subst heu)
            | (go_at_call 32; ((with_reducible refine (CDX.out _).mono ?_); intro e wc hc9); obtain ⟨pc, gc, cc, rfl, Rc, hb⟩ := hc9; have RC := Lib.hid Rc; replace BB := Lib.hid (BB.out.trans (hb.mono BB.out.size)); clear Rc hb))
          go_ret2
          exact aEnd_none NO.out BB.out
        | true =>
          go_upto_region 17 with (first
            | (go_at_call 30; ((with_reducible refine (rupper_any s HSB.out _).mono ?_); rintro e wu ⟨heu, rfl⟩); rw [HUP.out] at heu; subst heu)
            | (go_at_call 32; ((with_reducible refine (CDX.out _).mono ?_); intro e wc hc9); obtain ⟨pc, gc, cc, rfl, Rc, hb⟩ := hc9; have RC := Lib.hid Rc; replace BB := Lib.hid (BB.out.trans (hb.mono BB.out.size)); clear Rc hb))
          go_upto_region 18 with (first
            | (go_at_call 28; ((with_reducible refine (kinds_any _).mono ?_); intro e wk hk); obtain ⟨p8, g8, rfl, N8, hb⟩ := hk; replace RC := Lib.hid (RC.out.below hb); replace BB := Lib.hid (BB.out.trans (hb.mono BB.out.size)); obtain ⟨p9, e9, R9x⟩ := irow_sub N8.row (l := 2) (h := 5) (by omega) (by omega); have SL3 := Lib.hid (fun W : World => (run_slI (w := W) (bounds_l (n := 5) (l := 2) (c := 5) (by omega))).trans (by rw [e9])); have R9 := Lib.hid R9x; clear N8 hb e9 R9x)
            | ((with_reducible refine wpList_at 69 rfl ?_); refine wpList_known4 rfl (.slice p9 3 3) _ (by exact exec_slL rfl rfl rfl (SL3.out _)) ?_; try simp only [Act.put, List.setIfInBounds_toArray, List.set_cons_zero, List.set_cons_succ]))
          obtain rfl := R9.out.head (by omega)
          have BBA := BB
          have V0 := Lib.hid (Below.refl wk.heap.size wk)
          have Q0 := Lib.hid (show ∀ i, i < 0 → ¬ hitA cb s (2 + i) from fun i h => absurd h (by omega))
          clear BB SL3 CDX
          go_loopg [71] 3 (fun k i wr => ∃ j : Nat, j + k = 3 ∧ i = .int .i64 (j : Int) ∧ Hid (∀ i, i < j → ¬ hitA cb s (2 + i)) ∧ Hid (Below wk.heap.size wk wr))
          case atStart => exact ⟨0, by omega, rfl, Q0, V0⟩
          case round =>
            clear Q0 V0
            obtain ⟨j, hj, rfl, QQ, XX⟩ := hrel
            obtain ⟨kk, rfl⟩ : ∃ kk : Nat, kk = gk := ⟨_, rfl⟩
            obtain ⟨wv, rfl⟩ : ∃ wo : World, wo = wr := ⟨_, rfl⟩
            by_cases hlt : j < 3
            · have HLT := Lib.hid hlt
              have YL := Lib.hid (show decide (j < 3) = true by simp [hlt])
              obtain ⟨j2, hj2⟩ : ∃ j2, j2 = 2 + j := ⟨_, rfl⟩
              obtain ⟨kd, hkd⟩ : ∃ kd, kd = j2 + 1 := ⟨_, rfl⟩
              have CK := Lib.hid (show wv.cell? ⟨g8, 2 + j, none⟩ = some (.int .i64 (kd : Int)) by
                have := irow_cell (R9.out.below XX.out) hlt
                rw [this, hkd, hj2])
              have R4 := Lib.hid (RC.out.below XX.out)
              cases hm : mkOf ((j2 + 1 : Nat) : Int) cb with
              | none =>
                have HMK := Lib.hid (show mkOf ((kd : Nat) : Int) (tl (lf cb) cl) = none by rw [HCL.out, hkd]; exact hm)
                have QQ2 := Lib.hid (show ∀ i, i < j + 1 → ¬ hitA cb s (2 + i) from fun i hi => by
                  rcases Nat.lt_or_ge i j with h | h
                  · exact QQ.out i h
                  · obtain rfl : i = j := by omega
                    rintro ⟨z, h1, _⟩
                    rw [← hj2, hm] at h1
                    cases h1)
                clear hm hkd QQ
                go_wp2_with (first
                  | ((with_reducible refine wpList_at 72 rfl ?_); refine wpList_known4 rfl (.bool true) _ (by exact exec_lss3v (a := j) (b := 3) (q := true) rfl rfl rfl YL.out) ?_; try simp only [Act.put, List.setIfInBounds_toArray, List.set_cons_zero, List.set_cons_succ])
                  | ((with_reducible refine wpList_at 73 rfl ?_); refine wpList_ix (k := 1) (j := j) Tryd.underlying37 (by kernel_rfl) (.tmp 69) (.tmp 71) rfl rfl rfl rfl HLT.out rfl ?_; rw [Nat.mul_one]; try simp only [Act.put, List.setIfInBounds_toArray, List.set_cons_zero, List.set_cons_succ])
                  | ((with_reducible refine wpList_at 74 rfl ?_); refine wpList_ld1 3 (.tmp 73) rfl rfl rfl Tryd.underlying3 rfl CK.out ?_; try simp only [Act.put, List.setIfInBounds_toArray, List.set_cons_zero, List.set_cons_succ])
                  | (go_at_call 29; ((with_reducible refine (rmake_none R4 (by omega) HMK.out).mono ?_); intro e w6 h6); obtain ⟨p6, g6, c6, rfl, R6, hb⟩ := h6; have RM := Lib.hid R6; replace XX := Lib.hid (XX.out.trans (hb.mono XX.out.size)); clear R6 hb)
                  | (go_at_call 9; ((with_reducible refine (rtext_some RM (by omega)).mono ?_); intro e w7 h7); obtain ⟨TT, tz, rfl, hb⟩ := h7; replace XX := Lib.hid (XX.out.trans (hb.mono XX.out.size)); clear hb))
                go_roundg (3 - (j + 1))
                case measure => omega
                case rel => exact ⟨j + 1, by omega, by go_num, QQ2, XX⟩
              | some r =>
                have hc := cls_mkA (by omega) hm
                have hl3 := cls_short hc (by omega) (by omega)
                rw [Nat.add_sub_cancel] at hl3
                have hms := mk_sizes (j := j2) (b := cb) (by omega) hl3
                rw [hm] at hms
                have hre : r = hL j2 ++ cb ++ tL j2 := by have := hms.1; injection this
                have hrz : r.length ≤ 60 := by rw [hre]; exact hms.2.2
                obtain ⟨rl, hrl⟩ : ∃ rl, rl = r.length := ⟨_, rfl⟩
                have HRL := Lib.hid hrl
                have rlb : rl ≤ 60 := by omega
                have HMK := Lib.hid (show mkOf ((kd : Nat) : Int) (tl (lf cb) cl) = some r by rw [HCL.out, hkd]; exact hm)
                have HC := Lib.hid (show Cls r kd cb by rw [hkd]; exact hc)
                obtain ⟨T, hT⟩ : ∃ T, T = (tK kd cb).1 := ⟨_, rfl⟩
                obtain ⟨tz, htz⟩ : ∃ tz, tz = (tK kd cb).2 := ⟨_, rfl⟩
                have HT := Lib.hid hT.symm
                have HTZ := Lib.hid htz.symm
                by_cases hq : T = s
                · have YQ := Lib.hid (show decide (T = s) = true from decide_eq_true hq)
                  have PAS := Lib.hid (HGO.out cb r j2 (by omega) (by omega) HCB.out hm (by rw [← hkd, ← hT]; exact hq))
                  clear hq hT htz hre hrz hms hl3 hc hrl hkd hm QQ HON HGO
                  go_wp2_with (first
                    | ((with_reducible refine wpList_at 72 rfl ?_); refine wpList_known4 rfl (.bool true) _ (by exact exec_lss3v (a := j) (b := 3) (q := true) rfl rfl rfl YL.out) ?_; try simp only [Act.put, List.setIfInBounds_toArray, List.set_cons_zero, List.set_cons_succ])
                    | ((with_reducible refine wpList_at 73 rfl ?_); refine wpList_ix (k := 1) (j := j) Tryd.underlying37 (by kernel_rfl) (.tmp 69) (.tmp 71) rfl rfl rfl rfl HLT.out rfl ?_; rw [Nat.mul_one]; try simp only [Act.put, List.setIfInBounds_toArray, List.set_cons_zero, List.set_cons_succ])
                    | ((with_reducible refine wpList_at 74 rfl ?_); refine wpList_ld1 3 (.tmp 73) rfl rfl rfl Tryd.underlying3 rfl CK.out ?_; try simp only [Act.put, List.setIfInBounds_toArray, List.set_cons_zero, List.set_cons_succ])
                    | (go_at_call 29; ((with_reducible refine (rmake_some R4 (by omega) HMK.out).mono ?_); intro e w6 h6); obtain ⟨p6, g6, c6, rfl, R6, hb⟩ := h6; rw [← HRL.out] at R6 ⊢; have RM := Lib.hid R6; replace XX := Lib.hid (XX.out.trans (hb.mono XX.out.size)); clear R6 hb)
                    | (go_at_call 9; ((with_reducible refine (rtext_known RM HRL (by omega) HC.out).mono ?_); intro e w7 h7); obtain ⟨he7, hb⟩ := h7; rw [HT.out, HTZ.out] at he7; subst he7; replace RM := Lib.hid (RM.out.below hb); replace XX := Lib.hid (XX.out.trans (hb.mono XX.out.size)); clear hb)
                    | ((with_reducible refine wpList_at 90 rfl ?_); refine wpList_known4 rfl (.bool true) _ (by exact exec_eqSd (q := true) rfl rfl rfl YQ.out) ?_; try simp only [Act.put, List.setIfInBounds_toArray, List.set_cons_zero, List.set_cons_succ]))
                  go_ret2
                  exact aEnd_some PAS.out HRL.out RM.out (BBA.out.trans (XX.out.mono BBA.out.size))
                · have YQ := Lib.hid (show decide (T = s) = false from decide_eq_false hq)
                  have QQ2 := Lib.hid (show ∀ i, i < j + 1 → ¬ hitA cb s (2 + i) from fun i hi => by
                    rcases Nat.lt_or_ge i j with h | h
                    · exact QQ.out i h
                    · obtain rfl : i = j := by omega
                      rintro ⟨_, _, h2⟩
                      exact hq (by rw [hT, hkd, hj2]; exact h2))
                  clear hq hT htz hre hrz hms hl3 hc hrl hkd hm QQ
                  go_wp2_with (first
                    | ((with_reducible refine wpList_at 72 rfl ?_); refine wpList_known4 rfl (.bool true) _ (by exact exec_lss3v (a := j) (b := 3) (q := true) rfl rfl rfl YL.out) ?_; try simp only [Act.put, List.setIfInBounds_toArray, List.set_cons_zero, List.set_cons_succ])
                    | ((with_reducible refine wpList_at 73 rfl ?_); refine wpList_ix (k := 1) (j := j) Tryd.underlying37 (by kernel_rfl) (.tmp 69) (.tmp 71) rfl rfl rfl rfl HLT.out rfl ?_; rw [Nat.mul_one]; try simp only [Act.put, List.setIfInBounds_toArray, List.set_cons_zero, List.set_cons_succ])
                    | ((with_reducible refine wpList_at 74 rfl ?_); refine wpList_ld1 3 (.tmp 73) rfl rfl rfl Tryd.underlying3 rfl CK.out ?_; try simp only [Act.put, List.setIfInBounds_toArray, List.set_cons_zero, List.set_cons_succ])
                    | (go_at_call 29; ((with_reducible refine (rmake_some R4 (by omega) HMK.out).mono ?_); intro e w6 h6); obtain ⟨p6, g6, c6, rfl, R6, hb⟩ := h6; rw [← HRL.out] at R6 ⊢; have RM := Lib.hid R6; replace XX := Lib.hid (XX.out.trans (hb.mono XX.out.size)); clear R6 hb)
                    | (go_at_call 9; ((with_reducible refine (rtext_known RM HRL (by omega) HC.out).mono ?_); intro e w7 h7); obtain ⟨he7, hb⟩ := h7; rw [HT.out, HTZ.out] at he7; subst he7; replace RM := Lib.hid (RM.out.below hb); replace XX := Lib.hid (XX.out.trans (hb.mono XX.out.size)); clear hb)
                    | ((with_reducible refine wpList_at 90 rfl ?_); refine wpList_known4 rfl (.bool false) _ (by exact exec_eqSd (q := false) rfl rfl rfl YQ.out) ?_; try simp only [Act.put, List.setIfInBounds_toArray, List.set_cons_zero, List.set_cons_succ]))
                  go_roundg (3 - (j + 1))
                  case measure => omega
                  case rel => exact ⟨j + 1, by omega, by go_num, QQ2, XX⟩
            · obtain rfl : j = 3 := by omega
              have YL := Lib.hid (show decide (3 < 3) = false by decide)
              have NO := Lib.hid (show pA s = none by
                cases h : pA s with
                | none => rfl
                | some z =>
                  obtain ⟨b, h1, i, h2, h3, h4, h5⟩ := HON.out z h
                  rw [CPR.out] at h1
                  injection h1 with h1 _
                  subst h1
                  obtain ⟨q, rfl⟩ : ∃ q, i = 2 + q := ⟨i - 2, by omega⟩
                  exact absurd ⟨z, h4, h5⟩ (QQ.out q (by omega)))
              clear HON HGO QQ hlt
              go_wp2_with (first
                | ((with_reducible refine wpList_at 72 rfl ?_); refine wpList_known4 rfl (.bool false) _ (by exact exec_lss3v (a := 3) (b := 3) (q := false) rfl rfl rfl YL.out) ?_; try simp only [Act.put, List.setIfInBounds_toArray, List.set_cons_zero, List.set_cons_succ]))
              go_ret2
              exact aEnd_none NO.out (BBA.out.trans (XX.out.mono BBA.out.size))
end Go.Proofs.YtghjgkgfpblijaaDoor
