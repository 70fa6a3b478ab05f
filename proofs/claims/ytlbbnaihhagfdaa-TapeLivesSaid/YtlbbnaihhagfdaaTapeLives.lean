/- For every slice of bytes, every two numbers and every list of calls: whatever is done to a tape, it answers and has what the document says, and a copy goes its own way; the call returns true. No condition. -/
import Derived.Test.YtlbbnaihhagfdaaXa8
import Derived.Test.YtlbbnaihhagfdaaLt
import Derived.ShutString
import Derived.ChangeOld
import Derived.Below
import Derived.SizedLaws
set_option linter.unusedVariables false
set_option linter.unusedSimpArgs false
namespace Go.Proofs.Ytlbbnaihhagfdaa.tapeLives
open Go.ChangeShapes Go.WideShapes Go.ChangeAt Go.RowKit Go.Lib Go.Sort Go.Proofs.Ytlbbnaihhagfdaa

set_option maxRecDepth 100000
/-- Copies of both tapes, if there are any: they go their own way. -/
def Cps (D : World) (a : Ad) (vc vy : Value) (w : World) : Prop := (vc = .pointer none ∧ vy = .pointer none) ∨ ∃ a3 t3, vc = .pointer (some ⟨a3.bt, 0, none⟩) ∧ vy = .pointer (some ⟨a3.bx, 0, none⟩) ∧ Jo D a3 t3 w ∧ ∀ k, a3.blk k → ¬ a.blk k
section
variable {D w w' : World} {a a' : Ad} {t : St} {vc vy : Value}
theorem cps_call (h : Cps D a vc vy w) (hb : Below w.heap.size w w') : Cps D a vc vy w' := by
  rcases h with h | ⟨a3, t3, h1, h2, J, hd⟩
  · exact .inl h
  · exact .inr ⟨a3, t3, h1, h2, J.call hb, hd⟩
theorem cps_move (h : Cps D a vc vy w) (J : Jo D a t w) (M : Mv a a' w w') : Cps D a' vc vy w' := by
  rcases h with h | ⟨a3, t3, h1, h2, J3, hd⟩
  · exact .inl h
  · exact .inr ⟨a3, t3, h1, h2, J3.keep M.chg hd (fun k hk => (J.blk_lt hk).2), fun k hk hk' => by
      rcases M.new k hk' with e | e
      · exact hd k hk e
      · have := (J3.blk_lt hk).1; omega⟩
theorem cps_new {v1 v2 : Value} {w2 : World} (J : Jo D a t w) (hD : Below D.heap.size D w) (M1 : Makes t.s t.r t.f t.k t.xs w v1 w') (M2 : XMakes t.s t.r t.u t.xs w' v2 w2) (ok : t.Ok) : Cps D a v1 v2 w2 ∧ Below w.heap.size w w2 := by
  obtain ⟨b1, b2, p1, g1, c1, rfl, T1, hb1⟩ := M1
  obtain ⟨b3, p3, g3, c3, rfl, X3, hb3⟩ := M2
  have hD2 : Below D.heap.size D w' := hD.trans (hb1.mono hD.size)
  have J3 : Jo D ⟨b1, b2, b3, p1, g1, c1, p3, g3, c3⟩ t w2 := ⟨(T1.mono hD).call hb3, X3.mono hD2, fun k e e2 => by
    have := (T1.lies k e).2
    have := (X3.lies k e2).1
    omega, ok⟩
  refine ⟨.inr ⟨_, t, rfl, rfl, J3, fun k hk hk' => ?_⟩, hb1.trans (hb3.mono hb1.size)⟩
  have := (J.blk_lt hk').1
  have hw := hb1.size
  rcases hk with e | e | e | e | e
  · have h2 : k = b1 := e
    have := T1.geb.2; omega
  · have h2 : k = b2 := e
    have := T1.geb.1; omega
  · have h2 : k = b3 := e
    have := X3.geb; omega
  · have := (T1.lies k e).1; omega
  · have := (X3.lies k e).1; omega
end
theorem infoTDO : (Try.prog.info? 32).map (fun i => (i.zero, i.size)) = some (some (.agg #[.int .i64 0, .int .i64 0, .slice none 0 0]), 3) := by kernel_rfl
theorem do_one {a b : Int} {p : Option Addr} {m c : Nat} : (#[.int .i64 a, .int .i64 b, .slice p m c] : Array Value).all (·.oneCell') = true := by simp [Value.oneCell']
theorem arr3 (f : Nat → Value) : arr 3 f = #[f 0, f 1, f 2] := rfl
set_option maxHeartbeats 16000000
theorem walk (W : World) (a0 : Option Addr) (g0 o0 n0 c0 : Nat) (x0 : Nat → Nat) (w0 : Row W a0 g0 o0 n0 c0 x0) (m0 : c0 ≤ 140737488351232) (room : Int) (wr0 : (Lit.int .i64 room).wf = true) (v2 : Value) (ds : List TDo) (w2' : TDosAt W v2 ds) (at_ : Int) (wa : (Lit.int .i64 at_).wf = true) :
    Calls Try.prog 3 #[.slice a0 n0 c0, .int .i64 room, v2, .int .i64 at_] W fun e w' => e = .returned (.bool true) ∧ Below W.heap.size W w' := by
  clear wr0 wa
  obtain ⟨aL, gL, oL, cL, V, rfl, hb1, R1, hV⟩ := w2'
  obtain ⟨n, df, hn, hdf⟩ : ∃ (n : Nat) (df : Nat → TDo), n = ds.length ∧ ∀ i, i < n → TDoAt W (fun j => V (i * 3 + j)) (df i) := ⟨ds.length, fun i => ds.getD i ⟨0, 0, []⟩, rfl, fun i hi => by
    have h1 := hV i hi
    have e : ds.getD i ⟨0, 0, []⟩ = ds[i] := by rw [List.getD_eq_getElem?_getD, List.getElem?_eq_getElem hi]; rfl
    show TDoAt W (fun j => V (i * 3 + j)) (ds.getD i ⟨0, 0, []⟩)
    rw [e]
    exact h1⟩
  rw [← hn] at R1 hb1 ⊢
  have RL := Lib.hid R1
  have HV := Lib.hid hdf
  have HB := Lib.hid hb1
  have R0 := Lib.hid w0
  have M0 := Lib.hid (Nat.le_trans w0.le m0)
  clear hV hdf R1 hb1 hn w0 m0
  by_cases hbad : ¬ (0 ≤ room ∧ room ≤ 16777216) ∨ room < n0
  · have HBD := Lib.hid hbad
    clear hbad
    go_enter Try.func3, Try.ntmps3
    go_wp2_with (first
      | (go_at_call 8; refine (of_bad R0 room HBD.out).mono ?_; rintro e w3 ⟨rfl, rfl⟩)
      | (go_at_call 9; refine (xof_bad room HBD.out).mono ?_; rintro e w3 ⟨rfl, rfl⟩))
    go_ret
    exact ⟨rfl, Below.refl _ _⟩
  · have hr : (0 ≤ room ∧ room ≤ 16777216) ∧ n0 ≤ room := by
      refine ⟨?_, ?_⟩
      · exact Classical.byContradiction fun h => hbad (.inl h)
      · exact Int.not_lt.1 fun h => hbad (.inr h)
    have HR := Lib.hid hr
    clear hbad hr
    go_enter Try.func3, Try.ntmps3
    go_upto_region 8 with (first
      | (go_at_call 8; refine (of_ok R0 room HR.out.1 HR.out.2).mono ?_; rintro e w3 ⟨v, rfl, hM⟩; obtain ⟨bt, bs, p, g, c, rfl, hT, hb⟩ := hM; have T3 := Lib.hid hT; have B3 := Lib.hid hb; clear hT hb)
      | (go_at_call 9; refine (xof_ok (Lib.hid (R0.out.below B3.out)) room HR.out.1 HR.out.2).mono ?_; rintro e w4 ⟨v, rfl, hM⟩; obtain ⟨bx, p2, g2, c2, rfl, hX, hb⟩ := hM; have X4 := Lib.hid hX; have B4 := Lib.hid hb; clear hX hb))
    have J4 : Hid (Jo W ⟨bt, bs, bx, p, g, c, p2, g2, c2⟩ ⟨tl x0 n0, n0, room, false, 0⟩ w4) := Lib.hid ⟨T3.out.call B4.out, X4.out.mono B3.out, fun k e e2 => by
      have := (T3.out.lies k e).2
      have := (X4.out.lies k e2).1
      omega, ⟨by show n0 ≤ (tl x0 n0).length; rw [tl_length]; exact Nat.le_refl _, by show (tl x0 n0).length ≤ 16777216; rw [tl_length]; have := HR.out; omega, HR.out.1, ⟨by show (0 : Int) ≤ 0; omega, by show (0 : Int) ≤ _; omega⟩, fun _ => rfl⟩⟩
    have C4 : Hid (Cps W ⟨bt, bs, bx, p, g, c, p2, g2, c2⟩ (.pointer none) (.pointer none) w4) := Lib.hid (.inl ⟨rfl, rfl⟩)
    have n47 : n ≤ 3518437208783 := by have := HB.out; omega
    clear T3 X4 B3 B4
    go_loopg [13, 14, 56] n (fun k vc vy i wr => ∃ (q : Nat) (p : Option Addr) (g c : Nat) (p2 : Option Addr) (g2 c2 : Nat) (t : St), q + k = n ∧ i = .int .i64 (q : Int) ∧ Hid (Jo W ⟨bt, bs, bx, p, g, c, p2, g2, c2⟩ t wr) ∧ Hid (Cps W ⟨bt, bs, bx, p, g, c, p2, g2, c2⟩ vc vy wr))
    case atStart => exact ⟨0, p, g, c, p2, g2, c2, _, by omega, rfl, J4, C4⟩
    case round =>
      clear J4 C4
      obtain ⟨q, p4, g4, c4, p5, g5, c5, t, hq, rfl, J, C⟩ := hrel
      obtain ⟨kk, rfl⟩ : ∃ kk : Nat, kk = gk := ⟨_, rfl⟩
      by_cases hlt : q < n
      · obtain rfl := RL.out.head (by omega)
        have hd := HV.out q hlt
        obtain ⟨qq, hh, oo, d, hv2, hm2, R2⟩ := hd.h2
        obtain ⟨op, hop⟩ : ∃ op, op = (df q).op := ⟨_, rfl⟩
        obtain ⟨nn, hnn⟩ : ∃ nn, nn = (df q).n := ⟨_, rfl⟩
        obtain ⟨m, hm⟩ : ∃ m, m = (df q).bs.length := ⟨_, rfl⟩
        obtain ⟨y, hy⟩ : ∃ y, y = lf (df q).bs := ⟨_, rfl⟩
        have HN : Hid (-9223372036854775808 ≤ nn ∧ nn ≤ 9223372036854775807) := Lib.hid (by rw [hnn]; exact hd.r1)
        rw [← hm] at hv2 hm2 R2
        rw [← hy] at R2
        have LD : Hid (∀ w', Below W.heap.size W w' → (Instr.loadAt 32 (.pointer (some ⟨gL, oL + q * 3, none⟩))).run Try.prog w' = .ok (.agg #[.int .i64 op, .int .i64 nn, .slice qq m d]) w') := Lib.hid fun w' hb => by
          have h1 := (RL.out.below hb).load (P := Try.prog) (ty := 32) (i := q) hlt Try.underlying32 rfl (by kernel_rfl)
          have e0 : V (q * 3 + 0) = .int .i64 op := by rw [hop]; exact hd.h0
          have e1 : V (q * 3 + 1) = .int .i64 nn := by rw [hnn]; exact hd.h1
          have e2 : V (q * 3 + 2) = .slice qq m d := hv2
          rw [arr3, e0, e1, e2] at h1
          exact h1
        have RR := Lib.hid R2
        have HM := Lib.hid hm2
        clear hd hv2 hm2 R2 hop hnn hm hy
        by_cases h60 : (60 : Int) < (q : Int)
        · rcases C.out with ⟨rfl, rfl⟩ | ⟨⟨bt3, bs3, bx3, p6, g6, c6, p7, g7, c7⟩, t3, rfl, rfl, J3, hd3⟩
          · go_wp2_with (first
        | ((with_reducible refine wpList_at 59 rfl ?_); refine wpList_ix (k := 3) (j := q) Try.underlying23 (by kernel_rfl) (.tmp 54) (.tmp 56) rfl rfl rfl rfl hlt rfl ?_; try simp only [Act.put, List.setIfInBounds_toArray, List.set_cons_zero, List.set_cons_succ])
        | ((with_reducible refine wpList_at 60 rfl ?_); refine wpList_ld 32 (.tmp 59) rfl rfl rfl (LD.out _ J.out.T.mem.below) ?_; try simp only [Act.put, List.setIfInBounds_toArray, List.set_cons_zero, List.set_cons_succ])
        | ((with_reducible refine wpList_at 16 rfl ?_); refine mem_alloc (Lib.hid (Mem.nil _)) 32 rfl rfl infoTDO ?_; intro b8 w8 E8; replace E8 : Hid (Mem wr [(b8, 32, #[.int .i64 0, .int .i64 0, .slice none 0 0])] w8) := E8; try simp only [Act.put, List.setIfInBounds_toArray, List.set_cons_zero, List.set_cons_succ])
        | ((with_reducible refine wpList_atn rfl ?_); refine mem_store_row (c' := #[.int .i64 op, .int .i64 nn, .slice qq m d]) 0 E8 32 rfl (.tmp 16) (.tmp 60) rfl rfl rfl rfl (by kernel_rfl) rfl do_one ?_; intro w9 E9; simp only [List.set_cons_zero] at E9; have J9 := Lib.hid (J.out.call E9.out.below))
            | (go_at_call 13; refine (same_any (Lib.hid J9.out.T) (Lib.hid J9.out.X) (by have := J9.out.ok.hx; omega)).mono ?_; rintro e w20 ⟨rfl, hb⟩; have J10 := Lib.hid (J9.out.call hb); have B10 := Lib.hid hb; clear hb))
            go_ret
            exact ⟨rfl, J10.out.T.mem.below⟩
          · have HD := Lib.hid hd3
            have K0 := Lib.hid J3
            clear hd3 J3 C
            go_wp2_with (first
        | ((with_reducible refine wpList_at 59 rfl ?_); refine wpList_ix (k := 3) (j := q) Try.underlying23 (by kernel_rfl) (.tmp 54) (.tmp 56) rfl rfl rfl rfl hlt rfl ?_; try simp only [Act.put, List.setIfInBounds_toArray, List.set_cons_zero, List.set_cons_succ])
        | ((with_reducible refine wpList_at 60 rfl ?_); refine wpList_ld 32 (.tmp 59) rfl rfl rfl (LD.out _ J.out.T.mem.below) ?_; try simp only [Act.put, List.setIfInBounds_toArray, List.set_cons_zero, List.set_cons_succ])
        | ((with_reducible refine wpList_at 16 rfl ?_); refine mem_alloc (Lib.hid (Mem.nil _)) 32 rfl rfl infoTDO ?_; intro b8 w8 E8; replace E8 : Hid (Mem wr [(b8, 32, #[.int .i64 0, .int .i64 0, .slice none 0 0])] w8) := E8; try simp only [Act.put, List.setIfInBounds_toArray, List.set_cons_zero, List.set_cons_succ])
        | ((with_reducible refine wpList_atn rfl ?_); refine mem_store_row (c' := #[.int .i64 op, .int .i64 nn, .slice qq m d]) 0 E8 32 rfl (.tmp 16) (.tmp 60) rfl rfl rfl rfl (by kernel_rfl) rfl do_one ?_; intro w9 E9; simp only [List.set_cons_zero] at E9; have J9 := Lib.hid (J.out.call E9.out.below))
            | (go_at_call 13; refine (same_any (Lib.hid J9.out.T) (Lib.hid J9.out.X) (by have := J9.out.ok.hx; omega)).mono ?_; rintro e w21 ⟨rfl, hb⟩; have JB := Lib.hid (J9.out.call hb); have KB := Lib.hid ((Lib.hid (K0.out.call E9.out.below)).out.call hb); clear hb J9)
            | (go_at_call 13; refine (same_any (Lib.hid KB.out.T) (Lib.hid KB.out.X) (by have := KB.out.ok.hx; omega)).mono ?_; rintro e w22 ⟨rfl, hb⟩; have JC := Lib.hid (JB.out.call hb); have KC := Lib.hid (KB.out.call hb); clear hb JB KB)
            | ((with_reducible refine wpList_at 98 rfl ?_); refine wpList_bsy (ps := #[(0, .int .u8 1)]) rfl 1 _ rfl (by kernel_rfl) [1] (fun x hx => by simp at hx; omega) (by unfold maxLen; omega) run_one ?_; intro b23 w23 R23 B23 G23; have JD := Lib.hid (JC.out.call B23.out); have KD := Lib.hid (KC.out.call B23.out); try simp only [Act.put, List.setIfInBounds_toArray, List.set_cons_zero, List.set_cons_succ])
            | (go_at_call 14; refine (tapp_all (Lib.hid KD.out.T) KD.out.ok R23 (by omega) (fun _ => KC.out.T.apart2 G23.out)).mono ?_; rintro e w24 ⟨rfl, hT⟩; obtain ⟨p8, g8, c8, hT', hX', hA', hF', hL'⟩ := t_step KD.out.T KD.out.X KD.out.ap hT; have T24 := Lib.hid hT'; have X24 := Lib.hid hX'; have A24 := Lib.hid hA'; have JE := Lib.hid (JD.out.keep (Chg.fr hF') (fun k hk hs => HD.out k (by rcases hs with e | e; exact .inr (.inl e); exact .inr (.inr (.inr (.inl e.symm)))) hk) (fun k hs => by rcases hs with e | e; exact e ▸ KD.out.T.geb.1; exact (KD.out.T.lies k e.symm).1)); clear hT hT' hX' hA' hF' hL')
            | ((with_reducible refine wpList_at 101 rfl ?_); refine wpList_bsy (ps := #[(0, .int .u8 1)]) rfl 1 _ rfl (by kernel_rfl) [1] (fun x hx => by simp at hx; omega) (by unfold maxLen; omega) run_one ?_; intro b25 w25 R25 B25 G25; have JF := Lib.hid (JE.out.call B25.out); have T25 := Lib.hid (T24.out.call B25.out); have X25 := Lib.hid (X24.out.call B25.out); have N25 := Lib.hid (show b25 ≠ bx3 from fun e => by have := heap_lt X24.out.cX; have := G25.out; omega); try simp only [Act.put, List.setIfInBounds_toArray, List.set_cons_zero, List.set_cons_succ])
            | (go_at_call 15; refine (xapp_all (t := t3) X25 KD.out.ok R25 (by omega) (fun _ => N25.out)).mono ?_; rintro e w26 ⟨rfl, hX⟩; obtain ⟨p9, g9, c9, hX', hT', hA', hF', hL'⟩ := x_step T25.out X25.out A24.out hX; have JG := Lib.hid (JF.out.keep (Chg.fr hF') (fun k hk hs => HD.out k (by rcases hs with e | e; exact .inr (.inr (.inl e)); cases e) hk) (fun k hs => by rcases hs with e | e; exact e ▸ X25.out.geb; cases e)); clear hX hX' hT' hA' hF' hL')
            | ((with_reducible refine wpList_at 103 rfl ?_); refine wpList_known4 rfl (.bool true) _ (exec_eqerr rfl rfl rfl) ?_; try simp only [Act.put, List.setIfInBounds_toArray, List.set_cons_zero, List.set_cons_succ])
            | (go_at_call 13; refine (same_any (Lib.hid JG.out.T) (Lib.hid JG.out.X) (by have := JG.out.ok.hx; omega)).mono ?_; rintro e w27 ⟨rfl, hb⟩; have JH := Lib.hid (JG.out.call hb); clear hb))
            go_ret
            exact ⟨rfl, JH.out.T.mem.below⟩
        · by_cases hat : (q : Int) = at_
          · go_wp2_with (first
        | ((with_reducible refine wpList_at 59 rfl ?_); refine wpList_ix (k := 3) (j := q) Try.underlying23 (by kernel_rfl) (.tmp 54) (.tmp 56) rfl rfl rfl rfl hlt rfl ?_; try simp only [Act.put, List.setIfInBounds_toArray, List.set_cons_zero, List.set_cons_succ])
        | ((with_reducible refine wpList_at 60 rfl ?_); refine wpList_ld 32 (.tmp 59) rfl rfl rfl (LD.out _ J.out.T.mem.below) ?_; try simp only [Act.put, List.setIfInBounds_toArray, List.set_cons_zero, List.set_cons_succ])
        | ((with_reducible refine wpList_at 16 rfl ?_); refine mem_alloc (Lib.hid (Mem.nil _)) 32 rfl rfl infoTDO ?_; intro b8 w8 E8; replace E8 : Hid (Mem wr [(b8, 32, #[.int .i64 0, .int .i64 0, .slice none 0 0])] w8) := E8; try simp only [Act.put, List.setIfInBounds_toArray, List.set_cons_zero, List.set_cons_succ])
        | ((with_reducible refine wpList_atn rfl ?_); refine mem_store_row (c' := #[.int .i64 op, .int .i64 nn, .slice qq m d]) 0 E8 32 rfl (.tmp 16) (.tmp 60) rfl rfl rfl rfl (by kernel_rfl) rfl do_one ?_; intro w9 E9; simp only [List.set_cons_zero] at E9; have J9 := Lib.hid (J.out.call E9.out.below))
            | (go_at_call 10; refine (copy_any (Lib.hid J9.out.T) (by have := J9.out.ok.hx; omega)).mono ?_; rintro e w10 ⟨v10, rfl, hM⟩; have M10 := Lib.hid hM; have X10 : Hid (XS W bx t p5 g5 c5 w10) := Lib.hid (by obtain ⟨_, _, _, _, _, _, _, hb⟩ := hM; exact J9.out.X.call hb); clear hM)
            | (go_at_call 11; refine (xcopy_any X10 (by have := J9.out.ok.hx; omega)).mono ?_; rintro e w12 ⟨v12, rfl, hM⟩; have CN := Lib.hid (cps_new J9.out J9.out.T.mem.below M10.out hM J9.out.ok); have CX := Lib.hid CN.out.1; have JX := Lib.hid (J9.out.call CN.out.2); have EX := Lib.hid (E9.out.call CN.out.2); clear hM CN M10 X10 C)
            | ((with_reducible refine wpList_at 72 rfl ?_); refine mem_load_row EX 32 rfl (.tmp 16) rfl rfl List.mem_cons_self Try.underlying32 rfl (by kernel_rfl) ?_; try simp only [Act.put, List.setIfInBounds_toArray, List.set_cons_zero, List.set_cons_succ])
            | (go_at_call 12; refine (does_any _ W ⟨bt, bs, bx, p4, g4, c4, p5, g5, c5⟩ t JX.out op nn HN.out qq hh oo m d y (RR.out.below JX.out.T.mem.below) HM.out (fun h0 hk => by have := (JX.out.blk_lt hk).2; have := cell_lt (RR.out.cell 0 h0); have h9 : hh < W.heap.size := this; omega)).mono ?_; rintro e w11 ⟨rfl, hD⟩; have DD := Lib.hid hD; clear hD; obtain ⟨⟨b1, b2, b3, p6, g6, c6, p7, g7, c7⟩, t', J', M'⟩ := DD.out; obtain rfl : b1 = bt := M'.bt; obtain rfl : b2 = bs := M'.bs; obtain rfl : b3 = bx := M'.bx; have J11 := Lib.hid J'; have M11 := Lib.hid M'; clear J' M' DD)
            | (go_at_call 13; refine (same_any (Lib.hid J11.out.T) (Lib.hid J11.out.X) (by have := J11.out.ok.hx; omega)).mono ?_; rintro e w13 ⟨rfl, hb⟩; have J12 := Lib.hid (J11.out.call hb); have C12 := Lib.hid (cps_call (cps_move CX.out JX.out M11.out) hb); clear hb))
            go_roundg (n - (q + 1))
            case measure => omega
            case rel => exact ⟨q + 1, p6, g6, c6, p7, g7, c7, t', by omega, by go_num, J12, C12⟩
          · go_wp2_with (first
        | ((with_reducible refine wpList_at 59 rfl ?_); refine wpList_ix (k := 3) (j := q) Try.underlying23 (by kernel_rfl) (.tmp 54) (.tmp 56) rfl rfl rfl rfl hlt rfl ?_; try simp only [Act.put, List.setIfInBounds_toArray, List.set_cons_zero, List.set_cons_succ])
        | ((with_reducible refine wpList_at 60 rfl ?_); refine wpList_ld 32 (.tmp 59) rfl rfl rfl (LD.out _ J.out.T.mem.below) ?_; try simp only [Act.put, List.setIfInBounds_toArray, List.set_cons_zero, List.set_cons_succ])
        | ((with_reducible refine wpList_at 16 rfl ?_); refine mem_alloc (Lib.hid (Mem.nil _)) 32 rfl rfl infoTDO ?_; intro b8 w8 E8; replace E8 : Hid (Mem wr [(b8, 32, #[.int .i64 0, .int .i64 0, .slice none 0 0])] w8) := E8; try simp only [Act.put, List.setIfInBounds_toArray, List.set_cons_zero, List.set_cons_succ])
        | ((with_reducible refine wpList_atn rfl ?_); refine mem_store_row (c' := #[.int .i64 op, .int .i64 nn, .slice qq m d]) 0 E8 32 rfl (.tmp 16) (.tmp 60) rfl rfl rfl rfl (by kernel_rfl) rfl do_one ?_; intro w9 E9; simp only [List.set_cons_zero] at E9; have JX := Lib.hid (J.out.call E9.out.below); have EX := E9; have CX := Lib.hid (cps_call C.out E9.out.below))
            | ((with_reducible refine wpList_at 72 rfl ?_); refine mem_load_row EX 32 rfl (.tmp 16) rfl rfl List.mem_cons_self Try.underlying32 rfl (by kernel_rfl) ?_; try simp only [Act.put, List.setIfInBounds_toArray, List.set_cons_zero, List.set_cons_succ])
            | (go_at_call 12; refine (does_any _ W ⟨bt, bs, bx, p4, g4, c4, p5, g5, c5⟩ t JX.out op nn HN.out qq hh oo m d y (RR.out.below JX.out.T.mem.below) HM.out (fun h0 hk => by have := (JX.out.blk_lt hk).2; have := cell_lt (RR.out.cell 0 h0); have h9 : hh < W.heap.size := this; omega)).mono ?_; rintro e w11 ⟨rfl, hD⟩; have DD := Lib.hid hD; clear hD; obtain ⟨⟨b1, b2, b3, p6, g6, c6, p7, g7, c7⟩, t', J', M'⟩ := DD.out; obtain rfl : b1 = bt := M'.bt; obtain rfl : b2 = bs := M'.bs; obtain rfl : b3 = bx := M'.bx; have J11 := Lib.hid J'; have M11 := Lib.hid M'; clear J' M' DD)
            | (go_at_call 13; refine (same_any (Lib.hid J11.out.T) (Lib.hid J11.out.X) (by have := J11.out.ok.hx; omega)).mono ?_; rintro e w13 ⟨rfl, hb⟩; have J12 := Lib.hid (J11.out.call hb); have C12 := Lib.hid (cps_call (cps_move CX.out JX.out M11.out) hb); clear hb))
            go_roundg (n - (q + 1))
            case measure => omega
            case rel => exact ⟨q + 1, p6, g6, c6, p7, g7, c7, t', by omega, by go_num, J12, C12⟩
      · rcases C.out with ⟨rfl, rfl⟩ | ⟨⟨bt3, bs3, bx3, p6, g6, c6, p7, g7, c7⟩, t3, rfl, rfl, J3, hd3⟩
        · go_wp2_with (first
            | (go_at_call 13; refine (same_any (Lib.hid J.out.T) (Lib.hid J.out.X) (by have := J.out.ok.hx; omega)).mono ?_; rintro e w20 ⟨rfl, hb⟩; have J10 := Lib.hid (J.out.call hb); have B10 := Lib.hid hb; clear hb))
          go_ret
          exact ⟨rfl, J10.out.T.mem.below⟩
        · have HD := Lib.hid hd3
          have K0 := Lib.hid J3
          clear hd3 J3 C
          go_wp2_with (first
            | (go_at_call 13; refine (same_any (Lib.hid J.out.T) (Lib.hid J.out.X) (by have := J.out.ok.hx; omega)).mono ?_; rintro e w21 ⟨rfl, hb⟩; have JB := Lib.hid (J.out.call hb); have KB := Lib.hid (K0.out.call hb); clear hb J)
            | (go_at_call 13; refine (same_any (Lib.hid KB.out.T) (Lib.hid KB.out.X) (by have := KB.out.ok.hx; omega)).mono ?_; rintro e w22 ⟨rfl, hb⟩; have JC := Lib.hid (JB.out.call hb); have KC := Lib.hid (KB.out.call hb); clear hb JB KB)
            | ((with_reducible refine wpList_at 98 rfl ?_); refine wpList_bsy (ps := #[(0, .int .u8 1)]) rfl 1 _ rfl (by kernel_rfl) [1] (fun x hx => by simp at hx; omega) (by unfold maxLen; omega) run_one ?_; intro b23 w23 R23 B23 G23; have JD := Lib.hid (JC.out.call B23.out); have KD := Lib.hid (KC.out.call B23.out); try simp only [Act.put, List.setIfInBounds_toArray, List.set_cons_zero, List.set_cons_succ])
            | (go_at_call 14; refine (tapp_all (Lib.hid KD.out.T) KD.out.ok R23 (by omega) (fun _ => KC.out.T.apart2 G23.out)).mono ?_; rintro e w24 ⟨rfl, hT⟩; obtain ⟨p8, g8, c8, hT', hX', hA', hF', hL'⟩ := t_step KD.out.T KD.out.X KD.out.ap hT; have T24 := Lib.hid hT'; have X24 := Lib.hid hX'; have A24 := Lib.hid hA'; have JE := Lib.hid (JD.out.keep (Chg.fr hF') (fun k hk hs => HD.out k (by rcases hs with e | e; exact .inr (.inl e); exact .inr (.inr (.inr (.inl e.symm)))) hk) (fun k hs => by rcases hs with e | e; exact e ▸ KD.out.T.geb.1; exact (KD.out.T.lies k e.symm).1)); clear hT hT' hX' hA' hF' hL')
            | ((with_reducible refine wpList_at 101 rfl ?_); refine wpList_bsy (ps := #[(0, .int .u8 1)]) rfl 1 _ rfl (by kernel_rfl) [1] (fun x hx => by simp at hx; omega) (by unfold maxLen; omega) run_one ?_; intro b25 w25 R25 B25 G25; have JF := Lib.hid (JE.out.call B25.out); have T25 := Lib.hid (T24.out.call B25.out); have X25 := Lib.hid (X24.out.call B25.out); have N25 := Lib.hid (show b25 ≠ bx3 from fun e => by have := heap_lt X24.out.cX; have := G25.out; omega); try simp only [Act.put, List.setIfInBounds_toArray, List.set_cons_zero, List.set_cons_succ])
            | (go_at_call 15; refine (xapp_all (t := t3) X25 KD.out.ok R25 (by omega) (fun _ => N25.out)).mono ?_; rintro e w26 ⟨rfl, hX⟩; obtain ⟨p9, g9, c9, hX', hT', hA', hF', hL'⟩ := x_step T25.out X25.out A24.out hX; have JG := Lib.hid (JF.out.keep (Chg.fr hF') (fun k hk hs => HD.out k (by rcases hs with e | e; exact .inr (.inr (.inl e)); cases e) hk) (fun k hs => by rcases hs with e | e; exact e ▸ X25.out.geb; cases e)); clear hX hX' hT' hA' hF' hL')
            | ((with_reducible refine wpList_at 103 rfl ?_); refine wpList_known4 rfl (.bool true) _ (exec_eqerr rfl rfl rfl) ?_; try simp only [Act.put, List.setIfInBounds_toArray, List.set_cons_zero, List.set_cons_succ])
            | (go_at_call 13; refine (same_any (Lib.hid JG.out.T) (Lib.hid JG.out.X) (by have := JG.out.ok.hx; omega)).mono ?_; rintro e w27 ⟨rfl, hb⟩; have JH := Lib.hid (JG.out.call hb); clear hb))
          go_ret
          exact ⟨rfl, JH.out.T.mem.below⟩

set_option maxRecDepth 100000 in
theorem lifted (os : Os) (started : os.Started) (H : Type) (enc : TypeId × Value → H) :
    ReturnsInHanded {} Try.checked os 3 .any (Rows.tapeLivesSpec.pre6 enc Try.prog Try.f3 Rows.tapeLivesRow.domain false) (Rows.tapeLivesSpec.post enc Try.prog Try.f3 false true false false) := by
  refine returnsInHanded_of_change_sized (C := Try.checked) own started (by kernel_rfl) Try.func3
    (ChangeSpec.witness6 (enc := enc) (C := Try.checked) false ⟨#[], #[.slice none 0 0, .int .i64 0, .slice none 0 0, .int .i64 0], []⟩ 8 (by kernel_rfl) (by kernel_rfl) (by kernel_rfl) (by kernel_rfl)) ?_
  intro W base args ds gs before hval0 hW hcnd hsz0 _
  have hval : ∀ (j : Nat) t v, Try.f3.params[j]? = some t → args[j]? = some v → Value.okWide Try.prog W .any base t v := hval0
  have hsz : (DataW.weightsEach Try.prog (Try.f3.params.toList ++ Rows.tapeLivesSpec.plain.varTypes Try.prog) (ds ++ gs)).all (· ≤ reachBytes) = true := hsz0
  have hW' := hW
  obtain ⟨p, q, hA0, hV, rfl, hfz, hnd⟩ := hW
  have hA : DataW.TrodAll enc Try.prog W 0 (fun _ => true) true Try.f3.params.toList args.toList ds p := hA0
  rw [Try.params3] at hA hval hsz
  obtain ⟨v0, vs0, d0, ds0, p0, q0, hargs, rfl, rfl, h0, r0⟩ := trodAll_cons hA
  obtain ⟨v1, vs1, d1, ds1, p1, q1, rfl, rfl, rfl, h1, r1⟩ := trodAll_cons r0
  obtain ⟨v2, vs2, d2, ds2, p2, q2, rfl, rfl, rfl, h2, r2⟩ := trodAll_cons r1
  obtain ⟨v3, vs3, d3, ds3, p3, q3, rfl, rfl, rfl, h3, r3⟩ := trodAll_cons r2
  obtain ⟨rfl, rfl, rfl⟩ := trodAll_nil r3
  obtain rfl : args = #[v0, v1, v2, v3] := by cases args; simp_all
  obtain ⟨rfl, rfl⟩ := trodVars_none hV
  have k0 := h0
  have lt0 : ∀ x ∈ p0, x.block < W.heap.size := by obtain ⟨m, hm⟩ := k0; exact DataW.trod_lt m _ _ _ hm
  obtain ⟨a0, g0, o0, n0, c0, x0, rfl, w0, m0⟩ := open_row (j := 0) (hval 0 22 v0 rfl rfl) h0 hsz rfl rfl
  obtain ⟨a1, rfl, rfl, rfl, w1⟩ := open_int Try.underlying3 (hval 1 3 v1 rfl rfl) h1
  have k2 := h2
  have lt2 : ∀ x ∈ p2, x.block < W.heap.size := by obtain ⟨m, hm⟩ := k2; exact DataW.trod_lt m _ _ _ hm
  obtain ⟨t2, w2⟩ := open_tdos_arg (j := 2) (hval 2 23 v2 rfl rfl) h2 hsz rfl rfl
  obtain ⟨a3, rfl, rfl, rfl, w3⟩ := open_int Try.underlying3 (hval 3 3 v3 rfl rfl) h3
  clear hA0 hval0 hsz0
  simp only [List.append_nil] at hW'
  refine (walk W a0 g0 o0 n0 c0 x0 w0 m0 a1 w1 v2 t2 w2 a3 w3).mono fun e W' ⟨he, bel⟩ => ?_
  subst he
  exact ⟨_, rfl, _, _, _, [], _, [], hW', trodAll_mk1 (shut_bool Try.underlying4 _), (trodAll_cons_mk (Below.trod laidOut (by kernel_rfl) (of_decide_eq_true (by kernel_rfl)) k0 bel lt0) (trodAll_cons_mk (shut_int Try.underlying3 w1) (trodAll_cons_mk (Below.trod laidOut (by kernel_rfl) (of_decide_eq_true (by kernel_rfl)) k2 bel lt2) (trodAll_cons_mk (shut_int Try.underlying3 w3) trodAll_mk0)))), rfl, bel.frame _, fun h => by cases h⟩

theorem over : Rows.tapeLivesRow.holds Try.pinned (OpenSpec.ofChange Rows.tapeLivesSpec) :=
  OpenClaim.holds_of_wide 3 Try.f3 rfl rfl rfl rfl rfl rfl rfl ⟨rfl, rfl, rfl, rfl, rfl⟩ rfl rfl rfl rfl rfl (by kernel_rfl) Try.func3 (by kernel_rfl)
    (of_decide_eq_true (by kernel_rfl)) (by unfold Func.isWrapper; first | (rw [if_pos (by decide +kernel)]; kernel_rfl) | (rw [if_neg (by decide +kernel)]; exact ⟨rfl, rfl⟩))
    (fun os started H enc _ => lifted os started H enc)

/-- The statement. -/
theorem proved : Rows.TapeLivesSaid :=
  over
#print axioms proved
end Go.Proofs.Ytlbbnaihhagfdaa.tapeLives
