/- The document's frame at the beginning of bytes: whatever they are. -/
import Derived.Test.YtkjcljobcidhfaaDoorRgc
import Derived.Test.YtkjcljobcidhfaaDoorGf
set_option linter.unusedSimpArgs false
set_option linter.unusedVariables false
set_option maxRecDepth 100000
namespace Go.Proofs.YtkjcljobcidhfaaDoor
open Go.RowKit Go.Lib Go.Sort

theorem bounds_lhu {w : World} {n c l h : Nat} (h1 : l ≤ h) (h2 : h ≤ c) : (Instr.sliceBounds true n c (some (.int .i64 (l : Int))) (some (.int .u64 (h : Int))) none).run Tryd.prog w = .ok (l, h, c) w := by
  simp [Instr.sliceBounds, run_sliceBound, h1, h2]
theorem bounds_lu {w : World} {n c l : Nat} (h1 : l ≤ n) : (Instr.sliceBounds true n c (some (.int .u64 (l : Int))) none none).run Tryd.prog w = .ok (l, n, c) w := by
  simp [Instr.sliceBounds, run_sliceBound, h1]
theorem sl_ofu {W : World} {p : Option Addr} {g o n c : Nat} {x : Nat → Nat} (R : Row W p g o n c x) (l h : Nat) (h1 : l ≤ h) (h2 : h ≤ n) : ∃ p', (∀ W', (Instr.sliceAt 26 (.slice p n c) (some (.int .i64 (l : Int))) (some (.int .u64 (h : Int))) none).run Tryd.prog W' = .ok (.slice p' (h - l) (c - l)) W') ∧ Row W p' g (o + l) (h - l) (c - l) (fun i => x (l + i)) := by
  have := R.le
  obtain ⟨p', e, R'⟩ := R.slice h1 h2 (by omega) (Nat.le_refl c)
  exact ⟨p', fun W' => by rw [run_sl (bounds_lhu h1 (by omega)), e], R'⟩
theorem sl_oflu {W : World} {p : Option Addr} {g o n c : Nat} {x : Nat → Nat} (R : Row W p g o n c x) (l : Nat) (h1 : l ≤ n) : ∃ p', (∀ W', (Instr.sliceAt 26 (.slice p n c) (some (.int .u64 (l : Int))) none none).run Tryd.prog W' = .ok (.slice p' (n - l) (c - l)) W') ∧ Row W p' g (o + l) (n - l) (c - l) (fun i => x (l + i)) := by
  have := R.le
  obtain ⟨p', e, R'⟩ := R.slice h1 (Nat.le_refl n) (by omega) (Nat.le_refl c)
  exact ⟨p', fun W' => by rw [run_sl (bounds_lu h1), e], R'⟩
theorem strX_inj {x y : Nat → Nat} (hx : ∀ i, x i < 256) (hy : ∀ i, y i < 256) (n : Nat) : strX x n = strX y n ↔ ∀ i, i < n → x i = y i := (strX_eq hx (strX_size y n)).trans ⟨fun h i hi => by rw [h i hi, strX_sb hy hi], fun h i hi => by rw [h i hi, strX_sb hy hi]⟩
/-- The document's reader. -/
def Rq (D : World) (bx : Nat) (v : Value) (er : Int) (p : Option Addr) (g c : Nat) (xs : List Nat) (w : World) : Prop := Wb D [(bx, 29, #[v, .int .i64 er])] p g c xs w
theorem rfirst_any {D W : World} {bx : Nat} {p : Option Addr} {g c : Nat} {zs : List Nat} (K : Rq D bx (.slice p zs.length c) 0 p g c zs W) (hn : zs.length ≤ 70000000000000) : Calls Tryd.prog 22 #[.pointer (some ⟨bx, 0, none⟩)] W (RFirstEnd bx zs W (pFirst zs)) := by
  have CB := Lib.hid (K.mem.get List.mem_cons_self)
  have CX := Lib.hid (show ∀ w', Below W.heap.size W w' → w'.cell? ⟨bx, 0, none⟩ = some (.slice p zs.length c) from fun w' hb => cell_of_here (by rw [hb.block bx (heap_lt CB.out)]; exact CB.out) 0 rfl)
  have R := Lib.hid K.own.row
  by_cases h24 : zs.length < 24
  · rw [show pFirst zs = .wait from by unfold pFirst; rw [if_pos h24]]
    exact rfirst_short h24 CX
  have h24' : 24 ≤ zs.length := by omega
  obtain ⟨p4, S4, R4⟩ := sl_of R.out 4 16 (by omega) (by omega)
  obtain ⟨p0, S0, R0⟩ := sl_of0 R.out 4 (by omega)
  obtain ⟨p16, S16, R16⟩ := sl_of R.out 16 20 (by omega) (by omega)
  obtain ⟨p20, S20, R20⟩ := sl_of R.out 20 24 (by omega) (by omega)
  have T4 := Lib.hid (show ∀ w', Below W.heap.size W w' → Calls Tryd.prog 31 #[.slice p4 12 (c - 4)] w' fun e w'' => e = .returned (.string (comS (cmdX zs))) ∧ w' = w'' from fun w' hb => rcom_any (Lib.hid (show Row w' p4 g (0 + 4) 12 (c - 4) (cmdX zs) from R4.below hb)))
  have kl := trimLen_le (cmdX zs) 12
  have N0 := Lib.hid (show ∀ w', Below W.heap.size W w' → Calls Tryd.prog 32 #[.slice p0 4 c] w' fun e w'' => e = .returned (.int .u64 ((ofBytes (lf zs) 4 : Nat) : Int)) ∧ w' = w'' from fun w' hb => ref_number_any (Lib.hid (R0.below hb)) (by omega))
  have N16 := Lib.hid (show ∀ w', Below W.heap.size W w' → Calls Tryd.prog 32 #[.slice p16 4 (c - 16)] w' fun e w'' => e = .returned (.int .u64 ((lenX zs : Nat) : Int)) ∧ w' = w'' from fun w' hb => ref_number_any (Lib.hid (R16.below hb)) (by omega))
  by_cases hm : ofBytes (lf zs) 4 = 3652501241
  · by_cases hc : isCom (cmdX zs) (trimLen (cmdX zs) 12) = true
    · have hg : ¬ (¬ ofBytes (lf zs) 4 = 3652501241 ∨ isCom (cmdX zs) (trimLen (cmdX zs) 12) = false) := by simp [hm, hc]
      have ecs : comS (cmdX zs) = strX (cmdX zs) (trimLen (cmdX zs) 12) := by unfold comS; rw [if_pos hc]
      have hne : comS (cmdX zs) ≠ ⟨#[]⟩ := fun e => by
        rw [ecs] at e
        have := congrArg ByteArray.size e
        rw [strX_size] at this
        have h1 := (isCom_size hc).1
        rw [this] at h1
        exact absurd h1 (by decide)
      by_cases hl : 200000 < lenX zs
      · rw [show pFirst zs = .bad 91 from by unfold pFirst; rw [if_neg h24, if_neg hg, if_pos hl]]
        exact rfirst_long h24' CX CB (Lib.hid S4) T4 (Lib.hid S0) N0 hm hne (Lib.hid S16) N16 hl
      by_cases hw : zs.length < 24 + lenX zs
      · rw [show pFirst zs = .wait from by unfold pFirst; rw [if_neg h24, if_neg hg, if_neg hl, if_pos hw]]
        exact rfirst_wait h24' CX (Lib.hid S4) T4 (Lib.hid S0) N0 hm hne (Lib.hid S16) N16 (by omega) (by omega) hw
      have pl : (payX zs).length = lenX zs := by unfold payX; rw [List.length_take, List.length_drop]; omega
      obtain ⟨p24, S24, R24⟩ := sl_ofu R.out 24 (24 + lenX zs) (by omega) (by omega)
      rw [Nat.add_sub_cancel_left] at S24 R24
      obtain ⟨p25, S25, R25⟩ := sl_oflu R.out (24 + lenX zs) (by omega)
      have hB : IsB zs := isB_row R.out
      have R24' := Lib.hid (R24.to (y := lf (payX zs)) (fun i hi => by
        unfold payX
        unfold lf
        simp only [List.getD_eq_getElem?_getD, List.getElem?_take, List.getElem?_drop, if_pos hi]) (lf_lt fun x hx => hB x (List.mem_of_mem_drop (List.mem_of_mem_take hx))))
      have R25' := Lib.hid (R25.to (y := lf (zs.drop (24 + (payX zs).length))) (fun i hi => by rw [pl]; exact lf_drop _ _ _) (lf_lt fun x hx => hB x (List.mem_of_mem_drop hx)))
      have HRL := Lib.hid (show zs.length - (24 + lenX zs) = (zs.drop (24 + (payX zs).length)).length by rw [List.length_drop, pl])
      have HR4 := Lib.hid (show zs.length - (24 + lenX zs) ≤ 140737488351232 by omega)
      have SE := (strX_inj (lf_lt (isH_dbl (payX zs)).byte) (fun i => R20.byte i) 4)
      have SQ : sum4 (payX zs) = (zs.drop 20).take 4 ↔ ∀ i, i < 4 → lf (dbl (payX zs)) i = lf zs (20 + i) := by
        constructor
        · intro hs i hi
          have e := congrArg (fun l => lf l i) hs
          simp only [sum4, lf_tl _ hi] at e
          rw [e]
          unfold lf
          simp only [List.getD_eq_getElem?_getD, List.getElem?_take, List.getElem?_drop, if_pos hi]
        · intro h
          refine lf_inj (by rw [sum4_length, List.length_take, List.length_drop]; omega) fun i hi => ?_
          rw [sum4_length] at hi
          simp only [sum4, lf_tl _ hi]
          rw [h i hi]
          unfold lf
          simp only [List.getD_eq_getElem?_getD, List.getElem?_take, List.getElem?_drop, if_pos hi]
      by_cases hs : sum4 (payX zs) = (zs.drop 20).take 4
      · rw [show pFirst zs = .frame (trimLen (cmdX zs) 12) (comS (cmdX zs)) (payX zs) from by unfold pFirst; rw [if_neg h24, if_neg hg, if_neg hl, if_neg hw, if_pos hs, ecs]]
        exact rfirst_good h24' CX CB (Lib.hid S4) T4 (Lib.hid S0) N0 hm hne (Lib.hid S16) N16 (by omega) (by omega) (by omega) pl.symm (Lib.hid S24) R24' (Lib.hid S20) (Lib.hid S25) R25' HRL HR4 (Lib.hid R20) (Lib.hid (SE.2 (SQ.1 hs)))
      · rw [show pFirst zs = .bad 92 from by unfold pFirst; rw [if_neg h24, if_neg hg, if_neg hl, if_neg hw, if_neg hs]]
        exact rfirst_sum (k0 := 0) (r := 0) (p25 := none) (g25 := 0) (o25 := 0) (c25 := 0) h24' CX CB (Lib.hid S4) T4 (Lib.hid S0) N0 hm hne (Lib.hid S16) N16 (by omega) (by omega) (by omega) pl.symm (Lib.hid S24) R24' (Lib.hid S20) (Lib.hid R20) (Lib.hid fun e => hs (SQ.2 (SE.1 e)))
    · have hc := Bool.eq_false_iff.2 hc
      rw [show pFirst zs = .bad 90 from by unfold pFirst; rw [if_neg h24, if_pos (.inr hc)]]
      exact rfirst_com (L := 0) (c16 := 0) (p16 := none) h24' CX CB (Lib.hid S4) T4 (Lib.hid S0) N0 hm (by unfold comS; rw [if_neg (by rw [hc]; decide)])
  · rw [show pFirst zs = .bad 90 from by unfold pFirst; rw [if_neg h24, if_pos (.inl hm)]]
    exact rfirst_magic (L := 0) (c16 := 0) (p16 := none) h24' CX CB (Lib.hid S4) T4 (Lib.hid S0) N0 hm
end Go.Proofs.YtkjcljobcidhfaaDoor
