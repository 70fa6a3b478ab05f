/- The hasher's take: bytes stand behind those so far, and nothing else changes. -/
import Derived.Test.YtoopcmcmjaikhaaDoorSHash
set_option maxRecDepth 100000
namespace Go.Proofs.YtoopcmcmjaikhaaDoor.S
open Go.RowKit Go.Lib
attribute [local go_sem ↓] Go.wp_at_zero Go.wp_at_succ

set_option maxRecDepth 100000 in
set_option maxHeartbeats 2000000 in
theorem take_any (b : Nat) (hb2 : b ≠ 2) (x : Nat → Int) (hx : ∀ i, 0 ≤ x i ∧ x i ≤ 255) (m : Nat) (y : Nat → Int) (hy : ∀ i, 0 ≤ y i ∧ y i ≤ 255) (n : Nat) (p : Option Addr) (g o c : Nat) (hnc : n ≤ c) (hcm : c ≤ 9223372036854775807)
    (hmn : m + n < 9223372036854775808) (w : World) (hl : Lies w p g o n y) (hg : 0 < n → g ≠ b) (hh : Hashed b x m w) (hk : KLaid w) :
    Calls Tryd.prog 119 #[.pointer (some ⟨b, 0, none⟩), .slice p n c] w fun e w' => e = .returned (.tuple #[]) ∧ Hashed b (cat x m y) (m + n) w' ∧ Only b w w' := by
  obtain ⟨r, hh, hr, hrr⟩ := hh
  have c73 : w.cell? ⟨b, 73, none⟩ = some (.int .u64 m) := hh.cell 73 (by omega)
  have f73 := hh.free 73
  have HX := Lib.hid hx
  have HY := Lib.hid hy
  have HL := Lib.hid hl
  have HG := Lib.hid hg
  have HR := Lib.hid hr
  have HRR := Lib.hid hrr
  have H0' : Hid (HasAt b 176 74 (hf (mst x (m / 64)) r m) w ∧ KLaid w) := Lib.hid ⟨hh, hk⟩
  clear hx hy hl hg hr hrr hh hk
  go_enter Tryd.func119, Tryd.ntmps119
  go_upto_region 2 with fail
  have F1 : Hid (HasAt b 176 74 (hf (mst x (m / 64)) r ((m + n : Nat) : Int)) (w.setCell ⟨b, 73, none⟩ (.int .u64 (↑m + ↑n))) ∧ Only b w (w.setCell ⟨b, 73, none⟩ (.int .u64 (↑m + ↑n))) ∧ KLaid (w.setCell ⟨b, 73, none⟩ (.int .u64 (↑m + ↑n)))) := by
    refine Lib.hid ⟨?_, (Only.refl b w).setCell _ rfl _, fun i hi => ?_⟩
    · refine H0'.out.1.set 73 _ (fun i hi => ?_)
      rw [hf_set_count _ _ _ _ i hi]
      congr 1
    · rw [World.cell?_of_block (w := w) (Below.heap_setCell _ _ _ _ (fun e => hb2 e.symm))]
      exact H0'.out.2 i hi
  clear c73 f73 H0'
  generalize w.setCell ⟨b, 73, none⟩ (.int .u64 (↑m + ↑n)) = w1 at *
  obtain ⟨hd, hhd⟩ : ∃ hd, m % 64 = hd := ⟨_, rfl⟩
  have ecast : ((m : Int) % 64) = (hd : Int) := by omega
  rw [ecast]
  have HD := Lib.hid hhd
  have hd64 : hd < 64 := by omega
  clear hhd ecast
  go_upto_if 23 with fail
  go_cut [1] (fun s1 wx => ∃ (k rr cc : Nat) (pv : Option Addr) (r' : Nat → Int), s1 = .slice pv rr cc ∧ k + rr = n ∧ rr ≤ cc ∧ cc ≤ c ∧ (m + k) % 64 = 0 ∧ (0 < rr → pv = some ⟨g, o + k, none⟩) ∧
    HasAt b 176 74 (hf (mst (cat x m y) ((m + k) / 64)) r' ((m + n : Nat) : Int)) wx ∧ (∀ i, 0 ≤ r' i ∧ r' i ≤ 255) ∧ Only b w wx ∧ KLaid wx)
  case first =>
    by_cases hheld : hd = 0
    · have e1 : ¬ (0 : Int) < ↑hd := by omega
      have HH := Lib.hid hheld
      clear hheld
      go_wp2_with fail
      go_meet
      refine ⟨0, n, c, p, r, rfl, by omega, hnc, Nat.le_refl _, by have := HH.out; have := HD.out; omega, fun h => HL.out.1 h, ?_, HRR.out, F1.out.2.1, F1.out.2.2⟩
      rw [mst_congr (y := x) ((m + 0) / 64) (fun i hi => cat_low x y m i (by have := HH.out; have := HD.out; omega))]
      exact F1.out.1
    · obtain ⟨kr, hkr⟩ : ∃ kr, hd + kr = 64 := ⟨64 - hd, by omega⟩
      have hd0 : 0 < hd := by omega
      have hr0 : 0 < kr := by omega
      have HKR := Lib.hid hkr
      have hkr2 : hd + kr ≤ 64 := by omega
      have hkr3 : 64 ≤ hd + kr := by omega
      have ra := run_from41 b 9 hd kr hkr hr0 w1
      clear hheld hkr
      have hsrcN : ∀ k, k ≤ n → 0 < k → p = some ⟨g, o, none⟩ ∧ ∀ j, j < k → w1.cell? ⟨g, o + j, none⟩ = some (.int .u8 (y j)) := by
        intro k hk h0
        exact ⟨HL.out.1 (by omega), fun j hj => F1.out.2.1.cell (p := ⟨g, o + j, none⟩) (HG.out (by omega)) (HL.out.2 j (by omega))⟩
      have HSRC := Lib.hid hsrcN
      clear hsrcN
      go_upto_region 3 with fail
      by_cases hsmall : n < kr
      · go_wp2_with (with_reducible refine wpList_copy_rest rfl (.tmp 28) (.tmp 29) rfl b hd kr p n c rfl rfl (mst x (m / 64)) r ((m + n : Nat) : Int) F1.out.1 y n (by show n = min n kr; omega) (by omega) g o (HSRC.out n (Nat.le_refl _)) ?_; intro w2 hh2 ho2; have HH2 := Lib.hid (And.intro hh2 ho2); clear hh2 ho2)
        have e1 : (m + n) / 64 = m / 64 := by have := HD.out; omega
        refine bodyPost_ret (v := .tuple #[]) (results_none (fn := Tryd.f119) rfl _ _ _) rfl ?_
        refine ⟨rfl, ⟨over r hd n y, ?_, ?_, over_range HRR.out HY.out hd n⟩, F1.out.2.1.trans HH2.out.2⟩
        · rw [e1, mst_congr (y := x) (m / 64) (fun i hi => cat_low x y m i (by omega))]
          exact HH2.out.1
        · intro i hi
          have := HD.out
          rw [e1]
          exact over_cat x y r m hd n i HD.out (fun i hi => HR.out i (by omega)) (by omega)
      · obtain ⟨kp, hkp⟩ : ∃ kp, kp = kr := ⟨_, rfl⟩
        have hp : p = some ⟨g, o, none⟩ := HL.out.1 (by omega)
        subst hp
        have hbig : kr ≤ n := by omega
        clear hsmall
        go_upto_region 5 with (with_reducible refine wpList_copy_rest rfl (.tmp 28) (.tmp 29) rfl b hd kr (some ⟨g, o, none⟩) n c rfl rfl (mst x (m / 64)) r ((m + n : Nat) : Int) F1.out.1 y kr (by show kr = min n kr; omega) (by omega) g o (HSRC.out kr hbig) ?_; intro w2 hh2 ho2; have HH2 := Lib.hid (And.intro hh2 ho2); clear hh2 ho2)
        have hkl : KLaid w2 := fun i hi => by
          have h1 := F1.out.2.2 i hi
          rw [World.cell?_of_block (w := w1) (HH2.out.2.block 2 (cell_lt h1) (fun e => hb2 e.symm))]
          exact h1
        have G2 : Hid (HasAt b 176 74 (hf (mst x (m / 64)) (over r hd kr y) ((m + n : Nat) : Int)) w2.drew ∧ Only b w w2.drew ∧ KLaid w2.drew) := Lib.hid ⟨HH2.out.1, (F1.out.2.1.trans HH2.out.2).drew, hkl⟩
        refine wp_region_still_tail 7 (by kernel_rfl) (by kernel_rfl) ?_
        simp only [List.take_succ_cons, List.take_zero, List.drop_succ_cons, List.drop_zero]
        change wpStill _ _ w2.drew (fun a' => wpList _ _ _ _ a' w2.drew) _ _
        clear HH2 hkl F1 HSRC ra
        generalize w2.drew = wd at *
        iterate 6 still_step
        refine wpStill_load_mid rfl 174 (.tmp 40) rfl b 9 rfl (arr 64 (bys (over r hd kr y))).toList _ (rest_range G2.out.1) Tryd.underlying174 rfl (by rw [Array.length_toList, arr_size]; kernel_rfl) ?_
        refine wpStill_nil ?_
        rw [Array.toArray_toList]
        have hmx := sha_mix_any b (hf (mst x (m / 64)) (over r hd kr y) ((m + n : Nat) : Int)) (over r hd kr y) (over_range HRR.out HY.out hd kr) (mst x (m / 64)) (mst_in _ _) wd G2.out.1 (fun i hi => hf_word _ _ _ i hi) G2.out.2.2
        have HMX := Lib.hid hmx
        clear hmx
        have hb1 : kr ≤ c := by omega
        by_cases hck : c = kr
        · subst hck
          go_wp2_with (go_at_call 128; refine HMX.out.mono ?_; rintro e w3 ⟨rfl, hh3, ho3⟩; have HH3 := Lib.hid (And.intro hh3 ho3); clear hh3 ho3)
          go_meet
          have e1 : (m + c) / 64 = m / 64 + 1 := by have := HD.out; have := HKR.out; omega
          have e2 : mst (cat x m y) ((m + c) / 64) = compress (mst x (m / 64)) (over r hd c y) := by
            rw [e1, mst, mst_congr (y := x) (m / 64) (fun i hi => cat_low x y m i (by omega))]
            exact compress_congr (fun i hi => (over_cat x y r m hd c i HD.out (fun i hi => HR.out i (by have := HD.out; omega)) (by have := HKR.out; omega)).symm) _
          refine ⟨c, _, _, _, over r hd c y, rfl, by omega, by omega, by omega, by have := HD.out; have := HKR.out; omega, fun h => by omega, ?_, over_range HRR.out HY.out hd c, G2.out.2.1.trans HH3.out.2, fun i hi => by
              have h1 := G2.out.2.2 i hi
              rw [World.cell?_of_block (w := wd) (HH3.out.2.block 2 (cell_lt h1) (fun e => hb2 e.symm))]
              exact h1⟩
          rw [e2]
          exact HH3.out.1.to (fun i _ => hf_put _ _ _ _ i)
        · go_wp2_with (go_at_call 128; refine HMX.out.mono ?_; rintro e w3 ⟨rfl, hh3, ho3⟩; have HH3 := Lib.hid (And.intro hh3 ho3); clear hh3 ho3)
          go_meet
          have e1 : (m + kr) / 64 = m / 64 + 1 := by have := HD.out; have := HKR.out; omega
          have e2 : mst (cat x m y) ((m + kr) / 64) = compress (mst x (m / 64)) (over r hd kr y) := by
            rw [e1, mst, mst_congr (y := x) (m / 64) (fun i hi => cat_low x y m i (by omega))]
            exact compress_congr (fun i hi => (over_cat x y r m hd kr i HD.out (fun i hi => HR.out i (by have := HD.out; omega)) (by have := HKR.out; omega)).symm) _
          refine ⟨kr, _, _, _, over r hd kr y, rfl, by omega, by omega, by omega, by have := HD.out; have := HKR.out; omega, fun _ => rfl, ?_, over_range HRR.out HY.out hd kr, G2.out.2.1.trans HH3.out.2, fun i hi => by
              have h1 := G2.out.2.2 i hi
              rw [World.cell?_of_block (w := wd) (HH3.out.2.block 2 (cell_lt h1) (fun e => hb2 e.symm))]
              exact h1⟩
          rw [e2]
          exact HH3.out.1.to (fun i _ => hf_put _ _ _ _ i)
  case rest =>
    obtain ⟨k, rr, cc, pv, r', rfl, hkn, hrc, hcc, hmod, hpv, hh, hr', ho, hkl⟩ := hcut
    have HS : Hid ((m + k) % 64 = 0) := Lib.hid hmod
    have HPV := Lib.hid hpv
    have H0 := Lib.hid (And.intro hh (And.intro hr' (And.intro ho hkl)))
    clear hmod hpv hh hr' ho hkl F1
    go_wp2
    go_loopg [1] (rr / 64) (fun q s1 wr => ∃ (j r1 c1 : Nat) (p1 : Option Addr) (rx : Nat → Int), j + q = rr / 64 ∧ 64 * j + r1 = rr ∧ r1 ≤ c1 ∧ c1 ≤ c ∧ s1 = .slice p1 r1 c1 ∧ (0 < r1 → p1 = some ⟨g, o + k + 64 * j, none⟩) ∧
      HasAt b 176 74 (hf (mst (cat x m y) ((m + k) / 64 + j)) rx ((m + n : Nat) : Int)) wr ∧ (∀ i, 0 ≤ rx i ∧ rx i ≤ 255) ∧ Only b w wr ∧ KLaid wr)
    case atStart => exact ⟨0, rr, cc, pv, r', by omega, by omega, hrc, hcc, rfl, HPV.out, H0.out⟩
    case round =>
      clear H0
      obtain ⟨j, r1, c1, p1, rx, hj, hjr, hrc1, hc1c, rfl, hp1, hh, hrx, ho, hkl⟩ := hrel
      by_cases hlt : 64 ≤ r1
      · obtain ⟨rfl⟩ : p1 = some ⟨g, o + k + 64 * j, none⟩ := hp1 (by omega)
        clear hp1
        obtain ⟨r2, rfl⟩ : ∃ r2, r1 = r2 + 64 := ⟨r1 - 64, by omega⟩
        obtain ⟨c2, rfl⟩ : ∃ c2, c1 = c2 + 64 := ⟨c1 - 64, by omega⟩
        have G2 : Hid (HasAt b 176 74 (hf (mst (cat x m y) ((m + k) / 64 + j)) rx ((m + n : Nat) : Int)) wr.drew ∧ Only b w wr.drew ∧ KLaid wr.drew) := Lib.hid ⟨hh, ho.drew, hkl⟩
        have hrange : wr.drew.rangeAt g (o + k + 64 * j) (arr 64 (bys (fun i => cat x m y (64 * ((m + k) / 64 + j) + i)))).toList := by
          intro t v hv
          have ht : t < 64 := by
            have := (List.getElem?_eq_some_iff.1 hv).1
            rw [Array.length_toList, arr_size] at this
            exact this
          rw [Array.getElem?_toList, arr_get 64 _ t ht] at hv
          obtain rfl := Option.some.inj hv
          have h1 := HL.out.2 (k + 64 * j + t) (by omega)
          have h2 : wr.cell? ⟨g, o + (k + 64 * j + t), none⟩ = some (.int .u8 (y (k + 64 * j + t))) := ho.cell (p := ⟨g, o + (k + 64 * j + t), none⟩) (HG.out (by omega)) h1
          have e1 : o + k + 64 * j + t = o + (k + 64 * j + t) := by omega
          have e2 : 64 * ((m + k) / 64 + j) + t = m + (k + 64 * j + t) := by have := HS.out; omega
          rw [e1]
          show wr.drew.cell? _ = some (Value.int .u8 (cat x m y (64 * ((m + k) / 64 + j) + t)))
          rw [e2, cat_high]
          exact h2
        have HRG := Lib.hid hrange
        have hra : ∀ wz, (Instr.arrayAt 174 (.slice (some ⟨g, o + k + 64 * j, none⟩) (r2 + 64) (c2 + 64))).run Tryd.prog wz = .ok (.pointer (some ⟨g, o + k + 64 * j, none⟩)) wz := fun wz => run_arrayAt41 _ _ _ (by omega) wz
        have HRA := Lib.hid (hra wr.drew)
        have HRX := Lib.hid hrx
        clear hh hrx ho hkl hrange hra
        go_upto_region 8 with fail
        refine wp_region_still_tail 6 (by kernel_rfl) (by kernel_rfl) ?_
        simp only [List.take_succ_cons, List.take_zero, List.drop_succ_cons, List.drop_zero]
        change wpStill _ _ wr.drew (fun a' => wpList _ _ _ _ a' wr.drew) _ _
        generalize wr.drew = wd at *
        have ra := HRA.out
        clear HRA
        iterate 5 still_step
        clear ra
        refine wpStill_load_mid rfl 174 (.tmp 53) rfl g (o + k + 64 * j) rfl (arr 64 (bys (fun i => cat x m y (64 * ((m + k) / 64 + j) + i)))).toList _ HRG.out Tryd.underlying174 rfl (by rw [Array.length_toList, arr_size]; kernel_rfl) ?_
        refine wpStill_nil ?_
        rw [Array.toArray_toList]
        have hmx := sha_mix_any b (hf (mst (cat x m y) ((m + k) / 64 + j)) rx ((m + n : Nat) : Int)) (fun i => cat x m y (64 * ((m + k) / 64 + j) + i)) (fun i => cat_range HX.out HY.out m _) (mst (cat x m y) ((m + k) / 64 + j)) (mst_in _ _) wd G2.out.1 (fun i hi => hf_word _ _ _ i hi) G2.out.2.2
        have HMX := Lib.hid hmx
        clear hmx
        by_cases hck : c2 = 0
        · subst hck
          obtain rfl : r2 = 0 := by omega
          go_wp2_with (go_at_call 128; refine HMX.out.mono ?_; rintro e w3 ⟨rfl, hh3, ho3⟩; have HH3 := Lib.hid (And.intro hh3 ho3); clear hh3 ho3)
          go_roundg (gk - 1)
          case measure => omega
          case rel =>
            refine ⟨j + 1, 0, _, _, rx, by omega, by omega, ?_, ?_, rfl, fun h => by omega, ?_, HRX.out, G2.out.2.1.trans HH3.out.2, fun i hi => ?_⟩
            · omega
            · omega
            · have h1 := HH3.out.1.to (fun i _ => hf_put _ _ _ _ i)
              exact h1
            · have h1 := G2.out.2.2 i hi
              rw [World.cell?_of_block (w := wd) (HH3.out.2.block 2 (cell_lt h1) (fun e => hb2 e.symm))]
              exact h1
        · have hck' : 0 < c2 := by omega
          go_wp2_with (go_at_call 128; refine HMX.out.mono ?_; rintro e w3 ⟨rfl, hh3, ho3⟩; have HH3 := Lib.hid (And.intro hh3 ho3); clear hh3 ho3)
          go_roundg (gk - 1)
          case measure => omega
          case rel =>
            refine ⟨j + 1, r2, _, _, rx, by omega, by omega, ?_, ?_, rfl, fun _ => by first | rfl | (congr 2; omega), ?_, HRX.out, G2.out.2.1.trans HH3.out.2, fun i hi => ?_⟩
            · omega
            · omega
            · have h1 := HH3.out.1.to (fun i _ => hf_put _ _ _ _ i)
              exact h1
            · have h1 := G2.out.2.2 i hi
              rw [World.cell?_of_block (w := wd) (HH3.out.2.block 2 (cell_lt h1) (fun e => hb2 e.symm))]
              exact h1
      · have ra := run_all41 b 9 wr
        have hsrc : 0 < r1 → p1 = some ⟨g, o + k + 64 * j, none⟩ ∧ ∀ t, t < r1 → wr.cell? ⟨g, o + k + 64 * j + t, none⟩ = some (.int .u8 (y (k + 64 * j + t))) := fun h0 => ⟨hp1 h0, fun t ht => by
          have h1 := HL.out.2 (k + 64 * j + t) (by omega)
          have e1 : o + k + 64 * j + t = o + (k + 64 * j + t) := by omega
          rw [e1]
          exact ho.cell (p := ⟨g, o + (k + 64 * j + t), none⟩) (HG.out (by omega)) h1⟩
        have HSRC := Lib.hid hsrc
        have H := Lib.hid (And.intro hh (And.intro hrx (And.intro ho hkl)))
        clear hh hrx ho hkl hsrc hp1
        go_wp2_with (with_reducible refine wpList_copy_rest rfl (.tmp 61) (.tmp 62) rfl b 0 64 p1 r1 c1 rfl rfl (mst (cat x m y) ((m + k) / 64 + j)) rx ((m + n : Nat) : Int) H.out.1 (fun t => y (k + 64 * j + t)) r1 (by show r1 = min r1 64; omega) (by omega) g (o + k + 64 * j) HSRC.out ?_; intro w2 hh2 ho2; have HH2 := Lib.hid (And.intro hh2 ho2); clear hh2 ho2)
        go_end0
        have hs := HS.out
        have e1 : (m + n) / 64 = (m + k) / 64 + j := by omega
        have e2 : (m + n) % 64 = r1 := by omega
        refine ⟨rfl, ⟨over rx 0 r1 (fun t => y (k + 64 * j + t)), ?_, ?_, over_range H.out.2.1 (fun i => HY.out _) 0 r1⟩, H.out.2.2.1.trans HH2.out.2⟩
        · rw [e1]
          exact HH2.out.1
        · intro i hi
          rw [e1]
          have e3 : 64 * ((m + k) / 64 + j) + i = m + (k + 64 * j + i) := by omega
          rw [e3, cat_high]
          unfold over
          rw [if_pos (by omega)]
          rfl
end Go.Proofs.YtoopcmcmjaikhaaDoor.S

