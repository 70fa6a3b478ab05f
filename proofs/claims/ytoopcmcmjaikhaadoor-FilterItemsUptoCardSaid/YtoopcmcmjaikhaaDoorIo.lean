/- filter.once, its elements told of the memory before. -/
import Derived.Test.YtoopcmcmjaikhaaDoorIt
set_option linter.unusedSimpArgs false
set_option linter.unusedVariables false
set_option maxRecDepth 100000
namespace Go.Proofs.YtoopcmcmjaikhaaDoor
open Go.ChangeShapes Go.WideShapes Go.WideMaps Go.RowKit Go.Lib Go.Sort Go.Maps

def ListOld (B : Nat) (w0 w : World) (v : Value) (ts : List (List Nat)) : Prop := ∃ p g c V, v = .slice p ts.length c ∧ VOwn 32 1 B w p g ts.length c V ∧ ∀ i (h : i < ts.length), TextAt w0 (V i) ts[i]
set_option maxHeartbeats 16000000 in
theorem once_old {w : World} {v : Value} {ts : List (List Nat)} (A : Hid (TextsAt w v ts)) : Calls Tryd.prog 33 #[v] w fun e w' => (∃ v', e = .returned v' ∧ ListOld w.heap.size w w' v' (onceL ts)) ∧ Below w.heap.size w w' := by
  obtain ⟨pa, ga, oa, ca, V, hv, hca, RA, hta⟩ := A.out
  subst hv
  obtain ⟨N, hN⟩ : ∃ N, N = ts.length := ⟨_, rfl⟩
  rw [← hN] at RA hca ⊢
  have HNN := Lib.hid hN
  have RR := Lib.hid RA
  have TT := Lib.hid hta
  have NB := Lib.hid (show N * 24 ≤ 140737488351232 by omega)
  have TB := Lib.hid (show ∀ j, ∀ x, x ∈ onceJ ts j → IsB x from by
    intro j
    induction j with
    | zero => intro x hx; simp [onceJ] at hx
    | succ j ih =>
      intro x hx
      rcases Nat.lt_or_ge j ts.length with h | h
      · rw [onceJ_succ ts h] at hx
        unfold stepO at hx
        split at hx
        · exact ih x hx
        · rcases List.mem_append.1 hx with q | q
          · exact ih x q
          · rw [List.mem_singleton.1 q]
            exact (TT.out j h).isB
      · have e : onceJ ts (j + 1) = onceJ ts j := by unfold onceJ; rw [List.take_of_length_le (by omega), List.take_of_length_le h]
        rw [e] at hx
        exact ih x hx)
  clear RA hta hca hN A
  go_enter Tryd.func33, Tryd.ntmps33
  go_upto_region 4 with ((with_reducible refine wpList_at 9 rfl ?_); refine mem_known rfl _ _ (exec_mkmap rfl) ?_)
  have OM0 := Lib.hid (World.ownsMap_made w Tryd.prog 9 (unitElem (H := Unit)))
  have HB0 := Lib.hid (below_new w (.map #[] 0))
  have HS0 := Lib.hid (show w.heap.size + 1 ≤ (w.alloc (.map #[] 0)).heap.size by simp)
  obtain ⟨bm, hbm⟩ : ∃ bm, bm = w.heap.size := ⟨_, rfl⟩
  have BM := Lib.hid hbm
  rw [← hbm] at OM0 HS0 ⊢
  generalize w.alloc (.map #[] 0) = w1 at OM0 HB0 HS0 ⊢
  clear hbm
  go_wp2_with fail
  go_loopg [4, 12] N (fun k l i wr => ∃ (j : Nat) (acc : List (List Nat)) (p : Option Addr) (g c : Nat) (U : Nat → Value), j + k = N ∧ i = .int .i64 (j : Int) ∧ l = .slice p acc.length c ∧ Hid (acc = onceJ ts j) ∧ Hid (VOwn 32 1 (bm + 1) wr p g acc.length c U) ∧ Hid (∀ i (h : i < acc.length), TextAt w (U i) acc[i]) ∧ Hid (wr.ownsMap Tryd.prog 9 unitElem bm j (seen acc)) ∧ Hid (Below w.heap.size w wr))
  case atStart => exact ⟨0, [], none, 0, 0, fun _ => undef, by omega, rfl, rfl, Lib.hid (by simp [onceJ]), Lib.hid (vown_nothing _ _ _ _ _ HS0.out), Lib.hid (fun i h => absurd h (by simp)), OM0, HB0⟩
  case round =>
    clear OM0 HB0 HS0
    obtain ⟨j, acc, p, g, c, U, hj, rfl, rfl, HA, VN, UT, OM, HB⟩ := hrel
    obtain ⟨kk, hkk⟩ : ∃ kk : Nat, kk = gk := ⟨_, rfl⟩
    rw [← hkk] at hj
    by_cases hlt : j < N
    · obtain rfl := RR.out.head (by omega)
      have ht : j < ts.length := by rw [← HNN.out]; exact hlt
      have ON := Lib.hid (onceJ_succ ts ht)
      obtain ⟨pt, gt, ot, ct, hvj, htl, RT⟩ := TT.out j ht
      have TX := Lib.hid (show TextAt w (.slice pt ts[j].length ct) ts[j] from ⟨pt, gt, ot, ct, rfl, htl, RT⟩)
      have CC := Lib.hid (show wr.cell? ⟨ga, oa + j * 1, none⟩ = some (.slice pt ts[j].length ct) from by
        rw [Nat.mul_one, ← hvj]
        exact (RR.out.below HB.out).cell j (by omega))
      have HJ := Lib.hid hj
      have HLT := Lib.hid hlt
      have LT := Lib.hid (show decide ((j : Int) < (N : Int)) = true from decide_eq_true (by omega))
      obtain ⟨t, hT⟩ : ∃ t, t = ts[j] := ⟨_, rfl⟩
      rw [← hT] at TX CC ON htl
      have STR := Lib.hid (show ∀ W, Below w.heap.size w W → (convert 32 9 (.slice pt t.length ct)).run Tryd.prog W = .ok (.string (strL t)) W from fun W hb => text_strL (TX.out.below hb))
      have KEY := Lib.hid (show keyOf Tryd.prog 9 (.string (strL t)) = some (kl t) from key_of (by unfold maxLen; omega))
      have HAS := Lib.hid (has_seen (acc := acc) (t := t) (by rw [HA.out]; exact TB.out j) TX.out.isB)
      have AL := Lib.hid (show acc.length ≤ j by rw [HA.out]; exact onceJ_le ts j)
      obtain ⟨tn, htn⟩ : ∃ tn, tn = t.length := ⟨_, rfl⟩
      rw [← htn] at TX CC STR
      have HTN := Lib.hid htn
      clear hvj htl RT hT htn hlt ht
      by_cases h0 : tn = 0
      · have ON2 := Lib.hid (show acc = onceJ ts (j + 1) by rw [ON.out, ← HA.out]; unfold stepO; rw [if_pos (.inl (by rw [← HTN.out]; exact h0))])
        have T0 := Lib.hid (show decide ((tn : Int) = 0) = true from decide_eq_true (by omega))
        clear h0
        go_wp2_with (first
          | ((with_reducible refine wpList_at 13 rfl ?_); refine wpList_kn rfl (.bool true) (by exact exec_lssi rfl rfl rfl LT.out) ?_)
          | ((with_reducible refine wpList_at 14 rfl ?_); refine wpList_ix (k := 1) (j := j) Tryd.underlying30 (by kernel_rfl) (.tmp 10) (.tmp 12) rfl rfl rfl rfl HLT.out rfl ?_)
          | ((with_reducible refine wpList_at 15 rfl ?_); refine wpList_ld1 32 (.tmp 14) rfl rfl rfl Tryd.underlying32 rfl CC.out ?_)
          | ((with_reducible refine wpList_at 18 rfl ?_); refine wpList_kn rfl (.bool true) (by exact exec_eqli rfl rfl rfl T0.out) ?_)
          | ((with_reducible refine wpList_at 35 rfl ?_); refine wpList_kn rfl (.int .i64 ((j + 1 : Nat) : Int)) (by exact exec_add rfl rfl rfl (by have := HLT.out; have := NB.out; rw [IntKind.wrap_i64]; omega)) ?_))
        go_roundg (N - (j + 1))
        case measure => have := HJ.out; have := HLT.out; omega
        case rel => exact ⟨j + 1, acc, p, g, c, U, by have := HLT.out; omega, by go_num, rfl, ON2, VN, UT, Lib.hid (OM.out.mono (Nat.le_succ j)), HB⟩
      · have T0 := Lib.hid (show decide ((tn : Int) = 0) = false from decide_eq_false (by omega))
        have TNZ := Lib.hid h0
        have E := Lib.hid (Mem.nil wr)
        have SZ := Lib.hid HB.out.size
        have KD := Lib.hid (string_keyed (P := Tryd.prog) (k := 9) Tryd.underlying9)
        clear h0
        by_cases hm : t ∈ acc
        · have HZ := Lib.hid (HAS.out.trans (decide_eq_true hm))
          have ON2 := Lib.hid (show acc = onceJ ts (j + 1) by rw [ON.out, ← HA.out]; unfold stepO; rw [if_pos (.inr hm)])
          clear hm
          go_wp2_with (first
            | ((with_reducible refine wpList_at 13 rfl ?_); refine wpList_kn rfl (.bool true) (by exact exec_lssi rfl rfl rfl LT.out) ?_)
            | ((with_reducible refine wpList_at 14 rfl ?_); refine wpList_ix (k := 1) (j := j) Tryd.underlying30 (by kernel_rfl) (.tmp 10) (.tmp 12) rfl rfl rfl rfl HLT.out rfl ?_)
            | ((with_reducible refine wpList_at 15 rfl ?_); refine wpList_ld1 32 (.tmp 14) rfl rfl rfl Tryd.underlying32 rfl CC.out ?_)
            | ((with_reducible refine wpList_at 18 rfl ?_); refine wpList_kn rfl (.bool false) (by exact exec_eqli rfl rfl rfl T0.out) ?_)
            | ((with_reducible refine wpList_at 22 rfl ?_); refine wpList_known rfl (.string (strL t)) _ (exec_cvs rfl (STR.out _ HB.out)) ?_)
            | ((with_reducible refine wpList_at 23 rfl ?_); refine wpList_lookup_own_unit _ rfl (.tmp 20) (.tmp 22) 102 rfl 9 103 KD.out Tryd.underlying102 (zeroUnit _) bm j (seen acc) rfl OM.out _ _ rfl KEY.out ?_; rw [HZ.out])
            | ((with_reducible refine wpList_at 7 rfl ?_); refine mem_alloc E 103 rfl rfl infoUnit ?_; clear E; intro b7 w7 E; have HB8 := Lib.hid (HB.out.trans (E.out.below.mono SZ.out)); have VN8 := Lib.hid (VN.out.below E.out.below); have OM8 := Lib.hid (OM.out.kept (grown_of_below E.out.below none) (by simp)))
            | ((with_reducible refine wpList_at 35 rfl ?_); refine wpList_kn rfl (.int .i64 ((j + 1 : Nat) : Int)) (by exact exec_add rfl rfl rfl (by have := HLT.out; have := NB.out; rw [IntKind.wrap_i64]; omega)) ?_))
          go_roundg (N - (j + 1))
          case measure => have := HJ.out; have := HLT.out; omega
          case rel => exact ⟨j + 1, acc, p, g, c, U, by have := HLT.out; omega, by go_num, rfl, ON2, Lib.hid (VN.out.below E.out.below), UT, Lib.hid ((OM.out.kept (grown_of_below E.out.below none) (by simp)).mono (Nat.le_succ j)), Lib.hid (HB.out.trans (E.out.below.mono SZ.out))⟩
        · have HZ := Lib.hid (HAS.out.trans (decide_eq_false hm))
          have ON2 := Lib.hid (show acc ++ [t] = onceJ ts (j + 1) by rw [ON.out, ← HA.out]; unfold stepO; rw [if_neg]; rintro (q | q); exact TNZ.out (by rw [HTN.out]; exact q); exact hm q)
          clear hm
          go_wp2_with (first
            | ((with_reducible refine wpList_at 13 rfl ?_); refine wpList_kn rfl (.bool true) (by exact exec_lssi rfl rfl rfl LT.out) ?_)
            | ((with_reducible refine wpList_at 14 rfl ?_); refine wpList_ix (k := 1) (j := j) Tryd.underlying30 (by kernel_rfl) (.tmp 10) (.tmp 12) rfl rfl rfl rfl HLT.out rfl ?_)
            | ((with_reducible refine wpList_at 15 rfl ?_); refine wpList_ld1 32 (.tmp 14) rfl rfl rfl Tryd.underlying32 rfl CC.out ?_)
            | ((with_reducible refine wpList_at 18 rfl ?_); refine wpList_kn rfl (.bool false) (by exact exec_eqli rfl rfl rfl T0.out) ?_)
            | ((with_reducible refine wpList_at 22 rfl ?_); refine wpList_known rfl (.string (strL t)) _ (exec_cvs rfl (STR.out _ HB.out)) ?_)
            | ((with_reducible refine wpList_at 23 rfl ?_); refine wpList_lookup_own_unit _ rfl (.tmp 20) (.tmp 22) 102 rfl 9 103 KD.out Tryd.underlying102 (zeroUnit _) bm j (seen acc) rfl OM.out _ _ rfl KEY.out ?_; rw [HZ.out])
            | ((with_reducible refine wpList_at 7 rfl ?_); refine mem_alloc E 103 rfl rfl infoUnit ?_; clear E; intro b7 w7 E; have HB8 := Lib.hid (HB.out.trans (E.out.below.mono SZ.out)); have VN8 := Lib.hid (VN.out.below E.out.below); have OM8 := Lib.hid (OM.out.kept (grown_of_below E.out.below none) (by simp)))
            | ((with_reducible refine wpList_at 29 rfl ?_); refine wpList_known rfl (.string (strL t)) _ (exec_cvs rfl (STR.out _ HB8.out)) ?_)
            | ((with_reducible refine wpList_at 30 rfl ?_); refine wpList_bld 103 _ rfl rfl (ps := #[]) (by kernel_rfl) built_unit ?_)
            | ((with_reducible refine wpList_atn rfl ?_); refine wpList_mapUpdate_in _ rfl (.tmp 27) (.tmp 29) (.tmp 30) 102 rfl 9 103 KD.out Tryd.underlying102 unitElem bm j (seen acc) rfl OM8.out (by have := HLT.out; have := NB.out; unfold maxLen; omega) _ _ (kl t) rfl rfl KEY.out (.agg []) [] unitElem_mk ?_; intro w9 hown hturn; have OM9 := Lib.hid hown; have HB9 := Lib.hid (below_but HB8.out hturn.grown (by rw [← BM.out]; exact Nat.le_refl _)); have VN9 := Lib.hid (VN8.out.kept hturn.grown (by rcases VN8.out.typed with q | ⟨_, _, q⟩; exact .inl q; exact .inr (fun e => by injection e with e; omega))); clear hown hturn)
            | ((with_reducible refine wpList_at 33 rfl ?_); refine wpList_vbs 30 32 1 1 rfl _ rfl (fun _ => .slice pt tn ct) (fun i _ => rfl) (by unfold maxLen; omega) (ps := #[(0, .slice pt tn ct)]) (by kernel_rfl) (fun W => run_bs1v Tryd.underlying30 infoText3 _ rfl W) rfl ?_; intro p10 g10 w10 N10 hb10; have VN10 := Lib.hid (VN9.out.below hb10.out); have OM10 := Lib.hid (OM9.out.kept (grown_of_below hb10.out none) (by simp)); have HB10 := Lib.hid (HB9.out.trans (hb10.out.mono HB9.out.size)))
            | ((with_reducible refine wpList_at 34 rfl ?_); refine wpList_vapp 30 32 1 24 Tryd.underlying30 infoText3 rfl (by omega) rfl (.tmp 31) (.tmp 33) rfl rfl VN10 rfl (Lib.hid N10.out.row) (by have := AL.out; have := HLT.out; have := NB.out; unfold maxLen; omega) (by have := AL.out; have := HLT.out; have := NB.out; omega) ?_; intro p11 g11 c11 w11 N11 hg11; have HB11 := Lib.hid (HB10.out.trans (VN10.out.under hg11.out (by have := HB10.out.size; have := BM.out; omega) HB10.out.size)); have OM11 := Lib.hid (show w11.ownsMap Tryd.prog 9 unitElem bm (j + 1) (seen (acc ++ [t])) from by rw [seen_snoc]; exact OM10.out.kept hg11.out (vown_ne VN10.out (by omega))); have TX2 := TX)
            | ((with_reducible refine wpList_at 35 rfl ?_); refine wpList_kn rfl (.int .i64 ((j + 1 : Nat) : Int)) (by exact exec_add rfl rfl rfl (by have := HLT.out; have := NB.out; rw [IntKind.wrap_i64]; omega)) ?_))
          go_roundg (N - (j + 1))
          case measure => have := HJ.out; have := HLT.out; omega
          case rel => exact ⟨j + 1, acc ++ [t], p11, g11, c11, vcat U (acc.length * 1) (fun _ => .slice pt tn ct), by have := HLT.out; omega, by go_num, (by rw [List.length_append, List.length_singleton]), ON2, (by rw [List.length_append, List.length_singleton]; exact N11), Lib.hid (texts_snoc UT.out TX2.out), OM11, HB11⟩
    · obtain rfl : j = N := by omega
      have LT := Lib.hid (show decide ((j : Int) < (j : Int)) = false from decide_eq_false (by omega))
      have RES := Lib.hid (show acc = onceL ts by rw [HA.out, HNN.out]; exact onceJ_all ts)
      clear hlt hj hkk
      go_wp2_with ((with_reducible refine wpList_at 13 rfl ?_); refine wpList_kn rfl (.bool false) (by exact exec_lssi rfl rfl rfl LT.out) ?_)
      go_ret
      refine ⟨⟨_, rfl, ?_⟩, HB.out⟩
      rw [← RES.out]
      exact ⟨p, g, c, U, rfl, VN.out.mono (by have := BM.out; omega), fun i h => UT.out i h⟩
end Go.Proofs.YtoopcmcmjaikhaaDoor
