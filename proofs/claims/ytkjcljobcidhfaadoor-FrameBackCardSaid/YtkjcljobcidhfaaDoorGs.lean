/- Feeding bytes in pieces gives what feeding them at once gives: plain functions. -/
import Derived.Test.YtkjcljobcidhfaaDoorGp
set_option linter.unusedSimpArgs false
set_option linter.unusedVariables false
set_option maxRecDepth 100000
namespace Go.Proofs.YtkjcljobcidhfaaDoor
open Go.RowKit Go.Lib Go.Sort

theorem cmd_app {a b : List Nat} (h : 24 ≤ a.length) : ∀ i, i < 12 → cmdX (a ++ b) i = cmdX a i := fun i hi => lf_lo (by omega)
theorem strX_congr {x y : Nat → Nat} {n : Nat} (h : ∀ i, i < n → x i = y i) : strX x n = strX y n := by
  unfold strX
  congr 1
  exact List.map_congr_left fun i hi => by rw [h i (List.mem_range.1 hi)]
/-- What is told of a beginning is told of more bytes. -/
theorem pFirst_app {a b : List Nat} (h : pFirst a ≠ .wait) : pFirst (a ++ b) = pFirst a := by
  by_cases hl : a.length < 24
  · exact absurd (by unfold pFirst; rw [if_pos hl]) h
  have hm : ofBytes (lf (a ++ b)) 4 = ofBytes (lf a) 4 := ofBytes_congr fun i hi => lf_lo (by omega)
  have hk : trimLen (cmdX (a ++ b)) 12 = trimLen (cmdX a) 12 := trimLen_congr (cmd_app (by omega))
  have hk2 : trimLen (cmdX a) 12 ≤ 12 := trimLen_le _ _
  have hc : isCom (cmdX (a ++ b)) (trimLen (cmdX a) 12) = isCom (cmdX a) (trimLen (cmdX a) 12) := isCom_congr fun i hi => cmd_app (by omega) i (by omega)
  have hL : lenX (a ++ b) = lenX a := ofBytes_congr fun i hi => lf_lo (by omega)
  have hs : strX (cmdX (a ++ b)) (trimLen (cmdX a) 12) = strX (cmdX a) (trimLen (cmdX a) 12) := strX_congr fun i hi => cmd_app (by omega) i (by omega)
  have hd : ((a ++ b).drop 20).take 4 = (a.drop 20).take 4 := by rw [List.drop_append_of_le_length (by omega), List.take_append_of_le_length (by rw [List.length_drop]; omega)]
  by_cases h1 : ¬ ofBytes (lf a) 4 = 3652501241 ∨ isCom (cmdX a) (trimLen (cmdX a) 12) = false
  · unfold pFirst
    rw [hm, hk, hc, if_neg (by rw [List.length_append]; omega), if_pos h1, if_neg hl, if_pos h1]
  by_cases h2 : 200000 < lenX a
  · unfold pFirst
    rw [hm, hk, hc, hL, if_neg (by rw [List.length_append]; omega), if_neg h1, if_pos h2, if_neg hl, if_neg h1, if_pos h2]
  by_cases h3 : a.length < 24 + lenX a
  · exact absurd (by unfold pFirst; rw [if_neg hl, if_neg h1, if_neg h2, if_pos h3]) h
  have hp : payX (a ++ b) = payX a := by
    unfold payX
    rw [hL, List.drop_append_of_le_length (by omega), List.take_append_of_le_length (by rw [List.length_drop]; omega)]
  unfold pFirst
  rw [hm, hk, hc, hL, hp, hd, hs, if_neg (by rw [List.length_append]; omega), if_neg h1, if_neg h2, if_neg (by rw [List.length_append]; omega), if_neg hl, if_neg h1, if_neg h2, if_neg h3]
/-- A part of what ends without a fault ends without one, and the rest behind it gives the other frames. -/
theorem Feeds.split {a b r r1 : List Nat} {fs fs1 : List (ByteArray × List Nat)} {e1 : Int} (h1 : Feeds a fs1 r1 e1) (h : Feeds (a ++ b) fs r 0) : e1 = 0 ∧ ∃ fs2, fs = fs1 ++ fs2 ∧ Feeds (r1 ++ b) fs2 r 0 := by
  induction h1 generalizing fs with
  | wait q => exact ⟨rfl, fs, rfl, h⟩
  | bad q =>
    rename_i zs e
    have q2 := pFirst_app (a := zs) (b := b) (by rw [q]; intro x; cases x)
    rw [q] at q2
    generalize hz : (0 : Int) = z at h
    cases h with
    | wait p => rw [q2] at p; cases p
    | bad p =>
      rw [q2] at p
      injection p with p
      exact absurd (p.trans hz.symm) (pFirst_err q)
    | frame p t => rw [q2] at p; cases p
  | frame q t ih =>
    rename_i zs pay r' k s fs' e
    have q2 := pFirst_app (a := zs) (b := b) (by rw [q]; intro x; cases x)
    rw [q] at q2
    have hl := (pFirst_frame q).1
    cases h with
    | wait p => rw [q2] at p; cases p
    | bad p => rw [q2] at p; cases p
    | frame p t2 =>
      rw [q2] at p
      injection p with e1 e2 e3
      subst e2 e3
      rw [List.drop_append_of_le_length hl] at t2
      obtain ⟨z, fs2, h2, h3⟩ := ih t2
      exact ⟨z, fs2, by rw [h2]; rfl, h3⟩
end Go.Proofs.YtkjcljobcidhfaaDoor
