/- address.Text and address.Parse. -/
import Derived.Test.YtghjgkgfpblijaaDoorB1
set_option linter.unusedSimpArgs false
set_option linter.unusedVariables false
set_option maxRecDepth 100000
namespace Go.Proofs.YtghjgkgfpblijaaDoor
open Go.ChangeShapes Go.WideShapes Go.RowKit Go.Lib Go.Sort

/-- The address of a kind and its bytes; the error. -/
def tK (k : Nat) (b : List Nat) : ByteArray × Int := if k = 1 then (sT 0 b, 0) else if k = 2 then (sT 5 b, 0) else if k = 3 then (bT 0 b, 0) else if k = 4 then (bT 0 b, 0) else if k = 5 then (bT 1 b, 0) else (⟨#[]⟩, 130)
def TEnd (w : World) (xs : List Nat) (e : Ending) (w' : World) : Prop := (∃ k b, Cls xs k b ∧ e = .returned (.tuple #[.string (tK k b).1, .int .i64 (tK k b).2])) ∧ Below w.heap.size w w'
theorem cC_okA (j : Nat) (h : j < 5) (n : Nat) : okc j n = decide (n = cC j) := by
  unfold okc okI
  rw [cC_eq j h, if_neg (by omega)]
  by_cases q : n = cC j
  · rw [decide_eq_true q, decide_eq_true (by omega)]
  · rw [decide_eq_false q, decide_eq_false (by omega)]
theorem cls_short {xs b : List Nat} {k : Nat} (h : Cls xs k b) (hk : 1 ≤ k) (hk2 : k ≤ 5) : b.length = cC (k - 1) := by
  rcases h with ⟨j, hj, rfl, h1, h2⟩ | ⟨rfl, _⟩
  · rw [cC_okA j (by omega)] at h2
    simpa using h2
  · omega
theorem cls_le6 {xs b : List Nat} {k : Nat} (h : Cls xs k b) : k ≤ 6 := by
  rcases h with ⟨j, hj, rfl, h1, h2⟩ | ⟨rfl, _⟩ <;> omega
theorem cC_le (j : Nat) : cC j ≤ 32 := by unfold cC; split <;> omega
set_option maxHeartbeats 16000000 in
theorem atext_any {w : World} (L : Hid (S.Both w)) (PL : Hid (PLaid w)) (CL : Hid (S.CLaid w)) {p : Option Addr} {g o n c : Nat} {x : Nat → Nat} (R : Hid (Row w p g o n c x)) (hn : n ≤ 140737488355328) :
    Calls Tryd.prog 8 #[.slice p n c] w (TEnd w (tl x n)) := by
  have CX := Lib.hid (class_any PL.out R hn)
  obtain ⟨xs, hxs⟩ : ∃ xs, xs = tl x n := ⟨_, rfl⟩
  rw [← hxs] at CX ⊢
  clear hxs R hn
  go_enter Tryd.func8, Tryd.ntmps8
  go_upto_region 2 with (first
    | (go_at_call 17; refine CX.out.mono ?_; rintro e w4 ⟨k, b, p4, g4, c4, rfl, hc, N, hb⟩; have HC := Lib.hid hc; have N0 := Lib.hid N.row; have BB := Lib.hid hb; clear hc N hb))
  have BL := Lib.hid (fun (h1 : 1 ≤ k) (h2 : k ≤ 5) => cls_short HC.out h1 h2)
  have k6 := cls_le6 HC.out
  obtain ⟨m, hm⟩ : ∃ m, m = b.length := ⟨_, rfl⟩
  have HM := Lib.hid hm
  have HT := Lib.hid (show tl (lf b) m = b by rw [hm, tl_lf])
  rw [← hm] at N0 BL
  rw [← hm]
  clear hm CX
  have cases7 : k = 0 ∨ k = 1 ∨ k = 2 ∨ k = 3 ∨ k = 4 ∨ k = 5 ∨ k = 6 := by omega
  rcases cases7 with rfl | rfl | rfl | rfl | rfl | rfl | rfl
  · clear BL N0 k6 HT
    go_wp2
    go_ret2
    exact ⟨⟨0, b, HC.out, rfl⟩, BB.out⟩
  · have mb : m ≤ 32 := by rw [BL.out (by omega) (by omega)]; exact cC_le _
    have N4 := N0
    have TKE := Lib.hid (show (tK 1 b).1 = sT 0 (tl (lf b) m) ∧ (tK 1 b).2 = 0 by rw [HT.out]; exact ⟨rfl, rfl⟩)
    clear BL N0 k6 HT
    go_wp2_with (first
      | (go_at_call 18; refine (sumtext_any (Lib.hid (L.out.below BB.out)) 0 (by decide) N4 (by omega)).mono ?_; rintro e w5 ⟨rfl, hb⟩; replace BB := Lib.hid (BB.out.trans (hb.mono BB.out.size)); clear hb))
    go_ret2
    exact ⟨⟨1, b, HC.out, by rw [TKE.out.1, TKE.out.2]; rfl⟩, BB.out⟩
  · have mb : m ≤ 32 := by rw [BL.out (by omega) (by omega)]; exact cC_le _
    have N4 := N0
    have TKE := Lib.hid (show (tK 2 b).1 = sT 5 (tl (lf b) m) ∧ (tK 2 b).2 = 0 by rw [HT.out]; exact ⟨rfl, rfl⟩)
    clear BL N0 k6 HT
    go_wp2_with (first
      | (go_at_call 18; refine (sumtext_any (Lib.hid (L.out.below BB.out)) 5 (by decide) N4 (by omega)).mono ?_; rintro e w5 ⟨rfl, hb⟩; replace BB := Lib.hid (BB.out.trans (hb.mono BB.out.size)); clear hb))
    go_ret2
    exact ⟨⟨2, b, HC.out, by rw [TKE.out.1, TKE.out.2]; rfl⟩, BB.out⟩
  · have mb : m ≤ 32 := by rw [BL.out (by omega) (by omega)]; exact cC_le _
    have N4 := N0
    have TKE := Lib.hid (show (tK 3 b).1 = bT 0 (tl (lf b) m) ∧ (tK 3 b).2 = 0 by rw [HT.out]; exact ⟨rfl, rfl⟩)
    clear BL N0 k6 HT
    go_wp2_with (first
      | (go_at_call 19; refine (bitstext_any (Lib.hid (CL.out.below BB.out)) 0 (by decide) N4 (by omega)).mono ?_; rintro e w5 ⟨rfl, hb⟩; replace BB := Lib.hid (BB.out.trans (hb.mono BB.out.size)); clear hb))
    go_ret2
    exact ⟨⟨3, b, HC.out, by rw [TKE.out.1, TKE.out.2]; rfl⟩, BB.out⟩
  · have mb : m ≤ 32 := by rw [BL.out (by omega) (by omega)]; exact cC_le _
    have N4 := N0
    have TKE := Lib.hid (show (tK 4 b).1 = bT 0 (tl (lf b) m) ∧ (tK 4 b).2 = 0 by rw [HT.out]; exact ⟨rfl, rfl⟩)
    clear BL N0 k6 HT
    go_wp2_with (first
      | (go_at_call 19; refine (bitstext_any (Lib.hid (CL.out.below BB.out)) 0 (by decide) N4 (by omega)).mono ?_; rintro e w5 ⟨rfl, hb⟩; replace BB := Lib.hid (BB.out.trans (hb.mono BB.out.size)); clear hb))
    go_ret2
    exact ⟨⟨4, b, HC.out, by rw [TKE.out.1, TKE.out.2]; rfl⟩, BB.out⟩
  · have mb : m ≤ 32 := by rw [BL.out (by omega) (by omega)]; exact cC_le _
    have N4 := N0
    have TKE := Lib.hid (show (tK 5 b).1 = bT 1 (tl (lf b) m) ∧ (tK 5 b).2 = 0 by rw [HT.out]; exact ⟨rfl, rfl⟩)
    clear BL N0 k6 HT
    go_wp2_with (first
      | (go_at_call 19; refine (bitstext_any (Lib.hid (CL.out.below BB.out)) 1 (by decide) N4 (by omega)).mono ?_; rintro e w5 ⟨rfl, hb⟩; replace BB := Lib.hid (BB.out.trans (hb.mono BB.out.size)); clear hb))
    go_ret2
    exact ⟨⟨5, b, HC.out, by rw [TKE.out.1, TKE.out.2]; rfl⟩, BB.out⟩
  · clear BL N0 k6 HT
    go_wp2
    go_ret2
    exact ⟨⟨6, b, HC.out, rfl⟩, BB.out⟩
/-- The script of a text. -/
def pA (s : ByteArray) : Option (List Nat) := match pS s with | some r => some r | none => pB s
def errA : Option (List Nat) → Int | some _ => 0 | none => 140
def AEnd (w : World) (o : Option (List Nat)) (e : Ending) (w' : World) : Prop := ∃ (r : List Nat) (p : Option Addr) (g c : Nat), e = .returned (.tuple #[.slice p r.length c, .int .i64 (errA o)]) ∧ r = o.getD [] ∧ Row w' p g 0 r.length c (lf r) ∧ Below w.heap.size w w'
set_option maxHeartbeats 16000000 in
theorem aparse_any {w : World} (L : Hid (S.Both w)) (PL : Hid (PLaid w)) (CL : Hid (S.CLaid w)) (s : ByteArray) : Calls Tryd.prog 11 #[.string s] w (AEnd w (pA s)) := by
  have PSX := Lib.hid (psum_any L PL s)
  have PBX := Lib.hid (show ∀ w', Below w.heap.size w w' → Calls Tryd.prog 26 #[.string s] w' (OEnd w' (pB s)) from fun w' hb => pbits_any (Lib.hid (PL.out.below hb)) (Lib.hid (CL.out.below hb)) s)
  clear L PL CL
  cases hp : pS s with
  | some q =>
    have HA := Lib.hid (show pA s = some q by unfold pA; rw [hp])
    have HP := Lib.hid hp
    clear hp PBX
    go_enter Tryd.func11, Tryd.ntmps11
    go_wp2_with (first
      | (go_at_call 25; refine PSX.out.mono ?_; rintro e w2 ⟨r, ok, p, g, c, rfl, ho, hr, N0, hb⟩; rw [HP.out] at ho hr; subst ho; have N := Lib.hid N0; have BB := Lib.hid hb; have HR := Lib.hid hr; clear N0 hb hr))
    go_ret2
    exact ⟨r, p, g, c, by rw [HA.out]; rfl, by rw [HA.out]; exact HR.out, N.out, BB.out⟩
  | none =>
    have HA := Lib.hid (show pA s = pB s by unfold pA; rw [hp])
    have HP := Lib.hid hp
    clear hp
    cases hq : pB s with
    | some q =>
      have HQ := Lib.hid hq
      have HA2 := Lib.hid (show pA s = some q by rw [HA.out, hq])
      clear hq HA
      go_enter Tryd.func11, Tryd.ntmps11
      go_wp2_with (first
        | (go_at_call 25; refine PSX.out.mono ?_; rintro e w2 ⟨r, ok, p, g, c, rfl, ho, hr, N0, hb⟩; rw [HP.out] at ho hr; subst ho; have N := Lib.hid N0; have BB := Lib.hid hb; have HR := Lib.hid hr; clear N0 hb hr)
        | (go_at_call 26; refine (PBX.out _ BB.out).mono ?_; rintro e w3 ⟨r3, ok3, p3, g3, c3, rfl, ho, hr3, N3, hb⟩; rw [HQ.out] at ho hr3; subst ho; have N4 := Lib.hid N3; replace BB := Lib.hid (BB.out.trans (hb.mono BB.out.size)); have HR3 := Lib.hid hr3; clear N3 hb hr3))
      go_ret2
      exact ⟨r3, p3, g3, c3, by rw [HA2.out]; rfl, by rw [HA2.out]; exact HR3.out, N4.out, BB.out⟩
    | none =>
      have HQ := Lib.hid hq
      have HA2 := Lib.hid (show pA s = none by rw [HA.out, hq])
      clear hq HA
      go_enter Tryd.func11, Tryd.ntmps11
      go_wp2_with (first
        | (go_at_call 25; refine PSX.out.mono ?_; rintro e w2 ⟨r, ok, p, g, c, rfl, ho, hr, N0, hb⟩; rw [HP.out] at ho hr; subst ho; have N := Lib.hid N0; have BB := Lib.hid hb; have HR := Lib.hid hr; clear N0 hb hr)
        | (go_at_call 26; refine (PBX.out _ BB.out).mono ?_; rintro e w3 ⟨r3, ok3, p3, g3, c3, rfl, ho, hr3, N3, hb⟩; rw [HQ.out] at ho hr3; subst ho; have N4 := Lib.hid N3; replace BB := Lib.hid (BB.out.trans (hb.mono BB.out.size)); have HR3 := Lib.hid hr3; clear N3 hb hr3))
      go_ret2
      exact ⟨[], none, 0, 0, by rw [HA2.out]; rfl, by rw [HA2.out]; rfl, Row.nothing _ _ (lf_lt isB_nil), BB.out⟩
end Go.Proofs.YtghjgkgfpblijaaDoor
