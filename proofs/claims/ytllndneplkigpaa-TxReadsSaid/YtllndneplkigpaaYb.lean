/- The document's reader: count, text. -/
import Derived.Test.YtllndneplkigpaaYa
set_option linter.unusedSimpArgs false
set_option linter.unusedVariables false
set_option maxRecDepth 100000
namespace Go.Proofs.Ytllndneplkigpaa
open Go.RowKit Go.Lib Go.Sort

section
variable {γ : Type} {D W : World} {b : Nat} {u : Value} {e : Int} {xs : List Nat} {whole : Res γ}
theorem TRow.dat {D w : World} {p : Option Addr} {g o c m : Nat} {x : Nat → Nat} {t : List Nat} (R : TRow w p g o m c x) (hm : m = t.length) (hx : ∀ i, i < m → x i = lf t i) (hl : t.length ≤ 140737488351232) (ht : IsB t) : QDat D w (.slice p m c) t := by
  subst hm
  exact ⟨p, g, o, c, rfl, hl, R.row.to hx (lf_lt ht), fun h => .inr (R.typ h)⟩
theorem lf_drop (xs : List Nat) (k i : Nat) : lf (xs.drop k) i = lf xs (k + i) := by
  unfold lf
  simp only [List.getD_eq_getElem?_getD, List.getElem?_drop]
theorem isB_drop {xs : List Nat} (h : IsB xs) (k : Nat) : IsB (xs.drop k) := fun x hx => h x (List.mem_of_mem_drop hx)
theorem rdec_dat {D W : World} {p : Option Addr} {c : Nat} {xs : List Nat} (A : QDat D W (.slice p xs.length c) xs) (hd : dec xs.length (lf xs) = 0) : Calls Try.prog 50 #[.slice p xs.length c] W fun e1 w1 => ∃ p3 m3 c3, e1 = .returned (.tuple #[.int .u64 ((val (lf xs) : Nat) : Int), .slice p3 m3 c3, .int .i64 0]) ∧ QDat D w1 (.slice p3 m3 c3) (xs.drop (wOf (lf xs 0))) ∧ Below W.heap.size W w1 := by
  obtain ⟨p', g, o, c', hv, hl, R1⟩ := A.at
  injection hv with q1 q2 q3
  subst q1 q3
  exact (ref_decode_good (Lib.hid R1) (Lib.hid hd) hl).mono fun e1 w1 ⟨p3, g3, c3, h1, hR, hb⟩ => ⟨p3, _, c3, h1, hR.dat (by rw [List.length_drop]) (fun i hi => (lf_drop xs _ i).symm) (by rw [List.length_drop]; omega) (isB_drop (isB_row R1) _), hb⟩
theorem rdec_dat_bad {D W : World} {p : Option Addr} {c k : Nat} {xs : List Nat} (A : QDat D W (.slice p xs.length c) xs) (hd : dec xs.length (lf xs) = k) (hk : k ≠ 0) : Calls Try.prog 50 #[.slice p xs.length c] W (DecBad W k) := by
  obtain ⟨p', g, o, c', hv, hl, R1⟩ := A.at
  injection hv with q1 q2 q3
  subst q1 q3
  exact ref_decode_bad (Lib.hid R1) (Lib.hid hd) hk hl
set_option maxHeartbeats 4000000 in
theorem qcount_any {f : Nat → List Nat → Res γ} (R : Hid (Qd D W b u e xs)) (M : Nat) (hM : M < 9223372036854775808) (I : Hid (Inv whole e ((pCnt M xs).bind f))) : Calls Try.prog 27 #[.pointer (some ⟨b, 0, none⟩), .int .i64 ((M : Nat) : Int)] W (QPost D W b (fun _ v a => v = .int .i64 ((a : Nat) : Int) ∧ a ≤ M) whole f) := by
  obtain ⟨p, c, rfl, hl⟩ := R.out.dat.slice
  have E := Lib.hid R.out.start
  have cw : IntKind.u64.wrap (M : Int) = (M : Int) := by rw [IntKind.wrap_u64]; omega
  by_cases h0 : e = 0
  · subst h0
    have hb0 := R.out.dat.at.isB
    have I1 : Hid (Inv whole 0 ((pVal xs).bind fun n r => (if n ≤ M then Res.good n r else .bad 4).bind f)) := Lib.hid (I.out.eq (Res.bind_assoc _ _ _))
    clear I
    by_cases hd : dec xs.length (lf xs) = 0
    · have DC := rdec_dat R.out.dat hd
      have PV := show pVal xs = .good (val (lf xs)) (xs.drop (wOf (lf xs 0))) by unfold pVal; rw [if_pos hd]
      have vlt := val_lt (lf_lt hb0)
      obtain ⟨vv, hvv⟩ : ∃ vv, vv = val (lf xs) := ⟨_, rfl⟩
      obtain ⟨ys, hys⟩ : ∃ ys, ys = xs.drop (wOf (lf xs 0)) := ⟨_, rfl⟩
      rw [← hvv, ← hys] at PV DC
      rw [← hvv] at vlt
      clear hvv hys hd hb0
      replace DC := Lib.hid DC
      replace PV := Lib.hid PV
      by_cases hle : vv ≤ M
      · have hle' : ¬ M < vv := by omega
        have IG := Lib.hid (I1.out.good ((Res.bg PV.out).trans (Res.bg (if_pos hle))))
        have cw2 : IntKind.i64.wrap (vv : Int) = (vv : Int) := by rw [IntKind.wrap_i64]; omega
        have HLE := Lib.hid hle
        clear I1 hle
        go_enter Try.func27, Try.ntmps27
        go_wp2_with (first
          | (refine wpList_xld E R.out.hbox 29 _ rfl rfl rfl Try.underlying29 rfl rfl ?_)
          | (refine wpList_xld E R.out.hbox 22 _ rfl rfl rfl Try.underlying22 rfl rfl ?_)
          | (go_at_call 50; refine DC.out.mono ?_; rintro e1 w1 ⟨p3, m3, c3, rfl, hQ, hb⟩; have QD := Lib.hid hQ; replace E := Lib.hid (E.out.call hb); clear hQ hb)
          | (refine wpList_xstk E R.out.hbox 22 (.tmp 39) (.tmp 37) rfl rfl rfl (v := .slice p3 m3 c3) rfl (by kernel_rfl) rfl rfl rfl (cs' := #[.slice p3 m3 c3, .int .i64 0]) rfl ?_; clear E; intro w2 E HO))
        go_ret
        exact QPost.of E.out (QD.out.xst R.out.lo HO.out (by decide)) ⟨rfl, HLE.out⟩ IG.out
      · have hle' : M < vv := by omega
        have IB := Lib.hid (I1.out.bad (er := 4) ((Res.bg PV.out).trans (Res.bb (if_neg hle))) (by decide) (f 0 xs))
        clear I1 hle
        go_enter Try.func27, Try.ntmps27
        go_wp2_with (first
          | (refine wpList_xld E R.out.hbox 29 _ rfl rfl rfl Try.underlying29 rfl rfl ?_)
          | (refine wpList_xld E R.out.hbox 22 _ rfl rfl rfl Try.underlying22 rfl rfl ?_)
          | (go_at_call 50; refine DC.out.mono ?_; rintro e1 w1 ⟨p3, m3, c3, rfl, hQ, hb⟩; have QD := Lib.hid (R.out.dat.below hb); replace E := Lib.hid (E.out.call hb); clear hQ hb)
          | (refine wpList_xstk E R.out.hbox 29 (.tmp 35) (.tmp 33) rfl rfl rfl (v := .int .i64 4) rfl (by kernel_rfl) rfl rfl rfl (cs' := #[.slice p xs.length c, .int .i64 4]) rfl ?_; clear E; intro w2 E HO))
        go_ret
        exact QPost.of E.out (QD.out.xst R.out.lo HO.out (by decide)) ⟨rfl, Nat.zero_le _⟩ IB.out
    · obtain ⟨k, hk⟩ : ∃ k, k = dec xs.length (lf xs) := ⟨_, rfl⟩
      have hk0 : k ≠ 0 := by rw [hk]; exact hd
      have DC := Lib.hid (rdec_dat_bad R.out.dat hk.symm hk0)
      have IB := Lib.hid (I1.out.bad (er := ((k : Nat) : Int)) (Res.bb (show pVal xs = .bad ((k : Nat) : Int) by unfold pVal; rw [if_neg hd, hk])) (by omega) (f 0 xs))
      have t0 : (((k : Nat) : Int) == 0) = false := by simp; omega
      have t1 : (((k : Nat) : Int) != 0) = true := by simp; omega
      clear hk hk0 hd I1
      go_enter Try.func27, Try.ntmps27
      go_wp2_with (first
        | (refine wpList_xld E R.out.hbox 29 _ rfl rfl rfl Try.underlying29 rfl rfl ?_)
        | (refine wpList_xld E R.out.hbox 22 _ rfl rfl rfl Try.underlying22 rfl rfl ?_)
        | (go_at_call 50; refine DC.out.mono ?_; rintro e1 w1 ⟨rfl, hb⟩; have QD := Lib.hid (R.out.dat.below hb); replace E := Lib.hid (E.out.call hb); clear hb)
        | (refine wpList_xstk E R.out.hbox 29 (.tmp 35) (.tmp 33) rfl rfl rfl (v := .int .i64 ((k : Nat) : Int)) rfl (by kernel_rfl) rfl rfl rfl (cs' := #[.slice p xs.length c, .int .i64 ((k : Nat) : Int)]) rfl ?_; clear E; intro w2 E HO))
      go_ret
      exact QPost.of E.out (QD.out.xst R.out.lo HO.out (by decide)) ⟨rfl, Nat.zero_le _⟩ IB.out
  · have IB := Lib.hid (I.out.fail h0 (f 0 xs))
    have h1 : (e == 0) = false := by simp; exact h0
    have h2 : (e != 0) = true := by simp; exact h0
    have QD := Lib.hid R.out.dat
    clear I h0
    go_enter Try.func27, Try.ntmps27
    go_wp2_with (first
      | (refine wpList_xld E R.out.hbox 29 _ rfl rfl rfl Try.underlying29 rfl rfl ?_))
    go_ret
    exact QPost.of E.out QD.out ⟨rfl, Nat.zero_le _⟩ IB.out
end
end Go.Proofs.Ytllndneplkigpaa
