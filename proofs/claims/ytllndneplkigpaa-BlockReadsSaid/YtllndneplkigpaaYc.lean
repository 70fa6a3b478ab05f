/- The document's reader: text. -/
import Derived.Test.YtllndneplkigpaaYb
set_option linter.unusedSimpArgs false
set_option linter.unusedVariables false
set_option maxRecDepth 100000
namespace Go.Proofs.Ytllndneplkigpaa
open Go.RowKit Go.Lib Go.Sort

section
variable {ops : Array Oper} {rest : List Oper} {Q : Exit → Act → World → Prop} {op : Oper} {a : Act} {w : World}
/-- No bytes, written out. -/
theorem wpList_bs00 (hw : Region.wanted op (yielded ops a.tmps) = true) (ho : op.op = .buildSlice 22 0 #[])
    (k : ∀ g w', Hid (Own w.heap.size w' (some ⟨g, 0, none⟩) g 0 0 (fun _ => 0)) → Hid (Below w.heap.size w w') → wpList Try.prog ops Q rest (a.put op.dst (.slice (some ⟨g, 0, none⟩) 0 0)) w') : wpList Try.prog ops Q (op :: rest) a w :=
  BigFrame.wpList_want hw fun _ hK => by
    refine mo_known (.slice (some ⟨w.heap.size, 0, none⟩) 0 0) (w.alloc (.cells #[] 5)) ?_ (hK _ _ (k _ _ (Lib.hid (own_start w (fun _ => 0) (fun _ => by omega))) (Lib.hid (below_new w _))))
    unfold execOp
    simp only [ho, Array.map_empty, Sem.run_bind, run_bs0 Try.underlying22 infoB w, Result.andThen_ok]
    rfl
end
/-- What is written into a block that holds no bytes does not touch a row of bytes. -/
theorem Row.only {w w' : World} {p : Option Addr} {g o n c b T : Nat} {x : Nat → Nat} {cs : Array Value} (h : Row w p g o n c x) (hb : w.heap[b]? = some (.cells cs T (0, 0))) (hn : ∀ v, v ∈ cs → ∀ k : Int, v ≠ .int .u8 k) (ho : Only b w w') : Row w' p g o n c x :=
  ⟨h.le, h.cap, h.nil, h.head, fun i hi => by
    have h1 := h.cell i hi
    refine ho.cell (fun e => ?_) h1
    have e : g = b := e
    subst e
    cases hq : cs[o + i]? with
    | none => simp [World.cell?, hb, hq] at h1
    | some v =>
      rw [cell_of_here hb (o + i) hq] at h1
      injection h1 with h1
      exact hn v (Array.mem_of_getElem? hq) _ h1, h.byte⟩
theorem lim10k : Lim 10000 10000 := ⟨rfl, by decide⟩
section
variable {D W : World} {p : Option Addr} {c : Nat} {xs : List Nat}
/-- A text, cut off: how it fails. -/
def RT (D W : World) (r : Res (List Nat)) (e : Ending) (w' : World) : Prop :=
  match r with
  | .bad er => er ≠ 0 ∧ e = .returned (.tuple #[.slice none 0 0, .slice none 0 0, .int .i64 er]) ∧ Below W.heap.size W w'
  | .good t r => ∃ p1 k1 c1 g1 o1 p2 k2 c2, e = .returned (.tuple #[.slice p1 k1 c1, .slice p2 k2 c2, .int .i64 0]) ∧ k1 = t.length ∧ k1 ≤ 140737488351232 ∧ Row w' p1 g1 o1 k1 c1 (lf t) ∧ QDat D w' (.slice p2 k2 c2) r ∧ Below W.heap.size W w'
theorem lf_take {xs : List Nat} {k i : Nat} (h : i < k) : lf (xs.take k) i = lf xs i := by
  unfold lf
  simp only [List.getD_eq_getElem?_getD]
  rw [List.getElem?_take, if_pos h]
theorem rread_dat (A : QDat D W (.slice p xs.length c) xs) : Calls Try.prog 70 #[.slice p xs.length c, .int .i64 10000] W (RT D W (pText 10000 xs)) := by
  obtain ⟨p', g, o, c', hv, hl, R1⟩ := A.at
  injection hv with q1 q2 q3
  subst q1 q3
  have hb0 := isB_row R1
  have L := Lib.hid lim10k
  by_cases hd : dec xs.length (lf xs) = 0
  · have hw := dec_zero hd
    have PV : pVal xs = .good (val (lf xs)) (xs.drop (wOf (lf xs 0))) := by unfold pVal; rw [if_pos hd]
    by_cases t : 10000 < val (lf xs)
    · have e : pText 10000 xs = .bad 4 := Res.bb ((Res.bg PV).trans (if_neg (by omega)))
      rw [e]
      exact (rread_full (Lib.hid R1) (Lib.hid hd) hl L t).mono fun e1 w1 ⟨h1, h2⟩ => ⟨by decide, h1, h2⟩
    · have e0 : pText 10000 xs = pTake (val (lf xs)) (xs.drop (wOf (lf xs 0))) := Res.bg ((Res.bg PV).trans (if_pos (by omega)))
      by_cases t2 : xs.length - wOf (lf xs 0) < val (lf xs)
      · have e : pText 10000 xs = .bad 50 := by rw [e0]; unfold pTake; rw [if_neg (by rw [List.length_drop]; omega)]
        rw [e]
        exact (rread_short (Lib.hid R1) (Lib.hid hd) hl L t t2).mono fun e1 w1 ⟨h1, h2⟩ => ⟨by decide, h1, h2⟩
      · have e : pText 10000 xs = .good ((xs.drop (wOf (lf xs 0))).take (val (lf xs))) ((xs.drop (wOf (lf xs 0))).drop (val (lf xs))) := by rw [e0]; unfold pTake; rw [if_pos (by rw [List.length_drop]; omega)]
        rw [e]
        refine (rread_ok (Lib.hid R1) (Lib.hid hd) hl L t t2).mono fun e1 w1 ⟨p1, g1, o1, c1, p2, g2, o2, c2, h1, hR, hT, hb⟩ => ?_
        refine ⟨p1, _, c1, g1, o1, p2, _, c2, h1, ?_, ?_, ?_, ?_, hb⟩
        · rw [List.length_take, List.length_drop]; omega
        · omega
        · exact hR.to (fun i hi => by rw [lf_take hi, lf_drop]) (lf_lt fun x hx => isB_drop hb0 _ x (List.mem_of_mem_take hx))
        · exact hT.dat (by rw [List.length_drop, List.length_drop]) (fun i hi => by rw [lf_drop, lf_drop]) (by rw [List.length_drop, List.length_drop]; omega) (isB_drop (isB_drop hb0 _) _)
  · have e : pText 10000 xs = .bad ((dec xs.length (lf xs) : Nat) : Int) := Res.bb (Res.bb (by unfold pVal; rw [if_neg hd]))
    rw [e]
    exact (rread_bad (Lib.hid R1) (Lib.hid rfl) hd hl).mono fun e1 w1 ⟨h1, h2⟩ => ⟨by omega, h1, h2⟩
end
section
variable {γ : Type} {D W : World} {b : Nat} {u : Value} {e : Int} {xs : List Nat} {whole : Res γ}
theorem pText_le {M : Nat} {xs t r : List Nat} (h : pText M xs = .good t r) : t.length ≤ M := by
  obtain ⟨n, s, h1, h2⟩ := Res.bind_good h
  rw [(pTake_good h2).2.2.2]
  exact pCnt_le h1
theorem text_none (B : Nat) (w : World) (hB : B ≤ w.heap.size) : TextOwn B w (.slice none 0 0) [] := ⟨none, 0, 0, rfl, by simp, own_nothing w B _ (lf_lt isB_nil) hB⟩
set_option maxHeartbeats 4000000 in
theorem qtext_any {f : List Nat → List Nat → Res γ} (R : Hid (Qd D W b u e xs)) (I : Hid (Inv whole e ((pText 10000 xs).bind f))) : Calls Try.prog 30 #[.pointer (some ⟨b, 0, none⟩)] W (QPost D W b (fun w' v a => TextOwn W.heap.size w' v a ∧ a.length ≤ 10000) whole f) := by
  obtain ⟨p, c, rfl, hl⟩ := R.out.dat.slice
  have E := Lib.hid R.out.start
  by_cases h0 : e = 0
  · subst h0
    have DC := Lib.hid (rread_dat R.out.dat)
    cases h : pText 10000 xs with
    | bad er =>
      rw [h] at DC
      have H := Lib.hid h
      clear h
      go_enter Try.func30, Try.ntmps30
      go_upto_region 4 with (first
        | (refine wpList_xld E R.out.hbox 29 _ rfl rfl rfl Try.underlying29 rfl rfl ?_)
        | (refine wpList_xld E R.out.hbox 22 _ rfl rfl rfl Try.underlying22 rfl rfl ?_)
        | (go_at_call 70; refine DC.out.mono ?_; rintro e1 w1 ⟨hne, rfl, hb⟩; have NE := Lib.hid hne; have QD := Lib.hid (R.out.dat.below hb); replace E := Lib.hid (E.out.call hb); clear hb hne))
      have IB := Lib.hid (I.out.bad (Res.bb H.out) NE.out (f [] xs))
      have t1 : (er != 0) = true := by have := NE.out; simp; exact this
      clear I
      go_wp2_with (first
        | (refine wpList_xstk E R.out.hbox 29 (.tmp 25) (.tmp 23) rfl rfl rfl (v := .int .i64 er) rfl (by kernel_rfl) rfl rfl rfl (cs' := #[.slice p xs.length c, .int .i64 er]) rfl ?_; clear E; intro w2 E HO))
      go_ret
      exact QPost.of E.out (QD.out.xst R.out.lo HO.out (by decide)) ⟨text_none _ _ E.out.rsize, Nat.zero_le _⟩ IB.out
    | good t r =>
      rw [h] at DC
      have IG := Lib.hid (I.out.good (Res.bg h))
      have LE := Lib.hid (pText_le h)
      clear I h
      go_enter Try.func30, Try.ntmps30
      go_wp2_with (first
        | (refine wpList_xld E R.out.hbox 29 _ rfl rfl rfl Try.underlying29 rfl rfl ?_)
        | (refine wpList_xld E R.out.hbox 22 _ rfl rfl rfl Try.underlying22 rfl rfl ?_)
        | (go_at_call 70; refine DC.out.mono ?_; rintro e1 w1 ⟨p1, k1, c1, g1, o1, p2, k2, c2, rfl, hk1, hk2, hR, hQ, hb⟩; have QD := Lib.hid hQ; have RR := Lib.hid hR; have HK := Lib.hid (And.intro hk1 hk2); replace E := Lib.hid (E.out.call hb); clear hb hQ hR hk1 hk2)
        | (refine wpList_xstk E R.out.hbox 22 (.tmp 29) (.tmp 27) rfl rfl rfl (v := .slice p2 k2 c2) rfl (by kernel_rfl) rfl rfl rfl (cs' := #[.slice p2 k2 c2, .int .i64 0]) rfl ?_; clear E; intro w2 E HO; replace RR := Lib.hid (RR.out.only HO.out.1 (by simp) HO.out.2); replace QD := Lib.hid (QD.out.xst R.out.lo HO.out (by decide)); have RZ := Lib.hid E.out.rsize; clear HO)
        | (refine wpList_bs00 rfl rfl ?_; intro g3 w3 N3 hb3; replace RR := Lib.hid (RR.out.below hb3.out))
        | (at_builtin; refine wpList_app (.inl rfl) (.tmp 30) (.tmp 31) rfl rfl N3 rfl RR (by have := HK.out; omega) ?_; intro p4 g4 c4 w4 N4 hb4; rw [Nat.zero_add] at N4 ⊢; replace E := Lib.hid (E.out.call (hb3.out.trans hb4.out)); replace QD := Lib.hid (QD.out.below (hb3.out.trans hb4.out)); clear hb3 hb4 N3))
      go_ret
      obtain ⟨rfl, hk2⟩ := HK.out
      refine QPost.of E.out QD.out ⟨⟨p4, g4, c4, rfl, hk2, ?_⟩, LE.out⟩ IG.out
      exact (N4.out.mono RZ.out).to (fun i hi => by unfold cat; rw [if_neg (by omega)]; rfl) RR.out.byte
  · have IB := Lib.hid (I.out.fail h0 (f [] xs))
    have h1 : (e == 0) = false := by simp; exact h0
    have h2 : (e != 0) = true := by simp; exact h0
    have QD := Lib.hid R.out.dat
    clear I h0
    go_enter Try.func30, Try.ntmps30
    go_wp2_with (first
      | (refine wpList_xld E R.out.hbox 29 _ rfl rfl rfl Try.underlying29 rfl rfl ?_))
    go_ret
    exact QPost.of E.out QD.out ⟨text_none _ _ (Nat.le_refl _), Nat.zero_le _⟩ IB.out
end
end Go.Proofs.Ytllndneplkigpaa
