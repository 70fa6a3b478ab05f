/- For every count and all slices of bytes (nil too) that hold together at most 1048576 values: a count's bytes, and a text's, with any bytes behind them, are read as the count, the text, and those bytes; the call returns true. The second form: what comes in is of bulk at most 1048576 (without it the law's own append passes 2^48 bytes at slices of some 2^47 bytes each). -/
import Derived.Test.YthnddiimkgahgaaSp
import Derived.Test.YthnddiimkgahgaaUp
set_option linter.unusedVariables false
namespace Go.Proofs.Ythnddiimkgahgaa.sizeBack
open Go.ChangeShapes Go.WideShapes Go.ChangeAt Go.RowKit Go.Lib Go.Proofs.Ythnddiimkgahgaa

set_option maxRecDepth 100000 in
set_option maxHeartbeats 4000000 in
theorem walk_any {W : World} {k n1 n2 : Nat} {a1 a2 : Option Addr} {g1' o1' d1 g2' o2' d2 : Nat} {x1 x2 y1 y2 : Nat → Nat} (R1 : Hid (Row W a1 g1' o1' n1 d1 x1)) (R2 : Hid (Row W a2 g2' o2' n2 d2 x2)) (l1 : n1 ≤ 1048576) (l2 : n2 ≤ 1048576)
    (H1 : Hid (y1 = cat (enc k) (wid k) x2 ∧ dec (wid k + n2) y1 = 0 ∧ wOf (y1 0) = wid k ∧ val y1 = k)) (H2 : Hid (y2 = cat (txt x1 n1) (wid n1 + n1) x2 ∧ dec (wid n1 + n1 + n2) y2 = 0 ∧ wOf (y2 0) = wid n1 ∧ val y2 = n1))
    (L : Hid (Lim ((n1 : Nat) : Int) n1)) (tv : (((val y1 : Nat) : Int) == ((k : Nat) : Int)) = true)
    (I1 : Hid (∀ i, i < wid k + n2 - wOf (y1 0) → y1 (wOf (y1 0) + i) = x2 i)) (I2 : Hid (∀ i, i < val y2 → y2 (wOf (y2 0) + i) = x1 i)) (I3 : Hid (∀ i, i < wid n1 + n1 + n2 - wOf (y2 0) - val y2 → y2 (wOf (y2 0) + (val y2 + i)) = x2 i)) :
    Calls Try.prog 5 #[.int .u64 ((k : Nat) : Int), .slice a1 n1 d1, .slice a2 n2 d2] W fun e w' => e = .returned (.bool true) ∧ Below W.heap.size W w' := by
  have E := Lib.hid (Below.refl W.heap.size W)
  have hw := wid_bd k
  have hw1 := wid_bd n1
  go_enter Try.func5, Try.ntmps5
  go_wp2_with (first
      | (go_at_call 15; refine (encode_any k _).mono ?_; rintro e w1 ⟨p1, g1, c1, rfl, N1', hb⟩; have K := Lib.hid (Work.start (Mem.nil W) N1' hb); clear hb N1' E)
      | (at_builtin; refine wpList_wapp (.inl rfl) (.tmp 15) (.tmp 16) rfl K rfl rfl (Lib.hid (R2.out.below K.out.mem.below)) (by omega) ?_; clear K; intro p2 g2 c2 w2 K; have E := Lib.hid K.out.mem.below; have Y1 : Hid (Row w2 p2 g2 0 (wid k + n2) c2 y1) := Lib.hid (by rw [H1.out.1]; exact K.out.own.row); clear K)
      | (go_at_call 12; refine (decode_good Y1 (Lib.hid H1.out.2.1) (Lib.hid (by omega))).mono ?_; rintro e w3 ⟨p3, g3, c3, rfl, RX, hb⟩; have X := Lib.hid RX; replace E := Lib.hid (E.out.trans (hb.mono E.out.size)); clear hb RX Y1)
      | (go_at_call 19; refine (text_any (Lib.hid (R1.out.below E.out)) (by omega)).mono ?_; rintro e w4 ⟨p4, g4, c4, rfl, N4', hb⟩; have N4 := Lib.hid N4'; have BT := Lib.hid hb; clear hb N4')
      | (at_builtin; refine wpList_app (.inl rfl) (.tmp 24) (.tmp 25) rfl rfl N4 rfl (Lib.hid ((R2.out.below E.out).below BT.out)) (by omega) ?_; clear N4; intro p5 g5 c5 w5 N5 hb5; have B5 := Lib.hid (BT.out.trans hb5.out); replace X := Lib.hid (X.out.below B5.out); replace E := Lib.hid (E.out.trans (B5.out.mono E.out.size)); have Y2 : Hid (Row w5 p5 g5 0 (wid n1 + n1 + n2) c5 y2) := Lib.hid (by rw [H2.out.1]; exact N5.out.row); clear N5 hb5 B5 BT)
      | (go_at_call 17; refine (read_ok Y2 (Lib.hid H2.out.2.1) (by omega) L (by rw [H2.out.2.2.2]; omega) (by rw [H2.out.2.2.2, H2.out.2.2.1]; omega)).mono ?_; rintro e w6 ⟨p6, g6, o6, c6, p7, g7, o7, c7, rfl, RA, RB, hb⟩; have Z1 := Lib.hid RA; have Z2 := Lib.hid RB; replace X := Lib.hid (X.out.below hb); replace E := Lib.hid (E.out.trans (hb.mono E.out.size)); clear hb RA RB)
      | (go_at_call 14; first
        | ((with_reducible refine (equal_any X (Lib.hid (R2.out.below E.out)) (by rw [H1.out.2.2.1]; omega) I1).mono ?_); rintro e wq ⟨rfl, rfl⟩)
        | ((with_reducible refine (equal_any Z1 (Lib.hid (R1.out.below E.out)) H2.out.2.2.2 I2).mono ?_); rintro e wq ⟨rfl, rfl⟩)
        | ((with_reducible refine (equal_any Z2 (Lib.hid (R2.out.below E.out)) (by rw [H2.out.2.2.1, H2.out.2.2.2]; omega) I3).mono ?_); rintro e wq ⟨rfl, rfl⟩)))
  go_ret
  exact ⟨rfl, E.out⟩
theorem walk (W : World) (k : Nat) (hk : k < 18446744073709551616) (a1 : Option Addr) (g1 o1 n1 c1 : Nat) (x1 : Nat → Nat) (R1 : Row W a1 g1 o1 n1 c1 x1) (m1 : c1 ≤ 1048576) (a2 : Option Addr) (g2 o2 n2 c2 : Nat) (x2 : Nat → Nat) (R2 : Row W a2 g2 o2 n2 c2 x2) (m2 : c2 ≤ 1048576) :
    Calls Try.prog 5 #[.int .u64 ((k : Nat) : Int), .slice a1 n1 c1, .slice a2 n2 c2] W fun e w' => e = .returned (.bool true) ∧ Below W.heap.size W w' := by
  have l1 := Nat.le_trans R1.le m1
  have l2 := Nat.le_trans R2.le m2
  have hw := wid_bd k
  have hw1 := wid_bd n1
  have e1 := enc_said (n := k) (m := wid k + n2) (x := cat (enc k) (wid k) x2) hk (fun i hi => by unfold cat; rw [if_pos hi]) (by omega)
  have e2 := enc_said (n := n1) (m := wid n1 + n1 + n2) (x := cat (txt x1 n1) (wid n1 + n1) x2) (by omega) (fun i hi => by unfold txt cat; rw [if_pos (by omega), if_pos hi]) (by omega)
  refine walk_any (y1 := cat (enc k) (wid k) x2) (y2 := cat (txt x1 n1) (wid n1 + n1) x2) (Lib.hid R1) (Lib.hid R2) l1 l2 (Lib.hid ⟨rfl, e1⟩) (Lib.hid ⟨rfl, e2⟩) (Lib.hid ⟨by rw [if_neg (by omega)], by omega⟩) (by rw [e1.2.2]; simp) ?_ ?_ ?_
  · refine Lib.hid fun i hi => ?_
    rw [e1.2.1]
    unfold cat
    rw [if_neg (by omega)]
    congr 1; omega
  · refine Lib.hid fun i hi => ?_
    rw [e2.2.1]
    rw [e2.2.2] at hi
    unfold txt cat
    rw [if_pos (by omega), if_neg (by omega)]
    congr 1; omega
  · refine Lib.hid fun i hi => ?_
    rw [e2.2.1, e2.2.2]
    unfold cat
    rw [if_neg (by omega)]
    congr 1; omega

theorem contract (H : Type) (enc : TypeId × Value → H) (W : World) (base : Nat) (args : Array Value) (ds gs : List (DataW H)) (before : List MemPlace)
    (hval0 : ∀ (j : Nat) t v, Try.f5.params[j]? = some t → args[j]? = some v → Value.okWide Try.prog W .any base t v)
    (hW : DataW.Whole enc Try.prog Try.f5.params.toList Rows.sizeBackSpec.vars false W args.toList ds gs before) (hk : Rows.uptoSmall H (ds ++ gs) = true) :
    Calls Try.prog 5 args W fun e W' => ∃ v, e = .returned v ∧ Rows.sizeBackSpec.post enc Try.prog Try.f5 false true false false W args v W' := by
  have hval : ∀ (j : Nat) t v, Try.f5.params[j]? = some t → args[j]? = some v → Value.okWide Try.prog W .any base t v := hval0
  have hW' := hW
  obtain ⟨p, q, hA0, hV, rfl, hfz, hnd⟩ := hW
  have hA : DataW.TrodAll enc Try.prog W 0 (fun _ => true) true Try.f5.params.toList args.toList ds p := hA0
  rw [Try.params5] at hA hval
  obtain ⟨v0, vs0, d0, ds0, p0, q0, hargs, rfl, rfl, h0, r0⟩ := trodAll_cons hA
  obtain ⟨v1, vs1, d1, ds1, p1, q1, rfl, rfl, rfl, h1, r1⟩ := trodAll_cons r0
  obtain ⟨v2, vs2, d2, ds2, p2, q2, rfl, rfl, rfl, h2, r2⟩ := trodAll_cons r1
  obtain ⟨rfl, rfl, rfl⟩ := trodAll_nil r2
  obtain rfl : args = #[v0, v1, v2] := by cases args; simp_all
  obtain ⟨rfl, rfl⟩ := trodVars_none hV
  have hb : Rows.uptoBulkAll ([d0, d1, d2] ++ []) ≤ 1048576 := by simpa [Rows.uptoSmall] using hk
  have hb1 : Rows.uptoBulk d1 ≤ 1048576 := Nat.le_trans (bulk_part (by simp)) hb
  have hb2 : Rows.uptoBulk d2 ≤ 1048576 := Nat.le_trans (bulk_part (by simp)) hb
  obtain ⟨a0, rfl, rfl, rfl, w0⟩ := open_int Try.underlying22 (hval 0 22 v0 rfl rfl) h0
  have k1 := h1
  have lt1 : ∀ x ∈ p1, x.block < W.heap.size := by obtain ⟨m, hm⟩ := k1; exact DataW.trod_lt m _ _ _ hm
  have k2 := h2
  have lt2 : ∀ x ∈ p2, x.block < W.heap.size := by obtain ⟨m, hm⟩ := k2; exact DataW.trod_lt m _ _ _ hm
  obtain ⟨a1, g1, o1, n1, c1, x1, rfl, w1, m1⟩ := open_row_upto (hval 1 23 v1 rfl rfl) h1 hb1
  obtain ⟨a2, g2, o2, n2, c2, x2, rfl, w2, m2⟩ := open_row_upto (hval 2 23 v2 rfl rfl) h2 hb2
  obtain ⟨k, rfl, hk'⟩ := nat_of64 w0
  clear hA0 hval0
  simp only [List.append_nil] at hW'
  refine (walk W k hk' a1 g1 o1 n1 c1 x1 w1 m1 a2 g2 o2 n2 c2 x2 w2 m2).mono fun e W' ⟨he, bel⟩ => ?_
  subst he
  exact ⟨_, rfl, _, _, _, [], _, [], hW', trodAll_mk1 (shut_bool Try.underlying4 _), (trodAll_cons_mk (shut_int Try.underlying22 w0) (trodAll_cons_mk (Below.trod laidOut (by kernel_rfl) (of_decide_eq_true (by kernel_rfl)) k1 bel lt1) (trodAll_cons_mk (Below.trod laidOut (by kernel_rfl) (of_decide_eq_true (by kernel_rfl)) k2 bel lt2) trodAll_mk0))), rfl, bel.frame _, fun h => by cases h⟩

set_option maxRecDepth 100000 in
theorem lifted (os : Os) (started : os.Started) (H : Type) (enc : TypeId × Value → H) (F : Stop.Interp) :
    ReturnsInHanded {} Try.checked os 5 .any ((Rows.OpenSpec.upto Rows.sizeBackSpec).pre6 enc Try.prog Try.f5 Rows.sizeBackUptoRow.domain false) (((Rows.OpenSpec.upto Rows.sizeBackSpec).at F).post enc Try.prog Try.f5 false true false false) := by
  refine returnsInHanded_of_cond (C := Try.checked) (s := Rows.OpenSpec.upto Rows.sizeBackSpec) (k := Rows.uptoSmall) rfl own started (by kernel_rfl) Try.func5
    (OpenSpec.witness (enc := enc) (C := Try.checked) (s := Rows.OpenSpec.upto Rows.sizeBackSpec) (k := Rows.uptoSmall) rfl false ⟨#[], #[.int .u64 0, .slice none 0 0, .slice none 0 0], []⟩ 8 (by kernel_rfl) (by kernel_rfl) (by kernel_rfl)
      (x := ([.lit (.int .u64 0), .nil, .nil], [], [])) (by kernel_rfl) rfl (by kernel_rfl)) ?_
  intro W base args ds gs before hval hW _ hk _
  exact contract H enc W base args ds gs before hval hW hk

theorem over : Rows.sizeBackUptoRow.holds Try.pinned (Rows.OpenSpec.upto Rows.sizeBackSpec) :=
  OpenClaim.holds_of_cond 5 Try.f5 rfl rfl rfl rfl rfl rfl rfl ⟨rfl, rfl, rfl, rfl, rfl⟩ rfl rfl rfl rfl rfl (by kernel_rfl) Try.func5 (by kernel_rfl)
    (of_decide_eq_true (by kernel_rfl)) (by unfold Func.isWrapper; first | (rw [if_pos (by decide +kernel)]; kernel_rfl) | (rw [if_neg (by decide +kernel)]; exact ⟨rfl, rfl⟩))
    (fun os started H enc _ F => lifted os started H enc F)

/-- The statement, in its second form. -/
theorem proved : Rows.SizeBackUptoSaid :=
  over
#print axioms proved
end Go.Proofs.Ythnddiimkgahgaa.sizeBack
