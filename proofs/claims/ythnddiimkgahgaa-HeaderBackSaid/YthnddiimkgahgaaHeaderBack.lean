/- For every header and every slice of bytes (nil too): the header's bytes are eighty; with the bytes behind them they are read as the header, and the bytes; the call returns true. No condition. -/
import Derived.Test.YthnddiimkgahgaaHq
set_option linter.unusedSimpArgs false
set_option linter.unusedVariables false
namespace Go.Proofs.Ythnddiimkgahgaa.headerBack
open Go.ChangeShapes Go.WideShapes Go.ChangeAt Go.RowKit Go.Lib Go.Proofs.Ythnddiimkgahgaa

set_option maxRecDepth 100000 in
set_option maxHeartbeats 4000000 in
theorem walk_any {W : World} {f0 : Hd} (ok : Hid f0.Ok) {a1 : Option Addr} {g1 o1 n1 c1 : Nat} {x1 : Nat → Nat} (RB : Hid (Row W a1 g1 o1 n1 c1 x1)) (le : n1 ≤ 140737488351232)
    (HX : Hid (∀ i, i < 80 → cat (hb f0) 80 x1 i = hb f0 i)) (HY : Hid (∀ i, i < n1 → cat (hb f0) 80 x1 (80 + i) = x1 i)) :
    Calls Try.prog 8 #[.agg (arr 68 (hc f0)), .slice a1 n1 c1] W fun e w' => e = .returned (.bool true) ∧ Below W.heap.size W w' := by
  have E := Lib.hid (Mem.nil W)
  have sm := same_hdr f0
  go_enter Try.func8, Try.ntmps8
  go_wp2_with (first
      | (refine mem_box E 42 rfl _ rfl rfl (arr_cells' 68 (hc f0)) ?_; clear E; intro b2 w2 E)
      | (refine mem_load_row (l := [_]) E 42 (by kernel_rfl) (.tmp 2) rfl rfl List.mem_cons_self Try.underlying42 rfl (by rw [arr_size]; kernel_rfl) ?_)
      | (go_at_call 22; refine (henc_any ok _).mono ?_; rintro e w1 ⟨p1, g1, c1, rfl, N1, hb⟩; have R1 := Lib.hid N1.row; replace E := Lib.hid (E.out.call hb); clear hb N1)
      | (go_at_call 11; refine (clone_any R1 (by omega)).mono ?_; rintro e w3 ⟨p2, g2, c2, rfl, N2, hb⟩; have K := Lib.hid (Work.start E.out N2 hb); clear hb N2 E)
      | (at_builtin; refine wpList_wapp (.inl rfl) (.tmp 13) (.tmp 14) rfl K rfl rfl (Lib.hid (RB.out.below K.out.mem.below)) (by omega) ?_; clear K; intro p3 g3 c3 w4 K; obtain rfl := K.out.own.row.head (by omega))
      | (go_at_call 23; refine (hdec_back ok.out (Lib.hid K.out.own.row) HX (by omega) (by omega)).mono ?_; rintro e w5 ⟨p4, g4, c4, rfl, R4', hb⟩; rw [Nat.add_sub_cancel_left] at R4'; have R4 := Lib.hid R4'; have EW := Lib.hid (K.out.mem.call hb); have E := Lib.hid (Mem.nil w5); clear hb R4' K)
      | (refine mem_alloc E 42 rfl rfl infoH ?_; clear E; intro b6 w6 E; simp only [arr_cells'] at E)
      | (refine mem_store_row 0 E 42 rfl _ _ rfl rfl rfl rfl (by kernel_rfl) (by simp only [arr_size]) (hc_one _) ?_; clear E; intro w7 E; simp only [List.set_cons_zero, List.set_cons_succ] at E)
      | (refine mem_load_row E 42 (by kernel_rfl) (.tmp 6) rfl rfl List.mem_cons_self Try.underlying42 rfl (by rw [arr_size]; kernel_rfl) ?_)
      | (refine mem_load_row (Lib.hid (EW.out.call E.out.below)) 42 (by kernel_rfl) (.tmp 2) rfl rfl List.mem_cons_self Try.underlying42 rfl (by rw [arr_size]; kernel_rfl) ?_)
      | (go_at_call 14; refine (equal_any (Lib.hid (R4.out.below E.out.below)) (Lib.hid (RB.out.below (EW.out.call E.out.below).below)) rfl HY).mono ?_; rintro e wq ⟨rfl, rfl⟩))
  go_ret
  exact ⟨rfl, (EW.out.call E.out.below).below⟩
theorem walk (W : World) (f0 : Hd) (w0 : f0.Ok) (a1 : Option Addr) (g1 o1 n1 c1 : Nat) (x1 : Nat → Nat) (R : Row W a1 g1 o1 n1 c1 x1) (hc' : c1 ≤ 140737488351232) :
    Calls Try.prog 8 #[.agg (arr 68 (hc f0)), .slice a1 n1 c1] W fun e w' => e = .returned (.bool true) ∧ Below W.heap.size W w' := by
  refine walk_any (Lib.hid w0) (Lib.hid R) (Nat.le_trans R.le hc') (Lib.hid fun i hi => ?_) (Lib.hid fun i hi => ?_)
  · unfold cat; rw [if_pos hi]
  · unfold cat
    rw [if_neg (by omega)]
    congr 1; omega

set_option maxRecDepth 100000 in
theorem lifted (os : Os) (started : os.Started) (H : Type) (enc : TypeId × Value → H) :
    ReturnsInHanded {} Try.checked os 8 .any (Rows.headerBackSpec.pre6 enc Try.prog Try.f8 Rows.headerBackRow.domain false) (Rows.headerBackSpec.post enc Try.prog Try.f8 false true false false) := by
  refine returnsInHanded_of_change_sized (C := Try.checked) own started (by kernel_rfl) Try.func8
    (ChangeSpec.witness6 (enc := enc) (C := Try.checked) false ⟨#[], #[.agg #[.int .u32 0, .int .u8 0, .int .u8 0, .int .u8 0, .int .u8 0, .int .u8 0, .int .u8 0, .int .u8 0, .int .u8 0, .int .u8 0, .int .u8 0, .int .u8 0, .int .u8 0, .int .u8 0, .int .u8 0, .int .u8 0, .int .u8 0, .int .u8 0, .int .u8 0, .int .u8 0, .int .u8 0, .int .u8 0, .int .u8 0, .int .u8 0, .int .u8 0, .int .u8 0, .int .u8 0, .int .u8 0, .int .u8 0, .int .u8 0, .int .u8 0, .int .u8 0, .int .u8 0, .int .u8 0, .int .u8 0, .int .u8 0, .int .u8 0, .int .u8 0, .int .u8 0, .int .u8 0, .int .u8 0, .int .u8 0, .int .u8 0, .int .u8 0, .int .u8 0, .int .u8 0, .int .u8 0, .int .u8 0, .int .u8 0, .int .u8 0, .int .u8 0, .int .u8 0, .int .u8 0, .int .u8 0, .int .u8 0, .int .u8 0, .int .u8 0, .int .u8 0, .int .u8 0, .int .u8 0, .int .u8 0, .int .u8 0, .int .u8 0, .int .u8 0, .int .u8 0, .int .u32 0, .int .u32 0, .int .u32 0], .slice none 0 0], []⟩ 8 (by kernel_rfl) (by kernel_rfl) (by kernel_rfl) (by kernel_rfl)) ?_
  intro W base args ds gs before hval0 hW hcnd hsz0 _
  have hval : ∀ (j : Nat) t v, Try.f8.params[j]? = some t → args[j]? = some v → Value.okWide Try.prog W .any base t v := hval0
  have hsz : (DataW.weightsEach Try.prog (Try.f8.params.toList ++ Rows.headerBackSpec.plain.varTypes Try.prog) (ds ++ gs)).all (· ≤ reachBytes) = true := hsz0
  have hW' := hW
  obtain ⟨p, q, hA0, hV, rfl, hfz, hnd⟩ := hW
  have hA : DataW.TrodAll enc Try.prog W 0 (fun _ => true) true Try.f8.params.toList args.toList ds p := hA0
  rw [Try.params8] at hA hval hsz
  obtain ⟨v0, vs0, d0, ds0, p0, q0, hargs, rfl, rfl, h0, r0⟩ := trodAll_cons hA
  obtain ⟨v1, vs1, d1, ds1, p1, q1, rfl, rfl, rfl, h1, r1⟩ := trodAll_cons r0
  obtain ⟨rfl, rfl, rfl⟩ := trodAll_nil r1
  obtain rfl : args = #[v0, v1] := by cases args; simp_all
  obtain ⟨rfl, rfl⟩ := trodVars_none hV
  have k0 := h0
  have lt0 : ∀ x ∈ p0, x.block < W.heap.size := by obtain ⟨m, hm⟩ := k0; exact DataW.trod_lt m _ _ _ hm
  obtain ⟨f0, rfl, w0⟩ := open_hdr (hval 0 42 v0 rfl rfl) h0
  have k1 := h1
  have lt1 : ∀ x ∈ p1, x.block < W.heap.size := by obtain ⟨m, hm⟩ := k1; exact DataW.trod_lt m _ _ _ hm
  obtain ⟨a1, g1, o1, n1, c1, x1, rfl, w1, m1⟩ := open_row (j := 1) (hval 1 23 v1 rfl rfl) h1 hsz rfl rfl
  clear hA0 hval0 hsz0
  simp only [List.append_nil] at hW'
  refine (walk W f0 w0 a1 g1 o1 n1 c1 x1 w1 m1).mono fun e W' ⟨he, bel⟩ => ?_
  subst he
  exact ⟨_, rfl, _, _, _, [], _, [], hW', trodAll_mk1 (shut_bool Try.underlying4 _), (trodAll_cons_mk (Below.trod laidOut (by kernel_rfl) (of_decide_eq_true (by kernel_rfl)) k0 bel lt0) (trodAll_cons_mk (Below.trod laidOut (by kernel_rfl) (of_decide_eq_true (by kernel_rfl)) k1 bel lt1) trodAll_mk0)), rfl, bel.frame _, fun h => by cases h⟩

theorem over : Rows.headerBackRow.holds Try.pinned (OpenSpec.ofChange Rows.headerBackSpec) :=
  OpenClaim.holds_of_wide 8 Try.f8 rfl rfl rfl rfl rfl rfl rfl ⟨rfl, rfl, rfl, rfl, rfl⟩ rfl rfl rfl rfl rfl (by kernel_rfl) Try.func8 (by kernel_rfl)
    (of_decide_eq_true (by kernel_rfl)) (by unfold Func.isWrapper; first | (rw [if_pos (by decide +kernel)]; kernel_rfl) | (rw [if_neg (by decide +kernel)]; exact ⟨rfl, rfl⟩))
    (fun os started H enc _ => lifted os started H enc)

/-- The statement. -/
theorem proved : Rows.HeaderBackSaid :=
  over
#print axioms proved
end Go.Proofs.Ythnddiimkgahgaa.headerBack
