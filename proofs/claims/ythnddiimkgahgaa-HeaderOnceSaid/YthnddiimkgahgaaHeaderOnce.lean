/- For every slice of bytes (nil too): fewer than eighty are too short; else the header that they begin with, written, and what stands behind it, are these bytes; the call returns true. No condition. -/
import Derived.Test.YthnddiimkgahgaaHq
set_option linter.unusedSimpArgs false
set_option linter.unusedVariables false
namespace Go.Proofs.Ythnddiimkgahgaa.headerOnce
open Go.ChangeShapes Go.WideShapes Go.ChangeAt Go.RowKit Go.Lib Go.Proofs.Ythnddiimkgahgaa

theorem h0_ok : h0.Ok := ⟨by decide, by decide, by decide, by decide, fun _ => (by show (0 : Nat) < 256; decide), fun _ => (by show (0 : Nat) < 256; decide)⟩
set_option maxRecDepth 100000 in
set_option maxHeartbeats 4000000 in
theorem walk_short {W : World} {a0 : Option Addr} {n0 c0 : Nat} (h : n0 < 80) (ok : Hid h0.Ok) :
    Calls Try.prog 9 #[.slice a0 n0 c0] W fun e w' => e = .returned (.bool true) ∧ Below W.heap.size W w' := by
  have E := Lib.hid (Mem.nil W)
  have sm := same_hdr h0
  have zH := zeroH
  have t : decide (((n0 : Nat) : Int) < 80) = true := by simp; omega
  go_enter Try.func9, Try.ntmps9
  go_wp2_with (first
      | (go_at_call 23; refine (hdec_short h).mono ?_; rintro e w5 ⟨rfl, hb⟩; replace E := Lib.hid (E.out.call hb); clear hb)
      | (refine mem_alloc E 42 rfl rfl infoH ?_; clear E; intro b6 w6 E; simp only [arr_cells'] at E)
      | (refine mem_store_row 0 E 42 rfl _ _ rfl rfl rfl rfl (by kernel_rfl) (by simp only [arr_size]) (hc_one _) ?_; clear E; intro w7 E; simp only [List.set_cons_zero, List.set_cons_succ] at E)
      | (refine mem_load_row E 42 (by kernel_rfl) (.tmp 3) rfl rfl List.mem_cons_self Try.underlying42 rfl (by rw [arr_size]; kernel_rfl) ?_)
      | (go_at_call 22; refine (henc_any ok _).mono ?_; rintro e w1 ⟨p1, g1, c1, rfl, N1, hb⟩; replace E := Lib.hid (E.out.call hb); clear hb N1))
  go_ret
  exact ⟨rfl, E.out.below⟩
set_option maxRecDepth 100000 in
set_option maxHeartbeats 4000000 in
theorem walk_long {W : World} {g0 o0 n0 c0 : Nat} {x0 : Nat → Nat} (RB : Hid (Row W (some ⟨g0, o0, none⟩) g0 o0 n0 c0 x0)) (le : n0 ≤ 140737488351232) (h : 80 ≤ n0) (ok : Hid (hdOf x0).Ok)
    (HY : Hid (∀ i, i < n0 → cat (hb (hdOf x0)) 80 (fun i => x0 (80 + i)) i = x0 i)) :
    Calls Try.prog 9 #[.slice (some ⟨g0, o0, none⟩) n0 c0] W fun e w' => e = .returned (.bool true) ∧ Below W.heap.size W w' := by
  have E := Lib.hid (Mem.nil W)
  have t : decide (((n0 : Nat) : Int) < 80) = false := by simp; omega
  go_enter Try.func9, Try.ntmps9
  go_wp2_with (first
      | (go_at_call 23; refine (hdec_long RB h (by omega)).mono ?_; rintro e w5 ⟨p4, g4, c4, rfl, R4', hb⟩; have R4 := Lib.hid R4'; have BW := Lib.hid hb; clear E; have E := Lib.hid (Mem.nil w5); clear hb R4')
      | (refine mem_alloc E 42 rfl rfl infoH ?_; clear E; intro b6 w6 E; simp only [arr_cells'] at E)
      | (refine mem_store_row 0 E 42 rfl _ _ rfl rfl rfl rfl (by kernel_rfl) (by simp only [arr_size]) (hc_one _) ?_; clear E; intro w7 E; simp only [List.set_cons_zero, List.set_cons_succ] at E)
      | (refine mem_load_row E 42 (by kernel_rfl) (.tmp 3) rfl rfl List.mem_cons_self Try.underlying42 rfl (by rw [arr_size]; kernel_rfl) ?_)
      | (go_at_call 22; refine (henc_any ok _).mono ?_; rintro e w1 ⟨p1, g1, c1, rfl, N1, hb⟩; have K := Lib.hid (Work.start E.out N1 hb); clear hb N1 E)
      | (at_builtin; refine wpList_wapp (.inr (by kernel_rfl)) (.tmp 37) (.tmp 38) rfl K rfl rfl (Lib.hid (R4.out.below K.out.mem.below)) (by omega) ?_; clear K; intro p3 g3 c3 w4 K; rw [show 80 + (n0 - 80) = n0 from by omega] at K)
      | (go_at_call 14; refine (equal_any (Lib.hid K.out.own.row) (Lib.hid ((RB.out.below BW.out).below K.out.mem.below)) rfl HY).mono ?_; rintro e wq ⟨rfl, rfl⟩))
  go_ret
  exact ⟨rfl, BW.out.trans (K.out.mem.below.mono BW.out.size)⟩
theorem walk (W : World) (a0 : Option Addr) (g0 o0 n0 c0 : Nat) (x0 : Nat → Nat) (R : Row W a0 g0 o0 n0 c0 x0) (hc' : c0 ≤ 140737488351232) :
    Calls Try.prog 9 #[.slice a0 n0 c0] W fun e w' => e = .returned (.bool true) ∧ Below W.heap.size W w' := by
  by_cases h : n0 < 80
  · exact walk_short h (Lib.hid h0_ok)
  · obtain rfl := R.head (by omega)
    refine walk_long (Lib.hid R) (Nat.le_trans R.le hc') (by omega) (Lib.hid (hdOf_ok R.byte)) (Lib.hid fun i hi => ?_)
    unfold cat
    by_cases q : i < 80
    · rw [if_pos q]; exact hb_hdOf R.byte i q
    · rw [if_neg q]
      show x0 (80 + (i - 80)) = x0 i
      congr 1; omega

set_option maxRecDepth 100000 in
theorem lifted (os : Os) (started : os.Started) (H : Type) (enc : TypeId × Value → H) :
    ReturnsInHanded {} Try.checked os 9 .any (Rows.headerOnceSpec.pre6 enc Try.prog Try.f9 Rows.headerOnceRow.domain false) (Rows.headerOnceSpec.post enc Try.prog Try.f9 false true false false) := by
  refine returnsInHanded_of_change_sized (C := Try.checked) own started (by kernel_rfl) Try.func9
    (ChangeSpec.witness6 (enc := enc) (C := Try.checked) false ⟨#[], #[.slice none 0 0], []⟩ 8 (by kernel_rfl) (by kernel_rfl) (by kernel_rfl) (by kernel_rfl)) ?_
  intro W base args ds gs before hval0 hW hcnd hsz0 _
  have hval : ∀ (j : Nat) t v, Try.f9.params[j]? = some t → args[j]? = some v → Value.okWide Try.prog W .any base t v := hval0
  have hsz : (DataW.weightsEach Try.prog (Try.f9.params.toList ++ Rows.headerOnceSpec.plain.varTypes Try.prog) (ds ++ gs)).all (· ≤ reachBytes) = true := hsz0
  have hW' := hW
  obtain ⟨p, q, hA0, hV, rfl, hfz, hnd⟩ := hW
  have hA : DataW.TrodAll enc Try.prog W 0 (fun _ => true) true Try.f9.params.toList args.toList ds p := hA0
  rw [Try.params9] at hA hval hsz
  obtain ⟨v0, vs0, d0, ds0, p0, q0, hargs, rfl, rfl, h0, r0⟩ := trodAll_cons hA
  obtain ⟨rfl, rfl, rfl⟩ := trodAll_nil r0
  obtain rfl : args = #[v0] := by cases args; simp_all
  obtain ⟨rfl, rfl⟩ := trodVars_none hV
  have k0 := h0
  have lt0 : ∀ x ∈ p0, x.block < W.heap.size := by obtain ⟨m, hm⟩ := k0; exact DataW.trod_lt m _ _ _ hm
  obtain ⟨a0, g0, o0, n0, c0, x0, rfl, w0, m0⟩ := open_row (j := 0) (hval 0 23 v0 rfl rfl) h0 hsz rfl rfl
  clear hA0 hval0 hsz0
  simp only [List.append_nil] at hW'
  refine (walk W a0 g0 o0 n0 c0 x0 w0 m0).mono fun e W' ⟨he, bel⟩ => ?_
  subst he
  exact ⟨_, rfl, _, _, _, [], _, [], hW', trodAll_mk1 (shut_bool Try.underlying4 _), (trodAll_cons_mk (Below.trod laidOut (by kernel_rfl) (of_decide_eq_true (by kernel_rfl)) k0 bel lt0) trodAll_mk0), rfl, bel.frame _, fun h => by cases h⟩

theorem over : Rows.headerOnceRow.holds Try.pinned (OpenSpec.ofChange Rows.headerOnceSpec) :=
  OpenClaim.holds_of_wide 9 Try.f9 rfl rfl rfl rfl rfl rfl rfl ⟨rfl, rfl, rfl, rfl, rfl⟩ rfl rfl rfl rfl rfl (by kernel_rfl) Try.func9 (by kernel_rfl)
    (of_decide_eq_true (by kernel_rfl)) (by unfold Func.isWrapper; first | (rw [if_pos (by decide +kernel)]; kernel_rfl) | (rw [if_neg (by decide +kernel)]; exact ⟨rfl, rfl⟩))
    (fun os started H enc _ => lifted os started H enc)

/-- The statement. -/
theorem proved : Rows.HeaderOnceSaid :=
  over
#print axioms proved
end Go.Proofs.Ythnddiimkgahgaa.headerOnce
