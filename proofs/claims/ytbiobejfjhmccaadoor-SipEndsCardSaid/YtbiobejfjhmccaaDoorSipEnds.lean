/- For every two words and every slice of bytes (nil too): the program's SipHash of these bytes, and of these with a byte 0 behind them, is the document's, and the call returns true. The four words of package sip are laid as the program's text lays them; the card ties them to that text. No other condition. -/
import Derived.Test.YtbiobejfjhmccaaDoorSipLaw
import Derived.Test.YtbiobejfjhmccaaDoorTie
import Derived.Test.YtbiobejfjhmccaaDoorCards
import Derived.ShutString
import Derived.ChangeOld
import Derived.Below
import Derived.SevenTiedAt
namespace Go.Proofs.YtbiobejfjhmccaaDoor.sipEnds
open Go.ChangeShapes Go.WideShapes Go.ChangeAt Go.RowKit Go.Lib
set_option linter.unusedVariables false

theorem own_block {w : World} {base n : Nat} {v : Value} {xs : List Value} (h : w.ownsRow base 5 1 v n xs) (k : Nat) (hk : v.ownBlock = some k) : base ≤ k := by
  obtain ⟨_, h⟩ := h
  rcases h with ⟨rfl, _⟩ | ⟨g, cap, cur, rfl, hg, _⟩
  · simp [Value.ownBlock] at hk
  · simp [Value.ownBlock] at hk; omega

set_option maxHeartbeats 2000000 in
theorem walk_some (k0 k1 : Int) (a : Addr) (g o n c : Nat) (x : Nat → Int) (w : World) (h : IsBytes w (.slice (some a) n c) (some a) g o n c x) (hs : SipLaid w) :
    Calls Tryd.prog 9 #[.int .u64 k0, .int .u64 k1, .slice (some a) n c] w fun e w' => e = .returned (.bool true) ∧ Below w.heap.size w w' := by
  obtain ⟨i0, hi, hz0, hz1, hz2⟩ := info_parts info5
  obtain ⟨_, lies, byte, le, reach, _⟩ := h
  have cl : ∀ j, j < n → w.cell? (a.add j) = some (.int .u8 (x j)) := by
    intro j hj
    obtain ⟨rfl⟩ := lies.1 (by omega)
    rw [add_at]
    exact lies.2 j hj
  have LI := Lib.hid lies
  have BY := Lib.hid byte
  have BM := Lib.hid (more_range x n 0 byte ⟨Int.le_refl 0, (by decide : (0 : Int) ≤ 255)⟩)
  have CL := Lib.hid cl
  have SL := Lib.hid hs
  clear lies byte cl hs
  go_enter Tryd.func9, Tryd.ntmps9
  go_upto_region 1 with fail
  go_cut [7] (fun s7 wx => ∃ p1 g1 c1, s7 = .slice p1 (n + 1) c1 ∧ n + 1 ≤ c1 ∧ c1 ≤ maxLen ∧ Lies wx p1 g1 0 (n + 1) (more x n 0) ∧ Below w.heap.size w wx)
  case first =>
    go_wp2_with (first
      | (go_at_call 10; refine (clone_own a n c x _ (by omega) CL.out).mono ?_; rintro e w1 ⟨v, rfl, ho, hb, hv⟩)
      | (at_builtin; refine wpList_append_own _ rfl (.tmp 9) (.tmp 10) 22 rfl w.heap.size 5 i0 (.int .u8 0) 1 1 Tryd.underlying22 hi hz0 hz1 hz2 rfl (by decide) _ _ _ rfl (ho.alloc _) ⟨w1.heap.size, 0, none⟩ 1 1 [.int .u8 0] rfl rfl ?c1 ?c2 ?c3 ?c4 ?c5 ?_))
    case c1 =>
      intro j u hu
      match j, hu with
      | 0, hu =>
        obtain rfl : u = .int .u8 0 := by simpa using hu.symm
        rw [add_at]
        exact cell_of_here (here_new w1 _ _) 0 rfl
      | (j + 1), hu => simp at hu
    case c2 => intro u hu; obtain rfl : u = .int .u8 0 := by simpa using hu
               rfl
    case c3 => unfold maxLen; omega
    case c4 => omega
    case c5 => have := hb.size; simp; omega
    intro v' w2 ho2 hg2 hv2
    have HO := Lib.hid ho2
    have HG := Lib.hid hg2
    have HN := Lib.hid hv2
    clear ho2 hg2 hv2
    go_wp2
    go_meet
    have hbel : Below w.heap.size w w2 := (hb.alloc hb.size _).grown HG.out (by have := hb.size; simp; omega) (own_block ho)
    have hown := HO.out
    rw [firstBytes_more] at hown
    obtain ⟨p1, g1, c1, he, h1, h2, _, h3, _, _⟩ := copied_of_own (w := w) hown hbel (fun h => HN.out h)
    exact ⟨p1, g1, c1, by injection he, h1, h2, h3, hbel⟩
  case rest =>
    obtain ⟨p1, g1, c1, rfl, hn1, hm1, hl1, hb1⟩ := hcut
    obtain ⟨w1, rfl⟩ : ∃ w1 : World, w1 = wc := ⟨_, rfl⟩
    go_wp2_with (first
      | (go_at_call 20; first
          | ((with_reducible refine (sip_lies k0 k1 p1 g1 0 (n + 1) c1 (more x n 0) hm1 hn1 BM.out _ hl1 (SL.out.below hb1)).mono ?_); rintro e w2 ⟨rfl, hb2⟩)
          | ((with_reducible refine (sip_lies k0 k1 (some a) g o n c x (by unfold maxLen; omega) le BY.out _ (((LI.out.below hb1).below hb2).below hb3) (((SL.out.below hb1).below hb2).below hb3)).mono ?_); rintro e w4 ⟨rfl, hb4⟩))
      | (go_at_call 21; first
          | ((with_reducible refine (ref_sip_lies k0 k1 p1 g1 0 (n + 1) c1 (more x n 0) hm1 hn1 BM.out _ (hl1.below hb2)).mono ?_); rintro e w3 ⟨rfl, hb3⟩)
          | ((with_reducible refine (ref_sip_lies k0 k1 (some a) g o n c x (by unfold maxLen; omega) le BY.out _ ((((LI.out.below hb1).below hb2).below hb3).below hb4)).mono ?_); rintro e w5 ⟨rfl, hb5⟩))
      | (go_at_call 22; refine (scale_quarter _).mono ?_; rintro e w' ⟨rfl, rfl⟩))
    go_ret
    exact ⟨rfl, hb1.trans ((hb2.mono hb1.size).trans ((hb3.mono (Nat.le_trans hb1.size hb2.size)).trans ((hb4.mono (Nat.le_trans hb1.size (Nat.le_trans hb2.size hb3.size))).trans (hb5.mono (Nat.le_trans hb1.size (Nat.le_trans hb2.size (Nat.le_trans hb3.size hb4.size)))))))⟩

set_option maxHeartbeats 2000000 in
theorem walk_none (k0 k1 : Int) (w : World) (hs : SipLaid w) :
    Calls Tryd.prog 9 #[.int .u64 k0, .int .u64 k1, .slice none 0 0] w fun e w' => e = .returned (.bool true) ∧ Below w.heap.size w w' := by
  obtain ⟨i0, hi, hz0, hz1, hz2⟩ := info_parts info5
  have lies : Lies w none 0 0 0 (fun _ => 0) := ⟨fun h => absurd h (by omega), fun i hi => absurd hi (by omega)⟩
  have byte : ∀ i : Nat, 0 ≤ (fun _ : Nat => (0 : Int)) i ∧ (fun _ : Nat => (0 : Int)) i ≤ 255 := fun _ => ⟨Int.le_refl 0, (by decide : (0 : Int) ≤ 255)⟩
  have LI := Lib.hid lies
  have BY := Lib.hid byte
  have BM := Lib.hid (more_range (fun _ => 0) 0 0 byte ⟨Int.le_refl 0, (by decide : (0 : Int) ≤ 255)⟩)
  have SL := Lib.hid hs
  have hnone : ∀ w : World, w.ownsRow w.heap.size 5 1 (.slice none 0 0) 0 [] := fun w => ⟨rfl, .inl ⟨rfl, rfl⟩⟩
  have HNO := Lib.hid hnone
  clear lies byte hs hnone
  go_enter Tryd.func9, Tryd.ntmps9
  go_upto_region 1 with fail
  go_cut [7] (fun s7 wx => ∃ p1 g1 c1, s7 = .slice p1 (0 + 1) c1 ∧ 0 + 1 ≤ c1 ∧ c1 ≤ maxLen ∧ Lies wx p1 g1 0 (0 + 1) (more (fun _ => 0) 0 0) ∧ Below w.heap.size w wx)
  case first =>
    go_wp2_with (first
      | (go_at_call 10; refine (clone_none _).mono ?_; rintro e w1 ⟨rfl, rfl⟩)
      | (at_builtin; refine wpList_append_own _ rfl (.tmp 9) (.tmp 10) 22 rfl w.heap.size 5 i0 (.int .u8 0) 1 1 Tryd.underlying22 hi hz0 hz1 hz2 rfl (by decide) _ _ _ rfl ((HNO.out w).alloc _) ⟨w.heap.size, 0, none⟩ 1 1 [.int .u8 0] rfl rfl ?c1 ?c2 ?c3 ?c4 ?c5 ?_))
    case c1 =>
      intro j u hu
      match j, hu with
      | 0, hu =>
        obtain rfl : u = .int .u8 0 := by simpa using hu.symm
        rw [add_at]
        exact cell_of_here (here_new w _ _) 0 rfl
      | (j + 1), hu => simp at hu
    case c2 => intro u hu; obtain rfl : u = .int .u8 0 := by simpa using hu
               rfl
    case c3 => unfold maxLen; omega
    case c4 => omega
    case c5 => simp
    intro v' w2 ho2 hg2 hv2
    have HO := Lib.hid ho2
    have HG := Lib.hid hg2
    have HN := Lib.hid hv2
    clear ho2 hg2 hv2
    go_wp2
    go_meet
    have hbel : Below w.heap.size w w2 := ((Below.refl _ _).alloc (Nat.le_refl _) _).grown HG.out (by simp) (own_block (HNO.out w))
    have hown : w2.ownsRow w.heap.size 5 1 v' (0 + 1) (firstBytes (fun _ => 0) 0 ++ [.int .u8 0]) := by simpa [firstBytes] using HO.out
    rw [firstBytes_more] at hown
    obtain ⟨p1, g1, c1, he, h1, h2, _, h3, _, _⟩ := copied_of_own (w := w) hown hbel (fun h => HN.out h)
    exact ⟨p1, g1, c1, by injection he, h1, h2, h3, hbel⟩
  case rest =>
    obtain ⟨p1, g1, c1, rfl, hn1, hm1, hl1, hb1⟩ := hcut
    obtain ⟨w1, rfl⟩ : ∃ w1 : World, w1 = wc := ⟨_, rfl⟩
    go_wp2_with (first
      | (go_at_call 20; first
          | ((with_reducible refine (sip_lies k0 k1 p1 g1 0 (0 + 1) c1 (more (fun _ => 0) 0 0) hm1 hn1 BM.out _ hl1 (SL.out.below hb1)).mono ?_); rintro e w2 ⟨rfl, hb2⟩)
          | ((with_reducible refine (sip_lies k0 k1 none 0 0 0 0 (fun _ => 0) (by unfold maxLen; omega) (Nat.le_refl _) BY.out _ (((LI.out.below hb1).below hb2).below hb3) (((SL.out.below hb1).below hb2).below hb3)).mono ?_); rintro e w4 ⟨rfl, hb4⟩))
      | (go_at_call 21; first
          | ((with_reducible refine (ref_sip_lies k0 k1 p1 g1 0 (0 + 1) c1 (more (fun _ => 0) 0 0) hm1 hn1 BM.out _ (hl1.below hb2)).mono ?_); rintro e w3 ⟨rfl, hb3⟩)
          | ((with_reducible refine (ref_sip_lies k0 k1 none 0 0 0 0 (fun _ => 0) (by unfold maxLen; omega) (Nat.le_refl _) BY.out _ ((((LI.out.below hb1).below hb2).below hb3).below hb4)).mono ?_); rintro e w5 ⟨rfl, hb5⟩))
      | (go_at_call 22; refine (scale_quarter _).mono ?_; rintro e w' ⟨rfl, rfl⟩))
    go_ret
    exact ⟨rfl, hb1.trans ((hb2.mono hb1.size).trans ((hb3.mono (Nat.le_trans hb1.size hb2.size)).trans ((hb4.mono (Nat.le_trans hb1.size (Nat.le_trans hb2.size hb3.size))).trans (hb5.mono (Nat.le_trans hb1.size (Nat.le_trans hb2.size (Nat.le_trans hb3.size hb4.size)))))))⟩

theorem walk (a0 : Int) (_ : (Lit.int .u64 a0).wf = true) (a1 : Int) (_ : (Lit.int .u64 a1).wf = true) (a : Option Addr) (g o n c : Nat) (x : Nat → Int) (w : World) (h : IsBytes w (.slice a n c) a g o n c x) (hL : laidMetH Tryd.prog sipLaid w) :
    Calls Tryd.prog 9 #[.int .u64 a0, .int .u64 a1, .slice a n c] w fun e w' => e = .returned (.bool true) ∧ Below w.heap.size w w' := by
  cases a with
  | none =>
    obtain ⟨rfl, rfl⟩ := h.nil rfl
    exact walk_none a0 a1 w (of_sip hL)
  | some a => exact walk_some a0 a1 a g o n c x w h (of_sip hL)

set_option maxRecDepth 100000 in
theorem lifted (os : Os) (started : os.Started) (H : Type) (enc : TypeId × Value → H) :
    ReturnsInHanded {} Tryd.checked os 9 .any (fun w args => (Rows.sipEndsSpec.pre enc Tryd.prog Tryd.f9 [] false w args ∧ laidMetH Tryd.prog sipLaid w) ∧ sizedMet enc Tryd.prog Tryd.f9 (OpenSpec.ofChange Rows.sipEndsSpec) false w args)
      (Rows.sipEndsSpec.post enc Tryd.prog Tryd.f9 false true false false) := by
  refine returnsInHanded_of_change_and (C := Tryd.checked) (X := fun w _ => laidMetH Tryd.prog sipLaid w) (fun _ _ _ hh h => h.of_heap hh) own started (by kernel_rfl) Tryd.func9
    (ChangeSpec.witness_shaped (enc := enc) (C := Tryd.checked) (os := os) (X := fun w _ => laidMetH Tryd.prog sipLaid w) false (World.doorLaid Tryd.prog 400 os) #[.int .u64 0, .int .u64 0, .slice none 0 0] 8 rfl (World.shaped_of_RefB (by kernel_rfl) (by kernel_rfl)) (by kernel_rfl) (by kernel_rfl) (by kernel_rfl) (sip_door_met os _)) ?_
  intro W base args ds gs before hval0 hW _ hsz0 hL _
  have hval : ∀ (j : Nat) t v, Tryd.f9.params[j]? = some t → args[j]? = some v → Value.okWide Tryd.prog W .any base t v := hval0
  have hsz : (DataW.weightsEach Tryd.prog (Tryd.f9.params.toList ++ Rows.sipEndsSpec.plain.varTypes Tryd.prog) (ds ++ gs)).all (· ≤ reachBytes) = true := hsz0
  have hW' := hW
  obtain ⟨p, q, hA0, hV, rfl, hfz, hnd⟩ := hW
  have hA : DataW.TrodAll enc Tryd.prog W 0 (fun _ => true) true Tryd.f9.params.toList args.toList ds p := hA0
  rw [Tryd.params9] at hA hval hsz
  obtain ⟨v0, vs0, d0, ds0, p0, q0, hargs, rfl, rfl, h0, r0⟩ := trodAll_cons hA
  obtain ⟨v1, vs1, d1, ds1, p1, q1, rfl, rfl, rfl, h1, r1⟩ := trodAll_cons r0
  obtain ⟨v2, vs2, d2, ds2, p2, q2, rfl, rfl, rfl, h2, r2⟩ := trodAll_cons r1
  obtain ⟨rfl, rfl, rfl⟩ := trodAll_nil r2
  obtain rfl : args = #[v0, v1, v2] := by cases args; simp_all
  obtain ⟨rfl, rfl⟩ := trodVars_none hV
  obtain ⟨a0, rfl, rfl, rfl, w0⟩ := open_int Tryd.underlying42 (hval 0 42 v0 rfl rfl) h0
  obtain ⟨a1, rfl, rfl, rfl, w1⟩ := open_int Tryd.underlying42 (hval 1 42 v1 rfl rfl) h1
  have k2 := h2
  have lt2 : ∀ x ∈ p2, x.block < W.heap.size := by obtain ⟨m, hm⟩ := k2; exact DataW.trod_lt m _ _ _ hm
  obtain ⟨a2, g2, o2, n2, c2, x2, w2⟩ := open_bytes (j := 2) (hval 2 22 v2 rfl rfl) h2 hsz rfl rfl
  obtain rfl := w2.form
  clear hA0 hval0 hsz0
  refine (walk a0 w0 a1 w1 a2 g2 o2 n2 c2 x2 W w2 hL).mono fun e W' ⟨he, bel⟩ => ?_
  subst he
  exact ⟨_, rfl, _, _, _, [], _, [], hW', trodAll_mk1 (shut_bool Tryd.underlying4 _), (trodAll_cons_mk (shut_int Tryd.underlying42 w0) (trodAll_cons_mk (shut_int Tryd.underlying42 w1) (trodAll_cons_mk (Below.trod laidOut (by kernel_rfl) (of_decide_eq_true (by kernel_rfl)) k2 bel lt2) trodAll_mk0))), rfl, bel.frame _, fun h => by cases h⟩

theorem over : Rows.SipEndsSaid :=
  OpenClaim.holds_of_wide 9 Tryd.f9 rfl rfl rfl rfl rfl rfl rfl ⟨rfl, rfl, rfl, rfl, rfl⟩ rfl rfl rfl rfl rfl (by kernel_rfl) Tryd.func9 (by kernel_rfl)
    (of_decide_eq_true (by kernel_rfl)) (by unfold Func.isWrapper; first | (rw [if_pos (by decide +kernel)]; kernel_rfl) | (rw [if_neg (by decide +kernel)]; exact ⟨rfl, rfl⟩))
    (fun os started H enc _ => lifted os started H enc)

/-- The tied card. -/
theorem card_holds : Rows.SipEndsCardSaid :=
  Claim7.holds_tied_plain_at .later [] [.data] true (true, "8bf501e6a99cedb24af6d1d4e089c80a65d2267ee2cfdf8541ccf78d031baa76") false
    over (fun _ h => by cases h) (by kernel_rfl) (fun _ h => by cases h) sipEnds_row_tie rfl ⟨rfl, rfl⟩ (by kernel_rfl) rfl
    (fun f fn hf hfn => by
      obtain rfl : f = 9 := Option.some.inj ((show Tryd.prog.funcNamed "sporran/sporranlaw02.SipEnds" = some 9 by kernel_rfl).symm.trans hf) |>.symm
      obtain rfl : fn = Tryd.f9 := (Option.some.inj (Tryd.func9.symm.trans hfn)).symm
      exact ⟨by kernel_rfl, fun j t ht => by
        rw [Tryd.params9] at ht
        have hm : t ∈ [42, 42, 22] := by simpa using Array.mem_of_getElem? ht
        have hall : ([42, 42, 22].all fun u => !Tryd.prog.wantsStandIn u) = true := by kernel_rfl
        exact (show Tryd.prog.wantsStandIn t = false by simpa using List.all_eq_true.1 hall t hm)⟩)
    (by kernel_rfl)
#print axioms card_holds
end Go.Proofs.YtbiobejfjhmccaaDoor.sipEnds
