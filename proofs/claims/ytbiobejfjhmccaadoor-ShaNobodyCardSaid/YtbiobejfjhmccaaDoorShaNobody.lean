/- For every slice of bytes (nil too): a hasher that no call made (nil, or a plain one) refuses the bytes, its sum is noughts, and the sum of the bytes is the document's. The two tables of package sha are laid as the program's text lays them; the card ties them to that text. No other condition. -/
import Derived.Test.YtbiobejfjhmccaaDoorSame
import Derived.Test.YtbiobejfjhmccaaDoorWrite
import Derived.Test.YtbiobejfjhmccaaDoorSipLaw
import Derived.Test.YtbiobejfjhmccaaDoorTie
import Derived.Test.YtbiobejfjhmccaaDoorCards
import Derived.ShutString
import Derived.ChangeOld
import Derived.Below
import Derived.SevenTiedAt
namespace Go.Proofs.YtbiobejfjhmccaaDoor.shaNobody
open Go.ChangeShapes Go.WideShapes Go.ChangeAt Go.RowKit Go.Lib
set_option linter.unusedVariables false

theorem zeros_lit : arr 32 zb = (#[.int .u8 0, .int .u8 0, .int .u8 0, .int .u8 0, .int .u8 0, .int .u8 0, .int .u8 0, .int .u8 0, .int .u8 0, .int .u8 0, .int .u8 0, .int .u8 0, .int .u8 0, .int .u8 0, .int .u8 0, .int .u8 0, .int .u8 0, .int .u8 0, .int .u8 0, .int .u8 0, .int .u8 0, .int .u8 0, .int .u8 0, .int .u8 0, .int .u8 0, .int .u8 0, .int .u8 0, .int .u8 0, .int .u8 0, .int .u8 0, .int .u8 0, .int .u8 0] : Array Value) := rfl
theorem zeros_same (w : World) : (Op.equalIn 10000 25 (.agg (arr 32 zb)) (.agg (#[.int .u8 0, .int .u8 0, .int .u8 0, .int .u8 0, .int .u8 0, .int .u8 0, .int .u8 0, .int .u8 0, .int .u8 0, .int .u8 0, .int .u8 0, .int .u8 0, .int .u8 0, .int .u8 0, .int .u8 0, .int .u8 0, .int .u8 0, .int .u8 0, .int .u8 0, .int .u8 0, .int .u8 0, .int .u8 0, .int .u8 0, .int .u8 0, .int .u8 0, .int .u8 0, .int .u8 0, .int .u8 0, .int .u8 0, .int .u8 0, .int .u8 0, .int .u8 0] : Array Value))).run Tryd.prog w = .ok true w := by
  rw [← zeros_lit]
  exact zb_same w
set_option maxHeartbeats 2000000 in
theorem walk_any (a : Option Addr) (g o n c : Nat) (x : Nat → Int) (w : World) (h : IsBytes w (.slice a n c) a g o n c x) (hs : Both w) :
    Calls Tryd.prog 7 #[.slice a n c] w fun e w' => e = .returned (.bool true) ∧ Below w.heap.size w w' := by
  obtain ⟨_, lies, byte, le, reach, nil⟩ := h
  have LI := Lib.hid lies
  have BY := Lib.hid byte
  have NI := Lib.hid nil
  have SL := Lib.hid hs
  have Z4 := z44
  clear lies byte hs nil
  go_enter Tryd.func7, Tryd.ntmps7
  go_upto_region 2 with fail
  have K : Hid (Below w.heap.size w ((w.alloc (.cells (arr 74 hzero) 44)).alloc (.cells #[.pointer none, .pointer (some ⟨w.heap.size, 0, none⟩)] 30)) ∧
      ((w.alloc (.cells (arr 74 hzero) 44)).alloc (.cells #[.pointer none, .pointer (some ⟨w.heap.size, 0, none⟩)] 30)).cell? ⟨w.heap.size + 1, 0, none⟩ = some (.pointer none) ∧
      ((w.alloc (.cells (arr 74 hzero) 44)).alloc (.cells #[.pointer none, .pointer (some ⟨w.heap.size, 0, none⟩)] 30)).cell? ⟨w.heap.size + 1, 1, none⟩ = some (.pointer (some ⟨w.heap.size, 0, none⟩)) ∧
      ((w.alloc (.cells (arr 74 hzero) 44)).alloc (.cells #[.pointer none, .pointer (some ⟨w.heap.size, 0, none⟩)] 30)).cell? ⟨w.heap.size, 0, none⟩ = some (.bool false)) := by
    have e : (w.alloc (.cells (arr 74 hzero) 44)).heap.size = w.heap.size + 1 := by simp
    have hn := here_new (w.alloc (.cells (arr 74 hzero) 44)) #[.pointer none, .pointer (some ⟨w.heap.size, 0, none⟩)] 30
    rw [e] at hn
    refine Lib.hid ⟨(below_new w _).trans ((below_new _ _).mono (by simp)), cell_of_here hn 0 rfl, cell_of_here hn 1 rfl, ?_⟩
    exact cell_alloc ((HasAt.new w hzero 74 44).cell 0 (by omega))
  generalize (w.alloc (.cells (arr 74 hzero) 44)).alloc (.cells #[.pointer none, .pointer (some ⟨w.heap.size, 0, none⟩)] 30) = w1 at *
  clear Z4
  go_wp2
  go_loopg [9] 2 (fun k i wr => ∃ q : Nat, q + k = 2 ∧ i = .int .i64 (q : Int) ∧ Below w1.heap.size w1 wr)
  case atStart => exact ⟨0, by omega, rfl, Below.refl _ _⟩
  case round =>
    obtain ⟨q, hq, rfl, hb⟩ := hrel
    have c0 : wr.cell? ⟨w.heap.size + 1, 0, none⟩ = some (.pointer none) := by rw [hb.cell (cell_lt K.out.2.1)]; exact K.out.2.1
    have c1 : wr.cell? ⟨w.heap.size + 1, 1, none⟩ = some (.pointer (some ⟨w.heap.size, 0, none⟩)) := by rw [hb.cell (cell_lt K.out.2.2.1)]; exact K.out.2.2.1
    have c2 : wr.cell? ⟨w.heap.size, 0, none⟩ = some (.bool false) := by rw [hb.cell (cell_lt K.out.2.2.2)]; exact K.out.2.2.2
    have H := Lib.hid hb
    have zs := zeros_same
    have W0 := Lib.hid (write_nil (.slice a n c) wr)
    have W1 := Lib.hid (write_unmade w.heap.size (.slice a n c) wr c2)
    have S0 := Lib.hid (hsum_nil wr)
    have S1 := Lib.hid (hsum_unmade w.heap.size wr c2)
    clear hb
    rcases (by omega : q = 0 ∨ q = 1 ∨ q = 2) with rfl | rfl | rfl
    · go_wp2_with (first
        | (go_at_call 17; with_reducible refine W0.out.mono ?_; rintro e w2 ⟨rfl, rfl⟩)
        | (go_at_call 19; with_reducible refine S0.out.mono ?_; rintro e w3 ⟨rfl, hb3⟩))
      go_roundg (gk - 1)
      case measure => omega
      case rel => exact ⟨1, by omega, by go_num, H.out.trans (hb3.mono H.out.size)⟩
    · go_wp2_with (first
        | (go_at_call 17; with_reducible refine W1.out.mono ?_; rintro e w2 ⟨rfl, rfl⟩)
        | (go_at_call 19; with_reducible refine S1.out.mono ?_; rintro e w3 ⟨rfl, hb3⟩))
      go_roundg (gk - 1)
      case measure => omega
      case rel => exact ⟨2, by omega, by go_num, H.out.trans (hb3.mono H.out.size)⟩
    · have hbw : Below w.heap.size w wr := K.out.1.trans (H.out.mono K.out.1.size)
      have T1 := Lib.hid (sum_any a g o n c x BY.out (by omega) le (by omega) wr (LI.out.below hbw) (SL.out.below hbw))
      have T2 : Hid (∀ wx, Lies wx a g o n x → Calls Tryd.prog 12 #[.slice a n c] wx fun e w' => e = .returned (.agg (arr 32 (sha x n))) ∧ Below wx.heap.size wx w') := Lib.hid (fun wx h => ref_sum_any a g o n c x BY.out (by omega) NI.out wx h)
      have HB := Lib.hid hbw
      have sm := sum_same x n
      clear hbw c0 c1 c2 W0 W1 S0 S1 zs
      go_wp2_with (first
        | (go_at_call 11; with_reducible refine T1.out.mono ?_; rintro e w2 ⟨rfl, hb2⟩)
        | (go_at_call 12; with_reducible refine (T2.out w2 ((LI.out.below HB.out).below hb2)).mono ?_; rintro e w3 ⟨rfl, hb3⟩))
      go_ret
      exact ⟨rfl, HB.out.trans ((hb2.trans (hb3.mono hb2.size)).mono HB.out.size)⟩

theorem walk (a : Option Addr) (g o n c : Nat) (x : Nat → Int) (w : World) (h : IsBytes w (.slice a n c) a g o n c x) (hL : laidMetH Tryd.prog shaLaid w) :
    Calls Tryd.prog 7 #[.slice a n c] w fun e w' => e = .returned (.bool true) ∧ Below w.heap.size w w' := walk_any a g o n c x w h (of_sha hL)

set_option maxRecDepth 100000 in
theorem lifted (os : Os) (started : os.Started) (H : Type) (enc : TypeId × Value → H) :
    ReturnsInHanded {} Tryd.checked os 7 .any (fun w args => (Rows.shaNobodySpec.pre enc Tryd.prog Tryd.f7 [] false w args ∧ laidMetH Tryd.prog shaLaid w) ∧ sizedMet enc Tryd.prog Tryd.f7 (OpenSpec.ofChange Rows.shaNobodySpec) false w args)
      (Rows.shaNobodySpec.post enc Tryd.prog Tryd.f7 false true false false) := by
  refine returnsInHanded_of_change_and (C := Tryd.checked) (X := fun w _ => laidMetH Tryd.prog shaLaid w) (fun _ _ _ hh h => h.of_heap hh) own started (by kernel_rfl) Tryd.func7
    (ChangeSpec.witness_shaped (enc := enc) (C := Tryd.checked) (os := os) (X := fun w _ => laidMetH Tryd.prog shaLaid w) false (World.doorLaid Tryd.prog 400 os) #[.slice none 0 0] 8 rfl (World.shaped_of_RefB (by kernel_rfl) (by kernel_rfl)) (by kernel_rfl) (by kernel_rfl) (by kernel_rfl) (sha_door_met os _)) ?_
  intro W base args ds gs before hval0 hW _ hsz0 hL _
  have hval : ∀ (j : Nat) t v, Tryd.f7.params[j]? = some t → args[j]? = some v → Value.okWide Tryd.prog W .any base t v := hval0
  have hsz : (DataW.weightsEach Tryd.prog (Tryd.f7.params.toList ++ Rows.shaNobodySpec.plain.varTypes Tryd.prog) (ds ++ gs)).all (· ≤ reachBytes) = true := hsz0
  have hW' := hW
  obtain ⟨p, q, hA0, hV, rfl, hfz, hnd⟩ := hW
  have hA : DataW.TrodAll enc Tryd.prog W 0 (fun _ => true) true Tryd.f7.params.toList args.toList ds p := hA0
  rw [Tryd.params7] at hA hval hsz
  obtain ⟨v0, vs0, d0, ds0, p0, q0, hargs, rfl, rfl, h0, r0⟩ := trodAll_cons hA
  obtain ⟨rfl, rfl, rfl⟩ := trodAll_nil r0
  obtain rfl : args = #[v0] := by cases args; simp_all
  obtain ⟨rfl, rfl⟩ := trodVars_none hV
  have k0 := h0
  have lt0 : ∀ x ∈ p0, x.block < W.heap.size := by obtain ⟨m, hm⟩ := k0; exact DataW.trod_lt m _ _ _ hm
  obtain ⟨a0, g0, o0, n0, c0, x0, w0⟩ := open_bytes (j := 0) (hval 0 22 v0 rfl rfl) h0 hsz rfl rfl
  obtain rfl := w0.form
  clear hA0 hval0 hsz0
  refine (walk a0 g0 o0 n0 c0 x0 W w0 hL).mono fun e W' ⟨he, bel⟩ => ?_
  subst he
  exact ⟨_, rfl, _, _, _, [], _, [], hW', trodAll_mk1 (shut_bool Tryd.underlying4 _), (trodAll_cons_mk (Below.trod laidOut (by kernel_rfl) (of_decide_eq_true (by kernel_rfl)) k0 bel lt0) trodAll_mk0), rfl, bel.frame _, fun h => by cases h⟩

theorem over : Rows.ShaNobodySaid :=
  OpenClaim.holds_of_wide 7 Tryd.f7 rfl rfl rfl rfl rfl rfl rfl ⟨rfl, rfl, rfl, rfl, rfl⟩ rfl rfl rfl rfl rfl (by kernel_rfl) Tryd.func7 (by kernel_rfl)
    (of_decide_eq_true (by kernel_rfl)) (by unfold Func.isWrapper; first | (rw [if_pos (by decide +kernel)]; kernel_rfl) | (rw [if_neg (by decide +kernel)]; exact ⟨rfl, rfl⟩))
    (fun os started H enc _ => lifted os started H enc)

/-- The tied card. -/
theorem card_holds : Rows.ShaNobodyCardSaid :=
  Claim7.holds_tied_plain_at .later [] [.data, .data] true (true, "8bf501e6a99cedb24af6d1d4e089c80a65d2267ee2cfdf8541ccf78d031baa76") false
    over (fun _ h => by cases h) (by kernel_rfl) (fun _ h => by cases h) shaNobody_row_tie rfl ⟨rfl, rfl⟩ (by kernel_rfl) rfl
    (fun f fn hf hfn => by
      obtain rfl : f = 7 := Option.some.inj ((show Tryd.prog.funcNamed "sporran/sporranlaw01.ShaNobody" = some 7 by kernel_rfl).symm.trans hf) |>.symm
      obtain rfl : fn = Tryd.f7 := (Option.some.inj (Tryd.func7.symm.trans hfn)).symm
      exact ⟨by kernel_rfl, fun j t ht => by
        rw [Tryd.params7] at ht
        have hm : t ∈ [22] := by simpa using Array.mem_of_getElem? ht
        have hall : ([22].all fun u => !Tryd.prog.wantsStandIn u) = true := by kernel_rfl
        exact (show Tryd.prog.wantsStandIn t = false by simpa using List.all_eq_true.1 hall t hm)⟩)
    (by kernel_rfl)
#print axioms card_holds
end Go.Proofs.YtbiobejfjhmccaaDoor.shaNobody
