/- For every frame (any bytes as its command, any payload, nil too): the bytes and the error are the document's; a small frame is written, and its sum is the one that the document tells; the call returns true. The two tables of package sha are laid as the program's text lays them; the card ties them to that text. No other condition. -/
import Derived.Test.YtjlefbkcjccjkaaDoorFz
import Derived.Test.YtjlefbkcjccjkaaDoorTie
import Derived.Test.YtjlefbkcjccjkaaDoorCards
import Derived.ShutString
import Derived.ChangeOld
import Derived.Below
import Derived.SevenTiedAt
set_option linter.unusedVariables false
set_option linter.unusedSimpArgs false
namespace Go.Proofs.YtjlefbkcjccjkaaDoor.frameWrites
open Go.ChangeShapes Go.WideShapes Go.ChangeAt Go.RowKit Go.Lib Go.Sort Go.Proofs.YtjlefbkcjccjkaaDoor

def frL (s : ByteArray) (t : List Nat) : List Nat := if isCom (sb s) s.size = true then if t.length ≤ 200000 then frB (stB s) t else [] else []
def frE (s : ByteArray) (t : List Nat) : Int := if isCom (sb s) s.size = true then if t.length ≤ 200000 then 0 else 91 else 1
theorem frEnc_row {W : World} {s : ByteArray} {t : List Nat} {e : Ending} {w' : World} (h : FrEnc W s t e w') : ∃ p g c, e = .returned (.tuple #[.slice p (frL s t).length c, .int .i64 (frE s t)]) ∧ Row w' p g 0 (frL s t).length c (lf (frL s t)) ∧ Below W.heap.size W w' := by
  unfold FrEnc at h
  by_cases hc : isCom (sb s) s.size = true
  · by_cases hl : t.length ≤ 200000
    · rw [if_pos hc, if_pos hl] at h
      have e1 : frL s t = frB (stB s) t := by unfold frL; rw [if_pos hc, if_pos hl]
      have e2 : frE s t = 0 := by unfold frE; rw [if_pos hc, if_pos hl]
      rw [e1, e2]
      obtain ⟨p, g, c, rfl, N, hb⟩ := h
      exact ⟨p, g, c, rfl, N.row, hb⟩
    · rw [if_pos hc, if_neg hl] at h
      have e1 : frL s t = [] := by unfold frL; rw [if_pos hc, if_neg hl]
      have e2 : frE s t = 91 := by unfold frE; rw [if_pos hc, if_neg hl]
      rw [e1, e2]
      obtain ⟨rfl, hb⟩ := h
      exact ⟨none, 0, 0, rfl, Row.nothing _ _ (lf_lt isB_nil), hb⟩
  · rw [if_neg hc] at h
    have e1 : frL s t = [] := by unfold frL; rw [if_neg hc]
    have e2 : frE s t = 1 := by unfold frE; rw [if_neg hc]
    rw [e1, e2]
    obtain ⟨rfl, hb⟩ := h
    exact ⟨none, 0, 0, rfl, Row.nothing _ _ (lf_lt isB_nil), hb⟩
set_option maxRecDepth 100000 in
set_option maxHeartbeats 8000000 in
theorem walk (W : World) (hL : laidMetH Tryd.prog S.shaLaid W) (s : ByteArray) (f : Value) (t : List Nat) (hs : s.size ≤ 140737488355328) (w0 : TextAt W f t) :
    Calls Tryd.prog 8 #[.agg #[.string s, f]] W fun e w' => e = .returned (.bool true) ∧ Below W.heap.size W w' := by
  have KL := Lib.hid (show S.Both W from S.of_sha hL)
  have E := Lib.hid (Mem.nil W)
  obtain ⟨n, hn⟩ : ∃ n, n = (frL s t).length := ⟨_, rfl⟩
  obtain ⟨x, hx⟩ : ∃ x, x = lf (frL s t) := ⟨_, rfl⟩
  obtain ⟨er, he⟩ : ∃ er, er = frE s t := ⟨_, rfl⟩
  have C1 := Lib.hid (show ∀ w', Below W.heap.size W w' → Calls Tryd.prog 41 #[.agg #[.string s, f]] w' fun e w'' => ∃ p g c, e = .returned (.tuple #[.slice p n c, .int .i64 er]) ∧ Row w'' p g 0 n c x ∧ Below w'.heap.size w' w'' from fun w' hb => by
    rw [hn, hx, he]
    exact (frenc_any hs (Lib.hid (w0.below hb)) (Lib.hid (KL.out.below hb))).mono fun e w'' h => frEnc_row h)
  have C2 := Lib.hid (show ∀ w', Below W.heap.size W w' → Calls Tryd.prog 42 #[.agg #[.string s, f]] w' fun e w'' => ∃ p g c, e = .returned (.tuple #[.slice p n c, .int .i64 er]) ∧ Row w'' p g 0 n c x ∧ Below w'.heap.size w' w'' from fun w' hb => by
    rw [hn, hx, he]
    exact (rfrenc_any hs (Lib.hid (w0.below hb))).mono fun e w'' h => frEnc_row h)
  have AW := Lib.hid (show ∀ w', Below W.heap.size W w' → Calls Tryd.prog 40 #[] w' fun e w'' => e = .returned (.bool true) ∧ Below w'.heap.size w' w'' from fun w' hb => awake9_any w' (Lib.hid (KL.out.below hb)))
  have CS : (Value.agg #[.string s, f]).cells = #[.string s, f] := rfl
  clear hn hx he w0 hL KL hs
  go_enter Tryd.func8, Tryd.ntmps8
  go_wp2_with (first
    | (refine mem_box E 74 rfl _ rfl rfl CS ?_; clear E; intro b1 w1 E)
    | (refine mem_load_row E 74 rfl (.tmp 1) rfl rfl List.mem_cons_self Tryd.underlying74 rfl (by kernel_rfl) ?_)
    | (go_at_call 41; refine (C1.out _ E.out.below).mono ?_; rintro e w2 ⟨p2, g2, c2, rfl, R, hb⟩; replace E := Lib.hid (E.out.call hb); have R2 := Lib.hid R; clear hb R)
    | (go_at_call 42; refine (C2.out _ E.out.below).mono ?_; rintro e w3 ⟨p3, g3, c3, rfl, R, hb⟩; replace E := Lib.hid (E.out.call hb); replace R2 := Lib.hid (R2.out.below hb); have R3 := Lib.hid R; clear hb R)
    | (go_at_call 20; refine (equal_any R2 R3 rfl (Lib.hid fun _ _ => rfl)).mono ?_; rintro e w4 ⟨rfl, rfl⟩)
    | (go_at_call 40; refine (AW.out _ E.out.below).mono ?_; rintro e w5 ⟨rfl, hb⟩; replace E := Lib.hid (E.out.call hb); clear hb))
  go_ret
  exact ⟨rfl, E.out.below⟩

set_option maxRecDepth 100000 in
theorem lifted (os : Os) (started : os.Started) (H : Type) (enc : TypeId × Value → H) :
    ReturnsInHanded {} Tryd.checked os 8 .any (fun w args => (Rows.frameWritesSpec.pre enc Tryd.prog Tryd.f8 [] false w args ∧ laidMetH Tryd.prog S.shaLaid w) ∧ sizedMet enc Tryd.prog Tryd.f8 (OpenSpec.ofChange Rows.frameWritesSpec) false w args)
      (Rows.frameWritesSpec.post enc Tryd.prog Tryd.f8 false true false false) := by
  refine returnsInHanded_of_change_and (C := Tryd.checked) (X := fun w _ => laidMetH Tryd.prog S.shaLaid w) (fun _ _ _ hh h => h.of_heap hh) own started (by kernel_rfl) Tryd.func8
    (ChangeSpec.witness_shaped (enc := enc) (C := Tryd.checked) (os := os) (X := fun w _ => laidMetH Tryd.prog S.shaLaid w) false (World.doorLaid Tryd.prog 400 os) #[.agg #[.string ⟨#[]⟩, .slice none 0 0]] 8 rfl (World.shaped_of_RefB (by kernel_rfl) (by kernel_rfl)) (by kernel_rfl) (by kernel_rfl) (by kernel_rfl) (S.sha_door_met os _)) ?_
  intro W base args ds gs before hval0 hW _ hsz0 hL _
  have hval : ∀ (j : Nat) t v, Tryd.f8.params[j]? = some t → args[j]? = some v → Value.okWide Tryd.prog W .any base t v := hval0
  have hsz : (DataW.weightsEach Tryd.prog (Tryd.f8.params.toList ++ Rows.frameWritesSpec.plain.varTypes Tryd.prog) (ds ++ gs)).all (· ≤ reachBytes) = true := hsz0
  have hW' := hW
  obtain ⟨p, q, hA0, hV, rfl, hfz, hnd⟩ := hW
  have hA : DataW.TrodAll enc Tryd.prog W 0 (fun _ => true) true Tryd.f8.params.toList args.toList ds p := hA0
  rw [Tryd.params8] at hA hval hsz
  obtain ⟨v0, vs0, d0, ds0, p0, q0, hargs, rfl, rfl, h0, r0⟩ := trodAll_cons hA
  obtain ⟨rfl, rfl, rfl⟩ := trodAll_nil r0
  obtain rfl : args = #[v0] := by cases args; simp_all
  obtain ⟨rfl, rfl⟩ := trodVars_none hV
  have k0 := h0
  have lt0 : ∀ x ∈ p0, x.block < W.heap.size := by obtain ⟨m, hm⟩ := k0; exact DataW.trod_lt m _ _ _ hm
  obtain ⟨s0, f0, t0, rfl, s_0, w0⟩ := open_frame (j := 0) (hval 0 74 v0 rfl rfl) h0 hsz rfl rfl
  clear hA0 hval0 hsz0
  simp only [List.append_nil] at hW'
  refine (walk W hL s0 f0 t0 s_0 w0).mono fun e W' ⟨he, bel⟩ => ?_
  subst he
  exact ⟨_, rfl, _, _, _, [], _, [], hW', trodAll_mk1 (shut_bool Tryd.underlying4 _), (trodAll_cons_mk (Below.trod laidOut (by kernel_rfl) (of_decide_eq_true (by kernel_rfl)) k0 bel lt0) trodAll_mk0), rfl, bel.frame _, fun h => by cases h⟩

theorem over : Rows.FrameWritesSaid :=
  OpenClaim.holds_of_wide 8 Tryd.f8 rfl rfl rfl rfl rfl rfl rfl ⟨rfl, rfl, rfl, rfl, rfl⟩ rfl rfl rfl rfl rfl (by kernel_rfl) Tryd.func8 (by kernel_rfl)
    (of_decide_eq_true (by kernel_rfl)) (by unfold Func.isWrapper; first | (rw [if_pos (by decide +kernel)]; kernel_rfl) | (rw [if_neg (by decide +kernel)]; exact ⟨rfl, rfl⟩))
    (fun os started H enc _ => lifted os started H enc)

/-- The tied card. -/
theorem card_holds : Rows.FrameWritesCardSaid :=
  Claim7.holds_tied_plain_at .later [] [.data, .data] true (true, "5b03a9f238702c878a1ff18e05cfb6b5ab194a16e109cdc264953b441f38e295") true
    over (fun _ h => by cases h) (by kernel_rfl) (fun _ h => by cases h) frameWrites_row_tie rfl ⟨rfl, rfl⟩ (by kernel_rfl) rfl
    (fun f fn hf hfn => by
      obtain rfl : f = 8 := Option.some.inj ((show Tryd.prog.funcNamed "sporran/sporranlaw09.FrameWrites" = some 8 by kernel_rfl).symm.trans hf) |>.symm
      obtain rfl : fn = Tryd.f8 := (Option.some.inj (Tryd.func8.symm.trans hfn)).symm
      exact ⟨by kernel_rfl, fun j t ht => by
        rw [Tryd.params8] at ht
        have hm : t ∈ [74] := by simpa using Array.mem_of_getElem? ht
        have hall : ([74].all fun u => !Tryd.prog.wantsStandIn u) = true := by kernel_rfl
        exact (show Tryd.prog.wantsStandIn t = false by simpa using List.all_eq_true.1 hall t hm)⟩)
    (by kernel_rfl)
#print axioms card_holds
end Go.Proofs.YtjlefbkcjccjkaaDoor.frameWrites
