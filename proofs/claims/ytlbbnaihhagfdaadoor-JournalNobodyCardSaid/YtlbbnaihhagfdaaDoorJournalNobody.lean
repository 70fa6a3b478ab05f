/- For every batch: a journal that no call made, the nil one and the plain one, answers the error for it, has no keys and no batches and has not halted; of a tape that no call made no journal is opened; the call returns true. The two tables of package sha are laid as the program's text lays them; the card ties them to that text. No other condition. -/
import Derived.Test.YtlbbnaihhagfdaaDoorTa1
import Derived.Test.YtlbbnaihhagfdaaDoorSMin
import Derived.Test.YtlbbnaihhagfdaaDoorBs
import Derived.Test.YtlbbnaihhagfdaaDoorOp
import Derived.Lib.SmallJoins
import Derived.Test.YtlbbnaihhagfdaaDoorTie
import Derived.Test.YtlbbnaihhagfdaaDoorCards
import Derived.ShutString
import Derived.ChangeOld
import Derived.Below
import Derived.SevenTiedAt
set_option linter.unusedVariables false
set_option linter.unusedSimpArgs false
namespace Go.Proofs.YtlbbnaihhagfdaaDoor.journalNobody
open Go.ChangeShapes Go.WideShapes Go.ChangeAt Go.RowKit Go.Lib Go.Sort Go.Proofs.YtlbbnaihhagfdaaDoor

set_option maxRecDepth 100000
theorem own' : ownKnob Tryd.prog.godebug = none := by kernel_rfl
/-- The nil journal, and a plain one. -/
def UnJ (w : World) (v : Value) : Prop := v = .pointer none ∨ ∃ b, v = .pointer (some ⟨b, 0, none⟩) ∧ w.heap[b]? = some (.cells #[.pointer none] 54 (0, 0))
theorem unj_below {w w' : World} {v : Value} (h : UnJ w v) (hb : Below w.heap.size w w') : UnJ w' v := by
  rcases h with h | ⟨b, h, hq⟩
  · exact .inl h
  · exact .inr ⟨b, h, by rw [hb.block b (heap_lt hq)]; exact hq⟩
theorem jmade_un {w : World} {v : Value} (h : UnJ w v) : Calls Tryd.prog 26 #[v] w fun e w' => e = .returned (.bool false) ∧ w = w' := by
  rcases h with rfl | ⟨b, rfl, hb⟩
  · go_enter Tryd.func26, Tryd.ntmps26
    go_wp2
    go_ret
    exact ⟨rfl, rfl⟩
  · have c0 := cell_of_here hb 0 (v := .pointer none) rfl
    clear hb
    go_enter Tryd.func26, Tryd.ntmps26
    go_wp2
    go_ret
    exact ⟨rfl, rfl⟩
set_option maxHeartbeats 4000000
section
variable {w : World} {v : Value}
theorem get_un (h : UnJ w v) (x : Value) : Calls Tryd.prog 17 #[v, x] w fun e w' => e = .returned (.tuple #[.slice none 0 0, .bool false]) ∧ w = w' := by
  have M := Lib.hid (jmade_un h)
  clear h
  go_enter Tryd.func17, Tryd.ntmps17
  go_wp2_with (go_at_call 26; refine M.out.mono ?_; rintro e w2 ⟨rfl, rfl⟩)
  go_ret2
  exact ⟨rfl, rfl⟩
theorem keys_un (h : UnJ w v) (x : Value) : Calls Tryd.prog 19 #[v, x] w fun e w' => e = .returned (.slice none 0 0) ∧ w = w' := by
  have M := Lib.hid (jmade_un h)
  clear h
  go_enter Tryd.func19, Tryd.ntmps19
  go_wp2_with (go_at_call 26; refine M.out.mono ?_; rintro e w2 ⟨rfl, rfl⟩)
  go_ret
  exact ⟨rfl, rfl⟩
theorem batches_un (h : UnJ w v)  : Calls Tryd.prog 13 #[v] w fun e w' => e = .returned (.int .i64 0) ∧ w = w' := by
  have M := Lib.hid (jmade_un h)
  clear h
  go_enter Tryd.func13, Tryd.ntmps13
  go_wp2_with (go_at_call 26; refine M.out.mono ?_; rintro e w2 ⟨rfl, rfl⟩)
  go_ret
  exact ⟨rfl, rfl⟩
theorem halted_un (h : UnJ w v)  : Calls Tryd.prog 20 #[v] w fun e w' => e = .returned (.bool false) ∧ w = w' := by
  have M := Lib.hid (jmade_un h)
  clear h
  go_enter Tryd.func20, Tryd.ntmps20
  go_wp2_with (go_at_call 26; refine M.out.mono ?_; rintro e w2 ⟨rfl, rfl⟩)
  go_ret
  exact ⟨rfl, rfl⟩
theorem commit_un (h : UnJ w v) (a b : Value) : Calls Tryd.prog 9 #[v, .agg #[a, b]] w fun e w' => e = .returned (.int .i64 2) ∧ Below w.heap.size w w' := by
  have E := Lib.hid (Mem.nil w)
  have HU := Lib.hid h
  clear h
  go_enter Tryd.func9, Tryd.ntmps9
  go_wp2_with (first
    | ((with_reducible refine wpList_at 3 rfl ?_); refine mem_box E 34 rfl _ rfl rfl (c := #[a, b]) rfl ?_; clear E; intro b1 w1 E; have M := Lib.hid (jmade_un (unj_below HU.out E.out.below)))
    | (go_at_call 26; refine M.out.mono ?_; rintro e w2 ⟨rfl, rfl⟩))
  go_ret
  exact ⟨rfl, E.out.below⟩
theorem open_un (h : UnT w v) : Calls Tryd.prog 8 #[v] w fun e w' => e = .returned (.tuple #[.pointer none, .int .i64 2]) ∧ w = w' := by
  have M := Lib.hid (cut_un h (.int .i64 (-1)))
  clear h
  go_enter Tryd.func8, Tryd.ntmps8
  go_wp2_with (go_at_call 24; refine M.out.mono ?_; rintro e w2 ⟨rfl, rfl⟩)
  go_ret2
  exact ⟨rfl, rfl⟩
end
theorem open_batch0 {H : Type} {enc : TypeId × Value → H} {W : World} {base : Nat} {v : Value} {d : DataW H} {p : List MemPlace}
    (hv : Value.okWide Tryd.prog W .any base 34 v) (hd : DataW.Trod enc Tryd.prog W 0 (fun _ => true) true 34 v d p) : ∃ (a b : Value), v = .agg #[a, b] := by
  obtain ⟨c0, c1, y0, y1, m, rfl, rfl, rfl, h0, h1⟩ := Joins.open_agg2 Tryd.underlying34 (by kernel_rfl) (by kernel_rfl) hv hd
  exact ⟨c0, c1, rfl⟩
theorem infoPT : (Tryd.prog.info? 24).map (fun i => (i.zero, i.size, i.bytes)) = some (some (.pointer none), 1, 8) := by kernel_rfl
theorem infoPJ : (Tryd.prog.info? 28).map (fun i => (i.zero, i.size, i.bytes)) = some (some (.pointer none), 1, 8) := by kernel_rfl
theorem built_t : Tryd.prog.built 58 (#[] : Array (Nat × Value)).toList = some #[.pointer none] := by kernel_rfl
theorem built_j : Tryd.prog.built 54 (#[] : Array (Nat × Value)).toList = some #[.pointer none] := by kernel_rfl
section
variable {ops : Array Oper} {rest : List Oper} {Q : Exit → Act → World → Prop} {op : Oper} {a : Act} {w w0 : World} {l : List (Nat × TypeId × Array Value)}
theorem wpList_knownN {P : Program} (hw : Region.wanted op (yielded ops a.tmps) = true) (v : Value) (w' : World) (hrun : (execOp a.eval op).run P w = .ok (.value v) w') (h : wpList P ops Q rest (a.put op.dst v) w') : wpList P ops Q (op :: rest) a w :=
  BigFrame.wpList_want hw fun _ hK => mo_known v w' hrun (hK _ _ h)
theorem mem_bsn (E : Hid (Mem w0 l w)) (hw : Region.wanted op (yielded ops a.tmps) = true) {S T m : Nat} (parts : Array (Nat × Operand)) (ho : op.op = .buildSlice S m parts) {ps : Array (Nat × Value)} (hp : (parts.map fun (i, y) => (i, a.eval y)) = ps) {cs : Array Value}
    (hr : ∀ w : World, (Instr.buildSlice S m ps).run Tryd.prog w = .ok (.slice (some ⟨w.heap.size, 0, none⟩) m m) (w.alloc (.cells cs T)))
    (k : ∀ b w', Hid (Mem w0 ((b, T, cs) :: l) w') → wpList Tryd.prog ops Q rest (a.put op.dst (.slice (some ⟨b, 0, none⟩) m m)) w') : wpList Tryd.prog ops Q (op :: rest) a w := by
  refine wpList_knownN hw _ _ ?_ (k _ _ (Lib.hid (E.out.new T _)))
  unfold execOp
  simp only [ho, hp, Sem.run_bind, hr w, Result.andThen_ok]
  rfl
theorem run_twoT (b : Nat) (w : World) : (Instr.buildSlice 59 2 #[(0, .pointer none), (1, .pointer (some ⟨b, 0, none⟩))]).run Tryd.prog w = .ok (.slice (some ⟨w.heap.size, 0, none⟩) 2 2) (w.alloc (.cells #[.pointer none, .pointer (some ⟨b, 0, none⟩)] 24)) := run_bs2v Tryd.underlying59 infoPT _ _ rfl rfl w
theorem run_twoJ (b : Nat) (w : World) : (Instr.buildSlice 55 2 #[(0, .pointer none), (1, .pointer (some ⟨b, 0, none⟩))]).run Tryd.prog w = .ok (.slice (some ⟨w.heap.size, 0, none⟩) 2 2) (w.alloc (.cells #[.pointer none, .pointer (some ⟨b, 0, none⟩)] 28)) := run_bs2v Tryd.underlying55 infoPJ _ _ rfl rfl w
end
set_option maxHeartbeats 8000000 in
theorem walk (W : World) (hL : laidMetH Tryd.prog S.shaLaid W) (a b : Value) :
    Calls Tryd.prog 6 #[.agg #[a, b]] W fun e w' => e = .returned (.bool true) ∧ Below W.heap.size W w' := by
  clear hL
  have E := Lib.hid (Mem.nil W)
  go_enter Tryd.func6, Tryd.ntmps6
  go_upto_region 1 with (first
    | ((with_reducible refine wpList_at 1 rfl ?_); refine mem_box E 34 rfl _ rfl rfl (c := #[a, b]) rfl ?_; clear E; intro b1 w1 E))
  go_upto_region 2 with (first
    | ((with_reducible refine wpList_at 11 rfl ?_); refine wpList_bld 54 _ rfl rfl (ps := #[]) (by kernel_rfl) built_j ?_)
    | ((with_reducible refine wpList_at 12 rfl ?_); refine mem_box E 54 rfl _ rfl rfl (c := #[.pointer none]) rfl ?_; clear E; intro b2 w2 E)
    | ((with_reducible refine wpList_at 13 rfl ?_); refine mem_bsn (ps := #[(0, .pointer none), (1, .pointer (some ⟨b2, 0, none⟩))]) E rfl _ rfl (by kernel_rfl) (run_twoJ b2) ?_; clear E; intro b3 w3 E))
  have UU : Hid (UnJ w3 (.pointer none) ∧ UnJ w3 (.pointer (some ⟨b2, 0, none⟩))) := Lib.hid ⟨.inl rfl, .inr ⟨b2, rfl, E.out.get (List.mem_cons_of_mem _ List.mem_cons_self)⟩⟩
  go_loopg [15] 2 (fun k i wr => ∃ j : Nat, j + k = 2 ∧ i = .int .i64 (j : Int) ∧ Hid (Mem W [(b3, 28, #[.pointer none, .pointer (some ⟨b2, 0, none⟩)]), (b2, 54, #[.pointer none]), (b1, 34, #[a, b])] wr) ∧ Hid (UnJ wr (.pointer none) ∧ UnJ wr (.pointer (some ⟨b2, 0, none⟩))))
  case atStart => exact ⟨0, by omega, rfl, E, UU⟩
  case round =>
    clear E UU
    obtain ⟨j, hj, rfl, E, UU⟩ := hrel
    obtain ⟨kk, rfl⟩ : ∃ kk : Nat, kk = gk := ⟨_, rfl⟩
    rcases (show j = 0 ∨ j = 1 ∨ j = 2 by omega) with rfl | rfl | rfl
    · go_wp2_with (first
        | ((with_reducible refine wpList_at 17 rfl ?_); refine wpList_ix (k := 1) (j := 0) Tryd.underlying55 (by kernel_rfl) (.tmp 13) (.tmp 15) rfl rfl rfl rfl (by omega) rfl ?_; try simp only [Act.put, List.setIfInBounds_toArray, List.set_cons_zero, List.set_cons_succ])
        | ((with_reducible refine wpList_at 18 rfl ?_); refine mem_load_cell E 28 rfl (.tmp 17) rfl rfl List.mem_cons_self Tryd.underlying28 rfl (v := .pointer none) rfl ?_; try simp only [Act.put, List.setIfInBounds_toArray, List.set_cons_zero, List.set_cons_succ])
        | ((with_reducible refine wpList_at 25 rfl ?_); refine mem_load_row E 34 rfl (.tmp 1) rfl rfl (List.mem_cons_of_mem _ (List.mem_cons_of_mem _ List.mem_cons_self)) Tryd.underlying34 rfl (by kernel_rfl) ?_; try simp only [Act.put, List.setIfInBounds_toArray, List.set_cons_zero, List.set_cons_succ])
        | (go_at_call 17; refine (get_un UU.out.1 _).mono ?_; rintro e w4 ⟨rfl, rfl⟩)
        | (go_at_call 9; refine (commit_un UU.out.1 _ _).mono ?_; rintro e w4 ⟨rfl, hb⟩; replace E := Lib.hid (E.out.call hb); replace UU := Lib.hid (And.intro (unj_below UU.out.1 hb) (unj_below UU.out.2 hb)); clear hb)
        | (go_at_call 19; refine (keys_un UU.out.1 _).mono ?_; rintro e w5 ⟨rfl, rfl⟩)
        | (go_at_call 13; refine (batches_un UU.out.1).mono ?_; rintro e w5 ⟨rfl, rfl⟩)
        | (go_at_call 20; refine (halted_un UU.out.1).mono ?_; rintro e w5 ⟨rfl, rfl⟩))
      go_roundg 1
      case measure => omega
      case rel => exact ⟨1, by omega, rfl, E, UU⟩
    · go_wp2_with (first
        | ((with_reducible refine wpList_at 17 rfl ?_); refine wpList_ix (k := 1) (j := 1) Tryd.underlying55 (by kernel_rfl) (.tmp 13) (.tmp 15) rfl rfl rfl rfl (by omega) rfl ?_; try simp only [Act.put, List.setIfInBounds_toArray, List.set_cons_zero, List.set_cons_succ])
        | ((with_reducible refine wpList_at 18 rfl ?_); refine mem_load_cell E 28 rfl (.tmp 17) rfl rfl List.mem_cons_self Tryd.underlying28 rfl (v := .pointer (some ⟨b2, 0, none⟩)) rfl ?_; try simp only [Act.put, List.setIfInBounds_toArray, List.set_cons_zero, List.set_cons_succ])
        | ((with_reducible refine wpList_at 25 rfl ?_); refine mem_load_row E 34 rfl (.tmp 1) rfl rfl (List.mem_cons_of_mem _ (List.mem_cons_of_mem _ List.mem_cons_self)) Tryd.underlying34 rfl (by kernel_rfl) ?_; try simp only [Act.put, List.setIfInBounds_toArray, List.set_cons_zero, List.set_cons_succ])
        | (go_at_call 17; refine (get_un UU.out.2 _).mono ?_; rintro e w4 ⟨rfl, rfl⟩)
        | (go_at_call 9; refine (commit_un UU.out.2 _ _).mono ?_; rintro e w4 ⟨rfl, hb⟩; replace E := Lib.hid (E.out.call hb); replace UU := Lib.hid (And.intro (unj_below UU.out.1 hb) (unj_below UU.out.2 hb)); clear hb)
        | (go_at_call 19; refine (keys_un UU.out.2 _).mono ?_; rintro e w5 ⟨rfl, rfl⟩)
        | (go_at_call 13; refine (batches_un UU.out.2).mono ?_; rintro e w5 ⟨rfl, rfl⟩)
        | (go_at_call 20; refine (halted_un UU.out.2).mono ?_; rintro e w5 ⟨rfl, rfl⟩))
      go_roundg 0
      case measure => omega
      case rel => exact ⟨2, by omega, rfl, E, UU⟩
    · clear UU
      go_upto_region 9 with (first
        | ((with_reducible refine wpList_at 45 rfl ?_); refine wpList_bld 58 _ rfl rfl (ps := #[]) (by kernel_rfl) built_t ?_)
        | ((with_reducible refine wpList_at 46 rfl ?_); refine mem_box E 58 rfl _ rfl rfl (c := #[.pointer none]) rfl ?_; clear E; intro b4 w4 E)
        | ((with_reducible refine wpList_at 47 rfl ?_); refine mem_bsn (ps := #[(0, .pointer none), (1, .pointer (some ⟨b4, 0, none⟩))]) E rfl _ rfl (by kernel_rfl) (run_twoT b4) ?_; clear E; intro b5 w5 E))
      have VV : Hid (UnT w5 (.pointer none) ∧ UnT w5 (.pointer (some ⟨b4, 0, none⟩))) := Lib.hid ⟨.inl rfl, .inr ⟨b4, rfl, E.out.get (List.mem_cons_of_mem _ List.mem_cons_self)⟩⟩
      go_loopg [49] 2 (fun k i wr => ∃ j : Nat, j + k = 2 ∧ i = .int .i64 (j : Int) ∧ Hid (Mem W ((b5, 24, #[.pointer none, .pointer (some ⟨b4, 0, none⟩)]) :: (b4, 58, #[.pointer none]) :: [(b3, 28, #[.pointer none, .pointer (some ⟨b2, 0, none⟩)]), (b2, 54, #[.pointer none]), (b1, 34, #[a, b])]) wr) ∧ Hid (UnT wr (.pointer none) ∧ UnT wr (.pointer (some ⟨b4, 0, none⟩))))
      case atStart => exact ⟨0, by omega, rfl, E, VV⟩
      case round =>
      clear E VV hj
      obtain ⟨j, hj, rfl, E, VV⟩ := hrel
      obtain ⟨k2, rfl⟩ : ∃ k2 : Nat, k2 = gk := ⟨_, rfl⟩
      rcases (show j = 0 ∨ j = 1 ∨ j = 2 by omega) with rfl | rfl | rfl
      · go_wp2_with (first
          | ((with_reducible refine wpList_at 51 rfl ?_); refine wpList_ix (k := 1) (j := 0) Tryd.underlying59 (by kernel_rfl) (.tmp 47) (.tmp 49) rfl rfl rfl rfl (by omega) rfl ?_; try simp only [Act.put, List.setIfInBounds_toArray, List.set_cons_zero, List.set_cons_succ])
          | ((with_reducible refine wpList_at 52 rfl ?_); refine mem_load_cell E 24 rfl (.tmp 51) rfl rfl List.mem_cons_self Tryd.underlying24 rfl (v := .pointer none) rfl ?_; try simp only [Act.put, List.setIfInBounds_toArray, List.set_cons_zero, List.set_cons_succ])
          | (go_at_call 8; refine (open_un VV.out.1).mono ?_; rintro e w6 ⟨rfl, rfl⟩))
        go_roundg 1
        case measure => omega
        case rel => exact ⟨1, by omega, rfl, E, VV⟩
      · go_wp2_with (first
          | ((with_reducible refine wpList_at 51 rfl ?_); refine wpList_ix (k := 1) (j := 1) Tryd.underlying59 (by kernel_rfl) (.tmp 47) (.tmp 49) rfl rfl rfl rfl (by omega) rfl ?_; try simp only [Act.put, List.setIfInBounds_toArray, List.set_cons_zero, List.set_cons_succ])
          | ((with_reducible refine wpList_at 52 rfl ?_); refine mem_load_cell E 24 rfl (.tmp 51) rfl rfl List.mem_cons_self Tryd.underlying24 rfl (v := .pointer (some ⟨b4, 0, none⟩)) rfl ?_; try simp only [Act.put, List.setIfInBounds_toArray, List.set_cons_zero, List.set_cons_succ])
          | (go_at_call 8; refine (open_un VV.out.2).mono ?_; rintro e w6 ⟨rfl, rfl⟩))
        go_roundg 0
        case measure => omega
        case rel => exact ⟨2, by omega, rfl, E, VV⟩
      · go_wp2
        go_ret
        exact ⟨rfl, E.out.below⟩

set_option maxRecDepth 100000 in
theorem lifted (os : Os) (started : os.Started) (H : Type) (enc : TypeId × Value → H) :
    ReturnsInHanded {} Tryd.checked os 6 .any (fun w args => (Rows.journalNobodySpec.pre enc Tryd.prog Tryd.f6 [] false w args ∧ laidMetH Tryd.prog S.shaLaid w) ∧ sizedMet enc Tryd.prog Tryd.f6 (OpenSpec.ofChange Rows.journalNobodySpec) false w args)
      (Rows.journalNobodySpec.post enc Tryd.prog Tryd.f6 false true false false) := by
  refine returnsInHanded_of_change_and (C := Tryd.checked) (X := fun w _ => laidMetH Tryd.prog S.shaLaid w) (fun _ _ _ hh h => h.of_heap hh) own started (by kernel_rfl) Tryd.func6
    (ChangeSpec.witness_shaped (enc := enc) (C := Tryd.checked) (os := os) (X := fun w _ => laidMetH Tryd.prog S.shaLaid w) false (World.doorLaid Tryd.prog 400 os) #[.agg #[.slice none 0 0, .slice none 0 0]] 8 rfl (World.shaped_of_RefB (by kernel_rfl) (by kernel_rfl)) (by kernel_rfl) (by kernel_rfl) (by kernel_rfl) (S.sha_door_met os _)) ?_
  intro W base args ds gs before hval0 hW _ hsz0 hL _
  have hval : ∀ (j : Nat) t v, Tryd.f6.params[j]? = some t → args[j]? = some v → Value.okWide Tryd.prog W .any base t v := hval0
  have hsz : (DataW.weightsEach Tryd.prog (Tryd.f6.params.toList ++ Rows.journalNobodySpec.plain.varTypes Tryd.prog) (ds ++ gs)).all (· ≤ reachBytes) = true := hsz0
  have hW' := hW
  obtain ⟨p, q, hA0, hV, rfl, hfz, hnd⟩ := hW
  have hA : DataW.TrodAll enc Tryd.prog W 0 (fun _ => true) true Tryd.f6.params.toList args.toList ds p := hA0
  rw [Tryd.params6] at hA hval hsz
  obtain ⟨v0, vs0, d0, ds0, p0, q0, hargs, rfl, rfl, h0, r0⟩ := trodAll_cons hA
  obtain ⟨rfl, rfl, rfl⟩ := trodAll_nil r0
  obtain rfl : args = #[v0] := by cases args; simp_all
  obtain ⟨rfl, rfl⟩ := trodVars_none hV
  have k0 := h0
  have lt0 : ∀ x ∈ p0, x.block < W.heap.size := by obtain ⟨m, hm⟩ := k0; exact DataW.trod_lt m _ _ _ hm
  obtain ⟨a0, b0, rfl⟩ := open_batch0 (hval 0 34 v0 rfl rfl) h0
  clear hA0 hval0 hsz0
  simp only [List.append_nil] at hW'
  refine (walk W hL a0 b0).mono fun e W' ⟨he, bel⟩ => ?_
  subst he
  exact ⟨_, rfl, _, _, _, [], _, [], hW', trodAll_mk1 (shut_bool Tryd.underlying4 _), (trodAll_cons_mk (Below.trod laidOut (by kernel_rfl) (of_decide_eq_true (by kernel_rfl)) k0 bel lt0) trodAll_mk0), rfl, bel.frame _, fun h => by cases h⟩

theorem over : Rows.JournalNobodySaid :=
  OpenClaim.holds_of_wide 6 Tryd.f6 rfl rfl rfl rfl rfl rfl rfl ⟨rfl, rfl, rfl, rfl, rfl⟩ rfl rfl rfl rfl rfl (by kernel_rfl) Tryd.func6 (by kernel_rfl)
    (of_decide_eq_true (by kernel_rfl)) (by unfold Func.isWrapper; first | (rw [if_pos (by decide +kernel)]; kernel_rfl) | (rw [if_neg (by decide +kernel)]; exact ⟨rfl, rfl⟩))
    (fun os started H enc _ => lifted os started H enc)

/-- The tied card. -/
theorem card_holds : Rows.JournalNobodyCardSaid :=
  Claim7.holds_tied_plain_at .later [] [.data, .data] true (true, "a9081dc2cf90c7d2d0c1bfc5e7b82ea123fcfa11a7312d3afabf125d61788f2d") true
    over (fun _ h => by cases h) (by kernel_rfl) (fun _ h => by cases h) journalNobody_row_tie rfl ⟨rfl, rfl⟩ (by kernel_rfl) rfl
    (fun f fn hf hfn => by
      obtain rfl : f = 6 := Option.some.inj ((show Tryd.prog.funcNamed "sporran/sporranlaw16.JournalNobody" = some 6 by kernel_rfl).symm.trans hf) |>.symm
      obtain rfl : fn = Tryd.f6 := (Option.some.inj (Tryd.func6.symm.trans hfn)).symm
      exact ⟨by kernel_rfl, fun j t ht => by
        rw [Tryd.params6] at ht
        have hm : t ∈ [34] := by simpa using Array.mem_of_getElem? ht
        have hall : ([34].all fun u => !Tryd.prog.wantsStandIn u) = true := by kernel_rfl
        exact (show Tryd.prog.wantsStandIn t = false by simpa using List.all_eq_true.1 hall t hm)⟩)
    (by kernel_rfl)
#print axioms card_holds
end Go.Proofs.YtlbbnaihhagfdaaDoor.journalNobody
