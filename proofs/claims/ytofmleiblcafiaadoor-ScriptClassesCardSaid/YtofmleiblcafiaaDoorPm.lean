/- script.Make, and the document's: the script of a kind. -/
import Derived.Test.YtofmleiblcafiaaDoorPd
set_option linter.unusedSimpArgs false
set_option linter.unusedVariables false
set_option maxRecDepth 100000
namespace Go.Proofs.YtofmleiblcafiaaDoor
open Go.ChangeShapes Go.WideShapes Go.ChangeAt Go.RowKit Go.Lib Go.Sort

/-- The script of a kind with some bytes, if there is one. -/
def mkOf (kind : Int) (b : List Nat) : Option (List Nat) := if 1 ≤ kind ∧ kind ≤ 6 ∧ okc (kind.toNat - 1) b.length = true then some (hL (kind.toNat - 1) ++ b ++ tL (kind.toNat - 1)) else none
theorem mkOf_yes {j : Nat} (hj : j < 6) {kind : Int} (hk : kind = ((j + 1 : Nat) : Int)) {b : List Nat} (h : okc j b.length = true) : mkOf kind b = some (hL j ++ b ++ tL j) := by
  subst hk
  have e : ((j + 1 : Nat) : Int).toNat - 1 = j := by omega
  unfold mkOf
  rw [e, if_pos ⟨by omega, by omega, h⟩]
theorem mkOf_no {kind : Int} {b : List Nat} (h : ∀ j : Nat, j < 6 → kind = ((j + 1 : Nat) : Int) → okc j b.length = false) : mkOf kind b = none := by
  unfold mkOf
  rw [if_neg]
  rintro ⟨h1, h2, h3⟩
  have := h (kind.toNat - 1) (by omega) (by omega)
  rw [this] at h3
  cases h3
/-- What a call leaves that makes a script. -/
def MkEnd (w : World) (kind : Int) (b : List Nat) (e : Ending) (w' : World) : Prop := ∃ (r : List Nat) (ok : Bool) (p : Option Addr) (g c : Nat), e = .returned (.tuple #[.slice p r.length c, .bool ok]) ∧ ok = (mkOf kind b).isSome ∧ r = (mkOf kind b).getD [] ∧ Row w' p g 0 r.length c (lf r) ∧ Below w.heap.size w w'
theorem mkEnd_no {w : World} {kind : Int} {b : List Nat} (h : mkOf kind b = none) {w' : World} (hb : Below w.heap.size w w') : MkEnd w kind b (.returned (.tuple #[.slice none 0 0, .bool false])) w' :=
  ⟨[], false, none, 0, 0, rfl, by rw [h]; rfl, by rw [h]; rfl, Row.nothing _ _ (lf_lt isB_nil), hb⟩
theorem run_bs3v {P : Program} {S T bytes : Nat} {z : Value} (hS : P.underlying S = some (.slice T)) (hT : (P.info? T).map (fun i => (i.zero, i.size, i.bytes)) = some (some z, 1, bytes)) (a b c : Value) (ha : a.cells = #[a]) (hb : b.cells = #[b]) (hc : c.cells = #[c]) (w : World) :
    (Instr.buildSlice S 3 #[(0, a), (1, b), (2, c)]).run P w = .ok (.slice (some ⟨w.heap.size, 0, none⟩) 3 3) (w.alloc (.cells #[a, b, c] T)) := by
  obtain ⟨i0, hi, hz0, hz1, hz2⟩ := info_parts hT
  refine run_buildSlice w S T 3 _ #[a, b, c] i0 z hS hi hz0 (by rw [hz1]; omega) (by rw [hz1]; omega) ?_
  have e : Array.range 3 = #[0, 1, 2] := by decide
  simp [Instr.fill, ha, hb, hc, hz1, e]
theorem getsL_var {w : World} {xs : List Nat} {e : Ending} {w' : World} (h : GetsL w xs e w') : ∃ r p g c, e = .returned (.slice p r.length c) ∧ Hid (r = xs) ∧ Own w.heap.size w' p g r.length c (lf r) ∧ Below w.heap.size w w' := by
  obtain ⟨p, g, c, rfl, N, hb⟩ := h
  exact ⟨xs, p, g, c, rfl, Lib.hid rfl, N, hb⟩
/-- Three texts, one behind the other in a slice. -/
def v3 (a b c : Value) : Nat → Value | 0 => a | 1 => b | _ => c
theorem texts3 {w : World} {p1 p2 p3 p : Option Addr} {g1 g2 g3 g o1 o2 o3 n1 n2 n3 c1 c2 c3 B : Nat} {x1 x2 x3 : Nat → Nat} (R1 : Row w p1 g1 o1 n1 c1 x1) (R2 : Row w p2 g2 o2 n2 c2 x2) (R3 : Row w p3 g3 o3 n3 c3 x3)
    (h1 : n1 ≤ 140737488351232) (h2 : n2 ≤ 140737488351232) (h3 : n3 ≤ 140737488351232) (N : VOwn 22 1 B w p g 3 3 (v3 (.slice p1 n1 c1) (.slice p2 n2 c2) (.slice p3 n3 c3))) : TextsAt w (.slice p 3 3) [tl x1 n1, tl x2 n2, tl x3 n3] := by
  refine ⟨p, g, 0, 3, _, rfl, by simp, N.row, fun i hi => ?_⟩
  match i, hi with
  | 0, _ => exact ⟨p1, g1, o1, c1, by rw [show ([tl x1 n1, tl x2 n2, tl x3 n3])[0] = tl x1 n1 from rfl, tl_length]; rfl, by rw [show ([tl x1 n1, tl x2 n2, tl x3 n3])[0] = tl x1 n1 from rfl, tl_length]; exact h1, R1.tl⟩
  | 1, _ => exact ⟨p2, g2, o2, c2, by rw [show ([tl x1 n1, tl x2 n2, tl x3 n3])[1] = tl x2 n2 from rfl, tl_length]; rfl, by rw [show ([tl x1 n1, tl x2 n2, tl x3 n3])[1] = tl x2 n2 from rfl, tl_length]; exact h2, R2.tl⟩
  | 2, _ => exact ⟨p3, g3, o3, c3, by rw [show ([tl x1 n1, tl x2 n2, tl x3 n3])[2] = tl x3 n3 from rfl, tl_length]; rfl, by rw [show ([tl x1 n1, tl x2 n2, tl x3 n3])[2] = tl x3 n3 from rfl, tl_length]; exact h3, R3.tl⟩
set_option maxHeartbeats 8000000 in
theorem make_any {w : World} (hP : PLaid w) (kind : Int) {p : Option Addr} {g o n c : Nat} {x : Nat → Nat} (R : Hid (Row w p g o n c x)) (hn : n ≤ 140737488351232) : Calls Tryd.prog 17 #[.int .i64 kind, .slice p n c] w (MkEnd w kind (tl x n)) := by
  have PL := Lib.hid hP
  clear hP
  go_enter Tryd.func17, Tryd.ntmps17
  go_wp2_with (refine wpList_ld 45 (.global 0) rfl rfl rfl PL.out.load ?_)
  have SOF := Lib.hid (show ∀ j : Nat, j < 0 → kind = ((j + 1 : Nat) : Int) → okc j (tl x n).length = false from fun j h => absurd h (by omega))
  have BB := Lib.hid (Below.refl w.heap.size w)
  go_loopg [9] 6 (fun k i wr => ∃ j : Nat, j + k = 6 ∧ i = .int .i64 (j : Int) ∧ Hid (∀ j' : Nat, j' < j → kind = ((j' + 1 : Nat) : Int) → okc j' (tl x n).length = false) ∧ Hid (Below w.heap.size w wr))
  case atStart => exact ⟨0, by omega, rfl, SOF, BB⟩
  case round =>
    clear SOF BB
    obtain ⟨j, hj, rfl, SOF, BB⟩ := hrel
    obtain ⟨kk, rfl⟩ : ∃ kk : Nat, kk = gk := ⟨_, rfl⟩
    obtain ⟨wo, rfl⟩ : ∃ wo : World, wo = wr := ⟨_, rfl⟩
    by_cases hlt : j < 6
    · have PI := Lib.hid (fun W : World => pat_index j hlt W)
      have HS := hB_size j
      have TS := tB_size j
      have NO := Lib.hid (show (kind = ((j + 1 : Nat) : Int) → okc j (tl x n).length = false) → ∀ j' : Nat, j' < j + 1 → kind = ((j' + 1 : Nat) : Int) → okc j' (tl x n).length = false from fun h j' hj' => by
        rcases Nat.lt_or_ge j' j with q | q
        · exact SOF.out j' q
        · obtain rfl : j' = j := by omega
          exact h)
      have YES := Lib.hid (show kind = ((j + 1 : Nat) : Int) → okc j (tl x n).length = true → mkOf kind (tl x n) = some (bytL (hB j) ++ tl x n ++ bytL (tB j)) from fun h1 h2 => by rw [hB_bytes, tB_bytes]; exact mkOf_yes hlt h1 h2)
      have OKC := Lib.hid (show okc j (tl x n).length = okI (cN j) (n : Int) by unfold okc; rw [tl_length])
      obtain ⟨H, hH⟩ : ∃ H, H = hB j := ⟨_, rfl⟩
      obtain ⟨T, hT⟩ : ∃ T, T = tB j := ⟨_, rfl⟩
      obtain ⟨C, hC⟩ : ∃ C, C = cN j := ⟨_, rfl⟩
      obtain ⟨K, hK⟩ : ∃ K : Int, K = ((j + 1 : Nat) : Int) := ⟨_, rfl⟩
      rw [← hH] at HS PI YES
      rw [← hT] at TS PI YES
      rw [← hC] at PI OKC
      rw [← hK] at PI NO YES
      clear hH hT hC hK SOF
      have E := Lib.hid (Mem.nil wo)
      by_cases hkd : K = kind
      · have b1 : (K == kind) = true := by simpa using hkd
        have HKD := Lib.hid hkd
        clear hkd
        cases hok : okI C (n : Int) with
        | false =>
          have HAS := Lib.hid (fun W : World => has_any K H T C (n : Int) W)
          rw [hok] at HAS
          have NP := Lib.hid (NO.out fun _ => by rw [OKC.out, hok])
          clear hok NO YES OKC
          go_wp2_with (first
            | (refine wpList_known4 rfl _ _ (exec_index rfl (PI.out _)) ?_)
            | (refine mem_alloc E 44 rfl rfl infoPat ?_; clear E; intro b5 w5 E)
            | (refine mem_store_row 0 E 44 rfl (.tmp 7) (.tmp 11) rfl rfl rfl rfl (by kernel_rfl) rfl (pat_one _ _ _ _) ?_; clear E; intro w6 E; simp only [List.set_cons_zero] at E)
            | (refine mem_load_row E 44 rfl (.tmp 7) rfl rfl List.mem_cons_self Tryd.underlying44 rfl (by kernel_rfl) ?_)
            | (refine mem_load_cell E 3 rfl (.tmp 12) rfl rfl List.mem_cons_self Tryd.underlying3 rfl rfl ?_)
            | (go_at_call 25; ((with_reducible refine (HAS.out _).mono ?_); rintro e w7 ⟨rfl, hb⟩); replace E := Lib.hid (E.out.call hb); clear hb))
          go_roundg (6 - (j + 1))
          case measure => omega
          case rel => exact ⟨j + 1, by omega, by go_num, NP, Lib.hid (BB.out.trans (E.out.below.mono BB.out.size))⟩
        | true =>
          have HAS := Lib.hid (fun W : World => has_any K H T C (n : Int) W)
          rw [hok] at HAS
          have YY := Lib.hid (YES.out HKD.out.symm (by rw [OKC.out, hok]))
          clear hok NO YES OKC
          go_wp2_with (first
            | (refine wpList_known4 rfl _ _ (exec_index rfl (PI.out _)) ?_)
            | (refine mem_alloc E 44 rfl rfl infoPat ?_; clear E; intro b5 w5 E)
            | (refine mem_store_row 0 E 44 rfl (.tmp 7) (.tmp 11) rfl rfl rfl rfl (by kernel_rfl) rfl (pat_one _ _ _ _) ?_; clear E; intro w6 E; simp only [List.set_cons_zero] at E)
            | (refine mem_load_row E 44 rfl (.tmp 7) rfl rfl List.mem_cons_self Tryd.underlying44 rfl (by kernel_rfl) ?_)
            | (refine mem_load_cell E 3 rfl (.tmp 12) rfl rfl List.mem_cons_self Tryd.underlying3 rfl rfl ?_)
            | (refine mem_load_cell E 9 rfl (.tmp 22) rfl rfl List.mem_cons_self Tryd.underlying9 rfl rfl ?_)
            | (refine mem_load_cell E 9 rfl (.tmp 26) rfl rfl List.mem_cons_self Tryd.underlying9 rfl rfl ?_)
            | (refine wpList_cv rfl (.tmp 23) rfl rfl (by omega) ?_; intro pa ga ca wa NA hba; replace E := Lib.hid (E.out.call hba.out); clear hba)
            | (refine wpList_cv rfl (.tmp 27) rfl rfl (by omega) ?_; intro pc gc cc wc NC hbc; replace E := Lib.hid (E.out.call hbc.out); replace NA := Lib.hid (NA.out.below hbc.out); clear hbc)
            | (refine wpList_vbs 62 22 1 3 rfl _ rfl (v3 (.slice pa H.size ca) (.slice p n c) (.slice pc T.size cc)) (fun i hi => by match i, hi with | 0, _ => rfl | 1, _ => rfl | 2, _ => rfl) (by unfold maxLen; omega) (ps := #[(0, .slice pa H.size ca), (1, .slice p n c), (2, .slice pc T.size cc)]) (by kernel_rfl) (fun W => run_bs3v Tryd.underlying62 infoText3 _ _ _ rfl rfl rfl W) rfl ?_; intro pv gv wv NV hbv; replace NA := Lib.hid (NA.out.below hbv.out); replace NC := Lib.hid (NC.out.below hbv.out); replace E := Lib.hid (E.out.call hbv.out); have TT := Lib.hid (texts3 NA.out.row ((R.out.below BB.out).below E.out.below) NC.out.row (by omega) hn (by omega) NV.out); clear hbv)
            | (go_at_call 27; refine (concat_any TT (by simp [sm, tl_length]; omega)).mono ?_; intro e w8 h8; obtain ⟨r8, p8, g8, c8, rfl, HR8, N8, hb8⟩ := getsL_var h8; replace E := Lib.hid (E.out.call hb8); have NN8 := Lib.hid N8; clear hb8 N8 h8)
            | (go_at_call 25; ((with_reducible refine (HAS.out _).mono ?_); rintro e w7 ⟨rfl, hb⟩); replace E := Lib.hid (E.out.call hb); clear hb))
          go_ret2
          have e : r8 = bytL H ++ tl x n ++ bytL T := by rw [HR8.out]; simp [bytL]
          exact ⟨r8, true, p8, g8, c8, rfl, by rw [YY.out]; rfl, by rw [YY.out, e]; rfl, NN8.out.row, BB.out.trans (E.out.below.mono BB.out.size)⟩
      · have b1 : (K == kind) = false := by simpa using hkd
        have NP := Lib.hid (NO.out fun h => absurd h.symm hkd)
        clear hkd NO YES OKC
        go_wp2_with (first
          | (refine wpList_known4 rfl _ _ (exec_index rfl (PI.out _)) ?_)
          | (refine mem_alloc E 44 rfl rfl infoPat ?_; clear E; intro b5 w5 E)
          | (refine mem_store_row 0 E 44 rfl (.tmp 7) (.tmp 11) rfl rfl rfl rfl (by kernel_rfl) rfl (pat_one _ _ _ _) ?_; clear E; intro w6 E; simp only [List.set_cons_zero] at E)
          | (refine mem_load_cell E 3 rfl (.tmp 12) rfl rfl List.mem_cons_self Tryd.underlying3 rfl rfl ?_))
        go_roundg (6 - (j + 1))
        case measure => omega
        case rel => exact ⟨j + 1, by omega, by go_num, NP, Lib.hid (BB.out.trans (E.out.below.mono BB.out.size))⟩
    · obtain rfl : j = 6 := by omega
      have YtofmleiblcafiaaDoor := Lib.hid (mkOf_no SOF.out)
      clear SOF
      go_wp2
      go_ret2
      exact mkEnd_no YtofmleiblcafiaaDoor.out BB.out
end Go.Proofs.YtofmleiblcafiaaDoor
