/- For every slice of slices of bytes (nil too) of bulk at most 1048576: a new hasher that takes the rows one by one (no more than 41) has at each moment the sum of all so far, whatever becomes of the rows' copies afterwards. The two tables of package sha are laid as the program's text lays them; the card ties them to that text. The condition: what comes in is of bulk at most 1048576. -/
import Derived.Test.YtbiobejfjhmccaaDoorSame
import Derived.Test.YtbiobejfjhmccaaDoorOwned
import Derived.Test.YtbiobejfjhmccaaDoorTie
import Derived.Test.YtbiobejfjhmccaaDoorCards
import Derived.Deep.DeepHandedRow
import Derived.ShutString
import Derived.ChangeOld
import Derived.Below
import Derived.SevenTiedAt
namespace Go.Proofs.YtbiobejfjhmccaaDoor.shaWrites
open Go.ChangeShapes Go.WideShapes Go.ChangeAt Go.RowKit Go.Lib
set_option linter.unusedVariables false

/-- How it stands after q rows. -/
def State (w0 : Nat) (w : World) (B b : Nat) (L : Nat → Nat) (X : Nat → Nat → Int) (q : Nat) (s : Value) (wr : World) : Prop :=
  Below w0 w wr ∧ B ≤ wr.heap.size ∧ Hashed b (catX L X q) (sumTo L q) wr ∧ wr.ownsRow B 5 1 s (sumTo L q) (firstBytes (catX L X q) (sumTo L q))
theorem State.below {w0 : Nat} {w : World} {B b : Nat} {L : Nat → Nat} {X : Nat → Nat → Int} {q : Nat} {s : Value} {wr wx : World} (h : State w0 w B b L X q s wr) (h0 : w0 ≤ wr.heap.size) (hb : Below wr.heap.size wr wx) : State w0 w B b L X q s wx :=
  ⟨h.1.trans (hb.mono h0), Nat.le_trans h.2.1 hb.size, h.2.2.1.below hb, own_below h.2.2.2 hb⟩

set_option maxHeartbeats 4000000 in
theorem walk_any (al : Option Addr) (gl ol len cap : Nat) (A : Nat → Option Addr) (L C G O : Nat → Nat) (X : Nat → Nat → Int) (w : World) (h : IsRows w (.slice al len cap) al gl ol len cap A L C G O X) (hs : Both w) :
    Calls Tryd.prog 4 #[.slice al len cap] w fun e w' => e = .returned (.bool true) ∧ Below w.heap.size w w' := by
  obtain ⟨i0, hi, hz0, hz1, hz2⟩ := info_parts info5
  have hlen := h.short
  have K3 := Lib.hid (new_any w hs.1)
  have h2w : 2 < w.heap.size := hs.2.lt
  have R := Lib.hid h
  have SL := Lib.hid hs
  clear h hs
  unfold maxLen at hlen
  go_enter Tryd.func4, Tryd.ntmps4
  go_upto_region 4 with (go_at_call 16; with_reducible refine K3.out.mono ?_; rintro e w1 ⟨b, rfl, hb1, hh1, hw1⟩; have H1 := Lib.hid (And.intro hb1 (And.intro hh1 hw1)); clear hb1 hh1 hw1)
  have hbb : b < w1.heap.size := H1.out.2.1.lt
  have hwb := H1.out.1
  obtain ⟨B, hBe⟩ : ∃ B, B = w1.heap.size := ⟨_, rfl⟩
  have HBE := Lib.hid hBe
  have hbB : b < B := by omega
  clear hBe hbb
  go_wp2
  go_loopg [4, 11] len (fun k s4 i wr => ∃ q : Nat, q + k = len ∧ q ≤ 41 ∧ i = .int .i64 (q : Int) ∧ State w.heap.size w B b L X q s4 wr)
  case atStart => exact ⟨0, by omega, by omega, rfl, H1.out.2.2, Nat.le_of_eq HBE.out, H1.out.2.1, World.ownsRow_nil _ _ _ _⟩
  case round =>
    obtain ⟨q, hq, hq41, rfl, hst⟩ := hrel
    clear H1 K3
    by_cases hlt : q < len
    · by_cases h40 : q = 41
      · have c1 : wr.cell? ⟨gl, ol + q, none⟩ = some (.slice (A q) (L q) (C q)) := by rw [hst.1.cell (cell_lt (R.out.cell q hlt))]; exact R.out.cell q hlt
        have hal := R.out.head (by omega)
        subst hal
        have h40' : (40 : Int) < ↑q := by omega
        clear h40
        obtain ⟨hbw, hB, hh, hown⟩ := hst
        have hq41 : q ≤ len := by omega
        have hT := Nat.le_trans (sumTo_mono L hq41) R.out.total
        obtain ⟨p4, g4, c4, rfl, hc1, hc2, hl4, hn4⟩ := own_lies hown
        have hxr : ∀ i, 0 ≤ catX L X q i ∧ catX L X q i ≤ 255 := catX_range L X q (fun r hr => R.out.byte r (by omega))
        have hk4 : Both wr := SL.out.below hbw
        have F1 : Hid (∀ wx, Below wr.heap.size wr wx → Calls Tryd.prog 19 #[.pointer (some ⟨b, 0, none⟩)] wx fun e w' => e = .returned (.agg (arr 32 (sha (catX L X q) (sumTo L q)))) ∧ Below wx.heap.size wx w') := Lib.hid fun wx h => hsum_any b (catX L X q) hxr (sumTo L q) (by omega) wx (hh.below h) (hk4.below h).2
        have F2 : Hid (∀ wx, Below wr.heap.size wr wx → Calls Tryd.prog 11 #[.slice p4 (sumTo L q) c4] wx fun e w' => e = .returned (.agg (arr 32 (sha (catX L X q) (sumTo L q)))) ∧ Below wx.heap.size wx w') := Lib.hid fun wx h => sum_any p4 g4 0 (sumTo L q) c4 (catX L X q) hxr (by omega) hc1 (by unfold maxLen at hc2; omega) wx (hl4.below h) (hk4.below h)
        have F3 : Hid (∀ wx, Below wr.heap.size wr wx → Calls Tryd.prog 12 #[.slice p4 (sumTo L q) c4] wx fun e w' => e = .returned (.agg (arr 32 (sha (catX L X q) (sumTo L q)))) ∧ Below wx.heap.size wx w') := Lib.hid fun wx h => ref_sum_any p4 g4 0 (sumTo L q) c4 (catX L X q) hxr (by omega) hn4 wx (hl4.below h)
        have sm := sum_same (catX L X q) (sumTo L q)
        have HB := Lib.hid hbw
        clear hbw hB hh hown hl4 hn4 hk4 hxr
        go_wp2_with (first
          | (go_at_call 19; with_reducible refine (F1.out _ (Below.refl _ _)).mono ?_; rintro e w4 ⟨rfl, hb4⟩)
          | (go_at_call 11; with_reducible refine (F2.out _ hb4).mono ?_; rintro e w5 ⟨rfl, hb5⟩; have hc5 := hb4.trans (hb5.mono hb4.size))
          | (go_at_call 19; with_reducible refine (F1.out _ hc5).mono ?_; rintro e w6 ⟨rfl, hb6⟩; have hc6 := hc5.trans (hb6.mono hc5.size))
          | (go_at_call 12; with_reducible refine (F3.out _ hc6).mono ?_; rintro e w7 ⟨rfl, hb7⟩; have hc7 := hc6.trans (hb7.mono hc6.size)))
        go_ret
        exact ⟨rfl, HB.out.trans (hc7.mono HB.out.size)⟩
      · have c1 : wr.cell? ⟨gl, ol + q, none⟩ = some (.slice (A q) (L q) (C q)) := by rw [hst.1.cell (cell_lt (R.out.cell q hlt))]; exact R.out.cell q hlt
        have hal := R.out.head (by omega)
        subst hal
        have h40' : ¬ (40 : Int) < ↑q := by omega
        have hT := Nat.le_trans (sumTo_mono L (show q + 1 ≤ len by omega)) R.out.total
        have hTq : sumTo L (q + 1) = sumTo L q + L q := rfl
        have ST := Lib.hid hst
        have hwr := hst.1.size
        have CL : Hid (Calls Tryd.prog 10 #[.slice (A q) (L q) (C q)] wr _) := Lib.hid (clone_any (A q) (G q) (O q) (L q) (C q) (X q) wr (by omega) (R.out.nil q hlt) ((R.out.lies q hlt).below hst.1))
        clear hst
        go_upto_region 8 with (go_at_call 10; with_reducible refine CL.out.mono ?_; rintro e w2 ⟨p1, g1, c1', rfl, k1, k2, k3, k4, k5, k6⟩; have C2 := Lib.hid (And.intro k3 (And.intro k4 (And.intro k5 k6))); clear k3 k4 k5 k6)
        have hxr : ∀ i, 0 ≤ catX L X q i ∧ catX L X q i ≤ 255 := catX_range L X q (fun r hr => R.out.byte r (by omega))
        have hb2 : b ≠ 2 := by omega
        have k7 : Both w2 := (SL.out.below ST.out.1).below C2.out.2.2.2
        have k8 : g1 ≠ b := by have := C2.out.1; have := ST.out.2.1; omega
        have WR := Lib.hid (write_any b hb2 (catX L X q) hxr (sumTo L q) (X q) (R.out.byte q hlt) (L q) p1 g1 0 c1' k1 (by unfold maxLen at k2; omega) (by omega) w2 C2.out.2.1 (fun _ => k8) (ST.out.2.2.1.below C2.out.2.2.2) k7.2)
        clear k7 hxr CL
        go_upto_region 10 with (go_at_call 17; with_reducible refine WR.out.mono ?_; rintro e w3 ⟨rfl, k9, k10⟩; have C3 := Lib.hid (And.intro k9 k10); clear k9 k10)
        go_cut [6] (fun s6 wx => s6 = .slice (A q) (L q) (C q) ∧ Only b wr wx ∧ Hashed b (catX L X (q + 1)) (sumTo L (q + 1)) wx)
        case first =>
          have m1 : (w3.alloc (.cells #[.slice p1 (L q) c1'] 22)).cell? ⟨w3.heap.size, 0, none⟩ = some (.slice p1 (L q) c1') := cell_of_here (here_new w3 _ _) 0 rfl
          have hsz2 := C2.out.2.2.2.size
          have m2 : 0 < L q → Writable g1 0 (L q) (w3.alloc (.cells #[.slice p1 (L q) c1'] 22)) := fun h0 => by
            have h1 := C2.out.2.2.1 h0
            have hg2 : g1 < w2.heap.size := by obtain ⟨z, hz⟩ := h1.1 0 h0; exact cell_lt hz
            have hbk : (w3.alloc (.cells #[.slice p1 (L q) c1'] 22)).heap[g1]? = w2.heap[g1]? := by
              rw [Below.heap_alloc _ _ _ (Nat.lt_of_lt_of_le hg2 C3.out.2.size)]
              exact C3.out.2.block g1 hg2 k8
            refine ⟨fun i hi => ?_, fun i => ?_⟩
            · obtain ⟨z, hz⟩ := h1.1 i hi
              exact ⟨z, by rw [World.cell?_of_block (w := w2) hbk]; exact hz⟩
            · have h2 := h1.2 i
              unfold World.frozen? at h2 ⊢
              simp only [hbk]
              exact h2
          have m3 := spoil_any w3.heap.size p1 g1 0 (L q) c1' _ m1 (by unfold maxLen at k2; omega) (fun h0 => C2.out.2.1.1 h0) m2
          have SP := Lib.hid m3
          clear m1 m2 m3
          go_wp2_with (go_at_call 18; with_reducible refine SP.out.mono ?_; rintro e w4 ⟨rfl, k9⟩)
          go_meet
          have m4 : Below wr.heap.size w3 w4 := ((Below.refl _ _).alloc (by have := C3.out.2.size; omega) _).trans (k9.below C2.out.1 (by have := C3.out.2.size; simp; omega))
          refine ⟨rfl, ((only_of_below C2.out.2.2.2).trans C3.out.2).thenBelow m4, ?_⟩
          obtain ⟨rr, m5, m6⟩ := C3.out.1
          exact ⟨rr, m5.belowB m4 (by have := ST.out.2.1; omega), m6⟩
        case rest =>
          obtain ⟨rfl, hon, hha⟩ := hcut
          have C4 := Lib.hid (And.intro hon hha)
          clear hon hha C2 C3 WR
          have ho4 := own_only ST.out.2.2.2 C4.out.1 hbB
          have hw4 : Below w.heap.size w wc := ST.out.1.trans (C4.out.1.below hwb hwr)
          have hl4 := (R.out.lies q hlt).below hw4
          have hB4 := Nat.le_trans ST.out.2.1 C4.out.1.size
          have C5 := Lib.hid (And.intro ho4 (And.intro hw4 (And.intro hl4 hB4)))
          clear ho4 hw4 hl4 hB4
          go_upto_region 11 with fail
          go_cut [4] (fun s4 wx => State w.heap.size w B b L X (q + 1) s4 wx)
          case first =>
            have fin : ∀ v5 w5, w5.ownsRow B 5 1 v5 (sumTo L q + L q) (firstBytes (catX L X q) (sumTo L q) ++ firstBytes (X q) (L q)) → Below B wc w5 → State w.heap.size w B b L X (q + 1) v5 w5 := by
              intro v5 w5 h1 h2
              refine ⟨C5.out.2.1.trans (h2.mono (by omega)), Nat.le_trans C5.out.2.2.2 h2.size, ?_, ?_⟩
              · obtain ⟨rr, m5, m6⟩ := C4.out.2
                exact ⟨rr, m5.belowB h2 hbB, m6⟩
              · rw [firstBytes_cat] at h1
                exact h1
            rcases (show A q = none ∨ ∃ a, A q = some a from by cases A q with | none => exact Or.inl rfl | some a => exact Or.inr ⟨a, rfl⟩) with hA | ⟨a, hA⟩
            · have HA : Hid (Value.slice (A q) (L q) (C q) = .slice none 0 0) := Lib.hid (by rw [hA, (R.out.nil q hlt hA).1, (R.out.nil q hlt hA).2])
              have HL := Lib.hid (R.out.nil q hlt hA).1
              clear hA
              go_wp2_with (at_builtin; refine wpList_append_own_none rfl (.tmp 27) (.tmp 28) 22 rfl B 5 i0 1 Tryd.underlying22 hi _ _ _ rfl C5.out.1 HA.out ?_)
              go_meet
              refine fin _ _ ?_ (Below.refl _ _)
              rw [HL.out]
              simpa [firstBytes] using C5.out.1
            · have hnews : ∀ j u, (firstBytes (X q) (L q))[j]? = some u → wc.cell? (a.add j) = some u := by
                intro j u hu
                obtain ⟨hj, rfl⟩ := firstBytes_get _ _ _ _ hu
                have h1 := C5.out.2.2.1.1 (by omega)
                rw [hA] at h1
                obtain ⟨rfl⟩ := h1
                rw [add_at]
                exact C5.out.2.2.1.2 j hj
              have HW := Lib.hid hnews
              have HA : Hid (Value.slice (A q) (L q) (C q) = .slice (some a) (L q) (C q)) := Lib.hid (by rw [hA])
              clear hnews hA
              go_wp2_with (at_builtin; refine wpList_append_own _ rfl (.tmp 27) (.tmp 28) 22 rfl B 5 i0 (.int .u8 0) 1 1 Tryd.underlying22 hi hz0 hz1 hz2 rfl (by decide) _ _ _ rfl C5.out.1 a (L q) (C q) (firstBytes (X q) (L q)) HA.out (by rw [firstBytes_length]; omega) HW.out (firstBytes_one (X q) (L q)) (by unfold maxLen; omega) (by omega) C5.out.2.2.2 ?_; intro v5 w5 hown hgrow hnil; have HO := Lib.hid (And.intro hown hgrow); clear hown hgrow hnil)
              go_meet
              exact fin _ _ HO.out.1 ((Below.refl _ _).grown HO.out.2 C5.out.2.2.2 (own_block C5.out.1))
          case rest =>
            clear C4 C5
            clear hTq
            have hst := hcut
            obtain ⟨hbw, hB5, hh, hown⟩ := hcut
            obtain ⟨p4, g4, c4, rfl, hc1, hc2, hl4, hn4⟩ := own_lies hown
            have hxr : ∀ i, 0 ≤ catX L X (q + 1) i ∧ catX L X (q + 1) i ≤ 255 := catX_range L X (q + 1) (fun r hr => R.out.byte r (by omega))
            have hk4 : Both wc := SL.out.below hbw
            have F1 := Lib.hid (hsum_any b (catX L X (q + 1)) hxr (sumTo L (q + 1)) (by omega) _ hh hk4.2)
            have F3 : Hid (∀ wx, Below wc.heap.size wc wx → Calls Tryd.prog 12 #[.slice p4 (sumTo L (q + 1)) c4] wx fun e w' => e = .returned (.agg (arr 32 (sha (catX L X (q + 1)) (sumTo L (q + 1))))) ∧ Below wx.heap.size wx w') := Lib.hid fun wx h => ref_sum_any p4 g4 0 (sumTo L (q + 1)) c4 (catX L X (q + 1)) hxr (by omega) hn4 wx (hl4.below h)
            have sm := sum_same (catX L X (q + 1)) (sumTo L (q + 1))
            have HS := Lib.hid hst
            clear hst hbw hB5 hh hown hl4 hn4 hk4 hxr
            go_wp2_with (first
              | (go_at_call 19; with_reducible refine F1.out.mono ?_; rintro e w6 ⟨rfl, hb6⟩)
              | (go_at_call 12; with_reducible refine (F3.out _ hb6).mono ?_; rintro e w7 ⟨rfl, hb7⟩))
            go_roundg (gk - 1)
            case measure => omega
            case rel => exact ⟨q + 1, by omega, by omega, by go_num, HS.out.below HS.out.1.size (hb6.trans (hb7.mono hb6.size))⟩
    · obtain rfl : q = len := by omega
      obtain ⟨hbw, hB, hh, hown⟩ := hst
      have hT := Nat.le_trans (sumTo_mono L (Nat.le_refl q)) R.out.total
      obtain ⟨p4, g4, c4, rfl, hc1, hc2, hl4, hn4⟩ := own_lies hown
      have hxr : ∀ i, 0 ≤ catX L X q i ∧ catX L X q i ≤ 255 := catX_range L X q (fun r hr => R.out.byte r (by omega))
      have hk4 : Both wr := SL.out.below hbw
      have F1 : Hid (∀ wx, Below wr.heap.size wr wx → Calls Tryd.prog 19 #[.pointer (some ⟨b, 0, none⟩)] wx fun e w' => e = .returned (.agg (arr 32 (sha (catX L X q) (sumTo L q)))) ∧ Below wx.heap.size wx w') := Lib.hid fun wx h => hsum_any b (catX L X q) hxr (sumTo L q) (by omega) wx (hh.below h) (hk4.below h).2
      have F2 : Hid (∀ wx, Below wr.heap.size wr wx → Calls Tryd.prog 11 #[.slice p4 (sumTo L q) c4] wx fun e w' => e = .returned (.agg (arr 32 (sha (catX L X q) (sumTo L q)))) ∧ Below wx.heap.size wx w') := Lib.hid fun wx h => sum_any p4 g4 0 (sumTo L q) c4 (catX L X q) hxr (by omega) hc1 (by unfold maxLen at hc2; omega) wx (hl4.below h) (hk4.below h)
      have F3 : Hid (∀ wx, Below wr.heap.size wr wx → Calls Tryd.prog 12 #[.slice p4 (sumTo L q) c4] wx fun e w' => e = .returned (.agg (arr 32 (sha (catX L X q) (sumTo L q)))) ∧ Below wx.heap.size wx w') := Lib.hid fun wx h => ref_sum_any p4 g4 0 (sumTo L q) c4 (catX L X q) hxr (by omega) hn4 wx (hl4.below h)
      have sm := sum_same (catX L X q) (sumTo L q)
      have HB := Lib.hid hbw
      clear hbw hB hh hown hl4 hn4 hk4 hxr
      go_wp2_with (first
        | (go_at_call 19; with_reducible refine (F1.out _ (Below.refl _ _)).mono ?_; rintro e w4 ⟨rfl, hb4⟩)
        | (go_at_call 11; with_reducible refine (F2.out _ hb4).mono ?_; rintro e w5 ⟨rfl, hb5⟩; have hc5 := hb4.trans (hb5.mono hb4.size))
        | (go_at_call 19; with_reducible refine (F1.out _ hc5).mono ?_; rintro e w6 ⟨rfl, hb6⟩; have hc6 := hc5.trans (hb6.mono hc5.size))
        | (go_at_call 12; with_reducible refine (F3.out _ hc6).mono ?_; rintro e w7 ⟨rfl, hb7⟩; have hc7 := hc6.trans (hb7.mono hc6.size)))
      go_ret
      exact ⟨rfl, HB.out.trans (hc7.mono HB.out.size)⟩


theorem contract (H : Type) (enc : TypeId × Value → H) (W : World) (base : Nat) (args : Array Value) (ds gs : List (DataW H)) (before : List MemPlace)
    (hval : ∀ (j : Nat) t v, Tryd.f4.params[j]? = some t → args[j]? = some v → Value.okWide Tryd.prog W .any base t v)
    (hW : DataW.Whole enc Tryd.prog Tryd.f4.params.toList Rows.shaWritesSpec.vars false W args.toList ds gs before) (hk : Rows.uptoSmall H (ds ++ gs) = true) (hL : laidMetH Tryd.prog shaLaid W) :
    Calls Tryd.prog 4 args W fun e W' => ∃ v, e = .returned v ∧ Rows.shaWritesSpec.post enc Tryd.prog Tryd.f4 false true false false W args v W' := by
  have hW' := hW
  obtain ⟨p, q, hA0, hV, rfl, hfz, hnd⟩ := hW
  have hA : DataW.TrodAll enc Tryd.prog W 0 (fun _ => true) true Tryd.f4.params.toList args.toList ds p := hA0
  rw [Tryd.params4] at hA hval
  obtain ⟨v0, vs0, d0, ds0, p0, q0, hargs, rfl, rfl, h0, r0⟩ := trodAll_cons hA
  obtain ⟨rfl, rfl, rfl⟩ := trodAll_nil r0
  obtain rfl : args = #[v0] := by cases args; simp_all
  obtain ⟨rfl, rfl⟩ := trodVars_none hV
  have k0 := h0
  have lt0 : ∀ x ∈ p0, x.block < W.heap.size := by obtain ⟨m, hm⟩ := k0; exact DataW.trod_lt m _ _ _ hm
  have hb : Rows.uptoBulkAll [d0] ≤ 1048576 := of_decide_eq_true hk
  simp only [Rows.uptoBulkAll] at hb
  obtain ⟨al, gl, ol, len, cap, A, L, C, G, O, X, hR⟩ := open_rows (hval 0 29 v0 rfl rfl) h0 (by omega)
  obtain rfl := hR.form
  clear hA0
  refine (walk_any al gl ol len cap A L C G O X W hR (of_sha hL)).mono fun e W' ⟨he, bel⟩ => ?_
  subst he
  exact ⟨_, rfl, _, _, _, [], _, [], hW', trodAll_mk1 (shut_bool Tryd.underlying4 _), (trodAll_cons_mk (Below.trod laidOut (by kernel_rfl) (of_decide_eq_true (by kernel_rfl)) k0 bel lt0) trodAll_mk0), rfl, bel.frame _, fun h => by cases h⟩

theorem reads (os : Os) {H : Type} (enc : TypeId × Value → H) : ∃ places, DataW.whole enc Tryd.prog ((World.doorLaid Tryd.prog 400 os).forCall (fun _ _ => 0) ⟨#[], #[.slice none 0 0], []⟩).memory Tryd.f4.params.toList Rows.shaWritesSpec.vars false #[Value.slice none 0 0].toList 8 = some ([.nil], [], places) :=
  ⟨[], by kernel_rfl⟩

set_option maxRecDepth 100000 in
theorem lifted (os : Os) (started : os.Started) (H : Type) (enc : TypeId × Value → H) (F : Stop.Interp) :
    ReturnsInHanded {} Tryd.checked os 4 .any ((Rows.OpenSpec.upto Rows.shaWritesSpec).preRow enc Tryd.prog Tryd.f4 Rows.shaWritesUptoRow.domain false Rows.shaWritesUptoRow.laid) (((Rows.OpenSpec.upto Rows.shaWritesSpec).at F).post enc Tryd.prog Tryd.f4 false true false false) := by
  obtain ⟨places, hx⟩ := reads os enc
  refine returnsInHanded_of_row (C := Tryd.checked) (s := Rows.OpenSpec.upto Rows.shaWritesSpec) own started (by kernel_rfl) Tryd.func4
    (witness_row_at (enc := enc) (C := Tryd.checked) false (World.doorLaid Tryd.prog 400 os) #[.slice none 0 0] rfl (by kernel_rfl) (by kernel_rfl) (by kernel_rfl)
      (OpenSpec.preRow_of_cond 8 hx (by kernel_rfl) (fun k hk => by cases hk; kernel_rfl) (by kernel_rfl) (sha_door_met os _))) ?_
  intro W base args ds gs before hval hW _ hcond _ hL _ _
  exact contract H enc W base args ds gs before hval hW (hcond _ rfl) hL

theorem over : Rows.ShaWritesUptoSaid :=
  OpenClaim.holds_of_cond 4 Tryd.f4 rfl rfl rfl rfl rfl rfl rfl ⟨rfl, rfl, rfl, rfl, rfl⟩ rfl rfl rfl rfl rfl (by kernel_rfl) Tryd.func4 (by kernel_rfl)
    (of_decide_eq_true (by kernel_rfl)) (by unfold Func.isWrapper; first | (rw [if_pos (by decide +kernel)]; kernel_rfl) | (rw [if_neg (by decide +kernel)]; exact ⟨rfl, rfl⟩))
    (fun os started H enc _ F => by rw [OpenClaim.pre_eq_preRow]; exact lifted os started H enc F)

/-- The tied card. -/
theorem card_holds : Rows.ShaWritesUptoCardSaid :=
  Claim7.holds_tied_plain_at .later [] [.data, .data] true (true, "8bf501e6a99cedb24af6d1d4e089c80a65d2267ee2cfdf8541ccf78d031baa76") false
    over (fun _ h => by cases h) (by kernel_rfl) (fun _ h => by cases h) shaWritesUpto_row_tie rfl ⟨rfl, rfl⟩ (by kernel_rfl) rfl
    (fun f fn hf hfn => by
      obtain rfl : f = 4 := Option.some.inj ((show Tryd.prog.funcNamed "sporran/sporranlaw01.ShaWrites" = some 4 by kernel_rfl).symm.trans hf) |>.symm
      obtain rfl : fn = Tryd.f4 := (Option.some.inj (Tryd.func4.symm.trans hfn)).symm
      exact ⟨by kernel_rfl, fun j t ht => by
        rw [Tryd.params4] at ht
        have hm : t ∈ [29] := by simpa using Array.mem_of_getElem? ht
        have hall : ([29].all fun u => !Tryd.prog.wantsStandIn u) = true := by kernel_rfl
        exact (show Tryd.prog.wantsStandIn t = false by simpa using List.all_eq_true.1 hall t hm)⟩)
    (by kernel_rfl)
#print axioms card_holds
end Go.Proofs.YtbiobejfjhmccaaDoor.shaWrites
