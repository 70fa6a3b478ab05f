/- The document's SHA-256: of any bytes it returns sha; what lay in memory stays. -/
import Derived.Test.YtghjgkgfpblijaaDoorSShaSum
namespace Go.Proofs.YtghjgkgfpblijaaDoor.S
open Go.RowKit Go.Lib
attribute [local go_sem ↓] Go.wp_at_zero Go.wp_at_succ

def zb : Nat → Value := fun _ => .int .u8 0
theorem own_cells {w : World} {base n g cap : Nat} {x : Nat → Int} (h : w.ownsRow base 5 1 (.slice (some ⟨g, 0, none⟩) n cap) n (firstBytes x n)) (i : Nat) (hi : i < n) : w.cell? ⟨g, i, none⟩ = some (.int .u8 (x i)) := by
  obtain ⟨_, h⟩ := h
  rcases h with ⟨h, _⟩ | ⟨g', cap', cur, h, hg, hh, hc, hm, _, ht⟩
  · cases h
  · cases h
    refine cell_of_here hh i ?_
    have e : (cur.toList.take (n * 1))[i]? = (firstBytes x n)[i]? := by rw [ht]
    rw [List.getElem?_take, if_pos (by omega)] at e
    rw [← Array.getElem?_toList, e]
    simp [firstBytes, hi]
theorem own_base {w : World} {base n g cap : Nat} {xs : List Value} (h : w.ownsRow base 5 1 (.slice (some ⟨g, 0, none⟩) n cap) n xs) : base ≤ g ∧ n ≤ cap ∧ cap ≤ maxLen := by
  obtain ⟨g', cap', h1, h2, h3, h4⟩ := own_form h (by intro h; cases h)
  cases h1
  exact ⟨h2, h3, h4⟩

/-- Block g begins with the bytes x. -/
def CellsAre (g n : Nat) (x : Nat → Int) (w : World) : Prop := ∀ i, i < n → w.cell? ⟨g, i, none⟩ = some (.int .u8 (x i))
theorem CellsAre.below {g n : Nat} {x : Nat → Int} {w w' : World} (h : CellsAre g n x w) (hb : Below w.heap.size w w') : CellsAre g n x w' := fun i hi => by
  rw [hb.cell (cell_lt (h i hi))]; exact h i hi
theorem CellsAre.other {g n : Nat} {x : Nat → Int} {w : World} (h : CellsAre g n x w) (a : Addr) (v : Value) (ha : g ≠ a.block) : CellsAre g n x (w.setCell a v) := fun i hi => by
  rw [World.cell?_of_block (w := w) (Below.heap_setCell _ _ _ _ ha)]; exact h i hi
theorem CellsAre.of_heap {g n : Nat} {x : Nat → Int} {w w' : World} (h : CellsAre g n x w) (e : w'.heap = w.heap) : CellsAre g n x w' := fun i hi => by
  rw [World.cell?_of_block (w := w) (by rw [e])]; exact h i hi
theorem CellsAre.only {g b n : Nat} {x : Nat → Int} {w w' : World} (h : CellsAre g n x w) (hb : Only b w w') (hg : g ≠ b) : CellsAre g n x w' := fun i hi => hb.cell (p := ⟨g, i, none⟩) hg (h i hi)
/-- Eight cells, stored one behind the other. -/
def store8 (w : World) (b : Nat) (s : R8) : World := ((((((((w.setCell ⟨b, 0, none⟩ (.int .u32 s.a)).setCell ⟨b, 1, none⟩ (.int .u32 s.b)).setCell ⟨b, 2, none⟩ (.int .u32 s.c)).setCell ⟨b, 3, none⟩ (.int .u32 s.d)).setCell ⟨b, 4, none⟩ (.int .u32 s.e)).setCell ⟨b, 5, none⟩ (.int .u32 s.f)).setCell ⟨b, 6, none⟩ (.int .u32 s.g)).setCell ⟨b, 7, none⟩ (.int .u32 s.h))
theorem store8_has {b : Nat} {T : TypeId} {w : World} {f : Nat → Value} (h : HasAt b T 8 f w) (s : R8) : HasAt b T 8 (rv s) (store8 w b s) := by
  refine ((((((((h.set 0 _ (fun _ _ => rfl)).set 1 _ (fun _ _ => rfl)).set 2 _ (fun _ _ => rfl)).set 3 _ (fun _ _ => rfl)).set 4 _ (fun _ _ => rfl)).set 5 _ (fun _ _ => rfl)).set 6 _ (fun _ _ => rfl)).set 7 _ (fun i hi => ?_))
  match i, hi with
  | 0, _ => rfl
  | 1, _ => rfl
  | 2, _ => rfl
  | 3, _ => rfl
  | 4, _ => rfl
  | 5, _ => rfl
  | 6, _ => rfl
  | 7, _ => rfl
theorem store8_only (w : World) (b : Nat) (s : R8) : Only b w (store8 w b s) :=
  ((((((((Only.refl b w).setCell _ rfl _).setCell _ rfl _).setCell _ rfl _).setCell _ rfl _).setCell _ rfl _).setCell _ rfl _).setCell _ rfl _).setCell _ rfl _

set_option maxRecDepth 100000 in
set_option maxHeartbeats 2000000 in
theorem ref_sum_any (p : Option Addr) (g o n c : Nat) (x : Nat → Int) (hx : ∀ i, 0 ≤ x i ∧ x i ≤ 255) (hn : n ≤ 140737488351232) (hnil : p = none → n = 0 ∧ c = 0) (w : World) (h : Lies w p g o n x) :
    Calls Tryd.prog 43 #[.slice p n c] w fun e w' => e = .returned (.agg (arr 32 (sha x n))) ∧ Below w.heap.size w w' := by
  have HX := Lib.hid (pad_range x hx n)
  have LI := Lib.hid h
  have HNIL := Lib.hid hnil
  have hah := ahead_le n
  have hdv : (ahead n + 8) % 64 = 0 := by have := ahead_mod n; omega
  have HDV := Lib.hid hdv
  clear h hnil hx hdv
  go_enter Tryd.func43, Tryd.ntmps43
  go_upto_region 2 with fail
  go_cut [4] (fun s4 wx => ∃ g1 cap1, s4 = .slice (some ⟨g1, 0, none⟩) (ahead n + 8) cap1 ∧ w.heap.size + 2 ≤ g1 ∧ ahead n + 8 ≤ cap1 ∧ cap1 ≤ maxLen ∧ CellsAre g1 (ahead n + 8) (padByte x n) wx ∧
    Below w.heap.size w wx ∧ HasAt w.heap.size 43 32 zb wx ∧ HasAt (w.heap.size + 1) 77 8 (rv H0) wx)
  case first =>
    have k1 : HasAt w.heap.size 43 32 zb ((w.alloc (.cells (arr 32 zb) 43)).alloc (.cells (arr 8 (rv H0)) 77)) := (HasAt.new w zb 32 43).alloc _
    have k2 : HasAt (w.heap.size + 1) 77 8 (rv H0) ((w.alloc (.cells (arr 32 zb) 43)).alloc (.cells (arr 8 (rv H0)) 77)) := by
      have h := HasAt.new (w.alloc (.cells (arr 32 zb) 43)) (rv H0) 8 77
      have e : (w.alloc (.cells (arr 32 zb) 43)).heap.size = w.heap.size + 1 := by simp
      rw [e] at h
      exact h
    have k3 : Below w.heap.size w ((w.alloc (.cells (arr 32 zb) 43)).alloc (.cells (arr 8 (rv H0)) 77)) := (below_new w _).trans ((below_new _ _).mono (by simp))
    have k4 : ((w.alloc (.cells (arr 32 zb) 43)).alloc (.cells (arr 8 (rv H0)) 77)).heap.size = w.heap.size + 2 := by simp
    have k5 : Lies ((w.alloc (.cells (arr 32 zb) 43)).alloc (.cells (arr 8 (rv H0)) 77)) p g o n x := ⟨LI.out.1, fun i hi => cell_alloc (cell_alloc (LI.out.2 i hi))⟩
    have HK : Hid (HasAt w.heap.size 43 32 zb ((w.alloc (.cells (arr 32 zb) 43)).alloc (.cells (arr 8 (rv H0)) 77)) ∧ HasAt (w.heap.size + 1) 77 8 (rv H0) ((w.alloc (.cells (arr 32 zb) 43)).alloc (.cells (arr 8 (rv H0)) 77)) ∧
      Below w.heap.size w ((w.alloc (.cells (arr 32 zb) 43)).alloc (.cells (arr 8 (rv H0)) 77)) ∧ ((w.alloc (.cells (arr 32 zb) 43)).alloc (.cells (arr 8 (rv H0)) 77)).heap.size = w.heap.size + 2 ∧
      Lies ((w.alloc (.cells (arr 32 zb) 43)).alloc (.cells (arr 8 (rv H0)) 77)) p g o n x) := Lib.hid ⟨k1, k2, k3, k4, k5⟩
    clear k1 k2 k3 k4 k5
    change Code.wp _ _ _ _ ((w.alloc (.cells (arr 32 zb) 43)).alloc (.cells (arr 8 (rv H0)) 77))
    generalize (w.alloc (.cells (arr 32 zb) 43)).alloc (.cells (arr 8 (rv H0)) 77) = w1 at *
    go_wp2_with (go_at_call 59; refine (padded_any p g o n c x hn HNIL.out _ HK.out.2.2.2.2).mono ?_; rintro e w2 ⟨v, rfl, g1, cap1, rfl, hown, hb⟩; have HO := Lib.hid hown; have HB := Lib.hid hb; clear hown hb)
    go_meet
    obtain ⟨q1, q2, q3⟩ := own_base HO.out
    have q4 := HK.out.2.2.2.1
    exact ⟨g1, cap1, rfl, by omega, q2, q3, own_cells HO.out, HK.out.2.2.1.trans (HB.out.mono (by omega)), HK.out.1.below HB.out, HK.out.2.1.below HB.out⟩
  case rest =>
    obtain ⟨g1, cap1, rfl, hg1, hc1, hc2, hcell, hb, hA, hB⟩ := hcut
    obtain ⟨wo, rfl⟩ : ∃ wo : World, wo = wc := ⟨_, rfl⟩
    have H0' := Lib.hid (And.intro hcell (And.intro hb (And.intro hA hB)))
    clear hcell hb hA hB
    unfold maxLen at hc2
    go_wp2
    go_loopg [5] ((ahead n + 8) / 64) (fun k i wr => ∃ j : Nat, j + k = (ahead n + 8) / 64 ∧ i = .int .i64 (64 * (j : Int)) ∧ CellsAre g1 (ahead n + 8) (padByte x n) wr ∧ Below w.heap.size w wr ∧ HasAt w.heap.size 43 32 zb wr ∧ HasAt (w.heap.size + 1) 77 8 (rv (mst (padByte x n) j)) wr)
    case atStart => exact ⟨0, by omega, rfl, H0'.out⟩
    case round =>
      clear H0'
      obtain ⟨j, hj, rfl, hP, hb, hA, hB⟩ := hrel
      by_cases hlt : j < (ahead n + 8) / 64
      · have h64 : 64 * j + 64 ≤ ahead n + 8 := by have := HDV.out; omega
        have hz := hb.size
        obtain ⟨s, hs⟩ : ∃ s, s = mst (padByte x n) j := ⟨_, rfl⟩
        obtain ⟨s', hs'⟩ : ∃ s', s' = compress s (fun i => padByte x n (64 * j + i)) := ⟨_, rfl⟩
        rw [← hs] at hB
        have sin : s.In := by rw [hs]; exact mst_in _ j
        have hmix : ∀ wz, CellsAre g1 (ahead n + 8) (padByte x n) wz → ∀ c, Calls Tryd.prog 60 #[.agg (lit8 s), .slice (some ⟨g1, 64 * j, none⟩) 64 c] wz fun e w' => e = .returned (.agg (lit8 s')) ∧ Below wz.heap.size wz w' := by
          intro wz hz c
          have h1 := ref_mix_any g1 (64 * j) c (fun i => padByte x n (64 * j + i)) (fun i => HX.out _) s sin wz (fun i hi => hz (64 * j + i) (by omega))
          rw [lit8_eq, ← hs', lit8_eq] at h1
          exact h1
        have d0 : wr.cell? ⟨w.heap.size + 1, 0, none⟩ = some (.int .u32 s.a) := hB.cell 0 (by omega)
        have d1 : wr.cell? ⟨w.heap.size + 1, 1, none⟩ = some (.int .u32 s.b) := hB.cell 1 (by omega)
        have d2 : wr.cell? ⟨w.heap.size + 1, 2, none⟩ = some (.int .u32 s.c) := hB.cell 2 (by omega)
        have d3 : wr.cell? ⟨w.heap.size + 1, 3, none⟩ = some (.int .u32 s.d) := hB.cell 3 (by omega)
        have d4 : wr.cell? ⟨w.heap.size + 1, 4, none⟩ = some (.int .u32 s.e) := hB.cell 4 (by omega)
        have d5 : wr.cell? ⟨w.heap.size + 1, 5, none⟩ = some (.int .u32 s.f) := hB.cell 5 (by omega)
        have d6 : wr.cell? ⟨w.heap.size + 1, 6, none⟩ = some (.int .u32 s.g) := hB.cell 6 (by omega)
        have d7 : wr.cell? ⟨w.heap.size + 1, 7, none⟩ = some (.int .u32 s.h) := hB.cell 7 (by omega)
        have HM := Lib.hid hmix
        have HS1 := Lib.hid hs
        have HS2 := Lib.hid hs'
        have H := Lib.hid (And.intro hP (And.intro hb (And.intro hA hB)))
        clear hmix hs hs' hP hb hA hB sin
        unfold lit8 at HM
        have u1 : (0 : Int) ≤ 64 * ↑j := by omega
        have u2 : (64 * (↑j : Int) + 64) ≤ ↑cap1 := by omega
        have u3 : IntKind.i64.wrap (64 * ↑j + 64) = 64 * ↑j + 64 := IntWalk.i64_in _ (by omega)
        have u4 : (64 * (↑j : Int)).toNat = 64 * j := by omega
        have u5 : (64 * (↑j : Int) + 64).toNat = 64 * j + 64 := by omega
        have u6 : 64 * (↑j : Int) ≤ 64 * ↑j + 64 := by omega
        have u7 : (0 : Int) ≤ 64 * ↑j + 64 := by omega
        have u8 : ¬ cap1 = 64 * j := by omega
        have u9 : 64 * j + 64 - 64 * j = 64 := by omega
        go_upto_region 6 with fail
        go_region_with (go_at_call 60; refine (HM.out wr.drew (H.out.1.of_heap rfl) _).mono ?_; rintro e w2 ⟨rfl, hb2⟩; have hB2 : HasAt (w.heap.size + 1) 77 8 (rv s) w2 := H.out.2.2.2.drew.below hb2; have e0 : w2.cell? ⟨w.heap.size + 1, 0, none⟩ = some (.int .u32 s.a) := hB2.cell 0 (by omega); have f0 := hB2.free 0; have e1 : w2.cell? ⟨w.heap.size + 1, 1, none⟩ = some (.int .u32 s.b) := hB2.cell 1 (by omega); have f1 := hB2.free 1; have e2 : w2.cell? ⟨w.heap.size + 1, 2, none⟩ = some (.int .u32 s.c) := hB2.cell 2 (by omega); have f2 := hB2.free 2; have e3 : w2.cell? ⟨w.heap.size + 1, 3, none⟩ = some (.int .u32 s.d) := hB2.cell 3 (by omega); have f3 := hB2.free 3; have e4 : w2.cell? ⟨w.heap.size + 1, 4, none⟩ = some (.int .u32 s.e) := hB2.cell 4 (by omega); have f4 := hB2.free 4; have e5 : w2.cell? ⟨w.heap.size + 1, 5, none⟩ = some (.int .u32 s.f) := hB2.cell 5 (by omega); have f5 := hB2.free 5; have e6 : w2.cell? ⟨w.heap.size + 1, 6, none⟩ = some (.int .u32 s.g) := hB2.cell 6 (by omega); have f6 := hB2.free 6; have e7 : w2.cell? ⟨w.heap.size + 1, 7, none⟩ = some (.int .u32 s.h) := hB2.cell 7 (by omega); have f7 := hB2.free 7; have HB2 := Lib.hid (And.intro hb2 hB2); clear hb2 hB2)
        go_wp2
        go_roundg (gk - 1)
        case measure => omega
        case rel =>
          have q1 : CellsAre g1 (ahead n + 8) (padByte x n) w2 := (CellsAre.of_heap (w' := wr.drew) H.out.1 rfl).below HB2.out.1
          have q2 : Below w.heap.size w w2 := H.out.2.1.drew.trans (HB2.out.1.mono hz)
          have q3 : HasAt w.heap.size 43 32 zb w2 := H.out.2.2.1.drew.below HB2.out.1
          have q4 := store8_only w2 (w.heap.size + 1) s'
          have e1 : mst (padByte x n) (j + 1) = s' := by rw [mst, ← HS1.out, HS2.out]
          refine ⟨j + 1, by omega, congrArg (Value.int .i64) (by omega), ?_, ?_, ?_, ?_⟩
          · exact q1.only q4 (by omega)
          · exact q2.trans (q4.below (by omega) q2.size)
          · exact q3.only q4 (by omega)
          · rw [e1]
            exact store8_has HB2.out.2 s'
      · obtain rfl : j = (ahead n + 8) / 64 := by omega
        obtain ⟨s, hs⟩ : ∃ s, s = mst (padByte x n) ((ahead n + 8) / 64) := ⟨_, rfl⟩
        have sin : s.In := by rw [hs]; exact mst_in _ _
        rw [← hs] at hB
        obtain ⟨wo, rfl⟩ : ∃ wo : World, wo = wr := ⟨_, rfl⟩
        have HS1 := Lib.hid hs
        have HIN := Lib.hid sin
        have H := Lib.hid (And.intro hb (And.intro hA hB))
        have hdv := HDV.out
        have e0 : ¬ (64 * (((ahead n + 8) / 64 : Nat) : Int)) < ↑(ahead n) + 8 := by omega
        clear hs sin hP hb hA hB hdv
        go_upto_region 7 with fail
        go_cut [6] (fun s6 wx => ∃ b6, s6 = .pointer (some ⟨b6, 0, none⟩) ∧ w.heap.size + 1 < b6 ∧ Below w.heap.size w wx ∧ HasAt w.heap.size 43 32 zb wx ∧ HasAt (w.heap.size + 1) 77 8 (rv s) wx ∧ HasAt b6 43 32 zb wx)
        case first =>
          go_wp2_with fail
          go_meet
          have hz := H.out.2.2.lt
          exact ⟨_, rfl, hz, H.out.1.trans ((below_new wo _).mono H.out.1.size), H.out.2.1.alloc _, H.out.2.2.alloc _, HasAt.new wo zb 32 43⟩
        case rest =>
          obtain ⟨b6, rfl, hb6, hb, hA, hB, hC⟩ := hcut
          obtain ⟨wp, rfl⟩ : ∃ wp : World, wp = wc := ⟨_, rfl⟩
          have H1 := Lib.hid (And.intro hb (And.intro hA (And.intro hB hC)))
          clear hb hA hB hC H
          go_wp2
          go_loopg [24] 32 (fun k i wr => ∃ q : Nat, q + k = 32 ∧ i = .int .i64 (q : Int) ∧ Below w.heap.size w wr ∧ HasAt w.heap.size 43 32 zb wr ∧ HasAt (w.heap.size + 1) 77 8 (rv s) wr ∧ HasAt b6 43 32 (fun t => if t < q then digest s t else .int .u8 0) wr)
          case atStart => exact ⟨0, by omega, rfl, H1.out.1, H1.out.2.1, H1.out.2.2.1, H1.out.2.2.2.to (fun t _ => by rw [if_neg (by omega)]; rfl)⟩
          case round =>
            clear H1
            obtain ⟨q, hq, rfl, hb, hA, hB, hC⟩ := hrel
            by_cases hl : q < 32
            · have c1 : wr.cell? ⟨w.heap.size + 1, q / 4, none⟩ = some (.int .u32 (s.nth (q / 4))) := hB.cell (q / 4) (by omega)
              have c2 : wr.cell? ⟨b6, q, none⟩ = some (.int .u8 0) := by
                have h1 := hC.cell q hl
                rw [if_neg (by omega)] at h1
                exact h1
              have f2 := hC.free q
              have u1 : (0 : Int) ≤ 24 - 8 * (↑q % 4) := by omega
              have u2 : (24 - 8 * ((q : Int) % 4)) ≤ 32 := by omega
              have H := Lib.hid (And.intro hb (And.intro hA (And.intro hB hC)))
              clear hb hA hB hC
              go_wp2
              go_roundg (gk - 1)
              case measure => omega
              case rel =>
                refine ⟨q + 1, by omega, by go_num, H.out.1.setCell (by simp; omega) _, H.out.2.1.other _ _ (by simp; omega), H.out.2.2.1.other _ _ (by simp; omega), H.out.2.2.2.set q _ (fun t ht => ?_)⟩
                unfold upd
                by_cases e : t = q
                · subst e
                  rw [if_pos rfl, if_pos (by omega)]
                  rfl
                · rw [if_neg e]
                  dsimp only
                  by_cases e2 : t < q
                  · rw [if_pos e2, if_pos (by omega)]
                  · rw [if_neg e2, if_neg (by omega)]
            · obtain rfl : q = 32 := by omega
              have hC' : HasAt b6 43 32 (sha x n) wr := hC.to (fun t ht => by rw [if_pos ht, sha, ← HS1.out])
              have H := Lib.hid (And.intro hb (And.intro hA hC'))
              clear hb hA hB hC hC'
              go_wp2_with (first
                | (with_reducible refine wpList_load_all rfl 43 (.tmp 6) rfl b6 32 rfl 43 (sha x n) H.out.2.2 _ Tryd.underlying43 rfl (by kernel_rfl) ?_)
                | (with_reducible refine wpList_store_all rfl 43 (.tmp 2) (.tmp 40) rfl w.heap.size 32 rfl 43 zb (sha x n) H.out.2.1 rfl (by kernel_rfl) (fun _ => rfl) ?_; intro w2 hh ho))
              refine bodyPost_ret (v := .agg (arr 32 (sha x n))) (results_cell_row (fn := Tryd.f43) rfl _ _ w.heap.size 43 _ (0, 0) _ rfl hh Tryd.underlying43 rfl (by rw [arr_size]; kernel_rfl)) rfl ⟨rfl, ?_⟩
              exact H.out.1.trans (ho.below (Nat.le_refl _) H.out.1.size)
end Go.Proofs.YtghjgkgfpblijaaDoor.S
