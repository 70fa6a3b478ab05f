/- The document's mix: of eight words and a block of 64 bytes it returns SHA-256's eight words behind that block; what lay in memory stays. -/
import Derived.Test.YtghjgkgfpblijaaDoorSConst
import Derived.Lib.QuietBelow
set_option maxRecDepth 100000
namespace Go.Proofs.YtghjgkgfpblijaaDoor.S
open Go.RowKit Go.Lib Go.Sort
attribute [local go_sem ↓] Go.wp_at_zero Go.wp_at_succ

def rv (s : R8) : Nat → Value := fun i => .int .u32 (s.nth i)

/-- The 64 words of a block as cells; noughts. -/
def wv (x : Nat → Int) : Nat → Value := fun i => .int .u32 (W x i)
def zv : Nat → Value := fun _ => .int .u32 0

set_option maxRecDepth 100000 in
set_option maxHeartbeats 2000000 in
theorem ref_mix_any (g o c : Nat) (x : Nat → Int) (hx : ∀ i, 0 ≤ x i ∧ x i ≤ 255) (s : R8) (hs : s.In) (w : World) (hl : ∀ i, i < 64 → w.cell? ⟨g, o + i, none⟩ = some (.int .u8 (x i))) :
    Calls Tryd.prog 60 #[.agg (arr 8 (rv s)), .slice (some ⟨g, o, none⟩) 64 c] w fun e w' => e = .returned (.agg (arr 8 (rv (compress s x)))) ∧ Below w.heap.size w w' := by
  have HL := Lib.hid hl
  have HX := Lib.hid hx
  have HS := Lib.hid hs
  clear hl hx hs
  go_enter Tryd.func60, Tryd.ntmps60
  go_upto_region 1 with fail
  go_cut [5] (fun s5 wx => ∃ b5, s5 = .pointer (some ⟨b5, 0, none⟩) ∧ w.heap.size + 2 ≤ b5 ∧ Below w.heap.size w wx ∧ HasAt w.heap.size 77 8 (rv s) wx ∧ HasAt (w.heap.size + 1) 77 8 zv wx ∧ HasAt b5 87 64 (wv x) wx)
  case first =>
    have k1 : HasAt w.heap.size 77 8 (rv s) ((w.alloc (.cells (arr 8 (rv s)) 77)).alloc (.cells (arr 8 zv) 77)) := (HasAt.new w (rv s) 8 77).alloc _
    have k2 : HasAt (w.heap.size + 1) 77 8 zv ((w.alloc (.cells (arr 8 (rv s)) 77)).alloc (.cells (arr 8 zv) 77)) := by
      have h := HasAt.new (w.alloc (.cells (arr 8 (rv s)) 77)) zv 8 77
      have e : (w.alloc (.cells (arr 8 (rv s)) 77)).heap.size = w.heap.size + 1 := by simp
      rw [e] at h
      exact h
    have k3 : Below w.heap.size w ((w.alloc (.cells (arr 8 (rv s)) 77)).alloc (.cells (arr 8 zv) 77)) := (below_new w _).trans ((below_new _ _).mono (by simp))
    have k4 : ((w.alloc (.cells (arr 8 (rv s)) 77)).alloc (.cells (arr 8 zv) 77)).heap.size = w.heap.size + 2 := by simp
    have HK : Hid (HasAt w.heap.size 77 8 (rv s) ((w.alloc (.cells (arr 8 (rv s)) 77)).alloc (.cells (arr 8 zv) 77)) ∧ HasAt (w.heap.size + 1) 77 8 zv ((w.alloc (.cells (arr 8 (rv s)) 77)).alloc (.cells (arr 8 zv) 77)) ∧
      Below w.heap.size w ((w.alloc (.cells (arr 8 (rv s)) 77)).alloc (.cells (arr 8 zv) 77)) ∧ ((w.alloc (.cells (arr 8 (rv s)) 77)).alloc (.cells (arr 8 zv) 77)).heap.size = w.heap.size + 2) := Lib.hid ⟨k1, k2, k3, k4⟩
    have HC : Hid (∀ i, i < 64 → ((w.alloc (.cells (arr 8 (rv s)) 77)).alloc (.cells (arr 8 zv) 77)).cell? ⟨g, o + i, none⟩ = some (.int .u8 (x i))) := Lib.hid (fun i hi => cell_alloc (cell_alloc (HL.out i hi)))
    clear k1 k2 k3 k4
    change Code.wp _ _ _ _ ((w.alloc (.cells (arr 8 (rv s)) 77)).alloc (.cells (arr 8 zv) 77))
    generalize (w.alloc (.cells (arr 8 (rv s)) 77)).alloc (.cells (arr 8 zv) 77) = w1 at *
    go_wp2_with (first
      | (go_at_call 68; refine (ref_spread_any g o c x HX.out _ HC.out).mono ?_; rintro e w2 ⟨rfl, hb⟩)
      | (refine wpList_store_all rfl 87 (.tmp 5) (.tmp 14) rfl w2.heap.size 64 rfl 87 zv (wv x) (HasAt.new w2 zv 64 87) rfl (by kernel_rfl) (fun _ => rfl) ?_; intro w3 hh ho))
    go_meet
    have hs := HK.out.2.2.2
    have hz := hb.size
    refine ⟨_, rfl, by omega, HK.out.2.2.1.trans ((hb.mono (by omega)).trans ((below_new w2 _).mono (by omega) |>.trans (ho.below (by omega) (by simp; omega)))), ?_, ?_, hh⟩
    · exact ((HK.out.1.below hb).alloc _).only ho (by omega)
    · exact ((HK.out.2.1.below hb).alloc _).only ho (by omega)
  case rest =>
    obtain ⟨b5, rfl, h5, hb, hA, hB, hC⟩ := hcut
    have hlt := hC.lt
    go_upto_region 2 with fail
    go_cut [5, 6] (fun s5 s6 wx => s5 = .pointer (some ⟨b5, 0, none⟩) ∧ ∃ b6, s6 = .pointer (some ⟨b6, 0, none⟩) ∧ b5 < b6 ∧ Below w.heap.size w wx ∧ HasAt w.heap.size 77 8 (rv s) wx ∧ HasAt (w.heap.size + 1) 77 8 zv wx ∧ HasAt b5 87 64 (wv x) wx ∧ HasAt b6 77 8 (rv s) wx)
    case first =>
      have H := Lib.hid (And.intro hb (And.intro hA (And.intro hB hC)))
      clear hb hA hB hC
      go_wp2_with (first
        | (with_reducible refine wpList_load_all rfl 77 (.tmp 2) rfl w.heap.size 8 rfl 77 (rv s) H.out.2.1 _ Tryd.underlying77 rfl (by kernel_rfl) ?_)
        | (refine wpList_store_all rfl 77 (.tmp 6) (.tmp 15) rfl wc.heap.size 8 rfl 77 zv (rv s) (HasAt.new wc zv 8 77) rfl (by kernel_rfl) (fun _ => rfl) ?_; intro w3 hh ho))
      go_meet
      have hz := H.out.1.size
      refine ⟨rfl, _, rfl, hlt, H.out.1.trans ((below_new wc _).mono (by omega) |>.trans (ho.below (by omega) (by simp; omega))), ?_, ?_, ?_, hh⟩
      · exact (H.out.2.1.alloc _).only ho (by omega)
      · exact (H.out.2.2.1.alloc _).only ho (by have := H.out.2.2.1.lt; omega)
      · exact (H.out.2.2.2.alloc _).only ho (by omega)
    case rest =>
      obtain ⟨rfl, b6, rfl, h6, hb, hA, hB, hC, hD⟩ := hcut
      obtain ⟨wo, rfl⟩ : ∃ wo : World, wo = wc := ⟨_, rfl⟩
      have H0 := Lib.hid (And.intro hb (And.intro hA (And.intro hB (And.intro hC hD))))
      clear hb hA hB hC hD
      go_wp2
      go_loopg [16] 64 (fun k i wr => ∃ j : Nat, j + k = 64 ∧ i = .int .i64 (j : Int) ∧ Below w.heap.size w wr ∧ HasAt w.heap.size 77 8 (rv s) wr ∧ HasAt (w.heap.size + 1) 77 8 zv wr ∧ HasAt b5 87 64 (wv x) wr ∧ HasAt b6 77 8 (rv (rnds x s j)) wr)
      case atStart => exact ⟨0, by omega, rfl, H0.out⟩
      case round =>
        clear H0
        obtain ⟨j, hj, rfl, hb, hA, hB, hC, hD⟩ := hrel
        obtain ⟨kk, rfl⟩ : ∃ kk : Nat, kk = gk := ⟨_, rfl⟩
        by_cases hlt : j < 64
        · obtain ⟨t, ht⟩ : ∃ t, t = rnds x s j := ⟨_, rfl⟩
          have tin : t.In := by rw [ht]; exact rnds_in x s HS.out j
          rw [← ht] at hD
          have HTT := Lib.hid ht
          have HIN := Lib.hid tin
          have facts : ∀ wz, HasAt b5 87 64 (wv x) wz → HasAt b6 77 8 (rv t) wz → (wz.cell? ⟨b6, 0, none⟩ = some (.int .u32 t.a) ∧ wz.cell? ⟨b6, 1, none⟩ = some (.int .u32 t.b) ∧ wz.cell? ⟨b6, 2, none⟩ = some (.int .u32 t.c) ∧
            wz.cell? ⟨b6, 4, none⟩ = some (.int .u32 t.e) ∧ wz.cell? ⟨b6, 5, none⟩ = some (.int .u32 t.f) ∧ wz.cell? ⟨b6, 6, none⟩ = some (.int .u32 t.g) ∧ wz.cell? ⟨b6, 7, none⟩ = some (.int .u32 t.h) ∧ wz.cell? ⟨b5, j, none⟩ = some (.int .u32 (W x j))) :=
            fun wz hC hD => ⟨hD.cell 0 (by omega), hD.cell 1 (by omega), hD.cell 2 (by omega), hD.cell 4 (by omega), hD.cell 5 (by omega), hD.cell 6 (by omega), hD.cell 7 (by omega), hC.cell j hlt⟩
          have HF := Lib.hid facts
          clear ht tin facts
          obtain ⟨c0, c1, c2, c4, c5, c6, c7, cw⟩ := HF.out wr hC hD
          have H := Lib.hid (And.intro hb (And.intro hA (And.intro hB (And.intro hC hD))))
          have T1 : ∀ (wz : World) (y : Int) (n m : Nat), n ≤ 31 → In32 y → Calls Tryd.prog 69 #[.int .u32 y, .int .i64 n] (wz.drewN m) fun e w'' => e = .returned (.int .u32 (rotr y n)) ∧ ∃ k, w'' = wz.drewN k := fun wz y n m hn hy =>
            Calls.quiet_of_same ((turned_any y n hn hy (wz.drewN m)).mono fun e w' ⟨he, hw⟩ => ⟨he, hw.symm⟩)
          have HT := Lib.hid T1
          clear hb hA hB hC hD T1
          go_upto_region 6 with fail
          go_cut [8] (fun s8 wx => s8 = .int .u32 (big1 t.e) ∧ ∃ nq, wx = wr.drewN nq)
          case first =>
            have T6 : Hid (∀ m, Calls Tryd.prog 69 #[.int .u32 t.e, .int .i64 6] (wr.drewN m) fun e w'' => e = .returned (.int .u32 (rotr t.e 6)) ∧ ∃ k, w'' = wr.drewN k) := Lib.hid (fun m => HT.out wr t.e 6 m (by omega) HIN.out.e)
            have T11 : Hid (∀ m, Calls Tryd.prog 69 #[.int .u32 t.e, .int .i64 11] (wr.drewN m) fun e w'' => e = .returned (.int .u32 (rotr t.e 11)) ∧ ∃ k, w'' = wr.drewN k) := Lib.hid (fun m => HT.out wr t.e 11 m (by omega) HIN.out.e)
            have T25 : Hid (∀ m, Calls Tryd.prog 69 #[.int .u32 t.e, .int .i64 25] (wr.drewN m) fun e w'' => e = .returned (.int .u32 (rotr t.e 25)) ∧ ∃ k, w'' = wr.drewN k) := Lib.hid (fun m => HT.out wr t.e 25 m (by omega) HIN.out.e)
            go_quiet ((first | with_reducible exact T6.out _ | with_reducible exact T11.out _ | with_reducible exact T25.out _))
            go_wp2_with fail
            go_meet
            exact ⟨rfl, _, rfl⟩
          case rest =>
            obtain ⟨rfl, nq, rfl⟩ := hcut
            have g4 := fun d os => cell_regrown (w := wr.drewN nq) (show (wr.drewN nq).cell? _ = _ from c4) d os
            have g5 := fun d os => cell_regrown (w := wr.drewN nq) (show (wr.drewN nq).cell? _ = _ from c5) d os
            have g6 := fun d os => cell_regrown (w := wr.drewN nq) (show (wr.drewN nq).cell? _ = _ from c6) d os
            have g7 := fun d os => cell_regrown (w := wr.drewN nq) (show (wr.drewN nq).cell? _ = _ from c7) d os
            have gw := fun d os => cell_regrown (w := wr.drewN nq) (show (wr.drewN nq).cell? _ = _ from cw) d os
            clear c0 c1 c2 c4 c5 c6 c7 cw
            have u3 : (↑j : Int) < 64 := by omega
            have u4 : (0 : Int) ≤ ↑j := by omega
            go_upto_region 7 with fail
            go_cut [9] (fun s9 wx => s9 = .int .u32 (t1 t (kWord j) (W x j)) ∧ Below wr.heap.size wr wx)
            case first =>
              refine wp_region_quiet_below (by kernel_rfl) (by kernel_rfl) ?_
              repeat (quiet_step (exact Calls.regrown_of (constant_any j hlt _)))
              refine wpQuiet_nil ?_
              intro _ hw'
              obtain ⟨⟨dq, osq⟩, hw''⟩ := hw'
              subst hw''
              go_wp2_with fail
              go_meet
              have hbb := below_regrown (wr.drewN nq) dq osq
              exact ⟨rfl, ⟨hbb.os, hbb.tape, hbb.output, hbb.size, hbb.block⟩⟩
            case rest =>
              obtain ⟨rfl, hbw⟩ := hcut
              obtain ⟨w3, rfl⟩ : ∃ w3 : World, w3 = wc := ⟨_, rfl⟩
              have H3 : Hid (Below w.heap.size w w3 ∧ HasAt w.heap.size 77 8 (rv s) w3 ∧ HasAt (w.heap.size + 1) 77 8 zv w3 ∧ HasAt b5 87 64 (wv x) w3 ∧ HasAt b6 77 8 (rv t) w3) :=
                Lib.hid ⟨H.out.1.trans (hbw.mono H.out.1.size), H.out.2.1.below hbw, H.out.2.2.1.below hbw, H.out.2.2.2.1.below hbw, H.out.2.2.2.2.below hbw⟩
              clear hbw g4 g5 g6 g7 gw H
              obtain ⟨c0, c1, c2, _, _, _, _, _⟩ := HF.out w3 H3.out.2.2.2.1 H3.out.2.2.2.2
              go_upto_region 8 with fail
              go_cut [9, 10] (fun s9 s10 wx => s9 = .int .u32 (t1 t (kWord j) (W x j)) ∧ s10 = .int .u32 (t2 t) ∧ ∃ nq, wx = w3.drewN nq)
              case first =>
                have T2 : Hid (∀ m, Calls Tryd.prog 69 #[.int .u32 t.a, .int .i64 2] (w3.drewN m) fun e w'' => e = .returned (.int .u32 (rotr t.a 2)) ∧ ∃ k, w'' = w3.drewN k) := Lib.hid (fun m => HT.out w3 t.a 2 m (by omega) HIN.out.a)
                have T13 : Hid (∀ m, Calls Tryd.prog 69 #[.int .u32 t.a, .int .i64 13] (w3.drewN m) fun e w'' => e = .returned (.int .u32 (rotr t.a 13)) ∧ ∃ k, w'' = w3.drewN k) := Lib.hid (fun m => HT.out w3 t.a 13 m (by omega) HIN.out.a)
                have T22 : Hid (∀ m, Calls Tryd.prog 69 #[.int .u32 t.a, .int .i64 22] (w3.drewN m) fun e w'' => e = .returned (.int .u32 (rotr t.a 22)) ∧ ∃ k, w'' = w3.drewN k) := Lib.hid (fun m => HT.out w3 t.a 22 m (by omega) HIN.out.a)
                go_quiet ((first | with_reducible exact T2.out _ | with_reducible exact T13.out _ | with_reducible exact T22.out _))
                go_wp2_with fail
                go_meet
                exact ⟨rfl, rfl, _, rfl⟩
              case rest =>
                obtain ⟨rfl, rfl, nq2, rfl⟩ := hcut
                clear c0 c1 c2
                have H4 : Hid (Below w.heap.size w (w3.drewN nq2) ∧ HasAt w.heap.size 77 8 (rv s) (w3.drewN nq2) ∧ HasAt (w.heap.size + 1) 77 8 zv (w3.drewN nq2) ∧ HasAt b5 87 64 (wv x) (w3.drewN nq2) ∧ HasAt b6 77 8 (fun i => .int .u32 (moved t 7 i)) (w3.drewN nq2)) :=
                  Lib.hid ⟨⟨H3.out.1.os, H3.out.1.tape, H3.out.1.output, H3.out.1.size, H3.out.1.block⟩, H3.out.2.1, H3.out.2.2.1, H3.out.2.2.2.1, HasAt.to (f := rv t) H3.out.2.2.2.2 (fun i hi => by unfold rv; rw [moved_7 t i hi])⟩
                clear H3
                generalize w3.drewN nq2 = w4 at *
                obtain ⟨ko, rfl⟩ : ∃ ko : Nat, ko = kk := ⟨_, rfl⟩
                obtain ⟨wq, rfl⟩ : ∃ wq : World, wq = wr := ⟨_, rfl⟩
                go_wp2
                go_loopg [11] 7 (fun k i wi => i = .int .i64 (k : Int) ∧ k ≤ 7 ∧ Below w.heap.size w wi ∧ HasAt w.heap.size 77 8 (rv s) wi ∧ HasAt (w.heap.size + 1) 77 8 zv wi ∧ HasAt b5 87 64 (wv x) wi ∧ HasAt b6 77 8 (fun i => .int .u32 (moved t k i)) wi)
                case atStart => exact ⟨rfl, by omega, H4.out⟩
                case round =>
                  clear H4
                  obtain ⟨rfl, hk7, hb, hA, hB, hC, hD⟩ := hrel
                  by_cases hpos : 0 < gk
                  · have c1 : wr.cell? ⟨b6, gk - 1, none⟩ = some (.int .u32 (t.nth (gk - 1))) := by
                      have h1 := hD.cell (gk - 1) (by omega)
                      rw [moved_low t gk (gk - 1) (by omega)] at h1
                      exact h1
                    have c2 : wr.cell? ⟨b6, gk, none⟩ = some (.int .u32 (moved t gk gk)) := hD.cell gk (by omega)
                    have f2 := hD.free gk
                    have H := Lib.hid (And.intro hb (And.intro hA (And.intro hB (And.intro hC hD))))
                    clear hb hA hB hC hD
                    go_wp2
                    go_roundg (gk - 1)
                    case measure => omega
                    case rel =>
                      refine ⟨congrArg (Value.int .i64) (by omega), by omega, H.out.1.setCell (by simp; omega) _, H.out.2.1.other _ _ (by simp; omega), H.out.2.2.1.other _ _ (by simp; omega), H.out.2.2.2.1.other _ _ (by simp; omega), H.out.2.2.2.2.set gk _ (fun i hi => ?_)⟩
                      unfold upd
                      by_cases e : i = gk
                      · subst e
                        rw [if_pos rfl]
                        have := moved_at t (i - 1)
                        rw [show i - 1 + 1 = i by omega] at this
                        rw [this]
                      · rw [if_neg e]
                        have := moved_step t (gk - 1) i (by omega)
                        rw [show gk - 1 + 1 = gk by omega] at this
                        show Value.int .u32 (moved t gk i) = Value.int .u32 (moved t (gk - 1) i)
                        rw [this]
                  · obtain rfl : gk = 0 := by omega
                    have c0 : wr.cell? ⟨b6, 0, none⟩ = some (.int .u32 (moved t 0 0)) := hD.cell 0 (by omega)
                    have c4 : wr.cell? ⟨b6, 4, none⟩ = some (.int .u32 t.d) := hD.cell 4 (by omega)
                    have f0 := hD.free 0
                    have f4 := hD.free 4
                    have H := Lib.hid (And.intro hb (And.intro hA (And.intro hB (And.intro hC hD))))
                    clear hb hA hB hC hD
                    go_wp2
                    go_roundg (ko - 1)
                    case measure => omega
                    case rel =>
                      refine ⟨j + 1, by omega, by go_num, (H.out.1.setCell (by simp; omega) _).setCell (by simp; omega) _, (H.out.2.1.other _ _ (by simp; omega)).other _ _ (by simp; omega), (H.out.2.2.1.other _ _ (by simp; omega)).other _ _ (by simp; omega), (H.out.2.2.2.1.other _ _ (by simp; omega)).other _ _ (by simp; omega),
                        (H.out.2.2.2.2.set 0 _ (fun _ _ => rfl)).set 4 _ (fun i hi => ?_)⟩
                      rw [rnds, ← HTT.out]
                      unfold upd rv
                      by_cases e4 : i = 4
                      · subst e4; rfl
                      · rw [if_neg e4]
                        by_cases e0 : i = 0
                        · subst e0; rfl
                        · rw [if_neg e0]
                          show Value.int .u32 (moved t 0 i) = _
                          rw [moved_0 t (kWord j) (W x j) i hi e0 e4]
        · obtain rfl : j = 64 := by omega
          obtain ⟨t, ht⟩ : ∃ t, t = rnds x s 64 := ⟨_, rfl⟩
          rw [← ht] at hD
          have HTT := Lib.hid ht
          have H0 := Lib.hid (And.intro hb (And.intro hA (And.intro hB (And.intro hC hD))))
          clear ht hb hA hB hC hD
          go_wp2
          go_loopg [103] 8 (fun k i wi => ∃ q : Nat, q + k = 8 ∧ i = .int .i64 (q : Int) ∧ Below w.heap.size w wi ∧ HasAt w.heap.size 77 8 (rv s) wi ∧ HasAt (w.heap.size + 1) 77 8 zv wi ∧ HasAt b6 77 8 (fun i => .int .u32 (if i < q then IntKind.u32.wrap (t.nth i + s.nth i) else t.nth i)) wi)
          case atStart => exact ⟨0, by omega, rfl, H0.out.1, H0.out.2.1, H0.out.2.2.1, H0.out.2.2.2.2.to (fun i hi => by rw [if_neg (by omega)]; rfl)⟩
          case round =>
            clear H0
            obtain ⟨q, hq, rfl, hb, hA, hB, hD⟩ := hrel
            by_cases hl8 : q < 8
            · have c1 : wr.cell? ⟨b6, q, none⟩ = some (.int .u32 (t.nth q)) := by
                have h1 := hD.cell q hl8
                rw [if_neg (by omega)] at h1
                exact h1
              have c2 : wr.cell? ⟨w.heap.size, q, none⟩ = some (.int .u32 (s.nth q)) := hA.cell q hl8
              have f1 := hD.free q
              have H := Lib.hid (And.intro hb (And.intro hA (And.intro hB hD)))
              clear hb hA hB hD
              go_wp2
              go_region
              all_goals
                go_wp2
                go_roundg (gk - 1)
                case measure => omega
                case rel =>
                  refine ⟨q + 1, by omega, by go_num, (H.out.1.setCell (by simp; omega) _).drew, (H.out.2.1.other _ _ (by simp; omega)).drew, (H.out.2.2.1.other _ _ (by simp; omega)).drew, (H.out.2.2.2.set q _ (fun i hi => ?_)).drew⟩
                  unfold upd
                  by_cases e : i = q
                  · subst e; rw [if_pos rfl, if_pos (by omega)]
                    first | rfl | rw [IntKind.wrap_u32]
                  · rw [if_neg e]
                    dsimp only
                    by_cases e2 : i < q
                    · rw [if_pos e2, if_pos (by omega)]
                    · rw [if_neg e2, if_neg (by omega)]
            · obtain rfl : q = 8 := by omega
              have hD' : HasAt b6 77 8 (rv (compress s x)) wr := hD.to (fun i hi => by
                rw [if_pos hi, compress, ← HTT.out]
                unfold rv
                rw [addS_nth, Int.add_comm])
              have H := Lib.hid (And.intro hb (And.intro hB hD'))
              clear hb hA hB hD hD'
              go_wp2_with (first
                | (with_reducible refine wpList_load_all rfl 77 (.tmp 6) rfl b6 8 rfl 77 (rv (compress s x)) H.out.2.2 _ Tryd.underlying77 rfl (by kernel_rfl) ?_)
                | (with_reducible refine wpList_store_all rfl 77 (.tmp 4) (.tmp 116) rfl (w.heap.size + 1) 8 rfl 77 zv (rv (compress s x)) H.out.2.1 rfl (by kernel_rfl) (fun _ => rfl) ?_; intro w2 hh ho))
              refine bodyPost_ret (v := .agg (arr 8 (rv (compress s x)))) (results_cell_row (fn := Tryd.f60) rfl _ _ (w.heap.size + 1) 77 _ (0, 0) _ rfl hh Tryd.underlying77 rfl (by rw [arr_size]; kernel_rfl)) rfl ⟨rfl, ?_⟩
              exact H.out.1.trans (ho.below (by omega) H.out.1.size)
end Go.Proofs.YtghjgkgfpblijaaDoor.S
