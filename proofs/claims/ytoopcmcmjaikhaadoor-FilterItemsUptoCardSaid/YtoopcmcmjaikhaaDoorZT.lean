/- Texts of ours, merged: SRound, STake, SRefSip. -/
import Derived.Test.YtoopcmcmjaikhaaDoorZS
import Derived.Test.YtoopcmcmjaikhaaDoorZA
import Derived.RegionTactic
import Derived.ChangeAlike
import Derived.Deep.RegionWith
import Derived.Deep.DrawnRows
import Derived.Deep.DeepCutAuto
import Derived.Deep.LoopGhost
import Derived.Deep.QuietTactic
import Derived.BigQuiet
section
namespace Go.Proofs.YtoopcmcmjaikhaaDoor.S
open Go.RowKit Go.Lib
attribute [local go_sem ↓] Go.wp_at_zero Go.wp_at_succ

set_option maxRecDepth 100000 in
set_option maxHeartbeats 1000000 in
theorem ref_round_any (b : Nat) (s0 : S4) (w : World) (h : w.heap[b]? = some (.cells s0.cells 156 (0, 0))) :
   Calls Tryd.prog 112 #[.pointer (some ⟨b, 0, none⟩)] w fun e w' => e = .returned (.tuple #[]) ∧ Holds b 156 (round s0).cells w w' := by
  have hcut := Holds.start h
  clear h
  go_enter Tryd.func112, Tryd.ntmps112
  go_upto_region 0 with fail
  go_cut [] (fun wx => Holds b 156 (st0 s0).cells w wx)
  case first =>
    have c0 : w.cell? ⟨b, 0, none⟩ = some (.int .u64 s0.a) := hcut.cell 0 rfl
    have c1 : w.cell? ⟨b, 1, none⟩ = some (.int .u64 s0.b) := hcut.cell 1 rfl
    have f := hcut.free 0
    have H := Lib.hid hcut
    clear hcut
    go_region
    all_goals (go_wp2_with fail; go_meet)
    all_goals first | exact (Holds.set H.out rfl).drew | exact Holds.set H.out.drewN rfl | exact Holds.set H.out rfl | exact (Holds.set H.out rfl).drewN
  case rest =>
    go_upto_region 1 with fail
    go_cut [] (fun wx => Holds b 156 (st1 (st0 s0)).cells w wx)
    case first =>
      have c0 : wc.cell? ⟨b, 0, none⟩ = some (.int .u64 (st0 s0).a) := hcut.cell 0 rfl
      have c1 : wc.cell? ⟨b, 1, none⟩ = some (.int .u64 (st0 s0).b) := hcut.cell 1 rfl
      have f := hcut.free 1
      have H := Lib.hid hcut
      clear hcut
      go_region_with (go_at_call 127; refine (left13 _ _).mono ?_; rintro e w' ⟨rfl, n, rfl⟩)
      all_goals (go_wp2_with fail; go_meet)
      all_goals first | exact (Holds.set H.out rfl).drew | exact Holds.set H.out.drewN rfl | exact Holds.set H.out rfl | exact (Holds.set H.out rfl).drewN
    case rest =>
      go_upto_region 2 with fail
      go_cut [] (fun wx => Holds b 156 (st2 (st1 (st0 s0))).cells w wx)
      case first =>
        have c0 : wc.cell? ⟨b, 0, none⟩ = some (.int .u64 (st1 (st0 s0)).a) := hcut.cell 0 rfl
        have f := hcut.free 0
        have H := Lib.hid hcut
        clear hcut
        go_wp2_with (go_at_call 127; refine (left32 _ _).mono ?_; rintro e w' ⟨rfl, n, rfl⟩)
        all_goals (go_wp2_with fail; go_meet)
        all_goals first | exact (Holds.set H.out rfl).drew | exact Holds.set H.out.drewN rfl | exact Holds.set H.out rfl | exact (Holds.set H.out rfl).drewN
      case rest =>
        go_upto_region 3 with fail
        go_cut [] (fun wx => Holds b 156 (st3 (st2 (st1 (st0 s0)))).cells w wx)
        case first =>
          have c2 : wc.cell? ⟨b, 2, none⟩ = some (.int .u64 (st2 (st1 (st0 s0))).c) := hcut.cell 2 rfl
          have c3 : wc.cell? ⟨b, 3, none⟩ = some (.int .u64 (st2 (st1 (st0 s0))).d) := hcut.cell 3 rfl
          have f := hcut.free 2
          have H := Lib.hid hcut
          clear hcut
          go_region
          all_goals (go_wp2_with fail; go_meet)
          all_goals first | exact (Holds.set H.out rfl).drew | exact Holds.set H.out.drewN rfl | exact Holds.set H.out rfl | exact (Holds.set H.out rfl).drewN
        case rest =>
          go_upto_region 4 with fail
          go_cut [] (fun wx => Holds b 156 (st4 (st3 (st2 (st1 (st0 s0))))).cells w wx)
          case first =>
            have c2 : wc.cell? ⟨b, 2, none⟩ = some (.int .u64 (st3 (st2 (st1 (st0 s0)))).c) := hcut.cell 2 rfl
            have c3 : wc.cell? ⟨b, 3, none⟩ = some (.int .u64 (st3 (st2 (st1 (st0 s0)))).d) := hcut.cell 3 rfl
            have f := hcut.free 3
            have H := Lib.hid hcut
            clear hcut
            go_region_with (go_at_call 127; refine (left16 _ _).mono ?_; rintro e w' ⟨rfl, n, rfl⟩)
            all_goals (go_wp2_with fail; go_meet)
            all_goals first | exact (Holds.set H.out rfl).drew | exact Holds.set H.out.drewN rfl | exact Holds.set H.out rfl | exact (Holds.set H.out rfl).drewN
          case rest =>
            go_upto_region 5 with fail
            go_cut [] (fun wx => Holds b 156 (st5 (st4 (st3 (st2 (st1 (st0 s0)))))).cells w wx)
            case first =>
              have c0 : wc.cell? ⟨b, 0, none⟩ = some (.int .u64 (st4 (st3 (st2 (st1 (st0 s0))))).a) := hcut.cell 0 rfl
              have c3 : wc.cell? ⟨b, 3, none⟩ = some (.int .u64 (st4 (st3 (st2 (st1 (st0 s0))))).d) := hcut.cell 3 rfl
              have f := hcut.free 0
              have H := Lib.hid hcut
              clear hcut
              go_region
              all_goals (go_wp2_with fail; go_meet)
              all_goals first | exact (Holds.set H.out rfl).drew | exact Holds.set H.out.drewN rfl | exact Holds.set H.out rfl | exact (Holds.set H.out rfl).drewN
            case rest =>
              go_upto_region 6 with fail
              go_cut [] (fun wx => Holds b 156 (st6 (st5 (st4 (st3 (st2 (st1 (st0 s0))))))).cells w wx)
              case first =>
                have c0 : wc.cell? ⟨b, 0, none⟩ = some (.int .u64 (st5 (st4 (st3 (st2 (st1 (st0 s0)))))).a) := hcut.cell 0 rfl
                have c3 : wc.cell? ⟨b, 3, none⟩ = some (.int .u64 (st5 (st4 (st3 (st2 (st1 (st0 s0)))))).d) := hcut.cell 3 rfl
                have f := hcut.free 3
                have H := Lib.hid hcut
                clear hcut
                go_region_with (go_at_call 127; refine (left21 _ _).mono ?_; rintro e w' ⟨rfl, n, rfl⟩)
                all_goals (go_wp2_with fail; go_meet)
                all_goals first | exact (Holds.set H.out rfl).drew | exact Holds.set H.out.drewN rfl | exact Holds.set H.out rfl | exact (Holds.set H.out rfl).drewN
              case rest =>
                go_upto_region 7 with fail
                go_cut [] (fun wx => Holds b 156 (st7 (st6 (st5 (st4 (st3 (st2 (st1 (st0 s0)))))))).cells w wx)
                case first =>
                  have c1 : wc.cell? ⟨b, 1, none⟩ = some (.int .u64 (st6 (st5 (st4 (st3 (st2 (st1 (st0 s0))))))).b) := hcut.cell 1 rfl
                  have c2 : wc.cell? ⟨b, 2, none⟩ = some (.int .u64 (st6 (st5 (st4 (st3 (st2 (st1 (st0 s0))))))).c) := hcut.cell 2 rfl
                  have f := hcut.free 2
                  have H := Lib.hid hcut
                  clear hcut
                  go_region
                  all_goals (go_wp2_with fail; go_meet)
                  all_goals first | exact (Holds.set H.out rfl).drew | exact Holds.set H.out.drewN rfl | exact Holds.set H.out rfl | exact (Holds.set H.out rfl).drewN
                case rest =>
                  go_upto_region 8 with fail
                  go_cut [] (fun wx => Holds b 156 (st8 (st7 (st6 (st5 (st4 (st3 (st2 (st1 (st0 s0))))))))).cells w wx)
                  case first =>
                    have c1 : wc.cell? ⟨b, 1, none⟩ = some (.int .u64 (st7 (st6 (st5 (st4 (st3 (st2 (st1 (st0 s0)))))))).b) := hcut.cell 1 rfl
                    have c2 : wc.cell? ⟨b, 2, none⟩ = some (.int .u64 (st7 (st6 (st5 (st4 (st3 (st2 (st1 (st0 s0)))))))).c) := hcut.cell 2 rfl
                    have f := hcut.free 1
                    have H := Lib.hid hcut
                    clear hcut
                    go_region_with (go_at_call 127; refine (left17 _ _).mono ?_; rintro e w' ⟨rfl, n, rfl⟩)
                    all_goals (go_wp2_with fail; go_meet)
                    all_goals first | exact (Holds.set H.out rfl).drew | exact Holds.set H.out.drewN rfl | exact Holds.set H.out rfl | exact (Holds.set H.out rfl).drewN
                  case rest =>
                    have c2 : wc.cell? ⟨b, 2, none⟩ = some (.int .u64 (st8 (st7 (st6 (st5 (st4 (st3 (st2 (st1 (st0 s0))))))))).c) := hcut.cell 2 rfl
                    have f := hcut.free 2
                    have H := Lib.hid hcut
                    clear hcut
                    go_wp2_with (go_at_call 127; refine (left32 _ _).mono ?_; rintro e w' ⟨rfl, n, rfl⟩)
                    go_end0
                    exact ⟨rfl, by first | exact (Holds.set H.out rfl).drew | exact Holds.set H.out.drewN rfl | exact Holds.set H.out rfl | exact (Holds.set H.out rfl).drewN⟩
end Go.Proofs.YtoopcmcmjaikhaaDoor.S
end
section
namespace Go.Proofs.YtoopcmcmjaikhaaDoor.S
open Go.RowKit Go.Lib
attribute [local go_sem ↓] Go.wp_at_zero Go.wp_at_succ

set_option maxRecDepth 100000 in
set_option maxHeartbeats 1000000 in
theorem ref_take_step (b : Nat) (m : Int) (s t t1 t2 r : S4) (w : World) (h : w.heap[b]? = some (.cells s.cells 156 (0, 0)))
   (ht : { s with d := bits .xor .u64 s.d m } = t) (h1 : round t = t1) (h2 : round t1 = t2) (hr : { t2 with a := bits .xor .u64 t2.a m } = r) :
   Calls Tryd.prog 111 #[.pointer (some ⟨b, 0, none⟩), .int .u64 m] w fun e w' => e = .returned (.tuple #[]) ∧ Holds b 156 r.cells w w' := by
  have hcut := Holds.start h
  have R1 : ∀ w : World, w.heap[b]? = some (.cells t.cells 156 (0, 0)) → Calls Tryd.prog 112 #[.pointer (some ⟨b, 0, none⟩)] w fun e w' => e = .returned (.tuple #[]) ∧ Holds b 156 t1.cells w w' := by
    intro w h; have := ref_round_any b t w h; rw [h1] at this; exact this
  have R2 : ∀ w : World, w.heap[b]? = some (.cells t1.cells 156 (0, 0)) → Calls Tryd.prog 112 #[.pointer (some ⟨b, 0, none⟩)] w fun e w' => e = .returned (.tuple #[]) ∧ Holds b 156 t2.cells w w' := by
    intro w h; have := ref_round_any b t1 w h; rw [h2] at this; exact this
  have E1 := Lib.hid ht
  have E2 := Lib.hid hr
  have G1 := Lib.hid R1
  have G2 := Lib.hid R2
  clear h ht h1 h2 hr R1 R2
  go_enter Tryd.func111, Tryd.ntmps111
  go_upto_region 0 with fail
  go_cut [] (fun wx => Holds b 156 t.cells w wx)
  case first =>
    have c3 : w.cell? ⟨b, 3, none⟩ = some (.int .u64 s.d) := hcut.cell 3 rfl
    have f := hcut.free 3
    have H := Lib.hid hcut
    clear hcut
    go_wp2_with fail
    go_meet
    exact Holds.set H.out (by rw [← E1.out]; rfl)
  case rest =>
    go_upto_region 1 with fail
    go_cut [] (fun wx => Holds b 156 t1.cells w wx)
    case first =>
      have H := Lib.hid hcut
      clear hcut
      go_wp2_with (go_at_call 112; refine (G1.out _ H.out.here).mono ?_; rintro e w' ⟨rfl, hw⟩)
      go_meet
      exact H.out.trans hw
    case rest =>
      go_upto_region 2 with fail
      go_cut [] (fun wx => Holds b 156 t2.cells w wx)
      case first =>
        have H := Lib.hid hcut
        clear hcut
        go_wp2_with (go_at_call 112; refine (G2.out _ H.out.here).mono ?_; rintro e w' ⟨rfl, hw⟩)
        go_meet
        exact H.out.trans hw
      case rest =>
        have c0 : wc.cell? ⟨b, 0, none⟩ = some (.int .u64 t2.a) := hcut.cell 0 rfl
        have f := hcut.free 0
        have H := Lib.hid hcut
        clear hcut
        go_wp2_with fail
        go_end0
        exact ⟨rfl, Holds.set H.out (by rw [← E2.out]; rfl)⟩
theorem ref_take_any (b : Nat) (m : Int) (s : S4) (w : World) (h : w.heap[b]? = some (.cells s.cells 156 (0, 0))) :
   Calls Tryd.prog 111 #[.pointer (some ⟨b, 0, none⟩), .int .u64 m] w fun e w' => e = .returned (.tuple #[]) ∧ Holds b 156 (mixed s m).cells w w' :=
  ref_take_step b m s _ _ _ _ w h rfl rfl rfl rfl
end Go.Proofs.YtoopcmcmjaikhaaDoor.S
end
section
namespace Go.Proofs.YtoopcmcmjaikhaaDoor.S
open Go.RowKit Go.Lib
attribute [local go_sem ↓] Go.wp_at_zero Go.wp_at_succ

set_option maxRecDepth 100000 in
set_option maxHeartbeats 2000000 in
theorem ref_sip_any (k0 k1 : Int) (p : Option Addr) (bb off n c : Nat) (x : Nat → Int) (hm : n ≤ 9223372036854775807) (hr : ∀ i, 0 ≤ x i ∧ x i ≤ 255)
   (w : World) (hp : 0 < n → p = some ⟨bb, off, none⟩) (hc : ∀ i, i < n → w.cell? ⟨bb, off + i, none⟩ = some (.int .u8 (x i))) :
   Calls Tryd.prog 77 #[.int .u64 k0, .int .u64 k1, .slice p n c] w fun e w' => e = .returned (.int .u64 (sipSum k0 k1 x n)) ∧ Below w.heap.size w w' := by
  have HP := Lib.hid hp
  have HR := Lib.hid hr
  have HC := Lib.hid hc
  clear hp hr hc
  go_enter Tryd.func77, Tryd.ntmps77
  go_wp2
  go_loopg [8, 23] n (fun k m i wr => ∃ j : Nat, j + k = n ∧ i = .int .i64 (j : Int) ∧ m = .int .u64 (wordUpto (byteAt x (j / 8)) (j % 8)) ∧
    Holds w.heap.size 156 (sws k0 k1 x (j / 8)).cells (w.alloc (.cells (sipStart k0 k1).cells 156)) wr)
  case atStart => exact ⟨0, by omega, rfl, rfl, Holds.start (here_new _ _ _)⟩
  case round =>
    obtain ⟨j, hj, rfl, rfl, hcut⟩ := hrel
    by_cases hlt : j < n
    · obtain ⟨rfl⟩ : p = some ⟨bb, off, none⟩ := HP.out (by omega)
      have hcj := HC.out j hlt
      have hbb : bb ≠ w.heap.size := by have := cell_lt hcj; simp at this; omega
      have hcj := hcut.only.cell (p := ⟨bb, off + j, none⟩) hbb (cell_alloc hcj)
      obtain ⟨r0, r1⟩ := HR.out j
      have H := Lib.hid hcut
      have NB := Lib.hid hbb
      clear hcut hbb
      by_cases h7 : j % 8 = 7
      · have e1 : ((j : Int) % 8 == 7) = true := by simp; omega
        have H7 := Lib.hid h7
        clear h7
        go_wp2_with (go_at_call 111; refine (ref_take_any _ _ _ _ H.out.here).mono ?_; rintro e w' ⟨rfl, hw⟩)
        go_roundg (gk - 1)
        case measure => omega
        case rel => exact ⟨j + 1, by omega, by go_num, by rw [word_none x j H7.out], by rw [sws_step k0 k1 x j H7.out]; exact H.out.trans hw⟩
      · have e1 : ((j : Int) % 8 == 7) = false := by simp; omega
        have H7 := Lib.hid h7
        clear h7
        go_wp2
        go_roundg (gk - 1)
        case measure => omega
        case rel => exact ⟨j + 1, by omega, by go_num, by rw [word_step x j H7.out]; rfl, by rw [sws_same k0 k1 x j H7.out]; exact H.out⟩
    · obtain rfl : j = n := by omega
      have H := Lib.hid hcut
      clear hcut
      obtain ⟨s1, hs1⟩ : ∃ s1, s1 = lastState k0 k1 x j := ⟨_, rfl⟩
      go_upto_region 11 with fail
      go_cut [7] (fun s7 wx => s7 = .pointer (some ⟨w.heap.size, 0, none⟩) ∧ Holds w.heap.size 156 s1.cells (w.alloc (.cells (sipStart k0 k1).cells 156)) wx)
      case first =>
        have S1 := Lib.hid hs1
        clear hs1
        go_wp2_with (go_at_call 111; refine (ref_take_any _ _ _ _ H.out.here).mono ?_; rintro e w' ⟨rfl, hw⟩)
        go_meet
        refine ⟨rfl, ?_⟩
        rw [S1.out]
        exact H.out.trans hw
      case rest =>
        obtain ⟨rfl, hcut⟩ := hcut
        obtain ⟨s2, hs2⟩ : ∃ s2 : S4, { s1 with c := bits .xor .u64 s1.c 255 } = s2 := ⟨_, rfl⟩
        go_upto_region 12 with fail
        go_cut [7] (fun s7 wx => s7 = .pointer (some ⟨w.heap.size, 0, none⟩) ∧ Holds w.heap.size 156 s2.cells (w.alloc (.cells (sipStart k0 k1).cells 156)) wx)
        case first =>
          have S1 := Lib.hid hs1
          have S2 := Lib.hid hs2
          have c2 : wc.cell? ⟨w.heap.size, 2, none⟩ = some (.int .u64 s1.c) := hcut.cell 2 rfl
          have f := hcut.free 2
          have H := Lib.hid hcut
          clear hcut hs1 hs2
          go_wp2_with fail
          go_meet
          exact ⟨rfl, Holds.set H.out (by rw [← S2.out]; rfl)⟩
        case rest =>
          obtain ⟨rfl, hcut⟩ := hcut
          have S1 := Lib.hid hs1
          have S2 := Lib.hid hs2
          have H0 := Lib.hid hcut
          clear hs1 hs2 hcut
          go_wp2
          go_loopg [60] 4 (fun k i wr => ∃ q : Nat, q + k = 4 ∧ i = .int .i64 (q : Int) ∧ Holds w.heap.size 156 (rounds q s2).cells (w.alloc (.cells (sipStart k0 k1).cells 156)) wr)
          case atStart => exact ⟨0, by omega, rfl, H0.out⟩
          case round =>
            obtain ⟨q, hq, rfl, hcut⟩ := hrel
            by_cases hlt : q < 4
            · have H := Lib.hid hcut
              clear hcut
              go_wp2_with (go_at_call 112; refine (ref_round_any _ _ _ H.out.here).mono ?_; rintro e w' ⟨rfl, hw⟩)
              go_roundg (gk - 1)
              case measure => omega
              case rel => exact ⟨q + 1, by omega, by go_num, H.out.trans hw⟩
            · obtain rfl : q = 4 := by omega
              obtain ⟨s3, hs3⟩ : ∃ s3 : S4, s3 = rounds 4 s2 := ⟨_, rfl⟩
              rw [← hs3] at hcut
              have S3 := Lib.hid hs3
              clear hs3
              have c0 : wr.cell? ⟨w.heap.size, 0, none⟩ = some (.int .u64 s3.a) := hcut.cell 0 rfl
              have c1 : wr.cell? ⟨w.heap.size, 1, none⟩ = some (.int .u64 s3.b) := hcut.cell 1 rfl
              have c2 : wr.cell? ⟨w.heap.size, 2, none⟩ = some (.int .u64 s3.c) := hcut.cell 2 rfl
              have c3 : wr.cell? ⟨w.heap.size, 3, none⟩ = some (.int .u64 s3.d) := hcut.cell 3 rfl
              have H := Lib.hid hcut
              clear hcut
              go_wp2
              go_quiet (fail)
              go_wp2
              go_ret
              refine ⟨?_, ?_⟩
              · rw [sipSum, ← S1.out, sipEnd, S2.out, ← S3.out]; rfl
              · exact (below_new w _).trans ((H.out.only.drewN).below (Nat.le_refl _) (by simp))
end Go.Proofs.YtoopcmcmjaikhaaDoor.S
end
