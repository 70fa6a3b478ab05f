/- The program's rounds of SipHash: from a state of four words it makes so many rounds' four words in place, and changes nothing else. -/
import Derived.Test.YtbiobejfjhmccaaDoorLeft
import Derived.Test.YtbiobejfjhmccaaDoorBase
import Derived.RegionTactic
import Derived.ChangeAlike
import Derived.Deep.RegionWith
import Derived.Deep.DrawnRows
import Derived.Deep.DeepCutAuto
import Derived.Deep.LoopGhost
namespace Go.Proofs.YtbiobejfjhmccaaDoor
open Go.RowKit Go.Lib
attribute [local go_sem ↓] Go.wp_at_zero Go.wp_at_succ

set_option maxRecDepth 100000 in
set_option maxHeartbeats 2000000 in
theorem turn_any (b n : Nat) (hn : n ≤ 1000) (s : S4) (w : World) (h : w.heap[b]? = some (.cells s.cells 51 (0, 0))) :
   Calls Tryd.prog 28 #[.pointer (some ⟨b, 0, none⟩), .int .i64 n] w fun e w' => e = .returned (.tuple #[]) ∧ Holds b 51 (rounds n s).cells w w' := by
  have hst := Lib.hid (Holds.start h)
  clear h
  go_enter Tryd.func28, Tryd.ntmps28
  go_wp2
  go_loopg [5] n (fun k i wr => ∃ j : Nat, j + k = n ∧ i = .int .i64 (j : Int) ∧ Holds b 51 (rounds j s).cells w wr)
  case atStart => exact ⟨0, by omega, rfl, hst.out⟩
  case round =>
    clear hst
    obtain ⟨j, hj, rfl, hcut⟩ := hrel
    by_cases hlt : j < n
    · obtain ⟨s0, hs0⟩ : ∃ s0, s0 = rounds j s := ⟨_, rfl⟩
      rw [← hs0] at hcut
      have HS := Lib.hid hs0
      clear hs0
      go_upto_region 2 with fail
      go_cut [] (fun wx => Holds b 51 (st0 s0).cells w wx)
      case first =>
        have c0 : wr.cell? ⟨b, 0, none⟩ = some (.int .u64 s0.a) := hcut.cell 0 rfl
        have c1 : wr.cell? ⟨b, 1, none⟩ = some (.int .u64 s0.b) := hcut.cell 1 rfl
        have f := hcut.free 0
        have H := Lib.hid hcut
        clear hcut
        go_region
        all_goals (go_wp2_with fail; go_meet)
        all_goals first | exact (Holds.set H.out rfl).drew | exact Holds.set H.out.drewN rfl | exact Holds.set H.out rfl | exact (Holds.set H.out rfl).drewN
      case rest =>
        go_upto_region 3 with fail
        go_cut [] (fun wx => Holds b 51 (st1 (st0 s0)).cells w wx)
        case first =>
          have c0 : wc.cell? ⟨b, 0, none⟩ = some (.int .u64 (st0 s0).a) := hcut.cell 0 rfl
          have c1 : wc.cell? ⟨b, 1, none⟩ = some (.int .u64 (st0 s0).b) := hcut.cell 1 rfl
          have f := hcut.free 1
          have H := Lib.hid hcut
          clear hcut
          go_region_with (go_at_call 37; refine (rot13 _ _).mono ?_; rintro e w' ⟨rfl, rfl⟩)
          all_goals (go_wp2_with fail; go_meet)
          all_goals first | exact (Holds.set H.out rfl).drew | exact Holds.set H.out.drewN rfl | exact Holds.set H.out rfl | exact (Holds.set H.out rfl).drewN
        case rest =>
          go_upto_region 4 with fail
          go_cut [] (fun wx => Holds b 51 (st2 (st1 (st0 s0))).cells w wx)
          case first =>
            have c0 : wc.cell? ⟨b, 0, none⟩ = some (.int .u64 (st1 (st0 s0)).a) := hcut.cell 0 rfl
            have f := hcut.free 0
            have H := Lib.hid hcut
            clear hcut
            go_region_with (go_at_call 37; refine (rot32 _ _).mono ?_; rintro e w' ⟨rfl, rfl⟩)
            all_goals (go_wp2_with fail; go_meet)
            all_goals first | exact (Holds.set H.out rfl).drew | exact Holds.set H.out.drewN rfl | exact Holds.set H.out rfl | exact (Holds.set H.out rfl).drewN
          case rest =>
            go_upto_region 5 with fail
            go_cut [] (fun wx => Holds b 51 (st3 (st2 (st1 (st0 s0)))).cells w wx)
            case first =>
              have c2 : wc.cell? ⟨b, 2, none⟩ = some (.int .u64 (st2 (st1 (st0 s0))).c) := hcut.cell 2 rfl
              have c3 : wc.cell? ⟨b, 3, none⟩ = some (.int .u64 (st2 (st1 (st0 s0))).d) := hcut.cell 3 rfl
              have f := hcut.free 2
              have H := Lib.hid hcut
              clear hcut
              go_region
              all_goals (go_wp2_with fail; go_meet)
              all_goals first | exact (Holds.set H.out rfl).drew | exact Holds.set H.out.drewN rfl | exact Holds.set H.out rfl | exact (Holds.set H.out rfl).drewN
            case rest =>
              go_upto_region 6 with fail
              go_cut [] (fun wx => Holds b 51 (st4 (st3 (st2 (st1 (st0 s0))))).cells w wx)
              case first =>
                have c2 : wc.cell? ⟨b, 2, none⟩ = some (.int .u64 (st3 (st2 (st1 (st0 s0)))).c) := hcut.cell 2 rfl
                have c3 : wc.cell? ⟨b, 3, none⟩ = some (.int .u64 (st3 (st2 (st1 (st0 s0)))).d) := hcut.cell 3 rfl
                have f := hcut.free 3
                have H := Lib.hid hcut
                clear hcut
                go_region_with (go_at_call 37; refine (rot16 _ _).mono ?_; rintro e w' ⟨rfl, rfl⟩)
                all_goals (go_wp2_with fail; go_meet)
                all_goals first | exact (Holds.set H.out rfl).drew | exact Holds.set H.out.drewN rfl | exact Holds.set H.out rfl | exact (Holds.set H.out rfl).drewN
              case rest =>
                go_upto_region 7 with fail
                go_cut [] (fun wx => Holds b 51 (st5 (st4 (st3 (st2 (st1 (st0 s0)))))).cells w wx)
                case first =>
                  have c0 : wc.cell? ⟨b, 0, none⟩ = some (.int .u64 (st4 (st3 (st2 (st1 (st0 s0))))).a) := hcut.cell 0 rfl
                  have c3 : wc.cell? ⟨b, 3, none⟩ = some (.int .u64 (st4 (st3 (st2 (st1 (st0 s0))))).d) := hcut.cell 3 rfl
                  have f := hcut.free 0
                  have H := Lib.hid hcut
                  clear hcut
                  go_region
                  all_goals (go_wp2_with fail; go_meet)
                  all_goals first | exact (Holds.set H.out rfl).drew | exact Holds.set H.out.drewN rfl | exact Holds.set H.out rfl | exact (Holds.set H.out rfl).drewN
                case rest =>
                  go_upto_region 8 with fail
                  go_cut [] (fun wx => Holds b 51 (st6 (st5 (st4 (st3 (st2 (st1 (st0 s0))))))).cells w wx)
                  case first =>
                    have c0 : wc.cell? ⟨b, 0, none⟩ = some (.int .u64 (st5 (st4 (st3 (st2 (st1 (st0 s0)))))).a) := hcut.cell 0 rfl
                    have c3 : wc.cell? ⟨b, 3, none⟩ = some (.int .u64 (st5 (st4 (st3 (st2 (st1 (st0 s0)))))).d) := hcut.cell 3 rfl
                    have f := hcut.free 3
                    have H := Lib.hid hcut
                    clear hcut
                    go_region_with (go_at_call 37; refine (rot21 _ _).mono ?_; rintro e w' ⟨rfl, rfl⟩)
                    all_goals (go_wp2_with fail; go_meet)
                    all_goals first | exact (Holds.set H.out rfl).drew | exact Holds.set H.out.drewN rfl | exact Holds.set H.out rfl | exact (Holds.set H.out rfl).drewN
                  case rest =>
                    go_upto_region 9 with fail
                    go_cut [] (fun wx => Holds b 51 (st7 (st6 (st5 (st4 (st3 (st2 (st1 (st0 s0)))))))).cells w wx)
                    case first =>
                      have c1 : wc.cell? ⟨b, 1, none⟩ = some (.int .u64 (st6 (st5 (st4 (st3 (st2 (st1 (st0 s0))))))).b) := hcut.cell 1 rfl
                      have c2 : wc.cell? ⟨b, 2, none⟩ = some (.int .u64 (st6 (st5 (st4 (st3 (st2 (st1 (st0 s0))))))).c) := hcut.cell 2 rfl
                      have f := hcut.free 2
                      have H := Lib.hid hcut
                      clear hcut
                      go_region
                      all_goals (go_wp2_with fail; go_meet)
                      all_goals first | exact (Holds.set H.out rfl).drew | exact Holds.set H.out.drewN rfl | exact Holds.set H.out rfl | exact (Holds.set H.out rfl).drewN
                    case rest =>
                      go_upto_region 10 with fail
                      go_cut [] (fun wx => Holds b 51 (st8 (st7 (st6 (st5 (st4 (st3 (st2 (st1 (st0 s0))))))))).cells w wx)
                      case first =>
                        have c1 : wc.cell? ⟨b, 1, none⟩ = some (.int .u64 (st7 (st6 (st5 (st4 (st3 (st2 (st1 (st0 s0)))))))).b) := hcut.cell 1 rfl
                        have c2 : wc.cell? ⟨b, 2, none⟩ = some (.int .u64 (st7 (st6 (st5 (st4 (st3 (st2 (st1 (st0 s0)))))))).c) := hcut.cell 2 rfl
                        have f := hcut.free 1
                        have H := Lib.hid hcut
                        clear hcut
                        go_region_with (go_at_call 37; refine (rot17 _ _).mono ?_; rintro e w' ⟨rfl, rfl⟩)
                        all_goals (go_wp2_with fail; go_meet)
                        all_goals first | exact (Holds.set H.out rfl).drew | exact Holds.set H.out.drewN rfl | exact Holds.set H.out rfl | exact (Holds.set H.out rfl).drewN
                      case rest =>
                        have c2 : wc.cell? ⟨b, 2, none⟩ = some (.int .u64 (st8 (st7 (st6 (st5 (st4 (st3 (st2 (st1 (st0 s0))))))))).c) := hcut.cell 2 rfl
                        have f := hcut.free 2
                        have H := Lib.hid hcut
                        clear hcut
                        go_upto_region 11 with fail
                        go_region_with (go_at_call 37; refine (rot32 _ _).mono ?_; rintro e w' ⟨rfl, rfl⟩)
                        all_goals go_wp2
                        all_goals
                          go_roundg (gk - 1)
                          case measure => omega
                          case rel => exact ⟨j + 1, by omega, by go_num, by rw [rounds, ← HS.out]; first | exact (Holds.set H.out rfl).drew | exact Holds.set H.out.drewN rfl | exact Holds.set H.out rfl | exact (Holds.set H.out rfl).drewN⟩
    · obtain rfl : j = n := by omega
      have H := Lib.hid hcut
      clear hcut
      go_wp2
      go_end0
      exact ⟨rfl, H.out⟩
end Go.Proofs.YtbiobejfjhmccaaDoor
