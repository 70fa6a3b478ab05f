/- The round of the document's SipHash: from a state of four words it makes the round's four words in place, and changes nothing else. -/
import Derived.Test.YtbiobejfjhmccaaDoorLeft
import Derived.Test.YtbiobejfjhmccaaDoorBase
import Derived.RegionTactic
import Derived.ChangeAlike
import Derived.Deep.RegionWith
import Derived.Deep.DrawnRows
import Derived.Deep.DeepCutAuto
namespace Go.Proofs.YtbiobejfjhmccaaDoor
open Go.RowKit Go.Lib
attribute [local go_sem ↓] Go.wp_at_zero Go.wp_at_succ

set_option maxRecDepth 100000 in
set_option maxHeartbeats 1000000 in
theorem ref_round_any (b : Nat) (s0 : S4) (w : World) (h : w.heap[b]? = some (.cells s0.cells 58 (0, 0))) :
   Calls Tryd.prog 30 #[.pointer (some ⟨b, 0, none⟩)] w fun e w' => e = .returned (.tuple #[]) ∧ Holds b 58 (round s0).cells w w' := by
  have hcut := Holds.start h
  clear h
  go_enter Tryd.func30, Tryd.ntmps30
  go_upto_region 0 with fail
  go_cut [] (fun wx => Holds b 58 (st0 s0).cells w wx)
  case first =>
    have c0 : w.cell? ⟨b, 0, none⟩ = some (.int .u64 s0.a) := hcut.cell 0 rfl
    have c1 : w.cell? ⟨b, 1, none⟩ = some (.int .u64 s0.b) := hcut.cell 1 rfl
    have f := hcut.free 0
    have H := Lib.hid hcut
    clear hcut
    go_region
    all_goals (go_wp2_with fail; go_meet)
    all_goals first | exact (Holds.set H.out rfl).drew | exact Holds.set H.out.drewN rfl | exact Holds.set H.out rfl | exact (Holds.set H.out rfl).drewN
  case rest =>
    go_upto_region 1 with fail
    go_cut [] (fun wx => Holds b 58 (st1 (st0 s0)).cells w wx)
    case first =>
      have c0 : wc.cell? ⟨b, 0, none⟩ = some (.int .u64 (st0 s0).a) := hcut.cell 0 rfl
      have c1 : wc.cell? ⟨b, 1, none⟩ = some (.int .u64 (st0 s0).b) := hcut.cell 1 rfl
      have f := hcut.free 1
      have H := Lib.hid hcut
      clear hcut
      go_region_with (go_at_call 38; refine (left13 _ _).mono ?_; rintro e w' ⟨rfl, n, rfl⟩)
      all_goals (go_wp2_with fail; go_meet)
      all_goals first | exact (Holds.set H.out rfl).drew | exact Holds.set H.out.drewN rfl | exact Holds.set H.out rfl | exact (Holds.set H.out rfl).drewN
    case rest =>
      go_upto_region 2 with fail
      go_cut [] (fun wx => Holds b 58 (st2 (st1 (st0 s0))).cells w wx)
      case first =>
        have c0 : wc.cell? ⟨b, 0, none⟩ = some (.int .u64 (st1 (st0 s0)).a) := hcut.cell 0 rfl
        have f := hcut.free 0
        have H := Lib.hid hcut
        clear hcut
        go_wp2_with (go_at_call 38; refine (left32 _ _).mono ?_; rintro e w' ⟨rfl, n, rfl⟩)
        all_goals (go_wp2_with fail; go_meet)
        all_goals first | exact (Holds.set H.out rfl).drew | exact Holds.set H.out.drewN rfl | exact Holds.set H.out rfl | exact (Holds.set H.out rfl).drewN
      case rest =>
        go_upto_region 3 with fail
        go_cut [] (fun wx => Holds b 58 (st3 (st2 (st1 (st0 s0)))).cells w wx)
        case first =>
          have c2 : wc.cell? ⟨b, 2, none⟩ = some (.int .u64 (st2 (st1 (st0 s0))).c) := hcut.cell 2 rfl
          have c3 : wc.cell? ⟨b, 3, none⟩ = some (.int .u64 (st2 (st1 (st0 s0))).d) := hcut.cell 3 rfl
          have f := hcut.free 2
          have H := Lib.hid hcut
          clear hcut
          go_region
          all_goals (go_wp2_with fail; go_meet)
          all_goals first | exact (Holds.set H.out rfl).drew | exact Holds.set H.out.drewN rfl | exact Holds.set H.out rfl | exact (Holds.set H.out rfl).drewN
        case rest =>
          go_upto_region 4 with fail
          go_cut [] (fun wx => Holds b 58 (st4 (st3 (st2 (st1 (st0 s0))))).cells w wx)
          case first =>
            have c2 : wc.cell? ⟨b, 2, none⟩ = some (.int .u64 (st3 (st2 (st1 (st0 s0)))).c) := hcut.cell 2 rfl
            have c3 : wc.cell? ⟨b, 3, none⟩ = some (.int .u64 (st3 (st2 (st1 (st0 s0)))).d) := hcut.cell 3 rfl
            have f := hcut.free 3
            have H := Lib.hid hcut
            clear hcut
            go_region_with (go_at_call 38; refine (left16 _ _).mono ?_; rintro e w' ⟨rfl, n, rfl⟩)
            all_goals (go_wp2_with fail; go_meet)
            all_goals first | exact (Holds.set H.out rfl).drew | exact Holds.set H.out.drewN rfl | exact Holds.set H.out rfl | exact (Holds.set H.out rfl).drewN
          case rest =>
            go_upto_region 5 with fail
            go_cut [] (fun wx => Holds b 58 (st5 (st4 (st3 (st2 (st1 (st0 s0)))))).cells w wx)
            case first =>
              have c0 : wc.cell? ⟨b, 0, none⟩ = some (.int .u64 (st4 (st3 (st2 (st1 (st0 s0))))).a) := hcut.cell 0 rfl
              have c3 : wc.cell? ⟨b, 3, none⟩ = some (.int .u64 (st4 (st3 (st2 (st1 (st0 s0))))).d) := hcut.cell 3 rfl
              have f := hcut.free 0
              have H := Lib.hid hcut
              clear hcut
              go_region
              all_goals (go_wp2_with fail; go_meet)
              all_goals first | exact (Holds.set H.out rfl).drew | exact Holds.set H.out.drewN rfl | exact Holds.set H.out rfl | exact (Holds.set H.out rfl).drewN
            case rest =>
              go_upto_region 6 with fail
              go_cut [] (fun wx => Holds b 58 (st6 (st5 (st4 (st3 (st2 (st1 (st0 s0))))))).cells w wx)
              case first =>
                have c0 : wc.cell? ⟨b, 0, none⟩ = some (.int .u64 (st5 (st4 (st3 (st2 (st1 (st0 s0)))))).a) := hcut.cell 0 rfl
                have c3 : wc.cell? ⟨b, 3, none⟩ = some (.int .u64 (st5 (st4 (st3 (st2 (st1 (st0 s0)))))).d) := hcut.cell 3 rfl
                have f := hcut.free 3
                have H := Lib.hid hcut
                clear hcut
                go_region_with (go_at_call 38; refine (left21 _ _).mono ?_; rintro e w' ⟨rfl, n, rfl⟩)
                all_goals (go_wp2_with fail; go_meet)
                all_goals first | exact (Holds.set H.out rfl).drew | exact Holds.set H.out.drewN rfl | exact Holds.set H.out rfl | exact (Holds.set H.out rfl).drewN
              case rest =>
                go_upto_region 7 with fail
                go_cut [] (fun wx => Holds b 58 (st7 (st6 (st5 (st4 (st3 (st2 (st1 (st0 s0)))))))).cells w wx)
                case first =>
                  have c1 : wc.cell? ⟨b, 1, none⟩ = some (.int .u64 (st6 (st5 (st4 (st3 (st2 (st1 (st0 s0))))))).b) := hcut.cell 1 rfl
                  have c2 : wc.cell? ⟨b, 2, none⟩ = some (.int .u64 (st6 (st5 (st4 (st3 (st2 (st1 (st0 s0))))))).c) := hcut.cell 2 rfl
                  have f := hcut.free 2
                  have H := Lib.hid hcut
                  clear hcut
                  go_region
                  all_goals (go_wp2_with fail; go_meet)
                  all_goals first | exact (Holds.set H.out rfl).drew | exact Holds.set H.out.drewN rfl | exact Holds.set H.out rfl | exact (Holds.set H.out rfl).drewN
                case rest =>
                  go_upto_region 8 with fail
                  go_cut [] (fun wx => Holds b 58 (st8 (st7 (st6 (st5 (st4 (st3 (st2 (st1 (st0 s0))))))))).cells w wx)
                  case first =>
                    have c1 : wc.cell? ⟨b, 1, none⟩ = some (.int .u64 (st7 (st6 (st5 (st4 (st3 (st2 (st1 (st0 s0)))))))).b) := hcut.cell 1 rfl
                    have c2 : wc.cell? ⟨b, 2, none⟩ = some (.int .u64 (st7 (st6 (st5 (st4 (st3 (st2 (st1 (st0 s0)))))))).c) := hcut.cell 2 rfl
                    have f := hcut.free 1
                    have H := Lib.hid hcut
                    clear hcut
                    go_region_with (go_at_call 38; refine (left17 _ _).mono ?_; rintro e w' ⟨rfl, n, rfl⟩)
                    all_goals (go_wp2_with fail; go_meet)
                    all_goals first | exact (Holds.set H.out rfl).drew | exact Holds.set H.out.drewN rfl | exact Holds.set H.out rfl | exact (Holds.set H.out rfl).drewN
                  case rest =>
                    have c2 : wc.cell? ⟨b, 2, none⟩ = some (.int .u64 (st8 (st7 (st6 (st5 (st4 (st3 (st2 (st1 (st0 s0))))))))).c) := hcut.cell 2 rfl
                    have f := hcut.free 2
                    have H := Lib.hid hcut
                    clear hcut
                    go_wp2_with (go_at_call 38; refine (left32 _ _).mono ?_; rintro e w' ⟨rfl, n, rfl⟩)
                    go_end0
                    exact ⟨rfl, by first | exact (Holds.set H.out rfl).drew | exact Holds.set H.out.drewN rfl | exact Holds.set H.out rfl | exact (Holds.set H.out rfl).drewN⟩
end Go.Proofs.YtbiobejfjhmccaaDoor
