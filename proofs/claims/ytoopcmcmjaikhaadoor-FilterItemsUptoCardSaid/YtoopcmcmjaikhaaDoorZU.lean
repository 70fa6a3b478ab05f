/- Texts of ours, merged: STurn, SMix, SSipSum. -/
import Derived.Test.YtoopcmcmjaikhaaDoorZS
import Derived.Test.YtoopcmcmjaikhaaDoorZA
import Derived.RegionTactic
import Derived.ChangeAlike
import Derived.Deep.RegionWith
import Derived.Deep.DrawnRows
import Derived.Deep.DeepCutAuto
import Derived.Deep.LoopGhost
import Derived.Laws.CopyOwn
section
namespace Go.Proofs.YtoopcmcmjaikhaaDoor.S
open Go.RowKit Go.Lib
attribute [local go_sem ↓] Go.wp_at_zero Go.wp_at_succ

set_option maxRecDepth 100000 in
set_option maxHeartbeats 2000000 in
theorem turn_any (b n : Nat) (hn : n ≤ 1000) (s : S4) (w : World) (h : w.heap[b]? = some (.cells s.cells 138 (0, 0))) :
   Calls Tryd.prog 98 #[.pointer (some ⟨b, 0, none⟩), .int .i64 n] w fun e w' => e = .returned (.tuple #[]) ∧ Holds b 138 (rounds n s).cells w w' := by
  have hst := Lib.hid (Holds.start h)
  clear h
  go_enter Tryd.func98, Tryd.ntmps98
  go_wp2
  go_loopg [5] n (fun k i wr => ∃ j : Nat, j + k = n ∧ i = .int .i64 (j : Int) ∧ Holds b 138 (rounds j s).cells w wr)
  case atStart => exact ⟨0, by omega, rfl, hst.out⟩
  case round =>
    clear hst
    obtain ⟨j, hj, rfl, hcut⟩ := hrel
    by_cases hlt : j < n
    · obtain ⟨s0, hs0⟩ : ∃ s0, s0 = rounds j s := ⟨_, rfl⟩
      rw [← hs0] at hcut
      have HS := Lib.hid hs0
      clear hs0
      go_upto_region 2 with fail
      go_cut [] (fun wx => Holds b 138 (st0 s0).cells w wx)
      case first =>
        have c0 : wr.cell? ⟨b, 0, none⟩ = some (.int .u64 s0.a) := hcut.cell 0 rfl
        have c1 : wr.cell? ⟨b, 1, none⟩ = some (.int .u64 s0.b) := hcut.cell 1 rfl
        have f := hcut.free 0
        have H := Lib.hid hcut
        clear hcut
        go_region
        all_goals (go_wp2_with fail; go_meet)
        all_goals first | exact (Holds.set H.out rfl).drew | exact Holds.set H.out.drewN rfl | exact Holds.set H.out rfl | exact (Holds.set H.out rfl).drewN
      case rest =>
        go_upto_region 3 with fail
        go_cut [] (fun wx => Holds b 138 (st1 (st0 s0)).cells w wx)
        case first =>
          have c0 : wc.cell? ⟨b, 0, none⟩ = some (.int .u64 (st0 s0).a) := hcut.cell 0 rfl
          have c1 : wc.cell? ⟨b, 1, none⟩ = some (.int .u64 (st0 s0).b) := hcut.cell 1 rfl
          have f := hcut.free 1
          have H := Lib.hid hcut
          clear hcut
          go_region_with (go_at_call 121; refine (rot13 _ _).mono ?_; rintro e w' ⟨rfl, rfl⟩)
          all_goals (go_wp2_with fail; go_meet)
          all_goals first | exact (Holds.set H.out rfl).drew | exact Holds.set H.out.drewN rfl | exact Holds.set H.out rfl | exact (Holds.set H.out rfl).drewN
        case rest =>
          go_upto_region 4 with fail
          go_cut [] (fun wx => Holds b 138 (st2 (st1 (st0 s0))).cells w wx)
          case first =>
            have c0 : wc.cell? ⟨b, 0, none⟩ = some (.int .u64 (st1 (st0 s0)).a) := hcut.cell 0 rfl
            have f := hcut.free 0
            have H := Lib.hid hcut
            clear hcut
            go_region_with (go_at_call 121; refine (rot32 _ _).mono ?_; rintro e w' ⟨rfl, rfl⟩)
            all_goals (go_wp2_with fail; go_meet)
            all_goals first | exact (Holds.set H.out rfl).drew | exact Holds.set H.out.drewN rfl | exact Holds.set H.out rfl | exact (Holds.set H.out rfl).drewN
          case rest =>
            go_upto_region 5 with fail
            go_cut [] (fun wx => Holds b 138 (st3 (st2 (st1 (st0 s0)))).cells w wx)
            case first =>
              have c2 : wc.cell? ⟨b, 2, none⟩ = some (.int .u64 (st2 (st1 (st0 s0))).c) := hcut.cell 2 rfl
              have c3 : wc.cell? ⟨b, 3, none⟩ = some (.int .u64 (st2 (st1 (st0 s0))).d) := hcut.cell 3 rfl
              have f := hcut.free 2
              have H := Lib.hid hcut
              clear hcut
              go_region
              all_goals (go_wp2_with fail; go_meet)
              all_goals first | exact (Holds.set H.out rfl).drew | exact Holds.set H.out.drewN rfl | exact Holds.set H.out rfl | exact (Holds.set H.out rfl).drewN
            case rest =>
              go_upto_region 6 with fail
              go_cut [] (fun wx => Holds b 138 (st4 (st3 (st2 (st1 (st0 s0))))).cells w wx)
              case first =>
                have c2 : wc.cell? ⟨b, 2, none⟩ = some (.int .u64 (st3 (st2 (st1 (st0 s0)))).c) := hcut.cell 2 rfl
                have c3 : wc.cell? ⟨b, 3, none⟩ = some (.int .u64 (st3 (st2 (st1 (st0 s0)))).d) := hcut.cell 3 rfl
                have f := hcut.free 3
                have H := Lib.hid hcut
                clear hcut
                go_region_with (go_at_call 121; refine (rot16 _ _).mono ?_; rintro e w' ⟨rfl, rfl⟩)
                all_goals (go_wp2_with fail; go_meet)
                all_goals first | exact (Holds.set H.out rfl).drew | exact Holds.set H.out.drewN rfl | exact Holds.set H.out rfl | exact (Holds.set H.out rfl).drewN
              case rest =>
                go_upto_region 7 with fail
                go_cut [] (fun wx => Holds b 138 (st5 (st4 (st3 (st2 (st1 (st0 s0)))))).cells w wx)
                case first =>
                  have c0 : wc.cell? ⟨b, 0, none⟩ = some (.int .u64 (st4 (st3 (st2 (st1 (st0 s0))))).a) := hcut.cell 0 rfl
                  have c3 : wc.cell? ⟨b, 3, none⟩ = some (.int .u64 (st4 (st3 (st2 (st1 (st0 s0))))).d) := hcut.cell 3 rfl
                  have f := hcut.free 0
                  have H := Lib.hid hcut
                  clear hcut
                  go_region
                  all_goals (go_wp2_with fail; go_meet)
                  all_goals first | exact (Holds.set H.out rfl).drew | exact Holds.set H.out.drewN rfl | exact Holds.set H.out rfl | exact (Holds.set H.out rfl).drewN
                case rest =>
                  go_upto_region 8 with fail
                  go_cut [] (fun wx => Holds b 138 (st6 (st5 (st4 (st3 (st2 (st1 (st0 s0))))))).cells w wx)
                  case first =>
                    have c0 : wc.cell? ⟨b, 0, none⟩ = some (.int .u64 (st5 (st4 (st3 (st2 (st1 (st0 s0)))))).a) := hcut.cell 0 rfl
                    have c3 : wc.cell? ⟨b, 3, none⟩ = some (.int .u64 (st5 (st4 (st3 (st2 (st1 (st0 s0)))))).d) := hcut.cell 3 rfl
                    have f := hcut.free 3
                    have H := Lib.hid hcut
                    clear hcut
                    go_region_with (go_at_call 121; refine (rot21 _ _).mono ?_; rintro e w' ⟨rfl, rfl⟩)
                    all_goals (go_wp2_with fail; go_meet)
                    all_goals first | exact (Holds.set H.out rfl).drew | exact Holds.set H.out.drewN rfl | exact Holds.set H.out rfl | exact (Holds.set H.out rfl).drewN
                  case rest =>
                    go_upto_region 9 with fail
                    go_cut [] (fun wx => Holds b 138 (st7 (st6 (st5 (st4 (st3 (st2 (st1 (st0 s0)))))))).cells w wx)
                    case first =>
                      have c1 : wc.cell? ⟨b, 1, none⟩ = some (.int .u64 (st6 (st5 (st4 (st3 (st2 (st1 (st0 s0))))))).b) := hcut.cell 1 rfl
                      have c2 : wc.cell? ⟨b, 2, none⟩ = some (.int .u64 (st6 (st5 (st4 (st3 (st2 (st1 (st0 s0))))))).c) := hcut.cell 2 rfl
                      have f := hcut.free 2
                      have H := Lib.hid hcut
                      clear hcut
                      go_region
                      all_goals (go_wp2_with fail; go_meet)
                      all_goals first | exact (Holds.set H.out rfl).drew | exact Holds.set H.out.drewN rfl | exact Holds.set H.out rfl | exact (Holds.set H.out rfl).drewN
                    case rest =>
                      go_upto_region 10 with fail
                      go_cut [] (fun wx => Holds b 138 (st8 (st7 (st6 (st5 (st4 (st3 (st2 (st1 (st0 s0))))))))).cells w wx)
                      case first =>
                        have c1 : wc.cell? ⟨b, 1, none⟩ = some (.int .u64 (st7 (st6 (st5 (st4 (st3 (st2 (st1 (st0 s0)))))))).b) := hcut.cell 1 rfl
                        have c2 : wc.cell? ⟨b, 2, none⟩ = some (.int .u64 (st7 (st6 (st5 (st4 (st3 (st2 (st1 (st0 s0)))))))).c) := hcut.cell 2 rfl
                        have f := hcut.free 1
                        have H := Lib.hid hcut
                        clear hcut
                        go_region_with (go_at_call 121; refine (rot17 _ _).mono ?_; rintro e w' ⟨rfl, rfl⟩)
                        all_goals (go_wp2_with fail; go_meet)
                        all_goals first | exact (Holds.set H.out rfl).drew | exact Holds.set H.out.drewN rfl | exact Holds.set H.out rfl | exact (Holds.set H.out rfl).drewN
                      case rest =>
                        have c2 : wc.cell? ⟨b, 2, none⟩ = some (.int .u64 (st8 (st7 (st6 (st5 (st4 (st3 (st2 (st1 (st0 s0))))))))).c) := hcut.cell 2 rfl
                        have f := hcut.free 2
                        have H := Lib.hid hcut
                        clear hcut
                        go_upto_region 11 with fail
                        go_region_with (go_at_call 121; refine (rot32 _ _).mono ?_; rintro e w' ⟨rfl, rfl⟩)
                        all_goals go_wp2
                        all_goals
                          go_roundg (gk - 1)
                          case measure => omega
                          case rel => exact ⟨j + 1, by omega, by go_num, by rw [rounds, ← HS.out]; first | exact (Holds.set H.out rfl).drew | exact Holds.set H.out.drewN rfl | exact Holds.set H.out rfl | exact (Holds.set H.out rfl).drewN⟩
    · obtain rfl : j = n := by omega
      have H := Lib.hid hcut
      clear hcut
      go_wp2
      go_end0
      exact ⟨rfl, H.out⟩
end Go.Proofs.YtoopcmcmjaikhaaDoor.S
end
section
set_option maxRecDepth 100000
namespace Go.Proofs.YtoopcmcmjaikhaaDoor.S
open Go.RowKit Go.Lib
attribute [local go_sem ↓] Go.wp_at_zero Go.wp_at_succ

theorem run_index8 (x : Nat → Int) (k : Nat) (hk : k < 8) (w : World) : (Instr.index 139 (.agg (B8 x)) (.int .i64 (k : Int))).run Tryd.prog w = .ok (.int .u8 (x k)) w := by
  match k, hk with
  | 0, _ => exact (by kernel_rfl : (Instr.index 139 (.agg (B8 x)) (.int .i64 0)).run Tryd.prog w = .ok (.int .u8 (x 0)) w)
  | 1, _ => exact (by kernel_rfl : (Instr.index 139 (.agg (B8 x)) (.int .i64 1)).run Tryd.prog w = .ok (.int .u8 (x 1)) w)
  | 2, _ => exact (by kernel_rfl : (Instr.index 139 (.agg (B8 x)) (.int .i64 2)).run Tryd.prog w = .ok (.int .u8 (x 2)) w)
  | 3, _ => exact (by kernel_rfl : (Instr.index 139 (.agg (B8 x)) (.int .i64 3)).run Tryd.prog w = .ok (.int .u8 (x 3)) w)
  | 4, _ => exact (by kernel_rfl : (Instr.index 139 (.agg (B8 x)) (.int .i64 4)).run Tryd.prog w = .ok (.int .u8 (x 4)) w)
  | 5, _ => exact (by kernel_rfl : (Instr.index 139 (.agg (B8 x)) (.int .i64 5)).run Tryd.prog w = .ok (.int .u8 (x 5)) w)
  | 6, _ => exact (by kernel_rfl : (Instr.index 139 (.agg (B8 x)) (.int .i64 6)).run Tryd.prog w = .ok (.int .u8 (x 6)) w)
  | 7, _ => exact (by kernel_rfl : (Instr.index 139 (.agg (B8 x)) (.int .i64 7)).run Tryd.prog w = .ok (.int .u8 (x 7)) w)

set_option maxRecDepth 100000 in
set_option maxHeartbeats 2000000 in
theorem mix_step (b : Nat) (x : Nat → Int) (hx : ∀ i, 0 ≤ x i ∧ x i ≤ 255) (s t t2 r : S4) (w : World) (h : w.heap[b]? = some (.cells s.cells 138 (0, 0)))
   (ht : { s with d := bits .xor .u64 s.d (wordUpto x 8) } = t) (h2 : rounds 2 t = t2) (hr : { t2 with a := bits .xor .u64 t2.a (wordUpto x 8) } = r) :
   Calls Tryd.prog 97 #[.pointer (some ⟨b, 0, none⟩), .agg (B8 x)] w fun e w' => e = .returned (.tuple #[]) ∧ Holds b 138 r.cells w w' := by
  have hst := Lib.hid (Holds.start h)
  have R : ∀ w : World, w.heap[b]? = some (.cells t.cells 138 (0, 0)) → Calls Tryd.prog 98 #[.pointer (some ⟨b, 0, none⟩), .int .i64 2] w fun e w' => e = .returned (.tuple #[]) ∧ Holds b 138 t2.cells w w' := by
    intro w h; have := turn_any b 2 (by omega) t w h; rw [h2] at this; exact this
  have G := Lib.hid R
  have E1 := Lib.hid ht
  have E2 := Lib.hid hr
  have HX := Lib.hid hx
  clear h R ht h2 hr hx
  have ix := run_index8 x
  unfold B8 at ix
  unfold B8
  go_enter Tryd.func97, Tryd.ntmps97
  go_wp2
  go_loopg [4, 8] 8 (fun k m i wr => ∃ j : Nat, j + k = 8 ∧ i = .int .i64 (j : Int) ∧ m = .int .u64 (wordUpto x j) ∧ Holds b 138 s.cells w wr)
  case atStart => exact ⟨0, by omega, rfl, rfl, hst.out.alloc _⟩
  case round =>
    clear hst
    obtain ⟨j, hj, rfl, rfl, hcut⟩ := hrel
    by_cases hlt : j < 8
    · have ix := ix j hlt
      obtain ⟨bj0, bj1⟩ := HX.out j
      have H := Lib.hid hcut
      clear hcut
      go_wp2
      go_roundg (gk - 1)
      case measure => omega
      case rel => exact ⟨j + 1, by omega, by go_num, rfl, H.out⟩
    · obtain rfl : j = 8 := by omega
      clear ix
      obtain ⟨m, hm⟩ : ∃ m, m = wordUpto x 8 := ⟨_, rfl⟩
      rw [← hm]
      rw [← hm] at E1 E2
      clear hm
      go_upto_region 7 with fail
      go_cut [4] (fun sm wx => sm = .int .u64 m ∧ Holds b 138 t.cells w wx)
      case first =>
        have c3 : wr.cell? ⟨b, 3, none⟩ = some (.int .u64 s.d) := hcut.cell 3 rfl
        have f := hcut.free 3
        have H := Lib.hid hcut
        clear hcut
        go_region
        all_goals (go_wp2_with fail; go_meet)
        all_goals refine ⟨rfl, ?_⟩
        all_goals first | exact (Holds.set H.out (by rw [← E1.out]; rfl)).drew | exact Holds.set H.out.drew (by rw [← E1.out]; rfl)
      case rest =>
        obtain ⟨rfl, hcut⟩ := hcut
        go_upto_region 8 with fail
        go_cut [4] (fun sm wx => sm = .int .u64 m ∧ Holds b 138 t2.cells w wx)
        case first =>
          have H := Lib.hid hcut
          clear hcut
          go_wp2_with (go_at_call 98; refine (G.out _ H.out.here).mono ?_; rintro e w' ⟨rfl, hw⟩)
          go_meet
          exact ⟨rfl, H.out.trans hw⟩
        case rest =>
          obtain ⟨rfl, hcut⟩ := hcut
          have c0 : wc.cell? ⟨b, 0, none⟩ = some (.int .u64 t2.a) := hcut.cell 0 rfl
          have f := hcut.free 0
          have H := Lib.hid hcut
          clear hcut
          go_upto_region 9 with fail
          go_region
          all_goals go_end0
          all_goals refine ⟨rfl, ?_⟩
          all_goals first | exact (Holds.set H.out (by rw [← E2.out]; rfl)).drew | exact Holds.set H.out.drew (by rw [← E2.out]; rfl)
theorem mix_any (b : Nat) (x : Nat → Int) (hx : ∀ i, 0 ≤ x i ∧ x i ≤ 255) (s : S4) (w : World) (h : w.heap[b]? = some (.cells s.cells 138 (0, 0))) :
   Calls Tryd.prog 97 #[.pointer (some ⟨b, 0, none⟩), .agg (B8 x)] w fun e w' => e = .returned (.tuple #[]) ∧ Holds b 138 (mixed s (wordUpto x 8)).cells w w' :=
  mix_step b x hx s _ _ _ w h rfl rfl rfl
end Go.Proofs.YtoopcmcmjaikhaaDoor.S
end
section
set_option maxRecDepth 100000
namespace Go.Proofs.YtoopcmcmjaikhaaDoor.S
open Go.RowKit Go.Lib
attribute [local go_sem ↓] Go.wp_at_zero Go.wp_at_succ

theorem run_arrayAtA8 (a : Addr) (n c : Nat) (h : 8 ≤ n) (w : World) : (Instr.arrayAt 139 (.slice (some a) n c)).run Tryd.prog w = .ok (.pointer (some a)) w := by
  have hu : Tryd.prog.underlying 139 = some (.array 8 5) := Tryd.underlying139
  simp [Instr.arrayAt, run_underlying hu]
  omega

set_option linter.unusedVariables false in
set_option maxRecDepth 100000 in
set_option maxHeartbeats 2000000 in
theorem sip_any (k0 k1 : Int) (p : Option Addr) (bb off n c : Nat) (x : Nat → Int) (hm : c ≤ 9223372036854775807) (hnc : n ≤ c) (hr : ∀ i, 0 ≤ x i ∧ x i ≤ 255)
   (w : World) (hp : 0 < n → p = some ⟨bb, off, none⟩) (hc : ∀ i, i < n → w.cell? ⟨bb, off + i, none⟩ = some (.int .u8 (x i)))
   (g0 : w.cell? ⟨0, 0, none⟩ = some (.int .u64 8317987319222330741)) (g1 : w.cell? ⟨0, 1, none⟩ = some (.int .u64 7237128888997146477))
   (g2 : w.cell? ⟨0, 2, none⟩ = some (.int .u64 7816392313619706465)) (g3 : w.cell? ⟨0, 3, none⟩ = some (.int .u64 8387220255154660723)) :
   Calls Tryd.prog 66 #[.int .u64 k0, .int .u64 k1, .slice p n c] w fun e w' => e = .returned (.int .u64 (sipSum k0 k1 x n)) ∧ Below w.heap.size w w' := by
  have HP := Lib.hid hp
  have HR := Lib.hid hr
  have HC := Lib.hid hc
  clear hp hr hc
  go_enter Tryd.func66, Tryd.ntmps66
  go_wp2
  go_loopg [2] (n / 8) (fun k v wr => ∃ (q r cc : Nat) (pv : Option Addr), q + k = n / 8 ∧ 8 * q + r = n ∧ 8 * q + cc = c ∧ v = .slice pv r cc ∧ (0 < r → pv = some ⟨bb, off + 8 * q, none⟩) ∧
    Holds w.heap.size 138 (sws k0 k1 x q).cells ((w.alloc (.cells (sipStart k0 k1).cells 138)).alloc (.cells (lastStart n) 139)) wr)
  case atStart => exact ⟨0, n, c, p, by omega, by omega, by omega, rfl, HP.out, Holds.start ((Holds.start (here_new w _ _)).alloc _).here⟩
  case round =>
    obtain ⟨q, r, cc, pv, hq, hqr, hqc, rfl, hpv, hcut⟩ := hrel
    by_cases hlt : 8 ≤ r
    · obtain ⟨rfl⟩ : pv = some ⟨bb, off + 8 * q, none⟩ := hpv (by omega)
      clear hpv
      obtain ⟨r, rfl⟩ : ∃ s, r = s + 8 := ⟨r - 8, by omega⟩
      obtain ⟨cc, rfl⟩ : ∃ s, cc = s + 8 := ⟨cc - 8, by omega⟩
      obtain ⟨o, ho⟩ : ∃ o, o = off + 8 * q := ⟨_, rfl⟩
      have cells : ∀ i, i < 8 → wr.cell? ⟨bb, o + i, none⟩ = some (.int .u8 (byteAt x q i)) := by
        intro i hi
        have hcj := HC.out (8 * q + i) (by omega)
        have hbb : bb ≠ w.heap.size := by have := cell_lt hcj; simp at this; omega
        have e : off + (8 * q + i) = o + i := by omega
        rw [e] at hcj
        exact hcut.only.cell (p := ⟨bb, o + i, none⟩) hbb (cell_alloc (cell_alloc hcj))
      have d0 : wr.cell? ⟨bb, o, none⟩ = some (.int .u8 (byteAt x q 0)) := cells 0 (by omega)
      have d1 := cells 1 (by omega)
      have d2 := cells 2 (by omega)
      have d3 := cells 3 (by omega)
      have d4 := cells 4 (by omega)
      have d5 := cells 5 (by omega)
      have d6 := cells 6 (by omega)
      have d7 := cells 7 (by omega)
      have M := mix_any w.heap.size (byteAt x q) (fun i => HR.out _) (sws k0 k1 x q) wr hcut.here
      unfold B8 at M
      rw [← ho]
      have HO := Lib.hid ho
      have H := Lib.hid hcut
      have HM := Lib.hid M
      clear cells ho hcut M
      have ra := run_arrayAtA8 ⟨bb, o, none⟩ (r + 8) (cc + 8) (by omega) wr
      by_cases hz : cc = 0
      · subst hz
        simp only [Nat.zero_add] at ra
        go_wp2_with (go_at_call 97; refine HM.out.mono ?_; rintro e w' ⟨rfl, hw⟩)
        go_roundg (gk - 1)
        case measure => omega
        case rel => exact ⟨q + 1, r, 0, _, by omega, by omega, by omega, rfl, by omega, H.out.trans hw⟩
      · have hz' : 0 < cc := by omega
        go_wp2_with (go_at_call 97; refine HM.out.mono ?_; rintro e w' ⟨rfl, hw⟩)
        go_roundg (gk - 1)
        case measure => omega
        case rel => exact ⟨q + 1, r, cc, _, by omega, by omega, by omega, rfl, fun _ => by rw [HO.out]; rfl, H.out.trans hw⟩
    · have hsrc : 0 < (firstBytes (byteAt x q) r).length → ∃ ad, pv = some ad ∧ ∀ (j : Nat) (v : Value), (firstBytes (byteAt x q) r)[j]? = some v → wr.cell? (ad.add j) = some v := by
        intro h0
        rw [firstBytes_length] at h0
        refine ⟨_, hpv h0, ?_⟩
        intro j v hv
        obtain ⟨hj, rfl⟩ := firstBytes_get _ _ _ _ hv
        have hcj := HC.out (8 * q + j) (by omega)
        have hbb : bb ≠ w.heap.size := by have := cell_lt hcj; simp at this; omega
        rw [← Nat.add_assoc] at hcj
        have e := hcut.only.cell (p := ⟨bb, off + 8 * q + j, none⟩) hbb (cell_alloc (cell_alloc hcj))
        have ea : (⟨bb, off + 8 * q, none⟩ : Addr).add j = ⟨bb, off + 8 * q + j, none⟩ := by
          unfold Addr.add
          split
          · rename_i hz; subst hz; rfl
          · rfl
        rw [ea]
        exact e
      have hhl := hcut.only.heap (k := w.heap.size + 1) (o := .cells (lastStart n) 139 (0, 0)) (by omega) (by have := here_new (w.alloc (.cells (sipStart k0 k1).cells 138)) (lastStart n) 139; simpa using this)
      have HS := Lib.hid hsrc
      have H := Lib.hid hcut
      have HL := Lib.hid hhl
      have HPV := Lib.hid hpv
      clear hcut hhl hpv hsrc
      go_upto_region 7 with fail
      go_cut [7, 8] (fun s7 s8 wx => s7 = .pointer (some ⟨w.heap.size, 0, none⟩) ∧ s8 = .pointer (some ⟨w.heap.size + 1, 0, none⟩) ∧ Below (w.heap.size + 1) wr wx ∧ wx.heap[w.heap.size + 1]? = some (.cells (B8 (lastBytes (byteAt x q) r n)) 139 (0, 0)))
      case first =>
        go_wp2_with (with_reducible refine wpList_copy_splice rfl (.tmp 39) (.tmp 40) 32 32 rfl 5 Tryd.underlying32 (by kernel_rfl) (some ⟨w.heap.size + 1, 0, none⟩) pv 8 8 r cc rfl rfl (w.heap.size + 1) 0 (lastStart n).toList 139 HL.out (firstBytes (byteAt x q) r) ?c1 ?c2 ?c3 (firstBytes_one _ _) (w.heap.size + 1) wr (Below.refl _ _) (Nat.le_refl _) ?_)
        case c1 => rw [firstBytes_length]; show r = min r 8; omega
        case c2 => exact HS.out
        case c3 => rw [firstBytes_length]; show 0 + r ≤ 8; omega
        intro w' hh hb
        have HH := hh
        have HB := Lib.hid hb
        clear hh hb
        go_wp2_with fail
        go_meet
        refine ⟨rfl, rfl, HB.out, ?_⟩
        have e := HH.out
        rw [splice_last _ _ _ (by omega)] at e
        exact e
      case rest =>
        obtain ⟨rfl, rfl, hb, hh⟩ := hcut
        obtain ⟨w4, rfl⟩ : ∃ w4 : World, w4 = wc := ⟨_, rfl⟩
        have h51 : w4.heap[w.heap.size]? = some (.cells (sws k0 k1 x q).cells 138 (0, 0)) := by rw [hb.block _ (by omega)]; exact H.out.here
        have hbel : Below w.heap.size w w4 := ((below_new w _).trans ((below_new _ _).mono (by simp))).trans ((H.out.only.below (Nat.le_refl _) (by simp; omega)).trans (hb.mono (by omega)))
        have HH := Lib.hid hh
        have HB := Lib.hid hbel
        have H5 := Lib.hid h51
        clear hb hh h51 hbel
        obtain ⟨s1, hs1⟩ : ∃ s1, s1 = lastState k0 k1 x n := ⟨_, rfl⟩
        have M := mix_any w.heap.size (lastBytes (byteAt x q) r n) (last_range _ _ _ (fun i => HR.out _)) (sws k0 k1 x q) w4 H5.out
        rw [last_word x n q r (by omega) hqr] at M
        have hq' : q = n / 8 := by omega
        have E1 : mixed (sws k0 k1 x q) (lastWord x n) = s1 := by rw [hs1, lastState, hq']
        rw [E1] at M
        unfold B8 at M
        have HM := Lib.hid M
        have S1 := Lib.hid hs1
        have l0 : w4.cell? ⟨w.heap.size + 1, 0, none⟩ = some (.int .u8 (lastBytes (byteAt x q) r n 0)) := cell_of_here HH.out 0 rfl
        have l1 : w4.cell? ⟨w.heap.size + 1, 1, none⟩ = some (.int .u8 (lastBytes (byteAt x q) r n 1)) := cell_of_here HH.out 1 rfl
        have l2 : w4.cell? ⟨w.heap.size + 1, 2, none⟩ = some (.int .u8 (lastBytes (byteAt x q) r n 2)) := cell_of_here HH.out 2 rfl
        have l3 : w4.cell? ⟨w.heap.size + 1, 3, none⟩ = some (.int .u8 (lastBytes (byteAt x q) r n 3)) := cell_of_here HH.out 3 rfl
        have l4 : w4.cell? ⟨w.heap.size + 1, 4, none⟩ = some (.int .u8 (lastBytes (byteAt x q) r n 4)) := cell_of_here HH.out 4 rfl
        have l5 : w4.cell? ⟨w.heap.size + 1, 5, none⟩ = some (.int .u8 (lastBytes (byteAt x q) r n 5)) := cell_of_here HH.out 5 rfl
        have l6 : w4.cell? ⟨w.heap.size + 1, 6, none⟩ = some (.int .u8 (lastBytes (byteAt x q) r n 6)) := cell_of_here HH.out 6 rfl
        have l7 : w4.cell? ⟨w.heap.size + 1, 7, none⟩ = some (.int .u8 (lastBytes (byteAt x q) r n 7)) := cell_of_here HH.out 7 rfl
        clear M hs1 hq' E1 hq hqr hqc hlt
        go_upto_region 8 with fail
        go_cut [7] (fun s7 wx => s7 = .pointer (some ⟨w.heap.size, 0, none⟩) ∧ Holds w.heap.size 138 s1.cells w4 wx)
        case first =>
          go_wp2_with (go_at_call 97; refine HM.out.mono ?_; rintro e w' ⟨rfl, hw⟩)
          go_meet
          exact ⟨rfl, hw⟩
        case rest =>
          clear l0 l1 l2 l3 l4 l5 l6 l7
          obtain ⟨rfl, hcut⟩ := hcut
          obtain ⟨s2, hs2⟩ : ∃ s2 : S4, { s1 with c := bits .xor .u64 s1.c 255 } = s2 := ⟨_, rfl⟩
          go_upto_region 9 with fail
          go_cut [7] (fun s7 wx => s7 = .pointer (some ⟨w.heap.size, 0, none⟩) ∧ Holds w.heap.size 138 s2.cells w4 wx)
          case first =>
            have S2 := Lib.hid hs2
            have c2 : wc.cell? ⟨w.heap.size, 2, none⟩ = some (.int .u64 s1.c) := hcut.cell 2 rfl
            have f := hcut.free 2
            have H := Lib.hid hcut
            clear hcut hs2
            go_wp2_with fail
            go_meet
            exact ⟨rfl, Holds.set H.out (by rw [← S2.out]; rfl)⟩
          case rest =>
            obtain ⟨rfl, hcut⟩ := hcut
            obtain ⟨s3, hs3⟩ : ∃ s3 : S4, s3 = rounds 4 s2 := ⟨_, rfl⟩
            have T := turn_any w.heap.size 4 (by omega) s2 wc hcut.here
            rw [← hs3] at T
            have HT := Lib.hid T
            have S3 := Lib.hid hs3
            have S2 := Lib.hid hs2
            clear T hs3 hs2
            go_upto_region 10 with fail
            go_cut [7] (fun s7 wx => s7 = .pointer (some ⟨w.heap.size, 0, none⟩) ∧ Holds w.heap.size 138 s3.cells w4 wx)
            case first =>
              have H := Lib.hid hcut
              clear hcut
              go_wp2_with (go_at_call 98; refine HT.out.mono ?_; rintro e w' ⟨rfl, hw⟩)
              go_meet
              exact ⟨rfl, H.out.trans hw⟩
            case rest =>
              clear HT
              obtain ⟨rfl, hcut⟩ := hcut
              have c0 : wc.cell? ⟨w.heap.size, 0, none⟩ = some (.int .u64 s3.a) := hcut.cell 0 rfl
              have c1 : wc.cell? ⟨w.heap.size, 1, none⟩ = some (.int .u64 s3.b) := hcut.cell 1 rfl
              have c2 : wc.cell? ⟨w.heap.size, 2, none⟩ = some (.int .u64 s3.c) := hcut.cell 2 rfl
              have c3 : wc.cell? ⟨w.heap.size, 3, none⟩ = some (.int .u64 s3.d) := hcut.cell 3 rfl
              have H := Lib.hid hcut
              clear hcut
              go_wp2
              go_ret
              refine ⟨?_, ?_⟩
              · rw [sipSum, ← S1.out, sipEnd, S2.out, ← S3.out]; rfl
              · exact HB.out.trans (H.out.only.below (Nat.le_refl _) (by have := HB.out.size; omega))
end Go.Proofs.YtoopcmcmjaikhaaDoor.S
end
