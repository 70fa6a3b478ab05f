/- slices.Clone and slices.Equal of hashes; the root of any number of hashes. -/
import Derived.Test.YtbgaponminodhaaDoorOh
set_option linter.unusedSimpArgs false
set_option linter.unusedVariables false
set_option maxRecDepth 100000
namespace Go.Proofs.YtbgaponminodhaaDoor
open Go.RowKit Go.Lib Go.Sort

set_option maxHeartbeats 2000000 in
theorem hclone_any {w : World} {p : Option Addr} {g o n c : Nat} {h : Nat → List Nat} (R : Hid (HRow w p g o n c h)) (hn : n * 32 ≤ 140737488355328) : Calls Tryd.prog 26 #[.slice p n c] w fun e w' => ∃ p' g' c', e = .returned (.slice p' n c') ∧ VOwn 33 32 w.heap.size w' p' g' n c' (hv h) ∧ Below w.heap.size w w' := by
  cases p with
  | none =>
    obtain ⟨rfl, rfl⟩ := R.out.row.nil rfl
    have he : ∀ w : World, (binOp .eql 56 (.slice none 0 0) (.slice none 0 0)).run Tryd.prog w = .ok (.bool true) w := fun _ => rfl
    go_enter Tryd.func26, Tryd.ntmps26
    go_wp2
    go_ret
    exact ⟨none, 0, 0, rfl, vown_nothing _ _ _ _ _ (Nat.le_refl _), Below.refl _ _⟩
  | some a =>
    have he : ∀ w : World, (binOp .eql 56 (.slice (some a) n c) (.slice none 0 0)).run Tryd.prog w = .ok (.bool false) w := fun _ => rfl
    have E := Lib.hid (Mem.nil w)
    have HN := Lib.hid hn
    clear hn
    go_enter Tryd.func26, Tryd.ntmps26
    go_wp2_with (first
      | (refine wpList_vbs 56 33 32 0 rfl _ rfl (hv h) (fun i _ => rfl) (by unfold maxLen; omega) (ps := #[]) (by kernel_rfl) (fun W => run_bs0 Tryd.underlying56 infoHash3 W) rfl ?_; intro p1 g1 w1 N hb; replace E := Lib.hid (E.out.call hb.out); clear hb)
      | (at_builtin; refine wpList_vapp 56 33 32 32 Tryd.underlying56 infoHash3 rfl (by omega) rfl (.tmp 5) (.tmp 6) rfl rfl N rfl (Lib.hid (R.out.below E.out.below).row) (by have := HN.out; unfold maxLen; omega) (by have := HN.out; omega) ?_; intro p2 g2 c2 w2 N2 hg; have B2 := Lib.hid (E.out.below.trans (N.out.under hg.out (Nat.le_refl _) E.out.below.size)); clear N hg))
    go_ret
    refine ⟨p2, g2, c2, rfl, ?_, B2.out⟩
    have := N2.out.to (U := hv h) (fun i hi => by unfold vcat; rw [if_neg (by omega)]; congr 1)
    rwa [Nat.zero_add] at this
set_option maxHeartbeats 2000000 in
theorem heq_any {w : World} {p p' : Option Addr} {g o n c g' o' c' : Nat} {h : Nat → List Nat} (R : Hid (HRow w p g o n c h)) (R' : Hid (HRow w p' g' o' n c' h)) (hn : n ≤ 140737488355328) : Calls Tryd.prog 29 #[.slice p n c, .slice p' n c'] w fun e w' => e = .returned (.bool true) ∧ Below w.heap.size w w' := by
  go_enter Tryd.func29, Tryd.ntmps29
  go_wp2
  go_loopg [13] n (fun k i wr => ∃ j : Nat, j + k = n ∧ i = .int .i64 (j : Int) ∧ Hid (Below w.heap.size w wr))
  case atStart => exact ⟨0, by omega, rfl, Lib.hid (Below.refl _ _)⟩
  case round =>
    obtain ⟨j, hj, rfl, B⟩ := hrel
    obtain ⟨kk, rfl⟩ : ∃ kk : Nat, kk = gk := ⟨_, rfl⟩
    by_cases hlt : j < n
    · obtain rfl := R.out.row.head (by omega)
      obtain rfl := R'.out.row.head (by omega)
      go_upto_region 6 with fail
      go_cut [24] (fun s wx => s = .bool false ∧ Hid (Below w.heap.size w wx))
      case first =>
        have e := eq_hash Tryd.underlying33 (R.out.is j) (R.out.is j)
        simp only [decide_true] at e
        refine wp_region_quiet_below (by kernel_rfl) (by kernel_rfl) ?_
        quiet_step (fail)
        quiet_step (fail)
        refine wpQuiet_ix (k := 32) (j := j) Tryd.underlying56 (by kernel_rfl) (.tmp 16) (.tmp 17) rfl rfl rfl rfl (by omega) rfl ?_
        refine wpQuiet_load_at 33 (.tmp 18) rfl rfl _ rfl _ (fun w3 hC => by obtain ⟨p, rfl⟩ := hC; exact ((R.out.below B.out).below (below_regrown wr p.d p.os)).load (by omega)) ?_
        quiet_step (fail)
        quiet_step (fail)
        refine wpQuiet_ix (k := 32) (j := j) Tryd.underlying56 (by kernel_rfl) (.tmp 20) (.tmp 21) rfl rfl rfl rfl (by omega) rfl ?_
        refine wpQuiet_load_at 33 (.tmp 22) rfl rfl _ rfl _ (fun w3 hC => by obtain ⟨p, rfl⟩ := hC; exact ((R'.out.below B.out).below (below_regrown wr p.d p.os)).load (by omega)) ?_
        quiet_step (fail)
        refine wpQuiet_nil ?_
        intro _ hw'
        obtain ⟨⟨dq, osq⟩, hw''⟩ := hw'
        subst hw''
        go_wp2_with fail
        go_meet
        exact ⟨by simp, Lib.hid (B.out.trans ((below_regrown wr dq osq).mono B.out.size))⟩
      case rest =>
        obtain ⟨rfl, hB⟩ := hcut
        clear B
        go_wp2
        go_roundg (n - (j + 1))
        case measure => omega
        case rel => exact ⟨j + 1, by omega, by go_num, hB⟩
    · obtain rfl : j = n := by omega
      go_wp2
      go_ret
      exact ⟨rfl, B.out⟩
/-- The root of any number of hashes. -/
def rootOf (h : Nat → List Nat) (n : Nat) : List Nat × Bool := if n = 0 then (tl (fun _ => 0) 32, false) else mroot h n
theorem zeros32 : arr 32 (bv fun _ => 0) = arr 32 (bv (lf (tl (fun _ => 0) 32))) := arr_congr fun i hi => by
  unfold bv
  rw [lf_tl _ hi]
theorem isH_rootOf (h : Nat → List Nat) (n : Nat) (hh : ∀ i, IsH (h i)) : IsH (rootOf h n).1 := by
  unfold rootOf
  split
  · exact ⟨tl_length _ _, isB_tl (x := fun _ => 0) (fun _ => by omega) 32⟩
  · exact isH_root h hh _ _
set_option maxHeartbeats 2000000 in
theorem merkle_none {w : World} {p : Option Addr} {c : Nat} : Calls Tryd.prog 27 #[.slice p 0 c] w fun e w' => e = .returned (.tuple #[.agg (arr 32 (bv fun _ => 0)), .bool false]) ∧ Below w.heap.size w w' := by
  have E := Lib.hid (Mem.nil w)
  go_enter Tryd.func27, Tryd.ntmps27
  go_wp2_with (first
    | (refine mem_alloc E 33 rfl rfl infoHash ?_; clear E; intro b2 w2 E; simp only [arr_cells'] at E)
    | (refine wpList_build_to rfl 33 _ rfl (ps := #[]) (by kernel_rfl) _ built_hash0 ?_)
    | (refine mem_store_row 0 E 33 rfl (.tmp 2) (.tmp 8) rfl rfl rfl rfl (by kernel_rfl) (by simp only [arr_size]) (bv_one _ _) ?_; clear E; intro w6 E; simp only [List.set_cons_zero, List.set_cons_succ] at E))
  exact bodyPost_ret (res_row_tmp (fn := Tryd.f27) (p := 2) (u := 3) rfl _ _ b2 32 33 _ _ rfl (E.out.get List.mem_cons_self) Tryd.underlying33 rfl (by kernel_rfl)) rfl ⟨rfl, E.out.below⟩
set_option maxHeartbeats 2000000 in
theorem rmerkle_none {w : World} {p : Option Addr} {c : Nat} : Calls Tryd.prog 28 #[.slice p 0 c] w fun e w' => e = .returned (.tuple #[.agg (arr 32 (bv fun _ => 0)), .bool false]) ∧ Below w.heap.size w w' := by
  have E := Lib.hid (Mem.nil w)
  go_enter Tryd.func28, Tryd.ntmps28
  go_wp2_with (first
    | (refine mem_alloc E 33 rfl rfl infoHash ?_; clear E; intro b2 w2 E; simp only [arr_cells'] at E)
    | (refine wpList_build_to rfl 33 _ rfl (ps := #[]) (by kernel_rfl) _ built_hash0 ?_)
    | (refine mem_store_row 0 E 33 rfl (.tmp 2) (.tmp 14) rfl rfl rfl rfl (by kernel_rfl) (by simp only [arr_size]) (bv_one _ _) ?_; clear E; intro w6 E; simp only [List.set_cons_zero, List.set_cons_succ] at E))
  exact bodyPost_ret (res_row_tmp (fn := Tryd.f28) (p := 2) (u := 3) rfl _ _ b2 32 33 _ _ rfl (E.out.get List.mem_cons_self) Tryd.underlying33 rfl (by kernel_rfl)) rfl ⟨rfl, E.out.below⟩
theorem merkle_all {w : World} {p : Option Addr} {g o n c : Nat} {h : Nat → List Nat} (R : Hid (HRow w p g o n c h)) (hn : n ≤ 1000000) (L : Hid (S.Both w)) :
    Calls Tryd.prog 27 #[.slice p n c] w fun e w' => e = .returned (.tuple #[.agg (arr 32 (bv (lf (rootOf h n).1))), .bool (rootOf h n).2]) ∧ Below w.heap.size w w' := by
  unfold rootOf
  by_cases h0 : n = 0
  · subst h0
    rw [if_pos rfl, ← zeros32]
    exact merkle_none
  · rw [if_neg h0]
    exact merkle_any R (by omega) hn L
theorem rmerkle_all {w : World} {p : Option Addr} {g o n c : Nat} {h : Nat → List Nat} (R : Hid (HRow w p g o n c h)) (hn : n ≤ 1000000) :
    Calls Tryd.prog 28 #[.slice p n c] w fun e w' => e = .returned (.tuple #[.agg (arr 32 (bv (lf (rootOf h n).1))), .bool (rootOf h n).2]) ∧ Below w.heap.size w w' := by
  unfold rootOf
  by_cases h0 : n = 0
  · subst h0
    rw [if_pos rfl, ← zeros32]
    exact rmerkle_none
  · rw [if_neg h0]
    exact rmerkle_any n _ _ _ _ _ _ _ R (by omega) (Nat.le_refl _) hn
/-- A hash that begins with x. -/
def lf7 (x : Nat) : List Nat := tl (fun i => if i = 0 then x else 0) 32
theorem isH_lf7 (x : Nat) (hx : x < 256) : IsH (lf7 x) := ⟨tl_length _ _, isB_tl (fun i => by split <;> omega) 32⟩
theorem built_one (x : Nat) : Tryd.prog.built 33 (#[(0, .int .u8 (x : Int))] : Array (Nat × Value)).toList = some (arr 32 (bv fun i => if i = 0 then x else 0)) := by kernel_rfl
theorem built_lf7 (x : Nat) : Tryd.prog.built 33 (#[(0, .int .u8 (x : Int))] : Array (Nat × Value)).toList = some (arr 32 (bv (lf (lf7 x)))) := by
  have e : arr 32 (bv fun i => if i = 0 then x else 0) = arr 32 (bv (lf (lf7 x))) := arr_congr fun i hi => by
    unfold bv lf7
    rw [lf_tl _ hi]
  rw [← e]
  exact built_one x
theorem run_hslice {p q : Option Addr} {n c h : Nat} (hs : sliced p 0 h c 32 = .slice q h c) (h2 : h ≤ c) (w : World) : (Instr.sliceAt 56 (.slice p n c) none (some (.int .i64 ((h : Nat) : Int))) none).run Tryd.prog w = .ok (.slice q h c) w := by
  have he : Tryd.prog.elem 56 = 33 := by kernel_rfl
  have ht : Tryd.prog.underlying 56 = some (.slice (Tryd.prog.elem 56)) := by rw [he]; exact Tryd.underlying56
  have hsz : (sizeOf 33).run Tryd.prog w = .ok 32 w := by kernel_rfl
  have hb : (Instr.sliceBounds true n c none (some (.int .i64 (h : Int))) none).run Tryd.prog w = .ok (0, h, c) w := by simp [Instr.sliceBounds, run_sliceBound, h2]
  rw [run_sliceAt_slice w 56 _ _ _ _ ht, run_slice_any w 56 p n c ht, hb]
  simp only [Result.andThen_ok, he, hsz, hs]
end Go.Proofs.YtbgaponminodhaaDoor
