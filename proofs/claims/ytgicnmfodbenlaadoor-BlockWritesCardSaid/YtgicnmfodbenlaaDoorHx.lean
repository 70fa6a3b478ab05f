/- slices.Clone and slices.Equal of hashes; the root of any number of hashes. -/
import Derived.Test.YtgicnmfodbenlaaDoorOh
set_option linter.unusedSimpArgs false
set_option linter.unusedVariables false
set_option maxRecDepth 100000
namespace Go.Proofs.YtgicnmfodbenlaaDoor
open Go.RowKit Go.Lib Go.Sort

/-- The root of any number of hashes. -/
def rootOf (h : Nat → List Nat) (n : Nat) : List Nat × Bool := if n = 0 then (tl (fun _ => 0) 32, false) else mroot h n
theorem zeros32 : arr 32 (bv fun _ => 0) = arr 32 (bv (lf (tl (fun _ => 0) 32))) := arr_congr fun i hi => by
  unfold bv
  rw [lf_tl _ hi]
theorem isH_rootOf (h : Nat → List Nat) (n : Nat) (hh : ∀ i, IsH (h i)) : IsH (rootOf h n).1 := by
  unfold rootOf
  split
  · exact ⟨tl_length _ _, isB_tl (x := fun _ => 0) (fun _ => by omega) 32⟩
  · exact isH_root h hh _ _
set_option maxHeartbeats 2000000 in
theorem merkle_none {w : World} {p : Option Addr} {c : Nat} : Calls Tryd.prog 25 #[.slice p 0 c] w fun e w' => e = .returned (.tuple #[.agg (arr 32 (bv fun _ => 0)), .bool false]) ∧ Below w.heap.size w w' := by
  have E := Lib.hid (Mem.nil w)
  go_enter Tryd.func25, Tryd.ntmps25
  go_wp2_with (first
    | (refine mem_alloc E 24 rfl rfl infoHash ?_; clear E; intro b2 w2 E; simp only [arr_cells'] at E)
    | (refine wpList_build_to rfl 24 _ rfl (ps := #[]) (by kernel_rfl) _ built_hash0 ?_)
    | (refine mem_store_row 0 E 24 rfl (.tmp 2) (.tmp 8) rfl rfl rfl rfl (by kernel_rfl) (by simp only [arr_size]) (bv_one _ _) ?_; clear E; intro w6 E; simp only [List.set_cons_zero, List.set_cons_succ] at E))
  exact bodyPost_ret (res_row_tmp (fn := Tryd.f25) (p := 2) (u := 3) rfl _ _ b2 32 24 _ _ rfl (E.out.get List.mem_cons_self) Tryd.underlying24 rfl (by kernel_rfl)) rfl ⟨rfl, E.out.below⟩
set_option maxHeartbeats 2000000 in
theorem rmerkle_none {w : World} {p : Option Addr} {c : Nat} : Calls Tryd.prog 14 #[.slice p 0 c] w fun e w' => e = .returned (.tuple #[.agg (arr 32 (bv fun _ => 0)), .bool false]) ∧ Below w.heap.size w w' := by
  have E := Lib.hid (Mem.nil w)
  go_enter Tryd.func14, Tryd.ntmps14
  go_wp2_with (first
    | (refine mem_alloc E 24 rfl rfl infoHash ?_; clear E; intro b2 w2 E; simp only [arr_cells'] at E)
    | (refine wpList_build_to rfl 24 _ rfl (ps := #[]) (by kernel_rfl) _ built_hash0 ?_)
    | (refine mem_store_row 0 E 24 rfl (.tmp 2) (.tmp 14) rfl rfl rfl rfl (by kernel_rfl) (by simp only [arr_size]) (bv_one _ _) ?_; clear E; intro w6 E; simp only [List.set_cons_zero, List.set_cons_succ] at E))
  exact bodyPost_ret (res_row_tmp (fn := Tryd.f14) (p := 2) (u := 3) rfl _ _ b2 32 24 _ _ rfl (E.out.get List.mem_cons_self) Tryd.underlying24 rfl (by kernel_rfl)) rfl ⟨rfl, E.out.below⟩
theorem merkle_all {w : World} {p : Option Addr} {g o n c : Nat} {h : Nat → List Nat} (R : Hid (HRow w p g o n c h)) (hn : n ≤ 1000000) (L : Hid (S.Both w)) :
    Calls Tryd.prog 25 #[.slice p n c] w fun e w' => e = .returned (.tuple #[.agg (arr 32 (bv (lf (rootOf h n).1))), .bool (rootOf h n).2]) ∧ Below w.heap.size w w' := by
  unfold rootOf
  by_cases h0 : n = 0
  · subst h0
    rw [if_pos rfl, ← zeros32]
    exact merkle_none
  · rw [if_neg h0]
    exact merkle_any R (by omega) hn L
theorem rmerkle_all {w : World} {p : Option Addr} {g o n c : Nat} {h : Nat → List Nat} (R : Hid (HRow w p g o n c h)) (hn : n ≤ 1000000) :
    Calls Tryd.prog 14 #[.slice p n c] w fun e w' => e = .returned (.tuple #[.agg (arr 32 (bv (lf (rootOf h n).1))), .bool (rootOf h n).2]) ∧ Below w.heap.size w w' := by
  unfold rootOf
  by_cases h0 : n = 0
  · subst h0
    rw [if_pos rfl, ← zeros32]
    exact rmerkle_none
  · rw [if_neg h0]
    exact rmerkle_any n _ _ _ _ _ _ _ R (by omega) (Nat.le_refl _) hn
/-- A hash that begins with x. -/
def lf7 (x : Nat) : List Nat := tl (fun i => if i = 0 then x else 0) 32
theorem isH_lf7 (x : Nat) (hx : x < 256) : IsH (lf7 x) := ⟨tl_length _ _, isB_tl (fun i => by split <;> omega) 32⟩
theorem built_one (x : Nat) : Tryd.prog.built 24 (#[(0, .int .u8 (x : Int))] : Array (Nat × Value)).toList = some (arr 32 (bv fun i => if i = 0 then x else 0)) := by kernel_rfl
theorem built_lf7 (x : Nat) : Tryd.prog.built 24 (#[(0, .int .u8 (x : Int))] : Array (Nat × Value)).toList = some (arr 32 (bv (lf (lf7 x)))) := by
  have e : arr 32 (bv fun i => if i = 0 then x else 0) = arr 32 (bv (lf (lf7 x))) := arr_congr fun i hi => by
    unfold bv lf7
    rw [lf_tl _ hi]
  rw [← e]
  exact built_one x
theorem run_hslice {p q : Option Addr} {n c h : Nat} (hs : sliced p 0 h c 32 = .slice q h c) (h2 : h ≤ c) (w : World) : (Instr.sliceAt 40 (.slice p n c) none (some (.int .i64 ((h : Nat) : Int))) none).run Tryd.prog w = .ok (.slice q h c) w := by
  have he : Tryd.prog.elem 40 = 24 := by kernel_rfl
  have ht : Tryd.prog.underlying 40 = some (.slice (Tryd.prog.elem 40)) := by rw [he]; exact Tryd.underlying40
  have hsz : (sizeOf 24).run Tryd.prog w = .ok 32 w := by kernel_rfl
  have hb : (Instr.sliceBounds true n c none (some (.int .i64 (h : Int))) none).run Tryd.prog w = .ok (0, h, c) w := by simp [Instr.sliceBounds, run_sliceBound, h2]
  rw [run_sliceAt_slice w 40 _ _ _ _ ht, run_slice_any w 40 p n c ht, hb]
  simp only [Result.andThen_ok, he, hsz, hs]
end Go.Proofs.YtgicnmfodbenlaaDoor

