/- A header's ID, the program's and the document's. -/
import Derived.Test.YtoopcmcmjaikhaaDoorRa
import Derived.Test.YtoopcmcmjaikhaaDoorSSame
import Derived.Test.YtoopcmcmjaikhaaDoorSShaLaid
set_option linter.unusedSimpArgs false
set_option linter.unusedVariables false
namespace Go.Proofs.YtoopcmcmjaikhaaDoor
open Go.RowKit Go.Lib Go.Sort

/-- The bytes of a header, as the text on sums has them. -/
def hx (h : Hd) : Nat → Int := fun i => ((hb h i : Nat) : Int)
theorem infoId : (Tryd.prog.info? 23).map (fun i => (i.zero, i.size)) = some (some (.agg (arr 32 (bv fun _ => 0))), 32) := by kernel_rfl
theorem id_one (x : Nat → Int) (n : Nat) : (arr 32 (S.sha2 x n)).all (·.oneCell') = true := Array.all_eq_true_iff_forall_mem.2 fun v hv => by
  unfold arr at hv
  simp at hv
  obtain ⟨i, _, rfl⟩ := hv
  rfl
theorem Row.lies {w : World} {p : Option Addr} {g o n c : Nat} {h : Hd} (R : Row w p g o n c (hb h)) : S.Lies w p g o n (hx h) := ⟨R.head, R.cell⟩
theorem hx_range {h : Hd} (ok : h.Ok) (i : Nat) : 0 ≤ hx h i ∧ hx h i ≤ 255 := by
  have := hb_lt ok i
  unfold hx
  omega

set_option maxRecDepth 100000 in
set_option maxHeartbeats 4000000 in
theorem id_any {h : Hd} (ok : Hid h.Ok) {w : World} (L : Hid (S.Both w)) : Calls Tryd.prog 31 #[.agg (arr 68 (hc h))] w fun e w' => e = .returned (.agg (arr 32 (S.sha2 (hx h) 80))) ∧ Below w.heap.size w w' := by
  have E := Lib.hid (Mem.nil w)
  go_enter Tryd.func31, Tryd.ntmps31
  go_wp2_with (first
    | (refine mem_box E 28 rfl _ rfl rfl (arr_cells' 68 (hc h)) ?_; clear E; intro b2 w2 E)
    | (refine mem_alloc E 23 rfl rfl infoId ?_; clear E; intro b3 w3 E; simp only [arr_cells'] at E)
    | (refine mem_load_row E 28 (by kernel_rfl) (.tmp 1) rfl rfl (by exact List.mem_cons_of_mem _ List.mem_cons_self) Tryd.underlying28 rfl (by rw [arr_size]; kernel_rfl) ?_)
    | (go_at_call 62; refine (henc_any ok _).mono ?_; rintro e w4 ⟨p1, g1, c1, rfl, N1, hb⟩; have R1 := Lib.hid N1.row; replace E := Lib.hid (E.out.call hb); clear hb N1)
    | (go_at_call 61; refine (S.double_any p1 g1 0 80 c1 (hx h) (hx_range ok.out) (by omega) R1.out.le (by have := R1.out.cap; unfold maxLen at this; omega) _ R1.out.lies (L.out.below E.out.below)).mono ?_; rintro e w5 ⟨rfl, hb⟩; replace E := Lib.hid (E.out.call hb); clear hb)
    | (refine mem_store_row 0 E 23 rfl (.tmp 2) (.tmp 5) rfl rfl rfl rfl (by kernel_rfl) (by simp only [arr_size]) (by exact id_one _ _) ?_; clear E; intro w6 E; simp only [List.set_cons_zero, List.set_cons_succ] at E))
  exact bodyPost_ret (results_cell_row (fn := Tryd.f31) rfl _ _ b3 23 _ (0, 0) _ rfl (E.out.get List.mem_cons_self) Tryd.underlying23 rfl (by rw [arr_size]; kernel_rfl)) rfl ⟨rfl, E.out.below⟩
set_option maxRecDepth 100000 in
set_option maxHeartbeats 4000000 in
theorem rid_any {h : Hd} (ok : Hid h.Ok) {w : World} : Calls Tryd.prog 9 #[.agg (arr 68 (hc h))] w fun e w' => e = .returned (.agg (arr 32 (S.sha2 (hx h) 80))) ∧ Below w.heap.size w w' := by
  have E := Lib.hid (Mem.nil w)
  go_enter Tryd.func9, Tryd.ntmps9
  go_wp2_with (first
    | (refine mem_box E 28 rfl _ rfl rfl (arr_cells' 68 (hc h)) ?_; clear E; intro b2 w2 E)
    | (refine mem_alloc E 23 rfl rfl infoId ?_; clear E; intro b3 w3 E; simp only [arr_cells'] at E)
    | (refine mem_load_row E 28 (by kernel_rfl) (.tmp 1) rfl rfl (by exact List.mem_cons_of_mem _ List.mem_cons_self) Tryd.underlying28 rfl (by rw [arr_size]; kernel_rfl) ?_)
    | (go_at_call 30; refine (rhenc_any ok _).mono ?_; rintro e w4 ⟨p1, g1, c1, rfl, N1, hb⟩; have R1 := Lib.hid N1.row; replace E := Lib.hid (E.out.call hb); clear hb N1)
    | (go_at_call 29; refine (S.ref_double_any p1 g1 0 80 c1 (hx h) (hx_range ok.out) (by omega) (by exact R1.out.nil) _ R1.out.lies).mono ?_; rintro e w5 ⟨rfl, hb⟩; replace E := Lib.hid (E.out.call hb); clear hb)
    | (refine mem_store_row 0 E 23 rfl (.tmp 2) (.tmp 5) rfl rfl rfl rfl (by kernel_rfl) (by simp only [arr_size]) (by exact id_one _ _) ?_; clear E; intro w6 E; simp only [List.set_cons_zero, List.set_cons_succ] at E))
  exact bodyPost_ret (results_cell_row (fn := Tryd.f9) rfl _ _ b3 23 _ (0, 0) _ rfl (E.out.get List.mem_cons_self) Tryd.underlying23 rfl (by rw [arr_size]; kernel_rfl)) rfl ⟨rfl, E.out.below⟩
end Go.Proofs.YtoopcmcmjaikhaaDoor

