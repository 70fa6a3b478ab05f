/- A count read: where it is one. -/
import Derived.Test.YtoopcmcmjaikhaaDoorSf
set_option linter.unusedSimpArgs false
namespace Go.Proofs.YtoopcmcmjaikhaaDoor
open Go.RowKit Go.Lib Go.Sort

set_option maxRecDepth 100000 in
set_option maxHeartbeats 4000000 in
theorem split_ok {w : World} {g o n c k v : Nat} {x : Nat → Nat} (R : Hid (Row w (some ⟨g, o, none⟩) g o n c x)) (hk : Hid (k = wOf (x 0))) (h0 : 0 < k) (h9 : k ≤ 9) (h : k ≤ n) (hv : Hid (v = val x))
    (hw : Hid (wid v = k)) : Calls Tryd.prog 86 #[.slice (some ⟨g, o, none⟩) n c] w fun e w' => ∃ p' : Option Addr, e = .returned (.tuple #[.int .u64 ((v : Nat) : Int), .slice p' (n - k) (n - k), .int .i64 0]) ∧ Row w' p' g (o + k) (n - k) (n - k) (fun i => x (k + i)) ∧ Below w.heap.size w w' := by
  have E := Lib.hid (Mem.nil w)
  have c0 := R.out.cell 0 (by omega)
  rw [Nat.add_zero] at c0
  have fl := R.out.byte 0
  have t0 : ((n : Int) == 0) = false := by simp; omega
  have kc : k ≤ c := Nat.le_trans h R.out.le
  have WD : Hid (∀ W : World, Calls Tryd.prog 110 #[.int .u8 ((x 0 : Nat) : Int)] W fun e w' => e = .returned (.int .i64 ((k : Nat) : Int)) ∧ W = w') := Lib.hid (by rw [hk.out]; exact width_any (x 0) fl)
  have NM : Hid (∀ W : World, Calls Tryd.prog 113 #[.agg (arr 9 (bv (cut x k)))] W fun e w' => e = .returned (.int .u64 ((v : Nat) : Int)) ∧ Below W.heap.size W w') := Lib.hid (by
    rw [hv.out, ← num_cut x, ← hk.out]
    exact fun W => form_number_any (cut x k) (Lib.hid (cut_lt R.out.byte k)) W)
  obtain ⟨p1, e1, R1⟩ := R.out.slice (l := 0) (h := k) (m := k) (by omega) h (Nat.le_refl _) kc
  have s1 : ∀ W, (Instr.sliceAt 32 (.slice (some ⟨g, o, none⟩) n c) none (some (.int .i64 ((k : Nat) : Int))) (some (.int .i64 ((k : Nat) : Int)))).run Tryd.prog W = .ok (.slice p1 k k) W := fun W => by
    have := run_hm (p := some ⟨g, o, none⟩) (n := n) (Nat.le_refl k) kc W
    rw [e1] at this
    simpa using this
  have RK := Lib.hid (show Row w p1 g o k k x by simpa using R1)
  have s9 := run_wholeF
  have ff : arr 9 (bv (frm v)) = arr 9 (bv (cut x k)) := arr_congr fun i _ => by
    unfold bv
    congr 2
    have := form_same R.out.byte (by rw [← hv.out, hw.out, hk.out]) i
    rw [← hv.out, ← hk.out] at this
    exact this
  have SH : Hid (∀ W : World, Calls Tryd.prog 74 #[.int .u64 ((v : Nat) : Int)] W fun e w' => e = .returned (.tuple #[.agg (arr 9 (bv (cut x k))), .int .i64 ((wid v : Nat) : Int)]) ∧ Below W.heap.size W w') := Lib.hid (by rw [← ff]; exact shortest_any v)
  have ne := same_bytes Tryd.underlying115 (cut x k)
  obtain ⟨p2, e2, R2⟩ := R.out.slice (l := k) (h := n) (m := n) h (Nat.le_refl _) (Nat.le_refl _) R.out.le
  have s2 : ∀ W, (Instr.sliceAt 32 (.slice (some ⟨g, o, none⟩) n c) (some (.int .i64 ((k : Nat) : Int))) (some (.int .i64 ((n : Nat) : Int))) (some (.int .i64 ((n : Nat) : Int)))).run Tryd.prog W = .ok (.slice p2 (n - k) (n - k)) W := fun W => by
    have := run_lhm (p := some ⟨g, o, none⟩) (n := n) (c := c) h (Nat.le_refl n) R.out.le W
    rw [e2] at this
    exact this
  have RP := Lib.hid R2
  clear ff e2 R2
  clear e1 R1
  go_enter Tryd.func86, Tryd.ntmps86
  go_upto_region 7 with (first
    | (go_at_call 110; refine (WD.out _).mono ?_; rintro e w1 ⟨rfl, rfl⟩)
    | (refine mem_alloc E 115 rfl rfl infoF ?_; clear E; intro b w2 E; simp only [arr_cells] at E))
  refine wp_region_still_tail 5 (by kernel_rfl) (by kernel_rfl) ?_
  simp only [List.take_succ_cons, List.take_zero, List.drop_succ_cons, List.drop_zero]
  change wpStill _ _ w2.drew (fun a' => wpList _ _ _ _ a' w2.drew) _ _
  replace E := Lib.hid E.out.drew
  generalize w2.drew = wd at *
  iterate 5 still_step
  refine wpStill_nil ?_
  refine mem_copy 0 E rfl (.tmp 21) (.tmp 25) rfl rfl rfl rfl (Lib.hid (RK.out.below E.out.below)) h0 h9 ?_
  clear E s1 s9
  intro w3 E
  have E : Hid (Mem w [(b, 115, arr 9 (bv (cut x k)))] w3) := E
  go_upto_region 12 with (first
    | (go_at_call 113; refine (NM.out _).mono ?_; rintro e w1 ⟨rfl, hb⟩; replace E := Lib.hid (E.out.call hb); clear hb)
    | (go_at_call 74; refine (SH.out _).mono ?_; rintro e w1 ⟨rfl, hb⟩; replace E := Lib.hid (E.out.call hb); clear hb)
    | (refine mem_alloc E 115 rfl rfl infoF ?_; clear E; intro b w2 E; simp only [arr_cells] at E)
    | (refine mem_store_row 0 E 115 rfl _ _ rfl rfl rfl rfl (by kernel_rfl) (by rw [arr_size, arr_size]) (bv_one _ _) ?_; clear E; intro w2 E; simp only [List.set_cons_zero, List.set_cons_succ] at E)
    | (refine mem_load_row E 115 (by kernel_rfl) _ rfl rfl List.mem_cons_self Tryd.underlying115 rfl (by rw [arr_size]; kernel_rfl) ?_)
    | (refine mem_load_row E 115 (by kernel_rfl) _ rfl rfl (List.mem_cons_of_mem _ List.mem_cons_self) Tryd.underlying115 rfl (by rw [arr_size]; kernel_rfl) ?_))
  refine wp_region_quiet_below (by kernel_rfl) (by kernel_rfl) ?_
  iterate 11 quiet_step (fail)
  refine wpQuiet_nil ?_
  intro _ hw'
  obtain ⟨⟨dq, osq⟩, hw''⟩ := hw'
  subst hw''
  replace E := Lib.hid (E.out.call (below_regrown _ dq osq))
  go_wp2_with fail
  exact bodyPost_ret (res3 (fn := Tryd.f86) rfl _ _) rfl ⟨p2, rfl, RP.out.below E.out.below, E.out.below⟩
end Go.Proofs.YtoopcmcmjaikhaaDoor

