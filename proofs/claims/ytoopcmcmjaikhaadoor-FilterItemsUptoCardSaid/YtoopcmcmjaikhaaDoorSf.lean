/- A count read: the program's split. -/
import Derived.Test.YtoopcmcmjaikhaaDoorZN
import Derived.Test.YtoopcmcmjaikhaaDoorZA
import Derived.BigQuiet
set_option linter.unusedSimpArgs false
namespace Go.Proofs.YtoopcmcmjaikhaaDoor
open Go.RowKit Go.Lib

/-- The answer where there is no count. -/
abbrev noCount (k : Nat) : Value := .tuple #[.int .u64 0, .slice none 0 0, .int .i64 ((k : Nat) : Int)]
theorem run_wholeF (b : Nat) (w : World) : (Instr.sliceAt 115 (.pointer (some ⟨b, 0, none⟩)) none none none).run Tryd.prog w = .ok (.slice (some ⟨b, 0, none⟩) 9 9) w := by
  have hl : Tryd.prog.arrayLen 115 = 9 := by kernel_rfl
  have he : Tryd.prog.elem 115 = 5 := by kernel_rfl
  have ht : Tryd.prog.underlying 115 = some (.array (Tryd.prog.arrayLen 115) (Tryd.prog.elem 115)) := by rw [hl, he]; exact Tryd.underlying115
  have hs : ∀ w, (Go.sizeOf 5).run Tryd.prog w = .ok 1 w := fun w => by kernel_rfl
  rw [run_sliceAt_array_all w 115 ⟨b, 0, none⟩ ht, he, hs, hl]
  simp only [Result.andThen_ok, slicedAt]
  rw [if_neg (by omega), Nat.zero_mul, row_add]
theorem run_hm {p : Option Addr} {n c h m : Nat} (h2 : h ≤ m) (h3 : m ≤ c) (w : World) : (Instr.sliceAt 32 (.slice p n c) none (some (.int .i64 ((h : Nat) : Int))) (some (.int .i64 ((m : Nat) : Int)))).run Tryd.prog w = .ok (sliced p 0 h m 1) w := run_sl (bounds_hm h2 h3)
theorem run_lhm {p : Option Addr} {n c l h m : Nat} (h1 : l ≤ h) (h2 : h ≤ m) (h3 : m ≤ c) (w : World) : (Instr.sliceAt 32 (.slice p n c) (some (.int .i64 ((l : Nat) : Int))) (some (.int .i64 ((h : Nat) : Int))) (some (.int .i64 ((m : Nat) : Int)))).run Tryd.prog w = .ok (sliced p l h m 1) w := run_sl (bounds_lhm h1 h2 h3)
theorem run_l {p : Option Addr} {n c l : Nat} (h1 : l ≤ n) (w : World) : (Instr.sliceAt 32 (.slice p n c) (some (.int .i64 ((l : Nat) : Int))) none none).run Tryd.prog w = .ok (sliced p l n c 1) w := run_sl (bounds_l h1)
theorem run_h {p : Option Addr} {n c h : Nat} (h2 : h ≤ c) (w : World) : (Instr.sliceAt 32 (.slice p n c) none (some (.int .i64 ((h : Nat) : Int))) none).run Tryd.prog w = .ok (sliced p 0 h c 1) w := run_sl (bounds_h h2)
theorem run_lh {p : Option Addr} {n c l h : Nat} (h1 : l ≤ h) (h2 : h ≤ c) (w : World) : (Instr.sliceAt 32 (.slice p n c) (some (.int .i64 ((l : Nat) : Int))) (some (.int .i64 ((h : Nat) : Int))) none).run Tryd.prog w = .ok (sliced p l h c 1) w := run_sl (bounds_lh h1 h2)

set_option maxRecDepth 100000 in
set_option maxHeartbeats 2000000 in
theorem split_none {w : World} {p : Option Addr} {c : Nat} : Calls Tryd.prog 86 #[.slice p 0 c] w fun e w' => e = .returned (noCount 50) ∧ Below w.heap.size w w' := by
  go_enter Tryd.func86, Tryd.ntmps86
  go_wp2
  exact bodyPost_ret (res3 (fn := Tryd.f86) rfl _ _) rfl ⟨rfl, Below.refl _ _⟩

set_option maxRecDepth 100000 in
set_option maxHeartbeats 2000000 in
theorem split_short {w : World} {p : Option Addr} {g o n c : Nat} {x : Nat → Nat} (R : Hid (Row w p g o n c x)) (h0 : 0 < n) (h : n < wOf (x 0)) : Calls Tryd.prog 86 #[.slice p n c] w fun e w' => e = .returned (noCount 50) ∧ Below w.heap.size w w' := by
  obtain rfl := R.out.head h0
  have c0 := R.out.cell 0 h0
  rw [Nat.add_zero] at c0
  have fl := R.out.byte 0
  have t0 : ((n : Int) == 0) = false := by simp; omega
  go_enter Tryd.func86, Tryd.ntmps86
  go_wp2_with (go_at_call 110; refine (width_any (x 0) fl _).mono ?_; rintro e w1 ⟨rfl, rfl⟩)
  exact bodyPost_ret (res3 (fn := Tryd.f86) rfl _ _) rfl ⟨rfl, Below.refl _ _⟩

set_option maxRecDepth 100000 in
set_option maxHeartbeats 4000000 in
theorem split_form {w : World} {g o n c k v : Nat} {x : Nat → Nat} (R : Hid (Row w (some ⟨g, o, none⟩) g o n c x)) (hk : Hid (k = wOf (x 0))) (h0 : 0 < k) (h9 : k ≤ 9) (h : k ≤ n) (hv : Hid (v = val x))
    (hw : Hid (wid v ≠ k)) : Calls Tryd.prog 86 #[.slice (some ⟨g, o, none⟩) n c] w fun e w' => e = .returned (noCount 51) ∧ Below w.heap.size w w' := by
  have E := Lib.hid (Mem.nil w)
  have c0 := R.out.cell 0 (by omega)
  rw [Nat.add_zero] at c0
  have fl := R.out.byte 0
  have t0 : ((n : Int) == 0) = false := by simp; omega
  have kc : k ≤ c := Nat.le_trans h R.out.le
  have WD : Hid (∀ W : World, Calls Tryd.prog 110 #[.int .u8 ((x 0 : Nat) : Int)] W fun e w' => e = .returned (.int .i64 ((k : Nat) : Int)) ∧ W = w') := Lib.hid (by rw [hk.out]; exact width_any (x 0) fl)
  have NM : Hid (∀ W : World, Calls Tryd.prog 113 #[.agg (arr 9 (bv (cut x k)))] W fun e w' => e = .returned (.int .u64 ((v : Nat) : Int)) ∧ Below W.heap.size W w') := Lib.hid (by
    rw [hv.out, ← num_cut x, ← hk.out]
    exact fun W => form_number_any (cut x k) (Lib.hid (cut_lt R.out.byte k)) W)
  obtain ⟨p1, e1, R1⟩ := R.out.slice (l := 0) (h := k) (m := k) (by omega) h (Nat.le_refl _) kc
  have s1 : ∀ W, (Instr.sliceAt 32 (.slice (some ⟨g, o, none⟩) n c) none (some (.int .i64 ((k : Nat) : Int))) (some (.int .i64 ((k : Nat) : Int)))).run Tryd.prog W = .ok (.slice p1 k k) W := fun W => by
    have := run_hm (p := some ⟨g, o, none⟩) (n := n) (Nat.le_refl k) kc W
    rw [e1] at this
    simpa using this
  have RK := Lib.hid (show Row w p1 g o k k x by simpa using R1)
  have s9 := run_wholeF
  have ne : ∀ W, (Op.equalIn 10000 115 (.agg (arr 9 (bv (frm v)))) (.agg (arr 9 (bv (cut x k))))).run Tryd.prog W = .ok false W := fun W => other_bytes Tryd.underlying115 (j := 0) (by decide) (fun hc => hw.out (by
    rw [hv.out, hk.out] at *
    exact form_other hc)) W
  clear e1 R1
  go_enter Tryd.func86, Tryd.ntmps86
  go_upto_region 7 with (first
    | (go_at_call 110; refine (WD.out _).mono ?_; rintro e w1 ⟨rfl, rfl⟩)
    | (refine mem_alloc E 115 rfl rfl infoF ?_; clear E; intro b w2 E; simp only [arr_cells] at E))
  refine wp_region_still_tail 5 (by kernel_rfl) (by kernel_rfl) ?_
  simp only [List.take_succ_cons, List.take_zero, List.drop_succ_cons, List.drop_zero]
  change wpStill _ _ w2.drew (fun a' => wpList _ _ _ _ a' w2.drew) _ _
  replace E := Lib.hid E.out.drew
  generalize w2.drew = wd at *
  iterate 5 still_step
  refine wpStill_nil ?_
  refine mem_copy 0 E rfl (.tmp 21) (.tmp 25) rfl rfl rfl rfl (Lib.hid (RK.out.below E.out.below)) h0 h9 ?_
  clear E s1 s9
  intro w3 E
  have E : Hid (Mem w [(b, 115, arr 9 (bv (cut x k)))] w3) := E
  go_wp2_with (first
    | (go_at_call 113; refine (NM.out _).mono ?_; rintro e w1 ⟨rfl, hb⟩; replace E := Lib.hid (E.out.call hb); clear hb)
    | (go_at_call 74; refine (shortest_any v _).mono ?_; rintro e w1 ⟨rfl, hb⟩; replace E := Lib.hid (E.out.call hb); clear hb)
    | (refine mem_alloc E 115 rfl rfl infoF ?_; clear E; intro b w2 E; simp only [arr_cells] at E)
    | (refine mem_store_row 0 E 115 rfl _ _ rfl rfl rfl rfl (by kernel_rfl) (by rw [arr_size, arr_size]) (bv_one _ _) ?_; clear E; intro w2 E; simp only [List.set_cons_zero, List.set_cons_succ] at E)
    | (refine mem_load_row E 115 (by kernel_rfl) _ rfl rfl List.mem_cons_self Tryd.underlying115 rfl (by rw [arr_size]; kernel_rfl) ?_)
    | (refine mem_load_row E 115 (by kernel_rfl) _ rfl rfl (List.mem_cons_of_mem _ List.mem_cons_self) Tryd.underlying115 rfl (by rw [arr_size]; kernel_rfl) ?_))
  exact bodyPost_ret (res3 (fn := Tryd.f86) rfl _ _) rfl ⟨rfl, E.out.below⟩

end Go.Proofs.YtoopcmcmjaikhaaDoor

