/- parts.Reader: Hash, Next; tx.readMark. -/
import Derived.Test.YtjlefbkcjccjkaaRe
import Derived.Test.YtjlefbkcjccjkaaHc0
set_option linter.unusedSimpArgs false
set_option linter.unusedVariables false
set_option maxRecDepth 100000
namespace Go.Proofs.Ytjlefbkcjccjkaa
open Go.RowKit Go.Lib Go.Sort

theorem infoHsh : (Try.prog.info? 37).map (fun i => (i.zero, i.size)) = some (some (.agg (arr 32 fun _ => .int .u8 0)), 32) := by kernel_rfl
section
variable {D W : World} {b : Nat} {u : Value} {xs : List Nat}
def HashAt (v : Value) (a : List Nat) : Prop := v = .agg (arr 32 (bv (lf a))) ∧ a.length = 32 ∧ IsB a
set_option maxHeartbeats 2000000 in
theorem phash_any (R : Hid (Rd D W b u xs)) : Calls Try.prog 95 #[.pointer (some ⟨b, 0, none⟩)] W (RdPost D W b (fun _ v a => HashAt v a) (pTake 32 xs)) := by
  have E := Lib.hid R.out.start
  go_enter Try.func95, Try.ntmps95
  go_wp2_with (first
    | (refine mem_alloc E 37 rfl rfl infoHsh ?_; clear E; intro b2 w2 E; simp only [arr_cells'] at E)
    | (go_at_call 92; refine (take32 (Lib.hid (E.out.rnext R.out R.out.dat))).mono ?_; intro e1 w1 h1; rcases h1.cases with ⟨er, hr, rfl, ho⟩ | ⟨a1, r1, v1, u1, hr, rfl, ha, hb, p1, g1, o1, c1, rfl, hl1, RW⟩; case inl => exact ⟨rfl, RdPost.bad hr (E.out.ronly.trans ho)⟩
       (have HR := Lib.hid hr; have HA := Lib.hid ha; have E1 := Lib.hid (E.out.rcall R.out.box hb); have H32 := (pTake_good hr).2.2.2; have HB := Lib.hid (isB_row RW); rw [H32] at RW ⊢; have RR := Lib.hid (RW.below (only_old R.out E1.out.ronly)); obtain rfl := RW.head (by omega); clear hr ha hb h1 RW hl1 E))
    | (refine mem_known rfl (.pointer (some ⟨g1, o1, none⟩)) _ (exec_arr rfl (by exact run_arrayAt _ _ _ (by omega) _)) ?_)
    | (refine mem_known rfl (.agg (arr 32 (bv (lf a1)))) _ (exec_load rfl (by exact load_hash RR.out (by omega))) ?_)
    | (refine mem_store_row 0 E1 37 rfl (.tmp 2) (.tmp 6) rfl rfl rfl rfl (by kernel_rfl) (by simp only [arr_size]) (bv_one _ _) ?_; clear E1; intro w5 E1; simp only [List.set_cons_zero, List.set_cons_succ] at E1))
  refine bodyPost_ret (results_cell_row (fn := Try.f95) rfl _ _ b2 37 _ (0, 0) _ rfl (E1.out.get List.mem_cons_self) Try.underlying37 rfl (by rw [arr_size]; kernel_rfl)) rfl ?_
  exact RdPost.good HR.out HA.out E1.out ⟨rfl, H32, HB.out⟩
/-- Whether x comes next. -/
def nextIs (x : Nat) (xs : List Nat) : Bool := decide (0 < xs.length ∧ lf xs 0 = x)
set_option maxHeartbeats 2000000 in
theorem pnext_any (R : Hid (Rd D W b u xs)) (x : Nat) : Calls Try.prog 93 #[.pointer (some ⟨b, 0, none⟩), .int .u8 ((x : Nat) : Int)] W fun e w' => e = .returned (.bool (nextIs x xs)) ∧ w' = W := by
  have E := Lib.hid R.out.start
  obtain ⟨p, g, o, c, rfl, hl, RW⟩ := R.out.dat
  obtain ⟨n, hn⟩ : ∃ n, n = xs.length := ⟨_, rfl⟩
  obtain ⟨r, hr⟩ : ∃ r, r = nextIs x xs := ⟨_, rfl⟩
  rw [← hr]
  rw [← hn] at RW hl E R
  rcases Nat.eq_zero_or_pos n with h0 | h0
  · subst h0
    have hr2 : r = false := by rw [hr]; unfold nextIs; rw [← hn]; simp
    subst hr2
    clear hr hn
    go_enter Try.func93, Try.ntmps93
    go_wp2_with (first
      | (refine wpList_xld E R.out.hbox 22 _ rfl rfl rfl Try.underlying22 rfl rfl ?_))
    go_ret
    exact ⟨rfl, rfl⟩
  · obtain rfl := RW.head h0
    have RR := RW.below R.out.old
    have c0 := RR.cell 0 h0
    rw [Nat.add_zero] at c0
    have hr2 : r = decide (lf xs 0 = x) := by rw [hr]; unfold nextIs; rw [← hn]; simp [h0]
    obtain ⟨y, hy⟩ : ∃ y, y = lf xs 0 := ⟨_, rfl⟩
    rw [← hy] at hr2 c0
    have hx : r = decide ((y : Int) = (x : Int)) := by rw [hr2]; congr 1; exact propext ⟨fun h => by rw [h], fun h => by omega⟩
    have HX := Lib.hid hx
    clear hr hr2 hx hn hy
    go_enter Try.func93, Try.ntmps93
    go_wp2_with (first
      | (refine wpList_xld E R.out.hbox 22 _ rfl rfl rfl Try.underlying22 rfl rfl ?_))
    go_ret
    refine ⟨?_, rfl⟩
    rw [HX.out]
    rfl
theorem pnext0 (R : Hid (Rd D W b u xs)) : Calls Try.prog 93 #[.pointer (some ⟨b, 0, none⟩), .int .u8 0] W fun e w' => e = .returned (.bool (nextIs 0 xs)) ∧ w' = W := pnext_any R 0
end
end Go.Proofs.Ytjlefbkcjccjkaa
