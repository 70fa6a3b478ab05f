/- parts.Reader: Count, Text; tx.readText, tx.readMark. -/
import Derived.Test.YtjlefbkcjccjkaaRg
set_option linter.unusedSimpArgs false
set_option linter.unusedVariables false
set_option maxRecDepth 100000
namespace Go.Proofs.Ytjlefbkcjccjkaa
open Go.RowKit Go.Lib Go.Sort

theorem need_any (v : Value) (c : Bool) (e : Int) (w : World) : Calls Try.prog 67 #[v, .bool c, .int .i64 e] w fun en w' => w' = w ∧ ((c = true ∧ ∃ r, en = .returned r) ∨ (c = false ∧ en = Quit e)) := by
  cases c
  · exact (need_bad v e w).mono fun en w' ⟨h1, h2⟩ => ⟨h2, .inr ⟨rfl, h1⟩⟩
  · exact (need_ok v e w).mono fun en w' ⟨h1, h2⟩ => ⟨h2, .inl ⟨rfl, h1⟩⟩
section
variable {D W : World} {b : Nat} {u : Value} {xs : List Nat}
set_option maxHeartbeats 2000000 in
theorem pcnt_any (R : Hid (Rd D W b u xs)) (M : Nat) (hM : M < 9223372036854775808) : Calls Try.prog 94 #[.pointer (some ⟨b, 0, none⟩), .int .i64 ((M : Nat) : Int)] W (RdPost D W b (fun _ v a => v = .int .i64 ((a : Nat) : Int)) (pCnt M xs)) := by
  have E := Lib.hid R.out.start
  have cw : IntKind.u64.wrap (M : Int) = (M : Int) := by rw [IntKind.wrap_u64]; omega
  go_enter Try.func94, Try.ntmps94
  go_wp2_with (first
    | (go_at_call 104; refine (partn_any R).mono ?_; intro e1 w1 h1; rcases h1.cases with ⟨er, hr, rfl, ho⟩ | ⟨a1, r1, v1, u1, hr, rfl, ha, hb, rfl⟩; case inl => exact ⟨rfl, RdPost.bad (Res.bb hr) ho⟩
       (have HR := Lib.hid hr; have HA := Lib.hid ha; have E1 := Lib.hid (E.out.rcall R.out.box hb); clear hr ha hb h1 E))
    | (go_at_call 67; refine (need_any _ _ _ _).mono ?_; rintro e2 w2 ⟨rfl, ⟨hc, r2, rfl⟩ | ⟨hc, rfl⟩⟩; case inr => exact ⟨rfl, RdPost.bad ((Res.bg HR.out).trans (if_neg (by simp at hc; omega))) E1.out.ronly⟩
       (have HC := Lib.hid (show a1 ≤ M by simp at hc; omega); clear hc; have cw2 : IntKind.i64.wrap (a1 : Int) = (a1 : Int) := by rw [IntKind.wrap_i64]; have := HC.out; omega)))
  go_ret
  exact RdPost.good ((Res.bg HR.out).trans (if_pos HC.out)) HA.out E1.out rfl
theorem pcnt10k (R : Hid (Rd D W b u xs)) : Calls Try.prog 94 #[.pointer (some ⟨b, 0, none⟩), .int .i64 10000] W (RdPost D W b (fun _ v a => v = .int .i64 ((a : Nat) : Int)) (pCnt 10000 xs)) := pcnt_any R 10000 (by omega)
set_option maxHeartbeats 2000000 in
theorem ptext_any (R : Hid (Rd D W b u xs)) (M : Nat) (hM : M < 9223372036854775808) : Calls Try.prog 96 #[.pointer (some ⟨b, 0, none⟩), .int .i64 ((M : Nat) : Int)] W (RdPost D W b (fun w' v a => TextOwn W.heap.size w' v a) (pText M xs)) := by
  have E := Lib.hid R.out.start
  go_enter Try.func96, Try.ntmps96
  go_wp2_with (first
    | (go_at_call 94; refine (pcnt_any R M hM).mono ?_; intro e1 w1 h1; rcases h1.cases with ⟨er, hr, rfl, ho⟩ | ⟨a1, r1, v1, u1, hr, rfl, ha, hb, rfl⟩; case inl => exact ⟨rfl, RdPost.bad (Res.bb hr) ho⟩
       (have HR := Lib.hid hr; have E1 := Lib.hid (E.out.rcall R.out.box hb); have R1 := Lib.hid (E1.out.rnext R.out ha); clear hr ha hb h1 E))
    | (go_at_call 92; refine (take_any R1 a1).mono ?_; intro e2 w2 h2; rcases h2.cases with ⟨er, hr, rfl, ho⟩ | ⟨a2, r2, v2, u2, hr, rfl, ha, hb, p2, g2, o2, c2, rfl, hl2, RW⟩; case inl => exact ⟨rfl, RdPost.bad ((Res.bg HR.out).trans hr) (E1.out.ronly.trans ho)⟩
       (have HR2 := Lib.hid hr; have HA := Lib.hid ha; have E2 := Lib.hid (E1.out.rcall R.out.box hb); have RR := Lib.hid (RW.below (only_old R.out E2.out.ronly)); obtain ⟨k2, hk2⟩ : ∃ k2, k2 = a2.length := ⟨_, rfl⟩; have HK := Lib.hid hk2; rw [← hk2] at RR hl2 ⊢; clear hr ha hb h2 RW hk2 E1))
    | (at_builtin; refine wpList_app (.inl rfl) _ _ rfl rfl (Lib.hid (own_nothing w2 w2.heap.size (fun _ => 0) (fun _ => by omega) (Nat.le_refl _))) rfl RR (by omega) ?_; intro p3 g3 c3 w3 N3 hb3; rw [Nat.zero_add] at N3 ⊢; have E3 := Lib.hid (E2.out.call hb3.out); have HB3 := Lib.hid E2.out.rsize; clear hb3 E2))
  go_ret
  refine RdPost.good ((Res.bg HR.out).trans HR2.out) HA.out E3.out ⟨p3, g3, c3, by rw [HK.out]; rfl, by rw [← HK.out]; exact hl2, ?_⟩
  have N4 := N3.out.mono HB3.out
  rw [HK.out] at N4
  exact N4.to (fun i hi => by unfold cat; rw [if_neg (by omega)]; rfl) (lf_lt (isB_row (by have := RR.out; rw [HK.out] at this; exact this)))
theorem ptext10k (R : Hid (Rd D W b u xs)) : Calls Try.prog 96 #[.pointer (some ⟨b, 0, none⟩), .int .i64 10000] W (RdPost D W b (fun w' v a => TextOwn W.heap.size w' v a) (pText 10000 xs)) := ptext_any R 10000 (by omega)
set_option maxHeartbeats 2000000 in
theorem preadtext_any (R : Hid (Rd D W b u xs)) : Calls Try.prog 71 #[.pointer (some ⟨b, 0, none⟩)] W (RdPost D W b (fun w' v a => TextOwn W.heap.size w' v a) (pText 10000 xs)) := by
  have E := Lib.hid R.out.start
  go_enter Try.func71, Try.ntmps71
  go_wp2_with (first
    | (go_at_call 96; refine (ptext10k R).mono ?_; intro e1 w1 h1; rcases h1.cases with ⟨er, hr, rfl, ho⟩ | ⟨a1, r1, v1, u1, hr, rfl, ha, hb, hv⟩; case inl => exact ⟨rfl, RdPost.bad hr ho⟩
       (have HR := Lib.hid hr; have HA := Lib.hid ha; have HV := Lib.hid hv; have E1 := Lib.hid (E.out.rcall R.out.box hb); clear hr ha hb h1 hv E)))
  go_ret
  exact RdPost.good HR.out HA.out E1.out HV.out
set_option maxHeartbeats 2000000 in
theorem pmark_any (R : Hid (Rd D W b u xs)) : Calls Try.prog 64 #[.pointer (some ⟨b, 0, none⟩)] W (RdPost D W b (fun _ v a => v = .bool a) (pMark xs)) := by
  have E := Lib.hid R.out.start
  by_cases hn : nextIs 0 xs = true
  · have HN := Lib.hid hn
    have HC : 0 < xs.length ∧ lf xs 0 = 0 := by unfold nextIs at hn; simpa using hn
    have PM : Hid (pMark xs = (pTake 1 xs).bind fun _ r => (pNum 1 r).bind fun x s => if x = 1 then .good true s else .bad 51) := Lib.hid (by unfold pMark; rw [if_pos HC])
    clear hn HC
    go_enter Try.func64, Try.ntmps64
    go_wp2_with (first
      | (go_at_call 93; refine (pnext0 R).mono ?_; rintro e1 w1 ⟨rfl, rfl⟩; rw [HN.out])
      | (go_at_call 92; refine (take1 R).mono ?_; intro e1 w1 h1; rcases h1.cases with ⟨er, hr, rfl, ho⟩ | ⟨a1, r1, v1, u1, hr, rfl, ha, hb, hv⟩; case inl => exact ⟨rfl, RdPost.bad (PM.out.trans (Res.bb hr)) ho⟩
         (have HR := Lib.hid hr; have E1 := Lib.hid (E.out.rcall R.out.box hb); have R1 := Lib.hid (E1.out.rnext R.out ha); clear hr ha hb h1 hv E))
      | (go_at_call 63; refine (pnum1 R1).mono ?_; intro e2 w2 h2; rcases h2.cases with ⟨er, hr, rfl, ho⟩ | ⟨a2, r2, v2, u2, hr, rfl, ha, hb, rfl⟩; case inl => exact ⟨rfl, RdPost.bad (PM.out.trans ((Res.bg HR.out).trans (Res.bb hr))) (E1.out.ronly.trans ho)⟩
         (have HR2 := Lib.hid hr; have HA := Lib.hid ha; have E2 := Lib.hid (E1.out.rcall R.out.box hb); clear hr ha hb h2 E1))
      | (go_at_call 67; refine (need_any _ _ _ _).mono ?_; rintro e2 w2 ⟨rfl, ⟨hc, r2, rfl⟩ | ⟨hc, rfl⟩⟩; case inr => exact ⟨rfl, RdPost.bad (PM.out.trans ((Res.bg HR.out).trans ((Res.bg HR2.out).trans (if_neg (by simp at hc; omega))))) E2.out.ronly⟩
         (have HC := Lib.hid (show a2 = 1 by simp at hc; omega); clear hc)))
    go_ret
    exact RdPost.good (PM.out.trans ((Res.bg HR.out).trans ((Res.bg HR2.out).trans (if_pos HC.out)))) HA.out E2.out rfl
  · have HN := Lib.hid (show nextIs 0 xs = false by simpa using hn)
    have HC : ¬ (0 < xs.length ∧ lf xs 0 = 0) := by unfold nextIs at hn; simpa using hn
    have PM : Hid (pMark xs = .good false xs) := Lib.hid (by unfold pMark; rw [if_neg HC])
    clear hn HC
    go_enter Try.func64, Try.ntmps64
    go_wp2_with (first
      | (go_at_call 93; refine (pnext0 R).mono ?_; rintro e1 w1 ⟨rfl, rfl⟩; rw [HN.out]))
    go_ret
    exact RdPost.good PM.out R.out.dat E.out rfl
end
end Go.Proofs.Ytjlefbkcjccjkaa
