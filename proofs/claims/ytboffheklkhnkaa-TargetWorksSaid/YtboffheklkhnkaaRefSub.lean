/- The document's difference of two numbers of 256 bits: it returns the difference (modulo 2^256) and whether it goes over; what lay in memory stays. -/
import Derived.Test.YtboffheklkhnkaaNot
import Derived.Test.YtboffheklkhnkaaRefAdd
import Derived.Test.YtboffheklkhnkaaRefComp
import Derived.Test.YtboffheklkhnkaaHeld
import Derived.Test.YtboffheklkhnkaaTwo
set_option linter.unusedSimpArgs false
namespace Go.Proofs.Ytboffheklkhnkaa
open Go.RowKit Go.Lib
attribute [local go_sem ↓] Go.wp_at_zero Go.wp_at_succ

theorem sub_num (a b : Nat) (ha : a < P256) (hb : b < P256) : ((a + (P256 - 1 - b)) % P256 + 1) % P256 = (a + P256 - b) % P256 := by
  rw [P256_num] at *
  omega

set_option maxRecDepth 100000 in
set_option maxHeartbeats 4000000 in
theorem ref_sub_any (a b : Nat) (ha : a < P256) (hb : b < P256) (w : World) :
    Calls Try.prog 23 #[wide a, wide b] w fun e w' => e = .returned (.tuple #[wide (a + P256 - b), .bool (decide (a < b))]) ∧ Below w.heap.size w w' := by
  have hs : (a + (P256 - 1 - b)) % P256 < P256 := Nat.mod_lt _ (by decide)
  have hn : P256 - 1 - b < P256 := by have : 0 < P256 := (by decide); omega
  have N : Hid (∀ W, Calls Try.prog 57 #[wide b] W _) := Lib.hid (not_any b hb)
  have A : Hid (∀ W, Calls Try.prog 21 #[wide a, wide (P256 - 1 - b)] W _) := Lib.hid (ref_add_any a (P256 - 1 - b) ha hn)
  obtain ⟨o1, ho1⟩ : ∃ o, o = decide (P256 ≤ a + (P256 - 1 - b)) := ⟨_, rfl⟩
  obtain ⟨o2, ho2⟩ : ∃ o, o = decide (P256 ≤ (a + (P256 - 1 - b)) % P256 + 1) := ⟨_, rfl⟩
  have B : Hid (∀ W, Calls Try.prog 21 #[wide (a + (P256 - 1 - b)), wide 1] W fun e w' => e = .returned (.tuple #[wide (a + P256 - b), .bool o2]) ∧ Below W.heap.size W w') := Lib.hid fun W => by
    have h := ref_add_any ((a + (P256 - 1 - b)) % P256) 1 hs (by decide) W
    rw [wide_mod, ← ho2, ← wide_mod ((a + (P256 - 1 - b)) % P256 + 1), sub_num a b ha hb, wide_mod] at h
    exact h
  rw [← ho1] at A
  have C : Hid (∀ W, Calls Try.prog 30 #[wide a, wide b] W _) := Lib.hid (ref_compare_any a b ha hb)
  have R := Lib.hid (cmp3_neg_iff a b)
  have e0 := env_two w a b
  have E := Lib.hid e0
  clear e0 hs hn ho1 ho2 ha hb
  obtain ⟨nb, hnb⟩ : ∃ n, n = P256 - 1 - b := ⟨_, rfl⟩
  rw [← hnb] at N A B
  clear hnb
  go_enter Try.func23, Try.ntmps23
  go_upto_region 1 with fail
  go_cut [6, 7] (fun s6 s7 wx => ∃ p : Nat, s6 = .pointer (some ⟨p, 0, none⟩) ∧ Env w [(p, wl (a + nb)), (w.heap.size + 1 + 1, wl 0), (w.heap.size + 1, wl b), (w.heap.size, wl a)] wx ∧ w.heap.size ≤ p ∧ ∀ q, q ∈ [(w.heap.size + 1 + 1, wl 0), (w.heap.size + 1, wl b), (w.heap.size, wl a)] → q.1 ≠ p)
  case first =>
    generalize ((w.alloc (.cells (arr 4 (wl a)) 24)).alloc (.cells (arr 4 (wl b)) 24)).alloc (.cells z4 24) = W at *
    have E0 := Lib.hid E.out.drew
    clear E
    refine wp_region_held (S := fun W => Env w [(w.heap.size + 1 + 1, wl 0), (w.heap.size + 1, wl b), (w.heap.size, wl a)] W) (by kernel_rfl) ?_
    refine held_load 0 (.tmp 2) rfl (by kernel_rfl) (by kernel_rfl) (by kernel_rfl) (fun _ _ _ h => h) rfl rfl rfl (fun W hW => hW.get (List.mem_cons_of_mem _ (List.mem_cons_of_mem _ List.mem_cons_self))) E0.out ?_
    refine held_load 1 (.tmp 3) rfl (by kernel_rfl) (by kernel_rfl) (by kernel_rfl) (fun _ _ _ h => h) rfl rfl rfl (fun W hW => hW.get (List.mem_cons_of_mem _ List.mem_cons_self)) E0.out ?_
    try simp only [Act.put, List.setIfInBounds_toArray, List.set_cons_zero, List.set_cons_succ]
    refine held_two (i := 2) (j := 7) (by kernel_rfl) ?_ ?_
    · refine held_step 2 rfl (by kernel_rfl) fun K hK => ?_
      go_simp
      go_at_call 57
      refine (N.out _).mono ?_
      rintro e wn ⟨rfl, hb⟩
      have E1 := Lib.hid (E0.out.call hb)
      clear hb
      refine hK _ _ E1.out ?_
      clear hK K
      try simp only [Act.put, List.setIfInBounds_toArray, List.set_cons_zero, List.set_cons_succ]
      refine held_two (i := 3) (j := 7) (by kernel_rfl) ?_ ?_
      · refine held_step 3 rfl (by kernel_rfl) fun K hK => ?_
        go_simp
        go_at_call 21
        refine (A.out _).mono ?_
        rintro e wn ⟨rfl, hb⟩
        have E2 := Lib.hid (E1.out.call hb)
        clear hb
        refine hK _ _ E2.out ?_
        clear hK K
        try simp only [Act.put, List.setIfInBounds_toArray, List.set_cons_zero, List.set_cons_succ]
        refine held_pure 4 8 (.tuple #[wide (a + nb), .bool o1]) rfl rfl (by kernel_rfl) (by kernel_rfl) (by kernel_rfl) (fun _ _ _ h => h) rfl (fun _ => rfl) E2.out ?_
        try simp only [Act.put, List.setIfInBounds_toArray, List.set_cons_zero, List.set_cons_succ]
        refine held_pure 5 13 (wide (a + nb)) rfl rfl (by kernel_rfl) (by kernel_rfl) (by kernel_rfl) (fun _ _ _ h => h) rfl (fun _ => rfl) E2.out ?_
        try simp only [Act.put, List.setIfInBounds_toArray, List.set_cons_zero, List.set_cons_succ]
        refine held_pure 6 14 (.bool o1) rfl rfl (by kernel_rfl) (by kernel_rfl) (by kernel_rfl) (fun _ _ _ h => h) rfl (fun _ => rfl) E2.out ?_
        try simp only [Act.put, List.setIfInBounds_toArray, List.set_cons_zero, List.set_cons_succ]
        refine held_one (i := 7) (by kernel_rfl) ?_
        refine held_step 7 rfl (by kernel_rfl) fun K hK => ?_
        go_simp
        have HP := Lib.hid E2.out.apart
        have E7 := Lib.hid (E2.out.nextz rfl)
        refine hK _ _ (E7.out.sub (fun _ h => List.mem_cons_of_mem _ h)) ?_
        clear hK K
        try simp only [Act.put, List.setIfInBounds_toArray, List.set_cons_zero, List.set_cons_succ]
        refine held_one (i := 8) (by kernel_rfl) ?_
        refine held_step 8 rfl (by kernel_rfl) fun K hK => ?_
        refine wp_store_env E7 HP (.tmp 6) (.tmp 13) rfl rfl rfl ?_
        intro wn E9
        refine hK _ _ (E9.out.sub (fun _ h => List.mem_cons_of_mem _ h)) ?_
        clear hK K
        try simp only [Act.put, List.setIfInBounds_toArray, List.set_cons_zero, List.set_cons_succ]
        refine held_pure 9 7 (.bool o1) rfl rfl (by kernel_rfl) (by kernel_rfl) (by kernel_rfl) (fun _ _ _ h => h) rfl (fun _ => rfl) (E9.out.sub (fun _ h => List.mem_cons_of_mem _ h)) ?_
        try simp only [Act.put, List.setIfInBounds_toArray, List.set_cons_zero, List.set_cons_succ]
        refine wpAnyH_done (by kernel_rfl) ?_ _
        go_wp2_with fail
        go_meet
        exact ⟨_, rfl, E9.out, HP.out⟩
      · refine held_step 7 rfl (by kernel_rfl) fun K hK => ?_
        go_simp
        have HP := Lib.hid E1.out.apart
        have E2 := Lib.hid (E1.out.nextz rfl)
        refine hK _ _ (E2.out.sub (fun _ h => List.mem_cons_of_mem _ h)) ?_
        clear hK K
        try simp only [Act.put, List.setIfInBounds_toArray, List.set_cons_zero, List.set_cons_succ]
        refine held_one (i := 3) (by kernel_rfl) ?_
        refine held_step 3 rfl (by kernel_rfl) fun K hK => ?_
        go_simp
        go_at_call 21
        refine (A.out _).mono ?_
        rintro e wn ⟨rfl, hb⟩
        have E4 := Lib.hid (E2.out.call hb)
        clear hb
        refine hK _ _ (E4.out.sub (fun _ h => List.mem_cons_of_mem _ h)) ?_
        clear hK K
        try simp only [Act.put, List.setIfInBounds_toArray, List.set_cons_zero, List.set_cons_succ]
        refine held_pure 4 8 (.tuple #[wide (a + nb), .bool o1]) rfl rfl (by kernel_rfl) (by kernel_rfl) (by kernel_rfl) (fun _ _ _ h => h) rfl (fun _ => rfl) (E4.out.sub (fun _ h => List.mem_cons_of_mem _ h)) ?_
        try simp only [Act.put, List.setIfInBounds_toArray, List.set_cons_zero, List.set_cons_succ]
        refine held_pure 5 13 (wide (a + nb)) rfl rfl (by kernel_rfl) (by kernel_rfl) (by kernel_rfl) (fun _ _ _ h => h) rfl (fun _ => rfl) (E4.out.sub (fun _ h => List.mem_cons_of_mem _ h)) ?_
        try simp only [Act.put, List.setIfInBounds_toArray, List.set_cons_zero, List.set_cons_succ]
        refine held_pure 6 14 (.bool o1) rfl rfl (by kernel_rfl) (by kernel_rfl) (by kernel_rfl) (fun _ _ _ h => h) rfl (fun _ => rfl) (E4.out.sub (fun _ h => List.mem_cons_of_mem _ h)) ?_
        try simp only [Act.put, List.setIfInBounds_toArray, List.set_cons_zero, List.set_cons_succ]
        refine held_one (i := 8) (by kernel_rfl) ?_
        refine held_step 8 rfl (by kernel_rfl) fun K hK => ?_
        refine wp_store_env E4 HP (.tmp 6) (.tmp 13) rfl rfl rfl ?_
        intro wn E9
        refine hK _ _ (E9.out.sub (fun _ h => List.mem_cons_of_mem _ h)) ?_
        clear hK K
        try simp only [Act.put, List.setIfInBounds_toArray, List.set_cons_zero, List.set_cons_succ]
        refine held_pure 9 7 (.bool o1) rfl rfl (by kernel_rfl) (by kernel_rfl) (by kernel_rfl) (fun _ _ _ h => h) rfl (fun _ => rfl) (E9.out.sub (fun _ h => List.mem_cons_of_mem _ h)) ?_
        try simp only [Act.put, List.setIfInBounds_toArray, List.set_cons_zero, List.set_cons_succ]
        refine wpAnyH_done (by kernel_rfl) ?_ _
        go_wp2_with fail
        go_meet
        exact ⟨_, rfl, E9.out, HP.out⟩
    · refine held_step 7 rfl (by kernel_rfl) fun K hK => ?_
      go_simp
      have HP := Lib.hid E0.out.apart
      have E1 := Lib.hid (E0.out.nextz rfl)
      refine hK _ _ (E1.out.sub (fun _ h => List.mem_cons_of_mem _ h)) ?_
      clear hK K
      try simp only [Act.put, List.setIfInBounds_toArray, List.set_cons_zero, List.set_cons_succ]
      refine held_one (i := 2) (by kernel_rfl) ?_
      refine held_step 2 rfl (by kernel_rfl) fun K hK => ?_
      go_simp
      go_at_call 57
      refine (N.out _).mono ?_
      rintro e wn ⟨rfl, hb⟩
      have E3 := Lib.hid (E1.out.call hb)
      clear hb
      refine hK _ _ (E3.out.sub (fun _ h => List.mem_cons_of_mem _ h)) ?_
      clear hK K
      try simp only [Act.put, List.setIfInBounds_toArray, List.set_cons_zero, List.set_cons_succ]
      refine held_one (i := 3) (by kernel_rfl) ?_
      refine held_step 3 rfl (by kernel_rfl) fun K hK => ?_
      go_simp
      go_at_call 21
      refine (A.out _).mono ?_
      rintro e wn ⟨rfl, hb⟩
      have E5 := Lib.hid (E3.out.call hb)
      clear hb
      refine hK _ _ (E5.out.sub (fun _ h => List.mem_cons_of_mem _ h)) ?_
      clear hK K
      try simp only [Act.put, List.setIfInBounds_toArray, List.set_cons_zero, List.set_cons_succ]
      refine held_pure 4 8 (.tuple #[wide (a + nb), .bool o1]) rfl rfl (by kernel_rfl) (by kernel_rfl) (by kernel_rfl) (fun _ _ _ h => h) rfl (fun _ => rfl) (E5.out.sub (fun _ h => List.mem_cons_of_mem _ h)) ?_
      try simp only [Act.put, List.setIfInBounds_toArray, List.set_cons_zero, List.set_cons_succ]
      refine held_pure 5 13 (wide (a + nb)) rfl rfl (by kernel_rfl) (by kernel_rfl) (by kernel_rfl) (fun _ _ _ h => h) rfl (fun _ => rfl) (E5.out.sub (fun _ h => List.mem_cons_of_mem _ h)) ?_
      try simp only [Act.put, List.setIfInBounds_toArray, List.set_cons_zero, List.set_cons_succ]
      refine held_pure 6 14 (.bool o1) rfl rfl (by kernel_rfl) (by kernel_rfl) (by kernel_rfl) (fun _ _ _ h => h) rfl (fun _ => rfl) (E5.out.sub (fun _ h => List.mem_cons_of_mem _ h)) ?_
      try simp only [Act.put, List.setIfInBounds_toArray, List.set_cons_zero, List.set_cons_succ]
      refine held_one (i := 8) (by kernel_rfl) ?_
      refine held_step 8 rfl (by kernel_rfl) fun K hK => ?_
      refine wp_store_env E5 HP (.tmp 6) (.tmp 13) rfl rfl rfl ?_
      intro wn E10
      refine hK _ _ (E10.out.sub (fun _ h => List.mem_cons_of_mem _ h)) ?_
      clear hK K
      try simp only [Act.put, List.setIfInBounds_toArray, List.set_cons_zero, List.set_cons_succ]
      refine held_pure 9 7 (.bool o1) rfl rfl (by kernel_rfl) (by kernel_rfl) (by kernel_rfl) (fun _ _ _ h => h) rfl (fun _ => rfl) (E10.out.sub (fun _ h => List.mem_cons_of_mem _ h)) ?_
      try simp only [Act.put, List.setIfInBounds_toArray, List.set_cons_zero, List.set_cons_succ]
      refine wpAnyH_done (by kernel_rfl) ?_ _
      go_wp2_with fail
      go_meet
      exact ⟨_, rfl, E10.out, HP.out⟩
  case rest =>
    obtain ⟨p, rfl, hE, hP⟩ := hcut
    have E := Lib.hid hE
    have HP := Lib.hid hP
    clear hE hP N A
    go_upto_region 3 with (first
      | (go_at_call 21; refine (B.out _).mono ?_; rintro e w1 ⟨rfl, hb⟩; replace E := Lib.hid (E.out.call hb); clear hb)
      | (with_reducible refine env_build 1 #[(0, .const (.int .u64 1))] #[(0, .int .u64 1)] built_1 (by kernel_rfl) rfl (by kernel_rfl) ?_)
      | (with_reducible refine env_store E HP _ _ rfl rfl rfl rfl ?_; clear E; intro w2 E)
      | (with_reducible refine env_load E _ (by kernel_rfl) rfl rfl (by first | exact List.mem_cons_self | exact (List.mem_cons_of_mem _ List.mem_cons_self) | exact (List.mem_cons_of_mem _ (List.mem_cons_of_mem _ List.mem_cons_self)) | exact (List.mem_cons_of_mem _ (List.mem_cons_of_mem _ (List.mem_cons_of_mem _ List.mem_cons_self))) | exact (List.mem_cons_of_mem _ (List.mem_cons_of_mem _ (List.mem_cons_of_mem _ (List.mem_cons_of_mem _ List.mem_cons_self)))) | exact (List.mem_cons_of_mem _ (List.mem_cons_of_mem _ (List.mem_cons_of_mem _ (List.mem_cons_of_mem _ (List.mem_cons_of_mem _ List.mem_cons_self)))))) ?_))
    have HR : Hid (w.heap.size ≤ w.heap.size + 1 + 1 ∧ ∀ q : Nat × (Nat → Value), q ∈ [(p, wl (a + P256 - b)), (w.heap.size + 1, wl b), (w.heap.size, wl a)] → q.1 ≠ w.heap.size + 1 + 1) := Lib.hid ⟨by omega, fun q hq => by
      rcases List.mem_cons.1 hq with rfl | hq
      · exact (HP.out.2 _ List.mem_cons_self).symm
      · rcases List.mem_cons.1 hq with rfl | hq
        · simp
        · rcases List.mem_cons.1 hq with rfl | hq
          · show w.heap.size ≠ w.heap.size + 1 + 1
            omega
          · cases hq⟩
    have E0 : Hid (Env w [(w.heap.size + 1 + 1, wl 0), (p, wl (a + P256 - b)), (w.heap.size + 1, wl b), (w.heap.size, wl a)] w2.drew) := Lib.hid (E.out.drew.sub fun q hq => by
      rcases List.mem_cons.1 hq with rfl | hq
      · exact (List.mem_cons_of_mem _ List.mem_cons_self)
      · rcases List.mem_cons.1 hq with rfl | hq
        · exact List.mem_cons_self
        · exact List.mem_cons_of_mem _ (List.mem_cons_of_mem _ hq))
    clear E HP B
    refine wp_region_held (S := fun W => Env w [(p, wl (a + P256 - b)), (w.heap.size + 1, wl b), (w.heap.size, wl a)] W) (by kernel_rfl) ?_
    refine held_load 0 (.tmp 6) rfl (by kernel_rfl) (by kernel_rfl) (by kernel_rfl) (fun _ _ _ h => h) rfl rfl rfl (fun W hW => hW.get List.mem_cons_self) (E0.out.sub (fun _ h => List.mem_cons_of_mem _ h)) ?_
    refine held_load 1 (.tmp 2) rfl (by kernel_rfl) (by kernel_rfl) (by kernel_rfl) (fun _ _ _ h => h) rfl rfl rfl (fun W hW => hW.get (List.mem_cons_of_mem _ (List.mem_cons_of_mem _ List.mem_cons_self))) (E0.out.sub (fun _ h => List.mem_cons_of_mem _ h)) ?_
    refine held_load 2 (.tmp 3) rfl (by kernel_rfl) (by kernel_rfl) (by kernel_rfl) (fun _ _ _ h => h) rfl rfl rfl (fun W hW => hW.get (List.mem_cons_of_mem _ List.mem_cons_self)) (E0.out.sub (fun _ h => List.mem_cons_of_mem _ h)) ?_
    try simp only [Act.put, List.setIfInBounds_toArray, List.set_cons_zero, List.set_cons_succ]
    refine held_one (i := 3) (by kernel_rfl) ?_
    refine held_step 3 rfl (by kernel_rfl) fun K hK => ?_
    go_simp
    go_at_call 30
    refine (C.out _).mono ?_
    rintro e wn ⟨rfl, hb⟩
    have E1 := Lib.hid (E0.out.call hb)
    clear hb
    refine hK _ _ (E1.out.sub (fun _ h => List.mem_cons_of_mem _ h)) ?_
    clear hK K
    try simp only [Act.put, List.setIfInBounds_toArray, List.set_cons_zero, List.set_cons_succ]
    refine held_pure 4 25 (.bool (decide (cmp3 a b < 0))) rfl rfl (by kernel_rfl) (by kernel_rfl) (by kernel_rfl) (fun _ _ _ h => h) rfl (fun _ => rfl) (E1.out.sub (fun _ h => List.mem_cons_of_mem _ h)) ?_
    try simp only [Act.put, List.setIfInBounds_toArray, List.set_cons_zero, List.set_cons_succ]
    refine held_one (i := 5) (by kernel_rfl) ?_
    refine held_step 5 rfl (by kernel_rfl) fun K hK => ?_
    refine wp_store_env E1 HR (.tmp 4) (.tmp 21) rfl rfl rfl ?_
    intro wn E2
    refine hK _ _ (E2.out.sub (fun _ h => List.mem_cons_of_mem _ h)) ?_
    clear hK K
    try simp only [Act.put, List.setIfInBounds_toArray, List.set_cons_zero, List.set_cons_succ]
    refine held_pure 6 5 (.bool (decide (cmp3 a b < 0))) rfl rfl (by kernel_rfl) (by kernel_rfl) (by kernel_rfl) (fun _ _ _ h => h) rfl (fun _ => rfl) (E2.out.sub (fun _ h => List.mem_cons_of_mem _ h)) ?_
    try simp only [Act.put, List.setIfInBounds_toArray, List.set_cons_zero, List.set_cons_succ]
    refine wpAnyH_done (by kernel_rfl) ?_ _
    have hd : decide (cmp3 a b < 0) = decide (a < b) := decide_eq_decide.2 R.out
    rw [hd]
    go_wp2_with fail
    exact bodyPost_ret (res_row_tmp (fn := Try.f23) rfl _ _ (w.heap.size + 1 + 1) 4 24 _ _ rfl (E2.out.get List.mem_cons_self) Try.underlying24 rfl (by kernel_rfl)) rfl ⟨rfl, E2.out.below⟩
end Go.Proofs.Ytboffheklkhnkaa
