/- The document's product of two numbers of 256 bits, bit by bit: it returns the product (modulo 2^256) and whether it goes over; what lay in memory stays. -/
import Derived.Test.YtboffheklkhnkaaRefShift
import Derived.Test.YtboffheklkhnkaaRefComp
import Derived.Test.YtboffheklkhnkaaRefAdd
set_option linter.unusedSimpArgs false
namespace Go.Proofs.Ytboffheklkhnkaa
open Go.RowKit Go.Lib
attribute [local go_sem ↓] Go.wp_at_zero Go.wp_at_succ

theorem held_nat (j : Nat) (h : j ≤ 256) : held (j : Int) = j := by unfold held; omega
theorem env_four (w : World) (a b : Nat) : Env w [(w.heap.size + 1 + 1 + 1, wl 0), (w.heap.size + 1 + 1, wl 0), (w.heap.size + 1, wl b), (w.heap.size, wl a)] ((((w.alloc (.cells (arr 4 (wl a)) 24)).alloc (.cells (arr 4 (wl b)) 24)).alloc (.cells z4 24)).alloc (.cells z4 24)) :=
  (((Env.box1 w (wl a)).next (b := w.heap.size + 1) (by simp) (wl b)).nextz (b := w.heap.size + 1 + 1) (by simp)).nextz (b := w.heap.size + 1 + 1 + 1) (by simp)
/-- What a round of the product says: the next number, the next answer. -/
theorem mul_round {a b j : Nat} (hj : j < 256) (hx : b / 2 ^ j % 2 = 1) : wide (a * (b % 2 ^ (j + 1))) = wide ((a * (b % 2 ^ j)) % P256 + (a * 2 ^ j) % P256) ∧
    decide (P256 ≤ a * (b % 2 ^ (j + 1))) = (decide (P256 ≤ a * (b % 2 ^ j)) || decide (256 < blen a + j) || decide (P256 ≤ (a * (b % 2 ^ j)) % P256 + (a * 2 ^ j) % P256)) := by
  constructor
  · rw [mul_bit, hx, Nat.one_mul, ← wide_mod, ← wide_mod ((a * (b % 2 ^ j)) % P256 + (a * 2 ^ j) % P256), Nat.mod_add_mod, Nat.add_mod_mod]
  · have h := mul_over (a := a) (by omega : j ≤ 256) hx _ rfl
    rw [Bool.eq_iff_iff]
    simp only [Bool.or_eq_true, decide_eq_true_iff, or_assoc]
    exact h
theorem mul_round_no {a b j : Nat} (hx : b / 2 ^ j % 2 = 0) : a * (b % 2 ^ (j + 1)) = a * (b % 2 ^ j) := by
  rw [mul_bit, hx, Nat.zero_mul, Nat.add_zero]

set_option maxRecDepth 100000 in
set_option maxHeartbeats 8000000 in
theorem ref_mul_any (a b : Nat) (ha : a < P256) (hb : b < P256) (w : World) :
    Calls Try.prog 26 #[wide a, wide b] w fun e w' => e = .returned (.tuple #[wide (a * b), .bool (decide (P256 ≤ a * b))]) ∧ Below w.heap.size w w' := by
  have HAB := Lib.hid (And.intro ha hb)
  have EF := Lib.hid (env_four w a b)
  obtain ⟨N, hN⟩ : ∃ N, N = a * b := ⟨_, rfl⟩
  rw [← hN]
  have HN := Lib.hid hN
  clear ha hb hN
  go_enter Try.func26, Try.ntmps26
  go_wp2
  go_loopg [7, 11] 256 (fun k o i wr => ∃ j y : Nat, j + k = 256 ∧ i = .int .i64 (j : Int) ∧ y = (a * (b % 2 ^ j)) % P256 ∧ o = .bool (decide (P256 ≤ a * (b % 2 ^ j))) ∧ Env w [(w.heap.size + 1 + 1 + 1, wl y), (w.heap.size + 1 + 1, wl 0), (w.heap.size + 1, wl b), (w.heap.size, wl a)] wr)
  case atStart =>
    refine ⟨0, 0, by omega, rfl, ?_, ?_, EF.out⟩
    · rw [Nat.pow_zero, Nat.mod_one, Nat.mul_zero, Nat.zero_mod]
    · rw [Nat.pow_zero, Nat.mod_one, Nat.mul_zero]
      have h : ¬ P256 ≤ 0 := by decide
      rw [decide_eq_false h]
  case round =>
    clear EF
    obtain ⟨j, y, hj, rfl, hy, rfl, hE⟩ := hrel
    obtain ⟨kk, rfl⟩ : ∃ kk : Nat, kk = gk := ⟨_, rfl⟩
    by_cases hlt : j < 256
    · have HB0 := bit_any b j hlt
      have hx2 : b / 2 ^ j % 2 < 2 := Nat.mod_lt _ (by decide)
      have RY := Lib.hid (fun h => mul_round (a := a) (b := b) hlt h)
      have RN := Lib.hid (fun h => mul_round_no (a := a) (b := b) (j := j) h)
      obtain ⟨x, hx⟩ : ∃ x, x = b / 2 ^ j % 2 := ⟨_, rfl⟩
      rw [← hx] at HB0 hx2 RY RN
      have HB : Hid (∀ W, Calls Try.prog 55 #[wide b, .int .i64 (j : Int)] W _) := Lib.hid HB0
      have HY := Lib.hid hy
      have E := Lib.hid hE
      obtain ⟨o0, ho0⟩ : ∃ o, o = decide (P256 ≤ a * (b % 2 ^ j)) := ⟨_, rfl⟩
      rw [← ho0]
      have HO := Lib.hid ho0
      clear hx HB0 hy hE ho0
      have hx01 : x = 0 ∨ x = 1 := by omega
      clear hx2
      rcases hx01 with rfl | rfl
      · have D := Lib.hid (RN.out rfl)
        clear RN RY
        go_wp2_with (first | (go_at_call 55; refine (HB.out _).mono ?_; rintro e w1 ⟨rfl, hb⟩; replace E := Lib.hid (E.out.call hb); clear hb) | (with_reducible refine env_load E _ (by kernel_rfl) rfl rfl (by first | exact List.mem_cons_self | exact (List.mem_cons_of_mem _ List.mem_cons_self) | exact (List.mem_cons_of_mem _ (List.mem_cons_of_mem _ List.mem_cons_self)) | exact (List.mem_cons_of_mem _ (List.mem_cons_of_mem _ (List.mem_cons_of_mem _ List.mem_cons_self))) | exact (List.mem_cons_of_mem _ (List.mem_cons_of_mem _ (List.mem_cons_of_mem _ (List.mem_cons_of_mem _ List.mem_cons_self))))) ?_))
        go_roundg (kk - 1)
        case measure => omega
        case rel => exact ⟨j + 1, y, by omega, by go_num, by rw [D.out]; exact HY.out, by rw [D.out, HO.out], E.out⟩
      · obtain ⟨r1, r2⟩ := RY.out rfl
        have HL0 := ref_left_any a (j : Int)
        rw [held_nat j (by omega)] at HL0
        have HBL := ref_bits_any a HAB.out.1
        have hyl : y < P256 := by rw [HY.out]; exact Nat.mod_lt _ (by decide)
        obtain ⟨s, hs⟩ : ∃ s, s = (a * 2 ^ j) % P256 := ⟨_, rfl⟩
        have hsl : s < P256 := by rw [hs]; exact Nat.mod_lt _ (by decide)
        rw [← HY.out, ← hs] at r1 r2
        have L : Hid (∀ W, Calls Try.prog 32 #[wide a, .int .i64 (j : Int)] W fun e w' => e = .returned (wide s) ∧ Below W.heap.size W w') := Lib.hid fun W => by
          have h := HL0 W
          rw [← wide_mod (a * 2 ^ j), ← hs] at h
          exact h
        have HA0 := ref_add_any y s hyl hsl
        rw [← r1] at HA0
        obtain ⟨n, hn⟩ : ∃ n, n = blen a := ⟨_, rfl⟩
        have hn256 : n ≤ 256 := by rw [hn]; exact blen_le_of HAB.out.1
        rw [← hn] at HBL r2
        obtain ⟨o, ho⟩ : ∃ o, o = decide (P256 ≤ y + s) := ⟨_, rfl⟩
        rw [← ho] at HA0 r2
        rw [← HO.out] at r2
        obtain ⟨X, hX⟩ : ∃ X, X = a * (b % 2 ^ (j + 1)) := ⟨_, rfl⟩
        obtain ⟨z, hz⟩ : ∃ z, z = X % P256 := ⟨_, rfl⟩
        rw [← hX] at HA0 r2
        have A : Hid (∀ W, Calls Try.prog 21 #[wide y, wide s] W fun e w' => e = .returned (.tuple #[wide z, .bool o]) ∧ Below W.heap.size W w') := Lib.hid fun W => by
          have h := HA0 W
          rw [← wide_mod X, ← hz] at h
          exact h
        have B : Hid (∀ W, Calls Try.prog 36 #[wide a] W _) := Lib.hid HBL
        have NX := Lib.hid (And.intro hX hz)
        have R2 := Lib.hid r2
        clear HL0 HA0 HBL hs hn ho hX hz r1 r2 RY RN hyl hsl
        obtain ⟨t, ht⟩ : ∃ t, t = decide (256 < n + j) := ⟨_, rfl⟩
        have HT := Lib.hid ht
        clear ht
        go_upto_region 7 with (first | (go_at_call 55; refine (HB.out _).mono ?_; rintro e w1 ⟨rfl, hb⟩; replace E := Lib.hid (E.out.call hb); clear hb) | (with_reducible refine env_load E _ (by kernel_rfl) rfl rfl (by first | exact List.mem_cons_self | exact (List.mem_cons_of_mem _ List.mem_cons_self) | exact (List.mem_cons_of_mem _ (List.mem_cons_of_mem _ List.mem_cons_self)) | exact (List.mem_cons_of_mem _ (List.mem_cons_of_mem _ (List.mem_cons_of_mem _ List.mem_cons_self))) | exact (List.mem_cons_of_mem _ (List.mem_cons_of_mem _ (List.mem_cons_of_mem _ (List.mem_cons_of_mem _ List.mem_cons_self))))) ?_))
        go_cut [7] (fun s7 wx => s7 = .bool (o0 || t) ∧ Env w [(w.heap.size + 1 + 1 + 1, wl y), (w.heap.size + 1 + 1, wl 0), (w.heap.size + 1, wl b), (w.heap.size, wl a)] wx)
        case first =>
          cases o0
          · have D : Hid (decide ((256 : Int) < (n : Int) + (j : Int)) = t) := Lib.hid (by rw [HT.out, decide_eq_decide]; omega)
            clear HT
            go_wp2_with (first | (go_at_call 36; refine (B.out _).mono ?_; rintro e w1 ⟨rfl, hb⟩; replace E := Lib.hid (E.out.call hb); clear hb) | (with_reducible refine env_load E _ (by kernel_rfl) rfl rfl (by first | exact List.mem_cons_self | exact (List.mem_cons_of_mem _ List.mem_cons_self) | exact (List.mem_cons_of_mem _ (List.mem_cons_of_mem _ List.mem_cons_self)) | exact (List.mem_cons_of_mem _ (List.mem_cons_of_mem _ (List.mem_cons_of_mem _ List.mem_cons_self))) | exact (List.mem_cons_of_mem _ (List.mem_cons_of_mem _ (List.mem_cons_of_mem _ (List.mem_cons_of_mem _ List.mem_cons_self))))) ?_))
            go_meet
            exact ⟨by rw [D.out, Bool.false_or], E.out⟩
          · go_wp2
            go_meet
            exact ⟨rfl, E.out⟩
        case rest =>
          obtain ⟨rfl, hE⟩ := hcut
          clear E
          have E := Lib.hid hE
          clear hE
          obtain ⟨v, hv⟩ : ∃ v, v = (o0 || t) := ⟨_, rfl⟩
          rw [← hv]
          have HV := Lib.hid hv
          clear hv
          go_upto_region 8 with fail
          go_cut [9, 10] (fun s9 s10 wx => ∃ p : Nat, s9 = .pointer (some ⟨p, 0, none⟩) ∧ s10 = .bool o ∧ Env w ((p, wl z) :: [(w.heap.size + 1 + 1 + 1, wl y), (w.heap.size + 1 + 1, wl 0), (w.heap.size + 1, wl b), (w.heap.size, wl a)]) wx ∧ w.heap.size ≤ p ∧ ∀ q, q ∈ [(w.heap.size + 1 + 1 + 1, wl y), (w.heap.size + 1 + 1, wl 0), (w.heap.size + 1, wl b), (w.heap.size, wl a)] → q.1 ≠ p)
          case first =>
            have E0 := Lib.hid E.out.drew
            clear E
            refine wp_region_held (S := fun W => Env w [(w.heap.size + 1 + 1 + 1, wl y), (w.heap.size + 1 + 1, wl 0), (w.heap.size + 1, wl b), (w.heap.size, wl a)] W) (by kernel_rfl) ?_
            refine held_load 0 (.tmp 6) rfl (by kernel_rfl) (by kernel_rfl) (by kernel_rfl) (fun _ _ _ h => h) rfl rfl rfl (fun W hW => hW.get List.mem_cons_self) E0.out ?_
            try simp only [Act.put, List.setIfInBounds_toArray, List.set_cons_zero, List.set_cons_succ]
            refine held_load 1 (.tmp 2) rfl (by kernel_rfl) (by kernel_rfl) (by kernel_rfl) (fun _ _ _ h => h) rfl rfl rfl (fun W hW => hW.get (List.mem_cons_of_mem _ (List.mem_cons_of_mem _ (List.mem_cons_of_mem _ List.mem_cons_self)))) E0.out ?_
            try simp only [Act.put, List.setIfInBounds_toArray, List.set_cons_zero, List.set_cons_succ]
            refine held_pure 2 29 (.int .i64 (j : Int)) rfl rfl (by kernel_rfl) (by kernel_rfl) (by kernel_rfl) (fun _ _ _ h => h) rfl (fun _ => rfl) E0.out ?_
            try simp only [Act.put, List.setIfInBounds_toArray, List.set_cons_zero, List.set_cons_succ]
            refine held_two (i := 3) (j := 8) (by kernel_rfl) ?_ ?_
            · refine held_step 3 rfl (by kernel_rfl) fun K hK => ?_
              go_simp
              go_at_call 32
              refine (L.out _).mono ?_
              rintro e wn ⟨rfl, hb⟩
              have EN1 := Lib.hid (E0.out.call hb)
              clear hb
              refine hK _ _ EN1.out ?_
              clear hK K
              try simp only [Act.put, List.setIfInBounds_toArray, List.set_cons_zero, List.set_cons_succ]
              refine held_two (i := 4) (j := 8) (by kernel_rfl) ?_ ?_
              · refine held_step 4 rfl (by kernel_rfl) fun K hK => ?_
                go_simp
                go_at_call 21
                refine (A.out _).mono ?_
                rintro e wn ⟨rfl, hb⟩
                have EN2 := Lib.hid (EN1.out.call hb)
                clear hb
                refine hK _ _ EN2.out ?_
                clear hK K
                try simp only [Act.put, List.setIfInBounds_toArray, List.set_cons_zero, List.set_cons_succ]
                refine held_pure 5 26 (.tuple #[wide z, .bool o]) rfl rfl (by kernel_rfl) (by kernel_rfl) (by kernel_rfl) (fun _ _ _ h => h) rfl (fun _ => rfl) EN2.out ?_
                try simp only [Act.put, List.setIfInBounds_toArray, List.set_cons_zero, List.set_cons_succ]
                refine held_pure 6 32 (wide z) rfl rfl (by kernel_rfl) (by kernel_rfl) (by kernel_rfl) (fun _ _ _ h => h) rfl (fun _ => rfl) EN2.out ?_
                try simp only [Act.put, List.setIfInBounds_toArray, List.set_cons_zero, List.set_cons_succ]
                refine held_pure 7 33 (.bool o) rfl rfl (by kernel_rfl) (by kernel_rfl) (by kernel_rfl) (fun _ _ _ h => h) rfl (fun _ => rfl) EN2.out ?_
                try simp only [Act.put, List.setIfInBounds_toArray, List.set_cons_zero, List.set_cons_succ]
                refine held_one (i := 8) (by kernel_rfl) ?_
                refine held_step 8 rfl (by kernel_rfl) fun K hK => ?_
                go_simp
                have HP := Lib.hid EN2.out.apart
                have EN3 := Lib.hid (EN2.out.nextz rfl)
                refine hK _ _ (EN3.out.sub (fun _ h => List.mem_cons_of_mem _ h)) ?_
                clear hK K
                try simp only [Act.put, List.setIfInBounds_toArray, List.set_cons_zero, List.set_cons_succ]
                refine held_one (i := 9) (by kernel_rfl) ?_
                refine held_step 9 rfl (by kernel_rfl) fun K hK => ?_
                refine wp_store_env EN3 HP (.tmp 9) (.tmp 32) rfl rfl rfl ?_
                intro wn EN4
                refine hK _ _ (EN4.out.sub (fun _ h => List.mem_cons_of_mem _ h)) ?_
                clear hK K
                try simp only [Act.put, List.setIfInBounds_toArray, List.set_cons_zero, List.set_cons_succ]
                refine held_pure 10 10 (.bool o) rfl rfl (by kernel_rfl) (by kernel_rfl) (by kernel_rfl) (fun _ _ _ h => h) rfl (fun _ => rfl) (EN4.out.sub (fun _ h => List.mem_cons_of_mem _ h)) ?_
                try simp only [Act.put, List.setIfInBounds_toArray, List.set_cons_zero, List.set_cons_succ]
                refine wpAnyH_done (by kernel_rfl) ?_ _
                go_wp2_with fail
                go_meet
                exact ⟨_, rfl, rfl, EN4.out, HP.out⟩
              · refine held_step 8 rfl (by kernel_rfl) fun K hK => ?_
                go_simp
                have HP := Lib.hid EN1.out.apart
                have EN2 := Lib.hid (EN1.out.nextz rfl)
                refine hK _ _ (EN2.out.sub (fun _ h => List.mem_cons_of_mem _ h)) ?_
                clear hK K
                try simp only [Act.put, List.setIfInBounds_toArray, List.set_cons_zero, List.set_cons_succ]
                refine held_one (i := 4) (by kernel_rfl) ?_
                refine held_step 4 rfl (by kernel_rfl) fun K hK => ?_
                go_simp
                go_at_call 21
                refine (A.out _).mono ?_
                rintro e wn ⟨rfl, hb⟩
                have EN3 := Lib.hid (EN2.out.call hb)
                clear hb
                refine hK _ _ (EN3.out.sub (fun _ h => List.mem_cons_of_mem _ h)) ?_
                clear hK K
                try simp only [Act.put, List.setIfInBounds_toArray, List.set_cons_zero, List.set_cons_succ]
                refine held_pure 5 26 (.tuple #[wide z, .bool o]) rfl rfl (by kernel_rfl) (by kernel_rfl) (by kernel_rfl) (fun _ _ _ h => h) rfl (fun _ => rfl) (EN3.out.sub (fun _ h => List.mem_cons_of_mem _ h)) ?_
                try simp only [Act.put, List.setIfInBounds_toArray, List.set_cons_zero, List.set_cons_succ]
                refine held_pure 6 32 (wide z) rfl rfl (by kernel_rfl) (by kernel_rfl) (by kernel_rfl) (fun _ _ _ h => h) rfl (fun _ => rfl) (EN3.out.sub (fun _ h => List.mem_cons_of_mem _ h)) ?_
                try simp only [Act.put, List.setIfInBounds_toArray, List.set_cons_zero, List.set_cons_succ]
                refine held_pure 7 33 (.bool o) rfl rfl (by kernel_rfl) (by kernel_rfl) (by kernel_rfl) (fun _ _ _ h => h) rfl (fun _ => rfl) (EN3.out.sub (fun _ h => List.mem_cons_of_mem _ h)) ?_
                try simp only [Act.put, List.setIfInBounds_toArray, List.set_cons_zero, List.set_cons_succ]
                refine held_one (i := 9) (by kernel_rfl) ?_
                refine held_step 9 rfl (by kernel_rfl) fun K hK => ?_
                refine wp_store_env EN3 HP (.tmp 9) (.tmp 32) rfl rfl rfl ?_
                intro wn EN4
                refine hK _ _ (EN4.out.sub (fun _ h => List.mem_cons_of_mem _ h)) ?_
                clear hK K
                try simp only [Act.put, List.setIfInBounds_toArray, List.set_cons_zero, List.set_cons_succ]
                refine held_pure 10 10 (.bool o) rfl rfl (by kernel_rfl) (by kernel_rfl) (by kernel_rfl) (fun _ _ _ h => h) rfl (fun _ => rfl) (EN4.out.sub (fun _ h => List.mem_cons_of_mem _ h)) ?_
                try simp only [Act.put, List.setIfInBounds_toArray, List.set_cons_zero, List.set_cons_succ]
                refine wpAnyH_done (by kernel_rfl) ?_ _
                go_wp2_with fail
                go_meet
                exact ⟨_, rfl, rfl, EN4.out, HP.out⟩
            · refine held_step 8 rfl (by kernel_rfl) fun K hK => ?_
              go_simp
              have HP := Lib.hid E0.out.apart
              have EN1 := Lib.hid (E0.out.nextz rfl)
              refine hK _ _ (EN1.out.sub (fun _ h => List.mem_cons_of_mem _ h)) ?_
              clear hK K
              try simp only [Act.put, List.setIfInBounds_toArray, List.set_cons_zero, List.set_cons_succ]
              refine held_one (i := 3) (by kernel_rfl) ?_
              refine held_step 3 rfl (by kernel_rfl) fun K hK => ?_
              go_simp
              go_at_call 32
              refine (L.out _).mono ?_
              rintro e wn ⟨rfl, hb⟩
              have EN2 := Lib.hid (EN1.out.call hb)
              clear hb
              refine hK _ _ (EN2.out.sub (fun _ h => List.mem_cons_of_mem _ h)) ?_
              clear hK K
              try simp only [Act.put, List.setIfInBounds_toArray, List.set_cons_zero, List.set_cons_succ]
              refine held_one (i := 4) (by kernel_rfl) ?_
              refine held_step 4 rfl (by kernel_rfl) fun K hK => ?_
              go_simp
              go_at_call 21
              refine (A.out _).mono ?_
              rintro e wn ⟨rfl, hb⟩
              have EN3 := Lib.hid (EN2.out.call hb)
              clear hb
              refine hK _ _ (EN3.out.sub (fun _ h => List.mem_cons_of_mem _ h)) ?_
              clear hK K
              try simp only [Act.put, List.setIfInBounds_toArray, List.set_cons_zero, List.set_cons_succ]
              refine held_pure 5 26 (.tuple #[wide z, .bool o]) rfl rfl (by kernel_rfl) (by kernel_rfl) (by kernel_rfl) (fun _ _ _ h => h) rfl (fun _ => rfl) (EN3.out.sub (fun _ h => List.mem_cons_of_mem _ h)) ?_
              try simp only [Act.put, List.setIfInBounds_toArray, List.set_cons_zero, List.set_cons_succ]
              refine held_pure 6 32 (wide z) rfl rfl (by kernel_rfl) (by kernel_rfl) (by kernel_rfl) (fun _ _ _ h => h) rfl (fun _ => rfl) (EN3.out.sub (fun _ h => List.mem_cons_of_mem _ h)) ?_
              try simp only [Act.put, List.setIfInBounds_toArray, List.set_cons_zero, List.set_cons_succ]
              refine held_pure 7 33 (.bool o) rfl rfl (by kernel_rfl) (by kernel_rfl) (by kernel_rfl) (fun _ _ _ h => h) rfl (fun _ => rfl) (EN3.out.sub (fun _ h => List.mem_cons_of_mem _ h)) ?_
              try simp only [Act.put, List.setIfInBounds_toArray, List.set_cons_zero, List.set_cons_succ]
              refine held_one (i := 9) (by kernel_rfl) ?_
              refine held_step 9 rfl (by kernel_rfl) fun K hK => ?_
              refine wp_store_env EN3 HP (.tmp 9) (.tmp 32) rfl rfl rfl ?_
              intro wn EN4
              refine hK _ _ (EN4.out.sub (fun _ h => List.mem_cons_of_mem _ h)) ?_
              clear hK K
              try simp only [Act.put, List.setIfInBounds_toArray, List.set_cons_zero, List.set_cons_succ]
              refine held_pure 10 10 (.bool o) rfl rfl (by kernel_rfl) (by kernel_rfl) (by kernel_rfl) (fun _ _ _ h => h) rfl (fun _ => rfl) (EN4.out.sub (fun _ h => List.mem_cons_of_mem _ h)) ?_
              try simp only [Act.put, List.setIfInBounds_toArray, List.set_cons_zero, List.set_cons_succ]
              refine wpAnyH_done (by kernel_rfl) ?_ _
              go_wp2_with fail
              go_meet
              exact ⟨_, rfl, rfl, EN4.out, HP.out⟩
          case rest =>
            obtain ⟨p, rfl, rfl, hE, hP⟩ := hcut
            clear E
            have E : Hid (Env w ((w.heap.size + 1 + 1 + 1, wl y) :: [(p, wl z), (w.heap.size + 1 + 1, wl 0), (w.heap.size + 1, wl b), (w.heap.size, wl a)]) wc) := Lib.hid (hE.sub fun q hq => by
              rcases List.mem_cons.1 hq with rfl | hq
              · exact (List.mem_cons_of_mem _ List.mem_cons_self)
              · rcases List.mem_cons.1 hq with rfl | hq
                · exact List.mem_cons_self
                · exact List.mem_cons_of_mem _ (List.mem_cons_of_mem _ hq))
            have HR : Hid (w.heap.size ≤ w.heap.size + 1 + 1 + 1 ∧ ∀ q : Nat × (Nat → Value), q ∈ [(p, wl z), (w.heap.size + 1 + 1, wl 0), (w.heap.size + 1, wl b), (w.heap.size, wl a)] → q.1 ≠ w.heap.size + 1 + 1 + 1) := Lib.hid ⟨by omega, fun q hq => by
              rcases List.mem_cons.1 hq with rfl | hq
              · exact (hP.2 _ List.mem_cons_self).symm
              · rcases List.mem_cons.1 hq with rfl | hq
                · show w.heap.size + 1 + 1 ≠ w.heap.size + 1 + 1 + 1
                  omega
                · rcases List.mem_cons.1 hq with rfl | hq
                  · show w.heap.size + 1 ≠ w.heap.size + 1 + 1 + 1
                    omega
                  · rcases List.mem_cons.1 hq with rfl | hq
                    · show w.heap.size ≠ w.heap.size + 1 + 1 + 1
                      omega
                    · cases hq⟩
            clear hE hP L A B
            have RV : Hid (decide (P256 ≤ X) = (v || o)) := Lib.hid (by rw [R2.out, HV.out, HT.out])
            clear R2 HV HT
            cases v
            all_goals
              go_wp2_with (first
                | (with_reducible refine env_store E HR _ _ rfl rfl rfl rfl ?_; clear E; intro w2 E)
                | (with_reducible refine env_load E _ (by kernel_rfl) rfl rfl (by first | exact List.mem_cons_self | exact (List.mem_cons_of_mem _ List.mem_cons_self) | exact (List.mem_cons_of_mem _ (List.mem_cons_of_mem _ List.mem_cons_self)) | exact (List.mem_cons_of_mem _ (List.mem_cons_of_mem _ (List.mem_cons_of_mem _ List.mem_cons_self))) | exact (List.mem_cons_of_mem _ (List.mem_cons_of_mem _ (List.mem_cons_of_mem _ (List.mem_cons_of_mem _ List.mem_cons_self))))) ?_))
              go_roundg (kk - 1)
              case measure => omega
              case rel =>
                refine ⟨j + 1, z, by omega, by go_num, by rw [← NX.out.1]; exact NX.out.2, by rw [← NX.out.1, RV.out]; rfl, E.out.sub fun q hq => ?_⟩
                rcases List.mem_cons.1 hq with rfl | hq
                · exact List.mem_cons_self
                · exact List.mem_cons_of_mem _ (List.mem_cons_of_mem _ hq)
    · obtain rfl : j = 256 := by omega
      have e1 : a * (b % 2 ^ 256) = N := by rw [HN.out, show (2 : Nat) ^ 256 = P256 from rfl, Nat.mod_eq_of_lt HAB.out.2]
      rw [e1] at hy
      rw [e1]
      have H := Lib.hid (And.intro hE.below (And.intro (hE.get (b := w.heap.size + 1 + 1) (f := wl 0) (List.mem_cons_of_mem _ List.mem_cons_self)) ((hE.get (b := w.heap.size + 1 + 1 + 1) (f := wl y) List.mem_cons_self).to (g := wl N) fun i hi => by rw [hy]; exact wl_mod N i hi)))
      clear hE hy e1
      obtain ⟨o, ho⟩ : ∃ o, o = decide (P256 ≤ N) := ⟨_, rfl⟩
      rw [← ho]
      have HO := Lib.hid ho
      clear ho
      go_wp2_with (first
        | (with_reducible refine wpList_load_all rfl 24 (.tmp 6) rfl (w.heap.size + 1 + 1 + 1) 4 rfl 24 _ H.out.2.2 _ Try.underlying24 rfl (by kernel_rfl) ?_)
        | (with_reducible refine wpList_store_all rfl 24 (.tmp 4) (.tmp 40) rfl (w.heap.size + 1 + 1) 4 rfl 24 _ _ H.out.2.1 rfl (by kernel_rfl) (fun _ => rfl) ?_; intro w2 hh ho))
      rw [HO.out]
      exact bodyPost_ret (res_row_tmp (fn := Try.f26) rfl _ _ (w.heap.size + 1 + 1) 4 24 _ _ rfl hh Try.underlying24 rfl (by kernel_rfl)) rfl ⟨rfl, H.out.1.trans (ho.below (by omega) H.out.1.size)⟩
end Go.Proofs.Ytboffheklkhnkaa
