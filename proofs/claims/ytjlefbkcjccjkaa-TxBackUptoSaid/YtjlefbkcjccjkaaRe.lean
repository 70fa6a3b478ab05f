/- parts.Reader: Number, Hash, Next, End. -/
import Derived.Test.YtjlefbkcjccjkaaRd
import Derived.Test.YtjlefbkcjccjkaaSb
set_option linter.unusedSimpArgs false
set_option linter.unusedVariables false
set_option maxRecDepth 100000
namespace Go.Proofs.Ytjlefbkcjccjkaa
open Go.RowKit Go.Lib Go.Sort

theorem pTake_good {n : Nat} {xs a r : List Nat} (h : pTake n xs = .good a r) : n ≤ xs.length ∧ a = xs.take n ∧ r = xs.drop n ∧ a.length = n := by
  unfold pTake at h
  split at h
  · injection h with h1 h2
    subst h1 h2
    refine ⟨by assumption, rfl, rfl, ?_⟩
    rw [List.length_take]
    omega
  · cases h
theorem pTake_bad {n : Nat} {xs : List Nat} {e : Int} (h : pTake n xs = .bad e) : xs.length < n ∧ e = 50 := by
  unfold pTake at h
  split at h
  · cases h
  · injection h with h
    exact ⟨by omega, h.symm⟩
set_option maxHeartbeats 2000000 in
theorem bnum_any {w : World} {p : Option Addr} {g o n c : Nat} {x : Nat → Nat} (R : Hid (Row w p g o n c x)) (hn : n ≤ 8) : Calls Try.prog 91 #[.slice p n c] w fun e w' => e = .returned (.int .u64 ((ofBytes x n : Nat) : Int)) ∧ w = w' := by
  rcases Nat.eq_zero_or_pos n with h0 | h0
  · subst h0
    go_enter Try.func91, Try.ntmps91
    go_wp2
    go_loop [3, 8] (fun s i => s = .int .u64 0 ∧ i = .int .i64 0) (fun _ _ => 0)
    case atStart => exact ⟨rfl, rfl⟩
    case round =>
      obtain ⟨rfl, rfl⟩ := hrel
      go_wp2
      go_ret
      exact ⟨rfl, rfl⟩
  · obtain rfl := R.out.head h0
    go_enter Try.func91, Try.ntmps91
    go_wp2
    go_loop [3, 8] (fun s i => ∃ k : Nat, k ≤ n ∧ i = .int .i64 (k : Int) ∧ s = .int .u64 ((ofBytes x k : Nat) : Int)) (fun _ i => n - (intOf i).toNat)
    case atStart => exact ⟨0, by omega, rfl, rfl⟩
    case round =>
      obtain ⟨k, hk, rfl, rfl⟩ := hrel
      by_cases hlt : k < n
      · have c0 := R.out.cell k hlt
        have fl := R.out.byte k
        have OR := Lib.hid (or_byte64 (a := ofBytes x k) (f := x k) (k := k) (by omega) (ofBytes_lt fun i _ => R.out.byte i) fl)
        have t8 : (8 * (k : Int)).toNat = 8 * k := by omega
        have ol : ofBytes x k < 18446744073709551616 := by
          have h1 := ofBytes_lt (f := x) (m := k) fun i _ => R.out.byte i
          have h2 : 2 ^ (8 * k) ≤ 2 ^ 64 := Nat.pow_le_pow_right (by decide) (by omega)
          omega
        go_wp2
        go_round
        case rel => exact ⟨k + 1, by omega, by go_num, by rw [OR.out, ofBytes]⟩
        case measure => simp [intOf]; omega
      · obtain rfl : k = n := by omega
        go_wp2
        go_ret
        exact ⟨rfl, rfl⟩
section
variable {D W : World} {b : Nat} {u : Value} {xs : List Nat}
/-- A number's contract, for its arguments as they come. -/
def NumC (D W : World) (b : Nat) (Rel : World → Value → Nat → Prop) (r : Res Nat) := RdPost D W b Rel r
set_option maxHeartbeats 2000000 in
theorem pnum_any (R : Hid (Rd D W b u xs)) (m : Nat) (hm : m ≤ 8) : Calls Try.prog 63 #[.pointer (some ⟨b, 0, none⟩), .int .i64 ((m : Nat) : Int)] W (RdPost D W b (fun _ v a => v = .int .u64 ((a : Nat) : Int)) (pNum m xs)) := by
  have E := Lib.hid R.out.start
  go_enter Try.func63, Try.ntmps63
  go_wp2_with (first
    | (go_at_call 92; refine (take_any R m).mono ?_; intro e1 w1 h1; rcases h1.cases with ⟨er, hr, rfl, ho⟩ | ⟨a1, r1, v1, u1, hr, rfl, ha, hb, p1, g1, o1, c1, rfl, hl1, RW⟩; case inl => exact ⟨rfl, RdPost.bad (by unfold pNum; rw [hr]; rfl) ho⟩
       (have HR := Lib.hid hr; have HA := Lib.hid ha; have E1 := Lib.hid (E.out.rcall R.out.box hb); obtain ⟨k1, hk1⟩ : ∃ k1, k1 = a1.length := ⟨_, rfl⟩; have HK := Lib.hid (show k1 = m by rw [hk1]; exact (pTake_good hr).2.2.2); have RR := Lib.hid (RW.below (only_old R.out E1.out.ronly)); rw [← hk1] at RR ⊢; clear hr ha hb h1 RW hk1 hl1))
    | (go_at_call 91; refine (bnum_any RR (by have := HK.out; omega)).mono ?_; rintro e2 w2 ⟨rfl, rfl⟩))
  go_ret
  exact RdPost.good (by unfold pNum; rw [HR.out]; rfl) HA.out E1.out (by rw [HK.out]; rfl)
theorem pnum1 (R : Hid (Rd D W b u xs)) : Calls Try.prog 63 #[.pointer (some ⟨b, 0, none⟩), .int .i64 1] W (RdPost D W b (fun _ v a => v = .int .u64 ((a : Nat) : Int)) (pNum 1 xs)) := pnum_any R 1 (by omega)
theorem pnum4 (R : Hid (Rd D W b u xs)) : Calls Try.prog 63 #[.pointer (some ⟨b, 0, none⟩), .int .i64 4] W (RdPost D W b (fun _ v a => v = .int .u64 ((a : Nat) : Int)) (pNum 4 xs)) := pnum_any R 4 (by omega)
theorem pnum8 (R : Hid (Rd D W b u xs)) : Calls Try.prog 63 #[.pointer (some ⟨b, 0, none⟩), .int .i64 8] W (RdPost D W b (fun _ v a => v = .int .u64 ((a : Nat) : Int)) (pNum 8 xs)) := pnum_any R 8 (by omega)
theorem take1 (R : Hid (Rd D W b u xs)) : Calls Try.prog 92 #[.pointer (some ⟨b, 0, none⟩), .int .i64 1] W (RdPost D W b (fun _ v a => TextAt D v a) (pTake 1 xs)) := take_any R 1
theorem take32 (R : Hid (Rd D W b u xs)) : Calls Try.prog 92 #[.pointer (some ⟨b, 0, none⟩), .int .i64 32] W (RdPost D W b (fun _ v a => TextAt D v a) (pTake 32 xs)) := take_any R 32
end
end Go.Proofs.Ytjlefbkcjccjkaa
