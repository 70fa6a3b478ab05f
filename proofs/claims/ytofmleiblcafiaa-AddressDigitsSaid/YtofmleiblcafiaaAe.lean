/- Digits there and back; digits are written. -/
import Derived.Test.YtofmleiblcafiaaAd
import Derived.ProofKit
import Derived.OpenShut
import Derived.SizedLaws
import Derived.ChangeOld
set_option linter.unusedSimpArgs false
set_option linter.unusedVariables false
set_option maxRecDepth 100000
namespace Go.Proofs.Ytofmleiblcafiaa
open Go.ChangeShapes Go.WideShapes Go.RowKit Go.Lib Go.Sort

theorem open_str {W : World} {base : Nat} {v : Value} (hv : Value.okWide Try.prog W .any base 9 v) : ∃ s : ByteArray, v = .string s := okWide_string Try.underlying9 hv
/-- How many digits of 58 some bytes have. -/
theorem b58_len {ps : List Nat} (hp : ∀ x, x ∈ ps → x < 256) (hn : ps.length ≤ 200) : (reb 256 58 ps).length ≤ 300 := by
  unfold reb
  rw [List.length_append, List.length_replicate, List.length_reverse]
  have hz := lz_le ps
  have h1 : acc 256 ps = acc 256 (ps.drop (lz ps)) := by conv => lhs; rw [lz_split ps, acc_zeros]
  have h2 := acc_lt (b := 256) (by omega) (ps.drop (lz ps)) fun x hx => hp x (List.mem_of_mem_drop hx)
  rw [← h1, List.length_drop] at h2
  obtain ⟨k, hk⟩ : ∃ k, k = (ps.length - lz ps + 7) / 8 := ⟨_, rfl⟩
  have h3 : (256 : Nat) ^ (ps.length - lz ps) ≤ 256 ^ (8 * k) := Nat.pow_le_pow_right (by omega) (by omega)
  have h4 : (256 : Nat) ^ (8 * k) ≤ 58 ^ (11 * k) := by
    rw [Nat.pow_mul, Nat.pow_mul]
    exact Nat.pow_le_pow_left (by decide) k
  have h5 := (dig_len_le (b := 58) (by omega) (11 * k) (acc 256 ps)).2 (by omega)
  omega
theorem back_b {x : Nat → Nat} {n : Nat} (hn : n ≤ 200) (hx : ∀ i, x i < 256) : (b58 (tl x n)).size ≤ 300 ∧ AllIn D58 (b58 (tl x n)) ∧ reb 58 256 (plL D58 (b58 (tl x n))) = tl x n := by
  have hm : ∀ y, y ∈ tl x n → y < 256 := isB_tl hx n
  have e : b58 (tl x n) = dgS (reb 256 58 (tl x n)) := by unfold b58; rw [tl_length, if_neg (by omega)]
  have h1 := dgS_places (r := reb 256 58 (tl x n)) (reb_lt (by omega) _)
  rw [e]
  refine ⟨by rw [dgS_size]; exact b58_len hm (by rw [tl_length]; exact hn), h1.1, ?_⟩
  rw [h1.2]
  exact reb_back (by omega) (by omega) hm
theorem back_s {s : ByteArray} (h : AllIn D58 s) : (reb 58 256 (plL D58 s)).length ≤ 200 → b58 (reb 58 256 (plL D58 s)) = s := fun hl => by
  unfold b58
  rw [if_neg (by omega), reb_back (by omega) (by omega) (plL_lt h), dgS_back h]
/-- A text is refused, with one error or the other, or it is read. -/
theorem unb_ways (s : ByteArray) : (∀ (w : World) (e : Ending) (w' : World), UnbEnd w s e w' → ∃ z : Int, (z = 4 ∨ z = 140) ∧ e = .returned (.tuple #[.slice none 0 0, .int .i64 z]) ∧ Below w.heap.size w w') ∨
    (AllIn D58 s ∧ ∀ (w : World) (e : Ending) (w' : World), UnbEnd w s e w' → ∃ p g c, e = .returned (.tuple #[.slice p (reb 58 256 (plL D58 s)).length c, .int .i64 0]) ∧ Row w' p g 0 (reb 58 256 (plL D58 s)).length c (lf (reb 58 256 (plL D58 s))) ∧ Below w.heap.size w w') := by
  by_cases hs : 300 < s.size
  · refine .inl fun w e w' h => ?_
    obtain ⟨hb, ⟨_, he⟩ | ⟨h, _⟩ | ⟨h, _⟩⟩ := h
    · exact ⟨4, .inl rfl, he, hb⟩
    · omega
    · omega
  · by_cases hA : AllIn D58 s
    · refine .inr ⟨hA, fun w e w' h => ?_⟩
      obtain ⟨hb, ⟨h, _⟩ | ⟨_, h, _⟩ | ⟨_, _, r, p, g, c, hr, he, N⟩⟩ := h
      · exact absurd h hs
      · exact absurd hA h
      · subst hr
        exact ⟨p, g, c, he, N.row, hb⟩
    · refine .inl fun w e w' h => ?_
      obtain ⟨hb, ⟨h, _⟩ | ⟨_, _, he⟩ | ⟨_, h, _⟩⟩ := h
      · exact absurd h hs
      · exact ⟨140, .inr rfl, he, hb⟩
      · exact absurd h hA
theorem b58_two : b58 [0, 57] = ⟨#[49, 122]⟩ := by decide +kernel
set_option maxHeartbeats 8000000 in
theorem awake14_any (w : World) : Calls Try.prog 10 #[] w fun e w' => e = .returned (.bool true) ∧ Below w.heap.size w w' := by
  have E := Lib.hid (Mem.nil w)
  go_enter Try.func10, Try.ntmps10
  go_wp2_with (first
    | ((with_reducible refine wpList_at 1 rfl ?_); refine wpList_bs rfl 2 _ rfl E (lf [0, 57]) (lf_lt (by intro x hx; simp at hx; omega)) (by unfold maxLen; omega) (fun W => by kernel_rfl) ?_; clear E; intro B1 p1 g1 w1 WK; try simp only [Act.put, List.setIfInBounds_toArray, List.set_cons_zero, List.set_cons_succ])
    | (go_at_call 7; refine (b58_any (Lib.hid WK.out.own.row) (by omega)).mono ?_; rintro e w2 ⟨rfl, hb⟩; rw [show tl (lf [0, 57]) 2 = [0, 57] from rfl, b58_two]; replace WK := Lib.hid (WK.out.call hb); clear hb))
  go_ret
  exact ⟨rfl, WK.out.mem.below⟩
end Go.Proofs.Ytofmleiblcafiaa
