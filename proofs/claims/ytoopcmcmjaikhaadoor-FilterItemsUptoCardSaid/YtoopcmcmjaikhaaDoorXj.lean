/- The numbers in a filter: pure; what a list's growth leaves of a reader. -/
import Derived.Test.YtoopcmcmjaikhaaDoorXi
import Derived.Test.YtoopcmcmjaikhaaDoorRcd
import Derived.Test.YtoopcmcmjaikhaaDoorRop
import Derived.Test.YtoopcmcmjaikhaaDoorSk
set_option linter.unusedSimpArgs false
set_option linter.unusedVariables false
set_option maxRecDepth 100000
namespace Go.Proofs.YtoopcmcmjaikhaaDoor
open Go.RowKit Go.Lib Go.Sort

theorem cell_heap {w w' : World} {g : Nat} {o : Obj} (h : w.heap[g]? = some o) (h' : w'.heap[g]? = some o) (i : Nat) : w'.cell? ⟨g, i, none⟩ = w.cell? ⟨g, i, none⟩ := by
  unfold World.cell?
  rw [h, h']
theorem Rdr.other {D w w' : World} {b : Nat} {p q : Option Addr} {g c g' n' c' : Nat} {xs : List Nat} {t B T k : Nat} {V : Nat → Value} (h : Rdr D w b q g c xs t) (N : VOwn T k B w p g' n' c' V) (hg : w.grownBy w' ((Value.slice p n' c').ownBlock)) (h1 : 129 ≠ T) (h5 : 5 ≠ T) : Rdr D w' b q g c xs t :=
  ⟨N.other hg h1 h.box, ⟨h.row.le, h.row.cap, h.row.nil, h.row.head, fun i hi => by
    obtain ⟨cur, hc⟩ := h.typ (by omega)
    rw [cell_heap hc (N.other hg h5 hc)]
    exact h.row.cell i hi, h.row.byte⟩, fun h0 => by obtain ⟨cur, hc⟩ := h.typ h0; exact ⟨cur, N.other hg h5 hc⟩, h.lo, h.le, h.len⟩
theorem vF_lt2 (f : Nat → Bool) (r : Nat) : vF f r < 2 ^ r := vF_lt f r
theorem rr_val (f : Nat → Bool) (N r most : Nat) (hr : r ≤ 32) (hm : most < 2147483648) : ∀ (fuel t k v t' : Nat), k ≤ most → rr f N r most fuel t k = (v, 0, t') → k * 2 ^ r ≤ v ∧ v < (most + 1) * 2 ^ r
  | 0, t, k, v, t', hk, h => by
    unfold rr at h
    exact absurd (show (50 : Int) = 0 from congrArg (fun q : Nat × Int × Nat => q.2.1) h) (by decide)
  | fuel + 1, t, k, v, t', hk, h => by
    unfold rr at h
    split at h
    · exact absurd (show (50 : Int) = 0 from congrArg (fun q : Nat × Int × Nat => q.2.1) h) (by decide)
    · split at h
      · split at h
        · exact absurd (show (51 : Int) = 0 from congrArg (fun q : Nat × Int × Nat => q.2.1) h) (by decide)
        · have := rr_val f N r most hr hm fuel (t + 1) (k + 1) v t' (by omega) h
          refine ⟨Nat.le_trans (Nat.mul_le_mul_right _ (Nat.le_succ k)) this.1, this.2⟩
      · split at h
        · have e := congrArg (fun q : Nat × Int × Nat => q.1) h
          simp only at e
          have p1 : 2 ^ r ≤ 4294967296 := Nat.pow_le_pow_right (by omega) hr
          have p2 : k * 2 ^ r ≤ 2147483648 * 4294967296 := Nat.mul_le_mul (by omega) p1
          rw [Nat.mod_eq_of_lt (by omega), Nat.mul_comm, ← Nat.two_pow_add_eq_or_of_lt (vF_lt _ _)] at e
          have p3 := vF_lt (fun i => f (t + 1 + i)) r
          have p4 : 2 ^ r * k = k * 2 ^ r := Nat.mul_comm _ _
          have p5 : (k + 1) * 2 ^ r ≤ (most + 1) * 2 ^ r := Nat.mul_le_mul_right _ (by omega)
          rw [Nat.add_mul] at p5
          omega
        · exact absurd (show (50 : Int) = 0 from congrArg (fun q : Nat × Int × Nat => q.2.1) h) (by decide)
theorem rr_most (f : Nat → Bool) (N r m m' : Nat) (hr : r ≤ 32) (hm : m ≤ m') (hm' : m' < 2147483648) : ∀ (fuel t k : Nat), k ≤ m → rr f N r m fuel t k = rr f N r m' fuel t k ∨ ((rr f N r m fuel t k).2.1 ≠ 0 ∧ ((rr f N r m' fuel t k).2.1 ≠ 0 ∨ (m + 1) * 2 ^ r ≤ (rr f N r m' fuel t k).1))
  | 0, t, k, hk => .inl rfl
  | fuel + 1, t, k, hk => by
    by_cases hA : N ≤ t
    · left
      simp only [rr, if_pos hA]
    · by_cases hB : f t = true
      · by_cases hC : k = m
        · right
          refine ⟨by simp only [rr, if_neg hA, if_pos hB, if_pos hC]; decide, ?_⟩
          by_cases hD : k = m'
          · left
            simp only [rr, if_neg hA, if_pos hB, if_pos hD]
            decide
          · obtain ⟨R, hR⟩ : ∃ R, R = rr f N r m' fuel (t + 1) (k + 1) := ⟨_, rfl⟩
            simp only [rr, if_neg hA, if_pos hB, if_neg hD, ← hR]
            obtain ⟨v, er, t'⟩ := R
            by_cases hE : er = 0
            · right
              subst hE hC
              exact (rr_val f N r m' hr hm' fuel (t + 1) (k + 1) v t' (by omega) hR.symm).1
            · exact .inl hE
        · have := rr_most f N r m m' hr hm hm' fuel (t + 1) (k + 1) (by omega)
          simp only [rr, if_neg hA, if_pos hB, if_neg hC, if_neg (show ¬ k = m' by omega)]
          exact this
      · left
        simp only [rr, if_neg hA, if_neg hB]
/-- The numbers of codes, each added to the last one; and how many bits are taken then. -/
def pV (f : Nat → Bool) (N E most : Nat) : Nat → Nat → Nat → Option (List Nat × Nat)
  | 0, t, _ => some ([], t)
  | k + 1, t, last => if (rr f N 19 most (N + 1) t 0).2.1 ≠ 0 ∨ E ≤ last + (rr f N 19 most (N + 1) t 0).1 then none else (pV f N E most k (rr f N 19 most (N + 1) t 0).2.2 (last + (rr f N 19 most (N + 1) t 0).1)).map fun q => ((last + (rr f N 19 most (N + 1) t 0).1) :: q.1, q.2)
theorem pV_most (f : Nat → Bool) (N E m m' : Nat) (hm : m ≤ m') (hm' : m' < 2147483648) (hE : E ≤ (m + 1) * 2 ^ 19) : ∀ (k t last : Nat), pV f N E m k t last = pV f N E m' k t last
  | 0, t, last => rfl
  | k + 1, t, last => by
    unfold pV
    rcases rr_most f N 19 m m' (by omega) hm hm' (N + 1) t 0 (by omega) with h | ⟨h1, h2⟩
    · rw [h, pV_most f N E m m' hm hm' hE k]
    · rw [if_pos (.inl h1), if_pos (h2.imp id fun h => by omega)]
/-- With what is there already. -/
def aV (f : Nat → Bool) (N E most : Nat) (acc : List Nat) (k t last : Nat) : Option (List Nat × Nat) := (pV f N E most k t last).map fun q => (acc ++ q.1, q.2)
theorem aV_bad {f : Nat → Bool} {N E most k t last v t' : Nat} {er : Int} {acc : List Nat} (h : rr f N 19 most (N + 1) t 0 = (v, er, t')) (hb : er ≠ 0 ∨ E ≤ last + v) : aV f N E most acc (k + 1) t last = none := by
  unfold aV pV
  rw [h, if_pos hb]
  rfl
theorem aV_good {f : Nat → Bool} {N E most k t last v t' : Nat} {acc : List Nat} (h : rr f N 19 most (N + 1) t 0 = (v, 0, t')) (hb : ¬ E ≤ last + v) : aV f N E most acc (k + 1) t last = aV f N E most (acc ++ [last + v]) k t' (last + v) := by
  unfold aV
  conv => lhs; unfold pV
  rw [h, if_neg (by rintro (q | q); exact q rfl; exact hb q), Option.map_map]
  congr 1
  funext q
  simp
/-- What Values answers: the numbers, or nothing (the error). -/
def vbody (n : Nat) (xs : List Nat) : Option (List Nat) := match aV (bitAt xs) (8 * xs.length) (n * 784931) (n * 784931 / 2 ^ 19) [] n 0 0 with
  | none => none
  | some (l, t) => if 8 * xs.length - t < 8 ∧ valFrom xs t (8 * xs.length - t) = 0 then some l else none
theorem vbody_most {n : Nat} (hn : n ≤ 20000) (xs : List Nat) : aV (bitAt xs) (8 * xs.length) (n * 784931) (n * 784931 / 2 ^ 19) [] n 0 0 = aV (bitAt xs) (8 * xs.length) (n * 784931) (2 * n) [] n 0 0 := by
  unfold aV
  rw [pV_most _ _ _ _ (2 * n) (by omega) (by omega) (by omega)]
def vres (n : Nat) (x : Nat → Nat) : Option (List Nat) := if dec n x ≠ 0 ∨ 20000 < val x then none else vbody (val x) (tl (fun i => x (wOf (x 0) + i)) (n - wOf (x 0)))
def VEnd (W : World) (res : Option (List Nat)) (e : Ending) (w' : World) : Prop := match res with
  | none => e = .returned (.tuple #[.slice none 0 0, .int .i64 120]) ∧ Below W.heap.size W w'
  | some l => ∃ p g c, e = .returned (.tuple #[.slice p l.length c, .int .i64 0]) ∧ VOwn 59 1 W.heap.size w' p g l.length c (wv (lf l)) ∧ Below W.heap.size W w'
end Go.Proofs.YtoopcmcmjaikhaaDoor

