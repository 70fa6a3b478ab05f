/- slices.Sort of uint64: the row is afterwards what sorting gives. -/
import Derived.Test.YtoopcmcmjaikhaaDoorSpd
set_option linter.unusedSimpArgs false
set_option linter.unusedVariables false
set_option maxRecDepth 100000
namespace Go.Proofs
open Go.Shelf
shelf_lay SlLaysF0.n15 Slsf 15 at Tryd as YtoopcmcmjaikhaaDoor.lays15
end Go.Proofs
namespace Go.Proofs.YtoopcmcmjaikhaaDoor
open Go.RowKit Go.Lib

theorem blen_any (n : Nat) (hn : n < 4611686018427387904) (w : World) : Calls Tryd.prog 68 #[.int .u64 (n : Int)] w fun e w' => e = .returned (.int .i64 ((Go.Sort.bitsLen n : Nat) : Int)) ∧ w' = w := by
  have h := Any.bits_Len (SlLaysF0.n15.bits lays15) (n : Int) w (by omega) (by omega)
  rwa [Int.toNat_natCast, bitLen_eq _ (by omega)] at h
theorem exec_cvIU {o : Oper} {ev : Operand → Value} {W : World} {x : Operand} {a r : Int} (ho : o.op = .convert 3 50 x) (hx : ev x = .int .i64 a) (hr : IntKind.u64.wrap a = r) : (execOp ev o).run Tryd.prog W = .ok (.value (.int .u64 r)) W := by
  subst hr
  unfold execOp
  simp [ho, hx, go_sem, Tryd.underlying50, Tryd.underlying3]
/-- The numbers of a list, sorted. -/
def sortN (l : List Nat) : List Nat := (Go.Sort.sort ltN l.toArray).toList
theorem sortN_perm (l : List Nat) : (sortN l).Perm l := by
  obtain ⟨⟨hs, _, hp⟩, _⟩ := Go.Sort.sort_sorts ltN swo_ltN l.toArray
  rw [show l.toArray.size = (Go.Sort.sort ltN l.toArray).size from hs.symm, Array.extract_size] at hp
  rw [show (Go.Sort.sort ltN l.toArray).size = l.toArray.size from hs, Array.extract_size] at hp
  exact hp
theorem sortN_is (l : List Nat) : sortN l = l.mergeSort (fun x y => decide (x ≤ y)) := by
  obtain ⟨hP, hSo⟩ := Go.Sort.sort_sorts ltN swo_ltN l.toArray
  have h := Go.Sort.sorted_unique_holds swo_ltN (fun x y h1 h2 => by simp only [ltN, decide_eq_false_iff_not] at h1 h2; omega) l.toArray _ hP hSo
  unfold sortN
  rw [h]
  congr 1
  funext x y
  show (!decide (y < x)) = decide (x ≤ y)
  by_cases h : x ≤ y
  · have h' : ¬ y < x := by omega
    simp [h, h']
  · have h' : y < x := by omega
    simp [h, h']
theorem sortN_len (l : List Nat) : (sortN l).length = l.length := by rw [sortN_is, List.length_mergeSort]
theorem sortN_sorted (l : List Nat) : (sortN l).Pairwise (· ≤ ·) := by
  rw [sortN_is]
  have h := List.pairwise_mergeSort (le := fun x y : Nat => decide (x ≤ y)) (fun a b c h1 h2 => by simp only [decide_eq_true_eq] at *; omega) (fun a b => by simp only [Bool.or_eq_true, decide_eq_true_eq]; omega) l
  exact h.imp (fun h => by simpa using h)
theorem sortN_unique {l k : List Nat} (h : k.Perm l) (hk : k.Pairwise (· ≤ ·)) : k = sortN l := by
  refine List.Perm.eq_of_pairwise (le := fun x y => x ≤ y) (fun a b _ _ h1 h2 => by omega) hk (sortN_sorted l) (h.trans (sortN_perm l).symm)
set_option maxHeartbeats 8000000 in
theorem sort64_any {w : World} {B g n c : Nat} {d : Array Nat} (N : Hid (NRow B w g n c d ∧ d.size = n)) (hn : n ≤ 20000) : Calls Tryd.prog 35 #[.slice (some ⟨g, 0, none⟩) n c] w fun e w' => e = .returned (.tuple #[]) ∧ (NRow B w' g n c (sortN d.toList).toArray ∧ (sortN d.toList).length = n) ∧ Below B w w' := by
  obtain ⟨lm, hlm⟩ : ∃ lm, lm = Go.Sort.bitsLen n := ⟨_, rfl⟩
  have hl : lm ≤ 62 := by rw [hlm]; exact (Go.Sort.bitsLen_le_iff n 62).2 (by omega)
  have C1 := Lib.hid (show ∀ W, Calls Tryd.prog 68 #[.int .u64 (n : Int)] W fun e w' => e = .returned (.int .i64 (lm : Int)) ∧ w' = W from fun W => by rw [hlm]; exact blen_any n (by omega) W)
  have C2 := Lib.hid (show Calls Tryd.prog 67 #[.slice (some ⟨g, 0, none⟩) n c, .int .i64 0, .int .i64 (n : Int), .int .i64 (lm : Int)] w fun e w' => e = .returned (.tuple #[]) ∧ (NRow B w' g n c (sortN d.toList).toArray ∧ (sortN d.toList).length = n) ∧ Below B w w' from by
    have h := pdq64_any (n + 1) w B g n c 0 n lm d (by omega) N (Nat.zero_le _) (Nat.le_refl _) hn (by omega) (.inl rfl)
    have e : Go.Sort.pdq ltN d 0 n lm true true = (sortN d.toList).toArray := by unfold sortN Go.Sort.sort; rw [hlm]; simp only [Array.toArray_toList, N.out.2]
    rw [e] at h
    exact h.mono fun _ _ q => ⟨q.1, ⟨q.2.1.1, by have := q.2.1.2; rwa [List.size_toArray] at this⟩, q.2.2⟩)
  have BI := Lib.hid hn
  clear hlm hl hn
  go_enter Tryd.func35, Tryd.ntmps35
  go_wp2_with (first | ((with_reducible refine wpList_at 8 rfl ?_); refine wpList_kn rfl (.int .u64 (n : Int)) (by exact exec_cvIU rfl rfl (by have := BI.out; rw [IntKind.wrap_u64]; omega)) ?_) | (go_at_call 68; with_reducible refine (C1.out _).mono ?_; rintro e w7 ⟨rfl, rfl⟩) | (go_at_call 67; with_reducible refine C2.out.mono ?_; rintro e w7 ⟨rfl, hN, hX⟩; clear N; have N := Lib.hid hN; have HB := Lib.hid hX; clear hN hX))
  go_end0
  exact ⟨rfl, N.out, HB.out⟩
end Go.Proofs.YtoopcmcmjaikhaaDoor
