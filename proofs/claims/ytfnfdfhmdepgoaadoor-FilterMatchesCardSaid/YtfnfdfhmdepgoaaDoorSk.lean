/- A count read, the document's, whole. -/
import Derived.Test.YtfnfdfhmdepgoaaDoorSi
import Derived.Test.YtfnfdfhmdepgoaaDoorSj
set_option linter.unusedSimpArgs false
namespace Go.Proofs.YtfnfdfhmdepgoaaDoor
open Go.RowKit Go.Lib

theorem ref_decode_bad {w : World} {p : Option Addr} {g o n c k : Nat} {x : Nat → Nat} (R : Hid (Row w p g o n c x)) (hd : Hid (dec n x = k)) (hk : k ≠ 0) (hn : n ≤ 140737488351232) : Calls Tryd.prog 79 #[.slice p n c] w (DecBad w k) := by
  have hw := wOf_bd (x 0)
  have e := hd.out
  rcases dec_cases n x with ⟨h1, h2⟩ | ⟨h1, h2, h3⟩ | ⟨h1, h2, h3⟩ | ⟨h1, h2, h3⟩
  · obtain rfl : k = 50 := by omega
    subst h1
    exact rdec_none
  · obtain rfl : k = 50 := by omega
    obtain rfl := R.out.head (by omega)
    by_cases a : x 0 = 253
    · rw [a] at h2
      exact rdec_short3 (v := 0) R a h1 h2
    · by_cases b : x 0 = 254
      · rw [b] at h2
        exact rdec_short5 (v := 0) R b h1 h2
      · by_cases d : x 0 = 255
        · rw [d] at h2
          exact rdec_short9 (v := 0) R d h1 h2
        · unfold wOf at h2
          rw [if_neg a, if_neg b, if_neg d] at h2
          omega
  · obtain rfl : k = 51 := by omega
    obtain rfl := R.out.head (by omega)
    by_cases a : x 0 = 253
    · rw [a] at h1 h2
      exact rdec_form3 (v := val x) R a h1 hn (Lib.hid rfl) h2
    · by_cases b : x 0 = 254
      · rw [b] at h1 h2
        exact rdec_form5 (v := val x) R b h1 hn (Lib.hid rfl) h2
      · by_cases d : x 0 = 255
        · rw [d] at h1 h2
          exact rdec_form9 (v := val x) R d h1 hn (Lib.hid rfl) h2
        · have ew : wOf (x 0) = 1 := by unfold wOf; rw [if_neg a, if_neg b, if_neg d]
          have ev : val x = x 0 := by
            have := R.out.byte 0
            unfold val; rw [if_pos (by omega)]
          rw [ew] at h1 h2
          rw [ev] at h2
          exact rdec_form1 R (Lib.hid rfl) a b d h1 hn h2
  · exact absurd (e.symm.trans h3) hk
theorem ref_decode_good {w : World} {p : Option Addr} {g o n c : Nat} {x : Nat → Nat} (R : Hid (Row w p g o n c x)) (hd : Hid (dec n x = 0)) (hn : n ≤ 140737488351232) : Calls Tryd.prog 79 #[.slice p n c] w (DecGood w n x) := by
  have hw := wOf_bd (x 0)
  have e := hd.out
  rcases dec_cases n x with ⟨h1, h2⟩ | ⟨h1, h2, h3⟩ | ⟨h1, h2, h3⟩ | ⟨h1, h2, h3⟩
  · omega
  · omega
  · omega
  · obtain rfl := R.out.head (by omega)
    unfold DecGood
    by_cases a : x 0 = 253
    · have ew : wOf (x 0) = 3 := by rw [a]; rfl
      rw [ew] at h1 h2 ⊢
      exact rdec_good3 (v := val x) R a h1 hn (Lib.hid rfl) h2
    · by_cases b : x 0 = 254
      · have ew : wOf (x 0) = 5 := by rw [b]; rfl
        rw [ew] at h1 h2 ⊢
        exact rdec_good5 (v := val x) R b h1 hn (Lib.hid rfl) h2
      · by_cases d : x 0 = 255
        · have ew : wOf (x 0) = 9 := by rw [d]; rfl
          rw [ew] at h1 h2 ⊢
          exact rdec_good9 (v := val x) R d h1 hn (Lib.hid rfl) h2
        · have ew : wOf (x 0) = 1 := by unfold wOf; rw [if_neg a, if_neg b, if_neg d]
          have ev : val x = x 0 := by
            have := R.out.byte 0
            unfold val; rw [if_pos (by omega)]
          rw [ew] at h1 h2 ⊢
          rw [ev] at h2 ⊢
          exact rdec_good1 R (Lib.hid rfl) a b d h1 hn h2
end Go.Proofs.YtfnfdfhmdepgoaaDoor

