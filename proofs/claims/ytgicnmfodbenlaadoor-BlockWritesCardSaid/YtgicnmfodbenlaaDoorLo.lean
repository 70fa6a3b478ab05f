/- The lowest bytes of a number. -/
import Derived.Test.YtgicnmfodbenlaaDoorNm
import Derived.Test.YtgicnmfodbenlaaDoorWk
set_option linter.unusedSimpArgs false
namespace Go.Proofs.YtgicnmfodbenlaaDoor
open Go.RowKit Go.Lib

theorem Mem.row {w0 w : World} {l : List (Nat × TypeId × Array Value)} (E : Mem w0 l w) {b T N : Nat} {f : Nat → Nat} (hm : (b, T, arr N (bv f)) ∈ l) (o n c : Nat) (h : o + n ≤ N) (hn : n ≤ c) (hc : c ≤ maxLen) (hf : ∀ i, f i < 256) :
    Row w (some ⟨b, o, none⟩) b o n c (fun i => f (o + i)) :=
  ⟨hn, hc, fun h => (by cases h), fun _ => rfl, fun i hi => cell_of_here (E.get hm) (o + i) (arr_get N (bv f) (o + i) (by omega)), fun i => hf _⟩
theorem row_one (w : World) (v : Nat) (hv : v < 256) : Row (w.alloc (.cells #[.int .u8 ((v : Nat) : Int)] 5)) (some ⟨w.heap.size, 0, none⟩) w.heap.size 0 1 1 (fun _ => v) := (own_new w (fun _ => v) 1 (by unfold maxLen; omega) (fun _ => hv)).row

set_option maxRecDepth 100000 in
set_option maxHeartbeats 2000000 in
theorem low_any (n m : Nat) (hm : m ≤ 8) (w : World) : Calls Tryd.prog 43 #[.int .u64 ((n : Nat) : Int), .int .i64 ((m : Nat) : Int)] w (Gets w m (byteAt n)) := by
  go_enter Tryd.func43, Tryd.ntmps43
  go_wp2
  go_loopg [5, 8] m (fun k s i wr => ∃ (j : Nat) (p : Option Addr) (g c : Nat), j + k = m ∧ i = .int .i64 (j : Int) ∧ s = .slice p j c ∧ Hid (Own w.heap.size wr p g j c (byteAt n)) ∧ Hid (Below w.heap.size w wr))
  case atStart => exact ⟨0, none, 0, 0, by omega, rfl, rfl, Lib.hid (own_nothing _ _ _ (byteAt_lt n) (Nat.le_refl _)), Lib.hid (Below.refl _ _)⟩
  case round =>
    obtain ⟨j, p, g, c, hj, rfl, rfl, N, B⟩ := hrel
    obtain ⟨kk, rfl⟩ : ∃ kk : Nat, kk = gk := ⟨_, rfl⟩
    by_cases hlt : j < m
    · have BI := byte_int n j
      have t8 : (8 * (j : Int)).toNat = 8 * j := by omega
      have R := Lib.hid (row_one wr (byteAt n j) (byteAt_lt n j))
      have ba := below_new wr (.cells #[.int .u8 ((byteAt n j : Nat) : Int)] 5)
      have N1 := Lib.hid (N.out.below ba)
      have B1 := Lib.hid (B.out.trans (ba.mono B.out.size))
      clear ba N B
      go_wp2_with (at_builtin; refine wpList_app (.inl rfl) (.tmp 11) (.tmp 17) rfl rfl N1 rfl R (by omega) ?_)
      intro p' g' c' w' N' hb
      have B2 := Lib.hid (B1.out.trans hb.out)
      have N2 := Lib.hid (N'.out.to (y := byteAt n) (fun i hi => by
        unfold cat
        split
        · rfl
        · rw [show i = j by omega]) (byteAt_lt n))
      clear hb N' N1 B1 R
      go_wp2
      go_roundg (kk - 1)
      case measure => omega
      case rel => exact ⟨j + 1, p', g', c', by omega, by go_num, rfl, N2, B2⟩
    · obtain rfl : j = m := by omega
      go_wp2
      go_ret
      exact ⟨p, g, c, rfl, N.out, B.out⟩

end Go.Proofs.YtgicnmfodbenlaaDoor
