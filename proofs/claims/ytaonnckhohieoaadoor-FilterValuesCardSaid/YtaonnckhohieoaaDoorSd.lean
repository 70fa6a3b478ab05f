/- The lowest bytes of a number, and a count's bytes. -/
import Derived.Test.YtaonnckhohieoaaDoorSc
set_option linter.unusedSimpArgs false
set_option maxRecDepth 100000
namespace Go.Proofs.YtaonnckhohieoaaDoor
open Go.RowKit Go.Lib

theorem Mem.row {w0 w : World} {l : List (Nat × TypeId × Array Value)} (E : Mem w0 l w) {b T N : Nat} {f : Nat → Nat} (hm : (b, T, arr N (bv f)) ∈ l) (o n c : Nat) (h : o + n ≤ N) (hn : n ≤ c) (hc : c ≤ maxLen) (hf : ∀ i, f i < 256) :
    Row w (some ⟨b, o, none⟩) b o n c (fun i => f (o + i)) :=
  ⟨hn, hc, fun h => (by cases h), fun _ => rfl, fun i hi => cell_of_here (E.get hm) (o + i) (arr_get N (bv f) (o + i) (by omega)), fun i => hf _⟩
theorem run_formF (m : Nat) (hm : m ≤ 9) (b : Nat) (w : World) : (Instr.sliceAt 68 (.pointer (some ⟨b, 0, none⟩)) none (some (.int .i64 ((m : Nat) : Int))) (some (.int .i64 ((m : Nat) : Int)))).run Tryd.prog w = .ok (.slice (some ⟨b, 0, none⟩) m m) w := by
  have hl : Tryd.prog.arrayLen 68 = 9 := by kernel_rfl
  have he : Tryd.prog.elem 68 = 5 := by kernel_rfl
  have ht : Tryd.prog.underlying 68 = some (.array (Tryd.prog.arrayLen 68) (Tryd.prog.elem 68)) := by rw [hl, he]; exact Tryd.underlying68
  have hs : ∀ w, (Go.sizeOf 5).run Tryd.prog w = .ok 1 w := fun w => by kernel_rfl
  rw [run_sliceAt_array_hm w 68 ⟨b, 0, none⟩ ht .i64 .i64 m m (by omega) (by omega) (by rw [hl]; omega), he, hs]
  simp only [Result.andThen_ok, slicedAt, Int.toNat_natCast, Nat.zero_mul, Nat.sub_zero]
  congr 2
  split
  · rfl
  · rw [row_add]
theorem row_one (w : World) (v : Nat) (hv : v < 256) : Row (w.alloc (.cells #[.int .u8 ((v : Nat) : Int)] 5)) (some ⟨w.heap.size, 0, none⟩) w.heap.size 0 1 1 (fun _ => v) := (own_new w (fun _ => v) 1 (by unfold maxLen; omega) (fun _ => hv)).row

set_option maxRecDepth 100000 in
set_option maxHeartbeats 2000000 in
theorem low_any (n m : Nat) (hm : m ≤ 8) (w : World) : Calls Tryd.prog 40 #[.int .u64 ((n : Nat) : Int), .int .i64 ((m : Nat) : Int)] w (Gets w m (byteAt n)) := by
  go_enter Tryd.func40, Tryd.ntmps40
  go_wp2
  go_loopg [5, 8] m (fun k s i wr => ∃ (j : Nat) (p : Option Addr) (g c : Nat), j + k = m ∧ i = .int .i64 (j : Int) ∧ s = .slice p j c ∧ Hid (Own w.heap.size wr p g j c (byteAt n)) ∧ Hid (Below w.heap.size w wr))
  case atStart => exact ⟨0, none, 0, 0, by omega, rfl, rfl, Lib.hid (own_nothing _ _ _ (byteAt_lt n) (Nat.le_refl _)), Lib.hid (Below.refl _ _)⟩
  case round =>
    obtain ⟨j, p, g, c, hj, rfl, rfl, N, B⟩ := hrel
    obtain ⟨kk, rfl⟩ : ∃ kk : Nat, kk = gk := ⟨_, rfl⟩
    by_cases hlt : j < m
    · have BI := byte_int n j
      have t8 : (8 * (j : Int)).toNat = 8 * j := by omega
      have R := Lib.hid (row_one wr (byteAt n j) (byteAt_lt n j))
      have ba := below_new wr (.cells #[.int .u8 ((byteAt n j : Nat) : Int)] 5)
      have N1 := Lib.hid (N.out.below ba)
      have B1 := Lib.hid (B.out.trans (ba.mono B.out.size))
      clear ba N B
      go_wp2_with (at_builtin; refine wpList_app (.inl rfl) (.tmp 11) (.tmp 17) rfl rfl N1 rfl R (by omega) ?_)
      intro p' g' c' w' N' hb
      have B2 := Lib.hid (B1.out.trans hb.out)
      have N2 := Lib.hid (N'.out.to (y := byteAt n) (fun i hi => by
        unfold cat
        split
        · rfl
        · rw [show i = j by omega]) (byteAt_lt n))
      clear hb N' N1 B1 R
      go_wp2
      go_roundg (kk - 1)
      case measure => omega
      case rel => exact ⟨j + 1, p', g', c', by omega, by go_num, rfl, N2, B2⟩
    · obtain rfl : j = m := by omega
      go_wp2
      go_ret
      exact ⟨p, g, c, rfl, N.out, B.out⟩

set_option maxRecDepth 100000 in
set_option maxHeartbeats 2000000 in
theorem encode_any (n : Nat) (w : World) : Calls Tryd.prog 34 #[.int .u64 ((n : Nat) : Int)] w (Gets w (wid n) (enc n)) := by
  have E := Lib.hid (Mem.nil w)
  have hw := wid_bd n
  have sl := run_formF (wid n) (by omega)
  go_enter Tryd.func34, Tryd.ntmps34
  go_wp2_with (first
    | (go_at_call 38; refine (shortest_any n _).mono ?_; rintro e w1 ⟨rfl, hb⟩; replace E := Lib.hid (E.out.call hb); clear hb)
    | (refine mem_alloc E 68 rfl rfl infoF ?_; clear E; intro b w2 E; simp only [arr_cells] at E)
    | (refine mem_store_row 0 E 68 rfl _ _ rfl rfl rfl rfl (by kernel_rfl) (by rw [arr_size, arr_size]) (bv_one _ _) ?_; clear E; intro w2 E; simp only [List.set_cons_zero, List.set_cons_succ] at E)
    | (go_at_call 4; refine (clone_any (Lib.hid (E.out.row List.mem_cons_self 0 (wid n) (wid n) (by omega) (Nat.le_refl _) (by unfold maxLen; omega) (cut_lt (enc_lt n) (wid n)))) (by omega)).mono ?_; rintro e w1 ⟨p1, g1, c1, rfl, N1, hb⟩; have N := Lib.hid (N1.mono E.out.below.size); replace E := Lib.hid (E.out.call hb); clear hb N1))
  go_ret
  exact ⟨p1, g1, c1, rfl, N.out.to (fun i hi => by show cut (enc n) (wid n) (0 + i) = enc n i; unfold cut; rw [if_pos (by omega), Nat.zero_add]) (enc_lt n), E.out.below⟩
end Go.Proofs.YtaonnckhohieoaaDoor

