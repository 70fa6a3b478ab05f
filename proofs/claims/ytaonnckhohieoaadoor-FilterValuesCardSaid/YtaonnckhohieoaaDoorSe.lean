/- The document's count, and texts. -/
import Derived.Test.YtaonnckhohieoaaDoorSd
import Derived.Test.YtaonnckhohieoaaDoorWk
set_option linter.unusedSimpArgs false
set_option maxRecDepth 100000
namespace Go.Proofs.YtaonnckhohieoaaDoor
open Go.RowKit Go.Lib

theorem enc_small {n : Nat} (h : n < 253) (i : Nat) (hi : i < 1) : (fun _ => n) i = enc n i := by
  obtain rfl : i = 0 := by omega
  show n = enc n 0
  unfold enc mk
  rw [if_pos rfl, if_pos h]
theorem enc_cat {n m : Nat} (h : mk n = m) (k : Nat) (i : Nat) (_ : i < 1 + k) : cat (fun _ => m) 1 (byteAt n) i = enc n i := by
  unfold cat enc
  by_cases h0 : i = 0
  · rw [if_pos (by omega), if_pos h0, h]
  · rw [if_neg (by omega), if_neg h0]

set_option maxRecDepth 100000 in
set_option maxHeartbeats 2000000 in
theorem ref_encode_any (n : Nat) (w : World) : Calls Tryd.prog 27 #[.int .u64 ((n : Nat) : Int)] w (Gets w (wid n) (enc n)) := by
  have E := Lib.hid (Mem.nil w)
  have hwd := wid_of (n := n)
  by_cases h1 : n < 253
  · have t1 : decide ((n : Int) < 253) = true := by simp; omega
    rw [if_pos h1] at hwd
    have hc : (n : Int) % 256 = (n : Int) := by omega
    have HW := Lib.hid hwd
    have EC := Lib.hid (fun i hi => enc_small h1 i hi)
    clear hwd
    go_enter Tryd.func27, Tryd.ntmps27
    go_wp2
    go_ret
    rw [Gets, HW.out]
    exact ⟨_, _, 1, rfl, (own_new w (fun _ => n) 1 (by unfold maxLen; omega) (fun _ => by omega)).to EC.out (enc_lt n), below_new w _⟩
  · have t1 : decide ((n : Int) < 253) = false := by simp; omega
    rw [if_neg h1] at hwd
    by_cases h2 : n ≤ 65535
    · have t2 : decide ((n : Int) ≤ 65535) = true := by simp; omega
      rw [if_pos h2] at hwd
      have em : mk n = 253 := by unfold mk; rw [if_neg h1, if_pos h2]
      have HW := Lib.hid hwd
      have EC := Lib.hid (fun i hi => enc_cat em 2 i hi)
      have K : Hid (Work w [] w.heap.size _ w.heap.size 1 1 (fun _ => 253) (w.alloc (.cells #[.int .u8 253] 5))) := Lib.hid (Work.start E.out (own_new w (fun _ => 253) 1 (by unfold maxLen; omega) (fun _ => by omega)) (below_new w _))
      clear hwd em h1 h2
      go_enter Tryd.func27, Tryd.ntmps27
      go_wp2_with (first
        | (go_at_call 40; refine (low_any n 2 (by omega) _).mono ?_; rintro e w1 ⟨p1, g1, c1, rfl, N1, hb⟩; have N := Lib.hid N1; replace K := Lib.hid (K.out.call hb); clear hb N1)
        | (at_builtin; refine wpList_wapp (.inl rfl) (.tmp 12) (.tmp 14) rfl K rfl rfl (Lib.hid N.out.row) (by omega) ?_; clear K; intro p3 g3 c3 w3 K))
      go_ret
      rw [Gets, HW.out]
      exact ⟨p3, g3, c3, rfl, (K.out.to EC.out (enc_lt n)).gets.1, K.out.gets.2⟩
    · have t2 : decide ((n : Int) ≤ 65535) = false := by simp; omega
      rw [if_neg h2] at hwd
      by_cases h3 : n ≤ 4294967295
      · have t3 : decide ((n : Int) ≤ 4294967295) = true := by simp; omega
        rw [if_pos h3] at hwd
        have em : mk n = 254 := by unfold mk; rw [if_neg h1, if_neg h2, if_pos h3]
        have HW := Lib.hid hwd
        have EC := Lib.hid (fun i hi => enc_cat em 4 i hi)
        have K : Hid (Work w [] w.heap.size _ w.heap.size 1 1 (fun _ => 254) (w.alloc (.cells #[.int .u8 254] 5))) := Lib.hid (Work.start E.out (own_new w (fun _ => 254) 1 (by unfold maxLen; omega) (fun _ => by omega)) (below_new w _))
        clear hwd em h1 h2 h3
        go_enter Tryd.func27, Tryd.ntmps27
        go_wp2_with (first
          | (go_at_call 40; refine (low_any n 4 (by omega) _).mono ?_; rintro e w1 ⟨p1, g1, c1, rfl, N1, hb⟩; have N := Lib.hid N1; replace K := Lib.hid (K.out.call hb); clear hb N1)
          | (at_builtin; refine wpList_wapp (.inl rfl) (.tmp 19) (.tmp 21) rfl K rfl rfl (Lib.hid N.out.row) (by omega) ?_; clear K; intro p3 g3 c3 w3 K))
        go_ret
        rw [Gets, HW.out]
        exact ⟨p3, g3, c3, rfl, (K.out.to EC.out (enc_lt n)).gets.1, K.out.gets.2⟩
      · have t3 : decide ((n : Int) ≤ 4294967295) = false := by simp; omega
        rw [if_neg h3] at hwd
        have em : mk n = 255 := by unfold mk; rw [if_neg h1, if_neg h2, if_neg h3]
        have HW := Lib.hid hwd
        have EC := Lib.hid (fun i hi => enc_cat em 8 i hi)
        have K : Hid (Work w [] w.heap.size _ w.heap.size 1 1 (fun _ => 255) (w.alloc (.cells #[.int .u8 255] 5))) := Lib.hid (Work.start E.out (own_new w (fun _ => 255) 1 (by unfold maxLen; omega) (fun _ => by omega)) (below_new w _))
        clear hwd em h1 h2 h3
        go_enter Tryd.func27, Tryd.ntmps27
        go_wp2_with (first
          | (go_at_call 40; refine (low_any n 8 (by omega) _).mono ?_; rintro e w1 ⟨p1, g1, c1, rfl, N1, hb⟩; have N := Lib.hid N1; replace K := Lib.hid (K.out.call hb); clear hb N1)
          | (at_builtin; refine wpList_wapp (.inl rfl) (.tmp 23) (.tmp 25) rfl K rfl rfl (Lib.hid N.out.row) (by omega) ?_; clear K; intro p3 g3 c3 w3 K))
        go_ret
        rw [Gets, HW.out]
        exact ⟨p3, g3, c3, rfl, (K.out.to EC.out (enc_lt n)).gets.1, K.out.gets.2⟩

/-- A text: its count, and its bytes. -/
def txt (x : Nat → Nat) (n : Nat) : Nat → Nat := cat (enc n) (wid n) x
theorem txt_lt {x : Nat → Nat} (hx : ∀ i, x i < 256) (n i : Nat) : txt x n i < 256 := cat_byte _ (enc_lt n) hx i

end Go.Proofs.YtaonnckhohieoaaDoor

