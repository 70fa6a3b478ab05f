/- Texts of ours, merged: Ad, Ae, Af, Ag. -/
import Derived.Test.YtghjgkgfpblijaaDoorZB
import Derived.ProofKit
import Derived.OpenShut
import Derived.SizedLaws
import Derived.ChangeOld
import Derived.Laws.Concat
section
set_option linter.unusedSimpArgs false
set_option linter.unusedVariables false
set_option maxRecDepth 100000
namespace Go.Proofs.YtghjgkgfpblijaaDoor
open Go.ChangeShapes Go.WideShapes Go.RowKit Go.Lib Go.Sort

/-- The digits of 58. -/
def D58 : ByteArray := ⟨#[49, 50, 51, 52, 53, 54, 55, 56, 57, 65, 66, 67, 68, 69, 70, 71, 72, 74, 75, 76, 77, 78, 80, 81, 82, 83, 84, 85, 86, 87, 88, 89, 90, 97, 98, 99, 100, 101, 102, 103, 104, 105, 106, 107, 109, 110, 111, 112, 113, 114, 115, 116, 117, 118, 119, 120, 121, 122]⟩
theorem D58_size : D58.size = 58 := rfl
theorem D58_low : ∀ i, i < D58.size → byt D58 i < 128 := by
  intro i hi
  rw [D58_size] at hi
  have h : ∀ i : Fin 58, byt D58 i.1 < 128 := by decide +kernel
  exact h ⟨i, hi⟩
theorem D58_back (i : Nat) (hi : i < 58) : ixL D58 (byt D58 i) = i := by
  have h : ∀ i : Fin 58, ixL D58 (byt D58 i.1) = i.1 := by decide +kernel
  exact h ⟨i, hi⟩
/-- Numbers as digits. -/
def dgS (r : List Nat) : ByteArray := strX (fun i => byt D58 (lf r i)) r.length
theorem dgS_size (r : List Nat) : (dgS r).size = r.length := strX_size _ _
theorem dgS_byt {r : List Nat} {i : Nat} (h : i < r.length) : byt (dgS r) i = byt D58 (lf r i) := strX_byt (fun i => byt_lt _ _) h
/-- Digits of digits. -/
theorem dgS_places {r : List Nat} (h : ∀ x, x ∈ r → x < 58) : AllIn D58 (dgS r) ∧ plL D58 (dgS r) = r := by
  have key : ∀ i, i < r.length → ixL D58 (byt (dgS r) i) = lf r i := fun i hi => by
    rw [dgS_byt hi]
    refine D58_back _ ?_
    rw [lf_get hi]
    exact h _ (List.getElem_mem hi)
  constructor
  · intro i hi
    rw [dgS_size] at hi
    rw [key i hi, D58_size, lf_get hi]
    exact h _ (List.getElem_mem hi)
  · unfold plL
    apply lf_inj
    · rw [tl_length, dgS_size]
    · intro i hi
      rw [tl_length, dgS_size] at hi
      rw [lf_tl _ (by rw [dgS_size]; exact hi), key i hi]
/-- Letters of their places. -/
theorem dgS_back {s : ByteArray} (h : AllIn D58 s) : dgS (plL D58 s) = s := by
  have hl : (plL D58 s).length = s.size := tl_length _ _
  refine ba_ext (by rw [dgS_size, hl]) fun i hi => ?_
  rw [dgS_size] at hi
  rw [dgS_byt hi]
  rw [hl] at hi
  unfold plL
  rw [lf_tl _ hi]
  exact ixf_get (h i hi)
theorem plL_lt {s : ByteArray} (h : AllIn D58 s) : ∀ x, x ∈ plL D58 s → x < 58 := tl_mem fun i hi => h i hi
/-- The text of bytes: nothing of more than 200. -/
def b58 (xs : List Nat) : ByteArray := if 200 < xs.length then ⟨#[]⟩ else dgS (reb 256 58 xs)
theorem run_ixS (s : ByteArray) (i : Nat) (hi : i < s.size) (w : World) : (Instr.index 9 (.string s) (.int .u8 (i : Int))).run Tryd.prog w = .ok (.int .u8 ((byt s i : Nat) : Int)) w := by
  rw [run_index_string (w := w) 9 s .u8 (i : Int) Tryd.underlying9, dif_pos ⟨by omega, by omega⟩]
  rw [← byt_get s i hi]
  rfl
theorem reb_len {b c : Nat} (hb : 0 < b) (hc : 2 ≤ c) (hbc : b ≤ c ^ 8) {ps : List Nat} (h : ∀ x, x ∈ ps → x < b) : (reb b c ps).length ≤ 9 * ps.length := by
  unfold reb
  rw [List.length_append, List.length_replicate, List.length_reverse]
  have := dig_bound hb hc hbc h
  have := lz_le ps
  omega
set_option maxHeartbeats 8000000 in
theorem b58_any {w : World} {p : Option Addr} {g o n c : Nat} {x : Nat → Nat} (R : Hid (Row w p g o n c x)) (hn : n ≤ 140737488355328) : Calls Tryd.prog 24 #[.slice p n c] w fun e w' => e = .returned (.string (b58 (tl x n))) ∧ Below w.heap.size w w' := by
  by_cases h2 : 200 < n
  · have BS := Lib.hid (show b58 (tl x n) = ⟨#[]⟩ by unfold b58; rw [tl_length, if_pos h2])
    go_enter Tryd.func24, Tryd.ntmps24
    go_wp2
    go_ret
    exact ⟨by rw [BS.out]; rfl, Below.refl _ _⟩
  · have BS := Lib.hid (show b58 (tl x n) = dgS (reb 256 58 (tl x n)) by unfold b58; rw [tl_length, if_neg h2])
    have hx := Lib.hid (show ∀ i, i < n → x i < 256 from fun i _ => R.out.byte i)
    have RL := Lib.hid (show (reb 256 58 (tl x n)).length ≤ 9 * n ∧ ∀ y, y ∈ reb 256 58 (tl x n) → y < 58 from ⟨by
      have := reb_len (b := 256) (c := 58) (by omega) (by omega) (by decide) (tl_mem hx.out); rwa [tl_length] at this, reb_lt (by omega) _⟩)
    have hn2 : n ≤ 200 := by omega
    clear h2
    go_enter Tryd.func24, Tryd.ntmps24
    go_wp2_with (go_at_call 47; refine (rebase_to R (by omega) hx).mono ?_; intro e w2 h8; obtain ⟨r, p2, g2, c2, rfl, HR, N0, hb⟩ := getsL_var h8; have N := Lib.hid N0; have BB := Lib.hid hb; clear N0 hb h8)
    rw [← HR.out] at RL
    have FR := Lib.hid (show ∀ i, i < r.length → lf r i < 58 from fun i hi => by rw [lf_get hi]; exact RL.out.2 _ (List.getElem_mem hi))
    have rl := RL.out.1
    obtain ⟨m, hm⟩ : ∃ m, m = r.length := ⟨_, rfl⟩
    rw [← hm] at N FR rl ⊢
    have HM := Lib.hid hm
    clear hm RL
    have N1 := Lib.hid (N.out.to (y := fun i => if i < 0 then byt D58 (lf r i) else lf r i) (fun i _ => by rw [if_neg (by omega)]) (fun i => by split; exact byt_lt _ _; exact N.out.byte i))
    clear N
    go_loopg [13] m (fun k i wr => ∃ q : Nat, q + k = m ∧ i = .int .i64 (q : Int) ∧ Hid (Own w.heap.size wr p2 g2 m c2 (fun i => if i < q then byt D58 (lf r i) else lf r i)) ∧ Hid (Below w.heap.size w wr))
    case atStart => exact ⟨0, by omega, rfl, N1, BB⟩
    case round =>
      clear N1 BB
      obtain ⟨q, hq, rfl, N, BB⟩ := hrel
      obtain ⟨kk, rfl⟩ : ∃ kk : Nat, kk = gk := ⟨_, rfl⟩
      by_cases hlt : q < m
      · have HLT := Lib.hid hlt
        obtain rfl := N.out.row.head (by omega)
        obtain ⟨y, hy⟩ : ∃ y, y = lf r q := ⟨_, rfl⟩
        have hy58 : y < 58 := by rw [hy]; exact FR.out q hlt
        have CL := Lib.hid (show wr.cell? ⟨g2, q, none⟩ = some (.int .u8 (y : Int)) by have := N.out.row.cell q hlt; rwa [if_neg (by omega), ← hy, Nat.zero_add] at this)
        have IX := Lib.hid (fun W : World => run_ixS D58 y hy58 W)
        obtain ⟨z, hz⟩ : ∃ z, z = byt D58 y := ⟨_, rfl⟩
        have zb : z < 256 := by rw [hz]; exact byt_lt _ _
        rw [← hz] at IX
        go_wp2_with (first
          | ((with_reducible refine wpList_at 16 rfl ?_); refine wpList_ix (k := 1) (j := q) Tryd.underlying22 (by kernel_rfl) (.tmp 11) (.tmp 13) rfl rfl rfl rfl HLT.out rfl ?_; rw [Nat.mul_one, Nat.zero_add]; try simp only [Act.put, List.setIfInBounds_toArray, List.set_cons_zero, List.set_cons_succ])
          | ((with_reducible refine wpList_at 17 rfl ?_); refine wpList_ld1 5 (.tmp 16) rfl rfl rfl Tryd.underlying5 rfl CL.out ?_; try simp only [Act.put, List.setIfInBounds_toArray, List.set_cons_zero, List.set_cons_succ])
          | ((with_reducible refine wpList_at 21 rfl ?_); refine wpList_known4 rfl _ _ (exec_index rfl (IX.out _)) ?_; try simp only [Act.put, List.setIfInBounds_toArray, List.set_cons_zero, List.set_cons_succ])
          | ((with_reducible refine wpList_at 22 rfl ?_); refine wpList_ix (k := 1) (j := q) Tryd.underlying22 (by kernel_rfl) (.tmp 18) (.tmp 19) rfl rfl rfl rfl HLT.out rfl ?_; rw [Nat.mul_one, Nat.zero_add]; try simp only [Act.put, List.setIfInBounds_toArray, List.set_cons_zero, List.set_cons_succ])
          | ((refine wpList_atn rfl ?_); refine wpList_bput0 rfl (.tmp 22) (.tmp 21) rfl N rfl rfl HLT.out zb ?_; clear N; intro w8 N hb8; replace BB := Lib.hid (BB.out.trans hb8.out)))
        have N2 := Lib.hid (N.out.to (y := fun i => if i < q + 1 then byt D58 (lf r i) else lf r i) (fun i _ => by
          rcases Nat.lt_trichotomy i q with h | h | h
          · rw [if_neg (by omega), if_pos h, if_pos (by omega)]
          · subst h; rw [if_pos rfl, if_pos (by omega), hz, hy]
          · rw [if_neg (by omega), if_neg (by omega), if_neg (by omega)]) (fun i => by
          have := N.out.byte
          split
          · exact byt_lt _ _
          · exact lf_lt (l := r) (fun v hv => by have := List.getElem_of_mem hv; obtain ⟨i, hi, rfl⟩ := this; have := FR.out i (by rw [HM.out]; exact hi); rw [lf_get hi] at this; omega) i))
        clear hy hz N IX
        go_roundg (m - (q + 1))
        case measure => omega
        case rel => exact ⟨q + 1, by omega, by go_num, N2, BB⟩
      · obtain rfl : q = m := by omega
        have CV := Lib.hid (show ∀ w0 : World, w0 = wr → (convert 22 9 (.slice p2 q c2)).run Tryd.prog w0 = .ok (.string (b58 (tl x n))) w0 from fun w0 h => by
          subst h
          rw [row_strX N.out.row, BS.out]
          unfold dgS
          rw [← HR.out, ← HM.out]
          congr 2
          refine ba_ext (by rw [strX_size, strX_size]) fun i hi => ?_
          rw [strX_size] at hi
          rw [strX_byt N.out.byte hi, strX_byt (fun i => byt_lt _ _) hi, if_pos hi])
        obtain ⟨S, hS⟩ : ∃ S, S = b58 (tl x n) := ⟨_, rfl⟩
        rw [← hS] at CV
        have HS := Lib.hid hS
        clear hS
        go_wp2_with (first
          | ((with_reducible refine wpList_at 25 rfl ?_); refine wpList_known4 rfl _ _ (exec_cv rfl (CV.out _ rfl)) ?_; try simp only [Act.put, List.setIfInBounds_toArray, List.set_cons_zero, List.set_cons_succ]))
        go_ret
        exact ⟨by rw [← HS.out]; rfl, BB.out⟩
/-- What Unbase58 leaves. -/
def UnbEnd (w : World) (s : ByteArray) (e : Ending) (w' : World) : Prop := Below w.heap.size w w' ∧ ((300 < s.size ∧ e = .returned (.tuple #[.slice none 0 0, .int .i64 4])) ∨ (s.size ≤ 300 ∧ ¬ AllIn D58 s ∧ e = .returned (.tuple #[.slice none 0 0, .int .i64 140])) ∨
  (s.size ≤ 300 ∧ AllIn D58 s ∧ ∃ (r : List Nat) (p : Option Addr) (g c : Nat), r = reb 58 256 (plL D58 s) ∧ e = .returned (.tuple #[.slice p r.length c, .int .i64 0]) ∧ Own w.heap.size w' p g r.length c (lf r)))
set_option maxHeartbeats 8000000 in
theorem unb_any (w : World) (s : ByteArray) : Calls Tryd.prog 48 #[.string s] w (UnbEnd w s) := by
  by_cases h3 : 300 < s.size
  · have h3i : (300 : Int) < (s.size : Int) := by omega
    have H3 := Lib.hid h3
    clear h3
    go_enter Tryd.func48, Tryd.ntmps48
    go_wp2
    go_ret2
    exact ⟨Below.refl _ _, .inl ⟨H3.out, rfl⟩⟩
  · have hs : s.size ≤ 300 := by omega
    have DL := Lib.hid D58_low
    have HD := Lib.hid D58_size
    have PA := Lib.hid (fun w0 : World => places_any w0 s D58 (by omega) (by rw [D58_size]; omega) DL)
    clear h3
    by_cases hA : AllIn D58 s
    · have HA := Lib.hid hA
      have PB := Lib.hid (fun w0 : World => (PA.out w0).mono fun e w' h => (show ∃ p g c, e = .returned (.tuple #[.slice p s.size c, .bool true]) ∧ Own w0.heap.size w' p g s.size c (lf (plL D58 s)) ∧ Below w0.heap.size w0 w' from h.elim (fun h => h.2) (fun h => absurd hA h.1)))
      have hx := Lib.hid (show ∀ i, i < s.size → lf (plL D58 s) i < 58 from fun i hi => by unfold plL; rw [lf_tl _ hi]; exact hA i hi)
      clear hA PA
      go_enter Tryd.func48, Tryd.ntmps48
      go_wp2_with (first
        | (go_at_call 62; refine (PB.out _).mono ?_; rintro e w2 ⟨p2, g2, c2, rfl, N0, hb⟩; have BB := Lib.hid hb; have R := Lib.hid N0.row; clear N0 hb)
        | (go_at_call 47; refine (rebase_of R (by omega) hx).mono ?_; intro e w3 h8; obtain ⟨r, p3, g3, c3, rfl, HR, N3, hb⟩ := getsL_var h8; have YtghjgkgfpblijaaDoor := Lib.hid (N3.mono BB.out.size); replace BB := Lib.hid (BB.out.trans (hb.mono BB.out.size)); clear N3 hb h8))
      go_ret2
      refine ⟨BB.out, .inr (.inr ⟨hs, HA.out, r, p3, g3, c3, ?_, rfl, YtghjgkgfpblijaaDoor.out⟩)⟩
      have h1 : (plL D58 s).length = s.size := tl_length _ _
      exact HR.out.trans (congrArg (reb 58 256) ((congrArg (tl (lf (plL D58 s))) h1.symm).trans (tl_lf _)))
    · have HA := Lib.hid hA
      have PB := Lib.hid (fun w0 : World => (PA.out w0).mono fun e w' h => (show e = .returned (.tuple #[.slice none 0 0, .bool false]) ∧ Below w0.heap.size w0 w' from h.elim (fun h => absurd h.1 hA) (fun h => h.2)))
      clear hA PA
      go_enter Tryd.func48, Tryd.ntmps48
      go_wp2_with (go_at_call 62; refine (PB.out _).mono ?_; rintro e w2 ⟨rfl, hb⟩; have BB := Lib.hid hb; clear hb)
      go_ret2
      exact ⟨BB.out, .inr (.inl ⟨hs, HA.out, rfl⟩)⟩
end Go.Proofs.YtghjgkgfpblijaaDoor
end
section
set_option linter.unusedSimpArgs false
set_option linter.unusedVariables false
set_option maxRecDepth 100000
namespace Go.Proofs.YtghjgkgfpblijaaDoor
open Go.ChangeShapes Go.WideShapes Go.RowKit Go.Lib Go.Sort

theorem open_str {W : World} {base : Nat} {v : Value} (hv : Value.okWide Tryd.prog W .any base 9 v) : ∃ s : ByteArray, v = .string s := okWide_string Tryd.underlying9 hv
/-- How many digits of 58 some bytes have. -/
theorem b58_len {ps : List Nat} (hp : ∀ x, x ∈ ps → x < 256) (hn : ps.length ≤ 200) : (reb 256 58 ps).length ≤ 300 := by
  unfold reb
  rw [List.length_append, List.length_replicate, List.length_reverse]
  have hz := lz_le ps
  have h1 : acc 256 ps = acc 256 (ps.drop (lz ps)) := by conv => lhs; rw [lz_split ps, acc_zeros]
  have h2 := acc_lt (b := 256) (by omega) (ps.drop (lz ps)) fun x hx => hp x (List.mem_of_mem_drop hx)
  rw [← h1, List.length_drop] at h2
  obtain ⟨k, hk⟩ : ∃ k, k = (ps.length - lz ps + 7) / 8 := ⟨_, rfl⟩
  have h3 : (256 : Nat) ^ (ps.length - lz ps) ≤ 256 ^ (8 * k) := Nat.pow_le_pow_right (by omega) (by omega)
  have h4 : (256 : Nat) ^ (8 * k) ≤ 58 ^ (11 * k) := by
    rw [Nat.pow_mul, Nat.pow_mul]
    exact Nat.pow_le_pow_left (by decide) k
  have h5 := (dig_len_le (b := 58) (by omega) (11 * k) (acc 256 ps)).2 (by omega)
  omega
theorem back_b {x : Nat → Nat} {n : Nat} (hn : n ≤ 200) (hx : ∀ i, x i < 256) : (b58 (tl x n)).size ≤ 300 ∧ AllIn D58 (b58 (tl x n)) ∧ reb 58 256 (plL D58 (b58 (tl x n))) = tl x n := by
  have hm : ∀ y, y ∈ tl x n → y < 256 := isB_tl hx n
  have e : b58 (tl x n) = dgS (reb 256 58 (tl x n)) := by unfold b58; rw [tl_length, if_neg (by omega)]
  have h1 := dgS_places (r := reb 256 58 (tl x n)) (reb_lt (by omega) _)
  rw [e]
  refine ⟨by rw [dgS_size]; exact b58_len hm (by rw [tl_length]; exact hn), h1.1, ?_⟩
  rw [h1.2]
  exact reb_back (by omega) (by omega) hm
theorem back_s {s : ByteArray} (h : AllIn D58 s) : (reb 58 256 (plL D58 s)).length ≤ 200 → b58 (reb 58 256 (plL D58 s)) = s := fun hl => by
  unfold b58
  rw [if_neg (by omega), reb_back (by omega) (by omega) (plL_lt h), dgS_back h]
/-- A text is refused, with one error or the other, or it is read. -/
theorem unb_ways (s : ByteArray) : (∀ (w : World) (e : Ending) (w' : World), UnbEnd w s e w' → ∃ z : Int, (z = 4 ∨ z = 140) ∧ e = .returned (.tuple #[.slice none 0 0, .int .i64 z]) ∧ Below w.heap.size w w') ∨
    (AllIn D58 s ∧ ∀ (w : World) (e : Ending) (w' : World), UnbEnd w s e w' → ∃ p g c, e = .returned (.tuple #[.slice p (reb 58 256 (plL D58 s)).length c, .int .i64 0]) ∧ Row w' p g 0 (reb 58 256 (plL D58 s)).length c (lf (reb 58 256 (plL D58 s))) ∧ Below w.heap.size w w') := by
  by_cases hs : 300 < s.size
  · refine .inl fun w e w' h => ?_
    obtain ⟨hb, ⟨_, he⟩ | ⟨h, _⟩ | ⟨h, _⟩⟩ := h
    · exact ⟨4, .inl rfl, he, hb⟩
    · omega
    · omega
  · by_cases hA : AllIn D58 s
    · refine .inr ⟨hA, fun w e w' h => ?_⟩
      obtain ⟨hb, ⟨h, _⟩ | ⟨_, h, _⟩ | ⟨_, _, r, p, g, c, hr, he, N⟩⟩ := h
      · exact absurd h hs
      · exact absurd hA h
      · subst hr
        exact ⟨p, g, c, he, N.row, hb⟩
    · refine .inl fun w e w' h => ?_
      obtain ⟨hb, ⟨h, _⟩ | ⟨_, _, he⟩ | ⟨_, h, _⟩⟩ := h
      · exact absurd h hs
      · exact ⟨140, .inr rfl, he, hb⟩
      · exact absurd h hA
theorem b58_two : b58 [0, 57] = ⟨#[49, 122]⟩ := by decide +kernel
set_option maxHeartbeats 8000000 in
theorem awake14_any (w : World) : Calls Tryd.prog 10 #[] w fun e w' => e = .returned (.bool true) ∧ Below w.heap.size w w' := by
  have E := Lib.hid (Mem.nil w)
  go_enter Tryd.func10, Tryd.ntmps10
  go_wp2_with (first
    | ((with_reducible refine wpList_at 1 rfl ?_); refine wpList_bs rfl 2 _ rfl E (lf [0, 57]) (lf_lt (by intro x hx; simp at hx; omega)) (by unfold maxLen; omega) (fun W => by kernel_rfl) ?_; clear E; intro B1 p1 g1 w1 WK; try simp only [Act.put, List.setIfInBounds_toArray, List.set_cons_zero, List.set_cons_succ])
    | (go_at_call 24; refine (b58_any (Lib.hid WK.out.own.row) (by omega)).mono ?_; rintro e w2 ⟨rfl, hb⟩; rw [show tl (lf [0, 57]) 2 = [0, 57] from rfl, b58_two]; replace WK := Lib.hid (WK.out.call hb); clear hb))
  go_ret
  exact ⟨rfl, WK.out.mem.below⟩
end Go.Proofs.YtghjgkgfpblijaaDoor
end
section
set_option linter.unusedSimpArgs false
set_option linter.unusedVariables false
set_option maxRecDepth 100000
namespace Go.Proofs.YtghjgkgfpblijaaDoor
open Go.ChangeShapes Go.WideShapes Go.RowKit Go.Lib Go.Sort

theorem byt_catl {s t : ByteArray} {i : Nat} (h : i < s.size) : byt (s ++ t) i = byt s i := by
  rw [← byt_get s i h, ← byt_get (s ++ t) i (by rw [ByteArray.size_append]; omega), ByteArray.getElem_append_left h]
theorem byt_catr {s t : ByteArray} {i : Nat} (h : s.size ≤ i) (h2 : i < s.size + t.size) : byt (s ++ t) i = byt t (i - s.size) := by
  rw [← byt_get t (i - s.size) (by omega), ← byt_get (s ++ t) i (by rw [ByteArray.size_append]; omega), ByteArray.getElem_append_right h]
theorem exec_cat {o : Oper} {ev : Operand → Value} {W : World} {x y : Operand} {s t : ByteArray} (ho : o.op = .binOp .add 9 x y 9) (hx : ev x = .string s) (hy : ev y = .string t) (hl : s.size + t.size ≤ 1000000) : (execOp ev o).run Tryd.prog W = .ok (.value (.string (s ++ t))) W := by
  have h : ¬ (((s.size + t.size : Nat) : Int) > 9223372036854775807) := by omega
  have h2 : ¬ ((s.size : Int) + (t.size : Int) > 9223372036854775807) := by omega
  unfold execOp
  simp [ho, hx, hy, go_sem, binOp, Tryd.underlying9, Op.stringOp, h, h2, IntKind.max, IntKind.bits, IntKind.signed]
  try omega
theorem exec_drop1 {o : Oper} {ev : Operand → Value} {W : World} {x : Operand} {s : ByteArray} (ho : o.op = .slice 9 x (some (.const (.int .i64 1))) none none) (hx : ev x = .string s) (hc : ev (.const (.int .i64 1)) = .int .i64 1) (hl : 1 ≤ s.size) : (execOp ev o).run Tryd.prog W = .ok (.value (.string (s.extract 1 s.size))) W := by
  unfold execOp
  simp only [ho, Option.map_some, Option.map_none, hx, hc, Sem.run_bind, run_sliceAt_string (w := W) 9 _ _ _ _ Tryd.underlying9, run_slice_string_l (w := W) (s := s) 9 Tryd.underlying9 .i64 1 (by omega) (by omega), Result.andThen_ok]
  rfl
theorem byt_drop1 {s : ByteArray} (h : 1 ≤ s.size) : (s.extract 1 s.size).size = s.size - 1 ∧ ∀ i, i < s.size - 1 → byt (s.extract 1 s.size) i = byt s (1 + i) := by
  have hs : (s.extract 1 s.size).size = s.size - 1 := by rw [ByteArray.size_extract]; omega
  refine ⟨hs, fun i hi => ?_⟩
  rw [← byt_get s (1 + i) (by omega), ← byt_get (s.extract 1 s.size) i (by omega), ByteArray.getElem_extract]
/-- Where a letter stands; -1, if it does not. -/
def plZ (S : ByteArray) (c : Nat) : Int := if ixL S c < S.size then ((ixL S c : Nat) : Int) else -1
set_option maxHeartbeats 8000000 in
theorem place_any (S : ByteArray) (c : Nat) (hS : S.size ≤ 100) (hc : c < 256) (w : World) : Calls Tryd.prog 52 #[.string S, .int .u8 (c : Int)] w fun e w' => e = .returned (.int .i64 (plZ S c)) ∧ w = w' := by
  have F0 := Lib.hid (show ∀ i, i < 0 → byt S i ≠ c from fun i h => absurd h (by omega))
  go_enter Tryd.func52, Tryd.ntmps52
  go_wp2
  go_loop [5] (fun i => ∃ j : Nat, j ≤ S.size ∧ i = .int .i64 (j : Int) ∧ Hid (∀ i, i < j → byt S i ≠ c)) (fun i => S.size - (intOf i).toNat)
  case atStart => exact ⟨0, by omega, rfl, F0⟩
  case round =>
    obtain ⟨j, hj, rfl, FF⟩ := hrel
    by_cases hlt : j < S.size
    · obtain ⟨z, hz⟩ : ∃ z, z = byt S j := ⟨_, rfl⟩
      have G : ((S[j]'hlt).toNat : Int) = (z : Int) := by rw [hz, byt_get]
      by_cases he : z = c
      · have PZ := Lib.hid (show plZ S c = (j : Int) by unfold plZ ixL; rw [ixf_hit (by rw [← hz]; exact he) FF.out hlt, if_pos hlt])
        subst he
        clear hz FF
        go_wp2
        go_ret
        exact ⟨by rw [PZ.out]; rfl, rfl⟩
      · have b1 : ((z : Int) == (c : Int)) = false := by simpa using (show ¬ ((z : Int) = (c : Int)) by omega)
        have F1 := Lib.hid (show ∀ i, i < j + 1 → byt S i ≠ c from fun i hi => by
          rcases Nat.lt_or_ge i j with h | h
          · exact FF.out i h
          · obtain rfl : i = j := by omega
            rw [← hz]; exact he)
        clear hz he FF
        go_wp2
        go_round
        case rel => exact ⟨j + 1, by omega, by go_num, F1⟩
        case measure => simp [intOf]; omega
    · obtain rfl : j = S.size := by omega
      have PZ := Lib.hid (show plZ S c = -1 by unfold plZ ixL; rw [ixf_miss FF.out, if_neg (by omega)])
      clear FF
      go_wp2
      go_ret
      exact ⟨by rw [PZ.out]; rfl, rfl⟩
end Go.Proofs.YtghjgkgfpblijaaDoor
end
section
set_option linter.unusedSimpArgs false
set_option linter.unusedVariables false
set_option maxRecDepth 100000
namespace Go.Proofs.YtghjgkgfpblijaaDoor
open Go.ChangeShapes Go.WideShapes Go.RowKit Go.Lib Go.Sort

section
variable {ops : Array Oper} {rest : List Oper} {Q : Exit → Act → World → Prop} {op : Oper} {a : Act} {w : World}
/-- A slice of one byte, of the call's own. -/
theorem wpList_b1o (hw : Region.wanted op (yielded ops a.tmps) = true) (parts : Array (Nat × Operand)) (ho : op.op = .buildSlice 22 1 parts) (y0 : Value) {v : Nat} (hp : (parts.map fun (i, y) => (i, a.eval y)) = #[(0, y0)]) (he : y0 = .int .u8 (v : Int)) (hv : v < 256)
    (k : ∀ p g w', Hid (Own w.heap.size w' p g 1 1 (fun _ => v)) → Hid (Below w.heap.size w w') → wpList Tryd.prog ops Q rest (a.put op.dst (.slice p 1 1)) w') : wpList Tryd.prog ops Q (op :: rest) a w := by
  subst he
  refine wpList_known4 hw (.slice (some ⟨w.heap.size, 0, none⟩) 1 1) (w.alloc (.cells (fbs (fun _ => v) 1).toArray 5)) ?_ (k _ _ _ (Lib.hid (own_new w (fun _ => v) 1 (by unfold maxLen; omega) fun _ => hv)) (Lib.hid (below_new w _)))
  unfold execOp
  have h := run_bs1v Tryd.underlying22 infoB (.int .u8 (v : Int)) rfl w
  simp only [ho, hp, Sem.run_bind, h, Result.andThen_ok]
  rfl
end
theorem plZ_in {c : Nat} (h : ixL D58 c < 58) : plZ D58 c = ((ixL D58 c : Nat) : Int) := by unfold plZ; rw [D58_size, if_pos h]
theorem plZ_out {c : Nat} (h : ¬ ixL D58 c < 58) : plZ D58 c = -1 := by unfold plZ; rw [D58_size, if_neg h]
theorem ix_one : ixL D58 49 = 0 := D58_back 0 (by omega)
theorem ix_zero {c : Nat} (h : ixL D58 c = 0) : c = 49 := by
  have h1 : byt D58 (ixL D58 c) = c := ixf_get (by show ixL D58 c < D58.size; rw [h, D58_size]; omega)
  rw [h] at h1
  rw [← h1]; decide +kernel
theorem tl_zeros {f : Nat → Nat} {k : Nat} (h : ∀ i, i < k → f i = 0) : tl f k = List.replicate k 0 := by
  apply List.ext_getElem
  · rw [tl_length, List.length_replicate]
  · intro i h1 h2
    rw [tl_length] at h1
    have := lf_tl f h1
    rw [lf_get (by rw [tl_length]; exact h1)] at this
    rw [this, List.getElem_replicate, h i h1]
theorem tl_add (f : Nat → Nat) (k m : Nat) : tl f (k + m) = tl f k ++ tl (fun i => f (k + i)) m := by
  rw [← tl_cat]
  apply lf_inj (by rw [tl_length, tl_length])
  intro i hi
  rw [tl_length] at hi
  rw [lf_tl _ hi, lf_tl _ hi]
  unfold cat
  by_cases h : i < k
  · rw [if_pos h]
  · rw [if_neg h]
    show f i = f (k + (i - k))
    rw [show k + (i - k) = i by omega]
/-- Places of which the first k are noughts. -/
theorem reb_ones {F G : Nat → Nat} {n m k : Nat} (h1 : m + k = n) (h2 : ∀ i, i < m → G i = F (k + i)) (h3 : ∀ i, i < k → F i = 0) (h4 : m = 0 ∨ G 0 ≠ 0) :
    reb 58 256 (tl F n) = List.replicate k 0 ++ (dig 256 (acc 58 (tl G m))).reverse := by
  have e1 : lz (tl F n) = k := by
    refine lz_is (by omega) h3 ?_
    rcases h4 with h | h
    · exact .inl (by omega)
    · rcases Nat.eq_zero_or_pos m with q | q
      · exact .inl (by omega)
      · exact .inr fun e => h (by rw [h2 0 q]; exact e)
  have e3 : tl (fun i => F (k + i)) m = tl G m := by
    apply lf_inj (by rw [tl_length, tl_length])
    intro i hi
    rw [tl_length] at hi
    rw [lf_tl _ hi, lf_tl _ hi, h2 i hi]
  have e2 : tl F n = List.replicate k 0 ++ tl G m := by
    rw [← h1, Nat.add_comm, tl_add, tl_zeros h3, e3]
  unfold reb
  rw [e1, e2, acc_zeros]
theorem lf_rdig {c n i m : Nat} (hc : 2 ≤ c) (hm : m = (dig c n).length) (hi : i < m) : lf (dig c n).reverse i = n / c ^ (m - 1 - i) % c := by
  rw [hm] at hi ⊢
  rw [← lf_rev _ hi]
  unfold lf
  exact dig_getD hc _ _
theorem dig_one {r : Nat} (h : 0 < r) (h2 : r < 256) : dig 256 r = [r] := by
  rw [dig_pos (by omega) h, Nat.mod_eq_of_lt h2, Nat.div_eq_of_lt h2]
  rfl
set_option maxHeartbeats 32000000 in
theorem runb_any (w : World) (s : ByteArray) : Calls Tryd.prog 27 #[.string s] w (UnbEnd w s) := by
  by_cases h3 : 300 < s.size
  · have h3i : (300 : Int) < (s.size : Int) := by omega
    have H3 := Lib.hid h3
    clear h3
    go_enter Tryd.func27, Tryd.ntmps27
    go_wp2
    go_ret2
    exact ⟨Below.refl _ _, .inl ⟨H3.out, rfl⟩⟩
  · have hs : s.size ≤ 300 := by omega
    clear h3
    obtain ⟨IX, hIX⟩ : ∃ IX, IX = ixL D58 := ⟨_, rfl⟩
    obtain ⟨PF, hPF⟩ : ∃ PF, PF = plZ D58 := ⟨_, rfl⟩
    have PIN := Lib.hid (show ∀ c : Nat, IX c < 58 → PF c = ((IX c : Nat) : Int) from fun c h => by rw [hPF, hIX]; exact plZ_in (by rw [← hIX]; exact h))
    have POUT := Lib.hid (show ∀ c : Nat, ¬ IX c < 58 → PF c = -1 from fun c h => by rw [hPF]; exact plZ_out (by rw [← hIX]; exact h))
    have PCC := Lib.hid (show ∀ c : Nat, c < 256 → ∀ w0 : World, Calls Tryd.prog 52 #[.string D58, .int .u8 (c : Int)] w0 fun e w' => e = .returned (.int .i64 (PF c)) ∧ w0 = w' from fun c h w0 => by rw [hPF]; exact place_any D58 c (by rw [D58_size]; omega) h w0)
    have ALI := Lib.hid (show (∀ i, i < s.size → IX (byt s i) < 58) → AllIn D58 s from fun h i hi => by rw [D58_size, ← hIX]; exact h i hi)
    have NAI := Lib.hid (show ∀ i, i < s.size → ¬ IX (byt s i) < 58 → ¬ AllIn D58 s from fun i hi h k => h (by have := k i hi; rw [D58_size, ← hIX] at this; exact this))
    have PON := Lib.hid (show ∀ (k : Nat) (u : ByteArray), u.size + k = s.size → (∀ i, i < u.size → byt u i = byt s (k + i)) → (∀ i, i < k → byt s i = 49) → (u.size = 0 ∨ byt u 0 ≠ 49) → reb 58 256 (plL D58 s) = List.replicate k 0 ++ (dig 256 (acc 58 (tl (fun i => IX (byt u i)) u.size))).reverse from fun k u h1 h2 h3 h4 => by
      unfold plL
      rw [← hIX]
      refine reb_ones h1 (fun i hi => by rw [h2 i hi]) (fun i hi => by rw [h3 i hi, hIX]; exact ix_one) ?_
      rcases h4 with h | h
      · exact .inl h
      · exact .inr fun e => h (ix_zero (by rw [← hIX]; exact e)))
    clear hIX hPF
    have F0 := Lib.hid (show ∀ i, i < 0 → IX (byt s i) < 58 from fun i h => absurd h (by omega))
    go_enter Tryd.func27, Tryd.ntmps27
    go_wp2
    go_loopg [4] s.size (fun k i wr => ∃ j : Nat, j + k = s.size ∧ i = .int .i64 (j : Int) ∧ Hid (∀ i, i < j → IX (byt s i) < 58) ∧ wr = w)
    case atStart => exact ⟨0, by omega, rfl, F0, rfl⟩
    case round =>
      clear F0
      obtain ⟨j, hj, rfl, FF, rfl⟩ := hrel
      obtain ⟨kk, rfl⟩ : ∃ kk : Nat, kk = gk := ⟨_, rfl⟩
      by_cases hlt : j < s.size
      · obtain ⟨z, hz⟩ : ∃ z, z = byt s j := ⟨_, rfl⟩
        have Gz : ((s[j]'hlt).toNat : Int) = (z : Int) := by rw [hz, byt_get]
        have zb : z < 256 := by rw [hz]; exact byt_lt _ _
        have PC := Lib.hid (PCC.out z zb)
        by_cases hi : IX z < 58
        · obtain ⟨y, hy⟩ : ∃ y, y = IX z := ⟨_, rfl⟩
          have PZ := Lib.hid (show PF z = (y : Int) by rw [hy]; exact PIN.out z hi)
          have F1 := Lib.hid (show ∀ i, i < j + 1 → IX (byt s i) < 58 from fun i h => by
            rcases Nat.lt_or_ge i j with q | q
            · exact FF.out i q
            · obtain rfl : i = j := by omega
              rw [← hz]; exact hi)
          clear hz hy hi FF
          go_wp2_with (go_at_call 52; refine (PC.out _).mono ?_; rintro e w2 ⟨rfl, rfl⟩; rw [PZ.out])
          go_roundg (s.size - (j + 1))
          case measure => omega
          case rel => exact ⟨j + 1, by omega, by go_num, F1, rfl⟩
        · have PZ := Lib.hid (show PF z = -1 from POUT.out z hi)
          have NA := Lib.hid (show ¬ AllIn D58 s from NAI.out j hlt (by rw [← hz]; exact hi))
          clear hz hi FF
          go_wp2_with (go_at_call 52; refine (PC.out _).mono ?_; rintro e w2 ⟨rfl, rfl⟩; rw [PZ.out])
          go_ret2
          exact ⟨Below.refl _ _, .inr (.inl ⟨hs, NA.out, rfl⟩)⟩
      · obtain rfl : j = s.size := by omega
        have AL := Lib.hid FF.out
        have AL0 := Lib.hid (ALI.out FF.out)
        have U0 := Lib.hid (show s.size + 0 = s.size ∧ (∀ i, i < s.size → byt s i = byt s (0 + i)) ∧ ∀ i, i < 0 → byt s i = 49 from ⟨rfl, fun i _ => by rw [Nat.zero_add], fun i h => absurd h (by omega)⟩)
        have N0 := Lib.hid (own_nothing wr wr.heap.size (fun _ => 0) (fun _ => by omega) (Nat.le_refl _))
        have B0 := Lib.hid (Below.refl wr.heap.size wr)
        obtain ⟨w, rfl⟩ : ∃ w : World, w = wr := ⟨_, rfl⟩
        clear FF
        go_wp2
        go_loopg [0, 5] s.size (fun m s0 s5 wr => ∃ (k c g : Nat) (p : Option Addr) (u : ByteArray), k + m = s.size ∧ s0 = .string u ∧ s5 = .slice p k c ∧ Hid (u.size + k = s.size ∧ (∀ i, i < u.size → byt u i = byt s (k + i)) ∧ ∀ i, i < k → byt s i = 49) ∧ Hid (Own w.heap.size wr p g k c (fun _ => 0)) ∧ Hid (Below w.heap.size w wr))
        case atStart => exact ⟨0, 0, 0, none, s, by omega, rfl, rfl, U0, N0, B0⟩
        case round =>
          clear U0 N0 B0
          obtain ⟨k, c, g, p, u, hk, rfl, rfl, UU, N5, BB⟩ := hrel
          obtain ⟨k2, rfl⟩ : ∃ kk : Nat, kk = gk := ⟨_, rfl⟩
          by_cases hu : 0 < u.size
          · obtain ⟨c0, hc0⟩ : ∃ c0, c0 = byt u 0 := ⟨_, rfl⟩
            have G0 : ((u[0]'hu).toNat : Int) = (c0 : Int) := by rw [hc0, byt_get]
            have h0i : (0 : Int) < (u.size : Int) := by omega
            have uk : u.size + k = s.size := UU.out.1
            by_cases h49 : c0 = 49
            · have DR := Lib.hid (byt_drop1 (s := u) hu)
              have U2 := Lib.hid (show (u.extract 1 u.size).size + (k + 1) = s.size ∧ (∀ i, i < (u.extract 1 u.size).size → byt (u.extract 1 u.size) i = byt s ((k + 1) + i)) ∧ ∀ i, i < k + 1 → byt s i = 49 from ⟨by rw [DR.out.1]; omega, fun i hi => by
                rw [DR.out.1] at hi
                rw [DR.out.2 i hi, UU.out.2.1 (1 + i) (by omega)]
                congr 1; omega, fun i hi => by
                rcases Nat.lt_or_ge i k with q | q
                · exact UU.out.2.2 i q
                · obtain rfl : i = k := by omega
                  have := UU.out.2.1 0 hu
                  rw [Nat.add_zero, ← hc0] at this
                  omega⟩)
              have HU := Lib.hid hu
              obtain rfl := h49
              clear hc0 UU DR
              go_wp2_with (first
                | ((with_reducible refine wpList_at 33 rfl ?_); refine wpList_b1 rfl _ rfl (.int .u8 0) (v := 0) (by kernel_rfl) rfl (by omega) ?_; intro b7 w7 R7 hb7; replace N5 := Lib.hid (N5.out.below hb7.out); replace BB := Lib.hid (BB.out.trans (hb7.out.mono BB.out.size)); clear hb7; try simp only [Act.put, List.setIfInBounds_toArray, List.set_cons_zero, List.set_cons_succ])
                | ((with_reducible refine wpList_at 34 rfl ?_); refine wpList_app (.inl rfl) (.tmp 32) (.tmp 33) rfl rfl N5 rfl R7 (by omega) ?_; clear N5 R7; intro p8 g8 c8 w8 N5 hb8; replace BB := Lib.hid (BB.out.trans hb8.out); clear hb8; try simp only [Act.put, List.setIfInBounds_toArray, List.set_cons_zero, List.set_cons_succ])
                | ((with_reducible refine wpList_at 36 rfl ?_); refine wpList_known4 rfl (.string (u.extract 1 u.size)) _ (exec_drop1 rfl rfl rfl HU.out) ?_; try simp only [Act.put, List.setIfInBounds_toArray, List.set_cons_zero, List.set_cons_succ]))
              have N8 := Lib.hid (N5.out.to (y := fun _ => 0) (fun i _ => by unfold cat; split <;> rfl) (fun _ => by omega))
              clear N5
              go_roundg (s.size - (k + 1))
              case measure => omega
              case rel => exact ⟨k + 1, c8, g8, p8, _, by omega, rfl, rfl, U2, N8, BB⟩
            · have EX := Lib.hid (show u.size = 0 ∨ byt u 0 ≠ 49 from .inr (by rw [← hc0]; exact h49))
              have b1 : ((c0 : Int) == 49) = false := by simpa using (show ¬ ((c0 : Int) = 49) by omega)
              clear hc0 h49
              have AU := Lib.hid (show ∀ i, i < u.size → IX (byt u i) < 58 from fun i hi => by rw [UU.out.2.1 i hi]; exact AL.out _ (by have := UU.out.1; omega))
              obtain ⟨wo, rfl⟩ : ∃ wo : World, wo = wr := ⟨_, rfl⟩
              have M0 := Lib.hid (own_nothing wo wo.heap.size (lf []) (lf_lt isB_nil) (Nat.le_refl _))
              have C0 := Lib.hid (Below.refl wo.heap.size wo)
              have us : u.size ≤ 300 := by have := UU.out.1; omega
              go_wp2
              go_loopg [6, 7] u.size (fun k s6 s7 wr => ∃ (j m c1 g1 : Nat) (p1 : Option Addr) (ds : List Nat), j + k = u.size ∧ s7 = .int .i64 (j : Int) ∧ s6 = .slice p1 m c1 ∧ Hid (m = ds.length ∧ ds = (dig 256 (acc 58 (tl (fun i => IX (byt u i)) j))).reverse) ∧ Hid (Own wo.heap.size wr p1 g1 m c1 (lf ds)) ∧ Hid (Below wo.heap.size wo wr))
              case atStart => exact ⟨0, 0, 0, 0, none, [], by omega, rfl, rfl, Lib.hid ⟨rfl, rfl⟩, M0, C0⟩
              case round =>
                clear M0 C0
                obtain ⟨j, m, c1, g1, p1, ds, hj, rfl, rfl, D, N6, CC⟩ := hrel
                obtain ⟨k3, rfl⟩ : ∃ kk : Nat, kk = gk := ⟨_, rfl⟩
                have mb : m ≤ 8 * j := by
                  rw [D.out.1, D.out.2, List.length_reverse]
                  have := dig_bound (b := 58) (c := 256) (by omega) (by omega) (by decide) (tl_mem (x := fun i => IX (byt u i)) (n := j) fun i hi => AU.out i (by omega))
                  rwa [tl_length] at this
                by_cases hlt : j < u.size
                · obtain ⟨z, hz⟩ : ∃ z, z = byt u j := ⟨_, rfl⟩
                  have Gz : ((u[j]'hlt).toNat : Int) = (z : Int) := by rw [hz, byt_get]
                  have zb : z < 256 := by rw [hz]; exact byt_lt _ _
                  obtain ⟨y, hy⟩ : ∃ y, y = IX z := ⟨_, rfl⟩
                  have yb : y < 58 := by rw [hy, hz]; exact AU.out j hlt
                  have PZ := Lib.hid (show PF z = (y : Int) by rw [hy]; exact PIN.out z (by rw [← hy]; exact yb))
                  have PC := Lib.hid (PCC.out z zb)
                  obtain ⟨V, hV⟩ : ∃ V, V = acc 58 (tl (fun i => IX (byt u i)) j) := ⟨_, rfl⟩
                  rw [← hV] at D
                  have HN := Lib.hid (show acc 58 (tl (fun i => IX (byt u i)) (j + 1)) = V * 58 + y by rw [tl_succ, acc_snoc, ← hV, hy, hz])
                  have ML := Lib.hid (show m = (dig 256 V).length by rw [D.out.1, D.out.2, List.length_reverse])
                  have MO := Lib.hid (show tl (fun i => (V * 58 + y) / 256 ^ i % 256) m ++ dig 256 ((V * 58 + y) / 256 ^ m) = dig 256 (V * 58 + y) by rw [ML.out]; exact dig_more (by omega) (by omega))
                  have ZE := Lib.hid (show V / 256 ^ m = 0 by rw [ML.out]; exact dig_out (by omega))
                  have DG := Lib.hid (show ∀ i, i < m → lf ds i = V / 256 ^ (m - 1 - i) % 256 from fun i hi => by rw [D.out.2]; exact lf_rdig (by omega) ML.out hi)
                  have S0 := Lib.hid (show y < 58 ∧ (V * 58 + y) / 256 ^ 0 = y + 58 * (V / 256 ^ 0) from ⟨yb, by rw [Nat.pow_zero, Nat.div_one, Nat.div_one, Nat.mul_comm]; omega⟩)
                  have N1 := Lib.hid (N6.out.to (y := fun i => if m - 1 - i < 0 then (V * 58 + y) / 256 ^ (m - 1 - i) % 256 else lf ds i) (fun i _ => by rw [if_neg (by omega)]) (fun i => by split; exact absurd (by assumption) (by omega); exact N6.out.byte i))
                  have HJ := Lib.hid hlt
                  have NB := Lib.hid N6.out.byte
                  clear hz hy hV N6 D
                  go_wp2_with (go_at_call 52; refine (PC.out _).mono ?_; rintro e w2 ⟨rfl, rfl⟩; rw [PZ.out])
                  clear PZ PC
                  go_loopg [8, 9] m (fun k s8 s9 wr => ∃ q r : Nat, q + k = m ∧ s9 = .int .i64 ((m : Int) - 1 - (q : Int)) ∧ s8 = .int .i64 (r : Int) ∧ Hid (r < 58 ∧ (V * 58 + y) / 256 ^ q = r + 58 * (V / 256 ^ q)) ∧ Hid (Own wo.heap.size wr p1 g1 m c1 (fun i => if m - 1 - i < q then (V * 58 + y) / 256 ^ (m - 1 - i) % 256 else lf ds i)) ∧ Hid (Below wo.heap.size wo wr))
                  case atStart => exact ⟨0, y, by omega, congrArg (Value.int .i64) (by omega), rfl, S0, N1, CC⟩
                  case round =>
                    clear S0 N1 CC
                    obtain ⟨q, r, hq, rfl, rfl, S, N, CC⟩ := hrel
                    obtain ⟨k4, rfl⟩ : ∃ kk : Nat, kk = gk := ⟨_, rfl⟩
                    have rb := S.out.1
                    by_cases hlq : q < m
                    · obtain ⟨tt, ht⟩ : ∃ tt, tt = m - 1 - q := ⟨_, rfl⟩
                      have et : (m : Int) - 1 - (q : Int) = (tt : Int) := by omega
                      rw [et]
                      have htm : tt < m := by omega
                      have HT := Lib.hid (And.intro ht et)
                      obtain rfl := N.out.row.head (by omega)
                      obtain ⟨x, hx⟩ : ∃ x, x = V / 256 ^ q % 256 := ⟨_, rfl⟩
                      have xb : x < 256 := by rw [hx]; exact Nat.mod_lt _ (by omega)
                      have C2 := Lib.hid (show wr.cell? ⟨g1, tt, none⟩ = some (.int .u8 (x : Int)) by have := N.out.row.cell tt htm; rwa [if_neg (by omega), DG.out tt htm, show m - 1 - tt = q by omega, ← hx, Nat.zero_add] at this)
                      have ST := Lib.hid (step_div (c := 256) (L := q) (by omega) S.out.2 hx)
                      have CB := Lib.hid (carry_lt (c := 256) (b := 58) rb xb)
                      have HLQ := Lib.hid htm
                      clear hx S et ht
                      go_wp2_with (first
                        | ((with_reducible refine wpList_at 57 rfl ?_); refine wpList_ix (k := 1) (j := tt) Tryd.underlying22 (by kernel_rfl) (.tmp 55) (.tmp 56) rfl rfl rfl rfl HLQ.out rfl ?_; rw [Nat.mul_one, Nat.zero_add]; try simp only [Act.put, List.setIfInBounds_toArray, List.set_cons_zero, List.set_cons_succ])
                        | ((with_reducible refine wpList_at 58 rfl ?_); refine wpList_ld1 5 (.tmp 57) rfl rfl rfl Tryd.underlying5 rfl C2.out ?_; try simp only [Act.put, List.setIfInBounds_toArray, List.set_cons_zero, List.set_cons_succ])
                        | ((with_reducible refine wpList_at 67 rfl ?_); refine wpList_ix (k := 1) (j := tt) Tryd.underlying22 (by kernel_rfl) (.tmp 62) (.tmp 63) rfl rfl rfl rfl HLQ.out rfl ?_; rw [Nat.mul_one, Nat.zero_add]; try simp only [Act.put, List.setIfInBounds_toArray, List.set_cons_zero, List.set_cons_succ])
                        | ((refine wpList_atn rfl ?_); refine wpList_bput0 rfl (.tmp 67) (.tmp 66) rfl N rfl (v := (r + x * 58) % 256) (congrArg (Value.int .u8) (show ((r : Int) + 58 * (x : Int)) % 256 = (((r + x * 58) % 256 : Nat) : Int) by omega)) HLQ.out (by omega) ?_; clear N; intro w8 N hb8; replace CC := Lib.hid (CC.out.trans hb8.out)))
                      have N2 := Lib.hid (N.out.to (y := fun i => if m - 1 - i < q + 1 then (V * 58 + y) / 256 ^ (m - 1 - i) % 256 else lf ds i) (fun i him => by
                        have h1 := HT.out.1
                        rcases Nat.lt_trichotomy i tt with h | h | h
                        · rw [if_neg (by omega), if_neg (by omega), if_neg (by omega)]
                        · subst h; rw [if_pos rfl, if_pos (by omega), show m - 1 - i = q by omega]; exact ST.out.2.symm
                        · rw [if_neg (by omega), if_pos (by omega), if_pos (by omega)]) (fun i => by
                        split
                        · have := Nat.mod_lt ((V * 58 + y) / 256 ^ (m - 1 - i)) (show 0 < 256 by omega); omega
                        · exact NB.out i))
                      go_roundg (m - (q + 1))
                      case measure => omega
                      case rel => exact ⟨q + 1, (r + x * 58) / 256, by omega, congrArg (Value.int .i64) (by have := HT.out.2; omega), congrArg (Value.int .i64) (by omega), Lib.hid ⟨CB.out, ST.out.1⟩, N2, CC⟩
                    · obtain rfl : q = m := by omega
                      have RM := Lib.hid (show r = (V * 58 + y) / 256 ^ q by rw [S.out.2, ZE.out]; omega)
                      have bneg : ((q : Int) - 1 - (q : Int)) = -1 := by omega
                      rw [bneg]
                      clear bneg
                      have N3 := Lib.hid (N.out.to (y := lf (tl (fun i => (V * 58 + y) / 256 ^ i % 256) q).reverse) (fun i hi => by
                        rw [if_pos (by omega)]
                        have h1 := lf_rev (tl (fun i => (V * 58 + y) / 256 ^ i % 256) q) (i := i) (by rw [tl_length]; exact hi)
                        rw [tl_length] at h1
                        rw [← h1, lf_tl _ (by omega)]) (lf_lt fun v hv => by
                        obtain ⟨i, _, rfl⟩ := List.mem_map.1 (List.mem_reverse.1 hv)
                        have := Nat.mod_lt ((V * 58 + y) / 256 ^ i) (show 0 < 256 by omega); omega))
                      have MO2 := Lib.hid (show (dig 256 (V * 58 + y)).reverse = (dig 256 r).reverse ++ (tl (fun i => (V * 58 + y) / 256 ^ i % 256) q).reverse by rw [RM.out, ← MO.out, List.reverse_append])
                      obtain ⟨es, hes⟩ : ∃ es, es = (tl (fun i => (V * 58 + y) / 256 ^ i % 256) q).reverse := ⟨_, rfl⟩
                      have LE := Lib.hid (show q = es.length by rw [hes, List.length_reverse, tl_length])
                      rw [← hes] at N3 MO2
                      clear N S RM MO ZE DG hes NB
                      by_cases hr : 0 < r
                      · have RN := Lib.hid N3.out.row
                        go_wp2_with (first
                          | ((with_reducible refine wpList_at 74 rfl ?_); refine wpList_b1o rfl _ rfl (.int .u8 (r : Int)) (v := r) (by kernel_rfl) rfl (by omega) ?_; intro p7 g7 w7 N7 hb7; have B7 := Lib.hid CC.out.size; replace RN := Lib.hid (RN.out.below hb7.out); replace CC := Lib.hid (CC.out.trans (hb7.out.mono CC.out.size)); clear hb7; try simp only [Act.put, List.setIfInBounds_toArray, List.set_cons_zero, List.set_cons_succ])
                          | ((with_reducible refine wpList_at 76 rfl ?_); refine wpList_app (.inl rfl) (.tmp 74) (.tmp 75) rfl rfl (Lib.hid (N7.out.mono B7.out)) rfl RN (by omega) ?_; clear N7 RN; intro p8 g8 c8 w8 N hb8; replace CC := Lib.hid (CC.out.trans hb8.out); clear hb8; try simp only [Act.put, List.setIfInBounds_toArray, List.set_cons_zero, List.set_cons_succ]))
                        have N9 := Lib.hid (N.out.to (y := lf (r :: es)) (fun i hi => by
                          unfold cat
                          cases i with
                          | zero => rfl
                          | succ i => rw [if_neg (by omega)]; rfl) (lf_lt fun v hv => by
                          rcases List.mem_cons.1 hv with rfl | hv
                          · omega
                          · exact isB_own (by rw [← LE.out]; exact N3.out) v hv))
                        have D9 := Lib.hid (show 1 + q = (r :: es).length ∧ r :: es = (dig 256 (acc 58 (tl (fun i => IX (byt u i)) (j + 1)))).reverse from ⟨by rw [List.length_cons, ← LE.out]; omega, by rw [HN.out, MO2.out, dig_one hr (by omega)]; rfl⟩)
                        clear N N3 MO2
                        go_roundg (u.size - (j + 1))
                        case measure => omega
                        case rel => exact ⟨j + 1, 1 + q, c8, g8, p8, _, by omega, by go_num, rfl, D9, N9, CC⟩
                      · obtain rfl : r = 0 := by omega
                        have D9 := Lib.hid (show q = es.length ∧ es = (dig 256 (acc 58 (tl (fun i => IX (byt u i)) (j + 1)))).reverse from ⟨LE.out, by rw [HN.out, MO2.out]; rfl⟩)
                        clear MO2
                        go_wp2
                        go_roundg (u.size - (j + 1))
                        case measure => omega
                        case rel => exact ⟨j + 1, q, c1, g1, p1, es, by omega, by go_num, rfl, D9, N3, CC⟩
                · obtain rfl : j = u.size := by omega
                  have N5b := Lib.hid (N5.out.below CC.out)
                  have R6 := Lib.hid N6.out.row
                  have kb : k ≤ 300 := by have := UU.out.1; omega
                  replace BB := Lib.hid (BB.out.trans (CC.out.mono BB.out.size))
                  go_wp2_with (first
                    | ((with_reducible refine wpList_at 79 rfl ?_); refine wpList_app (.inl rfl) (.tmp 77) (.tmp 78) rfl rfl N5b rfl R6 (by omega) ?_; intro p8 g8 c8 w8 N hb8; replace BB := Lib.hid (BB.out.trans hb8.out); clear hb8; try simp only [Act.put, List.setIfInBounds_toArray, List.set_cons_zero, List.set_cons_succ]))
                  go_ret2
                  have e1 := PON.out k u UU.out.1 UU.out.2.1 UU.out.2.2 EX.out
                  rw [← D.out.2] at e1
                  have e2 : (List.replicate k 0 ++ ds).length = k + m := by rw [List.length_append, List.length_replicate, ← D.out.1]
                  refine ⟨BB.out, .inr (.inr ⟨hs, AL0.out, List.replicate k 0 ++ ds, p8, g8, c8, e1.symm, by rw [e2]; rfl, ?_⟩)⟩
                  rw [e2]
                  refine N.out.to (fun i hi => ?_) (lf_lt fun v hv => ?_)
                  · rw [← lf_cat, List.length_replicate]
                    unfold cat
                    split
                    · unfold lf
                      rw [List.getD_eq_getElem?_getD, List.getElem?_replicate, if_pos (by assumption)]
                      rfl
                    · rfl
                  · rcases List.mem_append.1 hv with h | h
                    · have := (List.mem_replicate.1 h).2; omega
                    · exact isB_own (by rw [← D.out.1]; exact N6.out) v h
          · have EX := Lib.hid (show u.size = 0 ∨ byt u 0 ≠ 49 from .inl (by omega))
            have b1 : decide ((0 : Int) < (u.size : Int)) = false := decide_eq_false (by omega)
            have AU := Lib.hid (show ∀ i, i < u.size → IX (byt u i) < 58 from fun i hi => by rw [UU.out.2.1 i hi]; exact AL.out _ (by have := UU.out.1; omega))
            obtain ⟨wo, rfl⟩ : ∃ wo : World, wo = wr := ⟨_, rfl⟩
            have M0 := Lib.hid (own_nothing wo wo.heap.size (lf []) (lf_lt isB_nil) (Nat.le_refl _))
            have C0 := Lib.hid (Below.refl wo.heap.size wo)
            have us : u.size ≤ 300 := by have := UU.out.1; omega
            go_wp2
            go_loopg [6, 7] u.size (fun k s6 s7 wr => ∃ (j m c1 g1 : Nat) (p1 : Option Addr) (ds : List Nat), j + k = u.size ∧ s7 = .int .i64 (j : Int) ∧ s6 = .slice p1 m c1 ∧ Hid (m = ds.length ∧ ds = (dig 256 (acc 58 (tl (fun i => IX (byt u i)) j))).reverse) ∧ Hid (Own wo.heap.size wr p1 g1 m c1 (lf ds)) ∧ Hid (Below wo.heap.size wo wr))
            case atStart => exact ⟨0, 0, 0, 0, none, [], by omega, rfl, rfl, Lib.hid ⟨rfl, rfl⟩, M0, C0⟩
            case round =>
              clear M0 C0
              obtain ⟨j, m, c1, g1, p1, ds, hj, rfl, rfl, D, N6, CC⟩ := hrel
              obtain ⟨k3, rfl⟩ : ∃ kk : Nat, kk = gk := ⟨_, rfl⟩
              have mb : m ≤ 8 * j := by
                rw [D.out.1, D.out.2, List.length_reverse]
                have := dig_bound (b := 58) (c := 256) (by omega) (by omega) (by decide) (tl_mem (x := fun i => IX (byt u i)) (n := j) fun i hi => AU.out i (by omega))
                rwa [tl_length] at this
              by_cases hlt : j < u.size
              · obtain ⟨z, hz⟩ : ∃ z, z = byt u j := ⟨_, rfl⟩
                have Gz : ((u[j]'hlt).toNat : Int) = (z : Int) := by rw [hz, byt_get]
                have zb : z < 256 := by rw [hz]; exact byt_lt _ _
                obtain ⟨y, hy⟩ : ∃ y, y = IX z := ⟨_, rfl⟩
                have yb : y < 58 := by rw [hy, hz]; exact AU.out j hlt
                have PZ := Lib.hid (show PF z = (y : Int) by rw [hy]; exact PIN.out z (by rw [← hy]; exact yb))
                have PC := Lib.hid (PCC.out z zb)
                obtain ⟨V, hV⟩ : ∃ V, V = acc 58 (tl (fun i => IX (byt u i)) j) := ⟨_, rfl⟩
                rw [← hV] at D
                have HN := Lib.hid (show acc 58 (tl (fun i => IX (byt u i)) (j + 1)) = V * 58 + y by rw [tl_succ, acc_snoc, ← hV, hy, hz])
                have ML := Lib.hid (show m = (dig 256 V).length by rw [D.out.1, D.out.2, List.length_reverse])
                have MO := Lib.hid (show tl (fun i => (V * 58 + y) / 256 ^ i % 256) m ++ dig 256 ((V * 58 + y) / 256 ^ m) = dig 256 (V * 58 + y) by rw [ML.out]; exact dig_more (by omega) (by omega))
                have ZE := Lib.hid (show V / 256 ^ m = 0 by rw [ML.out]; exact dig_out (by omega))
                have DG := Lib.hid (show ∀ i, i < m → lf ds i = V / 256 ^ (m - 1 - i) % 256 from fun i hi => by rw [D.out.2]; exact lf_rdig (by omega) ML.out hi)
                have S0 := Lib.hid (show y < 58 ∧ (V * 58 + y) / 256 ^ 0 = y + 58 * (V / 256 ^ 0) from ⟨yb, by rw [Nat.pow_zero, Nat.div_one, Nat.div_one, Nat.mul_comm]; omega⟩)
                have N1 := Lib.hid (N6.out.to (y := fun i => if m - 1 - i < 0 then (V * 58 + y) / 256 ^ (m - 1 - i) % 256 else lf ds i) (fun i _ => by rw [if_neg (by omega)]) (fun i => by split; exact absurd (by assumption) (by omega); exact N6.out.byte i))
                have HJ := Lib.hid hlt
                have NB := Lib.hid N6.out.byte
                clear hz hy hV N6 D
                go_wp2_with (go_at_call 52; refine (PC.out _).mono ?_; rintro e w2 ⟨rfl, rfl⟩; rw [PZ.out])
                clear PZ PC
                go_loopg [8, 9] m (fun k s8 s9 wr => ∃ q r : Nat, q + k = m ∧ s9 = .int .i64 ((m : Int) - 1 - (q : Int)) ∧ s8 = .int .i64 (r : Int) ∧ Hid (r < 58 ∧ (V * 58 + y) / 256 ^ q = r + 58 * (V / 256 ^ q)) ∧ Hid (Own wo.heap.size wr p1 g1 m c1 (fun i => if m - 1 - i < q then (V * 58 + y) / 256 ^ (m - 1 - i) % 256 else lf ds i)) ∧ Hid (Below wo.heap.size wo wr))
                case atStart => exact ⟨0, y, by omega, congrArg (Value.int .i64) (by omega), rfl, S0, N1, CC⟩
                case round =>
                  clear S0 N1 CC
                  obtain ⟨q, r, hq, rfl, rfl, S, N, CC⟩ := hrel
                  obtain ⟨k4, rfl⟩ : ∃ kk : Nat, kk = gk := ⟨_, rfl⟩
                  have rb := S.out.1
                  by_cases hlq : q < m
                  · obtain ⟨tt, ht⟩ : ∃ tt, tt = m - 1 - q := ⟨_, rfl⟩
                    have et : (m : Int) - 1 - (q : Int) = (tt : Int) := by omega
                    rw [et]
                    have htm : tt < m := by omega
                    have HT := Lib.hid (And.intro ht et)
                    obtain rfl := N.out.row.head (by omega)
                    obtain ⟨x, hx⟩ : ∃ x, x = V / 256 ^ q % 256 := ⟨_, rfl⟩
                    have xb : x < 256 := by rw [hx]; exact Nat.mod_lt _ (by omega)
                    have C2 := Lib.hid (show wr.cell? ⟨g1, tt, none⟩ = some (.int .u8 (x : Int)) by have := N.out.row.cell tt htm; rwa [if_neg (by omega), DG.out tt htm, show m - 1 - tt = q by omega, ← hx, Nat.zero_add] at this)
                    have ST := Lib.hid (step_div (c := 256) (L := q) (by omega) S.out.2 hx)
                    have CB := Lib.hid (carry_lt (c := 256) (b := 58) rb xb)
                    have HLQ := Lib.hid htm
                    clear hx S et ht
                    go_wp2_with (first
                      | ((with_reducible refine wpList_at 57 rfl ?_); refine wpList_ix (k := 1) (j := tt) Tryd.underlying22 (by kernel_rfl) (.tmp 55) (.tmp 56) rfl rfl rfl rfl HLQ.out rfl ?_; rw [Nat.mul_one, Nat.zero_add]; try simp only [Act.put, List.setIfInBounds_toArray, List.set_cons_zero, List.set_cons_succ])
                      | ((with_reducible refine wpList_at 58 rfl ?_); refine wpList_ld1 5 (.tmp 57) rfl rfl rfl Tryd.underlying5 rfl C2.out ?_; try simp only [Act.put, List.setIfInBounds_toArray, List.set_cons_zero, List.set_cons_succ])
                      | ((with_reducible refine wpList_at 67 rfl ?_); refine wpList_ix (k := 1) (j := tt) Tryd.underlying22 (by kernel_rfl) (.tmp 62) (.tmp 63) rfl rfl rfl rfl HLQ.out rfl ?_; rw [Nat.mul_one, Nat.zero_add]; try simp only [Act.put, List.setIfInBounds_toArray, List.set_cons_zero, List.set_cons_succ])
                      | ((refine wpList_atn rfl ?_); refine wpList_bput0 rfl (.tmp 67) (.tmp 66) rfl N rfl (v := (r + x * 58) % 256) (congrArg (Value.int .u8) (show ((r : Int) + 58 * (x : Int)) % 256 = (((r + x * 58) % 256 : Nat) : Int) by omega)) HLQ.out (by omega) ?_; clear N; intro w8 N hb8; replace CC := Lib.hid (CC.out.trans hb8.out)))
                    have N2 := Lib.hid (N.out.to (y := fun i => if m - 1 - i < q + 1 then (V * 58 + y) / 256 ^ (m - 1 - i) % 256 else lf ds i) (fun i him => by
                      have h1 := HT.out.1
                      rcases Nat.lt_trichotomy i tt with h | h | h
                      · rw [if_neg (by omega), if_neg (by omega), if_neg (by omega)]
                      · subst h; rw [if_pos rfl, if_pos (by omega), show m - 1 - i = q by omega]; exact ST.out.2.symm
                      · rw [if_neg (by omega), if_pos (by omega), if_pos (by omega)]) (fun i => by
                      split
                      · have := Nat.mod_lt ((V * 58 + y) / 256 ^ (m - 1 - i)) (show 0 < 256 by omega); omega
                      · exact NB.out i))
                    go_roundg (m - (q + 1))
                    case measure => omega
                    case rel => exact ⟨q + 1, (r + x * 58) / 256, by omega, congrArg (Value.int .i64) (by have := HT.out.2; omega), congrArg (Value.int .i64) (by omega), Lib.hid ⟨CB.out, ST.out.1⟩, N2, CC⟩
                  · obtain rfl : q = m := by omega
                    have RM := Lib.hid (show r = (V * 58 + y) / 256 ^ q by rw [S.out.2, ZE.out]; omega)
                    have bneg : ((q : Int) - 1 - (q : Int)) = -1 := by omega
                    rw [bneg]
                    clear bneg
                    have N3 := Lib.hid (N.out.to (y := lf (tl (fun i => (V * 58 + y) / 256 ^ i % 256) q).reverse) (fun i hi => by
                      rw [if_pos (by omega)]
                      have h1 := lf_rev (tl (fun i => (V * 58 + y) / 256 ^ i % 256) q) (i := i) (by rw [tl_length]; exact hi)
                      rw [tl_length] at h1
                      rw [← h1, lf_tl _ (by omega)]) (lf_lt fun v hv => by
                      obtain ⟨i, _, rfl⟩ := List.mem_map.1 (List.mem_reverse.1 hv)
                      have := Nat.mod_lt ((V * 58 + y) / 256 ^ i) (show 0 < 256 by omega); omega))
                    have MO2 := Lib.hid (show (dig 256 (V * 58 + y)).reverse = (dig 256 r).reverse ++ (tl (fun i => (V * 58 + y) / 256 ^ i % 256) q).reverse by rw [RM.out, ← MO.out, List.reverse_append])
                    obtain ⟨es, hes⟩ : ∃ es, es = (tl (fun i => (V * 58 + y) / 256 ^ i % 256) q).reverse := ⟨_, rfl⟩
                    have LE := Lib.hid (show q = es.length by rw [hes, List.length_reverse, tl_length])
                    rw [← hes] at N3 MO2
                    clear N S RM MO ZE DG hes NB
                    by_cases hr : 0 < r
                    · have RN := Lib.hid N3.out.row
                      go_wp2_with (first
                        | ((with_reducible refine wpList_at 74 rfl ?_); refine wpList_b1o rfl _ rfl (.int .u8 (r : Int)) (v := r) (by kernel_rfl) rfl (by omega) ?_; intro p7 g7 w7 N7 hb7; have B7 := Lib.hid CC.out.size; replace RN := Lib.hid (RN.out.below hb7.out); replace CC := Lib.hid (CC.out.trans (hb7.out.mono CC.out.size)); clear hb7; try simp only [Act.put, List.setIfInBounds_toArray, List.set_cons_zero, List.set_cons_succ])
                        | ((with_reducible refine wpList_at 76 rfl ?_); refine wpList_app (.inl rfl) (.tmp 74) (.tmp 75) rfl rfl (Lib.hid (N7.out.mono B7.out)) rfl RN (by omega) ?_; clear N7 RN; intro p8 g8 c8 w8 N hb8; replace CC := Lib.hid (CC.out.trans hb8.out); clear hb8; try simp only [Act.put, List.setIfInBounds_toArray, List.set_cons_zero, List.set_cons_succ]))
                      have N9 := Lib.hid (N.out.to (y := lf (r :: es)) (fun i hi => by
                        unfold cat
                        cases i with
                        | zero => rfl
                        | succ i => rw [if_neg (by omega)]; rfl) (lf_lt fun v hv => by
                        rcases List.mem_cons.1 hv with rfl | hv
                        · omega
                        · exact isB_own (by rw [← LE.out]; exact N3.out) v hv))
                      have D9 := Lib.hid (show 1 + q = (r :: es).length ∧ r :: es = (dig 256 (acc 58 (tl (fun i => IX (byt u i)) (j + 1)))).reverse from ⟨by rw [List.length_cons, ← LE.out]; omega, by rw [HN.out, MO2.out, dig_one hr (by omega)]; rfl⟩)
                      clear N N3 MO2
                      go_roundg (u.size - (j + 1))
                      case measure => omega
                      case rel => exact ⟨j + 1, 1 + q, c8, g8, p8, _, by omega, by go_num, rfl, D9, N9, CC⟩
                    · obtain rfl : r = 0 := by omega
                      have D9 := Lib.hid (show q = es.length ∧ es = (dig 256 (acc 58 (tl (fun i => IX (byt u i)) (j + 1)))).reverse from ⟨LE.out, by rw [HN.out, MO2.out]; rfl⟩)
                      clear MO2
                      go_wp2
                      go_roundg (u.size - (j + 1))
                      case measure => omega
                      case rel => exact ⟨j + 1, q, c1, g1, p1, es, by omega, by go_num, rfl, D9, N3, CC⟩
              · obtain rfl : j = u.size := by omega
                have N5b := Lib.hid (N5.out.below CC.out)
                have R6 := Lib.hid N6.out.row
                have kb : k ≤ 300 := by have := UU.out.1; omega
                replace BB := Lib.hid (BB.out.trans (CC.out.mono BB.out.size))
                go_wp2_with (first
                  | ((with_reducible refine wpList_at 79 rfl ?_); refine wpList_app (.inl rfl) (.tmp 77) (.tmp 78) rfl rfl N5b rfl R6 (by omega) ?_; intro p8 g8 c8 w8 N hb8; replace BB := Lib.hid (BB.out.trans hb8.out); clear hb8; try simp only [Act.put, List.setIfInBounds_toArray, List.set_cons_zero, List.set_cons_succ]))
                go_ret2
                have e1 := PON.out k u UU.out.1 UU.out.2.1 UU.out.2.2 EX.out
                rw [← D.out.2] at e1
                have e2 : (List.replicate k 0 ++ ds).length = k + m := by rw [List.length_append, List.length_replicate, ← D.out.1]
                refine ⟨BB.out, .inr (.inr ⟨hs, AL0.out, List.replicate k 0 ++ ds, p8, g8, c8, e1.symm, by rw [e2]; rfl, ?_⟩)⟩
                rw [e2]
                refine N.out.to (fun i hi => ?_) (lf_lt fun v hv => ?_)
                · rw [← lf_cat, List.length_replicate]
                  unfold cat
                  split
                  · unfold lf
                    rw [List.getD_eq_getElem?_getD, List.getElem?_replicate, if_pos (by assumption)]
                    rfl
                  · rfl
                · rcases List.mem_append.1 hv with h | h
                  · have := (List.mem_replicate.1 h).2; omega
                  · exact isB_own (by rw [← D.out.1]; exact N6.out) v h
end Go.Proofs.YtghjgkgfpblijaaDoor
end
