/- address.Base58 and address.Unbase58. -/
import Derived.Test.YtofmleiblcafiaaAx
set_option linter.unusedSimpArgs false
set_option linter.unusedVariables false
set_option maxRecDepth 100000
namespace Go.Proofs.Ytofmleiblcafiaa
open Go.ChangeShapes Go.WideShapes Go.RowKit Go.Lib Go.Sort

/-- The digits of 58. -/
def D58 : ByteArray := ⟨#[49, 50, 51, 52, 53, 54, 55, 56, 57, 65, 66, 67, 68, 69, 70, 71, 72, 74, 75, 76, 77, 78, 80, 81, 82, 83, 84, 85, 86, 87, 88, 89, 90, 97, 98, 99, 100, 101, 102, 103, 104, 105, 106, 107, 109, 110, 111, 112, 113, 114, 115, 116, 117, 118, 119, 120, 121, 122]⟩
theorem D58_size : D58.size = 58 := rfl
theorem D58_low : ∀ i, i < D58.size → byt D58 i < 128 := by
  intro i hi
  rw [D58_size] at hi
  have h : ∀ i : Fin 58, byt D58 i.1 < 128 := by decide +kernel
  exact h ⟨i, hi⟩
theorem D58_back (i : Nat) (hi : i < 58) : ixL D58 (byt D58 i) = i := by
  have h : ∀ i : Fin 58, ixL D58 (byt D58 i.1) = i.1 := by decide +kernel
  exact h ⟨i, hi⟩
/-- Numbers as digits. -/
def dgS (r : List Nat) : ByteArray := strX (fun i => byt D58 (lf r i)) r.length
theorem dgS_size (r : List Nat) : (dgS r).size = r.length := strX_size _ _
theorem dgS_byt {r : List Nat} {i : Nat} (h : i < r.length) : byt (dgS r) i = byt D58 (lf r i) := strX_byt (fun i => byt_lt _ _) h
/-- Digits of digits. -/
theorem dgS_places {r : List Nat} (h : ∀ x, x ∈ r → x < 58) : AllIn D58 (dgS r) ∧ plL D58 (dgS r) = r := by
  have key : ∀ i, i < r.length → ixL D58 (byt (dgS r) i) = lf r i := fun i hi => by
    rw [dgS_byt hi]
    refine D58_back _ ?_
    rw [lf_get hi]
    exact h _ (List.getElem_mem hi)
  constructor
  · intro i hi
    rw [dgS_size] at hi
    rw [key i hi, D58_size, lf_get hi]
    exact h _ (List.getElem_mem hi)
  · unfold plL
    apply lf_inj
    · rw [tl_length, dgS_size]
    · intro i hi
      rw [tl_length, dgS_size] at hi
      rw [lf_tl _ (by rw [dgS_size]; exact hi), key i hi]
/-- Letters of their places. -/
theorem dgS_back {s : ByteArray} (h : AllIn D58 s) : dgS (plL D58 s) = s := by
  have hl : (plL D58 s).length = s.size := tl_length _ _
  refine ba_ext (by rw [dgS_size, hl]) fun i hi => ?_
  rw [dgS_size] at hi
  rw [dgS_byt hi]
  rw [hl] at hi
  unfold plL
  rw [lf_tl _ hi]
  exact ixf_get (h i hi)
theorem plL_lt {s : ByteArray} (h : AllIn D58 s) : ∀ x, x ∈ plL D58 s → x < 58 := tl_mem fun i hi => h i hi
/-- The text of bytes: nothing of more than 200. -/
def b58 (xs : List Nat) : ByteArray := if 200 < xs.length then ⟨#[]⟩ else dgS (reb 256 58 xs)
theorem run_ixS (s : ByteArray) (i : Nat) (hi : i < s.size) (w : World) : (Instr.index 9 (.string s) (.int .u8 (i : Int))).run Try.prog w = .ok (.int .u8 ((byt s i : Nat) : Int)) w := by
  rw [run_index_string (w := w) 9 s .u8 (i : Int) Try.underlying9, dif_pos ⟨by omega, by omega⟩]
  rw [← byt_get s i hi]
  rfl
theorem reb_len {b c : Nat} (hb : 0 < b) (hc : 2 ≤ c) (hbc : b ≤ c ^ 8) {ps : List Nat} (h : ∀ x, x ∈ ps → x < b) : (reb b c ps).length ≤ 9 * ps.length := by
  unfold reb
  rw [List.length_append, List.length_replicate, List.length_reverse]
  have := dig_bound hb hc hbc h
  have := lz_le ps
  omega
set_option maxHeartbeats 8000000 in
theorem b58_any {w : World} {p : Option Addr} {g o n c : Nat} {x : Nat → Nat} (R : Hid (Row w p g o n c x)) (hn : n ≤ 140737488355328) : Calls Try.prog 7 #[.slice p n c] w fun e w' => e = .returned (.string (b58 (tl x n))) ∧ Below w.heap.size w w' := by
  by_cases h2 : 200 < n
  · have BS := Lib.hid (show b58 (tl x n) = ⟨#[]⟩ by unfold b58; rw [tl_length, if_pos h2])
    go_enter Try.func7, Try.ntmps7
    go_wp2
    go_ret
    exact ⟨by rw [BS.out]; rfl, Below.refl _ _⟩
  · have BS := Lib.hid (show b58 (tl x n) = dgS (reb 256 58 (tl x n)) by unfold b58; rw [tl_length, if_neg h2])
    have hx := Lib.hid (show ∀ i, i < n → x i < 256 from fun i _ => R.out.byte i)
    have RL := Lib.hid (show (reb 256 58 (tl x n)).length ≤ 9 * n ∧ ∀ y, y ∈ reb 256 58 (tl x n) → y < 58 from ⟨by
      have := reb_len (b := 256) (c := 58) (by omega) (by omega) (by decide) (tl_mem hx.out); rwa [tl_length] at this, reb_lt (by omega) _⟩)
    have hn2 : n ≤ 200 := by omega
    clear h2
    go_enter Try.func7, Try.ntmps7
    go_wp2_with (go_at_call 12; refine (rebase_to R (by omega) hx).mono ?_; intro e w2 h8; obtain ⟨r, p2, g2, c2, rfl, HR, N0, hb⟩ := getsL_var h8; have N := Lib.hid N0; have BB := Lib.hid hb; clear N0 hb h8)
    rw [← HR.out] at RL
    have FR := Lib.hid (show ∀ i, i < r.length → lf r i < 58 from fun i hi => by rw [lf_get hi]; exact RL.out.2 _ (List.getElem_mem hi))
    have rl := RL.out.1
    obtain ⟨m, hm⟩ : ∃ m, m = r.length := ⟨_, rfl⟩
    rw [← hm] at N FR rl ⊢
    have HM := Lib.hid hm
    clear hm RL
    have N1 := Lib.hid (N.out.to (y := fun i => if i < 0 then byt D58 (lf r i) else lf r i) (fun i _ => by rw [if_neg (by omega)]) (fun i => by split; exact byt_lt _ _; exact N.out.byte i))
    clear N
    go_loopg [13] m (fun k i wr => ∃ q : Nat, q + k = m ∧ i = .int .i64 (q : Int) ∧ Hid (Own w.heap.size wr p2 g2 m c2 (fun i => if i < q then byt D58 (lf r i) else lf r i)) ∧ Hid (Below w.heap.size w wr))
    case atStart => exact ⟨0, by omega, rfl, N1, BB⟩
    case round =>
      clear N1 BB
      obtain ⟨q, hq, rfl, N, BB⟩ := hrel
      obtain ⟨kk, rfl⟩ : ∃ kk : Nat, kk = gk := ⟨_, rfl⟩
      by_cases hlt : q < m
      · have HLT := Lib.hid hlt
        obtain rfl := N.out.row.head (by omega)
        obtain ⟨y, hy⟩ : ∃ y, y = lf r q := ⟨_, rfl⟩
        have hy58 : y < 58 := by rw [hy]; exact FR.out q hlt
        have CL := Lib.hid (show wr.cell? ⟨g2, q, none⟩ = some (.int .u8 (y : Int)) by have := N.out.row.cell q hlt; rwa [if_neg (by omega), ← hy, Nat.zero_add] at this)
        have IX := Lib.hid (fun W : World => run_ixS D58 y hy58 W)
        obtain ⟨z, hz⟩ : ∃ z, z = byt D58 y := ⟨_, rfl⟩
        have zb : z < 256 := by rw [hz]; exact byt_lt _ _
        rw [← hz] at IX
        go_wp2_with (first
          | ((with_reducible refine wpList_at 16 rfl ?_); refine wpList_ix (k := 1) (j := q) Try.underlying22 (by kernel_rfl) (.tmp 11) (.tmp 13) rfl rfl rfl rfl HLT.out rfl ?_; rw [Nat.mul_one, Nat.zero_add]; try simp only [Act.put, List.setIfInBounds_toArray, List.set_cons_zero, List.set_cons_succ])
          | ((with_reducible refine wpList_at 17 rfl ?_); refine wpList_ld1 5 (.tmp 16) rfl rfl rfl Try.underlying5 rfl CL.out ?_; try simp only [Act.put, List.setIfInBounds_toArray, List.set_cons_zero, List.set_cons_succ])
          | ((with_reducible refine wpList_at 21 rfl ?_); refine wpList_known4 rfl _ _ (exec_index rfl (IX.out _)) ?_; try simp only [Act.put, List.setIfInBounds_toArray, List.set_cons_zero, List.set_cons_succ])
          | ((with_reducible refine wpList_at 22 rfl ?_); refine wpList_ix (k := 1) (j := q) Try.underlying22 (by kernel_rfl) (.tmp 18) (.tmp 19) rfl rfl rfl rfl HLT.out rfl ?_; rw [Nat.mul_one, Nat.zero_add]; try simp only [Act.put, List.setIfInBounds_toArray, List.set_cons_zero, List.set_cons_succ])
          | ((refine wpList_atn rfl ?_); refine wpList_bput0 rfl (.tmp 22) (.tmp 21) rfl N rfl rfl HLT.out zb ?_; clear N; intro w8 N hb8; replace BB := Lib.hid (BB.out.trans hb8.out)))
        have N2 := Lib.hid (N.out.to (y := fun i => if i < q + 1 then byt D58 (lf r i) else lf r i) (fun i _ => by
          rcases Nat.lt_trichotomy i q with h | h | h
          · rw [if_neg (by omega), if_pos h, if_pos (by omega)]
          · subst h; rw [if_pos rfl, if_pos (by omega), hz, hy]
          · rw [if_neg (by omega), if_neg (by omega), if_neg (by omega)]) (fun i => by
          have := N.out.byte
          split
          · exact byt_lt _ _
          · exact lf_lt (l := r) (fun v hv => by have := List.getElem_of_mem hv; obtain ⟨i, hi, rfl⟩ := this; have := FR.out i (by rw [HM.out]; exact hi); rw [lf_get hi] at this; omega) i))
        clear hy hz N IX
        go_roundg (m - (q + 1))
        case measure => omega
        case rel => exact ⟨q + 1, by omega, by go_num, N2, BB⟩
      · obtain rfl : q = m := by omega
        have CV := Lib.hid (show ∀ w0 : World, w0 = wr → (convert 22 9 (.slice p2 q c2)).run Try.prog w0 = .ok (.string (b58 (tl x n))) w0 from fun w0 h => by
          subst h
          rw [row_strX N.out.row, BS.out]
          unfold dgS
          rw [← HR.out, ← HM.out]
          congr 2
          refine ba_ext (by rw [strX_size, strX_size]) fun i hi => ?_
          rw [strX_size] at hi
          rw [strX_byt N.out.byte hi, strX_byt (fun i => byt_lt _ _) hi, if_pos hi])
        obtain ⟨S, hS⟩ : ∃ S, S = b58 (tl x n) := ⟨_, rfl⟩
        rw [← hS] at CV
        have HS := Lib.hid hS
        clear hS
        go_wp2_with (first
          | ((with_reducible refine wpList_at 25 rfl ?_); refine wpList_known4 rfl _ _ (exec_cv rfl (CV.out _ rfl)) ?_; try simp only [Act.put, List.setIfInBounds_toArray, List.set_cons_zero, List.set_cons_succ]))
        go_ret
        exact ⟨by rw [← HS.out]; rfl, BB.out⟩
/-- What Unbase58 leaves. -/
def UnbEnd (w : World) (s : ByteArray) (e : Ending) (w' : World) : Prop := Below w.heap.size w w' ∧ ((300 < s.size ∧ e = .returned (.tuple #[.slice none 0 0, .int .i64 4])) ∨ (s.size ≤ 300 ∧ ¬ AllIn D58 s ∧ e = .returned (.tuple #[.slice none 0 0, .int .i64 140])) ∨
  (s.size ≤ 300 ∧ AllIn D58 s ∧ ∃ (r : List Nat) (p : Option Addr) (g c : Nat), r = reb 58 256 (plL D58 s) ∧ e = .returned (.tuple #[.slice p r.length c, .int .i64 0]) ∧ Own w.heap.size w' p g r.length c (lf r)))
set_option maxHeartbeats 8000000 in
theorem unb_any (w : World) (s : ByteArray) : Calls Try.prog 5 #[.string s] w (UnbEnd w s) := by
  by_cases h3 : 300 < s.size
  · have h3i : (300 : Int) < (s.size : Int) := by omega
    have H3 := Lib.hid h3
    clear h3
    go_enter Try.func5, Try.ntmps5
    go_wp2
    go_ret2
    exact ⟨Below.refl _ _, .inl ⟨H3.out, rfl⟩⟩
  · have hs : s.size ≤ 300 := by omega
    have DL := Lib.hid D58_low
    have HD := Lib.hid D58_size
    have PA := Lib.hid (fun w0 : World => places_any w0 s D58 (by omega) (by rw [D58_size]; omega) DL)
    clear h3
    by_cases hA : AllIn D58 s
    · have HA := Lib.hid hA
      have PB := Lib.hid (fun w0 : World => (PA.out w0).mono fun e w' h => (show ∃ p g c, e = .returned (.tuple #[.slice p s.size c, .bool true]) ∧ Own w0.heap.size w' p g s.size c (lf (plL D58 s)) ∧ Below w0.heap.size w0 w' from h.elim (fun h => h.2) (fun h => absurd hA h.1)))
      have hx := Lib.hid (show ∀ i, i < s.size → lf (plL D58 s) i < 58 from fun i hi => by unfold plL; rw [lf_tl _ hi]; exact hA i hi)
      clear hA PA
      go_enter Try.func5, Try.ntmps5
      go_wp2_with (first
        | (go_at_call 11; refine (PB.out _).mono ?_; rintro e w2 ⟨p2, g2, c2, rfl, N0, hb⟩; have BB := Lib.hid hb; have R := Lib.hid N0.row; clear N0 hb)
        | (go_at_call 12; refine (rebase_of R (by omega) hx).mono ?_; intro e w3 h8; obtain ⟨r, p3, g3, c3, rfl, HR, N3, hb⟩ := getsL_var h8; have Ytofmleiblcafiaa := Lib.hid (N3.mono BB.out.size); replace BB := Lib.hid (BB.out.trans (hb.mono BB.out.size)); clear N3 hb h8))
      go_ret2
      refine ⟨BB.out, .inr (.inr ⟨hs, HA.out, r, p3, g3, c3, ?_, rfl, Ytofmleiblcafiaa.out⟩)⟩
      have h1 : (plL D58 s).length = s.size := tl_length _ _
      exact HR.out.trans (congrArg (reb 58 256) ((congrArg (tl (lf (plL D58 s))) h1.symm).trans (tl_lf _)))
    · have HA := Lib.hid hA
      have PB := Lib.hid (fun w0 : World => (PA.out w0).mono fun e w' h => (show e = .returned (.tuple #[.slice none 0 0, .bool false]) ∧ Below w0.heap.size w0 w' from h.elim (fun h => absurd h.1 hA) (fun h => h.2)))
      clear hA PA
      go_enter Try.func5, Try.ntmps5
      go_wp2_with (go_at_call 11; refine (PB.out _).mono ?_; rintro e w2 ⟨rfl, hb⟩; have BB := Lib.hid hb; clear hb)
      go_ret2
      exact ⟨BB.out, .inr (.inl ⟨hs, HA.out, rfl⟩)⟩
end Go.Proofs.Ytofmleiblcafiaa
