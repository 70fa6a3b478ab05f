/- The document's reading of an address: pure. -/
import Derived.Test.YtghjgkgfpblijaaDoorC4
import Derived.Test.YtghjgkgfpblijaaDoorB7
set_option linter.unusedSimpArgs false
set_option linter.unusedVariables false
set_option maxRecDepth 100000
namespace Go.Proofs.YtghjgkgfpblijaaDoor
open Go.ChangeShapes Go.WideShapes Go.RowKit Go.Lib Go.Sort

/-- A letter in small. -/
def lwN (x : Nat) : Nat := if 65 ≤ x ∧ x ≤ 90 then x + 32 else x
theorem lwN_lt {x : Nat} (h : x < 256) : lwN x < 256 := by unfold lwN; split <;> omega
def lwS (s : ByteArray) : ByteArray := strX (fun i => lwN (byt s i)) s.size
def isUp (s : ByteArray) : Prop := ∀ i, i < s.size → ¬ (97 ≤ byt s i ∧ byt s i ≤ 122)
instance (s : ByteArray) : Decidable (isUp s) := by unfold isUp; infer_instance
/-- The text in small letters, if it has no small ones. -/
def smS (s : ByteArray) : ByteArray := if isUp s then lwS s else s
theorem lwS_size (s : ByteArray) : (lwS s).size = s.size := strX_size _ _
theorem smS_size (s : ByteArray) : (smS s).size = s.size := by unfold smS; split; exact lwS_size s; rfl
theorem lwS_byt {s : ByteArray} {i : Nat} (h : i < s.size) : byt (lwS s) i = lwN (byt s i) := strX_byt (fun i => lwN_lt (byt_lt _ _)) h
/-- The bytes of fives, and whether what is left is nothing. -/
def bO (l : List Nat) : List Nat := tl (gI 8 (acc (2 ^ 5) l) (5 * l.length)) (5 * l.length / 8)
def bK (l : List Nat) : Bool := decide (5 * l.length % 8 < 5 ∧ acc (2 ^ 5) l % 2 ^ (5 * l.length % 8) = 0)
theorem bO_eq (l : List Nat) : bO l = (grp 5 8 l).take (l.length * 5 / 8) := by
  unfold bO grp grpX
  rw [Nat.mul_comm l.length 5, List.take_left' (tl_length _ _)]
theorem bO_lt (l : List Nat) : ∀ x, x ∈ bO l → x < 256 := tl_mem fun i _ => gI_lt 8 _ _ i
theorem bK_grp {b : List Nat} (hb : ∀ x, x ∈ b → x < 256) : bK (grp 8 5 b) = true := by
  have hl := grp_len (w := 8) (o := 5) (by omega) b
  obtain ⟨m, hm⟩ : ∃ m, m = (8 * b.length + 5 - 1) / 5 := ⟨_, rfl⟩
  have hg := grpX_eq (o := 5) (V := acc (2 ^ 8) b) (T := 8 * b.length) (by omega) hm
  have hV : acc (2 ^ 8) b < (2 ^ 8) ^ b.length := acc_lt (by omega) b hb
  rw [← Nat.pow_mul] at hV
  rw [← hm] at hl
  have hgg : grp 8 5 b = tl (gI 5 (acc (2 ^ 8) b * 2 ^ (5 * m - 8 * b.length)) (5 * m)) m := hg.1
  have hX : acc (2 ^ 8) b * 2 ^ (5 * m - 8 * b.length) < 2 ^ (5 * m) := by
    have : acc (2 ^ 8) b * 2 ^ (5 * m - 8 * b.length) < 2 ^ (8 * b.length) * 2 ^ (5 * m - 8 * b.length) := Nat.mul_lt_mul_of_pos_right hV (Nat.pow_pos (by omega))
    rwa [← Nat.pow_add, show 8 * b.length + (5 * m - 8 * b.length) = 5 * m by omega] at this
  have hacc : acc (2 ^ 5) (grp 8 5 b) = acc (2 ^ 8) b * 2 ^ (5 * m - 8 * b.length) := by rw [hgg]; exact acc_gI' hX
  unfold bK
  rw [hl, hacc, show 5 * m % 8 = 5 * m - 8 * b.length by omega, Nat.mul_mod_left]
  exact decide_eq_true ⟨by omega, rfl⟩
theorem bO_grp {b : List Nat} (hb : ∀ x, x ∈ b → x < 256) : bO (grp 8 5 b) = b := by rw [bO_eq]; exact (grp_back hb).1
/-- The numbers of the letters after the third, but for the last six. -/
def cX (s : ByteArray) : Nat → Nat := fun i => ixL SL (byt s (3 + i))
def cA (s : ByteArray) : Bool := decide (10 ≤ s.size ∧ s.size ≤ 90 ∧ s.extract 0 3 = SB)
def cB (s : ByteArray) : Prop := ∀ i, i < s.size - 9 → cX s i < 32
instance (s : ByteArray) : Decidable (cB s) := by unfold cB; infer_instance
/-- The bytes that an address of bits would have. -/
def candS (s : ByteArray) : List Nat × Bool := if cA s = true ∧ cB s then (bO (tl (fun i => cX s (1 + i)) (s.size - 10)), bK (tl (fun i => cX s (1 + i)) (s.size - 10))) else ([], false)
theorem head3 {s : ByteArray} (h : 3 ≤ s.size) : (s.extract 0 3).size = 3 ∧ ∀ i, i < 3 → byt (s.extract 0 3) i = byt s i := by
  have hs : (s.extract 0 3).size = 3 := by rw [ByteArray.size_extract]; omega
  refine ⟨hs, fun i hi => ?_⟩
  rw [← byt_get s i (by omega), ← byt_get (s.extract 0 3) i (by omega), ByteArray.getElem_extract]
  simp
theorem bT_at {v : Nat} {b : List Nat} {q : Nat} (h : q < (nsB v b).length) : byt (bT v b) (3 + q) = byt SL (lf (nsB v b) q) := by
  unfold bT
  rw [byt_catr (by show 3 ≤ _; omega) (by rw [ltS_size]; show 3 + q < 3 + _; omega), show 3 + q - SB.size = q by show 3 + q - 3 = q; omega, ltS_byt h]
theorem cand_bT {v : Nat} (hv : v < 32) {b : List Nat} (hb : ∀ x, x ∈ b → x < 256) (hl : b.length = 20 ∨ b.length = 32) : candS (bT v b) = (b, true) := by
  have hz := bT_size v b
  have hzs := bT_sizes (v := v) hl
  have hn := nsB_len v b
  obtain ⟨p1, p2, p3⟩ := nsB_parts (v := v) b
  have hx : ∀ i, i < (nsB v b).length → cX (bT v b) i = lf (nsB v b) i := fun i hi => by
    unfold cX
    rw [bT_at hi]
    exact SL_ix ⟨lf (nsB v b) i, by rw [lf_get hi]; exact nsB_lt hv b _ (List.getElem_mem hi)⟩
  have hA : cA (bT v b) = true := by
    unfold cA
    refine decide_eq_true ⟨by omega, by omega, ?_⟩
    have h3 := head3 (s := bT v b) (by omega)
    exact ba_ext h3.1 fun i hi => by rw [h3.1] at hi; rw [h3.2 i hi]; exact bT_byte i hi
  have hB : cB (bT v b) := fun i hi => by
    rw [hx i (by omega), lf_get (by omega)]
    exact nsB_lt hv b _ (List.getElem_mem _)
  have hL : tl (fun i => cX (bT v b) (1 + i)) ((bT v b).size - 10) = grp 8 5 b := by
    rw [hz, Nat.add_sub_cancel]
    apply lf_inj (tl_length _ _)
    intro i hi
    rw [tl_length] at hi
    rw [lf_tl _ hi, hx _ (by omega)]
    show lf (v :: (grp 8 5 b) ++ sum6 (v :: grp 8 5 b) (endV v)) (1 + i) = _
    rw [← lf_cat]
    unfold cat
    rw [if_pos (by rw [List.length_cons]; omega)]
    rw [Nat.add_comm 1 i]
    rfl
  unfold candS
  rw [if_pos ⟨hA, hB⟩, hL, bO_grp hb, bK_grp hb]
/-- The address in great letters. -/
def gT (v : Nat) (b : List Nat) : ByteArray := GB ++ ltS GL (nsB v b)
theorem gT_size (v : Nat) (b : List Nat) : (gT v b).size = (bT v b).size := by unfold gT bT; rw [ByteArray.size_append, ByteArray.size_append, ltS_size, ltS_size]; rfl
theorem gT_at {v : Nat} {b : List Nat} {q : Nat} (h : q < (nsB v b).length) : byt (gT v b) (3 + q) = byt GL (lf (nsB v b) q) := by
  unfold gT
  rw [byt_catr (by show 3 ≤ _; omega) (by rw [ltS_size]; show 3 + q < 3 + _; omega), show 3 + q - GB.size = q by show 3 + q - 3 = q; omega, ltS_byt h]
theorem gT_byte {v : Nat} {b : List Nat} (i : Nat) (h : i < 3) : byt (gT v b) i = byt GB i := by
  unfold gT
  exact byt_catl h
theorem pB_gT {v : Nat} (hv : v < 32) {b : List Nat} (hb : ∀ x, x ∈ b → x < 256) (hl : b.length = 20 ∨ b.length = 32) : pB (gT v b) = mkOf (kOf v b.length) b := by
  have hz := bT_sizes (v := v) hl
  obtain ⟨h1, h2⟩ := hasP_app GB (ltS GL (nsB v b))
  obtain ⟨h3, h4⟩ := ltS_places GL_size GL_ix (nsB_lt hv b)
  have h0 : byt (gT v b) 0 = 66 := by rw [gT_byte 0 (by omega)]; rfl
  have hn : hasP (gT v b) SB = false := not_hasP (i := 0) (by decide) (by rw [h0]; decide +kernel)
  unfold pB numS
  rw [if_neg (by rw [gT_size]; omega), if_neg (by rw [hn]; simp), show hasP (gT v b) GB = true from h1, if_pos rfl, show rstP (gT v b) GB = ltS GL (nsB v b) from h2, if_pos h3, h4]
  exact pbits_nsB hv hb
theorem GL_no : ∀ i : Fin 32, ¬ (97 ≤ byt GL i.1 ∧ byt GL i.1 ≤ 122) ∧ lwN (byt GL i.1) = byt SL i.1 := by decide +kernel
theorem GB_no : ∀ i : Fin 3, ¬ (97 ≤ byt GB i.1 ∧ byt GB i.1 ≤ 122) ∧ lwN (byt GB i.1) = byt SB i.1 := by decide +kernel
theorem SL_only : ∀ i : Fin 32, ∀ x : Fin 256, ¬ (97 ≤ x.1 ∧ x.1 ≤ 122) → lwN x.1 = byt SL i.1 → x.1 = byt GL i.1 := by decide +kernel
theorem SB_only : ∀ i : Fin 3, ∀ x : Fin 256, ¬ (97 ≤ x.1 ∧ x.1 ≤ 122) → lwN x.1 = byt SB i.1 → x.1 = byt GB i.1 := by decide +kernel
theorem bT_split {v : Nat} (hv : v < 32) (b : List Nat) {i : Nat} (h : i < (bT v b).size) : (∃ j : Fin 3, byt (bT v b) i = byt SB j.1 ∧ byt (gT v b) i = byt GB j.1) ∨ ∃ j : Fin 32, byt (bT v b) i = byt SL j.1 ∧ byt (gT v b) i = byt GL j.1 := by
  have hz := bT_size v b
  have hn := nsB_len v b
  by_cases h3 : i < 3
  · exact .inl ⟨⟨i, h3⟩, bT_byte i h3, gT_byte i h3⟩
  · obtain ⟨q, rfl⟩ : ∃ q, i = 3 + q := ⟨i - 3, by omega⟩
    have hq : q < (nsB v b).length := by omega
    exact .inr ⟨⟨lf (nsB v b) q, by rw [lf_get hq]; exact nsB_lt hv b _ (List.getElem_mem hq)⟩, bT_at hq, gT_at hq⟩
theorem sm_bT (v : Nat) (b : List Nat) : smS (bT v b) = bT v b := by
  unfold smS
  rw [if_neg]
  intro h
  have hz := bT_size v b
  have := h 0 (by omega)
  rw [bT_byte 0 (by omega)] at this
  exact absurd this (by decide +kernel)
theorem sm_gT {v : Nat} (hv : v < 32) (b : List Nat) : smS (gT v b) = bT v b := by
  have hz := gT_size v b
  have hu : isUp (gT v b) := fun i hi => by
    rcases bT_split hv b (i := i) (by omega) with ⟨j, _, h⟩ | ⟨j, _, h⟩
    · rw [h]; exact (GB_no j).1
    · rw [h]; exact (GL_no j).1
  unfold smS
  rw [if_pos hu]
  refine ba_ext (by rw [lwS_size, hz]) fun i hi => ?_
  rw [lwS_size] at hi
  rw [lwS_byt hi]
  rcases bT_split hv b (i := i) (by omega) with ⟨j, h1, h⟩ | ⟨j, h1, h⟩
  · rw [h, h1]; exact (GB_no j).2
  · rw [h, h1]; exact (GL_no j).2
theorem sm_only {s : ByteArray} {v : Nat} (hv : v < 32) {b : List Nat} (h : smS s = bT v b) : s = bT v b ∨ s = gT v b := by
  unfold smS at h
  split at h
  · rename_i hu
    right
    have hz : s.size = (bT v b).size := by rw [← h, lwS_size]
    refine ba_ext (by rw [gT_size, hz]) fun i hi => ?_
    have h1 := lwS_byt hi
    rw [h] at h1
    have h2 := hu i hi
    rcases bT_split hv b (i := i) (by omega) with ⟨j, h3, h4⟩ | ⟨j, h3, h4⟩
    · rw [h4]
      exact SB_only j ⟨byt s i, byt_lt _ _⟩ h2 (by rw [← h1, h3])
    · rw [h4]
      exact SL_only j ⟨byt s i, byt_lt _ _⟩ h2 (by rw [← h1, h3])
  · exact .inl h
theorem num_only {s : ByteArray} {l : List Nat} (h : numS s = some l) : s = SB ++ ltS SL l ∨ s = GB ++ ltS GL l := by
  unfold numS at h
  split at h
  · rename_i hp
    split at h
    · rename_i ha
      injection h with h
      left
      rw [← h, ltS_back ha]
      exact hasP_some hp
    · cases h
  · split at h
    · rename_i hp
      split at h
      · rename_i ha
        injection h with h
        right
        rw [← h, ltS_back ha]
        exact hasP_some hp
      · cases h
    · cases h
/-- The kinds with bits: kind k, its bytes, its version. -/
theorem bits_good {s : ByteArray} {b x : List Nat} {j : Nat} (hj : 2 ≤ j) (hj5 : j < 5) (hb : ∀ x, x ∈ b → x < 256) (h : mkOf ((j + 1 : Nat) : Int) b = some x) (ht : (tK (j + 1) b).1 = smS s) (hs : pS s = none) : pA s = some x := by
  have hc := cls_mkA (by omega) h
  have hl := cls_short hc (by omega) (by omega)
  rw [Nat.add_sub_cancel] at hl
  have key : ∀ v, v < 32 → smS s = bT v b → kOf v b.length = ((j + 1 : Nat) : Int) → pA s = some x := fun v hv he hk => by
    have hl2 : b.length = 20 ∨ b.length = 32 := by rw [hl]; unfold cC; split <;> simp
    unfold pA
    rw [hs]
    show pB s = _
    rcases sm_only hv he with rfl | rfl
    · rw [pB_bT hv hb hl2, hk, h]
    · rw [pB_gT hv hb hl2, hk, h]
  have c3 : j = 2 ∨ j = 3 ∨ j = 4 := by omega
  rcases c3 with rfl | rfl | rfl
  · exact key 0 (by omega) ht.symm (by rw [hl]; rfl)
  · exact key 0 (by omega) ht.symm (by rw [hl]; rfl)
  · exact key 1 (by omega) ht.symm (by rw [hl]; rfl)
theorem bits_only {s : ByteArray} {z : List Nat} (hs : pS s = none) (h : pA s = some z) : ∃ b, candS (smS s) = (b, true) ∧ ∃ j, 2 ≤ j ∧ j < 5 ∧ mkOf ((j + 1 : Nat) : Int) b = some z ∧ (tK (j + 1) b).1 = smS s := by
  unfold pA at h
  rw [hs] at h
  obtain ⟨v, b, h62, hn, hb, hk⟩ := pB_some (show pB s = some z from h)
  have hv : v < 32 := by rcases hk with ⟨h1, _⟩ | ⟨h1, _⟩ | ⟨h1, _⟩ <;> omega
  have hl : b.length = 20 ∨ b.length = 32 := by rcases hk with ⟨_, h1, _⟩ | ⟨_, h1, _⟩ | ⟨_, h1, _⟩ <;> omega
  have hm : smS s = bT v b := by
    rcases num_only hn with h1 | h1
    · rw [h1]; exact sm_bT v b
    · rw [h1]; exact sm_gT hv b
  refine ⟨b, by rw [hm]; exact cand_bT hv hb hl, ?_⟩
  rw [hm]
  rcases hk with ⟨rfl, _, hc⟩ | ⟨rfl, _, hc⟩ | ⟨rfl, _, hc⟩
  · exact ⟨2, by omega, by omega, mk_clsA hc (by omega), rfl⟩
  · exact ⟨3, by omega, by omega, mk_clsA hc (by omega), rfl⟩
  · exact ⟨4, by omega, by omega, mk_clsA hc (by omega), rfl⟩
/-- The kinds with a sum. -/
theorem sums_good {s : ByteArray} {b x : List Nat} {j : Nat} (hj5 : j < 2) (hb : ∀ x, x ∈ b → x < 256) (h : mkOf ((j + 1 : Nat) : Int) b = some x) (ht : (tK (j + 1) b).1 = s) : pS s = some x := by
  have hc := cls_mkA (by omega) h
  have hl := cls_short hc (by omega) (by omega)
  rw [Nat.add_sub_cancel] at hl
  have hl2 : b.length = 20 := by
    rw [hl]
    have c : j = 0 ∨ j = 1 := by omega
    rcases c with rfl | rfl <;> rfl
  have c3 : j = 0 ∨ j = 1 := by omega
  rcases c3 with rfl | rfl
  · rw [← ht, show (tK (0 + 1) b).1 = sT 0 b from rfl, pS_sT (by omega) hb hl2, if_pos rfl]; exact h
  · rw [← ht, show (tK (1 + 1) b).1 = sT 5 b from rfl, pS_sT (by omega) hb hl2, if_neg (by omega), if_pos rfl]; exact h
theorem sums_only {s : ByteArray} {z : List Nat} (h : pS s = some z) : ¬ (300 < s.size ∨ ¬ AllIn D58 s) ∧ ∃ l b, reb 58 256 (plL D58 s) = l ∧ l.length = 25 ∧ (l.drop 1).take 20 = b ∧ ∃ j, j < 2 ∧ mkOf ((j + 1 : Nat) : Int) b = some z ∧ (tK (j + 1) b).1 = s := by
  have h0 := h
  unfold pS at h0
  split at h0
  · cases h0
  · rename_i hh
    refine ⟨hh, ?_⟩
    obtain ⟨m, b, hm, hl, hb, hs, hk⟩ := pS_some h
    obtain ⟨l, hle⟩ : ∃ l, l = (m :: b) ++ (dbl (m :: b)).take 4 := ⟨_, rfl⟩
    have h1 : l.length = 25 := by rw [hle, List.length_append, List.length_cons, hl, List.length_take, dbl_len]; rfl
    have h2 : ∀ x, x ∈ l → x < 256 := fun x hx => by
      rw [hle] at hx
      rcases List.mem_append.1 hx with q | q
      · rcases List.mem_cons.1 q with rfl | q
        · rcases hm with rfl | rfl <;> omega
        · exact hb x q
      · exact (isH_dbl (m :: b)).byte x (List.mem_of_mem_take q)
    have h3 := back_b (x := lf l) (n := 25) (by omega) (lf_lt h2)
    rw [← h1, tl_lf] at h3
    have e : s = b58 l := by rw [hs, hle]; rfl
    refine ⟨l, b, by rw [e]; exact h3.2.2, h1, ?_, ?_⟩
    · rw [hle, List.cons_append, List.drop_succ_cons, List.drop_zero, List.take_left' hl]
    · rcases hk with ⟨rfl, hc⟩ | ⟨rfl, hc⟩
      · exact ⟨0, by omega, mk_clsA hc (by omega), hs.symm⟩
      · exact ⟨1, by omega, mk_clsA hc (by omega), hs.symm⟩
end Go.Proofs.YtghjgkgfpblijaaDoor
