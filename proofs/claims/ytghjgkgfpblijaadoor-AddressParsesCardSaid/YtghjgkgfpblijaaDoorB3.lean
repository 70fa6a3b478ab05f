/- Addresses, pure: what is written is read, and what is read is written. -/
import Derived.Test.YtghjgkgfpblijaaDoorB2
set_option linter.unusedSimpArgs false
set_option linter.unusedVariables false
set_option maxRecDepth 100000
namespace Go.Proofs.YtghjgkgfpblijaaDoor
open Go.ChangeShapes Go.WideShapes Go.RowKit Go.Lib Go.Sort

theorem SL_ix : ∀ i : Fin 32, ixL SL (byt SL i.1) = i.1 := by decide +kernel
theorem GL_ix : ∀ i : Fin 32, ixL GL (byt GL i.1) = i.1 := by decide +kernel
/-- Letters of numbers. -/
theorem ltS_places {L : ByteArray} (hL : L.size = 32) (hi : ∀ i : Fin 32, ixL L (byt L i.1) = i.1) {r : List Nat} (h : ∀ x, x ∈ r → x < 32) : AllIn L (ltS L r) ∧ plL L (ltS L r) = r := by
  have key : ∀ i, i < r.length → ixL L (byt (ltS L r) i) = lf r i := fun i q => by
    rw [ltS_byt q]
    have h2 : lf r i < 32 := by rw [lf_get q]; exact h _ (List.getElem_mem q)
    exact hi ⟨_, h2⟩
  constructor
  · intro i q
    rw [ltS_size] at q
    rw [key i q, hL, lf_get q]
    exact h _ (List.getElem_mem q)
  · unfold plL
    apply lf_inj
    · rw [tl_length, ltS_size]
    · intro i q
      rw [tl_length, ltS_size] at q
      rw [lf_tl _ (by rw [ltS_size]; exact q), key i q]
theorem ltS_back {L s : ByteArray} (h : AllIn L s) : ltS L (plL L s) = s := by
  have hl : (plL L s).length = s.size := tl_length _ _
  refine ba_ext (by rw [ltS_size, hl]) fun i q => ?_
  rw [ltS_size] at q
  rw [ltS_byt q]
  rw [hl] at q
  unfold plL
  rw [lf_tl _ q]
  exact ixf_get (h i q)
theorem hasP_app (P t : ByteArray) : hasP (P ++ t) P = true ∧ rstP (P ++ t) P = t := by
  have e : (P ++ t).data.toList = P.data.toList ++ t.data.toList := by rw [ByteArray.data_append, Array.toList_append]
  have h : Lib.hasPrefix (P ++ t).data.toList P.data.toList = true := by
    unfold Lib.hasPrefix
    rw [e]
    exact List.isPrefixOf_iff_prefix.2 ⟨_, rfl⟩
  refine ⟨h, ?_⟩
  unfold rstP Lib.trimPrefix
  rw [if_pos h, e, List.drop_left]
theorem nsB_lt {v : Nat} (hv : v < 32) (b : List Nat) : ∀ x, x ∈ nsB v b → x < 32 := fun x hx => by
  unfold nsB at hx
  rcases List.mem_append.1 hx with q | q
  · rcases List.mem_cons.1 q with rfl | q
    · exact hv
    · exact grpX_lt (o := 5) (by omega) x q
  · exact grp6_lt _ x q
theorem nsB_len (v : Nat) (b : List Nat) : (nsB v b).length = (grp 8 5 b).length + 7 := by
  unfold nsB sum6 grp6
  simp
theorem numS_bT {v : Nat} (hv : v < 32) (b : List Nat) : numS (bT v b) = some (nsB v b) := by
  unfold numS bT
  obtain ⟨h1, h2⟩ := hasP_app SB (ltS SL (nsB v b))
  obtain ⟨h3, h4⟩ := ltS_places SL_size SL_ix (nsB_lt hv b)
  rw [if_pos h1, h2, if_pos h3, h4]
theorem nsB_parts {v : Nat} (b : List Nat) : (nsB v b).getD 0 0 = v ∧ ((nsB v b).take ((nsB v b).length - 6)).drop 1 = grp 8 5 b ∧ (nsB v b).length - 7 = (grp 8 5 b).length := by
  have hl := nsB_len v b
  refine ⟨rfl, ?_, by omega⟩
  rw [hl]
  unfold nsB
  rw [show (grp 8 5 b).length + 7 - 6 = (v :: grp 8 5 b).length by rw [List.length_cons]; omega, List.take_left' rfl]
  rfl
theorem pbits_nsB {v : Nat} (hv : v < 32) {b : List Nat} (hb : ∀ x, x ∈ b → x < 256) : pbits (nsB v b) = mkOf (kOf v b.length) b := by
  obtain ⟨h1, h2, h3⟩ := nsB_parts (v := v) b
  have hl := nsB_len v b
  obtain ⟨h4, h5⟩ := grp_back hb
  have hc : chk (nsB v b) = endV v := chk_good (fun x hx => by
    rcases List.mem_cons.1 hx with rfl | q
    · exact hv
    · exact grpX_lt (o := 5) (by omega) x q) (endV_lt v)
  unfold pbits
  rw [if_neg (by omega), h1, if_neg (by rw [hc]; simp), h2, h3, h4, if_neg (by simp), h5]
theorem bT_size (v : Nat) (b : List Nat) : (bT v b).size = (grp 8 5 b).length + 10 := by
  unfold bT
  rw [ByteArray.size_append, ltS_size, nsB_len]
  show 3 + _ = _
  omega
theorem grp_len20 {b : List Nat} (h : b.length = 20) : (grp 8 5 b).length = 32 := by rw [grp_len (by omega), h]
theorem grp_len32 {b : List Nat} (h : b.length = 32) : (grp 8 5 b).length = 52 := by rw [grp_len (by omega), h]
theorem bT_sizes {v : Nat} {b : List Nat} (h : b.length = 20 ∨ b.length = 32) : 42 ≤ (bT v b).size ∧ (bT v b).size ≤ 62 := by
  rw [bT_size]
  rcases h with h | h
  · rw [grp_len20 h]; omega
  · rw [grp_len32 h]; omega
theorem pB_bT {v : Nat} (hv : v < 32) {b : List Nat} (hb : ∀ x, x ∈ b → x < 256) (hl : b.length = 20 ∨ b.length = 32) : pB (bT v b) = mkOf (kOf v b.length) b := by
  have := bT_sizes (v := v) hl
  unfold pB
  rw [if_neg (by omega), numS_bT hv]
  exact pbits_nsB hv hb
theorem acc_fold (b : Nat) : ∀ (ps : List Nat) (a : Nat), a * b ^ ps.length ≤ ps.foldl (fun v p => v * b + p) a
  | [], a => by simp
  | p :: ps, a => by
    have := acc_fold b ps (a * b + p)
    refine Nat.le_trans ?_ this
    rw [List.length_cons, Nat.pow_succ, Nat.mul_comm (b ^ ps.length) b, ← Nat.mul_assoc, Nat.add_mul]
    omega
/-- A text of 42 letters or more that begins with b is no address with a sum. -/
theorem long_none {s : ByteArray} (h : 42 ≤ s.size) (h0 : byt s 0 = 98 ∨ byt s 0 = 66) : pS s = none := by
  unfold pS
  split
  · rfl
  · rename_i hh
    have ha : AllIn D58 s := Decidable.byContradiction fun q => hh (.inr q)
    unfold psum
    rw [if_pos]
    intro hl
    have hpl : (plL D58 s).length = s.size := tl_length _ _
    obtain ⟨p, ps, hps⟩ : ∃ p ps, plL D58 s = p :: ps := by
      cases e : plL D58 s with
      | nil => rw [e] at hpl; simp at hpl; omega
      | cons p ps => exact ⟨p, ps, rfl⟩
    have hp : p = ixL D58 (byt s 0) := by
      have h1 : lf (plL D58 s) 0 = ixL D58 (byt s 0) := by unfold plL; rw [lf_tl _ (by omega)]
      rw [hps] at h1
      exact h1
    have hp1 : 1 ≤ p := by
      rw [hp]
      rcases h0 with h0 | h0
      · rw [h0]; decide +kernel
      · rw [h0]; decide +kernel
    have hlz : lz (plL D58 s) = 0 := by
      rw [hps]
      have := lz_rep (k := 0) (l := p :: ps) (fun _ => by show p ≠ 0; omega)
      simpa using this
    unfold reb at hl
    rw [hlz, List.replicate_zero, List.nil_append, List.length_reverse] at hl
    have h2 := (dig_len_le (b := 256) (by omega) 25 (acc 58 (plL D58 s))).1 (by omega)
    have h3 : 58 ^ 41 ≤ acc 58 (plL D58 s) := by
      have h4 : acc 58 (plL D58 s) = ps.foldl (fun v p => v * 58 + p) (0 * 58 + p) := by rw [hps]; rfl
      have h5 := acc_fold 58 ps (0 * 58 + p)
      rw [← h4] at h5
      refine Nat.le_trans ?_ h5
      have h6 : 58 ^ 41 ≤ 58 ^ ps.length := Nat.pow_le_pow_right (by omega) (by
        have : ps.length + 1 = s.size := by rw [← hpl, hps]; rfl
        omega)
      refine Nat.le_trans h6 ?_
      rw [Nat.zero_mul, Nat.zero_add]
      exact Nat.le_mul_of_pos_left _ hp1
    have h7 : (256 : Nat) ^ 25 ≤ 58 ^ 41 := by decide +kernel
    omega
theorem bT_byte {v : Nat} {b : List Nat} (i : Nat) (h : i < 3) : byt (bT v b) i = byt SB i := by
  unfold bT
  exact byt_catl h
theorem pA_bT {v : Nat} (hv : v < 32) {b : List Nat} (hb : ∀ x, x ∈ b → x < 256) (hl : b.length = 20 ∨ b.length = 32) : pA (bT v b) = mkOf (kOf v b.length) b := by
  unfold pA
  rw [long_none (bT_sizes hl).1 (.inl (bT_byte 0 (by omega))), pB_bT hv hb hl]
theorem dbl_len (l : List Nat) : (dbl l).length = 32 := (isH_dbl l).1
theorem psum_of {m : Nat} {b : List Nat} (hl : b.length = 20) : psum ((m :: b) ++ (dbl (m :: b)).take 4) = if m = 0 then mkOf 1 b else if m = 5 then mkOf 2 b else none := by
  have h1 : (m :: b).length = 21 := by rw [List.length_cons, hl]
  have h2 : ((dbl (m :: b)).take 4).length = 4 := by rw [List.length_take, dbl_len]; rfl
  unfold psum
  rw [if_neg (by rw [List.length_append, h1, h2]; simp), List.take_left' h1, List.drop_left' h1, if_neg (by simp)]
  rfl
theorem pS_sT {m : Nat} (hm : m < 256) {b : List Nat} (hb : ∀ x, x ∈ b → x < 256) (hl : b.length = 20) : pS (sT m b) = if m = 0 then mkOf 1 b else if m = 5 then mkOf 2 b else none := by
  obtain ⟨l, hle⟩ : ∃ l, l = (m :: b) ++ (dbl (m :: b)).take 4 := ⟨_, rfl⟩
  have h1 : l.length = 25 := by rw [hle, List.length_append, List.length_cons, hl, List.length_take, dbl_len]; rfl
  have h2 : ∀ x, x ∈ l → x < 256 := fun x hx => by
    rw [hle] at hx
    rcases List.mem_append.1 hx with q | q
    · rcases List.mem_cons.1 q with rfl | q
      · exact hm
      · exact hb x q
    · exact (isH_dbl (m :: b)).byte x (List.mem_of_mem_take q)
  have h3 := back_b (x := lf l) (n := 25) (by omega) (lf_lt h2)
  rw [← h1, tl_lf] at h3
  obtain ⟨a1, a2, a3⟩ := h3
  unfold pS sT
  rw [← hle, if_neg (by intro q; rcases q with q | q; · omega
                        · exact q a2), a3, hle, psum_of hl]
/-- A script of a kind is made of its bytes. -/
theorem mk_clsA {xs b : List Nat} {k : Nat} (h : Cls xs k b) (hk : k ≠ 0) : mkOf (k : Int) b = some xs := by
  rcases h with ⟨j, hj, rfl, h1, h2⟩ | ⟨rfl, rfl, _⟩
  · rw [mkOf_yes hj rfl h2, h1]
  · exact absurd rfl hk
theorem cls_mkA {j : Nat} (hj : j < 6) {b r : List Nat} (h : mkOf ((j + 1 : Nat) : Int) b = some r) : Cls r (j + 1) b := by
  by_cases ho : okc j b.length = true
  · rw [mkOf_yes hj rfl ho] at h
    injection h with h
    exact .inl ⟨j, hj, rfl, h.symm, ho⟩
  · rw [mkOf_no (fun j' h' hk => by
      obtain rfl : j' = j := by omega
      simpa using ho)] at h
    cases h
/-- An address says its script. -/
theorem pA_tK {xs b : List Nat} {k : Nat} (h : Cls xs k b) (h1 : 1 ≤ k) (h5 : k ≤ 5) (hb : ∀ x, x ∈ b → x < 256) : pA (tK k b).1 = some xs ∧ (tK k b).2 = 0 := by
  have hl := cls_short h h1 h5
  have hm := mk_clsA h (by omega)
  have c5 : k = 1 ∨ k = 2 ∨ k = 3 ∨ k = 4 ∨ k = 5 := by omega
  rcases c5 with rfl | rfl | rfl | rfl | rfl
  · refine ⟨?_, rfl⟩
    show pA (sT 0 b) = _
    unfold pA
    rw [pS_sT (by omega) hb hl, if_pos rfl, show mkOf 1 b = some xs from hm]
  · refine ⟨?_, rfl⟩
    show pA (sT 5 b) = _
    unfold pA
    rw [pS_sT (by omega) hb hl, if_neg (by omega), if_pos rfl, show mkOf 2 b = some xs from hm]
  · refine ⟨?_, rfl⟩
    show pA (bT 0 b) = _
    rw [pA_bT (by omega) hb (.inl hl), show b.length = 20 from hl]
    exact hm
  · refine ⟨?_, rfl⟩
    show pA (bT 0 b) = _
    rw [pA_bT (by omega) hb (.inr hl), show b.length = 32 from hl]
    exact hm
  · refine ⟨?_, rfl⟩
    show pA (bT 1 b) = _
    rw [pA_bT (by omega) hb (.inr hl), show b.length = 32 from hl]
    exact hm
/-- What an address with a sum says has that address. -/
theorem pS_some {s : ByteArray} {z : List Nat} (h : pS s = some z) : ∃ m b, (m = 0 ∨ m = 5) ∧ b.length = 20 ∧ (∀ x, x ∈ b → x < 256) ∧ s = sT m b ∧ ((m = 0 ∧ Cls z 1 b) ∨ (m = 5 ∧ Cls z 2 b)) := by
  unfold pS at h
  split at h
  · cases h
  · rename_i hh
    have ha : AllIn D58 s := Decidable.byContradiction fun q => hh (.inr q)
    obtain ⟨r, hr⟩ : ∃ r, r = reb 58 256 (plL D58 s) := ⟨_, rfl⟩
    rw [← hr] at h
    have hrb : ∀ x, x ∈ r → x < 256 := by rw [hr]; exact reb_lt (by omega) _
    unfold psum at h
    split at h
    · cases h
    · rename_i h25
      split at h
      · cases h
      · rename_i hsum
        have h25' : r.length = 25 := Decidable.byContradiction h25
        have hs2 : (dbl (r.take 21)).take 4 = r.drop 21 := Decidable.byContradiction hsum
        obtain ⟨m, q, hq⟩ : ∃ m q, r.take 21 = m :: q := by
          cases e : r.take 21 with
          | nil => have := congrArg List.length e; rw [List.length_take, h25'] at this; simp at this
          | cons m q => exact ⟨m, q, rfl⟩
        have hql : q.length = 20 := by have := congrArg List.length hq; rw [List.length_take, List.length_cons, h25'] at this; omega
        have hr2 : r = (m :: q) ++ (dbl (m :: q)).take 4 := by
          rw [← hq, hs2, List.take_append_drop]
        have hm : r.getD 0 0 = m := by rw [hr2]; rfl
        have hqb : ∀ x, x ∈ q → x < 256 := fun x hx => hrb x (by rw [hr2]; simp [hx])
        have hs : s = sT m q := by
          have h1 := back_s ha (by rw [← hr, h25']; omega)
          rw [← hr] at h1
          unfold sT
          rw [← hr2, h1]
        rw [hq, hm, show (m :: q).drop 1 = q from rfl] at h
        split at h
        · rename_i hm0
          exact ⟨m, q, .inl hm0, hql, hqb, hs, .inl ⟨hm0, cls_mkA (j := 0) (by omega) h⟩⟩
        · split at h
          · rename_i hm5
            exact ⟨m, q, .inr hm5, hql, hqb, hs, .inr ⟨hm5, cls_mkA (j := 1) (by omega) h⟩⟩
          · cases h
theorem kOf_ways (v n : Nat) : (v = 0 ∧ n = 20 ∧ kOf v n = 3) ∨ (v = 0 ∧ n = 32 ∧ kOf v n = 4) ∨ (v = 1 ∧ n = 32 ∧ kOf v n = 5) ∨ kOf v n = 0 := by
  unfold kOf
  split
  · rename_i h; exact .inl ⟨h.1, h.2, rfl⟩
  · split
    · rename_i h; exact .inr (.inl ⟨h.1, h.2, rfl⟩)
    · split
      · rename_i h; exact .inr (.inr (.inl ⟨h.1, h.2, rfl⟩))
      · exact .inr (.inr (.inr rfl))
/-- What numbers say has these numbers. -/
theorem pbits_some {all z : List Nat} (hb : ∀ x, x ∈ all → x < 32) (h : pbits all = some z) : ∃ v b, all = nsB v b ∧ (∀ x, x ∈ b → x < 256) ∧ ((v = 0 ∧ b.length = 20 ∧ Cls z 3 b) ∨ (v = 0 ∧ b.length = 32 ∧ Cls z 4 b) ∨ (v = 1 ∧ b.length = 32 ∧ Cls z 5 b)) := by
  unfold pbits at h
  split at h
  · cases h
  · rename_i h7
    split at h
    · cases h
    · rename_i hc
      split at h
      · cases h
      · rename_i hg
        have hc' : chk all = endV (all.getD 0 0) := Decidable.byContradiction hc
        obtain ⟨G, hG⟩ : ∃ G, G = (all.take (all.length - 6)).drop 1 := ⟨_, rfl⟩
        obtain ⟨b, hbd⟩ : ∃ b, b = (grp 5 8 G).take ((all.length - 7) * 5 / 8) := ⟨_, rfl⟩
        rw [← hG, ← hbd] at hg h
        have hg' : grp 8 5 b = G := Decidable.byContradiction hg
        obtain ⟨v, t, hall⟩ : ∃ v t, all = v :: t := by
          cases e : all with
          | nil => rw [e] at h7; simp at h7
          | cons v t => exact ⟨v, t, rfl⟩
        have hv : all.getD 0 0 = v := by rw [hall]; rfl
        have hsp : all = (v :: G) ++ all.drop (all.length - 6) := by
          have e1 : all.take (all.length - 6) = v :: G := by
            rw [hG, hall]
            have e2 : (v :: t).length - 6 = (t.length - 6) + 1 := by
              have : t.length + 1 = all.length := by rw [hall]; rfl
              rw [List.length_cons]; omega
            rw [e2]
            rfl
          rw [← e1, List.take_append_drop]
        have hGl : G.length = all.length - 7 := by rw [hG, List.length_drop, List.length_take]; omega
        have hxs : ∀ x, x ∈ v :: G → x < 32 := fun x hx => hb x (by rw [hsp]; exact List.mem_append_left _ hx)
        have hds : ∀ x, x ∈ all.drop (all.length - 6) → x < 32 := fun x hx => hb x (List.mem_of_mem_drop hx)
        have hd6 : (all.drop (all.length - 6)).length = 6 := by rw [List.length_drop]; omega
        have hlast := chk_only hxs hds hd6 (z := endV v) (by rw [← hsp, hc', hv])
        have hns : all = nsB v b := by
          unfold nsB
          rw [hg', ← hlast, ← hsp]
        have hbb : ∀ x, x ∈ b → x < 256 := fun x hx => by
          rw [hbd] at hx
          have := List.mem_of_mem_take hx
          exact grpX_lt (o := 8) (by omega) x this
        have hbl : b.length = (all.length - 7) * 5 / 8 := by
          rw [hbd, List.length_take, grp_len (by omega), hGl]
          omega
        rw [hv, ← hbl] at h
        refine ⟨v, b, hns, hbb, ?_⟩
        rcases kOf_ways v b.length with ⟨h1, h2, h3⟩ | ⟨h1, h2, h3⟩ | ⟨h1, h2, h3⟩ | h3
        · rw [h3] at h; exact .inl ⟨h1, h2, cls_mkA (j := 2) (by omega) h⟩
        · rw [h3] at h; exact .inr (.inl ⟨h1, h2, cls_mkA (j := 3) (by omega) h⟩)
        · rw [h3] at h; exact .inr (.inr ⟨h1, h2, cls_mkA (j := 4) (by omega) h⟩)
        · rw [h3, mkOf_no (fun j _ hk => by omega)] at h
          cases h
theorem pB_some {s : ByteArray} {z : List Nat} (h : pB s = some z) : ∃ v b, s.size ≤ 62 ∧ numS s = some (nsB v b) ∧ (∀ x, x ∈ b → x < 256) ∧ ((v = 0 ∧ b.length = 20 ∧ Cls z 3 b) ∨ (v = 0 ∧ b.length = 32 ∧ Cls z 4 b) ∨ (v = 1 ∧ b.length = 32 ∧ Cls z 5 b)) := by
  unfold pB at h
  split at h
  · cases h
  · rename_i h62
    split at h
    · cases h
    · rename_i all hn
      obtain ⟨v, b, h1, h2, h3⟩ := pbits_some (numS_ok hn).2 h
      exact ⟨v, b, by omega, by rw [hn, h1], h2, h3⟩
theorem numS_size {s : ByteArray} {l : List Nat} (h : numS s = some l) : s.size = 3 + l.length := by
  unfold numS at h
  split at h
  · rename_i hp
    have hz := hasP_size hp
    split at h
    · injection h with h
      rw [← h, show (plL SL (rstP s SB)).length = _ from tl_length _ _, hz]; rfl
    · cases h
  · split at h
    · rename_i hp
      have hz := hasP_size hp
      split at h
      · injection h with h
        rw [← h, show (plL GL (rstP s GB)).length = _ from tl_length _ _, hz]; rfl
      · cases h
    · cases h
/-- What an address says has an address of that size. -/
theorem pA_some {s : ByteArray} {z : List Nat} (h : pA s = some z) : ∃ k b, Cls z k b ∧ 1 ≤ k ∧ k ≤ 5 ∧ (tK k b).2 = 0 ∧ (tK k b).1.size = s.size := by
  unfold pA at h
  cases hp : pS s with
  | some q =>
    rw [hp] at h
    injection h with h
    subst h
    obtain ⟨m, b, _, _, _, hs, ⟨hm, hc⟩ | ⟨hm, hc⟩⟩ := pS_some hp
    · exact ⟨1, b, hc, by omega, by omega, rfl, by rw [hs, hm]; rfl⟩
    · exact ⟨2, b, hc, by omega, by omega, rfl, by rw [hs, hm]; rfl⟩
  | none =>
    rw [hp] at h
    obtain ⟨v, b, _, hn, _, hw⟩ := pB_some h
    have hz := numS_size hn
    have hsz : (bT v b).size = s.size := by rw [bT_size, hz, nsB_len]; omega
    rcases hw with ⟨hv, hl, hc⟩ | ⟨hv, hl, hc⟩ | ⟨hv, hl, hc⟩
    · exact ⟨3, b, hc, by omega, by omega, rfl, by rw [← hsz, hv]; rfl⟩
    · exact ⟨4, b, hc, by omega, by omega, rfl, by rw [← hsz, hv]; rfl⟩
    · exact ⟨5, b, hc, by omega, by omega, rfl, by rw [← hsz, hv]; rfl⟩
end Go.Proofs.YtghjgkgfpblijaaDoor
