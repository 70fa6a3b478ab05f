/- filter.Build, the program's: the filter of any items. -/
import Derived.Test.YtoopcmcmjaikhaaDoorSsr
import Derived.Test.YtoopcmcmjaikhaaDoorIt
import Derived.Test.YtoopcmcmjaikhaaDoorXl
import Derived.Test.YtoopcmcmjaikhaaDoorRcd
set_option linter.unusedSimpArgs false
set_option linter.unusedVariables false
set_option maxRecDepth 100000
namespace Go.Proofs.YtoopcmcmjaikhaaDoor
open Go.RowKit Go.Lib

theorem exec_sub64 {o : Oper} {ev : Operand → Value} {W : World} {x y : Operand} {a b r : Int} (ho : o.op = .binOp .sub 59 x y 59) (hx : ev x = .int .u64 a) (hy : ev y = .int .u64 b) (hr : IntKind.u64.wrap (a - b) = r) : (execOp ev o).run Tryd.prog W = .ok (.value (.int .u64 r)) W := by
  subst hr
  unfold execOp
  simp [ho, hx, hy, go_sem, Tryd.underlying59]
/-- The numbers of unlike items. -/
def fnumsL (k0 k1 : Nat) (L : List (List Nat)) : List Nat := L.map (inum k0 k1 (L.length * 784931))
/-- The codes of numbers that rise. -/
def codesL : Nat → List Nat → List Bool
  | _, [] => []
  | a, v :: l => codeOf (v - a) 19 ++ codesL v l
/-- The filter of unlike items. -/
def fB (k0 k1 : Nat) (L : List (List Nat)) : List Nat := tl (enc L.length) (wid L.length) ++ pk (codesL 0 (sortN (fnumsL k0 k1 L)))
theorem fnums_len (k0 k1 : Nat) (L : List (List Nat)) : (fnumsL k0 k1 L).length = L.length := List.length_map _
theorem fnums_lt {k0 k1 : Nat} {L : List (List Nat)} {z : Nat} (h : z ∈ fnumsL k0 k1 L) : z < L.length * 784931 := by
  unfold fnumsL at h
  obtain ⟨t, ht, rfl⟩ := List.mem_map.1 h
  exact inum_lt (by have := List.length_pos_of_mem ht; omega)
/-- A row of numbers, sorted, wherever it lies. -/
theorem sortp_any {w : World} {B g n c : Nat} {p : Option Addr} {l : List Nat} (N : VOwn 59 1 B w p g n c (wv (lf l))) (hl : l.length = n) (hn : n ≤ 20000) : Calls Tryd.prog 35 #[.slice p n c] w fun e w' => e = .returned (.tuple #[]) ∧ VOwn 59 1 B w' p g n c (wv (lf (sortN l))) ∧ Below B w w' := by
  rcases N.spot with h | h
  · subst h
    obtain ⟨h1, h2⟩ := N.row.nil rfl
    subst h1
    refine sort_nil.mono ?_
    rintro e w' ⟨rfl, rfl⟩
    exact ⟨rfl, N.to (fun i hi => absurd hi (by omega)), Below.refl _ _⟩
  · subst h
    have e : ∀ i, i < n * 1 → wv (lf l) i = dv l.toArray i := fun i hi => by
      unfold wv dv lf
      rw [List.getElem!_toArray, List.getElem!_eq_getElem?_getD]
      rfl
    refine (sort64_any (d := l.toArray) (Lib.hid ⟨N.to e, by rw [List.size_toArray, hl]⟩) hn).mono ?_
    rintro e w' ⟨rfl, ⟨hN, hs⟩, hb⟩
    refine ⟨rfl, hN.to fun i hi => ?_, hb⟩
    unfold wv dv lf
    rw [List.getElem!_toArray, List.getElem!_eq_getElem?_getD]
    rfl
set_option maxHeartbeats 64000000 in
theorem fibuild_any {w : World} {v : Value} {ts : List (List Nat)} {x : Nat → Nat} (A : Hid (TextsAt w v ts)) (L' : Hid (SipLaid w)) (hx : ∀ i, x i < 256) (hn : (onceL ts).length ≤ 20000) : Calls Tryd.prog 13 #[.agg (arr 32 (bv x)), v] w fun e w' => (∃ p g c, e = .returned (.tuple #[.slice p (fB (key0 x) (key1 x) (onceL ts)).length c, .int .i64 0]) ∧ Own w.heap.size w' p g (fB (key0 x) (key1 x) (onceL ts)).length c (lf (fB (key0 x) (key1 x) (onceL ts)))) ∧ Below w.heap.size w w' := by
  obtain ⟨L, hL⟩ : ∃ L, L = onceL ts := ⟨_, rfl⟩
  obtain ⟨n, hnn⟩ : ∃ n, n = L.length := ⟨_, rfl⟩
  obtain ⟨M, hM⟩ : ∃ M, M = n * 784931 := ⟨_, rfl⟩
  obtain ⟨k0, hk0⟩ : ∃ k, k = key0 x := ⟨_, rfl⟩
  obtain ⟨k1, hk1⟩ : ∃ k, k = key1 x := ⟨_, rfl⟩
  rw [← hL] at hn ⊢
  rw [← hk0, ← hk1]
  rw [← hnn] at hn
  have C1 := Lib.hid (show ∀ W, Below w.heap.size w W → Calls Tryd.prog 33 #[v] W fun e w' => (∃ p1 g1 c1 U, e = .returned (.slice p1 n c1) ∧ VOwn 32 1 W.heap.size w' p1 g1 n c1 U ∧ ∀ i (h : i < L.length), TextAt w' (U i) L[i]) ∧ Below W.heap.size W w' from fun W hb => by
    have h := once_any (Lib.hid (A.out.below hb))
    rw [← hL] at h
    refine h.mono ?_
    rintro e w' ⟨⟨v', rfl, p1, g1, c1, U, rfl, hV, hT⟩, hb⟩
    exact ⟨⟨p1, g1, c1, U, by rw [hnn], by rw [hnn]; exact hV, hT⟩, hb⟩)
  have C2 := Lib.hid (show ∀ W, Calls Tryd.prog 34 #[.agg (arr 32 (bv x)), .int .i64 (n : Int)] W fun e w' => (∃ b5 b6 b7, e = .returned (.func (.func 64) #[] #[.pointer (some ⟨b5, 0, none⟩), .pointer (some ⟨b6, 0, none⟩), .pointer (some ⟨b7, 0, none⟩)]) ∧ Keys3 w' b5 b6 b7 k0 k1 M) ∧ Below W.heap.size W w' from fun W => by
    rw [hk0, hk1, hM]
    exact fnums_any hx hn)
  have GN := Lib.hid (show decide ((20000 : Int) < (n : Int)) = false from decide_eq_false (by omega))
  have HN := Lib.hid (show n ≤ 20000 ∧ n = L.length ∧ M < 18446744073709551616 by omega)
  have FL := Lib.hid (show fnumsL k0 k1 L = L.map (inum k0 k1 M) by unfold fnumsL; rw [← hnn, ← hM])
  have SM := Lib.hid (show ∀ z, z ∈ sortN (fnumsL k0 k1 L) → z < 15700000000 from fun z hz => by
    have h := fnums_lt ((sortN_perm _).mem_iff.1 hz)
    omega)
  have SL := Lib.hid (show (sortN (fnumsL k0 k1 L)).length = n by rw [sortN_len, fnums_len, hnn])
  obtain ⟨F, hF⟩ : ∃ F, F = fB k0 k1 L := ⟨_, rfl⟩
  rw [← hF]
  have HF := Lib.hid (show F = tl (enc n) (wid n) ++ pk (codesL 0 (sortN (fnumsL k0 k1 L))) by rw [hF, hnn]; rfl)
  have E := Lib.hid (Mem.nil w)
  clear hn hx hL hk0 hk1 hM hnn hF
  go_enter Tryd.func13, Tryd.ntmps13
  go_upto_region 5 with (first | ((with_reducible refine wpList_at 2 rfl ?_); refine mem_box E 23 rfl _ rfl rfl (arr_cells' 32 (bv x)) ?_; clear E; intro b2 w2 E) | (go_at_call 33; with_reducible refine (C1.out _ E.out.below).mono ?_; rintro e w3 ⟨⟨p1, g1, c1, U, rfl, hV, hT⟩, hb⟩; have VN := Lib.hid hV; have TX := Lib.hid hT; replace E := Lib.hid (E.out.call hb); clear hV hT hb) | ((with_reducible refine wpList_at 19 rfl ?_); refine wpList_kn rfl (.bool false) (by exact exec_gtrN rfl rfl rfl GN.out) ?_) | ((with_reducible refine wpList_at 20 rfl ?_); refine mem_load_row E 23 rfl (.tmp 2) rfl rfl List.mem_cons_self Tryd.underlying23 rfl (by rw [arr_size]; kernel_rfl) ?_) | (go_at_call 34; with_reducible refine (C2.out _).mono ?_; rintro e w4 ⟨⟨b5, b6, b7, rfl, hK⟩, hb⟩; have KY := Lib.hid hK; replace VN := Lib.hid (VN.out.below hb); replace TX := Lib.hid (show ∀ i (h : i < L.length), TextAt w4 (U i) L[i] from fun i h => (TX.out i h).below hb); replace E := Lib.hid (E.out.call hb); clear hK hb))
  have LD := Lib.hid (L'.out.below E.out.below)
  have EB := Lib.hid E.out.below
  obtain ⟨D, hD⟩ : ∃ D, D = w4 := ⟨_, rfl⟩
  subst hD
  clear E
  go_upto_region 7 with ((with_reducible refine wpList_at 26 rfl ?_); refine wpList_vmk 54 59 1 8 Tryd.underlying54 infoL64 rfl _ _ rfl n _ rfl rfl rfl (by have := HN.out; unfold maxLen; omega) (by have := HN.out; omega) (wv (lf [])) ?_; intro p5 g5 w5 N5 hb5)
  go_loopg [7, 29] n (fun k s7 s29 wr => ∃ (j : Nat) (p : Option Addr) (g c : Nat) (l : List Nat), j + k = n ∧ s7 = .slice p j c ∧ s29 = .int .i64 (j : Int) ∧ l.length = j ∧ Hid (l = (fnumsL k0 k1 L).take j) ∧ Hid (VOwn 59 1 D.heap.size wr p g j c (wv (lf l))) ∧ Hid (Below D.heap.size D wr))
  case atStart => exact ⟨0, p5, g5, n, [], by omega, rfl, rfl, rfl, Lib.hid rfl, N5, hb5⟩
  case round =>
    clear N5 hb5
    obtain ⟨j, p, g, c, l, hj, rfl, rfl, hll, LE, VV, HB⟩ := hrel
    obtain ⟨kk, hkk⟩ : ∃ kk : Nat, kk = gk := ⟨_, rfl⟩
    rw [← hkk] at hj
    obtain ⟨Wr, hWr⟩ : ∃ D, D = wr := ⟨_, rfl⟩
    subst hWr
    by_cases hlt : j < n
    · have LT := Lib.hid (show decide ((j : Int) < (n : Int)) = true from decide_eq_true (by omega))
      obtain rfl : p1 = some ⟨g1, 0, none⟩ := VN.out.row.head (by omega)
      have hjL : j < L.length := by have := HN.out; omega
      obtain ⟨z, hz⟩ : ∃ z, z = inum k0 k1 M L[j] := ⟨_, rfl⟩
      obtain ⟨pt, gt, ot, ct, hUj, htl, RT⟩ := TX.out j hjL
      obtain ⟨tn, htn⟩ : ∃ tn, tn = L[j].length := ⟨_, rfl⟩
      have TJ := Lib.hid (TX.out j hjL)
      have CC := Lib.hid (show Wr.cell? ⟨g1, 0 + j * 1, none⟩ = some (.slice pt tn ct) from by
        rw [Nat.mul_one, htn, ← hUj]
        exact (VN.out.row.below HB.out).cell j (by omega))
      have NUM := Lib.hid (show ∀ W, Below D.heap.size D W → Calls Tryd.prog 64 #[.slice pt tn ct, .pointer (some ⟨b5, 0, none⟩), .pointer (some ⟨b6, 0, none⟩), .pointer (some ⟨b7, 0, none⟩)] W fun e w' => e = .returned (.int .u64 (z : Int)) ∧ Below W.heap.size W w' from fun W hb => by
        rw [hz, htn, ← hUj]
        exact num1_any (Lib.hid (TJ.out.below hb)) (Lib.hid (LD.out.below hb)) (Lib.hid (KY.out.below hb)) HN.out.2.2)
      have LE2 := Lib.hid (show l ++ [z] = (fnumsL k0 k1 L).take (j + 1) by
        rw [LE.out, FL.out, hz, take_get _ (by rw [List.length_map]; exact hjL), List.getElem_map])
      have HLT := Lib.hid hlt
      have HJ := Lib.hid (And.intro hj hkk)
      have HLL := Lib.hid hll
      clear hz hUj htl RT htn TJ hlt hj hkk hll hjL
      go_wp2_with (first | ((with_reducible refine wpList_at 30 rfl ?_); refine wpList_kn rfl (.bool true) (by exact exec_lssi rfl rfl rfl LT.out) ?_) | ((with_reducible refine wpList_at 31 rfl ?_); refine wpList_ix (k := 1) (j := j) Tryd.underlying30 (by kernel_rfl) (.tmp 27) (.tmp 29) rfl rfl rfl rfl HLT.out rfl ?_) | ((with_reducible refine wpList_at 32 rfl ?_); refine wpList_ld1 32 (.tmp 31) rfl rfl rfl Tryd.underlying32 rfl CC.out ?_) | (go_at_call 64; with_reducible refine (NUM.out _ HB.out).mono ?_; rintro e w6 ⟨rfl, hb⟩; replace VV := Lib.hid (VV.out.below hb); replace HB := Lib.hid (HB.out.trans (hb.mono HB.out.size)); clear hb) | ((with_reducible refine wpList_at 37 rfl ?_); refine wpList_vbs 54 59 1 1 rfl _ rfl (wv (fun _ => z)) (fun i _ => rfl) (by unfold maxLen; omega) (ps := #[(0, .int .u64 ((z : Nat) : Int))]) (by kernel_rfl) (fun W => run_bs1v Tryd.underlying54 infoL64 _ rfl W) rfl ?_; intro p7 g7 w7 N7 hb7; have VN7 := Lib.hid (VV.out.below hb7.out); have HB7 := Lib.hid (HB.out.trans (hb7.out.mono HB.out.size)); clear VV HB) | ((with_reducible refine wpList_at 38 rfl ?_); refine wpList_vapp 54 59 1 8 Tryd.underlying54 infoL64 rfl (by omega) rfl (.tmp 33) (.tmp 37) rfl rfl VN7 rfl (Lib.hid N7.out.row) (by unfold maxLen; have := HN.out; have := HLT.out; omega) (by have := HN.out; have := HLT.out; omega) ?_; intro p8 g8 c8 w8 N8 hg8; have HB8 := Lib.hid (HB7.out.trans (VN7.out.under hg8.out (Nat.le_refl _) VN7.out.low))) | ((with_reducible refine wpList_at 39 rfl ?_); refine wpList_kn rfl (.int .i64 ((j + 1 : Nat) : Int)) (by exact exec_add rfl rfl rfl (by have := HLT.out; have := HN.out; rw [IntKind.wrap_i64]; omega)) ?_))
      go_roundg (n - (j + 1))
      case measure => have := HJ.out; have := HLT.out; omega
      case rel => exact ⟨j + 1, p8, g8, c8, l ++ [z], by have := HLT.out; omega, rfl, rfl, by rw [List.length_append, HLL.out]; rfl, LE2, Lib.hid (N8.out.to fun i hi => by
        have h := wv_one l z i (by rw [HLL.out]; exact hi)
        rw [HLL.out] at h
        exact h), HB8⟩
    · have LT := Lib.hid (show decide ((j : Int) < (n : Int)) = false from decide_eq_false (by omega))
      obtain rfl : j = n := by omega
      obtain rfl : l = fnumsL k0 k1 L := by rw [LE.out]; exact List.take_of_length_le (by rw [fnums_len]; have := HN.out; omega)
      have CS := Lib.hid (sortp_any VV.out hll HN.out.1)
      clear hlt hj hkk hll LE VV FL
      obtain ⟨S, hS⟩ : ∃ S, S = sortN (fnumsL k0 k1 L) := ⟨_, rfl⟩
      rw [← hS] at CS SM SL HF
      have SO := Lib.hid (show S.Pairwise (· ≤ ·) by rw [hS]; exact sortN_sorted _)
      clear hS
      obtain ⟨TOT, hTOT⟩ : ∃ T, T = codesL 0 S := ⟨_, rfl⟩
      rw [← hTOT] at HF
      have T0 := Lib.hid (show [] ++ codesL 0 (S.drop 0) = TOT by rw [hTOT]; rfl)
      clear hTOT
      go_upto_region 15 with (first | ((with_reducible refine wpList_at 30 rfl ?_); refine wpList_kn rfl (.bool false) (by exact exec_lssi rfl rfl rfl LT.out) ?_) | (go_at_call 35; with_reducible refine CS.out.mono ?_; rintro e w9 ⟨rfl, hV, hb⟩; have VS := Lib.hid hV; replace HB := Lib.hid (HB.out.trans hb); clear hV hb) | (go_at_call 36; refine (rinew_any _).mono ?_; rintro e w10 ⟨bb, bf, bw, rfl, hW, hb⟩; have WT := Lib.hid hW; have HD := Lib.hid hb; clear hW hb))
      obtain ⟨D2, hD2⟩ : ∃ D, D = w9 := ⟨_, rfl⟩
      subst hD2
      go_loopg [11, 45] j (fun k s11 s45 wr => ∃ (i a : Nat) (l : List Bool), i + k = j ∧ s11 = .int .u64 ((a : Nat) : Int) ∧ s45 = .int .i64 (i : Int) ∧ l.length ≤ i * 70000 ∧ Hid (l ++ codesL a (S.drop i) = TOT) ∧ Hid (a < 15700000000 ∧ ∀ q (h : q < S.length), i ≤ q → a ≤ S[q]) ∧ Hid (Wtr D2 wr bb bf bw l) ∧ Hid (Below D2.heap.size D2 wr))
      case atStart => exact ⟨0, 0, [], by omega, rfl, rfl, by simp, T0, Lib.hid ⟨by omega, fun _ _ _ => Nat.zero_le _⟩, WT, HD⟩
      case round =>
        clear T0 WT HD
        obtain ⟨i, a, l, hi, rfl, rfl, hll, TT, AA, WT, HD⟩ := hrel
        obtain ⟨k2, hk2⟩ : ∃ k2 : Nat, k2 = gk := ⟨_, rfl⟩
        rw [← hk2] at hi
        obtain ⟨Wr2, hWr2⟩ : ∃ D, D = wr := ⟨_, rfl⟩
        subst hWr2
        by_cases hlt : i < j
        · have LT2 := Lib.hid (show decide ((i : Int) < (j : Int)) = true from decide_eq_true (by omega))
          obtain rfl : p = some ⟨g, 0, none⟩ := VS.out.row.head (by omega)
          have hiS : i < S.length := by rw [SL.out]; exact hlt
          obtain ⟨vv, hvv⟩ : ∃ vv, vv = S[i] := ⟨_, rfl⟩
          have hav : a ≤ vv := by rw [hvv]; exact AA.out.2 i hiS (Nat.le_refl _)
          have hvm : vv < 15700000000 := by rw [hvv]; exact SM.out _ (List.getElem_mem hiS)
          have CC := Lib.hid (show Wr2.cell? ⟨g, 0 + i * 1, none⟩ = some (.int .u64 (vv : Int)) from by
            have h := (VS.out.row.below HD.out).cell i (by omega)
            rw [hvv, ← lf_get hiS]
            rw [Nat.mul_one]
            exact h)
          obtain ⟨dd, hdd⟩ : ∃ dd, dd = vv - a := ⟨_, rfl⟩
          have hq : dd / 2 ^ 19 ≤ 65535 := by
            rw [show (2 : Nat) ^ 19 = 524288 from by decide]
            omega
          have CW := Lib.hid (show Calls Tryd.prog 37 #[.pointer (some ⟨bb, 0, none⟩), .int .u64 (dd : Int), .int .i64 19] Wr2 (WtPost D2 Wr2 bb bf bw (l ++ codeOf dd 19) (.int .i64 0)) from wrice_any WT.out dd 19 (by omega) (by decide) hq (by have := HN.out; omega))
          have TT2 := Lib.hid (show (l ++ codeOf dd 19) ++ codesL vv (S.drop (i + 1)) = TOT by
            rw [← TT.out, List.drop_eq_getElem_cons hiS, ← hvv, hdd, List.append_assoc]
            rfl)
          have AA2 := Lib.hid (show vv < 15700000000 ∧ ∀ q (h : q < S.length), i + 1 ≤ q → vv ≤ S[q] from ⟨hvm, fun q hq2 h2 => by rw [hvv]; exact List.pairwise_iff_getElem.1 SO.out i q hiS hq2 (by omega)⟩)
          have LN := Lib.hid (show (l ++ codeOf dd 19).length ≤ (i + 1) * 70000 by rw [List.length_append, codeOf_length]; omega)
          have HX := Lib.hid (show dd = vv - a ∧ a ≤ vv ∧ vv < 15700000000 ∧ i < j ∧ i + k2 = j from ⟨hdd, hav, hvm, hlt, hi⟩)
          have HK2 := Lib.hid hk2
          clear hiS hvv hav hvm hdd hq hlt hi hll TT AA WT hk2
          go_wp2_with (first | ((with_reducible refine wpList_at 46 rfl ?_); refine wpList_kn rfl (.bool true) (by exact exec_lssi rfl rfl rfl LT2.out) ?_) | ((with_reducible refine wpList_at 47 rfl ?_); refine wpList_ix (k := 1) (j := i) Tryd.underlying54 (by kernel_rfl) (.tmp 43) (.tmp 45) rfl rfl rfl rfl HX.out.2.2.2.1 rfl ?_) | ((with_reducible refine wpList_at 48 rfl ?_); refine wpList_ld1 59 (.tmp 47) rfl rfl rfl Tryd.underlying59 rfl CC.out ?_) | ((with_reducible refine wpList_at 52 rfl ?_); refine wpList_kn rfl (.int .u64 (dd : Int)) (by exact exec_sub64 rfl rfl rfl (by have := HX.out; rw [IntKind.wrap_u64]; omega)) ?_) | (go_at_call 37; (with_reducible refine CW.out.mono ?_); rintro e w11 ⟨rfl, hW, hb, _⟩; have WT := Lib.hid hW; replace HD := Lib.hid (HD.out.trans hb); clear hW hb) | ((with_reducible refine wpList_at 58 rfl ?_); refine wpList_kn rfl (.int .i64 ((i + 1 : Nat) : Int)) (by exact exec_add rfl rfl rfl (by have := HX.out; have := HN.out; rw [IntKind.wrap_i64]; omega)) ?_))
          go_roundg (j - (i + 1))
          case measure => have := HX.out; have := HK2.out; omega
          case rel => exact ⟨i + 1, vv, l ++ codeOf dd 19, by have := HX.out; omega, rfl, rfl, LN.out, TT2, AA2, WT, HD⟩
        · have LT2 := Lib.hid (show decide ((i : Int) < (j : Int)) = false from decide_eq_false (by omega))
          obtain rfl : l = TOT := by
            rw [← TT.out, List.drop_of_length_le (by rw [SL.out]; omega)]
            exact (List.append_nil _).symm
          have PKB := Lib.hid (show wid j + (pk l).length ≤ 140737488355328 by rw [pk_length]; have := (wid_bd j).2; have := HN.out; unfold nB; omega)
          clear hlt hi hll TT AA hk2
          go_wp2_with (first | ((with_reducible refine wpList_at 46 rfl ?_); refine wpList_kn rfl (.bool false) (by exact exec_lssi rfl rfl rfl LT2.out) ?_) | ((with_reducible refine wpList_at 61 rfl ?_); refine wpList_kn rfl (.int .u64 (j : Int)) (by exact exec_cvu rfl rfl (by have := HN.out; omega)) ?_) | (go_at_call 38; refine (encode_any j _).mono ?_; rintro e w12 ⟨p8, g8, c8, rfl, N8x, hb⟩; have N8 := Lib.hid (N8x.mono (Nat.le_trans EB.out.size (Nat.le_trans HB.out.size HD.out.size))); replace WT := Lib.hid (WT.out.call hb); replace HD := Lib.hid (HD.out.trans (hb.mono HD.out.size)); clear hb N8x) | (go_at_call 39; refine (wbytes_any WT.out).mono ?_; rintro e w13 ⟨p9, g9, c9, rfl, N9x, hb⟩; have R9 := Lib.hid N9x.row; replace N8 := Lib.hid (N8.out.below hb); replace HD := Lib.hid (HD.out.trans (hb.mono HD.out.size)); clear hb N9x WT) | ((with_reducible refine wpList_at 65 rfl ?_); refine wpList_app (.inr rfl) (.tmp 62) (.tmp 64) rfl rfl N8 rfl R9 PKB.out ?_; intro p10 g10 c10 w14 N10 hb10))
          go_ret2
          refine ⟨⟨p10, g10, c10, ?_, ?_⟩, ((EB.out.trans (HB.out.mono EB.out.size)).trans (HD.out.mono (Nat.le_trans EB.out.size HB.out.size))).trans hb10.out⟩
          · rw [HF.out, List.length_append, tl_length]; rfl
          · rw [HF.out, List.length_append, tl_length]
            refine N10.out.to (fun q hq => ?_) (lf_lt ?_)
            · rw [← lf_cat, tl_length]
              unfold cat
              split
              · exact (lf_tl _ (by assumption)).symm
              · rfl
            · exact IsB.append (fun y hy => by
                unfold tl at hy
                obtain ⟨i, _, rfl⟩ := List.mem_map.1 hy
                exact enc_lt _ _) (isB_pk _)
end Go.Proofs.YtoopcmcmjaikhaaDoor
