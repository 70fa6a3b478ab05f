/- The document's Build: the filter of any items. -/
import Derived.Test.YtoopcmcmjaikhaaDoorZY
import Derived.Test.YtoopcmcmjaikhaaDoorZX
import Derived.Test.YtoopcmcmjaikhaaDoorFbd
set_option linter.unusedSimpArgs false
set_option linter.unusedVariables false
set_option maxRecDepth 100000
namespace Go.Proofs.YtoopcmcmjaikhaaDoor
open Go.ChangeShapes Go.WideShapes Go.RowKit Go.Lib

theorem built_xw : Tryd.prog.built 75 (#[] : Array (Nat × Value)).toList = some #[.slice none 0 0] := by kernel_rfl
/-- A number put behind those that are not above it. -/
def insN (v : Nat) (l : List Nat) (at' : Nat) : List Nat := l.take at' ++ [v] ++ l.drop at'
theorem insN_len {v : Nat} {l : List Nat} {a : Nat} (h : a ≤ l.length) : (insN v l a).length = l.length + 1 := by
  unfold insN
  simp only [List.length_append, List.length_take, List.length_drop, List.length_singleton]
  omega
theorem insN_sorted {v : Nat} {l : List Nat} {a : Nat} (hs : l.Pairwise (· ≤ ·)) (ha : a ≤ l.length) (h1 : ∀ i (h : i < l.length), a ≤ i → v < l[i]) (h2 : ∀ i (h : i < l.length), i < a → l[i] ≤ v) : (insN v l a).Pairwise (· ≤ ·) := by
  unfold insN
  rw [List.append_assoc]
  have ht : ∀ x, x ∈ l.take a → x ≤ v := fun x hx => by
    obtain ⟨i, hi, rfl⟩ := List.mem_iff_getElem.1 hx
    rw [List.length_take] at hi
    rw [List.getElem_take]
    exact h2 i (by omega) (by omega)
  have hd : ∀ x, x ∈ l.drop a → v < x := fun x hx => by
    obtain ⟨i, hi, rfl⟩ := List.mem_iff_getElem.1 hx
    rw [List.length_drop] at hi
    rw [List.getElem_drop]
    exact h1 _ (by omega) (by omega)
  refine List.pairwise_append.2 ⟨hs.sublist (List.take_sublist _ _), List.pairwise_append.2 ⟨List.pairwise_singleton _ _, hs.sublist (List.drop_sublist _ _), fun x hx y hy => ?_⟩, fun x hx y hy => ?_⟩
  · rw [List.mem_singleton] at hx
    rw [hx]
    exact Nat.le_of_lt (hd y hy)
  · rcases List.mem_append.1 hy with q | q
    · rw [List.mem_singleton] at q
      rw [q]
      exact ht x hx
    · exact Nat.le_trans (ht x hx) (Nat.le_of_lt (hd y q))
theorem insN_perm (v : Nat) (l : List Nat) (a : Nat) : (insN v l a).Perm (l ++ [v]) := by
  unfold insN
  rw [List.append_assoc]
  refine (List.Perm.append_left _ List.perm_append_comm).trans ?_
  rw [← List.append_assoc, List.take_append_drop]
theorem wv_cat (a b : List Nat) (i : Nat) : vcat (wv (lf a)) (a.length * 1) (wv (lf b)) i = wv (lf (a ++ b)) i := by
  unfold vcat wv
  rw [Nat.mul_one, ← lf_cat]
  unfold cat
  split <;> rfl
/-- An object of the row's parts, cut. -/
theorem row_take {w : World} {B g n c : Nat} {p : Option Addr} {l : List Nat} {a : Nat} (N : VOwn 59 1 B w p g n c (wv (lf l))) (hn : n = l.length) (ha : a ≤ n) : ∃ q, sliced p 0 a c 1 = .slice q a c ∧ a ≤ c ∧ VRow 1 w q g 0 a c (wv (lf (l.take a))) := by
  subst hn
  obtain ⟨q, hq, R⟩ := N.row.slice (l := 0) (h := a) (m := c) (by omega) ha (by have := N.row.le; omega) (Nat.le_refl _)
  refine ⟨q, by simpa using hq, by have := N.row.le; omega, ?_⟩
  have R2 : VRow 1 w q g 0 a c (fun i => wv (lf l) (0 * 1 + i)) := by simpa using R
  refine R2.to fun i hi => ?_
  unfold wv lf
  rw [Nat.zero_mul, Nat.zero_add, List.getD_eq_getElem?_getD, List.getD_eq_getElem?_getD, List.getElem?_take_of_lt (by omega)]
theorem row_drop {w : World} {B g n c : Nat} {p : Option Addr} {l : List Nat} {a : Nat} (N : VOwn 59 1 B w p g n c (wv (lf l))) (hn : n = l.length) (ha : a ≤ n) : ∃ q o, sliced p a n c 1 = .slice q (n - a) (c - a) ∧ VRow 1 w q g o (n - a) (c - a) (wv (lf (l.drop a))) := by
  subst hn
  obtain ⟨q, hq, R⟩ := N.row.slice (l := a) (h := l.length) (m := c) ha (Nat.le_refl _) N.row.le (Nat.le_refl _)
  refine ⟨q, 0 + a * 1, by simpa using hq, ?_⟩
  refine R.to fun i hi => ?_
  unfold wv lf
  rw [List.getD_eq_getElem?_getD, List.getD_eq_getElem?_getD, List.getElem?_drop, Nat.mul_one]
theorem vcat_z (V U : Nat → Value) (i : Nat) : vcat V 0 U i = U i := by unfold vcat; rw [if_neg (by omega)]; rfl
theorem run_cutl {S T k : Nat} (hS : Tryd.prog.underlying S = some (.slice T)) (hk : ∀ w, (sizeOf T).run Tryd.prog w = .ok k w) {p q : Option Addr} {n c h : Nat} (hs : sliced p h n c k = .slice q (n - h) (c - h)) (h2 : h ≤ n) (hn : n ≤ c) (w : World) : (Instr.sliceAt S (.slice p n c) (some (.int .i64 ((h : Nat) : Int))) none none).run Tryd.prog w = .ok (.slice q (n - h) (c - h)) w := by
  have he : Tryd.prog.elem S = T := by simp [Program.elem, hS]
  have ht : Tryd.prog.underlying S = some (.slice (Tryd.prog.elem S)) := by rw [he]; exact hS
  have hb : (Instr.sliceBounds true n c (some (.int .i64 (h : Int))) none none).run Tryd.prog w = .ok (h, n, c) w := by simp [Instr.sliceBounds, run_sliceBound, h2, hn]
  rw [run_sliceAt_slice w S _ _ _ _ ht, run_slice_any w S p n c ht, hb]
  simp only [Result.andThen_ok, he, hk, hs]
/-- Of two rows the later one lies in another block. -/
theorem ne_later {T T' k k' B n1 c1 n2 c2 g1 g2 : Nat} {w w' : World} {p1 p2 : Option Addr} {V1 V2 : Nat → Value} (N1 : VOwn T k B w p1 g1 n1 c1 V1) (N2 : VOwn T' k' w.heap.size w' p2 g2 n2 c2 V2) : p2 = none ∨ (Value.slice p1 n1 c1).ownBlock ≠ some g2 := by
  rcases N2.typed with h | ⟨cur, h, hB⟩
  · exact .inl h
  · refine .inr fun e => ?_
    rcases N1.spot with s | s
    · subst s
      cases e
    · subst s
      rcases N1.typed with q | ⟨cur1, q, _⟩
      · cases q
      · injection e with e
        have e2 : g1 = g2 := e
        have := (Array.getElem?_eq_some_iff.mp q).1
        omega
theorem ne_later2 {T T' k k' B n1 c1 n2 c2 g1 g2 : Nat} {w w' : World} {p1 p2 : Option Addr} {V1 V2 : Nat → Value} (N1 : VOwn T k B w p1 g1 n1 c1 V1) (N2 : VOwn T' k' w.heap.size w' p2 g2 n2 c2 V2) : p1 = none ∨ (Value.slice p2 n2 c2).ownBlock ≠ some g1 := by
  rcases N1.typed with h | ⟨cur, h, hB⟩
  · exact .inl h
  · exact .inr fun e => vown_ne N2 (Array.getElem?_eq_some_iff.mp h).1 e.symm
set_option maxHeartbeats 64000000 in
theorem rfibuild_any {w : World} {v : Value} {ts : List (List Nat)} {x : Nat → Nat} (A : Hid (TextsAt w v ts)) (hx : ∀ i, x i < 256) (hn : ts.length ≤ 20000) : Calls Tryd.prog 14 #[.agg (arr 32 (bv x)), v] w fun e w' => (∃ p g c, e = .returned (.tuple #[.slice p (fB (key0 x) (key1 x) (onceL ts)).length c, .int .i64 0]) ∧ Own w.heap.size w' p g (fB (key0 x) (key1 x) (onceL ts)).length c (lf (fB (key0 x) (key1 x) (onceL ts)))) ∧ Below w.heap.size w w' := by
  obtain ⟨L, hL⟩ : ∃ L, L = onceL ts := ⟨_, rfl⟩
  obtain ⟨n, hnn⟩ : ∃ n, n = L.length := ⟨_, rfl⟩
  obtain ⟨M, hM⟩ : ∃ M, M = n * 784931 := ⟨_, rfl⟩
  obtain ⟨k0, hk0⟩ : ∃ k, k = key0 x := ⟨_, rfl⟩
  obtain ⟨k1, hk1⟩ : ∃ k, k = key1 x := ⟨_, rfl⟩
  obtain ⟨pa, ga, oa, ca, Va, hva, hca, _, _⟩ := id A.out
  subst hva
  have hLn : L.length ≤ ts.length := by rw [hL]; exact once_any_len ts
  obtain ⟨n0, hn0⟩ : ∃ n0, n0 = ts.length := ⟨_, rfl⟩
  have C1 := Lib.hid (show ∀ W, Below w.heap.size w W → Calls Tryd.prog 40 #[.slice pa n0 ca] W fun e w' => (∃ p1 g1 c1 U, e = .returned (.slice p1 n c1) ∧ VOwn 32 1 W.heap.size w' p1 g1 n c1 U ∧ ∀ i (h : i < L.length), TextAt w' (U i) L[i]) ∧ Below W.heap.size W w' from fun W hb => by
    have h := unlike_any (Lib.hid (A.out.below hb))
    rw [← hL, ← hn0] at h
    refine h.mono ?_
    rintro e w' ⟨⟨v', rfl, p1, g1, c1, U, rfl, hl, hV, hT⟩, hb⟩
    exact ⟨⟨p1, g1, c1, U, by rw [hnn], by rw [hnn]; exact hV, fun i h => (hT i h).at⟩, hb⟩)
  rw [← hn0] at hn ⊢
  have GN := Lib.hid (show decide ((20000 : Int) < (n0 : Int)) = false from decide_eq_false (by omega))
  have HN := Lib.hid (show n ≤ 20000 ∧ n = L.length ∧ M < 18446744073709551616 by omega)
  have VAL := Lib.hid (show ∀ W v t, TextAt W v t → Calls Tryd.prog 41 #[.agg (arr 32 (bv x)), v, .int .i64 (n : Int)] W fun e w' => e = .returned (.int .u64 ((inum k0 k1 M t : Nat) : Int)) ∧ Below W.heap.size W w' from fun W v t h => by
    rw [hk0, hk1, hM]
    exact rvalue_any hx (by omega) (Lib.hid h))
  have FL := Lib.hid (show fnumsL k0 k1 L = L.map (inum k0 k1 M) by unfold fnumsL; rw [← hnn, ← hM])
  have NM := Lib.hid (show ∀ t, inum k0 k1 M t < 15700000000 from fun t => by
    by_cases h : 0 < M
    · have := inum_lt (k0 := k0) (k1 := k1) (t := t) h
      omega
    · have e : M = 0 := by omega
      rw [e]
      unfold inum S.hi
      simp)
  have SM := Lib.hid (show ∀ z, z ∈ sortN (fnumsL k0 k1 L) → z < 15700000000 from fun z hz => by
    have h := fnums_lt ((sortN_perm _).mem_iff.1 hz)
    omega)
  have SL := Lib.hid (show (sortN (fnumsL k0 k1 L)).length = n by rw [sortN_len, fnums_len, hnn])
  obtain ⟨F, hF⟩ : ∃ F, F = fB k0 k1 L := ⟨_, rfl⟩
  rw [← hL, ← hk0, ← hk1, ← hF]
  have HF := Lib.hid (show F = tl (enc n) (wid n) ++ pk (codesL 0 (sortN (fnumsL k0 k1 L))) by rw [hF, hnn]; rfl)
  have E := Lib.hid (Mem.nil w)
  clear hn hx hL hk0 hk1 hM hnn hF hn0 hLn hca
  go_enter Tryd.func14, Tryd.ntmps14
  go_upto_region 6 with (first | ((with_reducible refine wpList_at 2 rfl ?_); refine mem_box E 23 rfl _ rfl rfl (arr_cells' 32 (bv x)) ?_; clear E; intro b2 w2 E) | ((with_reducible refine wpList_at 18 rfl ?_); refine wpList_kn rfl (.bool false) (by exact exec_gtrN rfl rfl rfl GN.out) ?_) | (go_at_call 40; with_reducible refine (C1.out _ E.out.below).mono ?_; rintro e w3 ⟨⟨p1, g1, c1, U, rfl, hV, hT⟩, hb⟩; have VN := Lib.hid hV; have TX := Lib.hid hT; replace E := Lib.hid (E.out.call hb); clear hV hT hb))
  obtain ⟨D, hD⟩ : ∃ D, D = w3 := ⟨_, rfl⟩
  subst hD
  have EB := Lib.hid E.out.below
  have HB := Lib.hid (Below.refl D.heap.size D)
  go_loopg [7, 23] n (fun k s7 s23 wr => ∃ (j : Nat) (p : Option Addr) (g c : Nat) (l : List Nat), j + k = n ∧ s7 = .slice p j c ∧ s23 = .int .i64 (j : Int) ∧ l.length = j ∧ Hid (l.Perm ((fnumsL k0 k1 L).take j)) ∧ Hid (l.Pairwise (· ≤ ·)) ∧ Hid (VOwn 59 1 D.heap.size wr p g j c (wv (lf l))) ∧ Hid (Below D.heap.size D wr))
  case atStart => exact ⟨0, none, 0, 0, [], by omega, rfl, rfl, rfl, Lib.hid (by simp), Lib.hid List.Pairwise.nil, Lib.hid (vown_nothing _ _ _ _ _ (Nat.le_refl _)), HB⟩
  case round =>
    clear HB
    obtain ⟨j, p, g, c, l, hj, rfl, rfl, hll, LP, LS, VV, HB⟩ := hrel
    obtain ⟨kk, hkk⟩ : ∃ kk : Nat, kk = gk := ⟨_, rfl⟩
    rw [← hkk] at hj
    obtain ⟨Wr, hWr⟩ : ∃ D, D = wr := ⟨_, rfl⟩
    subst hWr
    by_cases hlt : j < n
    · have LT := Lib.hid (show decide ((j : Int) < (n : Int)) = true from decide_eq_true (by omega))
      obtain rfl : p1 = some ⟨g1, 0, none⟩ := VN.out.row.head (by omega)
      have hjL : j < L.length := by have := HN.out; omega
      obtain ⟨z, hz⟩ : ∃ z, z = inum k0 k1 M L[j] := ⟨_, rfl⟩
      have ZM := Lib.hid (show z < 15700000000 by rw [hz]; exact NM.out _)
      obtain ⟨pt, gt, ot, ct, hUj, htl, RT⟩ := TX.out j hjL
      obtain ⟨tn, htn⟩ : ∃ tn, tn = L[j].length := ⟨_, rfl⟩
      have TJ := Lib.hid (TX.out j hjL)
      have CC := Lib.hid (show Wr.cell? ⟨g1, 0 + j * 1, none⟩ = some (.slice pt tn ct) from by
        rw [Nat.mul_one, htn, ← hUj]
        exact (VN.out.row.below HB.out).cell j (by omega))
      have NUM := Lib.hid (show ∀ W, Below D.heap.size D W → Calls Tryd.prog 41 #[.agg (arr 32 (bv x)), .slice pt tn ct, .int .i64 (n : Int)] W fun e w' => e = .returned (.int .u64 (z : Int)) ∧ Below W.heap.size W w' from fun W hb => by
        rw [hz, htn, ← hUj]
        exact VAL.out W _ _ (TJ.out.below hb))
      have E2 := Lib.hid (E.out.call HB.out)
      have LP2 := Lib.hid (show (fnumsL k0 k1 L).take (j + 1) = (fnumsL k0 k1 L).take j ++ [z] by
        rw [FL.out, hz, take_get _ (by rw [List.length_map]; exact hjL), List.getElem_map])
      have HJ := Lib.hid (show j < n ∧ j + kk = n ∧ kk = gk ∧ l.length = j from ⟨hlt, hj, hkk, hll⟩)
      clear hz hUj htl RT htn TJ hlt hj hkk hll hjL
      go_upto_region 10 with (first | ((with_reducible refine wpList_at 24 rfl ?_); refine wpList_kn rfl (.bool true) (by exact exec_lssi rfl rfl rfl LT.out) ?_) | ((with_reducible refine wpList_at 25 rfl ?_); refine wpList_ix (k := 1) (j := j) Tryd.underlying30 (by kernel_rfl) (.tmp 21) (.tmp 23) rfl rfl rfl rfl HJ.out.1 rfl ?_) | ((with_reducible refine wpList_at 26 rfl ?_); refine wpList_ld1 32 (.tmp 25) rfl rfl rfl Tryd.underlying32 rfl CC.out ?_) | ((with_reducible refine wpList_at 27 rfl ?_); refine mem_load_row E2 23 rfl (.tmp 2) rfl rfl List.mem_cons_self Tryd.underlying23 rfl (by rw [arr_size]; kernel_rfl) ?_) | (go_at_call 41; with_reducible refine (NUM.out _ HB.out).mono ?_; rintro e w6 ⟨rfl, hb⟩; replace VV := Lib.hid (VV.out.below hb); replace HB := Lib.hid (HB.out.trans (hb.mono HB.out.size)); clear hb))
      obtain ⟨Wq, hWq⟩ : ∃ D, D = w6 := ⟨_, rfl⟩
      subst hWq
      go_loopg [11] j (fun k s11 wq => k ≤ j ∧ s11 = .int .i64 (k : Int) ∧ Hid (∀ i (h : i < l.length), k ≤ i → z < l[i]) ∧ Hid (wq = Wq))
      case atStart => exact ⟨Nat.le_refl _, rfl, Lib.hid (fun i h q => absurd h (by have := HJ.out; omega)), Lib.hid rfl⟩
      case round =>
        obtain ⟨hkj, rfl, GZ, HW⟩ := hrel
        obtain rfl := HW.out
        obtain ⟨a, rfl⟩ : ∃ a : Nat, a = gk := ⟨_, rfl⟩
        have AJ := Lib.hid hkj
        by_cases ha0 : 0 < a
        · have GT := Lib.hid (show decide ((0 : Int) < (a : Int)) = true from decide_eq_true (by omega))
          obtain rfl : p = some ⟨g, 0, none⟩ := VV.out.row.head (by omega)
          have hal : a - 1 < l.length := by have := HJ.out; omega
          obtain ⟨y, hy⟩ : ∃ y, y = l[a - 1] := ⟨_, rfl⟩
          obtain ⟨a1, ha1⟩ : ∃ a1, a1 = a - 1 := ⟨_, rfl⟩
          have CY := Lib.hid (show wr.cell? ⟨g, 0 + a1 * 1, none⟩ = some (.int .u64 (y : Int)) from by
            have h := VV.out.row.cell (a - 1) (by omega)
            rw [hy, ← lf_get hal, ha1, Nat.mul_one]
            exact h)
          have HA := Lib.hid (show a1 = a - 1 ∧ 0 < a ∧ a ≤ j ∧ a1 < j from ⟨ha1, ha0, hkj, by omega⟩)
          by_cases hlt : z < y
          · have GY := Lib.hid (show decide ((z : Int) < (y : Int)) = true from decide_eq_true (by omega))
            have GZ2 := Lib.hid (show ∀ i (h : i < l.length), a1 ≤ i → z < l[i] from fun i h q => by
              by_cases e : i = a - 1
              · subst e
                rw [← hy]
                exact hlt
              · exact GZ.out i h (by omega))
            clear hal hy ha1 hlt ha0 hkj GZ
            go_wp2_with (first | ((with_reducible refine wpList_at 35 rfl ?_); refine wpList_kn rfl (.bool true) (by exact exec_gtrN rfl rfl rfl GT.out) ?_) | ((with_reducible refine wpList_at 39 rfl ?_); refine wpList_kn rfl (.int .i64 (a1 : Int)) (by exact exec_sub rfl rfl rfl (by have := HA.out; have := HJ.out; have := HN.out; rw [IntKind.wrap_i64]; omega)) ?_) | ((with_reducible refine wpList_at 40 rfl ?_); refine wpList_ix (k := 1) (j := a1) Tryd.underlying54 (by kernel_rfl) (.tmp 37) (.tmp 39) rfl rfl rfl rfl HA.out.2.2.2 rfl ?_) | ((with_reducible refine wpList_at 41 rfl ?_); refine wpList_ld1 59 (.tmp 40) rfl rfl rfl Tryd.underlying59 rfl CY.out ?_) | ((with_reducible refine wpList_at 43 rfl ?_); refine wpList_kn rfl (.bool true) (by exact exec_gtu rfl rfl rfl GY.out) ?_) | ((with_reducible refine wpList_at 46 rfl ?_); refine wpList_kn rfl (.int .i64 (a1 : Int)) (by exact exec_sub rfl rfl rfl (by have := HA.out; have := HJ.out; have := HN.out; rw [IntKind.wrap_i64]; omega)) ?_))
            go_roundg a1
            case measure => have := HA.out; omega
            case rel => exact ⟨by have := HA.out; omega, rfl, GZ2, Lib.hid rfl⟩
          · have GY := Lib.hid (show decide ((z : Int) < (y : Int)) = false from decide_eq_false (by omega))
            have LZ := Lib.hid (show ∀ i (h : i < l.length), i < a → l[i] ≤ z from fun i h q => by
              by_cases e : i = a - 1
              · subst e
                rw [← hy]
                omega
              · have := List.pairwise_iff_getElem.1 LS.out i (a - 1) h hal (by omega)
                rw [← hy] at this
                omega)
            clear hal hy ha1 hlt ha0 hkj
            go_upto_region 12 with (first | ((with_reducible refine wpList_at 35 rfl ?_); refine wpList_kn rfl (.bool true) (by exact exec_gtrN rfl rfl rfl GT.out) ?_) | ((with_reducible refine wpList_at 39 rfl ?_); refine wpList_kn rfl (.int .i64 (a1 : Int)) (by exact exec_sub rfl rfl rfl (by have := HA.out; have := HJ.out; have := HN.out; rw [IntKind.wrap_i64]; omega)) ?_) | ((with_reducible refine wpList_at 40 rfl ?_); refine wpList_ix (k := 1) (j := a1) Tryd.underlying54 (by kernel_rfl) (.tmp 37) (.tmp 39) rfl rfl rfl rfl HA.out.2.2.2 rfl ?_) | ((with_reducible refine wpList_at 41 rfl ?_); refine wpList_ld1 59 (.tmp 40) rfl rfl rfl Tryd.underlying59 rfl CY.out ?_) | ((with_reducible refine wpList_at 43 rfl ?_); refine wpList_kn rfl (.bool false) (by exact exec_gtu rfl rfl rfl GY.out) ?_) | ((with_reducible refine wpList_at 46 rfl ?_); refine wpList_kn rfl (.int .i64 (a1 : Int)) (by exact exec_sub rfl rfl rfl (by have := HA.out; have := HJ.out; have := HN.out; rw [IntKind.wrap_i64]; omega)) ?_))
            have hal2 : a ≤ j := AJ.out
            have hnc : j ≤ c := VV.out.row.le
            obtain ⟨q1, hq1, hq1c, RQ⟩ := row_take VV.out HJ.out.2.2.2.symm hal2
            obtain ⟨q2, o2, hq2, RP⟩ := row_drop VV.out HJ.out.2.2.2.symm hal2
            have SL1 := Lib.hid (show ∀ W, (Instr.sliceAt 54 (.slice (some ⟨g, 0, none⟩) j c) none (some (.int .i64 ((a : Nat) : Int))) none).run Tryd.prog W = .ok (.slice q1 a c) W from fun W => run_cut Tryd.underlying54 (by intro w; kernel_rfl) hq1 hq1c W)
            have SL2 := Lib.hid (show ∀ W, (Instr.sliceAt 54 (.slice (some ⟨g, 0, none⟩) j c) (some (.int .i64 ((a : Nat) : Int))) none none).run Tryd.prog W = .ok (.slice q2 (j - a) (c - a)) W from fun W => run_cutl Tryd.underlying54 (by intro w; kernel_rfl) hq2 hal2 hnc W)
            have AQ := Lib.hid (show (l.take a).length = a ∧ (l.drop a).length = j - a by rw [List.length_take, List.length_drop]; have := HJ.out; omega)
            replace RQ := Lib.hid RQ
            replace RP := Lib.hid RP
            have IL := Lib.hid (insN_sorted LS.out (by have := HJ.out; omega) GZ.out LZ.out)
            have IN := Lib.hid (insN_len (v := z) (l := l) (a := a) (by have := HJ.out; omega))
            have IP := Lib.hid (show (insN z l a).Perm ((fnumsL k0 k1 L).take (j + 1)) by rw [LP2.out]; exact (insN_perm z l a).trans (LP.out.append_right _))
            clear hal2 hnc hq1 hq1c hq2
            refine wp_region_T (Φ := fun X => VRow 1 X q1 g 0 a c (wv (lf (l.take a))) ∧ VRow 1 X q2 g o2 (j - a) (c - a) (wv (lf (l.drop a))) ∧ Below D.heap.size D X) (S := fun _ => True) (Lib.hid ⟨RQ.out, RP.out, HB.out⟩) (fun X h => ⟨h.1.below ((Below.refl _ _).drew), h.2.1.below ((Below.refl _ _).drew), h.2.2.drew⟩) (fun _ _ => trivial) (by kernel_rfl) ?_
            clear RQ RP HB VV
            intro wx TT S0
            have RQ := Lib.hid TT.out.1
            have RP := Lib.hid TT.out.2.1
            have HB := Lib.hid TT.out.2.2
            have HX := Lib.hid (Below.refl wx.heap.size wx)
            clear TT
            refine hm_run 1 48 (.slice (some ⟨g, 0, none⟩) j c) rfl rfl (by kernel_rfl) (by kernel_rfl) (by kernel_rfl) (fun _ _ _ h => h) rfl (fun _ _ => rfl) S0.out ?_
            try simp only [Act.put, lqA, lqB, lqC, lqD, lqE, lqF]
            refine hm_run 2 49 (.int .i64 ((a : Nat) : Int)) rfl rfl (by kernel_rfl) (by kernel_rfl) (by kernel_rfl) (fun _ _ _ h => h) rfl (fun _ _ => rfl) S0.out ?_
            try simp only [Act.put, lqA, lqB, lqC, lqD, lqE, lqF]
            refine hm_run 3 50 (.slice q1 a c) rfl rfl (by kernel_rfl) (by kernel_rfl) (by kernel_rfl) (fun _ _ _ h => h) rfl (fun _ _ => exec_sl rfl (SL1.out _)) S0.out ?_
            try simp only [Act.put, lqA, lqB, lqC, lqD, lqE, lqF]
            refine hm_run 5 52 (.int .u64 ((z : Nat) : Int)) rfl rfl (by kernel_rfl) (by kernel_rfl) (by kernel_rfl) (fun _ _ _ h => h) rfl (fun _ _ => rfl) S0.out ?_
            try simp only [Act.put, lqA, lqB, lqC, lqD, lqE, lqF]
            refine hm_run 8 55 (.slice (some ⟨g, 0, none⟩) j c) rfl rfl (by kernel_rfl) (by kernel_rfl) (by kernel_rfl) (fun _ _ _ h => h) rfl (fun _ _ => rfl) S0.out ?_
            try simp only [Act.put, lqA, lqB, lqC, lqD, lqE, lqF]
            refine hm_run 9 56 (.int .i64 ((a : Nat) : Int)) rfl rfl (by kernel_rfl) (by kernel_rfl) (by kernel_rfl) (fun _ _ _ h => h) rfl (fun _ _ => rfl) S0.out ?_
            try simp only [Act.put, lqA, lqB, lqC, lqD, lqE, lqF]
            refine hm_run 10 57 (.slice q2 (j - a) (c - a)) rfl rfl (by kernel_rfl) (by kernel_rfl) (by kernel_rfl) (fun _ _ _ h => h) rfl (fun _ _ => exec_sl rfl (SL2.out _)) S0.out ?_
            try simp only [Act.put, lqA, lqB, lqC, lqD, lqE, lqF]
            refine hm_two (i := 0) (j := 6) (by kernel_rfl) ?_ ?_
            · refine hm_step 0 rfl (by kernel_rfl) fun K hK => ?_
              try simp only [Act.put, lqA, lqB, lqC, lqD, lqE, lqF]
              refine mo_vbs 54 59 1 0 _ rfl (wv (lf [])) (fun i hi => absurd hi (by omega)) (by unfold maxLen; omega) (ps := #[]) (by kernel_rfl) (fun W => run_bs0 Tryd.underlying54 infoL64 W) rfl ?_
              intro p7 g7 w7 N7 hb7
              try (have NE := Lib.hid (ne_later2 N6.out N7.out))
              try (replace N6 := Lib.hid (N6.out.below hb7.out))
              replace N7 := Lib.hid (N7.out.mono HX.out.size)
              replace HX := Lib.hid (HX.out.trans (hb7.out.mono HX.out.size))
              have S0_7 := Lib.hid trivial
              clear hb7
              refine hK _ _ S0_7.out ?_
              clear hK K
              try simp only [Act.put, lqA, lqB, lqC, lqD, lqE, lqF]
              refine hm_two (i := 4) (j := 6) (by kernel_rfl) ?_ ?_
              · refine hm_step 4 rfl (by kernel_rfl) fun K hK => ?_
                try simp only [Act.put, lqA, lqB, lqC, lqD, lqE, lqF]
                refine mo_vapp 54 59 1 8 Tryd.underlying54 infoL64 rfl (by omega) (.tmp 47) (.tmp 50) rfl rfl N7 rfl (Lib.hid (RQ.out.below HX.out)) (by have := HJ.out; have := AJ.out; have := HN.out; unfold maxLen; omega) (by have := HJ.out; have := AJ.out; have := HN.out; omega) ?_
                intro p8 g8 c8 w8 N8 hg8
                rw [Nat.zero_add a] at N8 ⊢
                replace N8 := Lib.hid (N8.out.to (U := wv (lf (l.take a))) (fun i _ => by rw [Nat.zero_mul]; exact vcat_z _ _ i))
                try (replace N6 := Lib.hid (N6.out.kept hg8.out NE.out))
                replace HX := Lib.hid (HX.out.trans (N7.out.under hg8.out (Nat.le_refl _) HX.out.size))
                have S4_8 := Lib.hid trivial
                clear hg8 N7
                refine hK _ _ S4_8.out ?_
                clear hK K
                try simp only [Act.put, lqA, lqB, lqC, lqD, lqE, lqF]
                refine hm_one (i := 6) (by kernel_rfl) ?_
                refine hm_step 6 rfl (by kernel_rfl) fun K hK => ?_
                try simp only [Act.put, lqA, lqB, lqC, lqD, lqE, lqF]
                refine mo_vbs 54 59 1 1 _ rfl (wv (fun _ => z)) (fun i _ => rfl) (by unfold maxLen; omega) (ps := #[(0, .int .u64 ((z : Nat) : Int))]) (by kernel_rfl) (fun W => run_bs1v Tryd.underlying54 infoL64 _ rfl W) rfl ?_
                intro p6 g6 w6b N6 hb6
                try (have NE := Lib.hid (ne_later N7.out N6.out))
                try (replace N7 := Lib.hid (N7.out.below hb6.out))
                try (replace N8 := Lib.hid (N8.out.below hb6.out))
                replace N6 := Lib.hid (N6.out.mono HX.out.size)
                replace HX := Lib.hid (HX.out.trans (hb6.out.mono HX.out.size))
                have S6_9 := Lib.hid trivial
                clear hb6
                refine hK _ _ S6_9.out ?_
                clear hK K
                try simp only [Act.put, lqA, lqB, lqC, lqD, lqE, lqF]
                refine hm_one (i := 7) (by kernel_rfl) ?_
                refine hm_step 7 rfl (by kernel_rfl) fun K hK => ?_
                try simp only [Act.put, lqA, lqB, lqC, lqD, lqE, lqF]
                refine mo_vapp 54 59 1 8 Tryd.underlying54 infoL64 rfl (by omega) (.tmp 51) (.tmp 53) rfl rfl N8 rfl (Lib.hid N6.out.row) (by have := HJ.out; have := AJ.out; have := HN.out; unfold maxLen; omega) (by have := HJ.out; have := AJ.out; have := HN.out; omega) ?_
                intro p10 g10 c10 w10 N10 hg10
                replace N10 := Lib.hid (N10.out.to (U := wv (lf (l.take a ++ [z]))) (fun i hi => by have h := wv_one (l.take a) z i (by rw [AQ.out.1]; exact hi); rw [AQ.out.1] at h; exact h))
                replace HX := Lib.hid (HX.out.trans (N8.out.under hg10.out (Nat.le_refl _) HX.out.size))
                have S7_10 := Lib.hid trivial
                clear hg10 N8 N6
                refine hK _ _ S7_10.out ?_
                clear hK K
                try simp only [Act.put, lqA, lqB, lqC, lqD, lqE, lqF]
                refine hm_one (i := 11) (by kernel_rfl) ?_
                refine hm_step 11 rfl (by kernel_rfl) fun K hK => ?_
                try simp only [Act.put, lqA, lqB, lqC, lqD, lqE, lqF]
                refine mo_vapp 54 59 1 8 Tryd.underlying54 infoL64 rfl (by omega) (.tmp 54) (.tmp 57) rfl rfl N10 rfl (Lib.hid (RP.out.below HX.out)) (by have := HJ.out; have := AJ.out; have := HN.out; unfold maxLen; omega) (by have := HJ.out; have := AJ.out; have := HN.out; omega) ?_
                intro p12 g12 c12 w12 N12 hg12
                have EN : a + 1 + (j - a) = j + 1 := by have := AJ.out; omega
                replace N12 := Lib.hid (N12.out.to (U := wv (lf (insN z l a))) (fun i hi => by have h := wv_cat (l.take a ++ [z]) (l.drop a) i; rw [List.length_append, AQ.out.1, List.length_singleton] at h; exact h))
                rw [EN] at N12 ⊢
                replace HX := Lib.hid (HX.out.trans (N10.out.under hg12.out (Nat.le_refl _) HX.out.size))
                have S11_11 := Lib.hid trivial
                clear hg12 N10 EN
                refine hK _ _ S11_11.out ?_
                clear hK K
                try simp only [Act.put, lqA, lqB, lqC, lqD, lqE, lqF]
                refine hm_run 12 7 (.slice p12 (j + 1) c12) rfl rfl (by kernel_rfl) (by kernel_rfl) (by kernel_rfl) (fun _ _ _ h => h) rfl (fun _ _ => rfl) S11_11.out ?_
                try simp only [Act.put, lqA, lqB, lqC, lqD, lqE, lqF]
                refine wpAnyH_done (by kernel_rfl) ?_ _
                clear S11_11
                have HB0 := Lib.hid HB.out.size
                replace HB := Lib.hid (HB.out.trans (HX.out.mono HB.out.size))
                go_wp2_with ((with_reducible refine wpList_at 59 rfl ?_); refine wpList_kn rfl (.int .i64 ((j + 1 : Nat) : Int)) (by exact exec_add rfl rfl rfl (by have := HJ.out; have := HN.out; rw [IntKind.wrap_i64]; omega)) ?_)
                go_roundg (n - (j + 1))
                case measure => have := HJ.out; omega
                case rel => exact ⟨j + 1, p12, g12, c12, insN z l a, by have := HJ.out; omega, rfl, rfl, by rw [IN.out, HJ.out.2.2.2], IP, IL, Lib.hid (N12.out.mono HB0.out), HB⟩
              · refine hm_step 6 rfl (by kernel_rfl) fun K hK => ?_
                try simp only [Act.put, lqA, lqB, lqC, lqD, lqE, lqF]
                refine mo_vbs 54 59 1 1 _ rfl (wv (fun _ => z)) (fun i _ => rfl) (by unfold maxLen; omega) (ps := #[(0, .int .u64 ((z : Nat) : Int))]) (by kernel_rfl) (fun W => run_bs1v Tryd.underlying54 infoL64 _ rfl W) rfl ?_
                intro p6 g6 w6b N6 hb6
                try (have NE := Lib.hid (ne_later N7.out N6.out))
                try (replace N7 := Lib.hid (N7.out.below hb6.out))
                try (replace N8 := Lib.hid (N8.out.below hb6.out))
                replace N6 := Lib.hid (N6.out.mono HX.out.size)
                replace HX := Lib.hid (HX.out.trans (hb6.out.mono HX.out.size))
                have S6_8 := Lib.hid trivial
                clear hb6
                refine hK _ _ S6_8.out ?_
                clear hK K
                try simp only [Act.put, lqA, lqB, lqC, lqD, lqE, lqF]
                refine hm_one (i := 4) (by kernel_rfl) ?_
                refine hm_step 4 rfl (by kernel_rfl) fun K hK => ?_
                try simp only [Act.put, lqA, lqB, lqC, lqD, lqE, lqF]
                refine mo_vapp 54 59 1 8 Tryd.underlying54 infoL64 rfl (by omega) (.tmp 47) (.tmp 50) rfl rfl N7 rfl (Lib.hid (RQ.out.below HX.out)) (by have := HJ.out; have := AJ.out; have := HN.out; unfold maxLen; omega) (by have := HJ.out; have := AJ.out; have := HN.out; omega) ?_
                intro p8 g8 c8 w8 N8 hg8
                rw [Nat.zero_add a] at N8 ⊢
                replace N8 := Lib.hid (N8.out.to (U := wv (lf (l.take a))) (fun i _ => by rw [Nat.zero_mul]; exact vcat_z _ _ i))
                try (replace N6 := Lib.hid (N6.out.kept hg8.out NE.out))
                replace HX := Lib.hid (HX.out.trans (N7.out.under hg8.out (Nat.le_refl _) HX.out.size))
                have S4_9 := Lib.hid trivial
                clear hg8 N7
                refine hK _ _ S4_9.out ?_
                clear hK K
                try simp only [Act.put, lqA, lqB, lqC, lqD, lqE, lqF]
                refine hm_one (i := 7) (by kernel_rfl) ?_
                refine hm_step 7 rfl (by kernel_rfl) fun K hK => ?_
                try simp only [Act.put, lqA, lqB, lqC, lqD, lqE, lqF]
                refine mo_vapp 54 59 1 8 Tryd.underlying54 infoL64 rfl (by omega) (.tmp 51) (.tmp 53) rfl rfl N8 rfl (Lib.hid N6.out.row) (by have := HJ.out; have := AJ.out; have := HN.out; unfold maxLen; omega) (by have := HJ.out; have := AJ.out; have := HN.out; omega) ?_
                intro p10 g10 c10 w10 N10 hg10
                replace N10 := Lib.hid (N10.out.to (U := wv (lf (l.take a ++ [z]))) (fun i hi => by have h := wv_one (l.take a) z i (by rw [AQ.out.1]; exact hi); rw [AQ.out.1] at h; exact h))
                replace HX := Lib.hid (HX.out.trans (N8.out.under hg10.out (Nat.le_refl _) HX.out.size))
                have S7_10 := Lib.hid trivial
                clear hg10 N8 N6
                refine hK _ _ S7_10.out ?_
                clear hK K
                try simp only [Act.put, lqA, lqB, lqC, lqD, lqE, lqF]
                refine hm_one (i := 11) (by kernel_rfl) ?_
                refine hm_step 11 rfl (by kernel_rfl) fun K hK => ?_
                try simp only [Act.put, lqA, lqB, lqC, lqD, lqE, lqF]
                refine mo_vapp 54 59 1 8 Tryd.underlying54 infoL64 rfl (by omega) (.tmp 54) (.tmp 57) rfl rfl N10 rfl (Lib.hid (RP.out.below HX.out)) (by have := HJ.out; have := AJ.out; have := HN.out; unfold maxLen; omega) (by have := HJ.out; have := AJ.out; have := HN.out; omega) ?_
                intro p12 g12 c12 w12 N12 hg12
                have EN : a + 1 + (j - a) = j + 1 := by have := AJ.out; omega
                replace N12 := Lib.hid (N12.out.to (U := wv (lf (insN z l a))) (fun i hi => by have h := wv_cat (l.take a ++ [z]) (l.drop a) i; rw [List.length_append, AQ.out.1, List.length_singleton] at h; exact h))
                rw [EN] at N12 ⊢
                replace HX := Lib.hid (HX.out.trans (N10.out.under hg12.out (Nat.le_refl _) HX.out.size))
                have S11_11 := Lib.hid trivial
                clear hg12 N10 EN
                refine hK _ _ S11_11.out ?_
                clear hK K
                try simp only [Act.put, lqA, lqB, lqC, lqD, lqE, lqF]
                refine hm_run 12 7 (.slice p12 (j + 1) c12) rfl rfl (by kernel_rfl) (by kernel_rfl) (by kernel_rfl) (fun _ _ _ h => h) rfl (fun _ _ => rfl) S11_11.out ?_
                try simp only [Act.put, lqA, lqB, lqC, lqD, lqE, lqF]
                refine wpAnyH_done (by kernel_rfl) ?_ _
                clear S11_11
                have HB0 := Lib.hid HB.out.size
                replace HB := Lib.hid (HB.out.trans (HX.out.mono HB.out.size))
                go_wp2_with ((with_reducible refine wpList_at 59 rfl ?_); refine wpList_kn rfl (.int .i64 ((j + 1 : Nat) : Int)) (by exact exec_add rfl rfl rfl (by have := HJ.out; have := HN.out; rw [IntKind.wrap_i64]; omega)) ?_)
                go_roundg (n - (j + 1))
                case measure => have := HJ.out; omega
                case rel => exact ⟨j + 1, p12, g12, c12, insN z l a, by have := HJ.out; omega, rfl, rfl, by rw [IN.out, HJ.out.2.2.2], IP, IL, Lib.hid (N12.out.mono HB0.out), HB⟩
            · refine hm_step 6 rfl (by kernel_rfl) fun K hK => ?_
              try simp only [Act.put, lqA, lqB, lqC, lqD, lqE, lqF]
              refine mo_vbs 54 59 1 1 _ rfl (wv (fun _ => z)) (fun i _ => rfl) (by unfold maxLen; omega) (ps := #[(0, .int .u64 ((z : Nat) : Int))]) (by kernel_rfl) (fun W => run_bs1v Tryd.underlying54 infoL64 _ rfl W) rfl ?_
              intro p6 g6 w6b N6 hb6
              try (have NE := Lib.hid (ne_later N7.out N6.out))
              try (replace N7 := Lib.hid (N7.out.below hb6.out))
              try (replace N8 := Lib.hid (N8.out.below hb6.out))
              replace N6 := Lib.hid (N6.out.mono HX.out.size)
              replace HX := Lib.hid (HX.out.trans (hb6.out.mono HX.out.size))
              have S6_7 := Lib.hid trivial
              clear hb6
              refine hK _ _ S6_7.out ?_
              clear hK K
              try simp only [Act.put, lqA, lqB, lqC, lqD, lqE, lqF]
              refine hm_one (i := 0) (by kernel_rfl) ?_
              refine hm_step 0 rfl (by kernel_rfl) fun K hK => ?_
              try simp only [Act.put, lqA, lqB, lqC, lqD, lqE, lqF]
              refine mo_vbs 54 59 1 0 _ rfl (wv (lf [])) (fun i hi => absurd hi (by omega)) (by unfold maxLen; omega) (ps := #[]) (by kernel_rfl) (fun W => run_bs0 Tryd.underlying54 infoL64 W) rfl ?_
              intro p7 g7 w7 N7 hb7
              try (have NE := Lib.hid (ne_later2 N6.out N7.out))
              try (replace N6 := Lib.hid (N6.out.below hb7.out))
              replace N7 := Lib.hid (N7.out.mono HX.out.size)
              replace HX := Lib.hid (HX.out.trans (hb7.out.mono HX.out.size))
              have S0_8 := Lib.hid trivial
              clear hb7
              refine hK _ _ S0_8.out ?_
              clear hK K
              try simp only [Act.put, lqA, lqB, lqC, lqD, lqE, lqF]
              refine hm_one (i := 4) (by kernel_rfl) ?_
              refine hm_step 4 rfl (by kernel_rfl) fun K hK => ?_
              try simp only [Act.put, lqA, lqB, lqC, lqD, lqE, lqF]
              refine mo_vapp 54 59 1 8 Tryd.underlying54 infoL64 rfl (by omega) (.tmp 47) (.tmp 50) rfl rfl N7 rfl (Lib.hid (RQ.out.below HX.out)) (by have := HJ.out; have := AJ.out; have := HN.out; unfold maxLen; omega) (by have := HJ.out; have := AJ.out; have := HN.out; omega) ?_
              intro p8 g8 c8 w8 N8 hg8
              rw [Nat.zero_add a] at N8 ⊢
              replace N8 := Lib.hid (N8.out.to (U := wv (lf (l.take a))) (fun i _ => by rw [Nat.zero_mul]; exact vcat_z _ _ i))
              try (replace N6 := Lib.hid (N6.out.kept hg8.out NE.out))
              replace HX := Lib.hid (HX.out.trans (N7.out.under hg8.out (Nat.le_refl _) HX.out.size))
              have S4_9 := Lib.hid trivial
              clear hg8 N7
              refine hK _ _ S4_9.out ?_
              clear hK K
              try simp only [Act.put, lqA, lqB, lqC, lqD, lqE, lqF]
              refine hm_one (i := 7) (by kernel_rfl) ?_
              refine hm_step 7 rfl (by kernel_rfl) fun K hK => ?_
              try simp only [Act.put, lqA, lqB, lqC, lqD, lqE, lqF]
              refine mo_vapp 54 59 1 8 Tryd.underlying54 infoL64 rfl (by omega) (.tmp 51) (.tmp 53) rfl rfl N8 rfl (Lib.hid N6.out.row) (by have := HJ.out; have := AJ.out; have := HN.out; unfold maxLen; omega) (by have := HJ.out; have := AJ.out; have := HN.out; omega) ?_
              intro p10 g10 c10 w10 N10 hg10
              replace N10 := Lib.hid (N10.out.to (U := wv (lf (l.take a ++ [z]))) (fun i hi => by have h := wv_one (l.take a) z i (by rw [AQ.out.1]; exact hi); rw [AQ.out.1] at h; exact h))
              replace HX := Lib.hid (HX.out.trans (N8.out.under hg10.out (Nat.le_refl _) HX.out.size))
              have S7_10 := Lib.hid trivial
              clear hg10 N8 N6
              refine hK _ _ S7_10.out ?_
              clear hK K
              try simp only [Act.put, lqA, lqB, lqC, lqD, lqE, lqF]
              refine hm_one (i := 11) (by kernel_rfl) ?_
              refine hm_step 11 rfl (by kernel_rfl) fun K hK => ?_
              try simp only [Act.put, lqA, lqB, lqC, lqD, lqE, lqF]
              refine mo_vapp 54 59 1 8 Tryd.underlying54 infoL64 rfl (by omega) (.tmp 54) (.tmp 57) rfl rfl N10 rfl (Lib.hid (RP.out.below HX.out)) (by have := HJ.out; have := AJ.out; have := HN.out; unfold maxLen; omega) (by have := HJ.out; have := AJ.out; have := HN.out; omega) ?_
              intro p12 g12 c12 w12 N12 hg12
              have EN : a + 1 + (j - a) = j + 1 := by have := AJ.out; omega
              replace N12 := Lib.hid (N12.out.to (U := wv (lf (insN z l a))) (fun i hi => by have h := wv_cat (l.take a ++ [z]) (l.drop a) i; rw [List.length_append, AQ.out.1, List.length_singleton] at h; exact h))
              rw [EN] at N12 ⊢
              replace HX := Lib.hid (HX.out.trans (N10.out.under hg12.out (Nat.le_refl _) HX.out.size))
              have S11_11 := Lib.hid trivial
              clear hg12 N10 EN
              refine hK _ _ S11_11.out ?_
              clear hK K
              try simp only [Act.put, lqA, lqB, lqC, lqD, lqE, lqF]
              refine hm_run 12 7 (.slice p12 (j + 1) c12) rfl rfl (by kernel_rfl) (by kernel_rfl) (by kernel_rfl) (fun _ _ _ h => h) rfl (fun _ _ => rfl) S11_11.out ?_
              try simp only [Act.put, lqA, lqB, lqC, lqD, lqE, lqF]
              refine wpAnyH_done (by kernel_rfl) ?_ _
              clear S11_11
              have HB0 := Lib.hid HB.out.size
              replace HB := Lib.hid (HB.out.trans (HX.out.mono HB.out.size))
              go_wp2_with ((with_reducible refine wpList_at 59 rfl ?_); refine wpList_kn rfl (.int .i64 ((j + 1 : Nat) : Int)) (by exact exec_add rfl rfl rfl (by have := HJ.out; have := HN.out; rw [IntKind.wrap_i64]; omega)) ?_)
              go_roundg (n - (j + 1))
              case measure => have := HJ.out; omega
              case rel => exact ⟨j + 1, p12, g12, c12, insN z l a, by have := HJ.out; omega, rfl, rfl, by rw [IN.out, HJ.out.2.2.2], IP, IL, Lib.hid (N12.out.mono HB0.out), HB⟩
        · have ha : a = 0 := by omega
          have GT := Lib.hid (show decide ((0 : Int) < (a : Int)) = false from decide_eq_false (by omega))
          have LZ := Lib.hid (show ∀ i (h : i < l.length), i < a → l[i] ≤ z from fun i h q => absurd q (by omega))
          clear ha
          clear ha0 hkj
          go_upto_region 12 with (first | ((with_reducible refine wpList_at 35 rfl ?_); refine wpList_kn rfl (.bool false) (by exact exec_gtrN rfl rfl rfl GT.out) ?_))
          have hal2 : a ≤ j := AJ.out
          have hnc : j ≤ c := VV.out.row.le
          obtain ⟨q1, hq1, hq1c, RQ⟩ := row_take VV.out HJ.out.2.2.2.symm hal2
          obtain ⟨q2, o2, hq2, RP⟩ := row_drop VV.out HJ.out.2.2.2.symm hal2
          have SL1 := Lib.hid (show ∀ W, (Instr.sliceAt 54 (.slice p j c) none (some (.int .i64 ((a : Nat) : Int))) none).run Tryd.prog W = .ok (.slice q1 a c) W from fun W => run_cut Tryd.underlying54 (by intro w; kernel_rfl) hq1 hq1c W)
          have SL2 := Lib.hid (show ∀ W, (Instr.sliceAt 54 (.slice p j c) (some (.int .i64 ((a : Nat) : Int))) none none).run Tryd.prog W = .ok (.slice q2 (j - a) (c - a)) W from fun W => run_cutl Tryd.underlying54 (by intro w; kernel_rfl) hq2 hal2 hnc W)
          have AQ := Lib.hid (show (l.take a).length = a ∧ (l.drop a).length = j - a by rw [List.length_take, List.length_drop]; have := HJ.out; omega)
          replace RQ := Lib.hid RQ
          replace RP := Lib.hid RP
          have IL := Lib.hid (insN_sorted LS.out (by have := HJ.out; omega) GZ.out LZ.out)
          have IN := Lib.hid (insN_len (v := z) (l := l) (a := a) (by have := HJ.out; omega))
          have IP := Lib.hid (show (insN z l a).Perm ((fnumsL k0 k1 L).take (j + 1)) by rw [LP2.out]; exact (insN_perm z l a).trans (LP.out.append_right _))
          clear hal2 hnc hq1 hq1c hq2
          refine wp_region_T (Φ := fun X => VRow 1 X q1 g 0 a c (wv (lf (l.take a))) ∧ VRow 1 X q2 g o2 (j - a) (c - a) (wv (lf (l.drop a))) ∧ Below D.heap.size D X) (S := fun _ => True) (Lib.hid ⟨RQ.out, RP.out, HB.out⟩) (fun X h => ⟨h.1.below ((Below.refl _ _).drew), h.2.1.below ((Below.refl _ _).drew), h.2.2.drew⟩) (fun _ _ => trivial) (by kernel_rfl) ?_
          clear RQ RP HB VV
          intro wx TT S0
          have RQ := Lib.hid TT.out.1
          have RP := Lib.hid TT.out.2.1
          have HB := Lib.hid TT.out.2.2
          have HX := Lib.hid (Below.refl wx.heap.size wx)
          clear TT
          refine hm_run 1 48 (.slice p j c) rfl rfl (by kernel_rfl) (by kernel_rfl) (by kernel_rfl) (fun _ _ _ h => h) rfl (fun _ _ => rfl) S0.out ?_
          try simp only [Act.put, lqA, lqB, lqC, lqD, lqE, lqF]
          refine hm_run 2 49 (.int .i64 ((a : Nat) : Int)) rfl rfl (by kernel_rfl) (by kernel_rfl) (by kernel_rfl) (fun _ _ _ h => h) rfl (fun _ _ => rfl) S0.out ?_
          try simp only [Act.put, lqA, lqB, lqC, lqD, lqE, lqF]
          refine hm_run 3 50 (.slice q1 a c) rfl rfl (by kernel_rfl) (by kernel_rfl) (by kernel_rfl) (fun _ _ _ h => h) rfl (fun _ _ => exec_sl rfl (SL1.out _)) S0.out ?_
          try simp only [Act.put, lqA, lqB, lqC, lqD, lqE, lqF]
          refine hm_run 5 52 (.int .u64 ((z : Nat) : Int)) rfl rfl (by kernel_rfl) (by kernel_rfl) (by kernel_rfl) (fun _ _ _ h => h) rfl (fun _ _ => rfl) S0.out ?_
          try simp only [Act.put, lqA, lqB, lqC, lqD, lqE, lqF]
          refine hm_run 8 55 (.slice p j c) rfl rfl (by kernel_rfl) (by kernel_rfl) (by kernel_rfl) (fun _ _ _ h => h) rfl (fun _ _ => rfl) S0.out ?_
          try simp only [Act.put, lqA, lqB, lqC, lqD, lqE, lqF]
          refine hm_run 9 56 (.int .i64 ((a : Nat) : Int)) rfl rfl (by kernel_rfl) (by kernel_rfl) (by kernel_rfl) (fun _ _ _ h => h) rfl (fun _ _ => rfl) S0.out ?_
          try simp only [Act.put, lqA, lqB, lqC, lqD, lqE, lqF]
          refine hm_run 10 57 (.slice q2 (j - a) (c - a)) rfl rfl (by kernel_rfl) (by kernel_rfl) (by kernel_rfl) (fun _ _ _ h => h) rfl (fun _ _ => exec_sl rfl (SL2.out _)) S0.out ?_
          try simp only [Act.put, lqA, lqB, lqC, lqD, lqE, lqF]
          refine hm_two (i := 0) (j := 6) (by kernel_rfl) ?_ ?_
          · refine hm_step 0 rfl (by kernel_rfl) fun K hK => ?_
            try simp only [Act.put, lqA, lqB, lqC, lqD, lqE, lqF]
            refine mo_vbs 54 59 1 0 _ rfl (wv (lf [])) (fun i hi => absurd hi (by omega)) (by unfold maxLen; omega) (ps := #[]) (by kernel_rfl) (fun W => run_bs0 Tryd.underlying54 infoL64 W) rfl ?_
            intro p7 g7 w7 N7 hb7
            try (have NE := Lib.hid (ne_later2 N6.out N7.out))
            try (replace N6 := Lib.hid (N6.out.below hb7.out))
            replace N7 := Lib.hid (N7.out.mono HX.out.size)
            replace HX := Lib.hid (HX.out.trans (hb7.out.mono HX.out.size))
            have S0_7 := Lib.hid trivial
            clear hb7
            refine hK _ _ S0_7.out ?_
            clear hK K
            try simp only [Act.put, lqA, lqB, lqC, lqD, lqE, lqF]
            refine hm_two (i := 4) (j := 6) (by kernel_rfl) ?_ ?_
            · refine hm_step 4 rfl (by kernel_rfl) fun K hK => ?_
              try simp only [Act.put, lqA, lqB, lqC, lqD, lqE, lqF]
              refine mo_vapp 54 59 1 8 Tryd.underlying54 infoL64 rfl (by omega) (.tmp 47) (.tmp 50) rfl rfl N7 rfl (Lib.hid (RQ.out.below HX.out)) (by have := HJ.out; have := AJ.out; have := HN.out; unfold maxLen; omega) (by have := HJ.out; have := AJ.out; have := HN.out; omega) ?_
              intro p8 g8 c8 w8 N8 hg8
              rw [Nat.zero_add a] at N8 ⊢
              replace N8 := Lib.hid (N8.out.to (U := wv (lf (l.take a))) (fun i _ => by rw [Nat.zero_mul]; exact vcat_z _ _ i))
              try (replace N6 := Lib.hid (N6.out.kept hg8.out NE.out))
              replace HX := Lib.hid (HX.out.trans (N7.out.under hg8.out (Nat.le_refl _) HX.out.size))
              have S4_8 := Lib.hid trivial
              clear hg8 N7
              refine hK _ _ S4_8.out ?_
              clear hK K
              try simp only [Act.put, lqA, lqB, lqC, lqD, lqE, lqF]
              refine hm_one (i := 6) (by kernel_rfl) ?_
              refine hm_step 6 rfl (by kernel_rfl) fun K hK => ?_
              try simp only [Act.put, lqA, lqB, lqC, lqD, lqE, lqF]
              refine mo_vbs 54 59 1 1 _ rfl (wv (fun _ => z)) (fun i _ => rfl) (by unfold maxLen; omega) (ps := #[(0, .int .u64 ((z : Nat) : Int))]) (by kernel_rfl) (fun W => run_bs1v Tryd.underlying54 infoL64 _ rfl W) rfl ?_
              intro p6 g6 w6b N6 hb6
              try (have NE := Lib.hid (ne_later N7.out N6.out))
              try (replace N7 := Lib.hid (N7.out.below hb6.out))
              try (replace N8 := Lib.hid (N8.out.below hb6.out))
              replace N6 := Lib.hid (N6.out.mono HX.out.size)
              replace HX := Lib.hid (HX.out.trans (hb6.out.mono HX.out.size))
              have S6_9 := Lib.hid trivial
              clear hb6
              refine hK _ _ S6_9.out ?_
              clear hK K
              try simp only [Act.put, lqA, lqB, lqC, lqD, lqE, lqF]
              refine hm_one (i := 7) (by kernel_rfl) ?_
              refine hm_step 7 rfl (by kernel_rfl) fun K hK => ?_
              try simp only [Act.put, lqA, lqB, lqC, lqD, lqE, lqF]
              refine mo_vapp 54 59 1 8 Tryd.underlying54 infoL64 rfl (by omega) (.tmp 51) (.tmp 53) rfl rfl N8 rfl (Lib.hid N6.out.row) (by have := HJ.out; have := AJ.out; have := HN.out; unfold maxLen; omega) (by have := HJ.out; have := AJ.out; have := HN.out; omega) ?_
              intro p10 g10 c10 w10 N10 hg10
              replace N10 := Lib.hid (N10.out.to (U := wv (lf (l.take a ++ [z]))) (fun i hi => by have h := wv_one (l.take a) z i (by rw [AQ.out.1]; exact hi); rw [AQ.out.1] at h; exact h))
              replace HX := Lib.hid (HX.out.trans (N8.out.under hg10.out (Nat.le_refl _) HX.out.size))
              have S7_10 := Lib.hid trivial
              clear hg10 N8 N6
              refine hK _ _ S7_10.out ?_
              clear hK K
              try simp only [Act.put, lqA, lqB, lqC, lqD, lqE, lqF]
              refine hm_one (i := 11) (by kernel_rfl) ?_
              refine hm_step 11 rfl (by kernel_rfl) fun K hK => ?_
              try simp only [Act.put, lqA, lqB, lqC, lqD, lqE, lqF]
              refine mo_vapp 54 59 1 8 Tryd.underlying54 infoL64 rfl (by omega) (.tmp 54) (.tmp 57) rfl rfl N10 rfl (Lib.hid (RP.out.below HX.out)) (by have := HJ.out; have := AJ.out; have := HN.out; unfold maxLen; omega) (by have := HJ.out; have := AJ.out; have := HN.out; omega) ?_
              intro p12 g12 c12 w12 N12 hg12
              have EN : a + 1 + (j - a) = j + 1 := by have := AJ.out; omega
              replace N12 := Lib.hid (N12.out.to (U := wv (lf (insN z l a))) (fun i hi => by have h := wv_cat (l.take a ++ [z]) (l.drop a) i; rw [List.length_append, AQ.out.1, List.length_singleton] at h; exact h))
              rw [EN] at N12 ⊢
              replace HX := Lib.hid (HX.out.trans (N10.out.under hg12.out (Nat.le_refl _) HX.out.size))
              have S11_11 := Lib.hid trivial
              clear hg12 N10 EN
              refine hK _ _ S11_11.out ?_
              clear hK K
              try simp only [Act.put, lqA, lqB, lqC, lqD, lqE, lqF]
              refine hm_run 12 7 (.slice p12 (j + 1) c12) rfl rfl (by kernel_rfl) (by kernel_rfl) (by kernel_rfl) (fun _ _ _ h => h) rfl (fun _ _ => rfl) S11_11.out ?_
              try simp only [Act.put, lqA, lqB, lqC, lqD, lqE, lqF]
              refine wpAnyH_done (by kernel_rfl) ?_ _
              clear S11_11
              have HB0 := Lib.hid HB.out.size
              replace HB := Lib.hid (HB.out.trans (HX.out.mono HB.out.size))
              go_wp2_with ((with_reducible refine wpList_at 59 rfl ?_); refine wpList_kn rfl (.int .i64 ((j + 1 : Nat) : Int)) (by exact exec_add rfl rfl rfl (by have := HJ.out; have := HN.out; rw [IntKind.wrap_i64]; omega)) ?_)
              go_roundg (n - (j + 1))
              case measure => have := HJ.out; omega
              case rel => exact ⟨j + 1, p12, g12, c12, insN z l a, by have := HJ.out; omega, rfl, rfl, by rw [IN.out, HJ.out.2.2.2], IP, IL, Lib.hid (N12.out.mono HB0.out), HB⟩
            · refine hm_step 6 rfl (by kernel_rfl) fun K hK => ?_
              try simp only [Act.put, lqA, lqB, lqC, lqD, lqE, lqF]
              refine mo_vbs 54 59 1 1 _ rfl (wv (fun _ => z)) (fun i _ => rfl) (by unfold maxLen; omega) (ps := #[(0, .int .u64 ((z : Nat) : Int))]) (by kernel_rfl) (fun W => run_bs1v Tryd.underlying54 infoL64 _ rfl W) rfl ?_
              intro p6 g6 w6b N6 hb6
              try (have NE := Lib.hid (ne_later N7.out N6.out))
              try (replace N7 := Lib.hid (N7.out.below hb6.out))
              try (replace N8 := Lib.hid (N8.out.below hb6.out))
              replace N6 := Lib.hid (N6.out.mono HX.out.size)
              replace HX := Lib.hid (HX.out.trans (hb6.out.mono HX.out.size))
              have S6_8 := Lib.hid trivial
              clear hb6
              refine hK _ _ S6_8.out ?_
              clear hK K
              try simp only [Act.put, lqA, lqB, lqC, lqD, lqE, lqF]
              refine hm_one (i := 4) (by kernel_rfl) ?_
              refine hm_step 4 rfl (by kernel_rfl) fun K hK => ?_
              try simp only [Act.put, lqA, lqB, lqC, lqD, lqE, lqF]
              refine mo_vapp 54 59 1 8 Tryd.underlying54 infoL64 rfl (by omega) (.tmp 47) (.tmp 50) rfl rfl N7 rfl (Lib.hid (RQ.out.below HX.out)) (by have := HJ.out; have := AJ.out; have := HN.out; unfold maxLen; omega) (by have := HJ.out; have := AJ.out; have := HN.out; omega) ?_
              intro p8 g8 c8 w8 N8 hg8
              rw [Nat.zero_add a] at N8 ⊢
              replace N8 := Lib.hid (N8.out.to (U := wv (lf (l.take a))) (fun i _ => by rw [Nat.zero_mul]; exact vcat_z _ _ i))
              try (replace N6 := Lib.hid (N6.out.kept hg8.out NE.out))
              replace HX := Lib.hid (HX.out.trans (N7.out.under hg8.out (Nat.le_refl _) HX.out.size))
              have S4_9 := Lib.hid trivial
              clear hg8 N7
              refine hK _ _ S4_9.out ?_
              clear hK K
              try simp only [Act.put, lqA, lqB, lqC, lqD, lqE, lqF]
              refine hm_one (i := 7) (by kernel_rfl) ?_
              refine hm_step 7 rfl (by kernel_rfl) fun K hK => ?_
              try simp only [Act.put, lqA, lqB, lqC, lqD, lqE, lqF]
              refine mo_vapp 54 59 1 8 Tryd.underlying54 infoL64 rfl (by omega) (.tmp 51) (.tmp 53) rfl rfl N8 rfl (Lib.hid N6.out.row) (by have := HJ.out; have := AJ.out; have := HN.out; unfold maxLen; omega) (by have := HJ.out; have := AJ.out; have := HN.out; omega) ?_
              intro p10 g10 c10 w10 N10 hg10
              replace N10 := Lib.hid (N10.out.to (U := wv (lf (l.take a ++ [z]))) (fun i hi => by have h := wv_one (l.take a) z i (by rw [AQ.out.1]; exact hi); rw [AQ.out.1] at h; exact h))
              replace HX := Lib.hid (HX.out.trans (N8.out.under hg10.out (Nat.le_refl _) HX.out.size))
              have S7_10 := Lib.hid trivial
              clear hg10 N8 N6
              refine hK _ _ S7_10.out ?_
              clear hK K
              try simp only [Act.put, lqA, lqB, lqC, lqD, lqE, lqF]
              refine hm_one (i := 11) (by kernel_rfl) ?_
              refine hm_step 11 rfl (by kernel_rfl) fun K hK => ?_
              try simp only [Act.put, lqA, lqB, lqC, lqD, lqE, lqF]
              refine mo_vapp 54 59 1 8 Tryd.underlying54 infoL64 rfl (by omega) (.tmp 54) (.tmp 57) rfl rfl N10 rfl (Lib.hid (RP.out.below HX.out)) (by have := HJ.out; have := AJ.out; have := HN.out; unfold maxLen; omega) (by have := HJ.out; have := AJ.out; have := HN.out; omega) ?_
              intro p12 g12 c12 w12 N12 hg12
              have EN : a + 1 + (j - a) = j + 1 := by have := AJ.out; omega
              replace N12 := Lib.hid (N12.out.to (U := wv (lf (insN z l a))) (fun i hi => by have h := wv_cat (l.take a ++ [z]) (l.drop a) i; rw [List.length_append, AQ.out.1, List.length_singleton] at h; exact h))
              rw [EN] at N12 ⊢
              replace HX := Lib.hid (HX.out.trans (N10.out.under hg12.out (Nat.le_refl _) HX.out.size))
              have S11_11 := Lib.hid trivial
              clear hg12 N10 EN
              refine hK _ _ S11_11.out ?_
              clear hK K
              try simp only [Act.put, lqA, lqB, lqC, lqD, lqE, lqF]
              refine hm_run 12 7 (.slice p12 (j + 1) c12) rfl rfl (by kernel_rfl) (by kernel_rfl) (by kernel_rfl) (fun _ _ _ h => h) rfl (fun _ _ => rfl) S11_11.out ?_
              try simp only [Act.put, lqA, lqB, lqC, lqD, lqE, lqF]
              refine wpAnyH_done (by kernel_rfl) ?_ _
              clear S11_11
              have HB0 := Lib.hid HB.out.size
              replace HB := Lib.hid (HB.out.trans (HX.out.mono HB.out.size))
              go_wp2_with ((with_reducible refine wpList_at 59 rfl ?_); refine wpList_kn rfl (.int .i64 ((j + 1 : Nat) : Int)) (by exact exec_add rfl rfl rfl (by have := HJ.out; have := HN.out; rw [IntKind.wrap_i64]; omega)) ?_)
              go_roundg (n - (j + 1))
              case measure => have := HJ.out; omega
              case rel => exact ⟨j + 1, p12, g12, c12, insN z l a, by have := HJ.out; omega, rfl, rfl, by rw [IN.out, HJ.out.2.2.2], IP, IL, Lib.hid (N12.out.mono HB0.out), HB⟩
          · refine hm_step 6 rfl (by kernel_rfl) fun K hK => ?_
            try simp only [Act.put, lqA, lqB, lqC, lqD, lqE, lqF]
            refine mo_vbs 54 59 1 1 _ rfl (wv (fun _ => z)) (fun i _ => rfl) (by unfold maxLen; omega) (ps := #[(0, .int .u64 ((z : Nat) : Int))]) (by kernel_rfl) (fun W => run_bs1v Tryd.underlying54 infoL64 _ rfl W) rfl ?_
            intro p6 g6 w6b N6 hb6
            try (have NE := Lib.hid (ne_later N7.out N6.out))
            try (replace N7 := Lib.hid (N7.out.below hb6.out))
            try (replace N8 := Lib.hid (N8.out.below hb6.out))
            replace N6 := Lib.hid (N6.out.mono HX.out.size)
            replace HX := Lib.hid (HX.out.trans (hb6.out.mono HX.out.size))
            have S6_7 := Lib.hid trivial
            clear hb6
            refine hK _ _ S6_7.out ?_
            clear hK K
            try simp only [Act.put, lqA, lqB, lqC, lqD, lqE, lqF]
            refine hm_one (i := 0) (by kernel_rfl) ?_
            refine hm_step 0 rfl (by kernel_rfl) fun K hK => ?_
            try simp only [Act.put, lqA, lqB, lqC, lqD, lqE, lqF]
            refine mo_vbs 54 59 1 0 _ rfl (wv (lf [])) (fun i hi => absurd hi (by omega)) (by unfold maxLen; omega) (ps := #[]) (by kernel_rfl) (fun W => run_bs0 Tryd.underlying54 infoL64 W) rfl ?_
            intro p7 g7 w7 N7 hb7
            try (have NE := Lib.hid (ne_later2 N6.out N7.out))
            try (replace N6 := Lib.hid (N6.out.below hb7.out))
            replace N7 := Lib.hid (N7.out.mono HX.out.size)
            replace HX := Lib.hid (HX.out.trans (hb7.out.mono HX.out.size))
            have S0_8 := Lib.hid trivial
            clear hb7
            refine hK _ _ S0_8.out ?_
            clear hK K
            try simp only [Act.put, lqA, lqB, lqC, lqD, lqE, lqF]
            refine hm_one (i := 4) (by kernel_rfl) ?_
            refine hm_step 4 rfl (by kernel_rfl) fun K hK => ?_
            try simp only [Act.put, lqA, lqB, lqC, lqD, lqE, lqF]
            refine mo_vapp 54 59 1 8 Tryd.underlying54 infoL64 rfl (by omega) (.tmp 47) (.tmp 50) rfl rfl N7 rfl (Lib.hid (RQ.out.below HX.out)) (by have := HJ.out; have := AJ.out; have := HN.out; unfold maxLen; omega) (by have := HJ.out; have := AJ.out; have := HN.out; omega) ?_
            intro p8 g8 c8 w8 N8 hg8
            rw [Nat.zero_add a] at N8 ⊢
            replace N8 := Lib.hid (N8.out.to (U := wv (lf (l.take a))) (fun i _ => by rw [Nat.zero_mul]; exact vcat_z _ _ i))
            try (replace N6 := Lib.hid (N6.out.kept hg8.out NE.out))
            replace HX := Lib.hid (HX.out.trans (N7.out.under hg8.out (Nat.le_refl _) HX.out.size))
            have S4_9 := Lib.hid trivial
            clear hg8 N7
            refine hK _ _ S4_9.out ?_
            clear hK K
            try simp only [Act.put, lqA, lqB, lqC, lqD, lqE, lqF]
            refine hm_one (i := 7) (by kernel_rfl) ?_
            refine hm_step 7 rfl (by kernel_rfl) fun K hK => ?_
            try simp only [Act.put, lqA, lqB, lqC, lqD, lqE, lqF]
            refine mo_vapp 54 59 1 8 Tryd.underlying54 infoL64 rfl (by omega) (.tmp 51) (.tmp 53) rfl rfl N8 rfl (Lib.hid N6.out.row) (by have := HJ.out; have := AJ.out; have := HN.out; unfold maxLen; omega) (by have := HJ.out; have := AJ.out; have := HN.out; omega) ?_
            intro p10 g10 c10 w10 N10 hg10
            replace N10 := Lib.hid (N10.out.to (U := wv (lf (l.take a ++ [z]))) (fun i hi => by have h := wv_one (l.take a) z i (by rw [AQ.out.1]; exact hi); rw [AQ.out.1] at h; exact h))
            replace HX := Lib.hid (HX.out.trans (N8.out.under hg10.out (Nat.le_refl _) HX.out.size))
            have S7_10 := Lib.hid trivial
            clear hg10 N8 N6
            refine hK _ _ S7_10.out ?_
            clear hK K
            try simp only [Act.put, lqA, lqB, lqC, lqD, lqE, lqF]
            refine hm_one (i := 11) (by kernel_rfl) ?_
            refine hm_step 11 rfl (by kernel_rfl) fun K hK => ?_
            try simp only [Act.put, lqA, lqB, lqC, lqD, lqE, lqF]
            refine mo_vapp 54 59 1 8 Tryd.underlying54 infoL64 rfl (by omega) (.tmp 54) (.tmp 57) rfl rfl N10 rfl (Lib.hid (RP.out.below HX.out)) (by have := HJ.out; have := AJ.out; have := HN.out; unfold maxLen; omega) (by have := HJ.out; have := AJ.out; have := HN.out; omega) ?_
            intro p12 g12 c12 w12 N12 hg12
            have EN : a + 1 + (j - a) = j + 1 := by have := AJ.out; omega
            replace N12 := Lib.hid (N12.out.to (U := wv (lf (insN z l a))) (fun i hi => by have h := wv_cat (l.take a ++ [z]) (l.drop a) i; rw [List.length_append, AQ.out.1, List.length_singleton] at h; exact h))
            rw [EN] at N12 ⊢
            replace HX := Lib.hid (HX.out.trans (N10.out.under hg12.out (Nat.le_refl _) HX.out.size))
            have S11_11 := Lib.hid trivial
            clear hg12 N10 EN
            refine hK _ _ S11_11.out ?_
            clear hK K
            try simp only [Act.put, lqA, lqB, lqC, lqD, lqE, lqF]
            refine hm_run 12 7 (.slice p12 (j + 1) c12) rfl rfl (by kernel_rfl) (by kernel_rfl) (by kernel_rfl) (fun _ _ _ h => h) rfl (fun _ _ => rfl) S11_11.out ?_
            try simp only [Act.put, lqA, lqB, lqC, lqD, lqE, lqF]
            refine wpAnyH_done (by kernel_rfl) ?_ _
            clear S11_11
            have HB0 := Lib.hid HB.out.size
            replace HB := Lib.hid (HB.out.trans (HX.out.mono HB.out.size))
            go_wp2_with ((with_reducible refine wpList_at 59 rfl ?_); refine wpList_kn rfl (.int .i64 ((j + 1 : Nat) : Int)) (by exact exec_add rfl rfl rfl (by have := HJ.out; have := HN.out; rw [IntKind.wrap_i64]; omega)) ?_)
            go_roundg (n - (j + 1))
            case measure => have := HJ.out; omega
            case rel => exact ⟨j + 1, p12, g12, c12, insN z l a, by have := HJ.out; omega, rfl, rfl, by rw [IN.out, HJ.out.2.2.2], IP, IL, Lib.hid (N12.out.mono HB0.out), HB⟩
    · have LT := Lib.hid (show decide ((j : Int) < (n : Int)) = false from decide_eq_false (by omega))
      obtain rfl : j = n := by omega
      have SE := Lib.hid (show l = sortN (fnumsL k0 k1 L) from sortN_unique (by
        have h := LP.out
        rwa [List.take_of_length_le (by rw [fnums_len]; have := HN.out; omega)] at h) LS.out)
      clear hlt hj hkk hll LP FL
      obtain ⟨S, hS⟩ : ∃ S, S = sortN (fnumsL k0 k1 L) := ⟨_, rfl⟩
      rw [← hS] at SM SL HF SE
      obtain rfl := SE.out
      have SO := LS
      clear hS
      obtain ⟨TOT, hTOT⟩ : ∃ T, T = codesL 0 l := ⟨_, rfl⟩
      rw [← hTOT] at HF
      have T0 := Lib.hid (show [] ++ codesL 0 (l.drop 0) = TOT by rw [hTOT]; rfl)
      have VS := VV
      clear hTOT LS VV
      go_upto_region 17 with (first | ((with_reducible refine wpList_at 24 rfl ?_); refine wpList_kn rfl (.bool false) (by exact exec_lssi rfl rfl rfl LT.out) ?_) | (refine wpList_bld 75 _ rfl rfl (ps := #[]) (by kernel_rfl) built_xw ?_) | (refine do_box rfl (.tmp 60) rfl rfl ?_; intro bx w3x BX; have HD := Lib.hid BX.out.1; have WT := Lib.hid (show Xtr Wr w3x bx [] from ⟨⟨none, 0, 0, BX.out.2.2, vown_nothing _ _ _ _ _ BX.out.1.size⟩, BX.out.2.1, by simp⟩); clear BX))
      go_loopg [13, 64] j (fun k s13 s64 wr => ∃ (i a : Nat) (bl : List Bool), i + k = j ∧ s13 = .int .u64 ((a : Nat) : Int) ∧ s64 = .int .i64 (i : Int) ∧ bl.length ≤ i * 70000 ∧ Hid (bl ++ codesL a (l.drop i) = TOT) ∧ Hid (a < 15700000000 ∧ ∀ q (h : q < l.length), i ≤ q → a ≤ l[q]) ∧ Hid (Xtr Wr wr bx bl) ∧ Hid (Below Wr.heap.size Wr wr))
      case atStart => exact ⟨0, 0, [], by omega, rfl, rfl, by simp, T0, Lib.hid ⟨by omega, fun _ _ _ => Nat.zero_le _⟩, WT, HD⟩
      case round =>
        clear T0 WT HD
        obtain ⟨i, a, bl, hi, rfl, rfl, hll, TT, AA, WT, HD⟩ := hrel
        obtain ⟨k2, hk2⟩ : ∃ k2 : Nat, k2 = gk := ⟨_, rfl⟩
        rw [← hk2] at hi
        obtain ⟨Wr2, hWr2⟩ : ∃ D, D = wr := ⟨_, rfl⟩
        subst hWr2
        by_cases hlt : i < j
        · have LT2 := Lib.hid (show decide ((i : Int) < (j : Int)) = true from decide_eq_true (by omega))
          obtain rfl : p = some ⟨g, 0, none⟩ := VS.out.row.head (by omega)
          have hiS : i < l.length := by rw [SL.out]; exact hlt
          obtain ⟨vv, hvv⟩ : ∃ vv, vv = l[i] := ⟨_, rfl⟩
          have hav : a ≤ vv := by rw [hvv]; exact AA.out.2 i hiS (Nat.le_refl _)
          have hvm : vv < 15700000000 := by rw [hvv]; exact SM.out _ (List.getElem_mem hiS)
          have CC := Lib.hid (show Wr2.cell? ⟨g, 0 + i * 1, none⟩ = some (.int .u64 (vv : Int)) from by
            have h := (VS.out.row.below HD.out).cell i (by omega)
            rw [hvv, ← lf_get hiS]
            rw [Nat.mul_one]
            exact h)
          obtain ⟨dd, hdd⟩ : ∃ dd, dd = vv - a := ⟨_, rfl⟩
          have hq : dd / 2 ^ 19 ≤ 65535 := by
            rw [show (2 : Nat) ^ 19 = 524288 from by decide]
            omega
          have CW := Lib.hid (show Calls Tryd.prog 42 #[.pointer (some ⟨bx, 0, none⟩), .int .u64 (dd : Int), .int .i64 19] Wr2 (XPost Wr Wr2 bx (bl ++ codeOf dd 19) (.int .i64 0)) from xrice_any WT.out dd 19 (by omega) (by decide) hq (by have := HN.out; omega))
          have TT2 := Lib.hid (show (bl ++ codeOf dd 19) ++ codesL vv (l.drop (i + 1)) = TOT by
            rw [← TT.out, List.drop_eq_getElem_cons hiS, ← hvv, hdd, List.append_assoc]
            rfl)
          have AA2 := Lib.hid (show vv < 15700000000 ∧ ∀ q (h : q < l.length), i + 1 ≤ q → vv ≤ l[q] from ⟨hvm, fun q hq2 h2 => by rw [hvv]; exact List.pairwise_iff_getElem.1 SO.out i q hiS hq2 (by omega)⟩)
          have LN := Lib.hid (show (bl ++ codeOf dd 19).length ≤ (i + 1) * 70000 by rw [List.length_append, codeOf_length]; omega)
          have HX := Lib.hid (show dd = vv - a ∧ a ≤ vv ∧ vv < 15700000000 ∧ i < j ∧ i + k2 = j from ⟨hdd, hav, hvm, hlt, hi⟩)
          have HK2 := Lib.hid hk2
          clear hiS hvv hav hvm hdd hq hlt hi hll TT AA WT hk2
          go_wp2_with (first | ((with_reducible refine wpList_at 65 rfl ?_); refine wpList_kn rfl (.bool true) (by exact exec_lssi rfl rfl rfl LT2.out) ?_) | ((with_reducible refine wpList_at 66 rfl ?_); refine wpList_ix (k := 1) (j := i) Tryd.underlying54 (by kernel_rfl) (.tmp 62) (.tmp 64) rfl rfl rfl rfl HX.out.2.2.2.1 rfl ?_) | ((with_reducible refine wpList_at 67 rfl ?_); refine wpList_ld1 59 (.tmp 66) rfl rfl rfl Tryd.underlying59 rfl CC.out ?_) | ((with_reducible refine wpList_at 71 rfl ?_); refine wpList_kn rfl (.int .u64 (dd : Int)) (by exact exec_sub64 rfl rfl rfl (by have := HX.out; rw [IntKind.wrap_u64]; omega)) ?_) | (go_at_call 42; (with_reducible refine CW.out.mono ?_); rintro e w11 ⟨rfl, hW, hb, _⟩; have WT := Lib.hid hW; replace HD := Lib.hid (HD.out.trans hb); clear hW hb) | ((with_reducible refine wpList_at 74 rfl ?_); refine wpList_kn rfl (.int .i64 ((i + 1 : Nat) : Int)) (by exact exec_add rfl rfl rfl (by have := HX.out; have := HN.out; rw [IntKind.wrap_i64]; omega)) ?_))
          go_roundg (j - (i + 1))
          case measure => have := HX.out; have := HK2.out; omega
          case rel => exact ⟨i + 1, vv, bl ++ codeOf dd 19, by have := HX.out; omega, rfl, rfl, LN.out, TT2, AA2, WT, HD⟩
        · have LT2 := Lib.hid (show decide ((i : Int) < (j : Int)) = false from decide_eq_false (by omega))
          obtain rfl : bl = TOT := by
            rw [← TT.out, List.drop_of_length_le (by rw [SL.out]; omega)]
            exact (List.append_nil _).symm
          have PKB := Lib.hid (show wid j + (pk bl).length ≤ 140737488355328 by rw [pk_length]; have := (wid_bd j).2; have := HN.out; unfold nB; omega)
          clear hlt hi hll TT AA hk2
          go_wp2_with (first | ((with_reducible refine wpList_at 65 rfl ?_); refine wpList_kn rfl (.bool false) (by exact exec_lssi rfl rfl rfl LT2.out) ?_) | ((with_reducible refine wpList_at 77 rfl ?_); refine wpList_kn rfl (.int .u64 (j : Int)) (by exact exec_cvu rfl rfl (by have := HN.out; omega)) ?_) | (go_at_call 43; refine (ref_encode_any j _).mono ?_; rintro e w12 ⟨p8, g8, c8, rfl, N8x, hb⟩; have N8 := Lib.hid (N8x.mono (Nat.le_trans EB.out.size (Nat.le_trans HB.out.size HD.out.size))); replace WT := Lib.hid (WT.out.call hb); replace HD := Lib.hid (HD.out.trans (hb.mono HD.out.size)); clear hb N8x) | (go_at_call 44; refine (xbytes_any WT.out).mono ?_; rintro e w13 ⟨p9, g9, c9, rfl, N9x, hb⟩; have R9 := Lib.hid N9x.row; replace N8 := Lib.hid (N8.out.below hb); replace HD := Lib.hid (HD.out.trans (hb.mono HD.out.size)); clear hb N9x WT) | ((with_reducible refine wpList_at 81 rfl ?_); refine wpList_app (.inr rfl) (.tmp 78) (.tmp 80) rfl rfl N8 rfl R9 PKB.out ?_; intro p10 g10 c10 w14 N10 hb10))
          go_ret2
          refine ⟨⟨p10, g10, c10, ?_, ?_⟩, ((EB.out.trans (HB.out.mono EB.out.size)).trans (HD.out.mono (Nat.le_trans EB.out.size HB.out.size))).trans hb10.out⟩
          · rw [HF.out, List.length_append, tl_length]; rfl
          · rw [HF.out, List.length_append, tl_length]
            refine N10.out.to (fun q hq => ?_) (lf_lt ?_)
            · rw [← lf_cat, tl_length]
              unfold cat
              split
              · exact (lf_tl _ (by assumption)).symm
              · rfl
            · exact IsB.append (fun y hy => by
                unfold tl at hy
                obtain ⟨i, _, rfl⟩ := List.mem_map.1 hy
                exact enc_lt _ _) (isB_pk _)
end Go.Proofs.YtoopcmcmjaikhaaDoor
