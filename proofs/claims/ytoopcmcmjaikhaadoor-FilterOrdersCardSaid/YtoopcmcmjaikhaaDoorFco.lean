/- slices.Clone, slices.Reverse, slices.Grow and slices.Concat of lists of texts. -/
import Derived.Test.YtoopcmcmjaikhaaDoorIt
import Derived.Lib.AppendZeros
import Derived.Lib.OwnBridge
import Derived.Shelf.Lay
import Derived.Shelf.SlGeneric
import Derived.Shelf.SlicesE.Reverse
import Derived.Shelf.SlicesE.Clone
import Derived.Ground.SlgnProg
set_option linter.unusedSimpArgs false
set_option linter.unusedVariables false
set_option maxRecDepth 100000
namespace Go.Proofs
open Go.Shelf
shelf_lay_g SlLaysE.n35 Slgn 35 at Tryd 25 as YtoopcmcmjaikhaaDoor.layRev
shelf_lay_g SlLaysE0.n41 Slgn 41 at Tryd 24 as YtoopcmcmjaikhaaDoor.layClone
end Go.Proofs
namespace Go.Proofs.YtoopcmcmjaikhaaDoor
open Go.ChangeShapes Go.WideShapes Go.RowKit Go.Lib Go.Shelf

/-- Values, by their place. -/
def lv (l : List Value) : Nat → Value := fun i => l.getD i undef
theorem lv_get {l : List Value} {i : Nat} (h : i < l.length) : lv l i = l[i] := by unfold lv; rw [List.getD_eq_getElem?_getD, List.getElem?_eq_getElem h]; rfl
theorem vs_lv (l : List Value) : vs (lv l) l.length = l := by
  apply List.ext_getElem?
  intro i
  unfold vs
  by_cases h : i < l.length
  · rw [List.getElem?_map, List.getElem?_range h, List.getElem?_eq_getElem h]
    show some (lv l i) = _
    rw [lv_get h]
  · rw [List.getElem?_eq_none (by simp; omega), List.getElem?_eq_none (by omega)]
theorem lv_cat (a b : List Value) (i : Nat) : vcat (lv a) (a.length * 1) (lv b) i = lv (a ++ b) i := by
  unfold vcat lv
  rw [Nat.mul_one, List.getD_eq_getElem?_getD, List.getD_eq_getElem?_getD, List.getD_eq_getElem?_getD]
  split
  · rw [List.getElem?_append_left (by assumption)]
  · rw [List.getElem?_append_right (by omega)]
/-- The texts of values. -/
def TV (w : World) (l : List Value) (ts : List (List Nat)) : Prop := l.length = ts.length ∧ ∀ i (h : i < l.length) (h' : i < ts.length), TextAt w l[i] ts[i]
theorem TV.append {w : World} {a b : List Value} {ts us : List (List Nat)} (h : TV w a ts) (k : TV w b us) : TV w (a ++ b) (ts ++ us) := by
  refine ⟨by rw [List.length_append, List.length_append, h.1, k.1], fun i hi hi' => ?_⟩
  by_cases q : i < a.length
  · rw [List.getElem_append_left q, List.getElem_append_left (by rw [← h.1]; exact q)]
    exact h.2 i q _
  · rw [List.getElem_append_right (by omega), List.getElem_append_right (by rw [← h.1]; omega)]
    have e : i - a.length = i - ts.length := by rw [h.1]
    have := k.2 (i - a.length) (by rw [List.length_append] at hi; omega) (by rw [List.length_append] at hi'; have := h.1; omega)
    simpa [e] using this
theorem TV.reverse {w : World} {a : List Value} {ts : List (List Nat)} (h : TV w a ts) : TV w a.reverse ts.reverse := by
  refine ⟨by rw [List.length_reverse, List.length_reverse, h.1], fun i hi hi' => ?_⟩
  rw [List.getElem_reverse, List.getElem_reverse]
  rw [List.length_reverse] at hi hi'
  have q := h.1
  have := h.2 (a.length - 1 - i) (by omega) (by omega)
  simpa [h.1] using this
theorem TV.below {w w' : World} {a : List Value} {ts : List (List Nat)} (h : TV w a ts) (hb : Below w.heap.size w w') : TV w' a ts := ⟨h.1, fun i hi hi' => (h.2 i hi hi').below hb⟩
/-- A list of texts, as values in a row. -/
theorem texts_lv {w : World} {v : Value} {ts : List (List Nat)} (h : TextsAt w v ts) : ∃ p g o c l, v = .slice p ts.length c ∧ l.length = ts.length ∧ VRow 1 w p g o ts.length c (lv l) ∧ TV w l ts := by
  obtain ⟨p, g, o, c, V, rfl, hl, R, hT⟩ := h
  have hlen : (vs V ts.length).length = ts.length := vs_length _ _
  have hg : ∀ i, i < ts.length → lv (vs V ts.length) i = V i := fun i hi => by
    rw [lv_get (by rw [hlen]; exact hi)]
    unfold vs
    simp
  refine ⟨p, g, o, c, vs V ts.length, rfl, hlen, R.to fun i hi => (hg i (by omega)).symm, hlen, fun i hi hi' => ?_⟩
  rw [← lv_get hi, hg i hi']
  exact hT i hi'
theorem lv_texts {w : World} {p : Option Addr} {B g c : Nat} {l : List Value} {ts : List (List Nat)} (N : VOwn 32 1 B w p g l.length c (lv l)) (T : TV w l ts) (hb : ts.length * 24 ≤ 140737488351232) : TextsAt w (.slice p l.length c) ts := by
  refine ⟨p, g, 0, c, lv l, by rw [T.1], hb, by rw [← T.1]; exact N.row, fun i hi => ?_⟩
  rw [lv_get (by rw [T.1]; exact hi)]
  exact T.2 i _ hi
theorem vcat_zero (V U : Nat → Value) (i : Nat) : vcat V 0 U i = U i := by unfold vcat; rw [if_neg (by omega)]; rfl
set_option maxHeartbeats 2000000 in
theorem clbb_any {w : World} {p : Option Addr} {g o n c : Nat} {V : Nat → Value} (R : Hid (VRow 1 w p g o n c V)) (hl : n * 24 ≤ 140737488351232) : Calls Tryd.prog 24 #[.slice p n c] w fun e w' => (∃ p' g' c', e = .returned (.slice p' n c') ∧ VOwn 32 1 w.heap.size w' p' g' n c' V) ∧ Below w.heap.size w w' := by
  cases p with
  | none =>
    obtain ⟨rfl, hc0⟩ := R.out.nil rfl
    refine (AnyE.slices_Clone_nil layClone 0 c w).mono ?_
    rintro e w' ⟨rfl, rfl⟩
    exact ⟨⟨none, 0, 0, rfl, vown_nothing _ _ _ _ _ (Nat.le_refl _)⟩, Below.refl _ _⟩
  | some ad =>
    have he : ∀ w : World, (binOp .eql 30 (.slice (some ad) n c) (.slice none 0 0)).run Tryd.prog w = .ok (.bool false) w := fun _ => rfl
    have N := Lib.hid (show VOwn 32 1 w.heap.size (w.alloc (.cells #[] 32)) (some ⟨w.heap.size, 0, none⟩) w.heap.size 0 0 V from vown_new w 32 1 V 0 (by unfold maxLen; omega) (fun i hi => absurd hi (by omega)))
    have R1 := Lib.hid (R.out.below (below_new w (.cells #[] 32)))
    have HL := Lib.hid hl
    clear R hl
    go_enter Tryd.func24, Tryd.ntmps24
    go_wp2_with (at_builtin; refine wpList_vapp 30 32 1 24 Tryd.underlying30 infoText3 rfl (by omega) rfl (.tmp 5) (.tmp 6) rfl rfl N rfl R1 (by have := HL.out; unfold maxLen; omega) (by have := HL.out; omega) ?_)
    intro p' g' c' w' N' hg
    have B' := Lib.hid ((below_new w (.cells #[] 32)).trans (N.out.under hg.out (Nat.le_refl _) N.out.low))
    clear hg
    go_wp2
    go_ret
    exact ⟨⟨p', g', c', rfl, N'.out.to (U := V) (fun i _ => vcat_zero V V i)⟩, B'.out⟩
/-- A slice as its parts. -/
def encS (x : Option Addr × Nat × Nat) : Value := .slice x.1 x.2.1 x.2.2
def decS : Value → Option Addr × Nat × Nat
  | .slice p n c => (p, n, c)
  | _ => (none, 0, 0)
theorem oneS : OneCell encS := fun _ => rfl
theorem decS_text {w : World} {v : Value} {t : List Nat} (h : TextAt w v t) : encS (decS v) = v := by
  obtain ⟨p, g, o, c, rfl, _⟩ := h
  rfl
theorem rev_empty (p : Option Addr) (c : Nat) (w : World) : Calls Tryd.prog 25 #[.slice p 0 c] w fun e w' => e = .returned (.tuple #[]) ∧ w' = w := AnyE.slices_Reverse_empty layRev p c w
theorem revbb_any {B : Nat} {w : World} {p : Option Addr} {g n c : Nat} {l : List Value} (N : VOwn 32 1 B w p g n c (lv l)) (hn : l.length = n) (hE : ∀ v, v ∈ l → encS (decS v) = v) : Calls Tryd.prog 25 #[.slice p n c] w fun e w' => e = .returned (.tuple #[]) ∧ VOwn 32 1 B w' p g n c (lv l.reverse) ∧ (∀ B', B' ≤ B → Below B' w w') := by
  rcases N.spot with h | h
  · subst h
    obtain ⟨h1, h2⟩ := N.row.nil rfl
    subst h1
    refine (rev_empty none c w).mono ?_
    rintro e w' ⟨rfl, rfl⟩
    exact ⟨rfl, N.to (fun i hi => absurd hi (by omega)), fun B' _ => Below.refl _ _⟩
  · subst h
    obtain ⟨zs, hzs⟩ : ∃ zs, zs = l.map decS := ⟨_, rfl⟩
    have hzl : zs.length = n := by rw [hzs, List.length_map, hn]
    have hmap : zs.map encS = l := by
      rw [hzs, List.map_map]
      conv => rhs; rw [← List.map_id l]
      exact List.map_congr_left fun v hv => hE v hv
    have own := N.own
    have hvs : vs (lv l) (n * 1) = l := by rw [Nat.mul_one, ← hn]; exact vs_lv l
    rw [hvs, ← hmap] at own
    obtain ⟨g', c', e1, hbg, hlt, _, hcm, _, hH⟩ := Lib.holds_of_ownsRow own (by intro e; cases e)
    injection e1 with e2 _ e3
    injection e2 with e2
    injection e2 with e2
    subst e2 e3
    have hr := AnyE.slices_Reverse layRev encS oneS g 0 c zs w hH (by rw [hzl]; have := N.row.le; unfold maxLen at hcm; omega)
    rw [hzl] at hr
    refine hr.mono ?_
    rintro e w' ⟨rfl, q, rfl⟩
    have hy : zs.reverse.length = n := by rw [List.length_reverse, hzl]
    have h1 := Lib.ownsRow_putRow (q := q) (ys := zs.reverse) own hy (Nat.le_refl n)
    rw [List.take_of_length_le (Nat.le_of_eq hy), List.map_reverse, hmap] at h1
    have hbel : ∀ B', B' ≤ B → Below B' w (Go.Sort.putRow encS (Go.Sort.ahead w q) g 0 zs.reverse.toArray) := fun B' hB => Lib.below_putRow (Below.refl _ _) (Nat.le_trans hB hbg)
    refine ⟨rfl, ⟨?_, .inr rfl, fun i hi => ?_, Nat.le_trans N.low (hbel B (Nat.le_refl _)).size⟩, hbel⟩
    · have e : vs (lv l.reverse) (n * 1) = l.reverse := by rw [Nat.mul_one, ← hn, ← List.length_reverse]; exact vs_lv _
      rw [e]
      exact h1
    · rw [Nat.mul_one] at hi
      rw [lv_get (by rw [List.length_reverse, hn]; exact hi), List.getElem_reverse, ← lv_get]
      exact N.one _ (by omega)
theorem sliced_zero (w : World) (c : Nat) : sliced (some ⟨w.heap.size, 0, none⟩) 0 0 c 1 = .slice (some ⟨w.heap.size, 0, none⟩) 0 c := by
  unfold sliced
  simp [Addr.add]
set_option maxHeartbeats 4000000 in
theorem growbb_any {w : World} (n : Nat) (V : Nat → Value) (hn : n * 24 ≤ 140737488351232) : Calls Tryd.prog 53 #[.slice none 0 0, .int .i64 ((n : Nat) : Int)] w fun e w' => ∃ p g c, e = .returned (.slice p 0 c) ∧ VOwn 32 1 w.heap.size w' p g 0 c V ∧ Below w.heap.size w w' := by
  obtain ⟨i0, hi, hz0, hz1, hz2⟩ := info_parts infoText3
  rcases Nat.eq_zero_or_pos n with h0 | h0
  · subst h0
    go_enter Tryd.func53, Tryd.ntmps53
    go_wp2
    go_ret
    exact ⟨none, 0, 0, rfl, vown_nothing _ _ _ _ _ (Nat.le_refl _), Below.refl _ _⟩
  · have h1 : (0 : Int) < (n : Int) := by omega
    have hng : ¬ ((n : Int) < 0) := by omega
    have hng2 : decide ((n : Int) < 0) = false := by simp
    have gc0 := fun w : World => grownCap_ge w n 0 32
    have gc1 := fun w : World => grownCap_le_maxLen w n 0 32 (by unfold maxLen; omega)
    have RZ := Lib.hid fun w : World => Lib.run_append_nil_zeros (P := Tryd.prog) w 30 3 30 32 i0 _ .i64 .i64 Tryd.underlying30 Tryd.underlying3 hi hz0 n h0 (by omega) (by omega) (by rw [hz2]; omega)
    have HN := Lib.hid hn
    have hn3 : n ≤ 140737488355328 := by omega
    clear gc0 gc1 hi hz0 hz1 hz2 hn
    go_enter Tryd.func53, Tryd.ntmps53
    go_wp2_with (first | ((with_reducible refine wpList_at 20 rfl ?_); refine wpList_kn rfl (.slice none 0 0) (by exact exec_sl rfl (run_cut Tryd.underlying30 (by intro w; kernel_rfl) (k := 1) (p := none) (q := none) (n := 0) (c := 0) (h := 0) rfl (Nat.le_refl _) _)) ?_) | ((with_reducible refine wpList_at 25 rfl ?_); refine wpList_kn rfl (.slice (some ⟨w.heap.size, 0, none⟩) 0 (grownCap w n 0 32)) (by exact exec_sl rfl (run_cut Tryd.underlying30 (by intro w; kernel_rfl) (k := 1) (h := 0) (sliced_zero w _) (Nat.zero_le _) _)) ?_) | (at_builtin; refine Lib.wpList_append_run _ rfl (.tmp 20) (.tmp 21) 30 3 rfl _ _ rfl rfl _ _ (RZ.out _) ?_))
    go_ret
    refine ⟨_, w.heap.size, _, rfl, ?_, (below_new w _).trans ⟨rfl, rfl, rfl, Nat.le_refl _, fun _ _ => rfl⟩⟩
    have h := World.ownsRow_made (base := w.heap.size) (e := 32) (size := 1) w (Builtin.zeroCells #[Value.slice none 0 0] n ++ Builtin.zeroCells #[Value.slice none 0 0] (grownCap w n 0 32 - n)) (grownCap w n 0 32) (Nat.le_refl _) (grownCap_le_maxLen w n 0 32 (by have := HN.out; unfold maxLen; omega)) (by
      have := grownCap_ge w n 0 32
      simp only [Array.size_append, size_zeroCells]
      simp
      omega)
    exact ⟨by rw [Nat.zero_mul]; exact h, .inr rfl, fun i hi => absurd hi (by omega), by simp⟩
/-- How many there are in the first lists. -/
def sv (ls : List (List Value)) (j : Nat) : Nat := ((ls.take j).flatten).length
theorem sv_succ (ls : List (List Value)) {j : Nat} (h : j < ls.length) : sv ls (j + 1) = sv ls j + ls[j].length := by
  unfold sv
  rw [take_get ls h, List.flatten_append, List.length_append]
  simp
theorem sv_le (ls : List (List Value)) (j : Nat) : sv ls j ≤ ls.flatten.length := by
  unfold sv
  conv => rhs; rw [← List.take_append_drop j ls, List.flatten_append, List.length_append]
  omega
set_option maxHeartbeats 4000000 in
theorem catbb_any {w : World} {p : Option Addr} {g o n c : Nat} {V : Nat → Value} {ls : List (List Value)} (R : Hid (VRow 1 w p g o n c V)) (hn : n = ls.length) (hn2 : n ≤ 1000) (hV : ∀ j (h : j < ls.length), ∃ pj gj oj cj, V j = .slice pj ls[j].length cj ∧ VRow 1 w pj gj oj ls[j].length cj (lv ls[j])) (hs : ls.flatten.length * 24 ≤ 140737488351232) :
    Calls Tryd.prog 26 #[.slice p n c] w fun e w' => (∃ p' g' c', e = .returned (.slice p' ls.flatten.length c') ∧ VOwn 32 1 w.heap.size w' p' g' ls.flatten.length c' (lv ls.flatten)) ∧ Below w.heap.size w w' := by
  have TT := Lib.hid hV
  have HN := Lib.hid hn
  have HM := Lib.hid hn2
  have HS := Lib.hid (show ∀ j, sv ls j * 24 ≤ 140737488351232 from fun j => by have := sv_le ls j; omega)
  clear hV hn hn2 hs
  go_enter Tryd.func26, Tryd.ntmps26
  go_wp2
  go_loopg [3, 11] n (fun k s i wr => ∃ j : Nat, j + k = n ∧ i = .int .i64 (j : Int) ∧ s = .int .i64 ((sv ls j : Nat) : Int) ∧ Hid (Below w.heap.size w wr))
  case atStart => exact ⟨0, by omega, rfl, rfl, Lib.hid (Below.refl _ _)⟩
  case round =>
    obtain ⟨j, hj, rfl, rfl, B⟩ := hrel
    obtain ⟨kk, rfl⟩ : ∃ kk : Nat, kk = gk := ⟨_, rfl⟩
    by_cases hlt : j < n
    · obtain rfl := R.out.head (by omega)
      have ht : j < ls.length := by rw [← HN.out]; exact hlt
      obtain ⟨p1, g1, o1, c1, hv1, R1⟩ := TT.out j ht
      have cell := (R.out.below B.out).cell j (by omega)
      rw [hv1] at cell
      have CC := Lib.hid cell
      have e1 := HS.out (j + 1)
      have e2 := sv_succ ls ht
      obtain ⟨m, hm⟩ : ∃ m, m = ls[j].length := ⟨_, rfl⟩
      rw [← hm] at CC e2
      obtain ⟨s0, hs0⟩ : ∃ s0, s0 = sv ls j := ⟨_, rfl⟩
      rw [← hs0] at e2 ⊢
      rw [e2] at e1
      have E2 := Lib.hid e2
      have hN2 : n ≤ 1000 := HM.out
      clear e2 cell hv1 R1 hm hs0
      go_wp2_with (first
        | (refine wpList_ix (k := 1) (j := j) Tryd.underlying90 (by kernel_rfl) (.tmp 9) (.tmp 11) rfl rfl rfl rfl hlt rfl ?_; rw [Nat.mul_one])
        | (refine wpList_ld1 30 (.tmp 13) rfl rfl rfl Tryd.underlying30 rfl CC.out ?_))
      go_roundg (n - (j + 1))
      case measure => omega
      case rel => exact ⟨j + 1, by omega, by go_num, by rw [E2.out]; go_num, B⟩
    · obtain rfl : j = n := by omega
      obtain ⟨tot, htot⟩ : ∃ tot, tot = sv ls j := ⟨_, rfl⟩
      have HT := Lib.hid (show tot * 24 ≤ 140737488351232 by rw [htot]; exact HS.out j)
      have hN2 : j ≤ 1000 := HM.out
      have GR := Lib.hid (show ∀ W, Calls Tryd.prog 53 #[.slice none 0 0, .int .i64 ((tot : Nat) : Int)] W _ from fun W => growbb_any tot (lv []) HT.out)
      have ht3 := HT.out
      rw [← htot]
      clear htot
      go_wp2_with (go_at_call 53; refine (GR.out _).mono ?_; rintro e w1 ⟨p1, g1, c1, rfl, N1, hb⟩; have K := Lib.hid (N1.mono B.out.size); have B1 := Lib.hid (B.out.trans (hb.mono B.out.size)); clear hb N1 B)
      go_loopg [6, 27] j (fun k s i wr => ∃ (j1 : Nat) (p : Option Addr) (g c : Nat) (l : List Value), j1 + k = j ∧ i = .int .i64 (j1 : Int) ∧ s = .slice p l.length c ∧ Hid (l = (ls.take j1).flatten) ∧ Hid (VOwn 32 1 w.heap.size wr p g l.length c (lv l)) ∧ Hid (Below w.heap.size w wr))
      case atStart => exact ⟨0, p1, g1, c1, [], by omega, rfl, rfl, Lib.hid rfl, K, B1⟩
      case round =>
        clear K B1
        obtain ⟨j1, p2, g2, c2, l, hj1, rfl, rfl, X, K, B1⟩ := hrel
        obtain ⟨k2, rfl⟩ : ∃ k2 : Nat, k2 = gk := ⟨_, rfl⟩
        by_cases hlt : j1 < j
        · obtain rfl := R.out.head (by omega)
          have ht : j1 < ls.length := by rw [← HN.out]; exact hlt
          obtain ⟨p3, g3, o3, c3, hv3, R3⟩ := TT.out j1 ht
          have cell := (R.out.below B1.out).cell j1 (by omega)
          rw [hv3] at cell
          have CC := Lib.hid cell
          have R4 := Lib.hid (R3.below B1.out)
          have e1 := HS.out (j1 + 1)
          rw [sv_succ ls ht] at e1
          have hl : l.length = sv ls j1 := by rw [X.out]; rfl
          rw [← hl] at e1
          have E1 := Lib.hid e1
          have E2 := Lib.hid (show l ++ ls[j1] = (ls.take (j1 + 1)).flatten by rw [take_get ls ht, List.flatten_append, ← X.out]; simp)
          clear e1 cell hv3 R3 hl
          go_wp2_with (first
            | (refine wpList_ix (k := 1) (j := j1) Tryd.underlying90 (by kernel_rfl) (.tmp 25) (.tmp 27) rfl rfl rfl rfl hlt rfl ?_; rw [Nat.mul_one])
            | (refine wpList_ld1 30 (.tmp 29) rfl rfl rfl Tryd.underlying30 rfl CC.out ?_)
            | (at_builtin; refine wpList_vapp 30 32 1 24 Tryd.underlying30 infoText3 rfl (by omega) rfl (.tmp 31) (.tmp 32) rfl rfl K rfl R4 (by have := E1.out; unfold maxLen; omega) (by have := E1.out; omega) ?_; intro p4 g4 c4 w4 K4 hg4; have B4 := Lib.hid (B1.out.trans (K.out.under hg4.out (Nat.le_refl _) K.out.low))))
          go_roundg (j - (j1 + 1))
          case measure => omega
          case rel => exact ⟨j1 + 1, p4, g4, c4, l ++ ls[j1], by omega, by go_num, by rw [List.length_append], E2, Lib.hid (by rw [List.length_append]; exact K4.out.to fun i _ => lv_cat _ _ i), B4⟩
        · obtain rfl : j1 = j := by omega
          have E2 := Lib.hid (show l = ls.flatten by rw [X.out, HN.out, List.take_length])
          go_wp2
          go_ret
          rw [← E2.out]
          exact ⟨⟨p2, g2, c2, rfl, K.out⟩, B1.out⟩
end Go.Proofs.YtoopcmcmjaikhaaDoor
