/- The document's padded: of any bytes it returns these, and what SHA-256 lays behind them; what lay in memory stays. -/
import Derived.Test.YtghjgkgfpblijaaDoorSA
import Derived.Laws.AppendOwnNone
import Derived.Deep.DeepCutAuto
import Derived.Deep.LoopGhost
namespace Go.Proofs.YtghjgkgfpblijaaDoor.S
open Go.RowKit Go.Lib

/-- How many noughts stand behind n bytes and the byte 80. -/
def zeros (n : Nat) : Nat := (119 - n % 64) % 64
/-- How many bytes stand ahead of the count. -/
def ahead (n : Nat) : Nat := n + 1 + zeros n
theorem ahead_mod (n : Nat) : ahead n % 64 = 56 := by unfold ahead zeros; omega
theorem ahead_first (n k : Nat) (h1 : n + 1 ≤ k) (h2 : k < ahead n) : k % 64 ≠ 56 := by unfold ahead zeros at h2; omega
theorem ahead_le (n : Nat) : ahead n ≤ n + 64 := by unfold ahead zeros; omega
def padByte (x : Nat → Int) (n i : Nat) : Int :=
  if i < n then x i else if i = n then 128 else if i < ahead n then 0 else (n : Int) * 8 / 2 ^ (56 - 8 * (i - ahead n)) % 256
theorem firstBytes_congr {x y : Nat → Int} {n : Nat} (h : ∀ i, i < n → x i = y i) : firstBytes x n = firstBytes y n := by
  unfold firstBytes
  exact List.map_congr_left fun i hi => by rw [h i (by simpa using hi)]
theorem firstBytes_snoc (x : Nat → Int) (n : Nat) : firstBytes x n ++ [.int .u8 (x n)] = firstBytes x (n + 1) := by
  unfold firstBytes
  rw [List.range_succ, List.map_append]
  rfl
theorem own_form {w : World} {base n : Nat} {v : Value} {xs : List Value} (h : w.ownsRow base 5 1 v n xs) (hv : v ≠ .slice none 0 0) : ∃ g cap, v = .slice (some ⟨g, 0, none⟩) n cap ∧ base ≤ g ∧ n ≤ cap ∧ cap ≤ maxLen := by
  obtain ⟨_, h⟩ := h
  rcases h with ⟨h, _⟩ | ⟨g, cap, cur, h, hg, _, hc, hm, _⟩
  · exact absurd h hv
  · exact ⟨g, cap, h, hg, hc, hm⟩
theorem own_block {w : World} {base n : Nat} {v : Value} {xs : List Value} (h : w.ownsRow base 5 1 v n xs) (k : Nat) (hk : v.ownBlock = some k) : base ≤ k := by
  obtain ⟨_, h⟩ := h
  rcases h with ⟨rfl, _⟩ | ⟨g, cap, cur, rfl, hg, _⟩
  · simp [Value.ownBlock] at hk
  · simp [Value.ownBlock] at hk; omega
theorem one_cell (w : World) (y : Value) (j : Nat) (u : Value) (hu : ([y] : List Value)[j]? = some u) : (w.alloc (.cells #[y] 5)).cell? ((⟨w.heap.size, 0, none⟩ : Addr).add j) = some u := by
  match j, hu with
  | 0, hu =>
    obtain rfl : u = y := by simpa using hu.symm
    rw [add_at]
    exact cell_of_here (here_new w _ _) 0 rfl
  | (j + 1), hu => simp at hu
theorem one_one (k : IntKind) (y : Int) : ∀ u ∈ [Value.int k y], u.oneCell' = true := by
  intro u hu
  obtain rfl : u = .int k y := by simpa using hu
  rfl

/-- The slice under way: k bytes, of the call's own. -/
def Under (B : Nat) (x : Nat → Int) (k : Nat) (v : Value) (w wr : World) : Prop := ∃ g cap, v = .slice (some ⟨g, 0, none⟩) k cap ∧ wr.ownsRow B 5 1 (.slice (some ⟨g, 0, none⟩) k cap) k (firstBytes x k) ∧ Below B w wr
theorem under_step {w wr w' : World} {x : Nat → Int} {k g cap : Nat} {v' : Value} (hown : wr.ownsRow w.heap.size 5 1 (.slice (some ⟨g, 0, none⟩) k cap) k (firstBytes x k)) (hb : Below w.heap.size w wr) (o : Obj)
    (h' : w'.ownsRow w.heap.size 5 1 v' (k + 1) (firstBytes x k ++ [.int .u8 (x k)])) (hg : (wr.alloc o).grownBy w' (Value.slice (some ⟨g, 0, none⟩) k cap).ownBlock) (hv : v' ≠ .slice none 0 0) : Under w.heap.size x (k + 1) v' w w' := by
  rw [firstBytes_snoc] at h'
  obtain ⟨g2, cap2, rfl, _⟩ := own_form h' hv
  exact ⟨g2, cap2, rfl, h', (hb.alloc hb.size _).grown hg (by have := hb.size; simp; omega) (own_block hown)⟩

theorem pad_low (x : Nat → Int) (n i : Nat) (h : i < n) : padByte x n i = x i := by unfold padByte; rw [if_pos h]
theorem pad_mark (x : Nat → Int) (n : Nat) : padByte x n n = 128 := by unfold padByte; rw [if_neg (by omega), if_pos rfl]
theorem pad_nought (x : Nat → Int) (n i : Nat) (h1 : n < i) (h2 : i < ahead n) : padByte x n i = 0 := by unfold padByte; rw [if_neg (by omega), if_neg (by omega), if_pos h2]
theorem pad_count (x : Nat → Int) (n t : Nat) : padByte x n (ahead n + t) = (n : Int) * 8 / 2 ^ (56 - 8 * t) % 256 := by
  unfold padByte
  have : n + 1 ≤ ahead n := by unfold ahead; omega
  rw [if_neg (by omega), if_neg (by omega), if_neg (by omega)]
  have e : ahead n + t - ahead n = t := by omega
  rw [e]

set_option maxRecDepth 100000 in
set_option maxHeartbeats 2000000 in
theorem padded_any (p : Option Addr) (g o n c : Nat) (x : Nat → Int) (hn : n ≤ 140737488351232) (hnil : p = none → n = 0 ∧ c = 0) (w : World) (h : Lies w p g o n x) :
    Calls Tryd.prog 59 #[.slice p n c] w fun e w' => ∃ v, e = .returned v ∧ Under w.heap.size (padByte x n) (ahead n + 8) v w w' := by
  obtain ⟨i0, hi, hz0, hz1, hz2⟩ := info_parts info5
  have LI := Lib.hid h
  have HNIL := Lib.hid hnil
  clear h hnil
  go_enter Tryd.func59, Tryd.ntmps59
  go_upto_region 1 with fail
  go_cut [3] (fun s3 wx => Under w.heap.size (padByte x n) (n + 1) s3 w wx)
  case first =>
    cases p with
    | some a =>
      have hnews : ∀ j u, (firstBytes x n)[j]? = some u → (w.alloc (.cells #[] 5)).cell? (a.add j) = some u := by
        intro j u hu
        obtain ⟨hj, rfl⟩ := firstBytes_get _ _ _ _ hu
        obtain ⟨rfl⟩ := LI.out.1 (by omega)
        rw [add_at]
        exact cell_alloc (LI.out.2 j hj)
      have HW := Lib.hid hnews
      clear hnews
      go_wp2_with (first
        | (at_builtin; refine wpList_append_own _ rfl (.tmp 6) (.tmp 7) 22 rfl w.heap.size 5 i0 (.int .u8 0) 1 1 Tryd.underlying22 hi hz0 hz1 hz2 rfl (by decide) _ _ _ rfl (own_empty w) a n c (firstBytes x n) rfl (by rw [firstBytes_length]; omega) HW.out (firstBytes_one x n) (by unfold maxLen; omega) (by omega) (by simp) ?_; intro v1 w1 hown hgrow hnil; simp only [Nat.zero_add, List.nil_append] at hown; obtain ⟨g1, cap1, rfl, _, _, _⟩ := own_form hown (fun h => by have := (hnil.1 h).1; cases this); have HO := Lib.hid hown; have HG := Lib.hid hgrow; clear hown hgrow hnil)
        | (at_builtin; refine wpList_append_own _ rfl (.tmp 8) (.tmp 9) 22 rfl w.heap.size 5 i0 (.int .u8 0) 1 1 Tryd.underlying22 hi hz0 hz1 hz2 rfl (by decide) _ _ _ rfl (HO.out.alloc _) ⟨w1.heap.size, 0, none⟩ 1 1 [.int .u8 128] rfl rfl (one_cell _ _) (one_one _ _) (by unfold maxLen; omega) (by omega) (by have hq := HG.out.size; simp only [World.size_alloc] at hq ⊢; omega) ?_; intro v2 w2 hown hgrow hnil; have HO2 := Lib.hid hown; have HG2 := Lib.hid hgrow; have HN2 : Hid (v2 ≠ .slice none 0 0) := Lib.hid (fun h => by have := (hnil.1 h).2; omega); clear hown hgrow hnil))
      go_meet
      have hbw : Below w.heap.size w w1 := ((Below.refl _ _).alloc (Nat.le_refl _) _).grown HG.out (by simp) (own_block (own_empty w))
      have e1 : w1.ownsRow w.heap.size 5 1 (.slice (some ⟨g1, 0, none⟩) n cap1) n (firstBytes (padByte x n) n) := by
        rw [firstBytes_congr (y := x) (fun i hi => pad_low x n i hi)]
        simpa using HO.out
      have e2 : w2.ownsRow w.heap.size 5 1 v2 (n + 1) (firstBytes (padByte x n) n ++ [.int .u8 (padByte x n n)]) := by
        rw [firstBytes_congr (y := x) (fun i hi => pad_low x n i hi), pad_mark]
        simpa using HO2.out
      exact under_step e1 hbw _ e2 HG2.out HN2.out
    | none =>
      obtain ⟨rfl, rfl⟩ := HNIL.out rfl
      have hnews1 : ∀ j u, ([.int .u8 128] : List Value)[j]? = some u → ((w.alloc (.cells #[] 5)).alloc (.cells #[.int .u8 128] 5)).cell? ((⟨w.heap.size + 1, 0, none⟩ : Addr).add j) = some u := by
        have h1 := one_cell (w.alloc (.cells #[] 5)) (.int .u8 128)
        simp only [World.size_alloc] at h1
        exact h1
      have HW1 := Lib.hid hnews1
      clear hnews1
      go_wp2_with (first
        | (at_builtin; refine wpList_append_own_none rfl (.tmp 6) (.tmp 7) 22 rfl w.heap.size 5 i0 1 Tryd.underlying22 hi _ _ _ rfl (own_empty w) rfl ?_)
        | (at_builtin; refine wpList_append_own _ rfl (.tmp 8) (.tmp 9) 22 rfl w.heap.size 5 i0 (.int .u8 0) 1 1 Tryd.underlying22 hi hz0 hz1 hz2 rfl (by decide) _ _ _ rfl ((own_empty w).alloc _) ⟨w.heap.size + 1, 0, none⟩ 1 1 [.int .u8 128] rfl rfl HW1.out (one_one _ _) (by unfold maxLen; omega) (by omega) (by simp only [World.size_alloc]; omega) ?_; intro v2 w2 hown hgrow hnil; have HO2 := Lib.hid hown; have HG2 := Lib.hid hgrow; have HN2 : Hid (v2 ≠ .slice none 0 0) := Lib.hid (fun h => by have := (hnil.1 h).2; omega); clear hown hgrow hnil))
      go_meet
      have hbw : Below w.heap.size w (w.alloc (.cells #[] 5)) := below_new w _
      have e1 : (w.alloc (.cells #[] 5)).ownsRow w.heap.size 5 1 (.slice (some ⟨w.heap.size, 0, none⟩) 0 0) 0 (firstBytes (padByte x 0) 0) := own_empty w
      have e2 : w2.ownsRow w.heap.size 5 1 v2 (0 + 1) (firstBytes (padByte x 0) 0 ++ [.int .u8 (padByte x 0 0)]) := by
        rw [pad_mark]
        simpa [firstBytes] using HO2.out
      exact under_step e1 hbw _ e2 HG2.out HN2.out
  case rest =>
    have H0 := Lib.hid hcut
    clear hcut
    have hah := ahead_le n
    have hah2 : n + 1 ≤ ahead n := by unfold ahead; omega
    go_wp2
    go_loopg [3] (ahead n - (n + 1)) (fun q s3 wr => ∃ k, k + q = ahead n ∧ n + 1 ≤ k ∧ Under w.heap.size (padByte x n) k s3 w wr)
    case atStart => exact ⟨n + 1, by omega, Nat.le_refl _, H0.out⟩
    case round =>
      clear H0
      obtain ⟨k, hk, hk1, g1, cap1, rfl, hown, hb⟩ := hrel
      have HO := Lib.hid hown
      have HB := Lib.hid hb
      clear hown hb
      by_cases hlt : k < ahead n
      · have hmod := ahead_first n k hk1 hlt
        have e1 : ((k : Int) % 64 != 56) = true := by simp; omega
        have HM := Lib.hid hmod
        clear hmod
        go_wp2_with (at_builtin; refine wpList_append_own _ rfl (.tmp 15) (.tmp 16) 22 rfl w.heap.size 5 i0 (.int .u8 0) 1 1 Tryd.underlying22 hi hz0 hz1 hz2 rfl (by decide) _ _ _ rfl (HO.out.alloc _) ⟨wr.heap.size, 0, none⟩ 1 1 [.int .u8 0] rfl rfl (one_cell _ _) (one_one _ _) (by unfold maxLen; omega) (by omega) (by have hq := HB.out.size; simp only [World.size_alloc]; omega) ?_; intro v2 w2 hown hgrow hnil; have HO2 := Lib.hid hown; have HG2 := Lib.hid hgrow; have HN2 : Hid (v2 ≠ .slice none 0 0) := Lib.hid (fun h => by have := (hnil.1 h).2; omega); clear hown hgrow hnil)
        go_roundg (gk - 1)
        case measure => omega
        case rel =>
          have e2 : w2.ownsRow w.heap.size 5 1 v2 (k + 1) (firstBytes (padByte x n) k ++ [.int .u8 (padByte x n k)]) := by
            rw [pad_nought x n k (by omega) hlt]
            exact HO2.out
          exact ⟨k + 1, by omega, by omega, under_step HO.out HB.out _ e2 HG2.out HN2.out⟩
      · obtain rfl : k = ahead n := by omega
        have hmod := ahead_mod n
        have e1 : ((ahead n : Int) % 64 != 56) = false := by simp; omega
        have H1 : Hid (Under w.heap.size (padByte x n) (ahead n) (.slice (some ⟨g1, 0, none⟩) (ahead n) cap1) w wr) := Lib.hid ⟨g1, cap1, rfl, HO.out, HB.out⟩
        clear hmod HO HB
        go_wp2
        go_loopg [3, 22] 8 (fun q s3 i wr => ∃ t : Nat, t + q = 8 ∧ i = .int .i64 (t : Int) ∧ Under w.heap.size (padByte x n) (ahead n + t) s3 w wr)
        case atStart => exact ⟨0, by omega, rfl, H1.out⟩
        case round =>
          clear H1 e1
          obtain ⟨t, ht, rfl, g2, cap2, rfl, hown, hb⟩ := hrel
          have HO := Lib.hid hown
          have HB := Lib.hid hb
          clear hown hb
          by_cases hl8 : t < 8
          · go_wp2_with (at_builtin; refine wpList_append_own _ rfl (.tmp 25) (.tmp 32) 22 rfl w.heap.size 5 i0 (.int .u8 0) 1 1 Tryd.underlying22 hi hz0 hz1 hz2 rfl (by decide) _ _ _ rfl (HO.out.alloc _) ⟨wr.heap.size, 0, none⟩ 1 1 [.int .u8 ((n : Int) * 8 / 2 ^ (56 - 8 * t) % 256)] rfl rfl (one_cell _ _) (one_one _ _) (by unfold maxLen; omega) (by omega) (by have hq := HB.out.size; simp only [World.size_alloc]; omega) ?_; intro v2 w2 hown hgrow hnil; have HO2 := Lib.hid hown; have HG2 := Lib.hid hgrow; have HN2 : Hid (v2 ≠ .slice none 0 0) := Lib.hid (fun h => by have := (hnil.1 h).2; omega); clear hown hgrow hnil)
            go_roundg (gk - 1)
            case measure => omega
            case rel =>
              have e2 : w2.ownsRow w.heap.size 5 1 v2 (ahead n + t + 1) (firstBytes (padByte x n) (ahead n + t) ++ [.int .u8 (padByte x n (ahead n + t))]) := by
                rw [pad_count x n t]
                exact HO2.out
              exact ⟨t + 1, by omega, by go_num, under_step HO.out HB.out _ e2 HG2.out HN2.out⟩
          · obtain rfl : t = 8 := by omega
            go_wp2
            go_ret
            exact ⟨_, rfl, g2, cap2, rfl, HO.out, HB.out⟩
end Go.Proofs.YtghjgkgfpblijaaDoor.S
