/- The sort of uint64: pdqsort and slices.Sort itself. -/
import Derived.Test.YtoopcmcmjaikhaaDoorSbk
import Derived.Sort.Walk13a
import Derived.Shelf.Small.Bits
set_option linter.unusedSimpArgs false
set_option linter.unusedVariables false
set_option maxRecDepth 100000
namespace Go.Proofs.YtoopcmcmjaikhaaDoor
open Go.RowKit Go.Lib

theorem exec_eqH {o : Oper} {ev : Operand → Value} {W : World} {x y : Operand} {a b : Int} {q : Bool} (ho : o.op = .binOp .eql 144 x y 144) (hx : ev x = .int .i64 a) (hy : ev y = .int .i64 b) (hq : decide (a = b) = q) : (execOp ev o).run Tryd.prog W = .ok (.value (.bool q)) W := by
  subst hq
  unfold execOp
  by_cases h : a = b
  · simp [ho, hx, hy, go_sem, Tryd.underlying144, h]
  · simp [ho, hx, hy, go_sem, Tryd.underlying144, h]
theorem rd_all {dk : Array Nat} {x y lim : Nat} {wb wp : Bool} (h12 : ¬ y - x ≤ 12) (hl0 : ¬ lim = 0) (hy : y ≤ dk.size) (hB : Go.Sort.Below ltN x y dk) : ∃ (d1 : Array Nat) (lm cp : Nat) (ch : Go.Sort.Hint) (d2 : Array Nat) (pv : Nat) (ht : Go.Sort.Hint) (d3 : Array Nat) (dn : Bool),
    ((wb = false → d1 = Go.Sort.breakPatterns dk x y ∧ lm = lim - 1) ∧ (wb = true → d1 = dk ∧ lm = lim)) ∧
    Go.Sort.choosePivot ltN d1 x y = (cp, ch) ∧
    ((ch = .decreasing → d2 = Go.Sort.reverseRange d1 x y ∧ pv = (y - 1) - (cp - x) ∧ ht = .increasing) ∧ (ch ≠ .decreasing → d2 = d1 ∧ pv = cp ∧ ht = ch)) ∧
    (((wb && wp && decide (ht = .increasing)) = true → Go.Sort.partialInsertionSort ltN d2 x y = (d3, dn)) ∧ ((wb && wp && decide (ht = .increasing)) = false → d3 = d2 ∧ dn = false)) ∧
    (x ≤ cp ∧ cp < y ∧ x ≤ pv ∧ pv < y ∧ d3.size = dk.size ∧ lm ≤ lim) ∧ Go.Sort.Below ltN x y d3 ∧
    (dn = true → Go.Sort.pdq ltN dk x y lim wb wp = d3) ∧
    (dn = false → (decide (x > 0) && !ltN d3[x - 1]! d3[pv]!) = true → ∀ mid d4, Go.Sort.partitionEqual ltN d3 x y pv = (mid, d4) → (x < mid ∧ mid ≤ y) → Go.Sort.pdq ltN dk x y lim wb wp = Go.Sort.pdq ltN d4 mid y lm wb wp) ∧
    (dn = false → (decide (x > 0) && !ltN d3[x - 1]! d3[pv]!) = false → ∀ mid ap d4, Go.Sort.partition ltN d3 x y pv = (mid, ap, d4) → (x ≤ mid ∧ mid < y) →
      (mid - x < y - mid → Go.Sort.pdq ltN dk x y lim wb wp = Go.Sort.pdq ltN (Go.Sort.pdq ltN d4 x mid lm true true) (mid + 1) y lm (decide (mid - x ≥ (y - x) / 8)) ap) ∧
      (¬ mid - x < y - mid → Go.Sort.pdq ltN dk x y lim wb wp = Go.Sort.pdq ltN (Go.Sort.pdq ltN d4 (mid + 1) y lm true true) x mid lm (decide (y - mid ≥ (y - x) / 8)) ap)) := by
  obtain ⟨s1, B1, hc1, s2, B2, hpv, s3, B3⟩ := Go.Sort.rd_facts (limit := lim) (wb := wb) (wp := wp) swo_ltN Go.Sort.partialInsertionSort_holds Go.Sort.reverseRange_holds (show x < y by omega) hy hB
  refine ⟨(Go.Sort.rd ltN dk x y lim wb wp).d1, (Go.Sort.rd ltN dk x y lim wb wp).lim, (Go.Sort.rd ltN dk x y lim wb wp).c.1, (Go.Sort.rd ltN dk x y lim wb wp).c.2, (Go.Sort.rd ltN dk x y lim wb wp).d2, (Go.Sort.rd ltN dk x y lim wb wp).pivot, (Go.Sort.rd ltN dk x y lim wb wp).hint, (Go.Sort.rd ltN dk x y lim wb wp).pi.1, (Go.Sort.rd ltN dk x y lim wb wp).pi.2, ⟨fun h => by rw [h]; exact Go.Sort.rd_false, fun h => by rw [h]; exact Go.Sort.rd_true⟩, Go.Sort.rd_c.symm, ⟨Go.Sort.rd_dec, Go.Sort.rd_not⟩, ⟨fun h => (Go.Sort.rd_pi_yes h).symm, fun h => ⟨by rw [Go.Sort.rd_pi_no h], by rw [Go.Sort.rd_pi_no h]⟩⟩, ⟨hc1.1, hc1.2, hpv.1, hpv.2, s3, Go.Sort.rd_lim_le⟩, B3, fun h => Go.Sort.pdq_done h12 hl0 h, fun h1 h2 mid d4 hx hm => ?_, fun h1 h2 mid ap d4 hx hm => ⟨fun h4 => ?_, fun h4 => ?_⟩⟩
  · rw [Go.Sort.pdq_eq h12 hl0 h1 h2 (by rw [hx]; exact hm), hx]
  · rw [Go.Sort.pdq_left h12 hl0 h1 h2 (by rw [hx]; exact hm) (by rw [hx]; exact h4), hx]
  · rw [Go.Sort.pdq_right h12 hl0 h1 h2 (by rw [hx]; exact hm) (by rw [hx]; exact h4), hx]
set_option maxHeartbeats 64000000 in
theorem pdq64_any : ∀ (NN_ : Nat) (w : World) (B g n c a b limit : Nat) (d : Array Nat), b - a < NN_ → Hid (NRow B w g n c d ∧ d.size = n) → a ≤ b → b ≤ n → n ≤ 20000 → limit ≤ 1000 → Go.Sort.Below ltN a b d → Calls Tryd.prog 67 #[.slice (some ⟨g, 0, none⟩) n c, .int .i64 (a : Int), .int .i64 (b : Int), .int .i64 (limit : Int)] w fun e w' => e = .returned (.tuple #[]) ∧ (NRow B w' g n c (Go.Sort.pdq ltN d a b limit true true) ∧ (Go.Sort.pdq ltN d a b limit true true).size = n) ∧ Below B w w' := by
  intro NN_
  induction NN_ with
  | zero => intro _ _ _ _ _ _ _ _ _ h; exact absurd h (Nat.not_lt_zero _)
  | succ NN_ ih =>
    intro w B g n c a b limit d hN N hab hbn hn hlim hBel
    obtain ⟨R, hR⟩ : ∃ R, R = Go.Sort.pdq ltN d a b limit true true := ⟨_, rfl⟩
    rw [← hR]
    have IN0 := Lib.hid hR.symm
    have BEL0 := Lib.hid hBel
    have IH := Lib.hid ih
    have HB := Lib.hid (Below.refl B w)
    have B0 := Lib.hid (show b - a < NN_ + 1 ∧ a ≤ b ∧ b ≤ n ∧ n ≤ 20000 ∧ limit ≤ 1000 from ⟨hN, hab, hbn, hn, hlim⟩)
    clear hR hBel ih hN hab hbn hn hlim
    go_enter Tryd.func67, Tryd.ntmps67
    go_wp2
    go_loopg [1, 2, 3, 8, 9] (b - a) (fun k s1 s2 s3 s8 s9 wr => ∃ (x y lim : Nat) (wb wp : Bool) (dk : Array Nat), s1 = .int .i64 (x : Int) ∧ s2 = .int .i64 (y : Int) ∧ s3 = .int .i64 (lim : Int) ∧ s8 = .bool wb ∧ s9 = .bool wp ∧ x ≤ y ∧ y ≤ n ∧ y - x ≤ k ∧ k ≤ b - a ∧ lim ≤ limit ∧ Hid (Go.Sort.Below ltN x y dk) ∧ Hid (NRow B wr g n c dk ∧ dk.size = n) ∧ Hid (Below B w wr) ∧ Hid (Go.Sort.pdq ltN dk x y lim wb wp = R))
    case atStart => exact ⟨a, b, limit, true, true, d, rfl, rfl, rfl, rfl, rfl, by have := B0.out; omega, by have := B0.out; omega, Nat.le_refl _, Nat.le_refl _, Nat.le_refl _, BEL0, N, HB, IN0⟩
    case round =>
      clear N HB IN0 BEL0
      obtain ⟨x, y, lim, wb, wp, dk, rfl, rfl, rfl, rfl, rfl, hxy, hyn, hk, hkN, hlim, BEL, N, HB, IN⟩ := hrel
      obtain ⟨D, hD⟩ : ∃ D, D = wr := ⟨_, rfl⟩
      subst hD
      obtain ⟨l, hl⟩ : ∃ l, l = y - x := ⟨_, rfl⟩
      have BI := Lib.hid (show x ≤ y ∧ y ≤ n ∧ n ≤ 20000 ∧ lim ≤ 1000 ∧ l = y - x ∧ y - x ≤ gk ∧ gk ≤ b - a ∧ b - a < NN_ + 1 ∧ lim ≤ limit ∧ limit ≤ 1000 by have := B0.out; omega)
      by_cases h12 : y - x ≤ 12
      · have LE := Lib.hid (show decide ((l : Int) ≤ 12) = true from decide_eq_true (by omega))
        have C := Lib.hid (show ∀ W, (NRow B W g n c dk ∧ dk.size = n) → Calls Tryd.prog 99 #[.slice (some ⟨g, 0, none⟩) n c, .int .i64 (x : Int), .int .i64 (y : Int)] W fun e w' => e = .returned (.tuple #[]) ∧ (NRow B w' g n c R ∧ R.size = n) ∧ Below B W w' from fun W hN => by
          have h := ins_any (a := x) (b := y) (Lib.hid hN) hxy hyn (by have := B0.out; omega)
          rw [← Go.Sort.pdq_small h12 (limit := lim) (wb := wb) (wp := wp), IN.out] at h
          exact h)
        clear hxy hyn hk hkN hlim hl h12 IN BEL
        go_wp2_with (first | ((with_reducible refine wpList_at 21 rfl ?_); refine wpList_kn rfl (.int .i64 (l : Int)) (by exact exec_sub rfl rfl rfl (by have := BI.out; rw [IntKind.wrap_i64]; omega)) ?_) | ((with_reducible refine wpList_at 23 rfl ?_); refine wpList_kn rfl (.bool true) (by exact exec_leqN rfl rfl rfl LE.out) ?_) | (go_at_call 99; with_reducible refine (C.out _ N.out).mono ?_; rintro e w7 ⟨rfl, hN, hX⟩; clear N; have N := Lib.hid hN; replace HB := Lib.hid (HB.out.trans hX); clear hN hX))
        ((try simp only [Exit.inBlock, Exit.then]); refine bodyPost_ret (results_none rfl _ _ _) rfl ?_)
        exact ⟨rfl, N.out, HB.out⟩
      have LE := Lib.hid (show decide ((l : Int) ≤ 12) = false from decide_eq_false (by omega))
      by_cases hl0 : lim = 0
      · have EZ := Lib.hid (show decide ((lim : Int) = 0) = true from decide_eq_true (by omega))
        have C := Lib.hid (show ∀ W, (NRow B W g n c dk ∧ dk.size = n) → Calls Tryd.prog 100 #[.slice (some ⟨g, 0, none⟩) n c, .int .i64 (x : Int), .int .i64 (y : Int)] W fun e w' => e = .returned (.tuple #[]) ∧ (NRow B w' g n c R ∧ R.size = n) ∧ Below B W w' from fun W hN => by
          have h := heap64_any (a := x) (b := y) (Lib.hid hN) (by omega) hyn (by have := B0.out; omega)
          rw [← Go.Sort.pdq_heap h12 hl0 (wb := wb) (wp := wp), IN.out] at h
          exact h)
        clear hxy hyn hk hkN hlim hl h12 hl0 IN BEL
        go_wp2_with (first | ((with_reducible refine wpList_at 21 rfl ?_); refine wpList_kn rfl (.int .i64 (l : Int)) (by exact exec_sub rfl rfl rfl (by have := BI.out; rw [IntKind.wrap_i64]; omega)) ?_) | ((with_reducible refine wpList_at 23 rfl ?_); refine wpList_kn rfl (.bool false) (by exact exec_leqN rfl rfl rfl LE.out) ?_) | ((with_reducible refine wpList_at 29 rfl ?_); refine wpList_kn rfl (.bool true) (by exact exec_eqli rfl rfl rfl EZ.out) ?_) | (go_at_call 100; with_reducible refine (C.out _ N.out).mono ?_; rintro e w7 ⟨rfl, hN, hX⟩; clear N; have N := Lib.hid hN; replace HB := Lib.hid (HB.out.trans hX); clear hN hX))
        ((try simp only [Exit.inBlock, Exit.then]); refine bodyPost_ret (results_none rfl _ _ _) rfl ?_)
        exact ⟨rfl, N.out, HB.out⟩
      have EZ := Lib.hid (show decide ((lim : Int) = 0) = false from decide_eq_false (by omega))
      obtain ⟨d1, lm, cp, ch, d2, pv, ht, d3, dn, hwb, hcp, hch, hpi, ⟨hb1, hb2, hb3, hb4, hs3, hlm⟩, hB3, hdn, hpe, hpt⟩ := rd_all (wb := wb) (wp := wp) h12 hl0 (by rw [N.out.2]; exact hyn) BEL.out
      have hs3n : d3.size = n := hs3.trans N.out.2
      obtain ⟨hz, hhz⟩ : ∃ hz, hz = hcode ch := ⟨_, rfl⟩
      obtain ⟨hh, hhh⟩ : ∃ hh, hh = hcode ht := ⟨_, rfl⟩
      obtain ⟨y1, hy1⟩ : ∃ y1, y1 = y - 1 := ⟨_, rfl⟩
      obtain ⟨cx, hcx⟩ : ∃ cx, cx = cp - x := ⟨_, rfl⟩
      obtain ⟨t50, ht50⟩ : ∃ t, t = decide ((hz : Int) = 2) := ⟨_, rfl⟩
      have T50 := Lib.hid ht50.symm
      have hd50 : t50 = true → ch = .decreasing := fun h => by
        rw [h] at ht50
        have h2 := of_decide_eq_true ht50.symm
        cases ch
        · rw [hhz] at h2; exact absurd h2 (by decide)
        · rw [hhz] at h2; exact absurd h2 (by decide)
        · rfl
      have hn50 : t50 = false → ch ≠ .decreasing := fun h e => by
        rw [h] at ht50
        exact absurd (of_decide_eq_false ht50.symm) (by rw [hhz, e]; decide)
      obtain ⟨t68, ht68⟩ : ∃ t, t = (wb && wp && decide (ht = .increasing)) := ⟨_, rfl⟩
      have T68 := Lib.hid ht68.symm
      have E67 := Lib.hid (show decide ((hh : Int) = 1) = decide (ht = .increasing) by rw [hhh]; cases ht <;> rfl)
      obtain ⟨t87, ht87⟩ : ∃ t, t = (decide (x > 0) && !ltN d3[x - 1]! d3[pv]!) := ⟨_, rfl⟩
      have T87 := Lib.hid ht87.symm
      have CB := Lib.hid (show wb = false → ∀ W, (NRow B W g n c dk ∧ dk.size = n) → Calls Tryd.prog 101 #[.slice (some ⟨g, 0, none⟩) n c, .int .i64 (x : Int), .int .i64 (y : Int)] W fun e w' => e = .returned (.tuple #[]) ∧ (NRow B w' g n c d1 ∧ d1.size = n) ∧ Below B W w' from fun h W hN => by
        rw [(hwb.1 h).1]
        exact brk64_any (Lib.hid hN) hxy hyn (by have := B0.out; omega))
      have KB := Lib.hid (show (wb = false → lm = lim - 1) ∧ (wb = true → d1 = dk ∧ lm = lim) ∧ 0 < lim from ⟨fun h => (hwb.1 h).2, hwb.2, by omega⟩)
      have CP := Lib.hid (show ∀ W, (NRow B W g n c d1 ∧ d1.size = n) → Calls Tryd.prog 102 #[.slice (some ⟨g, 0, none⟩) n c, .int .i64 (x : Int), .int .i64 (y : Int)] W fun e w' => e = .returned (.tuple #[.int .i64 (cp : Int), .int .i64 (hz : Int)]) ∧ (NRow B w' g n c d1 ∧ d1.size = n) ∧ Below B W w' from fun W hN => by
        have h := piv64_any (a := x) (b := y) (Lib.hid hN) hxy hyn (by omega) (by have := B0.out; omega)
        rw [hcp] at h
        rw [hhz]
        exact h.mono fun e w' q => ⟨q.1, q.2.1, q.2.2.mono hN.1.low⟩)
      have CR := Lib.hid (show t50 = true → ∀ W, (NRow B W g n c d1 ∧ d1.size = n) → Calls Tryd.prog 103 #[.slice (some ⟨g, 0, none⟩) n c, .int .i64 (x : Int), .int .i64 (y : Int)] W fun e w' => e = .returned (.tuple #[]) ∧ (NRow B w' g n c d2 ∧ d2.size = n) ∧ Below B W w' from fun h W hN => by
        rw [(hch.1 (hd50 h)).1]
        exact rev64_any (Lib.hid hN) (by omega) hyn (by have := B0.out; omega))
      have KR := Lib.hid (show (t50 = true → pv = y1 - cx ∧ hh = 1) ∧ (t50 = false → d2 = d1 ∧ pv = cp ∧ hh = hz) from ⟨fun h => ⟨by rw [hy1, hcx]; exact (hch.1 (hd50 h)).2.1, by rw [hhh, (hch.1 (hd50 h)).2.2]; rfl⟩, fun h => ⟨(hch.2 (hn50 h)).1, (hch.2 (hn50 h)).2.1, by rw [hhh, hhz, (hch.2 (hn50 h)).2.2]⟩⟩)
      have CI := Lib.hid (show t68 = true → ∀ W, (NRow B W g n c d2 ∧ d2.size = n) → Calls Tryd.prog 104 #[.slice (some ⟨g, 0, none⟩) n c, .int .i64 (x : Int), .int .i64 (y : Int)] W fun e w' => e = .returned (.bool dn) ∧ (NRow B w' g n c d3 ∧ d3.size = n) ∧ Below B W w' from fun h W hN => by
        have q := pis64_any (a := x) (b := y) (Lib.hid hN) (by omega) hyn (by have := B0.out; omega)
        rw [hpi.1 (by rw [← ht68]; exact h)] at q
        exact q)
      have KI := Lib.hid (show (t68 = false → d3 = d2 ∧ dn = false) ∧ (dn = true → d3 = R) from ⟨fun h => hpi.2 (by rw [← ht68]; exact h), fun h => by rw [← IN.out]; exact (hdn h).symm⟩)
      have LL := Lib.hid hlm
      have BND := Lib.hid (show x < y ∧ y ≤ n ∧ n ≤ 20000 ∧ pv < n ∧ x ≤ pv ∧ pv < y ∧ l = y - x ∧ lm ≤ 1000 ∧ cp < n ∧ x ≤ cp ∧ cp < y ∧ y1 = y - 1 ∧ cx = cp - x by have := B0.out; omega)
      have KE := Lib.hid (show dn = false → t87 = true → ∃ mid d4, Go.Sort.partitionEqual ltN d3 x y pv = (mid, d4) ∧ x < mid ∧ mid ≤ y ∧ Go.Sort.Below ltN mid y d4 ∧ Go.Sort.pdq ltN d4 mid y lm wb wp = R from fun h1 h2 => by
        obtain ⟨mid, d4, hx⟩ : ∃ mid d4, Go.Sort.partitionEqual ltN d3 x y pv = (mid, d4) := ⟨_, _, rfl⟩
        have h3 := h2
        rw [ht87, Bool.and_eq_true, decide_eq_true_eq, Bool.not_eq_true'] at h3
        obtain ⟨r1, r2, r3, r4, _⟩ := Go.Sort.round_eq swo_ltN (Go.Sort.partitionEqual_holds _) h3.1 hb3 hb4 (show y ≤ d3.size by omega) hB3 h3.2 hx
        exact ⟨mid, d4, hx, r1, r2, r4, by rw [← IN.out]; exact (hpe h1 (ht87 ▸ h2) mid d4 hx ⟨r1, r2⟩).symm⟩)
      have KP := Lib.hid (show dn = false → t87 = false → ∃ mid ap d4, Go.Sort.partition ltN d3 x y pv = (mid, ap, d4) ∧ x ≤ mid ∧ mid < y ∧ Go.Sort.Below ltN x mid d4 ∧ Go.Sort.Below ltN (mid + 1) y d4 ∧ (mid - x < y - mid → Go.Sort.Below ltN (mid + 1) y (Go.Sort.pdq ltN d4 x mid lm true true) ∧ Go.Sort.pdq ltN (Go.Sort.pdq ltN d4 x mid lm true true) (mid + 1) y lm (decide (mid - x ≥ (y - x) / 8)) ap = R) ∧ (¬ mid - x < y - mid → Go.Sort.Below ltN x mid (Go.Sort.pdq ltN d4 (mid + 1) y lm true true) ∧ Go.Sort.pdq ltN (Go.Sort.pdq ltN d4 (mid + 1) y lm true true) x mid lm (decide (y - mid ≥ (y - x) / 8)) ap = R) from fun h1 h2 => by
        obtain ⟨mid, ap, d4, hx⟩ : ∃ mid ap d4, Go.Sort.partition ltN d3 x y pv = (mid, ap, d4) := ⟨(Go.Sort.partition ltN d3 x y pv).1, (Go.Sort.partition ltN d3 x y pv).2.1, (Go.Sort.partition ltN d3 x y pv).2.2, rfl⟩
        obtain ⟨r1, r2, r3, r4, r5, r6, r7⟩ := Go.Sort.round_part swo_ltN (Go.Sort.partition_holds _) hb3 hb4 (show y ≤ d3.size by omega) hB3 hx
        have q := hpt h1 (ht87 ▸ h2) mid ap d4 hx ⟨r1, r2⟩
        refine ⟨mid, ap, d4, hx, r1, r2, r4, r5, fun h4 => ⟨?_, by rw [← IN.out]; exact (q.1 h4).symm⟩, fun h4 => ⟨?_, by rw [← IN.out]; exact (q.2 h4).symm⟩⟩
        · obtain ⟨pL, sL⟩ := Go.Sort.pdq_sorts ltN swo_ltN d4 x mid lm true true r1 (by omega) r4
          exact (r6 _ pL sL).1
        · obtain ⟨pL, sL⟩ := Go.Sort.pdq_sorts ltN swo_ltN d4 (mid + 1) y lm true true r2 (by omega) r5
          exact (r7 _ pL sL).1)
      clear hwb hcp hch hpi hb1 hb2 hb3 hb4 hs3 hlm hB3 hdn hpe hpt hhz hhh hy1 hcx ht50 hd50 hn50 ht68 ht87 hxy hyn hk hkN hlim hl h12 hl0 IN BEL hs3n
      go_upto_if 35 with (first | ((with_reducible refine wpList_at 21 rfl ?_); refine wpList_kn rfl (.int .i64 (l : Int)) (by exact exec_sub rfl rfl rfl (by have := BI.out; rw [IntKind.wrap_i64]; omega)) ?_) | ((with_reducible refine wpList_at 23 rfl ?_); refine wpList_kn rfl (.bool false) (by exact exec_leqN rfl rfl rfl LE.out) ?_) | ((with_reducible refine wpList_at 29 rfl ?_); refine wpList_kn rfl (.bool false) (by exact exec_eqli rfl rfl rfl EZ.out) ?_))
      go_cut [3] from 19 (fun s3 wc => s3 = .int .i64 (lm : Int) ∧ Hid (NRow B wc g n c d1 ∧ d1.size = n) ∧ Hid (Below B w wc))
      case first =>
        cases wb
        · have CB2 := Lib.hid (CB.out rfl)
          have LMQ := Lib.hid (show lm = lim - 1 ∧ 0 < lim from ⟨KB.out.1 rfl, KB.out.2.2⟩)
          go_wp2_with (first | (go_at_call 101; with_reducible refine (CB2.out _ N.out).mono ?_; rintro e w7 ⟨rfl, hN, hX⟩; clear N; have N := Lib.hid hN; replace HB := Lib.hid (HB.out.trans hX); clear hN hX) | ((with_reducible refine wpList_at 41 rfl ?_); refine wpList_kn rfl (.int .i64 (lm : Int)) (by exact exec_sub rfl rfl rfl (by have := BI.out; have := LMQ.out; rw [IntKind.wrap_i64]; omega)) ?_))
          go_meet
          case rel => exact ⟨rfl, N, HB⟩
        · obtain ⟨e1, e2⟩ := KB.out.2.1 rfl
          go_wp2_with fail
          go_meet
          case rel => exact ⟨by rw [e2], by rw [e1]; exact N, HB⟩
      case rest =>
        clear N HB
        obtain ⟨rfl, N, HB⟩ := hcut
        go_upto_if 50 with (first | (go_at_call 102; with_reducible refine (CP.out _ N.out).mono ?_; rintro e w7 ⟨rfl, hN, hX⟩; clear N; have N := Lib.hid hN; replace HB := Lib.hid (HB.out.trans hX); clear hN hX) | ((with_reducible refine wpList_at 50 rfl ?_); refine wpList_kn rfl (.bool t50) (by exact exec_eqH rfl rfl rfl T50.out) ?_))
        try simp only [Act.put, lqA, lqB, lqC, lqD, lqE, lqF]
        go_cut [11, 12] from 19 (fun s11 s12 wx => s11 = .int .i64 (pv : Int) ∧ s12 = .int .i64 (hh : Int) ∧ Hid (NRow B wx g n c d2 ∧ d2.size = n) ∧ Hid (Below B w wx))
        case first =>
          cases t50
          · obtain ⟨e1, e2, e3⟩ := KR.out.2 rfl
            go_wp2_with fail
            go_meet
            case rel => exact ⟨by rw [e2], by rw [e3], by rw [e1]; exact N, HB⟩
          · have CR2 := Lib.hid (CR.out rfl)
            obtain ⟨e2, e3⟩ := KR.out.1 rfl
            have PVX := Lib.hid e2
            have HHX := Lib.hid e3
            clear e2 e3
            go_wp2_with (first | (go_at_call 103; with_reducible refine (CR2.out _ N.out).mono ?_; rintro e w7 ⟨rfl, hN, hX⟩; clear N; have N := Lib.hid hN; replace HB := Lib.hid (HB.out.trans hX); clear hN hX) | ((with_reducible refine wpList_at 56 rfl ?_); refine wpList_kn rfl (.int .i64 (y1 : Int)) (by exact exec_sub rfl rfl rfl (by have := BND.out; rw [IntKind.wrap_i64]; omega)) ?_) | ((with_reducible refine wpList_at 59 rfl ?_); refine wpList_kn rfl (.int .i64 (cx : Int)) (by exact exec_sub rfl rfl rfl (by have := BND.out; rw [IntKind.wrap_i64]; omega)) ?_) | ((with_reducible refine wpList_at 60 rfl ?_); refine wpList_kn rfl (.int .i64 (pv : Int)) (by exact exec_sub rfl rfl rfl (by have := BND.out; have := PVX.out; rw [IntKind.wrap_i64]; omega)) ?_))
            go_meet
            case rel => exact ⟨rfl, by rw [HHX.out]; rfl, N, HB⟩
        case rest =>
          clear N HB
          obtain ⟨rfl, rfl, N, HB⟩ := hcut
          go_upto_region 15 with fail
          try simp only [Act.put, lqA, lqB, lqC, lqD, lqE, lqF]
          go_cut [12, 68] from 19 (fun s12 s68 wy => s12 = .int .i64 (hh : Int) ∧ s68 = .bool t68 ∧ Hid (NRow B wy g n c d2 ∧ d2.size = n) ∧ Hid (Below B w wy))
          case first =>
            cases wb
            · go_wp2_with fail
              go_meet
              exact ⟨rfl, by rw [← T68.out]; rfl, N, HB⟩
            · cases wp
              · go_wp2_with fail
                go_meet
                exact ⟨rfl, by rw [← T68.out]; rfl, N, HB⟩
              · have E68 := Lib.hid (show decide ((hh : Int) = 1) = t68 by rw [E67.out, ← T68.out]; rfl)
                go_wp2_with ((with_reducible refine wpList_at 67 rfl ?_); refine wpList_kn rfl (.bool t68) (by exact exec_eqH rfl rfl rfl E68.out) ?_)
                go_meet
                exact ⟨rfl, rfl, N, HB⟩
          case rest =>
            clear N HB
            obtain ⟨rfl, rfl, N, HB⟩ := hcut
            go_upto_if 68 with fail
            go_cut [] from 19 (fun wz => Hid (dn = false) ∧ Hid (NRow B wz g n c d3 ∧ d3.size = n) ∧ Hid (Below B w wz))
            case first =>
              cases t68
              · obtain ⟨e1, e2⟩ := KI.out.1 rfl
                go_wp2_with fail
                go_meet
                case rel => exact ⟨Lib.hid e2, by rw [e1]; exact N, HB⟩
              · have CI2 := Lib.hid (CI.out rfl)
                have KD := KI.out.2
                cases dn
                · clear KD
                  go_wp2_with (first | (go_at_call 104; with_reducible refine (CI2.out _ N.out).mono ?_; rintro e w7 ⟨rfl, hN, hX⟩; clear N; have N := Lib.hid hN; replace HB := Lib.hid (HB.out.trans hX); clear hN hX))
                  go_meet
                  case rel => exact ⟨Lib.hid (by first | trivial | rfl), N, HB⟩
                · obtain rfl : R = d3 := (KD rfl).symm
                  clear KD
                  go_wp2_with (first | (go_at_call 104; with_reducible refine (CI2.out _ N.out).mono ?_; rintro e w7 ⟨rfl, hN, hX⟩; clear N; have N := Lib.hid hN; replace HB := Lib.hid (HB.out.trans hX); clear hN hX))
                  ((try simp only [Exit.inBlock, Exit.then]); refine bodyPost_ret (results_none rfl _ _ _) rfl ?_)
                  exact ⟨rfl, N.out, HB.out⟩
            case rest =>
              clear N HB
              obtain ⟨HDN, N, HB⟩ := hcut
              go_upto_region 17 with fail
              try simp only [Act.put, lqA, lqB, lqC, lqD, lqE, lqF]
              go_cut [87] from 19 (fun s87 wv => s87 = .bool t87 ∧ Hid (NRow B wv g n c d3 ∧ d3.size = n) ∧ Hid (Below B w wv))
              case first =>
                by_cases hx0 : 0 < x
                · have GX := Lib.hid (show decide ((0 : Int) < (x : Int)) = true from decide_eq_true (by omega))
                  replace BND := Lib.hid (And.intro hx0 BND.out)
                  by_cases hq : d3[x - 1]! < d3[pv]!
                  · have LQ := Lib.hid (decide_eq_true hq)
                    obtain rfl : false = t87 := by rw [← T87.out]; simp only [ltN]; rw [LQ.out]; simp
                    clear hx0 hq
                    refine wp_region_T (Φ := fun X => (NRow B X g n c d3 ∧ d3.size = n) ∧ Below B w X) (S := fun X => (NRow B X g n c d3 ∧ d3.size = n) ∧ Below B w X) (Lib.hid ⟨N.out, HB.out⟩) (fun X h => ⟨⟨h.1.1.below ((Below.refl _ _).drew), h.1.2⟩, h.2.drew⟩) (fun X h => h) (by kernel_rfl) ?_
                    clear N HB
                    intro wx TT S0
                    have N := Lib.hid TT.out.1
                    have HB := Lib.hid TT.out.2
                    clear TT
                    refine hm_run 0 73 (.int .i64 ((x : Nat) : Int)) rfl rfl (by kernel_rfl) (by kernel_rfl) (by kernel_rfl) (fun _ _ _ h => h) rfl (fun _ _ => rfl) S0.out ?_
                    try simp only [Act.put, lqA, lqB, lqC, lqD, lqE, lqF]
                    refine hm_run 1 74 (.bool true) rfl rfl (by kernel_rfl) (by kernel_rfl) (by kernel_rfl) (fun _ _ _ h => h) rfl (fun _ _ => exec_gtrN rfl rfl rfl GX.out) S0.out ?_
                    try simp only [Act.put, lqA, lqB, lqC, lqD, lqE, lqF]
                    refine hm_run 2 75 (.bool true) rfl rfl (by kernel_rfl) (by kernel_rfl) (by kernel_rfl) (fun _ _ _ h => h) rfl (fun _ _ => rfl) S0.out ?_
                    try simp only [Act.put, lqA, lqB, lqC, lqD, lqE, lqF]
                    refine hm_run 3 76 (.slice (some ⟨g, 0, none⟩) n c) rfl rfl (by kernel_rfl) (by kernel_rfl) (by kernel_rfl) (fun _ _ _ h => h) rfl (fun _ _ => rfl) S0.out ?_
                    try simp only [Act.put, lqA, lqB, lqC, lqD, lqE, lqF]
                    refine hm_run 4 77 (.int .i64 ((x : Nat) : Int)) rfl rfl (by kernel_rfl) (by kernel_rfl) (by kernel_rfl) (fun _ _ _ h => h) rfl (fun _ _ => rfl) S0.out ?_
                    try simp only [Act.put, lqA, lqB, lqC, lqD, lqE, lqF]
                    refine hm_run 5 78 (.int .i64 (((x) - 1 : Nat) : Int)) rfl rfl (by kernel_rfl) (by kernel_rfl) (by kernel_rfl) (fun _ _ _ h => h) rfl (fun _ _ => exec_sub rfl rfl rfl (by have := BND.out; rw [IntKind.wrap_i64]; omega)) S0.out ?_
                    try simp only [Act.put, lqA, lqB, lqC, lqD, lqE, lqF]
                    refine hm_run 6 79 (.pointer (some ⟨g, 0 + ((x) - 1) * 1, none⟩)) rfl rfl (by kernel_rfl) (by kernel_rfl) (by kernel_rfl) (fun _ _ _ h => h) rfl (fun W _ => exec_ix rfl (run_ix (k := 1) (j := (x) - 1) Tryd.underlying54 (by kernel_rfl) (by have := BND.out; omega) rfl W)) S0.out ?_
                    try simp only [Act.put, lqA, lqB, lqC, lqD, lqE, lqF]
                    refine hm_run 7 80 (.int .u64 ((d3[(x) - 1]! : Nat) : Int)) rfl rfl (by kernel_rfl) (by kernel_rfl) (by kernel_rfl) (fun _ _ _ h => h) rfl (fun W hW => exec_load rfl (run_load_one Tryd.underlying59 rfl (cell_dn (Lib.hid hW.1) (by have := BND.out; omega)))) S0.out ?_
                    try simp only [Act.put, lqA, lqB, lqC, lqD, lqE, lqF]
                    refine hm_run 8 81 (.slice (some ⟨g, 0, none⟩) n c) rfl rfl (by kernel_rfl) (by kernel_rfl) (by kernel_rfl) (fun _ _ _ h => h) rfl (fun _ _ => rfl) S0.out ?_
                    try simp only [Act.put, lqA, lqB, lqC, lqD, lqE, lqF]
                    refine hm_run 9 82 (.int .i64 ((pv : Nat) : Int)) rfl rfl (by kernel_rfl) (by kernel_rfl) (by kernel_rfl) (fun _ _ _ h => h) rfl (fun _ _ => rfl) S0.out ?_
                    try simp only [Act.put, lqA, lqB, lqC, lqD, lqE, lqF]
                    refine hm_run 10 83 (.pointer (some ⟨g, 0 + (pv) * 1, none⟩)) rfl rfl (by kernel_rfl) (by kernel_rfl) (by kernel_rfl) (fun _ _ _ h => h) rfl (fun W _ => exec_ix rfl (run_ix (k := 1) (j := pv) Tryd.underlying54 (by kernel_rfl) (by have := BND.out; omega) rfl W)) S0.out ?_
                    try simp only [Act.put, lqA, lqB, lqC, lqD, lqE, lqF]
                    refine hm_run 11 84 (.int .u64 ((d3[pv]! : Nat) : Int)) rfl rfl (by kernel_rfl) (by kernel_rfl) (by kernel_rfl) (fun _ _ _ h => h) rfl (fun W hW => exec_load rfl (run_load_one Tryd.underlying59 rfl (cell_dn (Lib.hid hW.1) (by have := BND.out; omega)))) S0.out ?_
                    try simp only [Act.put, lqA, lqB, lqC, lqD, lqE, lqF]
                    refine hm_one (i := 12) (by kernel_rfl) ?_
                    refine hm_step 12 rfl (by kernel_rfl) fun K hK => ?_
                    try simp only [Act.put, lqA, lqB, lqC, lqD, lqE, lqF]
                    go_simp
                    go_at_call 58
                    refine (less_any _ _ _).mono ?_
                    rintro e w7 ⟨rfl, rfl⟩
                    rw [LQ.out]
                    refine hK _ _ S0.out ?_
                    clear hK K
                    try simp only [Act.put, lqA, lqB, lqC, lqD, lqE, lqF]
                    refine hm_run 13 86 (.bool false) rfl rfl (by kernel_rfl) (by kernel_rfl) (by kernel_rfl) (fun _ _ _ h => h) rfl (fun _ _ => rfl) S0.out ?_
                    try simp only [Act.put, lqA, lqB, lqC, lqD, lqE, lqF]
                    refine hm_run 14 87 (.bool false) rfl rfl (by kernel_rfl) (by kernel_rfl) (by kernel_rfl) (fun _ _ _ h => h) rfl (fun _ _ => rfl) S0.out ?_
                    try simp only [Act.put, lqA, lqB, lqC, lqD, lqE, lqF]
                    refine wpAnyH_done (by kernel_rfl) ?_ _
                    go_wp2_with fail
                    go_meet
                    exact ⟨rfl, N, HB⟩
                  · have LQ := Lib.hid (decide_eq_false hq)
                    obtain rfl : true = t87 := by rw [← T87.out]; simp only [ltN]; rw [LQ.out]; simp [hx0]
                    clear hx0 hq
                    refine wp_region_T (Φ := fun X => (NRow B X g n c d3 ∧ d3.size = n) ∧ Below B w X) (S := fun X => (NRow B X g n c d3 ∧ d3.size = n) ∧ Below B w X) (Lib.hid ⟨N.out, HB.out⟩) (fun X h => ⟨⟨h.1.1.below ((Below.refl _ _).drew), h.1.2⟩, h.2.drew⟩) (fun X h => h) (by kernel_rfl) ?_
                    clear N HB
                    intro wx TT S0
                    have N := Lib.hid TT.out.1
                    have HB := Lib.hid TT.out.2
                    clear TT
                    refine hm_run 0 73 (.int .i64 ((x : Nat) : Int)) rfl rfl (by kernel_rfl) (by kernel_rfl) (by kernel_rfl) (fun _ _ _ h => h) rfl (fun _ _ => rfl) S0.out ?_
                    try simp only [Act.put, lqA, lqB, lqC, lqD, lqE, lqF]
                    refine hm_run 1 74 (.bool true) rfl rfl (by kernel_rfl) (by kernel_rfl) (by kernel_rfl) (fun _ _ _ h => h) rfl (fun _ _ => exec_gtrN rfl rfl rfl GX.out) S0.out ?_
                    try simp only [Act.put, lqA, lqB, lqC, lqD, lqE, lqF]
                    refine hm_run 2 75 (.bool true) rfl rfl (by kernel_rfl) (by kernel_rfl) (by kernel_rfl) (fun _ _ _ h => h) rfl (fun _ _ => rfl) S0.out ?_
                    try simp only [Act.put, lqA, lqB, lqC, lqD, lqE, lqF]
                    refine hm_run 3 76 (.slice (some ⟨g, 0, none⟩) n c) rfl rfl (by kernel_rfl) (by kernel_rfl) (by kernel_rfl) (fun _ _ _ h => h) rfl (fun _ _ => rfl) S0.out ?_
                    try simp only [Act.put, lqA, lqB, lqC, lqD, lqE, lqF]
                    refine hm_run 4 77 (.int .i64 ((x : Nat) : Int)) rfl rfl (by kernel_rfl) (by kernel_rfl) (by kernel_rfl) (fun _ _ _ h => h) rfl (fun _ _ => rfl) S0.out ?_
                    try simp only [Act.put, lqA, lqB, lqC, lqD, lqE, lqF]
                    refine hm_run 5 78 (.int .i64 (((x) - 1 : Nat) : Int)) rfl rfl (by kernel_rfl) (by kernel_rfl) (by kernel_rfl) (fun _ _ _ h => h) rfl (fun _ _ => exec_sub rfl rfl rfl (by have := BND.out; rw [IntKind.wrap_i64]; omega)) S0.out ?_
                    try simp only [Act.put, lqA, lqB, lqC, lqD, lqE, lqF]
                    refine hm_run 6 79 (.pointer (some ⟨g, 0 + ((x) - 1) * 1, none⟩)) rfl rfl (by kernel_rfl) (by kernel_rfl) (by kernel_rfl) (fun _ _ _ h => h) rfl (fun W _ => exec_ix rfl (run_ix (k := 1) (j := (x) - 1) Tryd.underlying54 (by kernel_rfl) (by have := BND.out; omega) rfl W)) S0.out ?_
                    try simp only [Act.put, lqA, lqB, lqC, lqD, lqE, lqF]
                    refine hm_run 7 80 (.int .u64 ((d3[(x) - 1]! : Nat) : Int)) rfl rfl (by kernel_rfl) (by kernel_rfl) (by kernel_rfl) (fun _ _ _ h => h) rfl (fun W hW => exec_load rfl (run_load_one Tryd.underlying59 rfl (cell_dn (Lib.hid hW.1) (by have := BND.out; omega)))) S0.out ?_
                    try simp only [Act.put, lqA, lqB, lqC, lqD, lqE, lqF]
                    refine hm_run 8 81 (.slice (some ⟨g, 0, none⟩) n c) rfl rfl (by kernel_rfl) (by kernel_rfl) (by kernel_rfl) (fun _ _ _ h => h) rfl (fun _ _ => rfl) S0.out ?_
                    try simp only [Act.put, lqA, lqB, lqC, lqD, lqE, lqF]
                    refine hm_run 9 82 (.int .i64 ((pv : Nat) : Int)) rfl rfl (by kernel_rfl) (by kernel_rfl) (by kernel_rfl) (fun _ _ _ h => h) rfl (fun _ _ => rfl) S0.out ?_
                    try simp only [Act.put, lqA, lqB, lqC, lqD, lqE, lqF]
                    refine hm_run 10 83 (.pointer (some ⟨g, 0 + (pv) * 1, none⟩)) rfl rfl (by kernel_rfl) (by kernel_rfl) (by kernel_rfl) (fun _ _ _ h => h) rfl (fun W _ => exec_ix rfl (run_ix (k := 1) (j := pv) Tryd.underlying54 (by kernel_rfl) (by have := BND.out; omega) rfl W)) S0.out ?_
                    try simp only [Act.put, lqA, lqB, lqC, lqD, lqE, lqF]
                    refine hm_run 11 84 (.int .u64 ((d3[pv]! : Nat) : Int)) rfl rfl (by kernel_rfl) (by kernel_rfl) (by kernel_rfl) (fun _ _ _ h => h) rfl (fun W hW => exec_load rfl (run_load_one Tryd.underlying59 rfl (cell_dn (Lib.hid hW.1) (by have := BND.out; omega)))) S0.out ?_
                    try simp only [Act.put, lqA, lqB, lqC, lqD, lqE, lqF]
                    refine hm_one (i := 12) (by kernel_rfl) ?_
                    refine hm_step 12 rfl (by kernel_rfl) fun K hK => ?_
                    try simp only [Act.put, lqA, lqB, lqC, lqD, lqE, lqF]
                    go_simp
                    go_at_call 58
                    refine (less_any _ _ _).mono ?_
                    rintro e w7 ⟨rfl, rfl⟩
                    rw [LQ.out]
                    refine hK _ _ S0.out ?_
                    clear hK K
                    try simp only [Act.put, lqA, lqB, lqC, lqD, lqE, lqF]
                    refine hm_run 13 86 (.bool true) rfl rfl (by kernel_rfl) (by kernel_rfl) (by kernel_rfl) (fun _ _ _ h => h) rfl (fun _ _ => rfl) S0.out ?_
                    try simp only [Act.put, lqA, lqB, lqC, lqD, lqE, lqF]
                    refine hm_run 14 87 (.bool true) rfl rfl (by kernel_rfl) (by kernel_rfl) (by kernel_rfl) (fun _ _ _ h => h) rfl (fun _ _ => rfl) S0.out ?_
                    try simp only [Act.put, lqA, lqB, lqC, lqD, lqE, lqF]
                    refine wpAnyH_done (by kernel_rfl) ?_ _
                    go_wp2_with fail
                    go_meet
                    exact ⟨rfl, N, HB⟩
                · have GX := Lib.hid (show decide ((0 : Int) < (x : Int)) = false from decide_eq_false (by omega))
                  obtain rfl : false = t87 := by rw [← T87.out]; simp; omega
                  clear hx0
                  refine wp_region_T (Φ := fun X => (NRow B X g n c d3 ∧ d3.size = n) ∧ Below B w X) (S := fun X => (NRow B X g n c d3 ∧ d3.size = n) ∧ Below B w X) (Lib.hid ⟨N.out, HB.out⟩) (fun X h => ⟨⟨h.1.1.below ((Below.refl _ _).drew), h.1.2⟩, h.2.drew⟩) (fun X h => h) (by kernel_rfl) ?_
                  clear N HB
                  intro wx TT S0
                  have N := Lib.hid TT.out.1
                  have HB := Lib.hid TT.out.2
                  clear TT
                  refine hm_run 0 73 (.int .i64 ((x : Nat) : Int)) rfl rfl (by kernel_rfl) (by kernel_rfl) (by kernel_rfl) (fun _ _ _ h => h) rfl (fun _ _ => rfl) S0.out ?_
                  try simp only [Act.put, lqA, lqB, lqC, lqD, lqE, lqF]
                  refine hm_run 1 74 (.bool false) rfl rfl (by kernel_rfl) (by kernel_rfl) (by kernel_rfl) (fun _ _ _ h => h) rfl (fun _ _ => exec_gtrN rfl rfl rfl GX.out) S0.out ?_
                  try simp only [Act.put, lqA, lqB, lqC, lqD, lqE, lqF]
                  refine hm_run 2 75 (.bool false) rfl rfl (by kernel_rfl) (by kernel_rfl) (by kernel_rfl) (fun _ _ _ h => h) rfl (fun _ _ => rfl) S0.out ?_
                  try simp only [Act.put, lqA, lqB, lqC, lqD, lqE, lqF]
                  refine hm_off 3 76 rfl rfl (by kernel_rfl) (by kernel_rfl) (by kernel_rfl) (fun _ _ _ h => h) rfl S0.out ?_
                  try simp only [Act.put, lqA, lqB, lqC, lqD, lqE, lqF]
                  refine hm_off 4 77 rfl rfl (by kernel_rfl) (by kernel_rfl) (by kernel_rfl) (fun _ _ _ h => h) rfl S0.out ?_
                  try simp only [Act.put, lqA, lqB, lqC, lqD, lqE, lqF]
                  refine hm_off 5 78 rfl rfl (by kernel_rfl) (by kernel_rfl) (by kernel_rfl) (fun _ _ _ h => h) rfl S0.out ?_
                  try simp only [Act.put, lqA, lqB, lqC, lqD, lqE, lqF]
                  refine hm_off 6 79 rfl rfl (by kernel_rfl) (by kernel_rfl) (by kernel_rfl) (fun _ _ _ h => h) rfl S0.out ?_
                  try simp only [Act.put, lqA, lqB, lqC, lqD, lqE, lqF]
                  refine hm_off 7 80 rfl rfl (by kernel_rfl) (by kernel_rfl) (by kernel_rfl) (fun _ _ _ h => h) rfl S0.out ?_
                  try simp only [Act.put, lqA, lqB, lqC, lqD, lqE, lqF]
                  refine hm_off 8 81 rfl rfl (by kernel_rfl) (by kernel_rfl) (by kernel_rfl) (fun _ _ _ h => h) rfl S0.out ?_
                  try simp only [Act.put, lqA, lqB, lqC, lqD, lqE, lqF]
                  refine hm_off 9 82 rfl rfl (by kernel_rfl) (by kernel_rfl) (by kernel_rfl) (fun _ _ _ h => h) rfl S0.out ?_
                  try simp only [Act.put, lqA, lqB, lqC, lqD, lqE, lqF]
                  refine hm_off 10 83 rfl rfl (by kernel_rfl) (by kernel_rfl) (by kernel_rfl) (fun _ _ _ h => h) rfl S0.out ?_
                  try simp only [Act.put, lqA, lqB, lqC, lqD, lqE, lqF]
                  refine hm_off 11 84 rfl rfl (by kernel_rfl) (by kernel_rfl) (by kernel_rfl) (fun _ _ _ h => h) rfl S0.out ?_
                  try simp only [Act.put, lqA, lqB, lqC, lqD, lqE, lqF]
                  refine hm_off 12 85 rfl rfl (by kernel_rfl) (by kernel_rfl) (by kernel_rfl) (fun _ _ _ h => h) rfl S0.out ?_
                  try simp only [Act.put, lqA, lqB, lqC, lqD, lqE, lqF]
                  refine hm_off 13 86 rfl rfl (by kernel_rfl) (by kernel_rfl) (by kernel_rfl) (fun _ _ _ h => h) rfl S0.out ?_
                  try simp only [Act.put, lqA, lqB, lqC, lqD, lqE, lqF]
                  refine hm_run 14 87 (.bool false) rfl rfl (by kernel_rfl) (by kernel_rfl) (by kernel_rfl) (fun _ _ _ h => h) rfl (fun _ _ => rfl) S0.out ?_
                  try simp only [Act.put, lqA, lqB, lqC, lqD, lqE, lqF]
                  refine wpAnyH_done (by kernel_rfl) ?_ _
                  go_wp2_with fail
                  go_meet
                  exact ⟨rfl, N, HB⟩
              case rest =>
                clear N HB
                obtain ⟨rfl, N, HB⟩ := hcut
                cases t87
                · obtain ⟨mid, ap, d4, hx, r1, r2, r4, r5, hl4, hr4⟩ := KP.out HDN.out rfl
                  have C := Lib.hid (show ∀ W, (NRow B W g n c d3 ∧ d3.size = n) → Calls Tryd.prog 106 #[.slice (some ⟨g, 0, none⟩) n c, .int .i64 (x : Int), .int .i64 (y : Int), .int .i64 (pv : Int)] W fun e w' => e = .returned (.tuple #[.int .i64 (mid : Int), .bool ap]) ∧ (NRow B w' g n c d4 ∧ d4.size = n) ∧ Below B W w' from fun W hN => by
                    have h := part64_any (a := x) (b := y) (pv := pv) (Lib.hid hN) (by have := BND.out; omega) (by have := BND.out; omega) (by have := BND.out; omega) (by have := BND.out; omega)
                    rw [hx] at h
                    exact h)
                  obtain ⟨ml, hml⟩ : ∃ ml, ml = mid - x := ⟨_, rfl⟩
                  obtain ⟨mr, hmr⟩ : ∃ mr, mr = y - mid := ⟨_, rfl⟩
                  obtain ⟨l8, hl8⟩ : ∃ l8, l8 = l / 8 := ⟨_, rfl⟩
                  obtain ⟨m1, hm1⟩ : ∃ m1, m1 = mid + 1 := ⟨_, rfl⟩
                  have BM := Lib.hid (show x ≤ mid ∧ mid < y ∧ y ≤ n ∧ n ≤ 20000 ∧ ml = mid - x ∧ mr = y - mid ∧ l8 = l / 8 ∧ l = y - x ∧ m1 = mid + 1 ∧ y - x ≤ gk ∧ gk ≤ b - a ∧ lm ≤ 1000 by have := BND.out; have := BI.out; omega)
                  have E8 : (y - x) / 8 = l8 := by have := BM.out; omega
                  rw [← hml, ← hmr, ← hm1, E8] at hl4 hr4
                  rw [← hm1] at r5
                  by_cases h4 : ml < mr
                  · obtain ⟨hL, hRR⟩ := hl4 h4
                    have L4 := Lib.hid (show decide ((ml : Int) < (mr : Int)) = true from decide_eq_true (by omega))
                    have G8 := Lib.hid (show decide ((l8 : Int) ≤ (ml : Int)) = decide (ml ≥ l8) by apply decide_eq_decide.2; omega)
                    have CI3 := Lib.hid (show ∀ W, (NRow B W g n c d4 ∧ d4.size = n) → Calls Tryd.prog 67 #[.slice (some ⟨g, 0, none⟩) n c, .int .i64 (x : Int), .int .i64 (mid : Int), .int .i64 (lm : Int)] W fun e w' => e = .returned (.tuple #[]) ∧ (NRow B w' g n c (Go.Sort.pdq ltN d4 x mid lm true true) ∧ (Go.Sort.pdq ltN d4 x mid lm true true).size = n) ∧ Below B W w' from fun W hN => IH.out W B g n c x mid lm d4 (by have := BM.out; have := BI.out; omega) (Lib.hid hN) r1 (by have := BM.out; omega) (by have := BM.out; omega) (by have := BM.out; omega) r4)
                    have RL := Lib.hid hL
                    have RR2 := Lib.hid hRR
                    clear hx r1 r2 r4 r5 hl4 hr4 hml hmr hl8 hm1 E8 h4 hL hRR
                    go_wp2_with (first | (go_at_call 106; with_reducible refine (C.out _ N.out).mono ?_; rintro e w7 ⟨rfl, hN, hX⟩; clear N; have N := Lib.hid hN; replace HB := Lib.hid (HB.out.trans hX); clear hN hX) | ((with_reducible refine wpList_at 105 rfl ?_); refine wpList_kn rfl (.int .i64 (ml : Int)) (by exact exec_sub rfl rfl rfl (by have := BM.out; rw [IntKind.wrap_i64]; omega)) ?_) | ((with_reducible refine wpList_at 108 rfl ?_); refine wpList_kn rfl (.int .i64 (mr : Int)) (by exact exec_sub rfl rfl rfl (by have := BM.out; rw [IntKind.wrap_i64]; omega)) ?_) | ((with_reducible refine wpList_at 110 rfl ?_); refine wpList_kn rfl (.int .i64 (l8 : Int)) (by exact exec_quo (m := l) (q := 8) (z := l8) rfl rfl rfl (by decide) (by have := BM.out; omega) (by have := BM.out; omega)) ?_) | ((with_reducible refine wpList_at 113 rfl ?_); refine wpList_kn rfl (.bool true) (by exact exec_lssi rfl rfl rfl L4.out) ?_) | ((with_reducible refine wpList_at 116 rfl ?_); refine wpList_kn rfl (.bool (decide (ml ≥ l8))) (by exact exec_geqN rfl rfl rfl G8.out) ?_) | (go_at_call 67; with_reducible refine (CI3.out _ N.out).mono ?_; rintro e w7 ⟨rfl, hN, hX⟩; clear N; have N := Lib.hid hN; replace HB := Lib.hid (HB.out.trans hX); clear hN hX) | ((with_reducible refine wpList_at 123 rfl ?_); refine wpList_kn rfl (.int .i64 (m1 : Int)) (by exact exec_add rfl rfl rfl (by have := BM.out; rw [IntKind.wrap_i64]; omega)) ?_))
                    go_roundg (y - m1)
                    case measure => have := BM.out; omega
                    case rel => exact ⟨m1, y, lm, decide (ml ≥ l8), ap, _, rfl, rfl, rfl, rfl, rfl, by have := BM.out; omega, by have := BM.out; omega, Nat.le_refl _, by have := BM.out; omega, by have := LL.out; have := BI.out; omega, RL, N, HB, RR2⟩
                  · obtain ⟨hL, hRR⟩ := hr4 h4
                    have L4 := Lib.hid (show decide ((ml : Int) < (mr : Int)) = false from decide_eq_false (by omega))
                    have G8 := Lib.hid (show decide ((l8 : Int) ≤ (mr : Int)) = decide (mr ≥ l8) by apply decide_eq_decide.2; omega)
                    have CI3 := Lib.hid (show ∀ W, (NRow B W g n c d4 ∧ d4.size = n) → Calls Tryd.prog 67 #[.slice (some ⟨g, 0, none⟩) n c, .int .i64 (m1 : Int), .int .i64 (y : Int), .int .i64 (lm : Int)] W fun e w' => e = .returned (.tuple #[]) ∧ (NRow B w' g n c (Go.Sort.pdq ltN d4 m1 y lm true true) ∧ (Go.Sort.pdq ltN d4 m1 y lm true true).size = n) ∧ Below B W w' from fun W hN => IH.out W B g n c m1 y lm d4 (by have := BM.out; have := BI.out; omega) (Lib.hid hN) (by have := BM.out; omega) (by have := BM.out; omega) (by have := BM.out; omega) (by have := BM.out; omega) r5)
                    have RL := Lib.hid hL
                    have RR2 := Lib.hid hRR
                    clear hx r1 r2 r4 r5 hl4 hr4 hml hmr hl8 hm1 E8 h4 hL hRR
                    go_wp2_with (first | (go_at_call 106; with_reducible refine (C.out _ N.out).mono ?_; rintro e w7 ⟨rfl, hN, hX⟩; clear N; have N := Lib.hid hN; replace HB := Lib.hid (HB.out.trans hX); clear hN hX) | ((with_reducible refine wpList_at 105 rfl ?_); refine wpList_kn rfl (.int .i64 (ml : Int)) (by exact exec_sub rfl rfl rfl (by have := BM.out; rw [IntKind.wrap_i64]; omega)) ?_) | ((with_reducible refine wpList_at 108 rfl ?_); refine wpList_kn rfl (.int .i64 (mr : Int)) (by exact exec_sub rfl rfl rfl (by have := BM.out; rw [IntKind.wrap_i64]; omega)) ?_) | ((with_reducible refine wpList_at 110 rfl ?_); refine wpList_kn rfl (.int .i64 (l8 : Int)) (by exact exec_quo (m := l) (q := 8) (z := l8) rfl rfl rfl (by decide) (by have := BM.out; omega) (by have := BM.out; omega)) ?_) | ((with_reducible refine wpList_at 113 rfl ?_); refine wpList_kn rfl (.bool false) (by exact exec_lssi rfl rfl rfl L4.out) ?_) | ((with_reducible refine wpList_at 126 rfl ?_); refine wpList_kn rfl (.bool (decide (mr ≥ l8))) (by exact exec_geqN rfl rfl rfl G8.out) ?_) | ((with_reducible refine wpList_at 129 rfl ?_); refine wpList_kn rfl (.int .i64 (m1 : Int)) (by exact exec_add rfl rfl rfl (by have := BM.out; rw [IntKind.wrap_i64]; omega)) ?_) | (go_at_call 67; with_reducible refine (CI3.out _ N.out).mono ?_; rintro e w7 ⟨rfl, hN, hX⟩; clear N; have N := Lib.hid hN; replace HB := Lib.hid (HB.out.trans hX); clear hN hX))
                    go_roundg (mid - x)
                    case measure => have := BM.out; omega
                    case rel => exact ⟨x, mid, lm, decide (mr ≥ l8), ap, _, rfl, rfl, rfl, rfl, rfl, by have := BM.out; omega, by have := BM.out; omega, Nat.le_refl _, by have := BM.out; omega, by have := LL.out; have := BI.out; omega, RL, N, HB, RR2⟩
                · obtain ⟨mid, d4, hx, r1, r2, r4, hRR⟩ := KE.out HDN.out rfl
                  have C := Lib.hid (show ∀ W, (NRow B W g n c d3 ∧ d3.size = n) → Calls Tryd.prog 105 #[.slice (some ⟨g, 0, none⟩) n c, .int .i64 (x : Int), .int .i64 (y : Int), .int .i64 (pv : Int)] W fun e w' => e = .returned (.int .i64 (mid : Int)) ∧ (NRow B w' g n c d4 ∧ d4.size = n) ∧ Below B W w' from fun W hN => by
                    have h := peq64_any (a := x) (b := y) (pv := pv) (Lib.hid hN) (by have := BND.out; omega) (by have := BND.out; omega) (by have := BND.out; omega) (by have := BND.out; omega)
                    rw [hx] at h
                    exact h)
                  have BM := Lib.hid (show x < mid ∧ mid ≤ y ∧ y ≤ n ∧ y - x ≤ gk ∧ gk ≤ b - a by have := BND.out; have := BI.out; omega)
                  have RL := Lib.hid r4
                  have RR2 := Lib.hid hRR
                  clear hx r1 r2 r4 hRR
                  go_wp2_with (first | (go_at_call 105; with_reducible refine (C.out _ N.out).mono ?_; rintro e w7 ⟨rfl, hN, hX⟩; clear N; have N := Lib.hid hN; replace HB := Lib.hid (HB.out.trans hX); clear hN hX))
                  go_roundg (y - mid)
                  case measure => have := BM.out; omega
                  case rel => exact ⟨mid, y, lm, wb, wp, d4, rfl, rfl, rfl, rfl, rfl, by have := BM.out; omega, by have := BM.out; omega, Nat.le_refl _, by have := BM.out; omega, by have := LL.out; have := BI.out; omega, RL, N, HB, RR2⟩
end Go.Proofs.YtoopcmcmjaikhaaDoor
