/- Whether an item is in a filter: the program's search, and the document's. -/
import Derived.Test.YtoopcmcmjaikhaaDoorNu
import Derived.Test.YtoopcmcmjaikhaaDoorXl
import Derived.Test.YtoopcmcmjaikhaaDoorXm
set_option linter.unusedSimpArgs false
set_option linter.unusedVariables false
set_option maxRecDepth 100000
namespace Go.Proofs.YtoopcmcmjaikhaaDoor
open Go.RowKit Go.Lib Go.Sort

theorem pV_rises (f : Nat → Bool) (N E most : Nat) : ∀ (k t last : Nat) (r : List Nat × Nat), pV f N E most k t last = some r → r.1.Pairwise (· ≤ ·) ∧ (∀ y, y ∈ r.1 → last ≤ y ∧ y < E) ∧ r.1.length = k
  | 0, t, last, r, h => by
    unfold pV at h
    obtain rfl := Option.some.inj h
    exact ⟨List.Pairwise.nil, (fun y hy => by cases hy), rfl⟩
  | k + 1, t, last, r, h => by
    unfold pV at h
    split at h
    · cases h
    · rename_i hb
      rw [Option.map_eq_some_iff] at h
      obtain ⟨q, hq, rfl⟩ := h
      obtain ⟨h1, h2, h3⟩ := pV_rises f N E most k _ _ q hq
      refine ⟨List.pairwise_cons.2 ⟨fun y hy => (h2 y hy).1, h1⟩, fun y hy => ?_, by simp [h3]⟩
      rcases List.mem_cons.1 hy with rfl | hy
      · exact ⟨by omega, by omega⟩
      · have := h2 y hy
        exact ⟨by omega, this.2⟩
/-- The numbers rise, are as many as the count, and below the bound. -/
theorem vbody_rises {n : Nat} {xs l : List Nat} (h : vbody n xs = some l) : l.Pairwise (· ≤ ·) ∧ (∀ y, y ∈ l → y < n * 784931) ∧ l.length = n := by
  unfold vbody at h
  split at h
  · cases h
  · rename_i l2 t2 h2
    split at h
    · obtain rfl := Option.some.inj h
      unfold aV at h2
      rw [Option.map_eq_some_iff] at h2
      obtain ⟨q, hq, he⟩ := h2
      obtain ⟨h1, h3, h4⟩ := pV_rises _ _ _ _ _ _ _ _ hq
      have e : l2 = q.1 := by have := congrArg Prod.fst he; simpa using this.symm
      subst e
      exact ⟨h1, fun y hy => (h3 y hy).2, h4⟩
    · cases h
theorem vres_rises {n : Nat} {x : Nat → Nat} {l : List Nat} (h : vres n x = some l) : l.Pairwise (· ≤ ·) ∧ (∀ y, y ∈ l → y < l.length * 784931) ∧ l.length ≤ 20000 := by
  unfold vres at h
  split at h
  · cases h
  · rename_i hb
    obtain ⟨h1, h2, h3⟩ := vbody_rises h
    exact ⟨h1, by rw [h3]; exact h2, by omega⟩

theorem cisnan_any (a : Nat) (w : World) : Calls Tryd.prog 91 #[.int .u64 (a : Int)] w fun e w' => e = .returned (.bool false) ∧ w = w' := by
  go_enter Tryd.func91, Tryd.ntmps91
  go_wp2_with ((with_reducible refine wpList_at 5 rfl ?_); refine wpList_kn rfl (.bool false) (by exact exec_neu rfl rfl rfl (by simp)) ?_)
  go_ret
  exact ⟨rfl, rfl⟩
theorem isnan_any (a : Nat) (w : World) : Calls Tryd.prog 85 #[.int .u64 (a : Int)] w fun e w' => e = .returned (.bool false) ∧ w = w' := by
  go_enter Tryd.func85, Tryd.ntmps85
  go_wp2_with ((with_reducible refine wpList_at 5 rfl ?_); refine wpList_kn rfl (.bool false) (by exact exec_neu rfl rfl rfl (by simp)) ?_)
  go_ret
  exact ⟨rfl, rfl⟩
theorem less_any (a b : Nat) (w : World) : Calls Tryd.prog 58 #[.int .u64 (a : Int), .int .u64 (b : Int)] w fun e w' => e = .returned (.bool (decide (a < b))) ∧ w = w' := by
  obtain ⟨q, hq⟩ : ∃ q, q = decide (a < b) := ⟨_, rfl⟩
  have HQ := Lib.hid (show decide ((a : Int) < (b : Int)) = q by rw [hq]; simp)
  rw [← hq]
  clear hq
  go_enter Tryd.func58, Tryd.ntmps58
  go_wp2_with (first
    | (go_at_call 91; refine (cisnan_any _ _).mono ?_; rintro e w' ⟨rfl, rfl⟩)
    | ((with_reducible refine wpList_at 15 rfl ?_); refine wpList_kn rfl (.bool q) (by exact exec_ltu rfl rfl rfl HQ.out) ?_))
  go_ret
  exact ⟨rfl, rfl⟩
theorem exec_cvg {o : Oper} {ev : Operand → Value} {W : World} {x : Operand} {S T : TypeId} {q1 q2 : IntKind} {a b : Int} (hS : Tryd.prog.underlying S = some (.int q1)) (hT : Tryd.prog.underlying T = some (.int q2)) (ho : o.op = .convert S T x) (hx : ev x = .int q1 a) (hw : q2.wrap a = b) : (execOp ev o).run Tryd.prog W = .ok (.value (.int q2 b)) W := by
  unfold execOp
  simp [ho, hx, go_sem, convert, run_underlying hS, run_underlying hT, hw]
theorem exec_shr1 {o : Oper} {ev : Operand → Value} {W : World} {x y : Operand} {n : Nat} (ho : o.op = .binOp .shr 50 x y 50) (hx : ev x = .int .u64 (n : Int)) (hy : ev y = .int .u64 1) : (execOp ev o).run Tryd.prog W = .ok (.value (.int .u64 ((n / 2 : Nat) : Int))) W := by
  unfold execOp
  simp [ho, hx, hy, go_sem, IntKind.bits]
theorem exec_eq64b {o : Oper} {ev : Operand → Value} {W : World} {x y : Operand} {a b : Int} {q : Bool} (ho : o.op = .binOp .eql 59 x y 59) (hx : ev x = .int .u64 a) (hy : ev y = .int .u64 b) (hq : decide (a = b) = q) : (execOp ev o).run Tryd.prog W = .ok (.value (.bool q)) W := by
  subst hq
  unfold execOp
  by_cases h : a = b
  · subst h
    simp [ho, hx, hy, go_sem, Tryd.underlying59]
  · simp [ho, hx, hy, go_sem, Tryd.underlying59, h]
theorem lf_mono {l : List Nat} (hs : l.Pairwise (· ≤ ·)) {i j : Nat} (h : i ≤ j) (hj : j < l.length) : lf l i ≤ lf l j := by
  rcases Nat.lt_or_ge i j with q | q
  · rw [lf_get (by omega), lf_get hj]
    exact List.pairwise_iff_getElem.1 hs i j (by omega) hj q
  · obtain rfl : i = j := by omega
    exact Nat.le_refl _
set_option maxHeartbeats 8000000 in
theorem bs_any {w : World} {B g c : Nat} {p : Option Addr} {l : List Nat} {z : Nat} (N : Hid (VOwn 59 1 B w p g l.length c (wv (lf l)))) (hs : Hid (l.Pairwise (· ≤ ·))) (hl : l.length ≤ 20000) : Calls Tryd.prog 52 #[.slice p l.length c, .int .u64 (z : Int)] w fun e w' => (∃ i : Int, e = .returned (.tuple #[.int .i64 i, .bool (decide (z ∈ l))])) ∧ Below w.heap.size w w' := by
  obtain ⟨n, hn⟩ : ∃ n, n = l.length := ⟨_, rfl⟩
  obtain ⟨r, hr⟩ : ∃ r, r = decide (z ∈ l) := ⟨_, rfl⟩
  have HN := Lib.hid hn
  have HR := Lib.hid hr
  rw [← hn, ← hr]
  rw [← hn] at N
  have CL := Lib.hid (show ∀ (W : World), Below w.heap.size w W → ∀ i, i < n → W.cell? ⟨g, 0 + i * 1, none⟩ = some (.int .u64 ((lf l i : Nat) : Int)) from fun W hb i hi => by
    have h := (N.out.below hb).row.cell i (by omega)
    rw [Nat.mul_one]
    exact h)
  have NL := Lib.hid (show n ≤ 20000 by omega)
  have HD := Lib.hid N.out.row.head
  clear hn hr hl N
  go_enter Tryd.func52, Tryd.ntmps52
  go_wp2
  go_loopg [7, 8] n (fun k a b wr => ∃ i j : Nat, i + k = j ∧ j ≤ n ∧ a = .int .i64 (i : Int) ∧ b = .int .i64 (j : Int) ∧ Hid (∀ q, q < i → lf l q < z) ∧ Hid (∀ q, j ≤ q → q < n → z ≤ lf l q) ∧ Hid (Below w.heap.size w wr))
  case atStart => exact ⟨0, n, by omega, Nat.le_refl _, rfl, rfl, Lib.hid (fun q hq => absurd hq (by omega)), Lib.hid (fun q h1 h2 => absurd h1 (by omega)), Lib.hid (Below.refl _ _)⟩
  case round =>
    obtain ⟨i, j, hij, hjn, rfl, rfl, LO, HI, HB⟩ := hrel
    obtain ⟨kk, hkk⟩ : ∃ kk : Nat, kk = gk := ⟨_, rfl⟩
    rw [← hkk] at hij
    have HJ := Lib.hid hij
    have HN2 := Lib.hid hjn
    by_cases hlt : i < j
    · obtain ⟨h, hh⟩ : ∃ h, h = (i + j) / 2 := ⟨_, rfl⟩
      have HH := Lib.hid (show h = (i + j) / 2 ∧ i ≤ h ∧ h < j ∧ h < n by omega)
      obtain rfl := HD.out (by omega)
      have LT := Lib.hid (show decide ((i : Int) < (j : Int)) = true from decide_eq_true (by omega))
      have CH := Lib.hid (CL.out _ HB.out h (by omega))
      obtain ⟨y, hy⟩ : ∃ y, y = lf l h := ⟨_, rfl⟩
      rw [← hy] at CH
      have HY := Lib.hid hy
      clear hlt hij hjn hh hy
      by_cases hq : y < z
      · have LQ := Lib.hid (show decide (y < z) = true from decide_eq_true hq)
        have HQ := Lib.hid hq
        clear hq
        go_wp2_with (first
          | ((with_reducible refine wpList_at 15 rfl ?_); refine wpList_kn rfl (.bool true) (by exact exec_lssi rfl rfl rfl LT.out) ?_)
          | ((with_reducible refine wpList_at 18 rfl ?_); refine wpList_kn rfl (.int .i64 ((i + j : Nat) : Int)) (by exact exec_add rfl rfl rfl (by have := HH.out; have := HN2.out; have := NL.out; rw [IntKind.wrap_i64]; omega)) ?_)
          | ((with_reducible refine wpList_at 19 rfl ?_); refine wpList_kn rfl (.int .u64 ((i + j : Nat) : Int)) (by exact exec_cvg Tryd.underlying3 Tryd.underlying50 rfl rfl (by have := HH.out; have := HN2.out; have := NL.out; rw [IntKind.wrap_u64]; omega)) ?_)
          | ((with_reducible refine wpList_at 20 rfl ?_); refine wpList_kn rfl (.int .u64 (((i + j) / 2 : Nat) : Int)) (by exact exec_shr1 rfl rfl rfl) ?_)
          | ((with_reducible refine wpList_at 21 rfl ?_); refine wpList_kn rfl (.int .i64 (h : Int)) (by exact exec_cvg Tryd.underlying50 Tryd.underlying3 rfl rfl (by have := HH.out; have := HN2.out; have := NL.out; rw [IntKind.wrap_i64]; omega)) ?_)
          | ((with_reducible refine wpList_at 24 rfl ?_); refine wpList_ix (k := 1) (j := h) Tryd.underlying54 (by kernel_rfl) (.tmp 22) (.tmp 23) rfl rfl rfl rfl HH.out.2.2.2 rfl ?_)
          | ((with_reducible refine wpList_at 25 rfl ?_); refine wpList_ld1 59 (.tmp 24) rfl rfl rfl Tryd.underlying59 rfl CH.out ?_)
          | (go_at_call 58; refine (less_any _ _ _).mono ?_; rintro e w7 ⟨rfl, rfl⟩; rw [LQ.out])
          | ((with_reducible refine wpList_at 29 rfl ?_); refine wpList_kn rfl (.int .i64 ((h + 1 : Nat) : Int)) (by exact exec_add rfl rfl rfl (by have := HH.out; have := HN2.out; have := NL.out; rw [IntKind.wrap_i64]; omega)) ?_))
        go_roundg (j - (h + 1))
        case measure => have := HJ.out; have := HH.out; omega
        case rel => exact ⟨h + 1, j, by have := HH.out; omega, HN2.out, by go_num, by go_num, Lib.hid (fun q hq => by
          have e := HY.out
          have e2 := HQ.out
          have := lf_mono hs.out (i := q) (j := h) (by omega) (by have := HH.out; have := HN.out; omega)
          omega), HI, HB⟩
      · have LQ := Lib.hid (show decide (y < z) = false from decide_eq_false hq)
        have HQ := Lib.hid hq
        clear hq
        go_wp2_with (first
          | ((with_reducible refine wpList_at 15 rfl ?_); refine wpList_kn rfl (.bool true) (by exact exec_lssi rfl rfl rfl LT.out) ?_)
          | ((with_reducible refine wpList_at 18 rfl ?_); refine wpList_kn rfl (.int .i64 ((i + j : Nat) : Int)) (by exact exec_add rfl rfl rfl (by have := HH.out; have := HN2.out; have := NL.out; rw [IntKind.wrap_i64]; omega)) ?_)
          | ((with_reducible refine wpList_at 19 rfl ?_); refine wpList_kn rfl (.int .u64 ((i + j : Nat) : Int)) (by exact exec_cvg Tryd.underlying3 Tryd.underlying50 rfl rfl (by have := HH.out; have := HN2.out; have := NL.out; rw [IntKind.wrap_u64]; omega)) ?_)
          | ((with_reducible refine wpList_at 20 rfl ?_); refine wpList_kn rfl (.int .u64 (((i + j) / 2 : Nat) : Int)) (by exact exec_shr1 rfl rfl rfl) ?_)
          | ((with_reducible refine wpList_at 21 rfl ?_); refine wpList_kn rfl (.int .i64 (h : Int)) (by exact exec_cvg Tryd.underlying50 Tryd.underlying3 rfl rfl (by have := HH.out; have := HN2.out; have := NL.out; rw [IntKind.wrap_i64]; omega)) ?_)
          | ((with_reducible refine wpList_at 24 rfl ?_); refine wpList_ix (k := 1) (j := h) Tryd.underlying54 (by kernel_rfl) (.tmp 22) (.tmp 23) rfl rfl rfl rfl HH.out.2.2.2 rfl ?_)
          | ((with_reducible refine wpList_at 25 rfl ?_); refine wpList_ld1 59 (.tmp 24) rfl rfl rfl Tryd.underlying59 rfl CH.out ?_)
          | (go_at_call 58; refine (less_any _ _ _).mono ?_; rintro e w7 ⟨rfl, rfl⟩; rw [LQ.out])
          | ((with_reducible refine wpList_at 29 rfl ?_); refine wpList_kn rfl (.int .i64 ((h + 1 : Nat) : Int)) (by exact exec_add rfl rfl rfl (by have := HH.out; have := HN2.out; have := NL.out; rw [IntKind.wrap_i64]; omega)) ?_))
        go_roundg (h - i)
        case measure => have := HJ.out; have := HH.out; omega
        case rel => exact ⟨i, h, by have := HH.out; omega, by have := HH.out; omega, by go_num, by go_num, LO, Lib.hid (fun q h1 h2 => by
          have e := HY.out
          have e2 := HQ.out
          have := lf_mono hs.out (i := h) (j := q) h1 (by have := HN.out; omega)
          omega), HB⟩
    · obtain rfl : i = j := by omega
      have LT := Lib.hid (show decide ((i : Int) < (i : Int)) = false from decide_eq_false (by omega))
      clear hlt hij hjn hkk
      by_cases hin : i < n
      · obtain rfl := HD.out (by omega)
        have LN := Lib.hid (show decide ((i : Int) < (n : Int)) = true from decide_eq_true (by omega))
        have CH := Lib.hid (CL.out _ HB.out i hin)
        obtain ⟨y, hy⟩ : ∃ y, y = lf l i := ⟨_, rfl⟩
        rw [← hy] at CH
        have HIN := Lib.hid hin
        have YR := Lib.hid (show decide ((y : Int) = (z : Int)) = r by
          rw [HR.out]
          by_cases e : y = z
          · rw [decide_eq_true (by omega), decide_eq_true]
            rw [← e, hy, lf_get (by rw [← HN.out]; exact hin)]
            exact List.getElem_mem _
          · rw [decide_eq_false (by omega), decide_eq_false]
            intro hm
            obtain ⟨q, hq, e2⟩ := List.getElem_of_mem hm
            rw [← lf_get hq] at e2
            rcases Nat.lt_or_ge q i with s | s
            · have := LO.out q s
              omega
            · have h1 := lf_mono hs.out (i := i) (j := q) s hq
              have h2 := HI.out i (Nat.le_refl _) hin
              omega)
        clear hin hy
        cases r
        · go_wp2_with (first
            | ((with_reducible refine wpList_at 15 rfl ?_); refine wpList_kn rfl (.bool false) (by exact exec_lssi rfl rfl rfl LT.out) ?_)
            | ((with_reducible refine wpList_at 34 rfl ?_); refine wpList_kn rfl (.bool true) (by exact exec_lssi rfl rfl rfl LN.out) ?_)
            | ((with_reducible refine wpList_at 38 rfl ?_); refine wpList_ix (k := 1) (j := i) Tryd.underlying54 (by kernel_rfl) (.tmp 36) (.tmp 37) rfl rfl rfl rfl HIN.out rfl ?_)
            | ((with_reducible refine wpList_at 39 rfl ?_); refine wpList_ld1 59 (.tmp 38) rfl rfl rfl Tryd.underlying59 rfl CH.out ?_)
            | ((with_reducible refine wpList_at 41 rfl ?_); refine wpList_kn rfl _ (by exact exec_eq64b rfl rfl rfl YR.out) ?_)
            | ((with_reducible refine wpList_at 45 rfl ?_); refine wpList_ix (k := 1) (j := i) Tryd.underlying54 (by kernel_rfl) (.tmp 43) (.tmp 44) rfl rfl rfl rfl HIN.out rfl ?_)
            | ((with_reducible refine wpList_at 46 rfl ?_); refine wpList_ld1 59 (.tmp 45) rfl rfl rfl Tryd.underlying59 rfl CH.out ?_)
            | (go_at_call 85; refine (isnan_any _ _).mono ?_; rintro e w7 ⟨rfl, rfl⟩))
          go_ret2
          exact ⟨⟨_, rfl⟩, HB.out⟩
        · go_wp2_with (first
            | ((with_reducible refine wpList_at 15 rfl ?_); refine wpList_kn rfl (.bool false) (by exact exec_lssi rfl rfl rfl LT.out) ?_)
            | ((with_reducible refine wpList_at 34 rfl ?_); refine wpList_kn rfl (.bool true) (by exact exec_lssi rfl rfl rfl LN.out) ?_)
            | ((with_reducible refine wpList_at 38 rfl ?_); refine wpList_ix (k := 1) (j := i) Tryd.underlying54 (by kernel_rfl) (.tmp 36) (.tmp 37) rfl rfl rfl rfl HIN.out rfl ?_)
            | ((with_reducible refine wpList_at 39 rfl ?_); refine wpList_ld1 59 (.tmp 38) rfl rfl rfl Tryd.underlying59 rfl CH.out ?_)
            | ((with_reducible refine wpList_at 41 rfl ?_); refine wpList_kn rfl _ (by exact exec_eq64b rfl rfl rfl YR.out) ?_)
            | ((with_reducible refine wpList_at 45 rfl ?_); refine wpList_ix (k := 1) (j := i) Tryd.underlying54 (by kernel_rfl) (.tmp 43) (.tmp 44) rfl rfl rfl rfl HIN.out rfl ?_)
            | ((with_reducible refine wpList_at 46 rfl ?_); refine wpList_ld1 59 (.tmp 45) rfl rfl rfl Tryd.underlying59 rfl CH.out ?_)
            | (go_at_call 85; refine (isnan_any _ _).mono ?_; rintro e w7 ⟨rfl, rfl⟩))
          go_ret2
          exact ⟨⟨_, rfl⟩, HB.out⟩
      · have LN := Lib.hid (show decide ((i : Int) < (n : Int)) = false from decide_eq_false (by omega))
        have RF := Lib.hid (show r = false by
          rw [HR.out, decide_eq_false]
          intro hm
          obtain ⟨q, hq, e2⟩ := List.getElem_of_mem hm
          rw [← lf_get hq] at e2
          have h1 := HN.out
          have := LO.out q (by omega)
          omega)
        obtain rfl := RF.out
        clear hin
        go_wp2_with (first
          | ((with_reducible refine wpList_at 15 rfl ?_); refine wpList_kn rfl (.bool false) (by exact exec_lssi rfl rfl rfl LT.out) ?_)
          | ((with_reducible refine wpList_at 34 rfl ?_); refine wpList_kn rfl (.bool false) (by exact exec_lssi rfl rfl rfl LN.out) ?_))
        go_ret2
        exact ⟨⟨_, rfl⟩, HB.out⟩
/-- Whether an item is among the numbers. -/
def hit (k0 k1 : Nat) (l : List Nat) (t : List Nat) : Bool := decide (t.length ≠ 0) && decide (inum k0 k1 (l.length * 784931) t ∈ l)
set_option maxHeartbeats 16000000 in
theorem fm1_any {w : World} {B g c b5 b6 b7 b8 b10 k0 k1 : Nat} {p : Option Addr} {l : List Nat} {v : Value} {t : List Nat} (T : Hid (TextAt w v t)) (L : Hid (SipLaid w)) (K : Hid (Keys3 w b5 b6 b7 k0 k1 (l.length * 784931)))
    (N : Hid (VOwn 59 1 B w p g l.length c (wv (lf l)))) (C8 : Hid (w.cell? ⟨b8, 0, none⟩ = some (.slice p l.length c))) (C10 : Hid (w.cell? ⟨b10, 0, none⟩ = some (.func (.func 64) #[] #[.pointer (some ⟨b5, 0, none⟩), .pointer (some ⟨b6, 0, none⟩), .pointer (some ⟨b7, 0, none⟩)]))) (hs : Hid (l.Pairwise (· ≤ ·))) (hl : Hid (l.length ≤ 20000)) :
    Calls Tryd.prog 51 #[v, .pointer (some ⟨b8, 0, none⟩), .pointer (some ⟨b10, 0, none⟩)] w fun e w' => e = .returned (.bool (hit k0 k1 l t)) ∧ Below w.heap.size w w' := by
  obtain ⟨pt, gt, ot, ct, rfl, htl, RT⟩ := T.out
  clear htl RT
  by_cases h0 : t.length = 0
  · have e0 : hit k0 k1 l t = false := by unfold hit; simp [h0]
    rw [e0, h0]
    clear e0 T L K N C8 C10 hs hl h0
    go_enter Tryd.func51, Tryd.ntmps51
    go_wp2
    go_ret
    exact ⟨rfl, Below.refl _ _⟩
  · obtain ⟨r, hr⟩ : ∃ r, r = decide (inum k0 k1 (l.length * 784931) t ∈ l) := ⟨_, rfl⟩
    obtain ⟨z, hz⟩ : ∃ z, z = inum k0 k1 (l.length * 784931) t := ⟨_, rfl⟩
    have e0 : hit k0 k1 l t = r := by unfold hit; rw [hr, decide_eq_true h0]; rfl
    rw [e0]
    obtain ⟨m, hm⟩ : ∃ m, m = t.length := ⟨_, rfl⟩
    have NUM := Lib.hid (show ∀ W, Below w.heap.size w W → Calls Tryd.prog 64 #[.slice pt m ct, .pointer (some ⟨b5, 0, none⟩), .pointer (some ⟨b6, 0, none⟩), .pointer (some ⟨b7, 0, none⟩)] W fun e w' => e = .returned (.int .u64 (z : Int)) ∧ Below W.heap.size W w' from fun W hb => by
      rw [hz, hm]
      exact num1_any (Lib.hid (T.out.below hb)) (Lib.hid (L.out.below hb)) (Lib.hid (K.out.below hb)) (by have := hl.out; omega))
    obtain ⟨n, hn⟩ : ∃ n, n = l.length := ⟨_, rfl⟩
    have BS := Lib.hid (show ∀ W, Below w.heap.size w W → Calls Tryd.prog 52 #[.slice p n c, .int .u64 (z : Int)] W fun e w' => (∃ i : Int, e = .returned (.tuple #[.int .i64 i, .bool r])) ∧ Below W.heap.size W w' from fun W hb => by
      rw [hn, hr, ← hz]
      exact bs_any (Lib.hid (N.out.below hb)) hs hl.out)
    rw [← hn] at C8
    rw [← hm]
    rw [← hm] at h0
    have M0 := Lib.hid (show decide ((m : Int) = 0) = false from decide_eq_false (by omega))
    have LOAD := Lib.hid (show ∀ W, Below w.heap.size w W → W.cell? ⟨b8, 0, none⟩ = some (.slice p n c) ∧ W.cell? ⟨b10, 0, none⟩ = some (.func (.func 64) #[] #[.pointer (some ⟨b5, 0, none⟩), .pointer (some ⟨b6, 0, none⟩), .pointer (some ⟨b7, 0, none⟩)]) from fun W hb => ⟨(hb.cell (cell_lt C8.out)).trans C8.out, (hb.cell (cell_lt C10.out)).trans C10.out⟩)
    clear T L K N C8 C10 hs hl h0 e0 hr hz hm hn
    go_enter Tryd.func51, Tryd.ntmps51
    go_upto_region 3 with ((with_reducible refine wpList_at 9 rfl ?_); refine wpList_kn rfl (.bool false) (by exact exec_eqli rfl rfl rfl M0.out) ?_)
    refine wp_region_T (Φ := fun X => Below w.heap.size w X) (S := fun X => X.cell? ⟨b8, 0, none⟩ = some (.slice p n c) ∧ X.cell? ⟨b10, 0, none⟩ = some (.func (.func 64) #[] #[.pointer (some ⟨b5, 0, none⟩), .pointer (some ⟨b6, 0, none⟩), .pointer (some ⟨b7, 0, none⟩)])) (Lib.hid (Below.refl _ _)) (fun _ h => h.drew) (fun X h => LOAD.out X h) (by kernel_rfl) ?_
    intro wx TT S0
    refine hm_run 0 11 (.slice p n c) rfl rfl (by kernel_rfl) (by kernel_rfl) (by kernel_rfl) (fun _ _ _ h => h) rfl (fun W hW => exec_load rfl (run_load_one Tryd.underlying54 rfl (hW.1))) S0.out ?_
    try simp only [Act.put, List.getElem_toArray, List.getElem_cons_succ, List.getElem_cons_zero, List.setIfInBounds_toArray, List.set_cons_zero, List.set_cons_succ]
    refine hm_run 1 12 (.func (.func 64) #[] #[.pointer (some ⟨b5, 0, none⟩), .pointer (some ⟨b6, 0, none⟩), .pointer (some ⟨b7, 0, none⟩)]) rfl rfl (by kernel_rfl) (by kernel_rfl) (by kernel_rfl) (fun _ _ _ h => h) rfl (fun W hW => exec_load rfl (run_load_one Tryd.underlying63 rfl (hW.2))) S0.out ?_
    try simp only [Act.put, List.getElem_toArray, List.getElem_cons_succ, List.getElem_cons_zero, List.setIfInBounds_toArray, List.set_cons_zero, List.set_cons_succ]
    refine hm_run 2 13 (.slice pt m ct) rfl rfl (by kernel_rfl) (by kernel_rfl) (by kernel_rfl) (fun _ _ _ h => h) rfl (fun _ _ => rfl) S0.out ?_
    try simp only [Act.put, List.getElem_toArray, List.getElem_cons_succ, List.getElem_cons_zero, List.setIfInBounds_toArray, List.set_cons_zero, List.set_cons_succ]
    refine hm_one (i := 3) (by kernel_rfl) ?_
    refine hm_step 3 rfl (by kernel_rfl) fun K hK => ?_
    try simp only [Act.put, List.getElem_toArray, List.getElem_cons_succ, List.getElem_cons_zero, List.setIfInBounds_toArray, List.set_cons_zero, List.set_cons_succ]
    go_simp
    go_at_call 64
    refine (NUM.out _ TT.out).mono ?_
    rintro e w7 ⟨rfl, hb7⟩
    replace TT := Lib.hid (TT.out.trans (hb7.mono TT.out.size))
    have S3_3 := Lib.hid (LOAD.out _ TT.out)
    clear hb7
    refine hK _ _ S3_3.out ?_
    clear hK K
    try simp only [Act.put, List.getElem_toArray, List.getElem_cons_succ, List.getElem_cons_zero, List.setIfInBounds_toArray, List.set_cons_zero, List.set_cons_succ]
    refine hm_one (i := 4) (by kernel_rfl) ?_
    refine hm_step 4 rfl (by kernel_rfl) fun K hK => ?_
    try simp only [Act.put, List.getElem_toArray, List.getElem_cons_succ, List.getElem_cons_zero, List.setIfInBounds_toArray, List.set_cons_zero, List.set_cons_succ]
    go_simp
    go_at_call 52
    refine (BS.out _ TT.out).mono ?_
    rintro e w7 ⟨⟨i, rfl⟩, hb7⟩
    replace TT := Lib.hid (TT.out.trans (hb7.mono TT.out.size))
    have S4_4 := Lib.hid (LOAD.out _ TT.out)
    clear hb7
    refine hK _ _ S4_4.out ?_
    clear hK K
    try simp only [Act.put, List.getElem_toArray, List.getElem_cons_succ, List.getElem_cons_zero, List.setIfInBounds_toArray, List.set_cons_zero, List.set_cons_succ]
    refine hm_run 5 10 (.tuple #[.int .i64 i, .bool r]) rfl rfl (by kernel_rfl) (by kernel_rfl) (by kernel_rfl) (fun _ _ _ h => h) rfl (fun _ _ => rfl) S4_4.out ?_
    try simp only [Act.put, List.getElem_toArray, List.getElem_cons_succ, List.getElem_cons_zero, List.setIfInBounds_toArray, List.set_cons_zero, List.set_cons_succ]
    refine hm_run 6 16 (.int .i64 i) rfl rfl (by kernel_rfl) (by kernel_rfl) (by kernel_rfl) (fun _ _ _ h => h) rfl (fun _ _ => rfl) S4_4.out ?_
    try simp only [Act.put, List.getElem_toArray, List.getElem_cons_succ, List.getElem_cons_zero, List.setIfInBounds_toArray, List.set_cons_zero, List.set_cons_succ]
    refine hm_run 7 17 (.bool r) rfl rfl (by kernel_rfl) (by kernel_rfl) (by kernel_rfl) (fun _ _ _ h => h) rfl (fun _ _ => rfl) S4_4.out ?_
    try simp only [Act.put, List.getElem_toArray, List.getElem_cons_succ, List.getElem_cons_zero, List.setIfInBounds_toArray, List.set_cons_zero, List.set_cons_succ]
    refine hm_run 8 5 (.int .i64 i) rfl rfl (by kernel_rfl) (by kernel_rfl) (by kernel_rfl) (fun _ _ _ h => h) rfl (fun _ _ => rfl) S4_4.out ?_
    try simp only [Act.put, List.getElem_toArray, List.getElem_cons_succ, List.getElem_cons_zero, List.setIfInBounds_toArray, List.set_cons_zero, List.set_cons_succ]
    refine hm_run 9 6 (.bool r) rfl rfl (by kernel_rfl) (by kernel_rfl) (by kernel_rfl) (fun _ _ _ h => h) rfl (fun _ _ => rfl) S4_4.out ?_
    try simp only [Act.put, List.getElem_toArray, List.getElem_cons_succ, List.getElem_cons_zero, List.setIfInBounds_toArray, List.set_cons_zero, List.set_cons_succ]
    refine wpAnyH_done (by kernel_rfl) ?_ _
    go_wp2_with fail
    go_ret
    exact ⟨rfl, TT.out⟩
section
variable {w : World} {v : Value} {ts : List (List Nat)}
set_option maxHeartbeats 2000000 in
theorem ifmatch_any {pr : (List Nat) → Bool} {b8 b10 : Nat} (HF : Hid (∀ (W : World) (v : Value) (t : (List Nat)), Below w.heap.size w W → TextAt W v t → Calls Tryd.prog 51 #[v, .pointer (some ⟨b8, 0, none⟩), .pointer (some ⟨b10, 0, none⟩)] W fun e w' => e = .returned (.bool (pr t)) ∧ Below W.heap.size W w')) (A : Hid (TextsAt w v ts)) :
    Calls Tryd.prog 84 #[v, .func (.func 51) #[] #[.pointer (some ⟨b8, 0, none⟩), .pointer (some ⟨b10, 0, none⟩)]] w fun e w' => (∃ r : Int, e = .returned (.int .i64 r) ∧ decide (0 ≤ r) = ts.any pr) ∧ Below w.heap.size w w' := by
  obtain ⟨p, g, o, c, V, hv, hc, R0, hi⟩ := A.out
  subst hv
  have RR := Lib.hid R0
  have TT := Lib.hid hi
  have cn : ts.length ≤ c := R0.le
  clear R0 hi A
  obtain ⟨n, hn⟩ : ∃ n, n = ts.length := ⟨_, rfl⟩
  have HN := Lib.hid hn
  rw [← hn] at RR cn hc ⊢
  have hn3 : n ≤ 140737488355328 := by omega
  clear hn hc cn
  go_enter Tryd.func84, Tryd.ntmps84
  go_wp2
  go_loopg [8] n (fun k i wr => ∃ j : Nat, j + k = n ∧ i = .int .i64 (j : Int) ∧ Hid ((ts.take j).any pr = false) ∧ Hid (Below w.heap.size w wr))
  case atStart => exact ⟨0, by omega, rfl, Lib.hid (by simp), Lib.hid (Below.refl _ _)⟩
  case round =>
    obtain ⟨j, hj, rfl, F, B⟩ := hrel
    obtain ⟨kk, rfl⟩ : ∃ kk : Nat, kk = gk := ⟨_, rfl⟩
    by_cases hlt : j < n
    · obtain rfl := RR.out.head (by omega)
      have ht : j < ts.length := by rw [← HN.out]; exact hlt
      have EC := Lib.hid ((TT.out j ht).below B.out)
      have CC := Lib.hid ((RR.out.below B.out).cell j (by omega))
      have AN := Lib.hid (show (ts.take (j + 1)).any pr = ((ts.take j).any pr || pr ts[j]) by rw [take_get ts ht, List.any_append]; simp)
      have YES := Lib.hid (fun h : pr ts[j] = true => (List.any_eq_true.2 ⟨ts[j], List.getElem_mem ht, h⟩ : ts.any pr = true))
      obtain ⟨b, hb⟩ : ∃ b, b = pr ts[j] := ⟨_, rfl⟩
      have CALL := Lib.hid (HF.out _ _ _ B.out EC.out)
      rw [← hb] at AN YES CALL
      clear hb EC
      cases b
      · go_wp2_with (first
          | ((with_reducible refine wpList_at 14 rfl ?_); refine wpList_ix (k := 1) (j := j) Tryd.underlying30 (by kernel_rfl) (.tmp 12) (.tmp 13) rfl rfl rfl rfl hlt rfl ?_; rw [Nat.mul_one])
          | ((with_reducible refine wpList_at 15 rfl ?_); refine wpList_ld1 32 (.tmp 14) rfl rfl rfl Tryd.underlying32 rfl CC.out ?_)
          | (go_at_call 51; refine CALL.out.mono ?_; rintro e w1 ⟨rfl, hb⟩; have B1 := Lib.hid (B.out.trans (hb.mono B.out.size)); clear hb B))
        go_roundg (n - (j + 1))
        case measure => omega
        case rel => exact ⟨j + 1, by omega, by go_num, Lib.hid (by rw [AN.out, F.out]; rfl), B1⟩
      · have Y := Lib.hid (YES.out rfl)
        go_wp2_with (first
          | ((with_reducible refine wpList_at 14 rfl ?_); refine wpList_ix (k := 1) (j := j) Tryd.underlying30 (by kernel_rfl) (.tmp 12) (.tmp 13) rfl rfl rfl rfl hlt rfl ?_; rw [Nat.mul_one])
          | ((with_reducible refine wpList_at 15 rfl ?_); refine wpList_ld1 32 (.tmp 14) rfl rfl rfl Tryd.underlying32 rfl CC.out ?_)
          | (go_at_call 51; refine CALL.out.mono ?_; rintro e w1 ⟨rfl, hb⟩; have B1 := Lib.hid (B.out.trans (hb.mono B.out.size)); clear hb B))
        go_ret
        exact ⟨⟨_, rfl, by rw [Y.out]; simp⟩, B1.out⟩
    · obtain rfl : j = n := by omega
      have F2 := Lib.hid (show ts.any pr = false by have := F.out; rwa [HN.out, List.take_length] at this)
      go_wp2
      go_ret
      exact ⟨⟨-1, rfl, by rw [F2.out]; rfl⟩, B.out⟩
set_option maxHeartbeats 2000000 in
theorem cfmatch_any {pr : (List Nat) → Bool} {b8 b10 : Nat} (HF : Hid (∀ (W : World) (v : Value) (t : (List Nat)), Below w.heap.size w W → TextAt W v t → Calls Tryd.prog 51 #[v, .pointer (some ⟨b8, 0, none⟩), .pointer (some ⟨b10, 0, none⟩)] W fun e w' => e = .returned (.bool (pr t)) ∧ Below W.heap.size W w')) (A : Hid (TextsAt w v ts)) :
    Calls Tryd.prog 50 #[v, .func (.func 51) #[] #[.pointer (some ⟨b8, 0, none⟩), .pointer (some ⟨b10, 0, none⟩)]] w fun e w' => e = .returned (.bool (ts.any pr)) ∧ Below w.heap.size w w' := by
  have I := Lib.hid (ifmatch_any HF A)
  obtain ⟨ANY, hA⟩ : ∃ b, b = ts.any pr := ⟨_, rfl⟩
  rw [← hA] at I ⊢
  clear hA A HF
  go_enter Tryd.func50, Tryd.ntmps50
  go_wp2_with (go_at_call 84; refine I.out.mono ?_; rintro e w1 ⟨⟨r, rfl, hr⟩, hb⟩; have B := Lib.hid hb; have HR := Lib.hid hr; clear hb hr)
  rw [← HR.out]
  go_ret
  exact ⟨by simp, B.out⟩
end
theorem infoSl64 : (Tryd.prog.info? 54).map (fun i => (i.zero, i.size)) = some (some (.slice none 0 0), 1) := by kernel_rfl
theorem infoFn1 : (Tryd.prog.info? 63).map (fun i => (i.zero, i.size)) = some (some .nilFunc, 1) := by kernel_rfl
/-- What both searches come to. -/
def mres (k0 k1 : Nat) (r : Option (List Nat)) (ts : List (List Nat)) : Bool × Int := match r with
  | none => (false, 120)
  | some l => (ts.any (hit k0 k1 l), 0)
set_option maxHeartbeats 16000000 in
theorem fimatch_any {w : World} {x : Nat → Nat} {p : Option Addr} {g o n c : Nat} {y : Nat → Nat} {v : Value} {ts : List (List Nat)} (hx : ∀ i, x i < 256) (R : Hid (Row w p g o n c y)) (hn : n ≤ 140737488351232) (A : Hid (TextsAt w v ts)) (L : Hid (SipLaid w)) :
    Calls Tryd.prog 23 #[.agg (arr 32 (bv x)), .slice p n c, v] w fun e w' => e = .returned (.tuple #[.bool (mres (key0 x) (key1 x) (vres n y) ts).1, .int .i64 (mres (key0 x) (key1 x) (vres n y) ts).2]) ∧ Below w.heap.size w w' := by
  have E := Lib.hid (Mem.nil w)
  have HX := Lib.hid hx
  have HN := Lib.hid hn
  obtain ⟨r, hr⟩ : ∃ r, r = vres n y := ⟨_, rfl⟩
  have HR := Lib.hid hr
  rw [← hr]
  clear hx hn hr
  cases r with
  | none =>
    have FV := Lib.hid (fun W (hb : Below w.heap.size w W) => (fival_any (Lib.hid (R.out.below hb)) HN.out).mono fun e w' h => (show e = .returned (.tuple #[.slice none 0 0, .int .i64 120]) ∧ Below W.heap.size W w' from by rw [← HR.out] at h; exact h))
    clear R HR
    unfold mres
    go_enter Tryd.func23, Tryd.ntmps23
    go_wp2_with (first
      | ((with_reducible refine wpList_at 3 rfl ?_); refine mem_box E 23 rfl _ rfl rfl (arr_cells' 32 (bv x)) ?_; clear E; intro b3 w3 E)
      | (go_at_call 27; refine (FV.out _ E.out.below).mono ?_; rintro e w4 ⟨rfl, hb⟩; replace E := Lib.hid (E.out.call hb); clear hb)
      | ((with_reducible refine wpList_at 8 rfl ?_); refine mem_alloc E 54 rfl rfl infoSl64 ?_; clear E; intro b8 w8 E)
      | ((with_reducible refine wpList_atn rfl ?_); refine mem_store_cell 0 E 54 rfl (.tmp 8) (.tmp 14) rfl rfl rfl rfl (by kernel_rfl) rfl rfl rfl rfl ?_; clear E; intro w9 E; simp only [List.set_cons_zero, List.set_cons_succ] at E)
      | ((with_reducible refine wpList_at 17 rfl ?_); refine wpList_kn rfl (.bool true) (by exact exec_neqE rfl rfl rfl rfl) ?_))
    go_ret2
    exact ⟨rfl, E.out.below⟩
  | some l =>
    obtain ⟨h1, h2, h3⟩ := vres_rises HR.out.symm
    have SO := Lib.hid h1
    have LL := Lib.hid h3
    have FV := Lib.hid (fun W (hb : Below w.heap.size w W) => (fival_any (Lib.hid (R.out.below hb)) HN.out).mono fun e w' h => (show ∃ p g c, e = .returned (.tuple #[.slice p l.length c, .int .i64 0]) ∧ VOwn 59 1 W.heap.size w' p g l.length c (wv (lf l)) ∧ Below W.heap.size W w' from by rw [← HR.out] at h; exact h))
    obtain ⟨k0, hk0⟩ : ∃ k, k = key0 x := ⟨_, rfl⟩
    obtain ⟨k1, hk1⟩ : ∃ k, k = key1 x := ⟨_, rfl⟩
    obtain ⟨m, hm⟩ : ∃ m, m = l.length := ⟨_, rfl⟩
    have NUMS := Lib.hid (show ∀ W, Calls Tryd.prog 34 #[.agg (arr 32 (bv x)), .int .i64 (m : Int)] W fun e w' => (∃ b5 b6 b7, e = .returned (.func (.func 64) #[] #[.pointer (some ⟨b5, 0, none⟩), .pointer (some ⟨b6, 0, none⟩), .pointer (some ⟨b7, 0, none⟩)]) ∧ Keys3 w' b5 b6 b7 k0 k1 (m * 784931)) ∧ Below W.heap.size W w' from fun W => by
      rw [hk0, hk1]
      exact fnums_any HX.out (by rw [hm]; exact LL.out))
    obtain ⟨res, hres⟩ : ∃ res, res = ts.any (hit k0 k1 l) := ⟨_, rfl⟩
    have HRES := Lib.hid hres
    have HM := Lib.hid hm
    have e1 : (mres (key0 x) (key1 x) (some l) ts) = (res, 0) := by unfold mres; rw [hres, hk0, hk1]
    rw [e1]
    rw [← hm] at FV
    clear h1 h2 h3 R HR hk0 hk1 hm hres e1
    go_enter Tryd.func23, Tryd.ntmps23
    go_upto_region 5 with (first
      | ((with_reducible refine wpList_at 3 rfl ?_); refine mem_box E 23 rfl _ rfl rfl (arr_cells' 32 (bv x)) ?_; clear E; intro b3 w3 E)
      | (go_at_call 27; refine (FV.out _ E.out.below).mono ?_; rintro e w4 ⟨p4, g4, c4, rfl, hN, hb⟩; have N4 := Lib.hid hN; have B4 := Lib.hid (E.out.call hb).below; have H3 := Lib.hid ((E.out.call hb).get (b := b3) (T := 23) (c := arr 32 (bv x)) List.mem_cons_self); clear E hb hN; have E := Lib.hid (Mem.nil w4))
      | ((with_reducible refine wpList_at 8 rfl ?_); refine mem_alloc E 54 rfl rfl infoSl64 ?_; clear E; intro b8 w8 E)
      | ((with_reducible refine wpList_at 10 rfl ?_); refine mem_alloc E 63 rfl rfl infoFn1 ?_; clear E; intro b10 w10 E)
      | ((with_reducible refine wpList_atn rfl ?_); refine mem_store_cell 0 E 54 rfl (.tmp 8) (.tmp 14) rfl rfl rfl rfl (by kernel_rfl) rfl rfl rfl rfl ?_; clear E; intro w9 E; simp only [List.set_cons_zero, List.set_cons_succ] at E)
      | ((with_reducible refine wpList_at 17 rfl ?_); refine wpList_kn rfl (.bool false) (by exact exec_neqE rfl rfl rfl rfl) ?_)
      | ((with_reducible refine wpList_at 19 rfl ?_); refine wpList_ld 23 (.tmp 3) rfl rfl rfl ((show HasAt b3 23 32 (bv x) _ from (E.out.below.block b3 (heap_lt H3.out)).trans H3.out).load 23 _ Tryd.underlying23 rfl (by kernel_rfl)) ?_)
      | ((with_reducible refine wpList_at 20 rfl ?_); refine mem_load_cell E 54 rfl (.tmp 8) rfl rfl List.mem_cons_self Tryd.underlying54 rfl rfl ?_)
      | (go_at_call 34; refine (NUMS.out _).mono ?_; rintro e w11 ⟨⟨b5, b6, b7, rfl, hk⟩, hb⟩; have KK := Lib.hid hk; have B11 := Lib.hid (E.out.call hb).below; have C8 := Lib.hid (show w11.cell? ⟨b8, 0, none⟩ = some (.slice p4 m c4) from cell_of_here ((E.out.call hb).get (b := b8) (T := 54) (c := #[.slice p4 m c4]) List.mem_cons_self) 0 rfl); clear E hb hk; have E := Lib.hid (Mem.nil w11))
      | ((with_reducible refine wpList_atn rfl ?_); refine mem_store_cell 0 E 63 rfl (.tmp 10) (.tmp 22) rfl rfl rfl rfl (by kernel_rfl) rfl rfl rfl rfl ?_; clear E; intro w12 E; simp only [List.set_cons_zero, List.set_cons_succ] at E))
    have BB := Lib.hid (show Below w.heap.size w w12 from B4.out.trans ((B11.out.trans (E.out.below.mono B11.out.size)).mono B4.out.size))
    have C10 := Lib.hid (show w12.cell? ⟨b10, 0, none⟩ = some (.func (.func 64) #[] #[.pointer (some ⟨b5, 0, none⟩), .pointer (some ⟨b6, 0, none⟩), .pointer (some ⟨b7, 0, none⟩)]) from cell_of_here (E.out.get (b := b10) (T := 63) (c := #[.func (.func 64) #[] #[.pointer (some ⟨b5, 0, none⟩), .pointer (some ⟨b6, 0, none⟩), .pointer (some ⟨b7, 0, none⟩)]]) List.mem_cons_self) 0 rfl)
    have CF := Lib.hid (show Calls Tryd.prog 50 #[v, .func (.func 51) #[] #[.pointer (some ⟨b8, 0, none⟩), .pointer (some ⟨b10, 0, none⟩)]] w12 fun e w' => e = .returned (.bool res) ∧ Below w12.heap.size w12 w' from by
      rw [HRES.out]
      refine cfmatch_any (Lib.hid fun W v2 t2 hb hT => ?_) (Lib.hid (A.out.below BB.out))
      have hN := N4.out
      have hK := KK.out
      have h8 := C8.out
      rw [HM.out] at hN hK h8
      exact fm1_any (Lib.hid hT) (Lib.hid ((L.out.below BB.out).below hb)) (Lib.hid ((hK.below E.out.below).below hb)) (Lib.hid ((hN.below (B11.out.trans (E.out.below.mono B11.out.size))).below hb)) (Lib.hid ((hb.cell (by have := E.out.below.size; have := cell_lt h8; simp at this ⊢; omega)).trans ((E.out.below.cell (cell_lt h8)).trans h8))) (Lib.hid ((hb.cell (cell_lt C10.out)).trans C10.out)) SO LL)
    have BZ := BB
    clear C10 N4 KK C8 H3 B4 B11 E BB A L HM HRES NUMS FV
    go_wp2_with (go_at_call 50; refine CF.out.mono ?_; rintro e w13 ⟨rfl, hb⟩; have B13 := Lib.hid (BZ.out.trans (hb.mono BZ.out.size)); clear hb)
    go_ret2
    exact ⟨rfl, B13.out⟩
end Go.Proofs.YtoopcmcmjaikhaaDoor

