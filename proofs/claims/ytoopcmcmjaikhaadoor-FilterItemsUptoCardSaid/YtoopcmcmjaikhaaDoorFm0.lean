/- Whether an item is in a filter: the program's search, and the document's. -/
import Derived.Test.YtoopcmcmjaikhaaDoorNu
import Derived.Test.YtoopcmcmjaikhaaDoorXl
set_option linter.unusedSimpArgs false
set_option linter.unusedVariables false
set_option maxRecDepth 100000
namespace Go.Proofs.YtoopcmcmjaikhaaDoor
open Go.RowKit Go.Lib Go.Sort
universe u

theorem lqA {α : Type u} {l : List α} {i : Nat} (h : i < l.toArray.size) : l.toArray[i] = l[i]'h := rfl
theorem lqB {α : Type u} {a : α} {l : List α} {i : Nat} (h : i + 1 < (a :: l).length) : (a :: l)[i + 1] = l[i]'(Nat.lt_of_succ_lt_succ h) := rfl
theorem lqC {α : Type u} {a : α} {l : List α} (h : 0 < (a :: l).length) : (a :: l)[0] = a := rfl
theorem lqD {α : Type u} (l : List α) (i : Nat) (a : α) : l.toArray.setIfInBounds i a = (l.set i a).toArray := List.setIfInBounds_toArray ..
theorem lqE {α : Type u} {x a : α} {l : List α} : (x :: l).set 0 a = a :: l := rfl
theorem lqF {α : Type u} {x a : α} {l : List α} {i : Nat} : (x :: l).set (i + 1) a = x :: l.set i a := rfl
theorem pV_rises (f : Nat → Bool) (N E most : Nat) : ∀ (k t last : Nat) (r : List Nat × Nat), pV f N E most k t last = some r → r.1.Pairwise (· ≤ ·) ∧ (∀ y, y ∈ r.1 → last ≤ y ∧ y < E) ∧ r.1.length = k
  | 0, t, last, r, h => by
    unfold pV at h
    obtain rfl := Option.some.inj h
    exact ⟨List.Pairwise.nil, (fun y hy => by cases hy), rfl⟩
  | k + 1, t, last, r, h => by
    unfold pV at h
    split at h
    · cases h
    · rename_i hb
      rw [Option.map_eq_some_iff] at h
      obtain ⟨q, hq, rfl⟩ := h
      obtain ⟨h1, h2, h3⟩ := pV_rises f N E most k _ _ q hq
      refine ⟨List.pairwise_cons.2 ⟨fun y hy => (h2 y hy).1, h1⟩, fun y hy => ?_, by simp [h3]⟩
      rcases List.mem_cons.1 hy with rfl | hy
      · exact ⟨by omega, by omega⟩
      · have := h2 y hy
        exact ⟨by omega, this.2⟩
/-- The numbers rise, are as many as the count, and below the bound. -/
theorem vbody_rises {n : Nat} {xs l : List Nat} (h : vbody n xs = some l) : l.Pairwise (· ≤ ·) ∧ (∀ y, y ∈ l → y < n * 784931) ∧ l.length = n := by
  unfold vbody at h
  split at h
  · cases h
  · rename_i l2 t2 h2
    split at h
    · obtain rfl := Option.some.inj h
      unfold aV at h2
      rw [Option.map_eq_some_iff] at h2
      obtain ⟨q, hq, he⟩ := h2
      obtain ⟨h1, h3, h4⟩ := pV_rises _ _ _ _ _ _ _ _ hq
      have e : l2 = q.1 := by have := congrArg Prod.fst he; simpa using this.symm
      subst e
      exact ⟨h1, fun y hy => (h3 y hy).2, h4⟩
    · cases h
theorem vres_rises {n : Nat} {x : Nat → Nat} {l : List Nat} (h : vres n x = some l) : l.Pairwise (· ≤ ·) ∧ (∀ y, y ∈ l → y < l.length * 784931) ∧ l.length ≤ 20000 := by
  unfold vres at h
  split at h
  · cases h
  · rename_i hb
    obtain ⟨h1, h2, h3⟩ := vbody_rises h
    exact ⟨h1, by rw [h3]; exact h2, by omega⟩

theorem cisnan_any (a : Nat) (w : World) : Calls Tryd.prog 91 #[.int .u64 (a : Int)] w fun e w' => e = .returned (.bool false) ∧ w = w' := by
  go_enter Tryd.func91, Tryd.ntmps91
  go_wp2_with ((with_reducible refine wpList_at 5 rfl ?_); refine wpList_kn rfl (.bool false) (by exact exec_neu rfl rfl rfl (by simp)) ?_)
  go_ret
  exact ⟨rfl, rfl⟩
theorem isnan_any (a : Nat) (w : World) : Calls Tryd.prog 85 #[.int .u64 (a : Int)] w fun e w' => e = .returned (.bool false) ∧ w = w' := by
  go_enter Tryd.func85, Tryd.ntmps85
  go_wp2_with ((with_reducible refine wpList_at 5 rfl ?_); refine wpList_kn rfl (.bool false) (by exact exec_neu rfl rfl rfl (by simp)) ?_)
  go_ret
  exact ⟨rfl, rfl⟩
theorem less_any (a b : Nat) (w : World) : Calls Tryd.prog 58 #[.int .u64 (a : Int), .int .u64 (b : Int)] w fun e w' => e = .returned (.bool (decide (a < b))) ∧ w = w' := by
  obtain ⟨q, hq⟩ : ∃ q, q = decide (a < b) := ⟨_, rfl⟩
  have HQ := Lib.hid (show decide ((a : Int) < (b : Int)) = q by rw [hq]; simp)
  rw [← hq]
  clear hq
  go_enter Tryd.func58, Tryd.ntmps58
  go_wp2_with (first
    | (go_at_call 91; refine (cisnan_any _ _).mono ?_; rintro e w' ⟨rfl, rfl⟩)
    | ((with_reducible refine wpList_at 15 rfl ?_); refine wpList_kn rfl (.bool q) (by exact exec_ltu rfl rfl rfl HQ.out) ?_))
  go_ret
  exact ⟨rfl, rfl⟩
theorem exec_cvg {o : Oper} {ev : Operand → Value} {W : World} {x : Operand} {S T : TypeId} {q1 q2 : IntKind} {a b : Int} (hS : Tryd.prog.underlying S = some (.int q1)) (hT : Tryd.prog.underlying T = some (.int q2)) (ho : o.op = .convert S T x) (hx : ev x = .int q1 a) (hw : q2.wrap a = b) : (execOp ev o).run Tryd.prog W = .ok (.value (.int q2 b)) W := by
  unfold execOp
  simp [ho, hx, go_sem, convert, run_underlying hS, run_underlying hT, hw]
theorem exec_shr1 {o : Oper} {ev : Operand → Value} {W : World} {x y : Operand} {n : Nat} (ho : o.op = .binOp .shr 50 x y 50) (hx : ev x = .int .u64 (n : Int)) (hy : ev y = .int .u64 1) : (execOp ev o).run Tryd.prog W = .ok (.value (.int .u64 ((n / 2 : Nat) : Int))) W := by
  unfold execOp
  simp [ho, hx, hy, go_sem, IntKind.bits]
theorem exec_eq64b {o : Oper} {ev : Operand → Value} {W : World} {x y : Operand} {a b : Int} {q : Bool} (ho : o.op = .binOp .eql 59 x y 59) (hx : ev x = .int .u64 a) (hy : ev y = .int .u64 b) (hq : decide (a = b) = q) : (execOp ev o).run Tryd.prog W = .ok (.value (.bool q)) W := by
  subst hq
  unfold execOp
  by_cases h : a = b
  · subst h
    simp [ho, hx, hy, go_sem, Tryd.underlying59]
  · simp [ho, hx, hy, go_sem, Tryd.underlying59, h]
theorem lf_mono {l : List Nat} (hs : l.Pairwise (· ≤ ·)) {i j : Nat} (h : i ≤ j) (hj : j < l.length) : lf l i ≤ lf l j := by
  rcases Nat.lt_or_ge i j with q | q
  · rw [lf_get (by omega), lf_get hj]
    exact List.pairwise_iff_getElem.1 hs i j (by omega) hj q
  · obtain rfl : i = j := by omega
    exact Nat.le_refl _
end Go.Proofs.YtoopcmcmjaikhaaDoor
