/- Copy and a new one of the document's tape; both tapes' calls by what they do to a state. -/
import Derived.Test.YtlbbnaihhagfdaaXs
set_option linter.unusedSimpArgs false
set_option linter.unusedVariables false
set_option maxRecDepth 100000
namespace Go.Proofs.Ytlbbnaihhagfdaa
open Go.RowKit Go.Lib Go.Sort

set_option maxHeartbeats 8000000
section
variable {K : Act → World → Prop} {Q : Exit → Act → World → Prop} {op : Oper} {a : Act} {w w0 : World} {l : List (Nat × TypeId × Array Value)} {g c : Nat} {p : Option Addr} {xs : List Nat}
theorem mo_wbox (N : Hid (Wb w0 l p g c xs w)) (T : TypeId) (hT : T ≠ 5) (x : Operand) (ho : op.op = .box T x) {v : Value} (hx : a.eval x = v) {cs : Array Value} (hc : v.cells = cs)
    (h : ∀ b w', Hid (Wb w0 ((b, T, cs) :: l) p g c xs w') → Hid (Below w.heap.size w w') → K (a.put op.dst (.pointer (some ⟨b, 0, Option.none⟩))) w') : op.wp Try.prog a w K Q := by
  refine mo_known (.pointer (some ⟨w.heap.size, 0, none⟩)) (w.alloc (.cells cs T)) ?_ (h _ _ (Lib.hid (N.out.new T _ hT)) (Lib.hid (below_new w _)))
  unfold execOp
  subst hx hc
  simp only [ho, Sem.run_bind, Instr.box]
  rfl
end
section
variable {D w : World} {bx : Nat} {v : Value} {s r u : Int} {p : Option Addr} {g c : Nat} {xs : List Nat} {q : Option Addr} {h o m d : Nat} {y : Nat → Nat}
theorem xcopy_any (T : Hid (Xp D bx s r u p g c xs w)) (hx : xs.length ≤ 140737488355328) : Calls Try.prog 11 #[.pointer (some ⟨bx, 0, none⟩)] w fun e w' => ∃ v, e = .returned v ∧ XMakes s r u xs w v w' := by
  have HX := Lib.hid hx
  clear hx
  go_enter Try.func11, Try.ntmps11
  go_upto_region 1 with fail
  refine wp_region_T (Φ := fun X => Xp D bx s r u p g c xs X ∧ Below w.heap.size w X) (S := fun X => Xp D bx s r u p g c xs X) (Lib.hid ⟨T.out, Below.refl _ _⟩) (fun _ h => ⟨h.1.drew, h.2.drew⟩) (fun _ h => h.1) (by kernel_rfl) ?_
  intro w5 TT S0
  refine hm_run 1 4 (.pointer (some ⟨bx, 0, none⟩)) rfl rfl (by kernel_rfl) (by kernel_rfl) (by kernel_rfl) (fun _ _ _ h => h) rfl (fun _ _ => rfl) S0.out ?_
  try simp only [Act.put, List.getElem_toArray, List.getElem_cons_succ, List.getElem_cons_zero, List.setIfInBounds_toArray, List.set_cons_zero, List.set_cons_succ]
  refine hm_run 2 5 (.pointer (some ⟨bx, 0, none⟩)) rfl rfl (by kernel_rfl) (by kernel_rfl) (by kernel_rfl) (fun _ _ _ h => h) rfl (fun _ _ => rfl) S0.out ?_
  try simp only [Act.put, List.getElem_toArray, List.getElem_cons_succ, List.getElem_cons_zero, List.setIfInBounds_toArray, List.set_cons_zero, List.set_cons_succ]
  refine hm_run 3 6 (.pointer (some ⟨bx, 0, none⟩)) rfl rfl (by kernel_rfl) (by kernel_rfl) (by kernel_rfl) (fun _ _ _ h => h) rfl (fun _ _ => rfl) S0.out ?_
  try simp only [Act.put, List.getElem_toArray, List.getElem_cons_succ, List.getElem_cons_zero, List.setIfInBounds_toArray, List.set_cons_zero, List.set_cons_succ]
  refine hm_run 4 7 (.slice p xs.length c) rfl rfl (by kernel_rfl) (by kernel_rfl) (by kernel_rfl) (fun _ _ _ h => h) rfl (fun W hW => exec_load rfl (run_load_one Try.underlying22 rfl (cell_of_here hW.cX 0 rfl))) S0.out ?_
  try simp only [Act.put, List.getElem_toArray, List.getElem_cons_succ, List.getElem_cons_zero, List.setIfInBounds_toArray, List.set_cons_zero, List.set_cons_succ]
  refine hm_run 6 9 (.pointer (some ⟨bx, 0, none⟩)) rfl rfl (by kernel_rfl) (by kernel_rfl) (by kernel_rfl) (fun _ _ _ h => h) rfl (fun _ _ => rfl) S0.out ?_
  try simp only [Act.put, List.getElem_toArray, List.getElem_cons_succ, List.getElem_cons_zero, List.setIfInBounds_toArray, List.set_cons_zero, List.set_cons_succ]
  refine hm_run 7 10 (.pointer (some ⟨bx, 0, none⟩)) rfl rfl (by kernel_rfl) (by kernel_rfl) (by kernel_rfl) (fun _ _ _ h => h) rfl (fun _ _ => rfl) S0.out ?_
  try simp only [Act.put, List.getElem_toArray, List.getElem_cons_succ, List.getElem_cons_zero, List.setIfInBounds_toArray, List.set_cons_zero, List.set_cons_succ]
  refine hm_run 8 11 (.pointer (some ⟨bx, 1, none⟩)) rfl rfl (by kernel_rfl) (by kernel_rfl) (by kernel_rfl) (fun _ _ _ h => h) rfl (fun _ _ => rfl) S0.out ?_
  try simp only [Act.put, List.getElem_toArray, List.getElem_cons_succ, List.getElem_cons_zero, List.setIfInBounds_toArray, List.set_cons_zero, List.set_cons_succ]
  refine hm_run 9 12 (.int .i64 s) rfl rfl (by kernel_rfl) (by kernel_rfl) (by kernel_rfl) (fun _ _ _ h => h) rfl (fun W hW => exec_load rfl (run_load_one Try.underlying3 rfl (cell_of_here hW.cX 1 rfl))) S0.out ?_
  try simp only [Act.put, List.getElem_toArray, List.getElem_cons_succ, List.getElem_cons_zero, List.setIfInBounds_toArray, List.set_cons_zero, List.set_cons_succ]
  refine hm_run 10 13 (.pointer (some ⟨bx, 0, none⟩)) rfl rfl (by kernel_rfl) (by kernel_rfl) (by kernel_rfl) (fun _ _ _ h => h) rfl (fun _ _ => rfl) S0.out ?_
  try simp only [Act.put, List.getElem_toArray, List.getElem_cons_succ, List.getElem_cons_zero, List.setIfInBounds_toArray, List.set_cons_zero, List.set_cons_succ]
  refine hm_run 11 14 (.pointer (some ⟨bx, 0, none⟩)) rfl rfl (by kernel_rfl) (by kernel_rfl) (by kernel_rfl) (fun _ _ _ h => h) rfl (fun _ _ => rfl) S0.out ?_
  try simp only [Act.put, List.getElem_toArray, List.getElem_cons_succ, List.getElem_cons_zero, List.setIfInBounds_toArray, List.set_cons_zero, List.set_cons_succ]
  refine hm_run 12 15 (.pointer (some ⟨bx, 2, none⟩)) rfl rfl (by kernel_rfl) (by kernel_rfl) (by kernel_rfl) (fun _ _ _ h => h) rfl (fun _ _ => rfl) S0.out ?_
  try simp only [Act.put, List.getElem_toArray, List.getElem_cons_succ, List.getElem_cons_zero, List.setIfInBounds_toArray, List.set_cons_zero, List.set_cons_succ]
  refine hm_run 13 16 (.int .i64 r) rfl rfl (by kernel_rfl) (by kernel_rfl) (by kernel_rfl) (fun _ _ _ h => h) rfl (fun W hW => exec_load rfl (run_load_one Try.underlying3 rfl (cell_of_here hW.cX 2 rfl))) S0.out ?_
  try simp only [Act.put, List.getElem_toArray, List.getElem_cons_succ, List.getElem_cons_zero, List.setIfInBounds_toArray, List.set_cons_zero, List.set_cons_succ]
  refine hm_run 14 17 (.pointer (some ⟨bx, 0, none⟩)) rfl rfl (by kernel_rfl) (by kernel_rfl) (by kernel_rfl) (fun _ _ _ h => h) rfl (fun _ _ => rfl) S0.out ?_
  try simp only [Act.put, List.getElem_toArray, List.getElem_cons_succ, List.getElem_cons_zero, List.setIfInBounds_toArray, List.set_cons_zero, List.set_cons_succ]
  refine hm_run 15 18 (.pointer (some ⟨bx, 0, none⟩)) rfl rfl (by kernel_rfl) (by kernel_rfl) (by kernel_rfl) (fun _ _ _ h => h) rfl (fun _ _ => rfl) S0.out ?_
  try simp only [Act.put, List.getElem_toArray, List.getElem_cons_succ, List.getElem_cons_zero, List.setIfInBounds_toArray, List.set_cons_zero, List.set_cons_succ]
  refine hm_run 16 19 (.pointer (some ⟨bx, 3, none⟩)) rfl rfl (by kernel_rfl) (by kernel_rfl) (by kernel_rfl) (fun _ _ _ h => h) rfl (fun _ _ => rfl) S0.out ?_
  try simp only [Act.put, List.getElem_toArray, List.getElem_cons_succ, List.getElem_cons_zero, List.setIfInBounds_toArray, List.set_cons_zero, List.set_cons_succ]
  refine hm_run 17 20 (.int .i64 u) rfl rfl (by kernel_rfl) (by kernel_rfl) (by kernel_rfl) (fun _ _ _ h => h) rfl (fun W hW => exec_load rfl (run_load_one Try.underlying3 rfl (cell_of_here hW.cX 3 rfl))) S0.out ?_
  try simp only [Act.put, List.getElem_toArray, List.getElem_cons_succ, List.getElem_cons_zero, List.setIfInBounds_toArray, List.set_cons_zero, List.set_cons_succ]
  refine hm_one (i := 0) (by kernel_rfl) ?_
  refine hm_step 0 rfl (by kernel_rfl) fun K hK => ?_
  try simp only [Act.put, List.getElem_toArray, List.getElem_cons_succ, List.getElem_cons_zero, List.setIfInBounds_toArray, List.set_cons_zero, List.set_cons_succ]
  refine mo_bs0 _ rfl (by simp) ?_
  intro p6 g6 c6 w6 K6
  have S0_16 := Lib.hid (TT.out.1.call K6.out.mem.below)
  refine hK _ _ S0_16.out ?_
  clear hK K
  try simp only [Act.put, List.getElem_toArray, List.getElem_cons_succ, List.getElem_cons_zero, List.setIfInBounds_toArray, List.set_cons_zero, List.set_cons_succ]
  refine hm_one (i := 5) (by kernel_rfl) ?_
  refine hm_step 5 rfl (by kernel_rfl) fun K hK => ?_
  try simp only [Act.put, List.getElem_toArray, List.getElem_cons_succ, List.getElem_cons_zero, List.setIfInBounds_toArray, List.set_cons_zero, List.set_cons_succ]
  refine mo_wb (.tmp 3) (.tmp 7) rfl K6 rfl rfl rfl (Lib.hid (S0_16.out.row)) (by have := HX.out; simp; omega) ?_
  intro p7 g7 c7 w7 zs Z7 K7
  have S5_17 := Lib.hid (TT.out.1.call K7.out.mem.below)
  refine hK _ _ S5_17.out ?_
  clear hK K
  try simp only [Act.put, List.getElem_toArray, List.getElem_cons_succ, List.getElem_cons_zero, List.setIfInBounds_toArray, List.set_cons_zero, List.set_cons_succ]
  refine hm_run 18 21 (.agg #[.slice p7 zs.length c7, .int .i64 s, .int .i64 r, .int .i64 u]) rfl rfl (by kernel_rfl) (by kernel_rfl) (by kernel_rfl) (fun _ _ _ h => h) rfl (fun _ _ => exec_build (ps := #[(0, .slice p7 zs.length c7), (1, .int .i64 s), (2, .int .i64 r), (3, .int .i64 u)]) rfl (by kernel_rfl) (built_x _ _ _ _ _ _)) S5_17.out ?_
  try simp only [Act.put, List.getElem_toArray, List.getElem_cons_succ, List.getElem_cons_zero, List.setIfInBounds_toArray, List.set_cons_zero, List.set_cons_succ]
  refine hm_one (i := 19) (by kernel_rfl) ?_
  refine hm_step 19 rfl (by kernel_rfl) fun K hK => ?_
  try simp only [Act.put, List.getElem_toArray, List.getElem_cons_succ, List.getElem_cons_zero, List.setIfInBounds_toArray, List.set_cons_zero, List.set_cons_succ]
  refine mo_wbox K7 61 (by decide) (.tmp 21) rfl rfl (cs := #[.slice p7 zs.length c7, .int .i64 s, .int .i64 r, .int .i64 u]) rfl ?_
  intro b8 w8 K8 B8
  have S19_19 := Lib.hid (S5_17.out.call B8.out)
  refine hK _ _ S19_19.out ?_
  clear hK K
  try simp only [Act.put, List.getElem_toArray, List.getElem_cons_succ, List.getElem_cons_zero, List.setIfInBounds_toArray, List.set_cons_zero, List.set_cons_succ]
  refine hm_run 20 2 (.pointer (some ⟨b8, 0, none⟩)) rfl rfl (by kernel_rfl) (by kernel_rfl) (by kernel_rfl) (fun _ _ _ h => h) rfl (fun _ _ => rfl) S19_19.out ?_
  try simp only [Act.put, List.getElem_toArray, List.getElem_cons_succ, List.getElem_cons_zero, List.setIfInBounds_toArray, List.set_cons_zero, List.set_cons_succ]
  refine wpAnyH_done (by kernel_rfl) ?_ _
  go_wp2
  go_ret
  refine ⟨_, rfl, b8, p7, g7, c7, rfl, ?_, TT.out.2.trans (K8.out.mem.below.mono TT.out.2.size)⟩
  have e : zs = xs := by rw [Z7.out, List.nil_append, tl_lf]
  subst e
  exact Xq.mono K8.out TT.out.2

theorem xof_bad (n : Int) (hn : ¬ (0 ≤ n ∧ n ≤ 16777216) ∨ n < m) : Calls Try.prog 9 #[.slice q m d, .int .i64 n] w fun e w' => e = .returned (.tuple #[.pointer none, .int .i64 1]) ∧ w = w' := by
  by_cases h1 : n < 0
  · clear hn
    go_enter Try.func9, Try.ntmps9
    go_wp2
    go_ret2
    exact ⟨rfl, rfl⟩
  · by_cases h2 : (16777216 : Int) < n
    · clear hn
      go_enter Try.func9, Try.ntmps9
      go_wp2
      go_ret2
      exact ⟨rfl, rfl⟩
    · have h3 : n < (m : Int) := by
        rcases hn with q | q
        · exact absurd (by omega) q
        · exact q
      clear hn
      go_enter Try.func9, Try.ntmps9
      go_wp2
      go_ret2
      exact ⟨rfl, rfl⟩
theorem xof_ok (R : Hid (Row w q h o m d y)) (n : Int) (hn : 0 ≤ n ∧ n ≤ 16777216) (hm : m ≤ n) : Calls Try.prog 9 #[.slice q m d, .int .i64 n] w fun e w' => ∃ v, e = .returned (.tuple #[v, .int .i64 0]) ∧ XMakes m n (-1) (tl y m) w v w' := by
  have h1 : ¬ (n < 0) := by omega
  have h2 : ¬ ((16777216 : Int) < n) := by omega
  have h3 : ¬ (n < (m : Int)) := by omega
  have HM := Lib.hid (show m ≤ 16777216 by omega)
  have K6 := Lib.hid (Wb.fresh0 w)
  clear hn hm
  go_enter Try.func9, Try.ntmps9
  go_wp2_with (first
    | ((with_reducible refine wpList_at 20 rfl ?_); refine wpList_wb rfl (.tmp 18) (.tmp 19) rfl K6 rfl rfl rfl (Lib.hid (R.out.below K6.out.mem.below)) (by have := HM.out; simp; omega) ?_; intro p7 g7 c7 w7 zs Z7 K7; try simp only [Act.put, List.setIfInBounds_toArray, List.set_cons_zero, List.set_cons_succ])
    | ((with_reducible refine wpList_at 24 rfl ?_); refine wpList_bld 61 _ rfl rfl (ps := #[(0, .slice p7 zs.length c7), (1, .int .i64 m), (2, .int .i64 n), (3, .int .i64 (-1))]) (by kernel_rfl) (built_x _ _ _ _ _ _) ?_; try simp only [Act.put, List.setIfInBounds_toArray, List.set_cons_zero, List.set_cons_succ])
    | ((with_reducible refine wpList_at 25 rfl ?_); refine wb_box K7 61 (by decide) rfl _ rfl rfl (cs := #[.slice p7 zs.length c7, .int .i64 m, .int .i64 n, .int .i64 (-1)]) rfl ?_; intro b8 w8 K8; try simp only [Act.put, List.setIfInBounds_toArray, List.set_cons_zero, List.set_cons_succ]))
  go_ret2
  refine ⟨_, rfl, b8, p7, g7, c7, rfl, ?_, K8.out.mem.below⟩
  have e : zs = tl y m := by rw [Z7.out, List.nil_append]
  subst e
  exact K8.out
end
/-- What a tape has. -/
structure St where
  xs : List Nat
  s : Nat
  r : Int
  f : Bool
  k : Int
structure St.Ok (t : St) : Prop where
  hs : t.s ≤ t.xs.length
  hx : t.xs.length ≤ 16777216
  hr : 0 ≤ t.r ∧ t.r ≤ 16777216
  hk : 0 ≤ t.k ∧ t.k ≤ 9223372036854775807
  hf : t.f = false → t.k = 0
/-- The document's fuse. -/
def St.u (t : St) : Int := if t.f then t.k else -1
def St.burn (t : St) : St := { t with k := bk t.f t.k }
def appF (t : St) (ys : List Nat) : Int × St := if bok t.f t.k = false then (150, t.burn) else if ((t.xs.length + ys.length : Nat) : Int) ≤ t.r then (0, { t.burn with xs := t.xs ++ ys }) else (4, t.burn)
def syncF (t : St) : Int × St := if bok t.f t.k = false then (150, t.burn) else (0, { t.burn with s := t.xs.length })
def cutF (t : St) (n : Int) : Int × St := if 0 ≤ n ∧ n ≤ t.xs.length then (if bok t.f t.k = false then (150, t.burn) else (0, { t.burn with xs := t.xs.take n.toNat, s := n.toNat })) else (1, t)
def fuseF (t : St) (n : Int) : Int × St := if n < 0 then (1, t) else (0, { t with f := true, k := n })
def roomF (t : St) (n : Int) : Int × St := if 0 ≤ n ∧ n ≤ 16777216 then (0, { t with r := n }) else (1, t)
def crashN (t : St) (n : Int) : Nat := (t.s + min (max n 0) (t.xs.length - t.s) : Int).toNat
def crashF (t : St) (n : Int) : Int × St := (0, { t with xs := t.xs.take (crashN t n), s := crashN t n, f := false, k := 0 })
theorem bk_in {f : Bool} {k : Int} (h : 0 ≤ k ∧ k ≤ 9223372036854775807) : 0 ≤ bk f k ∧ bk f k ≤ 9223372036854775807 := by
  unfold bk
  split <;> omega
theorem St.Ok.burn {t : St} (h : t.Ok) : t.burn.Ok := ⟨h.hs, h.hx, h.hr, bk_in h.hk, fun hf => by
  have h1 : t.f = false := hf
  show bk t.f t.k = 0
  rw [h1, h.hf h1]; rfl⟩
theorem u_ok {t : St} (h : t.Ok) : xok t.u = bok t.f t.k := by
  unfold St.u xok bok
  cases hf : t.f
  · simp
  · simp
theorem u_k {t : St} (h : t.Ok) : xk t.u = t.burn.u := by
  unfold St.u St.burn xk bk
  cases hf : t.f
  · simp
  · have := h.hk
    simp
    by_cases h0 : t.k = 0
    · simp [h0]
    · rw [if_pos (by omega), if_neg h0] <;> rfl
theorem u_in {t : St} (h : t.Ok) : -1 ≤ t.u ∧ t.u ≤ 9223372036854775807 := by
  unfold St.u
  have := h.hk
  split <;> omega
theorem crashN_is (t : St) (n : Int) (h : t.Ok) : ((crashN t n : Nat) : Int) = (t.s : Int) + min (max n 0) ((t.xs.length : Int) - t.s) := by
  unfold crashN
  have := h.hs
  rw [Int.toNat_of_nonneg (by omega)]
theorem appF_ok {t : St} {ys : List Nat} (h : t.Ok) : (appF t ys).2.Ok := by
  unfold appF
  split
  · exact h.burn
  · split
    · rename_i h2
      have := h.hs
      have := h.hr
      exact ⟨by show t.s ≤ (t.xs ++ ys).length; rw [List.length_append]; omega, by show (t.xs ++ ys).length ≤ 16777216; rw [List.length_append]; omega, h.hr, h.burn.hk, h.burn.hf⟩
    · exact h.burn
theorem syncF_ok {t : St} (h : t.Ok) : (syncF t).2.Ok := by
  unfold syncF
  split
  · exact h.burn
  · exact ⟨Nat.le_refl _, h.hx, h.hr, h.burn.hk, h.burn.hf⟩
theorem cutF_ok {t : St} {n : Int} (h : t.Ok) : (cutF t n).2.Ok := by
  unfold cutF
  have := h.hx
  split
  · split
    · exact h.burn
    · exact ⟨by show n.toNat ≤ (t.xs.take n.toNat).length; rw [List.length_take]; omega, by show (t.xs.take n.toNat).length ≤ 16777216; rw [List.length_take]; omega, h.hr, h.burn.hk, h.burn.hf⟩
  · exact h
theorem fuseF_ok {t : St} {n : Int} (hn : n ≤ 9223372036854775807) (h : t.Ok) : (fuseF t n).2.Ok := by
  unfold fuseF
  split
  · exact h
  · exact ⟨h.hs, h.hx, h.hr, ⟨by show 0 ≤ n; omega, hn⟩, fun hf => by cases hf⟩
theorem roomF_ok {t : St} {n : Int} (h : t.Ok) : (roomF t n).2.Ok := by
  unfold roomF
  split
  · exact ⟨h.hs, h.hx, by assumption, h.hk, h.hf⟩
  · exact h
theorem crashF_ok {t : St} {n : Int} (h : t.Ok) : (crashF t n).2.Ok := by
  have e := crashN_is t n h
  have := h.hs
  have := h.hx
  exact ⟨by show crashN t n ≤ (t.xs.take (crashN t n)).length; rw [List.length_take]; omega, by show (t.xs.take (crashN t n)).length ≤ 16777216; rw [List.length_take]; omega, h.hr, ⟨by show (0 : Int) ≤ 0; omega, by show (0 : Int) ≤ _; omega⟩, fun _ => rfl⟩
/-- Both tapes in such a state. -/
abbrev TS (D : World) (bt bs : Nat) (t : St) (p : Option Addr) (g c : Nat) (w : World) : Prop := Tp D bt bs t.s t.r t.f t.k p g c t.xs w
abbrev XS (D : World) (bx : Nat) (t : St) (p : Option Addr) (g c : Nat) (w : World) : Prop := Xp D bx t.s t.r t.u p g c t.xs w
def TT (D : World) (bt bs : Nat) (t : St) (p : Option Addr) (w w' : World) : Prop := Turns D bt bs t.s t.r t.f t.k p t.xs w w'
def XT (D : World) (bx : Nat) (t : St) (p : Option Addr) (w w' : World) : Prop := ∃ p' g' c', XS D bx t p' g' c' w' ∧ Fr bx none w w' ∧ Lies w (ob p) (ob p')
section
variable {D w : World} {bt bs bx : Nat} {t : St} {p : Option Addr} {g c : Nat} {q : Option Addr} {h o m d : Nat} {y : Nat → Nat}
theorem TS.tt {w' : World} {p : Option Addr} {g c : Nat} {t : St} (T : TS D bt bs t p g c w') (F : Fr bs (ob p) w w') : TT D bt bs t p w w' := ⟨p, g, c, T, F, Lies.refl _ _⟩
theorem XS.xt {w' : World} {p : Option Addr} {g c : Nat} {t : St} (T : XS D bx t p g c w') (F : Fr bx none w w') : XT D bx t p w w' := ⟨p, g, c, T, F, Lies.refl _ _⟩
theorem XTurns.xt {w' : World} {t : St} (h : XTurns D bx t.s t.r t.u t.xs w w') : XT D bx t p w w' := by
  obtain ⟨p', g', c', T, F, L⟩ := h
  exact ⟨p', g', c', T, F, fun k e => .inr (L k e)⟩
theorem tapp_all (T : Hid (TS D bt bs t p g c w)) (ok : t.Ok) (R : Hid (Row w q h o m d y)) (hm : m ≤ 140737488351232) (hfr : 0 < m → some h ≠ ob p ∧ h ≠ bs) : Calls Try.prog 14 #[.pointer (some ⟨bt, 0, none⟩), .slice q m d] w fun e w' => e = .returned (.int .i64 (appF t (tl y m)).1) ∧ TT D bt bs (appF t (tl y m)).2 p w w' := by
  have := ok.hx
  have := ok.hr
  unfold appF
  rw [tl_length]
  by_cases h1 : bok t.f t.k = false
  · rw [if_pos h1]
    exact (app_dead T ok.hk h1 _).mono fun e w' ⟨he, hT, hF⟩ => ⟨he, TS.tt (t := t.burn) hT hF⟩
  · have h1' : bok t.f t.k = true := by simpa using h1
    rw [if_neg h1]
    by_cases h2 : ((t.xs.length + m : Nat) : Int) ≤ t.r
    · rw [if_pos h2]
      exact (app_ok T ok.hk (by omega) h1' (by omega) R hfr (by omega) h2).mono fun e w' ⟨he, hT⟩ => ⟨he, hT⟩
    · rw [if_neg h2]
      exact (app_full T ok.hk (by omega) h1' (by omega) h2).mono fun e w' ⟨he, hT, hF⟩ => ⟨he, TS.tt (t := t.burn) hT hF⟩
theorem xapp_all (T : Hid (XS D bx t p g c w)) (ok : t.Ok) (R : Hid (Row w q h o m d y)) (hm : m ≤ 140737488351232) (hfr : 0 < m → h ≠ bx) : Calls Try.prog 15 #[.pointer (some ⟨bx, 0, none⟩), .slice q m d] w fun e w' => e = .returned (.int .i64 (appF t (tl y m)).1) ∧ XT D bx (appF t (tl y m)).2 p w w' := by
  have := ok.hx
  have := ok.hr
  have e1 := u_ok ok
  have e2 := u_k ok
  unfold appF
  rw [tl_length]
  by_cases h1 : bok t.f t.k = false
  · rw [if_pos h1]
    exact (xapp_dead T (u_in ok) (by rw [e1]; exact h1) _).mono fun e w' ⟨he, hT, hF⟩ => ⟨he, XS.xt (t := t.burn) (by rw [e2] at hT; exact hT) hF⟩
  · have h1' : bok t.f t.k = true := by simpa using h1
    rw [if_neg h1]
    by_cases h2 : ((t.xs.length + m : Nat) : Int) ≤ t.r
    · rw [if_pos h2]
      exact (xapp_ok T (u_in ok) (by rw [e1]; exact h1') (by omega) ok.hr R hfr h2).mono fun e w' ⟨he, hT⟩ => ⟨he, XTurns.xt (t := { t.burn with xs := t.xs ++ tl y m }) (by rw [e2] at hT; exact hT)⟩
    · rw [if_neg h2]
      exact (xapp_full T (u_in ok) (by rw [e1]; exact h1') (by omega) ok.hr (by omega) h2).mono fun e w' ⟨he, hT, hF⟩ => ⟨he, XS.xt (t := t.burn) (by rw [e2] at hT; exact hT) hF⟩
theorem tsync_all (T : Hid (TS D bt bs t p g c w)) (ok : t.Ok) : Calls Try.prog 17 #[.pointer (some ⟨bt, 0, none⟩)] w fun e w' => e = .returned (.int .i64 (syncF t).1) ∧ TT D bt bs (syncF t).2 p w w' := by
  unfold syncF
  by_cases h1 : bok t.f t.k = false
  · rw [if_pos h1]
    exact (sync_dead T ok.hk h1).mono fun e w' ⟨he, hT, hF⟩ => ⟨he, TS.tt (t := t.burn) hT hF⟩
  · rw [if_neg h1]
    exact (sync_ok T ok.hk (by simpa using h1)).mono fun e w' ⟨he, hT, hF⟩ => ⟨he, TS.tt (t := { t.burn with s := t.xs.length }) hT hF⟩
theorem xsync_all (T : Hid (XS D bx t p g c w)) (ok : t.Ok) : Calls Try.prog 28 #[.pointer (some ⟨bx, 0, none⟩)] w fun e w' => e = .returned (.int .i64 (syncF t).1) ∧ XT D bx (syncF t).2 p w w' := by
  have e1 := u_ok ok
  have e2 := u_k ok
  unfold syncF
  by_cases h1 : bok t.f t.k = false
  · rw [if_pos h1]
    exact (xsync_dead T (u_in ok) (by rw [e1]; exact h1)).mono fun e w' ⟨he, hT, hF⟩ => ⟨he, XS.xt (t := t.burn) (by rw [e2] at hT; exact hT) hF⟩
  · rw [if_neg h1]
    exact (xsync_ok T (u_in ok) (by rw [e1]; simpa using h1)).mono fun e w' ⟨he, hT, hF⟩ => ⟨he, XS.xt (t := { t.burn with s := t.xs.length }) (by rw [e2] at hT; exact hT) hF⟩
theorem tcut_all (T : Hid (TS D bt bs t p g c w)) (ok : t.Ok) (n : Int) : Calls Try.prog 24 #[.pointer (some ⟨bt, 0, none⟩), .int .i64 n] w fun e w' => e = .returned (.int .i64 (cutF t n).1) ∧ TT D bt bs (cutF t n).2 p w w' := by
  have := ok.hx
  unfold cutF
  by_cases h0 : 0 ≤ n ∧ n ≤ t.xs.length
  · rw [if_pos h0]
    obtain ⟨j, rfl⟩ : ∃ j : Nat, n = j := ⟨n.toNat, by omega⟩
    by_cases h1 : bok t.f t.k = false
    · rw [if_pos h1]
      exact (cut_dead T ok.hk h1 j (by omega)).mono fun e w' ⟨he, hT, hF⟩ => ⟨he, TS.tt (t := t.burn) hT hF⟩
    · rw [if_neg h1, Int.toNat_natCast]
      exact (cut_ok T ok.hk (by simpa using h1) j (by omega) (by omega)).mono fun e w' ⟨he, hT⟩ => ⟨he, hT⟩
  · rw [if_neg h0]
    exact (cut_bad T n h0).mono fun e w' ⟨he, hw⟩ => ⟨he, by subst hw; exact TS.tt T.out (Fr.refl _ _ _)⟩
theorem xcut_all (T : Hid (XS D bx t p g c w)) (ok : t.Ok) (n : Int) : Calls Try.prog 29 #[.pointer (some ⟨bx, 0, none⟩), .int .i64 n] w fun e w' => e = .returned (.int .i64 (cutF t n).1) ∧ XT D bx (cutF t n).2 p w w' := by
  have := ok.hx
  have e1 := u_ok ok
  have e2 := u_k ok
  unfold cutF
  by_cases h0 : 0 ≤ n ∧ n ≤ t.xs.length
  · rw [if_pos h0]
    obtain ⟨j, rfl⟩ : ∃ j : Nat, n = j := ⟨n.toNat, by omega⟩
    by_cases h1 : bok t.f t.k = false
    · rw [if_pos h1]
      exact (xcut_dead T (u_in ok) (by rw [e1]; exact h1) j (by omega)).mono fun e w' ⟨he, hT, hF⟩ => ⟨he, XS.xt (t := t.burn) (by rw [e2] at hT; exact hT) hF⟩
    · rw [if_neg h1, Int.toNat_natCast]
      exact (xcut_ok T (u_in ok) (by rw [e1]; simpa using h1) j (by omega) (by omega)).mono fun e w' ⟨he, hT⟩ => ⟨he, XTurns.xt (t := { t.burn with xs := t.xs.take j, s := j }) (by rw [e2] at hT; exact hT)⟩
  · rw [if_neg h0]
    exact (xcut_bad T n h0).mono fun e w' ⟨he, hw⟩ => ⟨he, by subst hw; exact XS.xt T.out (Fr.refl _ _ _)⟩
theorem tfuse_all (T : Hid (TS D bt bs t p g c w)) (n : Int) : Calls Try.prog 23 #[.pointer (some ⟨bt, 0, none⟩), .int .i64 n] w fun e w' => e = .returned (.int .i64 (fuseF t n).1) ∧ TT D bt bs (fuseF t n).2 p w w' := by
  unfold fuseF
  by_cases h1 : n < 0
  · rw [if_pos h1]
    exact (fuse_bad T n h1).mono fun e w' ⟨he, hw⟩ => ⟨he, by subst hw; exact TS.tt T.out (Fr.refl _ _ _)⟩
  · rw [if_neg h1]
    exact (fuse_ok T n (by omega)).mono fun e w' ⟨he, hT, hF⟩ => ⟨he, TS.tt (t := { t with f := true, k := n }) hT hF⟩
theorem xfuse_all (T : Hid (XS D bx t p g c w)) (n : Int) : Calls Try.prog 30 #[.pointer (some ⟨bx, 0, none⟩), .int .i64 n] w fun e w' => e = .returned (.int .i64 (fuseF t n).1) ∧ XT D bx (fuseF t n).2 p w w' := by
  unfold fuseF
  by_cases h1 : n < 0
  · rw [if_pos h1]
    exact (xfuse_bad n h1 _).mono fun e w' ⟨he, hw⟩ => ⟨he, by subst hw; exact XS.xt T.out (Fr.refl _ _ _)⟩
  · rw [if_neg h1]
    exact (xfuse_ok T n (by omega)).mono fun e w' ⟨he, hT, hF⟩ => ⟨he, XS.xt (t := { t with f := true, k := n }) hT hF⟩
theorem troom_all (T : Hid (TS D bt bs t p g c w)) (n : Int) : Calls Try.prog 25 #[.pointer (some ⟨bt, 0, none⟩), .int .i64 n] w fun e w' => e = .returned (.int .i64 (roomF t n).1) ∧ TT D bt bs (roomF t n).2 p w w' := by
  unfold roomF
  by_cases h1 : 0 ≤ n ∧ n ≤ 16777216
  · rw [if_pos h1]
    exact (room_ok (ob p) T n h1).mono fun e w' ⟨he, hT, hF⟩ => ⟨he, TS.tt (t := { t with r := n }) hT hF⟩
  · rw [if_neg h1]
    exact (room_bad T n h1).mono fun e w' ⟨he, hw⟩ => ⟨he, by subst hw; exact TS.tt T.out (Fr.refl _ _ _)⟩
theorem xroom_all (T : Hid (XS D bx t p g c w)) (n : Int) : Calls Try.prog 31 #[.pointer (some ⟨bx, 0, none⟩), .int .i64 n] w fun e w' => e = .returned (.int .i64 (roomF t n).1) ∧ XT D bx (roomF t n).2 p w w' := by
  unfold roomF
  by_cases h1 : 0 ≤ n ∧ n ≤ 16777216
  · rw [if_pos h1]
    exact (xroom_ok T n h1).mono fun e w' ⟨he, hT, hF⟩ => ⟨he, XS.xt (t := { t with r := n }) hT hF⟩
  · rw [if_neg h1]
    exact (xroom_bad n h1 _).mono fun e w' ⟨he, hw⟩ => ⟨he, by subst hw; exact XS.xt T.out (Fr.refl _ _ _)⟩
theorem tcrash_all (T : Hid (TS D bt bs t p g c w)) (ok : t.Ok) (n : Int) : Calls Try.prog 19 #[.pointer (some ⟨bt, 0, none⟩), .int .i64 n] w fun e w' => e = .returned (.int .i64 0) ∧ TT D bt bs (crashF t n).2 p w w' :=
  (crash_any T ok.hs (by have := ok.hx; omega) n (crashN t n) (crashN_is t n ok)).mono fun e w' ⟨he, hT⟩ => ⟨he, hT⟩
theorem xcrash_all (T : Hid (XS D bx t p g c w)) (ok : t.Ok) (n : Int) : Calls Try.prog 32 #[.pointer (some ⟨bx, 0, none⟩), .int .i64 n] w fun e w' => e = .returned (.tuple #[]) ∧ XT D bx (crashF t n).2 p w w' :=
  (xcrash_any T ok.hs (by have := ok.hx; omega) n (crashN t n) (crashN_is t n ok)).mono fun e w' ⟨he, hT⟩ => ⟨he, XTurns.xt (t := (crashF t n).2) hT⟩
end
end Go.Proofs.Ytlbbnaihhagfdaa
