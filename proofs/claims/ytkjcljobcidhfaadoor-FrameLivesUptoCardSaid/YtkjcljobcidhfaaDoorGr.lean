/- A frame reader's small calls, the program's; what feeding it gives. -/
import Derived.Test.YtkjcljobcidhfaaDoorGq
set_option linter.unusedSimpArgs false
set_option linter.unusedVariables false
set_option maxRecDepth 100000
namespace Go.Proofs.YtkjcljobcidhfaaDoor
open Go.RowKit Go.Lib Go.Sort

theorem arr_vs (n : Nat) (V : Nat → Value) : (arr n V).toList = vs V (1 * n) := by
  rw [Nat.one_mul, ← vs_arr]
theorem one_arr {n : Nat} {V : Nat → Value} (h : ∀ j, j < n → (V j).oneCell' = true) : ∀ i, i < 1 * n → (V i).oneCell' = true := fun i hi => h i (by omega)
theorem vcat_lo {V U : Nat → Value} {j k i x : Nat} (hi : i < j) (hx : x < k) : vcat V (j * k) U (i * k + x) = V (i * k + x) := by
  unfold vcat
  have : (i + 1) * k ≤ j * k := Nat.mul_le_mul_right k hi
  rw [Nat.add_mul] at this
  rw [if_pos (by omega)]
theorem vcat_hi {V U : Nat → Value} {j k x : Nat} : vcat V (j * k) U (j * k + x) = U x := by
  unfold vcat
  rw [if_neg (by omega)]
  congr 1
  omega
theorem exec_eqli {o : Oper} {ev : Operand → Value} {W : World} {x y : Operand} {a b : Int} {q : Bool} (ho : o.op = .binOp .eql 3 x y 3) (hx : ev x = .int .i64 a) (hy : ev y = .int .i64 b) (hq : decide (a = b) = q) : (execOp ev o).run Tryd.prog W = .ok (.value (.bool q)) W := by
  subst hq
  unfold execOp
  by_cases h : a = b
  · subst h
    simp [ho, hx, hy, go_sem, Tryd.underlying3]
  · simp [ho, hx, hy, go_sem, Tryd.underlying3, h]
theorem exec_neqE {o : Oper} {ev : Operand → Value} {W : World} {x y : Operand} {a b : Int} {q : Bool} (ho : o.op = .binOp .neq 27 x y 27) (hx : ev x = .int .i64 a) (hy : ev y = .int .i64 b) (hq : decide (a = b) = !q) : (execOp ev o).run Tryd.prog W = .ok (.value (.bool q)) W := by
  obtain rfl : q = !decide (a = b) := by rw [hq]; simp
  unfold execOp
  by_cases h : a = b
  · subst h
    simp [ho, hx, hy, go_sem, Tryd.underlying27]
  · simp [ho, hx, hy, go_sem, Tryd.underlying27, h]
theorem exec_gtri {o : Oper} {ev : Operand → Value} {W : World} {x y : Operand} {a b : Int} {q : Bool} (ho : o.op = .binOp .gtr 3 x y 3) (hx : ev x = .int .i64 a) (hy : ev y = .int .i64 b) (hq : decide (b < a) = q) : (execOp ev o).run Tryd.prog W = .ok (.value (.bool q)) W := by
  subst hq
  unfold execOp
  by_cases h : b < a
  · simp [ho, hx, hy, go_sem, Tryd.underlying3, h]
  · simp [ho, hx, hy, go_sem, Tryd.underlying3, h]
set_option maxHeartbeats 2000000 in
theorem drop_any {D w : World} {br bu : Nat} {er : Int} {q p q' : Option Addr} {n c2 l g c : Nat} {xs : List Nat} (T : Hid (Fq D br bu (.slice q n c2) er p g c xs w))
    (S : Hid (∀ W, (Instr.sliceAt 26 (.slice q n c2) (some (.int .i64 (l : Int))) none none).run Tryd.prog W = .ok (.slice q' (n - l) (c2 - l)) W)) :
    Calls Tryd.prog 20 #[.pointer (some ⟨bu, 0, none⟩), .int .i64 (l : Int)] w fun e w' => e = .returned (.tuple #[]) ∧ w' = w.setCell ⟨bu, 0, none⟩ (.slice q' (n - l) (c2 - l)) := by
  have c1 := Lib.hid (cell_of_here T.out.cU 0 (v := .slice q n c2) rfl)
  obtain ⟨n2, hn⟩ : ∃ n2, n2 = n - l := ⟨_, rfl⟩
  obtain ⟨c3, hc⟩ : ∃ c3, c3 = c2 - l := ⟨_, rfl⟩
  rw [← hn, ← hc] at S
  rw [← hn, ← hc]
  clear hn hc
  go_enter Tryd.func20, Tryd.ntmps20
  go_wp2_with (first
    | ((with_reducible refine wpList_at 8 rfl ?_); refine wpList_ld1 26 (.tmp 7) rfl rfl rfl Tryd.underlying26 rfl c1.out ?_)
    | ((with_reducible refine wpList_at 10 rfl ?_); refine wpList_kn rfl (.slice q' n2 c3) (by exact exec_sl rfl (S.out _)) ?_)
    | ((with_reducible refine wpList_atn rfl ?_); refine wpList_setc (T.out.cU) rfl 26 (.tmp 12) (.tmp 10) rfl rfl rfl (by kernel_rfl) rfl rfl rfl ?_))
  go_end0
  exact ⟨rfl, rfl⟩
set_option maxHeartbeats 2000000 in
theorem fit_any {D w : World} {br bu : Nat} {er : Int} {q p : Option Addr} {g2 o c2 g c : Nat} {xs zs : List Nat} (T : Hid (Fq D br bu (.slice q zs.length c2) er p g c xs w)) (R : Hid (Row w q g2 o zs.length c2 (lf zs))) (hl : zs.length ≤ 140737488355328) :
    Calls Tryd.prog 21 #[.pointer (some ⟨bu, 0, none⟩)] w fun e w' => e = .returned (.tuple #[]) ∧ Turns D br bu er p zs w w' ∧ KeepT 51 w w' := by
  have c1 := Lib.hid (cell_of_here T.out.cU 0 (v := .slice q zs.length c2) rfl)
  have C := Lib.hid (clone_any R hl)
  clear hl R
  obtain ⟨n2, hn⟩ : ∃ n2, n2 = zs.length := ⟨_, rfl⟩
  have HN := Lib.hid hn
  rw [← hn] at c1 C
  clear hn
  go_enter Tryd.func21, Tryd.ntmps21
  go_wp2_with (first
    | ((with_reducible refine wpList_at 6 rfl ?_); refine wpList_ld1 26 (.tmp 5) rfl rfl rfl Tryd.underlying26 rfl c1.out ?_)
    | (go_at_call 8; refine C.out.mono ?_; rintro e w2 ⟨p', g', c', rfl, N, hb⟩; have N := Lib.hid N; have HB := Lib.hid hb; clear hb)
    | ((with_reducible refine wpList_atn rfl ?_); refine wpList_setc (Fq.cU (T.out.call HB.out)) rfl 26 (.tmp 9) (.tmp 7) rfl rfl rfl (by kernel_rfl) rfl rfl rfl ?_))
  go_end0
  have K := T.out.call HB.out
  have N2 := N.out
  rw [HN.out] at N2
  have W1 : Fq D br bu (.slice q zs.length c2) er p' g' c' zs w2 := ⟨K.mem, N2.mono (T.out.under0.size), K.nb⟩
  rw [HN.out]
  exact ⟨rfl, ⟨p', g', c', W1.set0, (Fr.below HB.out).set 0 _, fun k hk => .inr (World.ownsRow.lt N2.own k (by rw [ob_own]; exact hk)).1⟩, (KeepT.of_below _ HB.out).trans (KeepT.of_only K.cU (only_set _ _ _))⟩
theorem infoFRD : (Tryd.prog.info? 53).map (fun i => (i.zero, i.size)) = some (some (.agg #[.pointer none]), 1) := by kernel_rfl
theorem built_buf0 : Tryd.prog.built 51 (#[] : Array (Nat × Value)).toList = some #[.slice none 0 0, .int .i64 0] := by kernel_rfl
theorem built_frd1 (b : Nat) : Tryd.prog.built 53 (#[(0, .pointer (some ⟨b, 0, none⟩))] : Array (Nat × Value)).toList = some #[.pointer (some ⟨b, 0, none⟩)] := by kernel_rfl
set_option maxHeartbeats 2000000 in
theorem frnew_any (W : World) : Calls Tryd.prog 7 #[] W fun e w' => ∃ br bu, e = .returned (.pointer (some ⟨br, 0, none⟩)) ∧ Fp W br bu 0 none 0 0 [] w' := by
  have E := Lib.hid (Mem.nil W)
  go_enter Tryd.func7, Tryd.ntmps7
  go_wp2_with (first
    | ((with_reducible refine wpList_at 1 rfl ?_); refine wpList_bld 51 _ rfl rfl (ps := #[]) (by kernel_rfl) built_buf0 ?_)
    | ((with_reducible refine wpList_at 2 rfl ?_); refine mem_box (c := #[.slice none 0 0, .int .i64 0]) E 51 rfl _ rfl rfl rfl ?_; clear E; intro b1 w1 E)
    | ((with_reducible refine wpList_at 3 rfl ?_); refine wpList_bld 53 _ rfl rfl (ps := #[(0, .pointer (some ⟨b1, 0, none⟩))]) (by kernel_rfl) (built_frd1 _) ?_)
    | ((with_reducible refine wpList_at 4 rfl ?_); refine mem_box (c := #[.pointer (some ⟨b1, 0, none⟩)]) E 53 rfl _ rfl rfl rfl ?_; clear E; intro b2 w2 E))
  go_ret
  exact ⟨b2, b1, rfl, E.out, own_nothing _ _ _ (lf_lt isB_nil) E.out.below.size, fun q hq => by
    rcases List.mem_cons.1 hq with rfl | hq
    · show 53 ≠ 5; decide
    · obtain rfl := List.mem_singleton.1 hq; show 51 ≠ 5; decide⟩
/-- What bytes give: the frames that are whole, what waits behind them, and a fault, if there is one. -/
inductive Feeds : List Nat → List (ByteArray × List Nat) → List Nat → Int → Prop
  | wait {zs : List Nat} (h : pFirst zs = .wait) : Feeds zs [] zs 0
  | bad {zs : List Nat} {e : Int} (h : pFirst zs = .bad e) : Feeds zs [] [] e
  | frame {zs pay r : List Nat} {k : Nat} {s : ByteArray} {fs : List (ByteArray × List Nat)} {e : Int} (h : pFirst zs = .frame k s pay) (t : Feeds (zs.drop (24 + pay.length)) fs r e) : Feeds zs ((s, pay) :: fs) r e
theorem Feeds.one {zs : List Nat} {fs fs' : List (ByteArray × List Nat)} {r r' : List Nat} {e e' : Int} (h : Feeds zs fs r e) (h' : Feeds zs fs' r' e') : fs = fs' ∧ r = r' ∧ e = e' := by
  induction h generalizing fs' r' e' with
  | wait h =>
    cases h' with
    | wait h2 => exact ⟨rfl, rfl, rfl⟩
    | bad h2 => rw [h] at h2; cases h2
    | frame h2 t2 => rw [h] at h2; cases h2
  | bad h =>
    cases h' with
    | wait h2 => rw [h] at h2; cases h2
    | bad h2 => rw [h] at h2; cases h2; exact ⟨rfl, rfl, rfl⟩
    | frame h2 t2 => rw [h] at h2; cases h2
  | frame h t ih =>
    cases h' with
    | wait h2 => rw [h] at h2; cases h2
    | bad h2 => rw [h] at h2; cases h2
    | frame h2 t2 =>
      rw [h] at h2
      cases h2
      obtain ⟨rfl, rfl, rfl⟩ := ih t2
      exact ⟨rfl, rfl, rfl⟩
/-- Frames in a row of the call's own. -/
def FrsAt (B : Nat) (w : World) (p : Option Addr) (g c : Nat) (V : Nat → Value) (fs : List (ByteArray × List Nat)) : Prop :=
  VOwn 42 2 B w p g fs.length c V ∧ ∀ i (h : i < fs.length), V (i * 2 + 0) = .string fs[i].1 ∧ TextOwn B w (V (i * 2 + 1)) fs[i].2
section
variable {B B' : Nat} {w w' : World} {p : Option Addr} {g c : Nat} {V : Nat → Value} {fs : List (ByteArray × List Nat)}
theorem FrsAt.below (h : FrsAt B w p g c V fs) (hb : Below w.heap.size w w') : FrsAt B w' p g c V fs := ⟨h.1.below hb, fun i hi => ⟨(h.2 i hi).1, (h.2 i hi).2.below hb⟩⟩
theorem FrsAt.keep {T : TypeId} (h : FrsAt B w p g c V fs) (k : KeepT T w w') (h1 : (5 : TypeId) ≠ T) (h2 : 42 ≠ T) : FrsAt B w' p g c V fs := ⟨h.1.keep k h2, fun i hi => ⟨(h.2 i hi).1, (h.2 i hi).2.keep k h1⟩⟩
theorem FrsAt.mono (h : FrsAt B w p g c V fs) (hB : B' ≤ B) : FrsAt B' w p g c V fs := ⟨h.1.mono hB, fun i hi => ⟨(h.2 i hi).1, (h.2 i hi).2.mono hB⟩⟩
theorem FrsAt.none (h : B ≤ w.heap.size) (V : Nat → Value) : FrsAt B w none 0 0 V [] := ⟨vown_nothing _ _ _ _ _ h, fun i hi => absurd hi (by simp)⟩
/-- One more. -/
theorem FrsAt.snoc (h : FrsAt B w p g c V fs) {p' : Option Addr} {g' c' : Nat} {U : Nat → Value} {s : ByteArray} {t : List Nat} (k : KeepT 42 w w') (N : VOwn 42 2 B w' p' g' (fs.length + 1) c' (vcat V (fs.length * 2) U)) (h0 : U 0 = .string s) (h1 : TextOwn B w (U 1) t) : FrsAt B w' p' g' c' (vcat V (fs.length * 2) U) (fs ++ [(s, t)]) := by
  refine ⟨by rw [List.length_append, List.length_singleton]; exact N, fun i hi => ?_⟩
  rw [List.length_append, List.length_singleton] at hi
  by_cases e : i = fs.length
  · subst e
    have e2 : (fs ++ [(s, t)])[fs.length]'(by simp) = (s, t) := by simp
    rw [e2, vcat_hi, vcat_hi]
    exact ⟨h0, h1.keep k (by decide)⟩
  · have hi2 : i < fs.length := by omega
    have e2 : (fs ++ [(s, t)])[i]'(by rw [List.length_append, List.length_singleton]; omega) = fs[i] := List.getElem_append_left hi2
    rw [e2, vcat_lo hi2 (by omega), vcat_lo hi2 (by omega)]
    exact ⟨(h.2 i hi2).1, (h.2 i hi2).2.keep k (by decide)⟩
end
end Go.Proofs.YtkjcljobcidhfaaDoor
