/- Lists of texts in memory of the call's own: copied, compared, and the unlike ones. -/
import Derived.Test.YtoopcmcmjaikhaaDoorFvs0
import Derived.Test.YtoopcmcmjaikhaaDoorXm
set_option linter.unusedSimpArgs false
set_option linter.unusedVariables false
set_option maxRecDepth 100000
namespace Go.Proofs.YtoopcmcmjaikhaaDoor
open Go.ChangeShapes Go.WideShapes Go.WideMaps Go.RowKit Go.Lib Go.Maps

/-- Blocks of another type than T are as they were. -/
structure KeepT (T : TypeId) (w w' : World) : Prop where
  keep : ∀ (q : Nat) (cc : Array Value) (T' : TypeId), T' ≠ T → w.heap[q]? = some (.cells cc T' (0, 0)) → w'.heap[q]? = some (.cells cc T' (0, 0))
  size : w.heap.size ≤ w'.heap.size
theorem KeepT.of_below {w w' : World} (T : TypeId) (h : Below w.heap.size w w') : KeepT T w w' := ⟨fun q cc T' _ hq => by rw [h.block _ (heap_lt hq)]; exact hq, h.size⟩
theorem KeepT.of_grown {w w' : World} {T k B : Nat} {p : Option Addr} {g n c : Nat} {V : Nat → Value} (N : VOwn T k B w p g n c V) (hg : w.grownBy w' ((Value.slice p n c).ownBlock)) : KeepT T w w' := ⟨fun q cc T' hT hq => N.other hg hT hq, hg.size⟩
theorem KeepT.of_only {w w' : World} {b T : Nat} {cs : Array Value} (hb : w.heap[b]? = some (.cells cs T (0, 0))) (h : Only b w w') : KeepT T w w' := ⟨fun q cc T' hT hq => h.heap (fun e => by
  rw [e, hb] at hq
  injection hq with hq
  injection hq with _ hq _
  exact hT hq.symm) hq, h.size⟩
theorem ownsRow_keep {w w' : World} {base : Nat} {e T : TypeId} {size : Nat} {v : Value} {n : Nat} {xs : List Value} (h : w.ownsRow base e size v n xs) (k : KeepT T w w') (hT : e ≠ T) : w'.ownsRow base e size v n xs := by
  refine ⟨h.1, ?_⟩
  rcases h.2 with hn | ⟨g, cap, cur, rfl, hb, hgg, rest⟩
  · exact .inl hn
  · exact .inr ⟨g, cap, cur, rfl, hb, k.keep g cur e hT hgg, rest⟩
def TextOwn (B : Nat) (w : World) (v : Value) (t : List Nat) : Prop := ∃ p g c, v = .slice p t.length c ∧ t.length ≤ 140737488351232 ∧ Own B w p g t.length c (lf t)
def TextsOwn (B : Nat) (w : World) (v : Value) (ts : List (List Nat)) : Prop :=
  ∃ p g c V, v = .slice p ts.length c ∧ ts.length * 24 ≤ 140737488351232 ∧ VOwn 32 1 B w p g ts.length c V ∧ ∀ i (h : i < ts.length), TextOwn B w (V i) ts[i]
section
variable {w w' : World} {B B' : Nat} {v : Value} {V : Nat → Value}
theorem TextOwn.at {t : List Nat} (h : TextOwn B w v t) : TextAt w v t := by
  obtain ⟨p, g, c, rfl, hl, N⟩ := h
  exact ⟨p, g, 0, c, rfl, hl, N.row⟩
theorem TextsOwn.at {ts : List (List Nat)} (h : TextsOwn B w v ts) : TextsAt w v ts := by
  obtain ⟨p, g, c, V, rfl, hl, N, hi⟩ := h
  exact ⟨p, g, 0, c, V, rfl, hl, N.row, fun i h => (hi i h).at⟩
theorem TextOwn.keep {T : TypeId} {t : List Nat} (h : TextOwn B w v t) (k : KeepT T w w') (hT : (5 : TypeId) ≠ T) : TextOwn B w' v t := by
  obtain ⟨p, g, c, rfl, hl, N⟩ := h
  exact ⟨p, g, c, rfl, hl, ownsRow_keep N.own k hT, N.spot, N.byte, Nat.le_trans N.low k.size⟩
theorem VOwn.keep {T T' k' : Nat} {p : Option Addr} {g n c : Nat} (h : VOwn T' k' B w p g n c V) (k : KeepT T w w') (hT : T' ≠ T) : VOwn T' k' B w' p g n c V := ⟨ownsRow_keep h.own k hT, h.spot, h.one, Nat.le_trans h.low k.size⟩
theorem TextsOwn.keep {T : TypeId} {ts : List (List Nat)} (h : TextsOwn B w v ts) (k : KeepT T w w') (hT : (5 : TypeId) ≠ T) (hT2 : 32 ≠ T) : TextsOwn B w' v ts := by
  obtain ⟨p, g, c, V, rfl, hl, N, hi⟩ := h
  exact ⟨p, g, c, V, rfl, hl, N.keep k hT2, fun i h => (hi i h).keep k hT⟩
theorem TextOwn.mono {t : List Nat} (h : TextOwn B w v t) (hB : B' ≤ B) : TextOwn B' w v t := by
  obtain ⟨p, g, c, rfl, hl, N⟩ := h
  exact ⟨p, g, c, rfl, hl, N.mono hB⟩
theorem TextsOwn.mono {ts : List (List Nat)} (h : TextsOwn B w v ts) (hB : B' ≤ B) : TextsOwn B' w v ts := by
  obtain ⟨p, g, c, V, rfl, hl, N, hi⟩ := h
  exact ⟨p, g, c, V, rfl, hl, N.mono hB, fun i h => (hi i h).mono hB⟩
theorem TextOwn.below {t : List Nat} (h : TextOwn B w v t) (hb : Below w.heap.size w w') : TextOwn B w' v t := by
  obtain ⟨p, g, c, rfl, hl, N⟩ := h
  exact ⟨p, g, c, rfl, hl, N.below hb⟩
theorem TextsOwn.below {ts : List (List Nat)} (h : TextsOwn B w v ts) (hb : Below w.heap.size w w') : TextsOwn B w' v ts := by
  obtain ⟨p, g, c, V, rfl, hl, N, hi⟩ := h
  exact ⟨p, g, c, V, rfl, hl, N.below hb, fun i h => (hi i h).below hb⟩
end
theorem same_text {w : World} {v v' : Value} {t : List Nat} (A : Hid (TextAt w v t)) (A' : Hid (TextAt w v' t)) : Calls Tryd.prog 15 #[v, v'] w fun e w' => e = .returned (.bool true) ∧ Below w.heap.size w w' := by
  obtain ⟨p, g, o, c, rfl, hc, R⟩ := A.out
  obtain ⟨p', g', o', c', rfl, hc', R'⟩ := A'.out
  refine (equal_any (Lib.hid R) (Lib.hid R') rfl (Lib.hid fun _ _ => rfl)).mono ?_
  rintro e w' ⟨rfl, rfl⟩
  exact ⟨rfl, Below.refl _ _⟩

set_option maxHeartbeats 4000000 in
theorem eftext_any {w : World} {v v' : Value} {ts : List (List Nat)} (A : Hid (TextsAt w v ts)) (A' : Hid (TextsAt w v' ts)) :
    Calls Tryd.prog 45 #[v, v', .func (.func 15) #[] #[]] w fun e w' => e = .returned (.bool true) ∧ Below w.heap.size w w' := by
  obtain ⟨p, g, o, c, V, hv, hc, R0, hi⟩ := A.out
  obtain ⟨p', g', o', c', V', hv', hc', R0', hi'⟩ := A'.out
  subst hv hv'
  have RR := Lib.hid R0
  have SS := Lib.hid R0'
  have TT := Lib.hid hi
  have TU := Lib.hid hi'
  clear R0 hi A R0' hi' A' hc'
  have E := Lib.hid (Mem.nil w)
  obtain ⟨n, hn⟩ : ∃ n, n = ts.length := ⟨_, rfl⟩
  have HN := Lib.hid hn
  rw [← hn] at RR SS hc ⊢
  have hn3 : n ≤ 140737488355328 := by omega
  clear hn hc
  go_enter Tryd.func45, Tryd.ntmps45
  go_wp2
  go_loopg [17] n (fun k i wr => ∃ j : Nat, j + k = n ∧ i = .int .i64 (j : Int) ∧ Hid (Mem w [] wr))
  case atStart => exact ⟨0, by omega, rfl, E⟩
  case round =>
    clear E
    obtain ⟨j, hj, rfl, E⟩ := hrel
    obtain ⟨kk, rfl⟩ : ∃ kk : Nat, kk = gk := ⟨_, rfl⟩
    by_cases hlt : j < n
    · obtain rfl := RR.out.head (by omega)
      obtain rfl := SS.out.head (by omega)
      have ht : j < ts.length := by rw [← HN.out]; exact hlt
      have EC := Lib.hid (TT.out j ht)
      have ED := Lib.hid (TU.out j ht)
      have CC := Lib.hid ((RR.out.below E.out.below).cell j (by omega))
      have CD := Lib.hid ((SS.out.below E.out.below).cell j (by omega))
      go_wp2_with (first
        | (refine wpList_ix (k := 1) (j := j) Tryd.underlying30 (by kernel_rfl) (.tmp 15) (.tmp 17) rfl rfl rfl rfl hlt rfl ?_; rw [Nat.mul_one])
        | (refine wpList_ix (k := 1) (j := j) Tryd.underlying30 (by kernel_rfl) (.tmp 22) (.tmp 23) rfl rfl rfl rfl hlt rfl ?_; rw [Nat.mul_one])
        | (refine wpList_ld1 32 (.tmp 20) rfl rfl rfl Tryd.underlying32 rfl CC.out ?_)
        | (refine wpList_ld1 32 (.tmp 24) rfl rfl rfl Tryd.underlying32 rfl CD.out ?_)
        | (go_at_call 15; refine (same_text (Lib.hid (EC.out.below E.out.below)) (Lib.hid (ED.out.below E.out.below))).mono ?_; rintro e w7 ⟨rfl, hb⟩; replace E := Lib.hid (E.out.call hb); clear hb))
      go_roundg (n - (j + 1))
      case measure => omega
      case rel => exact ⟨j + 1, by omega, by go_num, E⟩
    · obtain rfl : j = n := by omega
      go_wp2
      go_ret
      exact ⟨rfl, E.out.below⟩

set_option maxHeartbeats 2000000 in
theorem same_texts {w : World} {v v' : Value} {ts : List (List Nat)} (A : Hid (TextsAt w v ts)) (A' : Hid (TextsAt w v' ts)) : Calls Tryd.prog 16 #[v, v'] w fun e w' => e = .returned (.bool true) ∧ Below w.heap.size w w' := by
  have I := Lib.hid (eftext_any A A')
  clear A A'
  go_enter Tryd.func16, Tryd.ntmps16
  go_wp2_with (go_at_call 45; refine I.out.mono ?_; rintro e w1 ⟨rfl, hb⟩; have B := Lib.hid hb; clear hb)
  go_ret
  exact ⟨rfl, B.out⟩
theorem owns_snoc {B j : Nat} {w : World} {U : Nat → Value} {ts : List (List Nat)} {v : Value} (h : ∀ i (h : i < ts.length), i < j → TextOwn B w (U i) ts[i]) (hv : ∀ h : j < ts.length, TextOwn B w v ts[j]) : ∀ i (h : i < ts.length), i < j + 1 → TextOwn B w (vcat U (j * 1) (fun _ => v) i) ts[i] := fun i hi q => by
  unfold vcat
  rw [Nat.mul_one]
  by_cases hq : i < j
  · rw [if_pos hq]; exact h i hi hq
  · rw [if_neg hq]
    obtain rfl : i = j := by omega
    exact hv hi
theorem exec_eqS {o : Oper} {ev : Operand → Value} {W : World} {x y : Operand} {a b : ByteArray} {q : Bool} (ho : o.op = .binOp .eql 9 x y 9) (hx : ev x = .string a) (hy : ev y = .string b) (hq : decide (a = b) = q) : (execOp ev o).run Tryd.prog W = .ok (.value (.bool q)) W := by
  subst hq
  unfold execOp
  by_cases h : a = b
  · subst h
    simp [ho, hx, hy, go_sem, Tryd.underlying9]
  · have h2 : ¬ a.toList = b.toList := fun e => h (by
      rw [ByteArray.toList_eq, ByteArray.toList_eq] at e
      exact bytes_inj e)
    simp [ho, hx, hy, go_sem, Tryd.underlying9, h, h2]
theorem strL_inj {a b : List Nat} (ha : IsB a) (hb : IsB b) : strL a = strL b ↔ a = b := by
  refine ⟨fun h => ?_, fun h => by rw [h]⟩
  unfold strL at h
  injection h with h
  exact keyB_inj ha hb (List.toArray_inj h)
set_option maxHeartbeats 16000000 in
theorem texts_any {w : World} {v : Value} {ts : List (List Nat)} (A : Hid (TextsAt w v ts)) : Calls Tryd.prog 12 #[v] w fun e w' => (∃ v', e = .returned v' ∧ TextsOwn w.heap.size w' v' ts) ∧ Below w.heap.size w w' := by
  obtain ⟨pa, ga, oa, ca, V, hv, hca, RA, hta⟩ := A.out
  subst hv
  obtain ⟨n, hn⟩ : ∃ n, n = ts.length := ⟨_, rfl⟩
  rw [← hn] at RA hca ⊢
  have HN := Lib.hid hn
  have RR := Lib.hid RA
  have TT := Lib.hid hta
  have NB := Lib.hid (show n * 24 ≤ 140737488351232 from hca)
  have HB := Lib.hid (Below.refl w.heap.size w)
  clear RA hta hca hn A
  go_enter Tryd.func12, Tryd.ntmps12
  go_upto_region 3 with fail
  go_loopg [3, 8] n (fun k s3 s8 wr => ∃ (j : Nat) (p : Option Addr) (g c : Nat) (U : Nat → Value), j + k = n ∧ s3 = .slice p j c ∧ s8 = .int .i64 (j : Int) ∧ Hid (VOwn 32 1 w.heap.size wr p g j c U) ∧ Hid (∀ i (h : i < ts.length), i < j → TextOwn w.heap.size wr (U i) ts[i]) ∧ Hid (Below w.heap.size w wr))
  case atStart => exact ⟨0, none, 0, 0, fun _ => undef, by omega, rfl, rfl, Lib.hid (vown_nothing _ _ _ _ _ (Nat.le_refl _)), Lib.hid (fun i h q => absurd q (by omega)), HB⟩
  case round =>
    clear HB
    obtain ⟨j, p, g, c, U, hj, rfl, rfl, VN, UT, HB⟩ := hrel
    obtain ⟨kk, hkk⟩ : ∃ kk : Nat, kk = gk := ⟨_, rfl⟩
    rw [← hkk] at hj
    by_cases hlt : j < n
    · obtain rfl := RR.out.head (by omega)
      have ht : j < ts.length := by rw [← HN.out]; exact hlt
      obtain ⟨pt, gt, ot, ct, hvj, htl, RT⟩ := TT.out j ht
      obtain ⟨t, hT⟩ : ∃ t, t = ts[j] := ⟨_, rfl⟩
      rw [← hT] at hvj htl RT
      obtain ⟨tn, htn⟩ : ∃ tn, tn = t.length := ⟨_, rfl⟩
      rw [← htn] at hvj htl RT
      have CC := Lib.hid (show wr.cell? ⟨ga, oa + j * 1, none⟩ = some (.slice pt tn ct) from by
        rw [Nat.mul_one, ← hvj]
        exact (RR.out.below HB.out).cell j (by omega))
      have CL := Lib.hid (show ∀ W, Below w.heap.size w W → Calls Tryd.prog 32 #[.slice pt tn ct] W fun e w' => (∃ p6 c6, e = .returned (.slice p6 tn c6) ∧ TextOwn w.heap.size w' (.slice p6 tn c6) t) ∧ Below W.heap.size W w' from fun W hb => by
        refine (clone_any (Lib.hid (RT.below hb)) (by omega)).mono ?_
        rintro e w' ⟨p6, g6, c6, rfl, hO, hb2⟩
        refine ⟨⟨p6, c6, rfl, p6, g6, c6, by rw [htn], by omega, ?_⟩, hb2⟩
        rw [← htn]
        exact hO.mono hb.size)
      have LT := Lib.hid (show decide ((j : Int) < (n : Int)) = true from decide_eq_true (by omega))
      have HT := Lib.hid (show t = ts[j] from hT)
      have HJ := Lib.hid (show j < n ∧ j + kk = n ∧ kk = gk from ⟨hlt, hj, hkk⟩)
      clear hvj htl RT hT htn hlt hj hkk
      go_wp2_with (first | ((with_reducible refine wpList_at 9 rfl ?_); refine wpList_kn rfl (.bool true) (by exact exec_lssi rfl rfl rfl LT.out) ?_) | ((with_reducible refine wpList_at 10 rfl ?_); refine wpList_ix (k := 1) (j := j) Tryd.underlying30 (by kernel_rfl) (.tmp 6) (.tmp 8) rfl rfl rfl rfl HJ.out.1 rfl ?_) | ((with_reducible refine wpList_at 11 rfl ?_); refine wpList_ld1 32 (.tmp 10) rfl rfl rfl Tryd.underlying32 rfl CC.out ?_) | (go_at_call 32; with_reducible refine (CL.out _ HB.out).mono ?_; rintro e w6 ⟨⟨p6, c6, rfl, hO⟩, hb⟩; have TO := Lib.hid hO; replace VN := Lib.hid (VN.out.below hb); replace UT := Lib.hid (show ∀ i (h : i < ts.length), i < j → TextOwn w.heap.size w6 (U i) ts[i] from fun i h q => (UT.out i h q).below hb); replace HB := Lib.hid (HB.out.trans (hb.mono HB.out.size)); clear hO hb) | ((with_reducible refine wpList_at 15 rfl ?_); refine wpList_vbs 30 32 1 1 rfl _ rfl (fun _ => .slice p6 tn c6) (fun i _ => rfl) (by unfold maxLen; omega) (ps := #[(0, .slice p6 tn c6)]) (by kernel_rfl) (fun W => run_bs1v Tryd.underlying30 infoText3 _ rfl W) rfl ?_; intro p8 g8 w8 N8 hb8; have VN8 := Lib.hid (VN.out.below hb8.out); have TO8 := Lib.hid (TO.out.below hb8.out); have UT8 := Lib.hid (show ∀ i (h : i < ts.length), i < j → TextOwn w.heap.size w8 (U i) ts[i] from fun i h q => (UT.out i h q).below hb8.out); have HB8 := Lib.hid (HB.out.trans (hb8.out.mono HB.out.size)); clear VN TO UT HB) | ((with_reducible refine wpList_at 16 rfl ?_); refine wpList_vapp 30 32 1 24 Tryd.underlying30 infoText3 rfl (by omega) rfl (.tmp 12) (.tmp 15) rfl rfl VN8 rfl (Lib.hid N8.out.row) (by have := HJ.out; have := NB.out; unfold maxLen; omega) (by have := HJ.out; have := NB.out; omega) ?_; intro p9 g9 c9 w9 N9 hg9; have KT := KeepT.of_grown VN8.out hg9.out; have UT9 := Lib.hid (owns_snoc (B := w.heap.size) (w := w9) (v := .slice p6 tn c6) (fun i h hq => (UT8.out i h hq).keep KT (by decide)) (fun h => by rw [← HT.out]; exact TO8.out.keep KT (by decide))); have HB9 := Lib.hid (HB8.out.trans (VN8.out.under hg9.out (Nat.le_refl _) VN8.out.low)); clear KT) | ((with_reducible refine wpList_at 17 rfl ?_); refine wpList_kn rfl (.int .i64 ((j + 1 : Nat) : Int)) (by exact exec_add rfl rfl rfl (by have := HJ.out; have := NB.out; rw [IntKind.wrap_i64]; omega)) ?_))
      go_roundg (n - (j + 1))
      case measure => have := HJ.out; omega
      case rel => exact ⟨j + 1, p9, g9, c9, vcat U (j * 1) (fun _ => .slice p6 tn c6), by have := HJ.out; omega, rfl, rfl, N9, UT9, HB9⟩
    · obtain rfl : j = n := by omega
      have LT := Lib.hid (show decide ((j : Int) < (j : Int)) = false from decide_eq_false (by omega))
      clear hlt hj hkk
      go_wp2_with ((with_reducible refine wpList_at 9 rfl ?_); refine wpList_kn rfl (.bool false) (by exact exec_lssi rfl rfl rfl LT.out) ?_)
      go_ret
      exact ⟨⟨_, rfl, p, g, c, U, by rw [← HN.out]; rfl, by rw [← HN.out]; exact NB.out, by rw [← HN.out]; exact VN.out, fun i hi => UT.out i hi (by rw [HN.out]; exact hi)⟩, HB.out⟩
/-- A list of texts so far, all in memory of the call's own. -/
def AccOwn (B : Nat) (w : World) (p : Option Addr) (g c : Nat) (U : Nat → Value) (acc : List (List Nat)) : Prop := VOwn 32 1 B w p g acc.length c U ∧ ∀ i (h : i < acc.length), TextOwn B w (U i) acc[i]
theorem AccOwn.below {B : Nat} {w w' : World} {p : Option Addr} {g c : Nat} {U : Nat → Value} {acc : List (List Nat)} (h : AccOwn B w p g c U acc) (hb : Below w.heap.size w w') : AccOwn B w' p g c U acc := ⟨h.1.below hb, fun i hi => (h.2 i hi).below hb⟩
theorem once_isB {ts : List (List Nat)} (h : ∀ x, x ∈ ts → IsB x) (j : Nat) : ∀ x, x ∈ onceJ ts j → IsB x := by
  intro x hx
  unfold onceJ at hx
  rw [mem_fold] at hx
  rcases hx with q | q
  · cases q
  · exact h x (List.mem_of_mem_take q.1)
theorem wb_len {zs : List Nat} {t : List Nat} {m : Nat} (h : zs = [] ++ tl (lf t) m) : zs.length = m := by rw [h, List.nil_append, tl_length]
theorem wb_text {w0 w : World} {B : Nat} {p : Option Addr} {g c tn : Nat} {zs t : List Nat} (K : Wb w0 [] p g c zs w) (h : zs = [] ++ tl (lf t) tn) (ht : tn = t.length) (hl : tn ≤ 140737488351232) (hB : B ≤ w0.heap.size) : TextOwn B w (.slice p tn c) t := by
  have e : zs = t := by rw [h, List.nil_append, ht, tl_lf]
  subst e
  exact ⟨p, g, c, by rw [ht], by rw [← ht]; exact hl, K.own.mono hB⟩
theorem acc_snoc {B : Nat} {w : World} {p : Option Addr} {g c : Nat} {U : Nat → Value} {acc : List (List Nat)} {v : Value} {t : List Nat} (N : VOwn 32 1 B w p g (acc.length + 1) c (vcat U (acc.length * 1) (fun _ => v))) (h : ∀ i (h : i < acc.length), TextOwn B w (U i) acc[i]) (hv : TextOwn B w v t) : AccOwn B w p g c (vcat U (acc.length * 1) (fun _ => v)) (acc ++ [t]) := by
  refine ⟨by rw [List.length_append]; exact N, fun i hi => ?_⟩
  unfold vcat
  rw [Nat.mul_one]
  by_cases q : i < acc.length
  · rw [if_pos q, List.getElem_append_left q]
    exact h i q
  · rw [if_neg q, List.getElem_append_right (by omega)]
    have e : i - acc.length = 0 := by rw [List.length_append, List.length_singleton] at hi; omega
    simpa [e] using hv
set_option maxHeartbeats 16000000 in
theorem unlike_any {w : World} {v : Value} {ts : List (List Nat)} (A : Hid (TextsAt w v ts)) : Calls Tryd.prog 40 #[v] w fun e w' => (∃ v', e = .returned v' ∧ TextsOwn w.heap.size w' v' (onceL ts)) ∧ Below w.heap.size w w' := by
  obtain ⟨pa, ga, oa, ca, V, hv, hca, RA, hta⟩ := A.out
  subst hv
  obtain ⟨n, hn⟩ : ∃ n, n = ts.length := ⟨_, rfl⟩
  rw [← hn] at RA hca ⊢
  have HN := Lib.hid hn
  have RR := Lib.hid RA
  have TT := Lib.hid hta
  have NB := Lib.hid (show n * 24 ≤ 140737488351232 from hca)
  have HB := Lib.hid (Below.refl w.heap.size w)
  have AB := Lib.hid (once_isB (ts := ts) fun x hx => by
    obtain ⟨i, hi, rfl⟩ := List.mem_iff_getElem.1 hx
    exact (hta i hi).isB)
  clear RA hta hca hn A
  go_enter Tryd.func40, Tryd.ntmps40
  go_upto_region 3 with fail
  go_loopg [3, 11] n (fun k s3 s11 wr => ∃ (j : Nat) (acc : List (List Nat)) (p : Option Addr) (g c : Nat) (U : Nat → Value), j + k = n ∧ s3 = .slice p acc.length c ∧ s11 = .int .i64 (j : Int) ∧ Hid (acc = onceJ ts j) ∧ Hid (AccOwn w.heap.size wr p g c U acc) ∧ Hid (Below w.heap.size w wr))
  case atStart => exact ⟨0, [], none, 0, 0, fun _ => undef, by omega, rfl, rfl, Lib.hid (by unfold onceJ; simp), Lib.hid ⟨vown_nothing _ _ _ _ _ (Nat.le_refl _), fun i h => absurd h (by simp)⟩, HB⟩
  case round =>
    clear HB
    obtain ⟨j, acc, p, g, c, U, hj, rfl, rfl, HA, VN, HB⟩ := hrel
    obtain ⟨kk, hkk⟩ : ∃ kk : Nat, kk = gk := ⟨_, rfl⟩
    rw [← hkk] at hj
    by_cases hlt : j < n
    · obtain rfl := RR.out.head (by omega)
      have ht : j < ts.length := by rw [← HN.out]; exact hlt
      obtain ⟨pt, gt, ot, ct, hvj, htl, RT⟩ := TT.out j ht
      obtain ⟨t, hT⟩ : ∃ t, t = ts[j] := ⟨_, rfl⟩
      have ON := Lib.hid (onceJ_succ ts ht)
      rw [← hT] at hvj htl RT ON
      have TX := Lib.hid (show TextAt w (.slice pt t.length ct) t from ⟨pt, gt, ot, ct, rfl, htl, RT⟩)
      obtain ⟨tn, htn⟩ : ∃ tn, tn = t.length := ⟨_, rfl⟩
      rw [← htn] at hvj htl RT
      have CC := Lib.hid (show wr.cell? ⟨ga, oa + j * 1, none⟩ = some (.slice pt tn ct) from by
        rw [Nat.mul_one, ← hvj]
        exact (RR.out.below HB.out).cell j (by omega))
      have RT2 := Lib.hid RT
      have HL := Lib.hid htl
      have STR := Lib.hid (show ∀ W, Below w.heap.size w W → (convert 32 9 (.slice pt tn ct)).run Tryd.prog W = .ok (.string (strL t)) W from fun W hb => by rw [htn]; exact text_strL (TX.out.below hb))
      have LT := Lib.hid (show decide ((j : Int) < (n : Int)) = true from decide_eq_true (by omega))
      have TN := Lib.hid htn
      have TB := Lib.hid TX.out.isB
      have AL := Lib.hid (show acc.length ≤ j by rw [HA.out]; exact onceJ_le ts j)
      have ABJ := Lib.hid (show ∀ x, x ∈ acc → IsB x by rw [HA.out]; exact AB.out j)
      have HJ := Lib.hid (show j < n ∧ j + kk = n ∧ kk = gk from ⟨hlt, hj, hkk⟩)
      obtain ⟨b0, hb0⟩ : ∃ b0, b0 = decide ((tn : Int) = 0) := ⟨_, rfl⟩
      have B0 := Lib.hid hb0.symm
      have B02 := Lib.hid (show b0 = decide (tn = 0) by rw [hb0]; apply decide_eq_decide.2; omega)
      obtain ⟨m, hm⟩ : ∃ m, m = acc.length := ⟨_, rfl⟩
      have HM := Lib.hid hm
      rw [← hm]
      obtain ⟨Wr, hWr⟩ : ∃ D, D = wr := ⟨_, rfl⟩
      subst hWr
      clear hvj htl RT hT htn hlt hj hkk TX hb0 hm
      go_upto_region 7 with (first | ((with_reducible refine wpList_at 12 rfl ?_); refine wpList_kn rfl (.bool true) (by exact exec_lssi rfl rfl rfl LT.out) ?_) | ((with_reducible refine wpList_at 13 rfl ?_); refine wpList_ix (k := 1) (j := j) Tryd.underlying30 (by kernel_rfl) (.tmp 9) (.tmp 11) rfl rfl rfl rfl HJ.out.1 rfl ?_) | ((with_reducible refine wpList_at 14 rfl ?_); refine wpList_ld1 32 (.tmp 13) rfl rfl rfl Tryd.underlying32 rfl CC.out ?_) | ((with_reducible refine wpList_at 17 rfl ?_); refine wpList_kn rfl (.bool b0) (by exact exec_eqli rfl rfl rfl B0.out) ?_))
      go_loopg [6, 20] m (fun k s6 s20 wq => ∃ (i : Nat) (met : Bool), i + k = m ∧ s6 = .bool met ∧ s20 = .int .i64 (i : Int) ∧ Hid (met = decide (tn = 0 ∨ t ∈ acc.take i)) ∧ Hid (wq = Wr))
      case atStart => exact ⟨0, b0, by omega, rfl, rfl, Lib.hid (by rw [B02.out]; apply decide_eq_decide.2; simp), Lib.hid rfl⟩
      case round =>
        obtain ⟨i, met, hi, rfl, rfl, MT, HW⟩ := hrel
        obtain rfl := HW.out
        obtain ⟨k2, hk2⟩ : ∃ k2 : Nat, k2 = gk := ⟨_, rfl⟩
        rw [← hk2] at hi
        by_cases hlt : i < m
        · have LT2 := Lib.hid (show decide ((i : Int) < (m : Int)) = true from decide_eq_true (by omega))
          have him : i < acc.length := by rw [← HM.out]; exact hlt
          obtain rfl : p = some ⟨g, 0, none⟩ := VN.out.1.row.head (by omega)
          obtain ⟨py, gy, cy, hUy, hyl, OY⟩ := VN.out.2 i him
          have TY := Lib.hid (show TextAt wr (.slice py acc[i].length cy) acc[i] from ⟨py, gy, 0, cy, rfl, hyl, OY.row⟩)
          obtain ⟨y, hy⟩ : ∃ y, y = acc[i] := ⟨_, rfl⟩
          rw [← hy] at hUy hyl OY TY
          have YB := Lib.hid (ABJ.out y (by rw [hy]; exact List.getElem_mem him))
          have STY := Lib.hid (text_strL TY.out)
          obtain ⟨yn, hyn⟩ : ∃ yn, yn = y.length := ⟨_, rfl⟩
          rw [← hyn] at hUy STY
          have CY := Lib.hid (show wr.cell? ⟨g, 0 + i * 1, none⟩ = some (.slice py yn cy) from by
            rw [Nat.mul_one, ← hUy]
            exact VN.out.1.row.cell i (by omega))
          have HI := Lib.hid (show i < m ∧ i + k2 = m ∧ k2 = gk from ⟨hlt, hi, hk2⟩)
          have TK := Lib.hid (take_get acc him)
          rw [← hy] at TK
          have BN := Lib.hid (show m ≤ j by rw [HM.out]; exact AL.out)
          cases met
          · obtain ⟨q, hq⟩ : ∃ q, q = decide (t = y) := ⟨_, rfl⟩
            have SQ := Lib.hid (show decide (strL t = strL y) = q by rw [hq]; exact decide_eq_decide.2 (strL_inj TB.out YB.out))
            have M2 := Lib.hid (show q = decide (tn = 0 ∨ t ∈ acc.take (i + 1)) by
              have h := of_decide_eq_false MT.out.symm
              rw [hq, TK.out]
              apply decide_eq_decide.2
              rw [List.mem_append, List.mem_singleton]
              exact ⟨fun e => .inr (.inr e), fun e => e.elim (fun e => absurd (.inl e) h) fun e => e.elim (fun e => absurd (.inr e) h) id⟩)
            clear hUy hyl OY hy hyn hlt him hi hk2 hq
            go_wp2_with (first | ((with_reducible refine wpList_at 21 rfl ?_); refine wpList_kn rfl (.bool true) (by exact exec_lssi rfl rfl rfl LT2.out) ?_) | ((with_reducible refine wpList_at 22 rfl ?_); refine wpList_ix (k := 1) (j := i) Tryd.underlying30 (by kernel_rfl) (.tmp 18) (.tmp 20) rfl rfl rfl rfl HI.out.1 rfl ?_) | ((with_reducible refine wpList_at 23 rfl ?_); refine wpList_ld1 32 (.tmp 22) rfl rfl rfl Tryd.underlying32 rfl CY.out ?_) | ((with_reducible refine wpList_at 27 rfl ?_); refine wpList_known rfl (.string (strL t)) _ (exec_cvs rfl (STR.out _ HB.out)) ?_) | ((with_reducible refine wpList_at 29 rfl ?_); refine wpList_known rfl (.string (strL y)) _ (exec_cvs rfl STY.out) ?_) | ((with_reducible refine wpList_at 30 rfl ?_); refine wpList_kn rfl (.bool q) (by exact exec_eqS rfl rfl rfl SQ.out) ?_) | ((with_reducible refine wpList_at 32 rfl ?_); refine wpList_kn rfl (.int .i64 ((i + 1 : Nat) : Int)) (by exact exec_add rfl rfl rfl (by have := HI.out; have := BN.out; have := HJ.out; have := NB.out; rw [IntKind.wrap_i64]; omega)) ?_))
            go_roundg (m - (i + 1))
            case measure => have := HI.out; omega
            case rel => exact ⟨i + 1, q, by have := HI.out; omega, rfl, rfl, M2, Lib.hid rfl⟩
          · have M2 := Lib.hid (show true = decide (tn = 0 ∨ t ∈ acc.take (i + 1)) by
              have h := of_decide_eq_true MT.out.symm
              symm
              apply decide_eq_true
              rw [TK.out]
              exact h.imp id fun e => List.mem_append_left _ e)
            clear hUy hyl OY hy hyn hlt him hi hk2
            go_wp2_with (first | ((with_reducible refine wpList_at 21 rfl ?_); refine wpList_kn rfl (.bool true) (by exact exec_lssi rfl rfl rfl LT2.out) ?_) | ((with_reducible refine wpList_at 22 rfl ?_); refine wpList_ix (k := 1) (j := i) Tryd.underlying30 (by kernel_rfl) (.tmp 18) (.tmp 20) rfl rfl rfl rfl HI.out.1 rfl ?_) | ((with_reducible refine wpList_at 23 rfl ?_); refine wpList_ld1 32 (.tmp 22) rfl rfl rfl Tryd.underlying32 rfl CY.out ?_) | ((with_reducible refine wpList_at 32 rfl ?_); refine wpList_kn rfl (.int .i64 ((i + 1 : Nat) : Int)) (by exact exec_add rfl rfl rfl (by have := HI.out; have := BN.out; have := HJ.out; have := NB.out; rw [IntKind.wrap_i64]; omega)) ?_))
            go_roundg (m - (i + 1))
            case measure => have := HI.out; omega
            case rel => exact ⟨i + 1, true, by have := HI.out; omega, rfl, rfl, M2, Lib.hid rfl⟩
        · obtain rfl : i = m := by omega
          have LT2 := Lib.hid (show decide ((i : Int) < (i : Int)) = false from decide_eq_false (by omega))
          have MA := Lib.hid (show met = decide (tn = 0 ∨ t ∈ acc) by rw [MT.out, HM.out, List.take_length])
          clear hlt hi hk2 MT
          cases met
          · have O2 := Lib.hid (show acc ++ [t] = onceJ ts (j + 1) by
              have h := of_decide_eq_false MA.out.symm
              rw [ON.out, ← HA.out]
              unfold stepO
              rw [if_neg (by rw [← TN.out]; exact h)])
            go_wp2_with (first | ((with_reducible refine wpList_at 21 rfl ?_); refine wpList_kn rfl (.bool false) (by exact exec_lssi rfl rfl rfl LT2.out) ?_) | ((with_reducible refine wpList_at 36 rfl ?_); refine wpList_bsx rfl _ rfl (by kernel_rfl) ?_; intro p6 g6 c6 w6 K6; have VN6 := Lib.hid (VN.out.below K6.out.mem.below); have HB6 := Lib.hid (HB.out.trans (K6.out.mem.below.mono HB.out.size)); have RT6 := Lib.hid (RT2.out.below HB6.out)) | ((with_reducible refine wpList_at 38 rfl ?_); refine wpList_wb rfl (.tmp 36) (.tmp 37) rfl K6 rfl rfl rfl RT6 (by have := HL.out; omega) ?_; intro p7 g7 c7 w7 zs ZS K7; have KB := Lib.hid K7.out.mem.below; have AC7 := Lib.hid (VN.out.below KB.out); have TO7 := Lib.hid (wb_text K7.out ZS.out TN.out HL.out HB.out.size); have HB7 := Lib.hid (HB.out.trans (KB.out.mono HB.out.size)); rw [wb_len ZS.out]; clear K6 VN6 HB6 RT6 K7 KB ZS VN HB) | ((with_reducible refine wpList_at 39 rfl ?_); refine wpList_vbs 30 32 1 1 rfl _ rfl (fun _ => .slice p7 tn c7) (fun i _ => rfl) (by unfold maxLen; omega) (ps := #[(0, .slice p7 tn c7)]) (by kernel_rfl) (fun W => run_bs1v Tryd.underlying30 infoText3 _ rfl W) rfl ?_; intro p8 g8 w8 N8 hb8; have AC8 := Lib.hid (AC7.out.below hb8.out); have TO8 := Lib.hid (TO7.out.below hb8.out); have HB8 := Lib.hid (HB7.out.trans (hb8.out.mono HB7.out.size)); have VN8 := Lib.hid (show VOwn 32 1 w.heap.size w8 p g i c U by rw [HM.out]; exact AC8.out.1); clear AC7 TO7 HB7) | ((with_reducible refine wpList_at 40 rfl ?_); refine wpList_vapp 30 32 1 24 Tryd.underlying30 infoText3 rfl (by omega) rfl (.tmp 35) (.tmp 39) rfl rfl VN8 rfl (Lib.hid N8.out.row) (by have := AL.out; have := HM.out; have := HJ.out; have := NB.out; unfold maxLen; omega) (by have := AL.out; have := HM.out; have := HJ.out; have := NB.out; omega) ?_; intro p9 g9 c9 w9 N9 hg9; have KT := KeepT.of_grown VN8.out hg9.out; have AC9 := Lib.hid (show AccOwn w.heap.size w9 p9 g9 c9 (vcat U (acc.length * 1) (fun _ => .slice p7 tn c7)) (acc ++ [t]) from acc_snoc (by rw [← HM.out]; exact N9.out) (fun q hq => (AC8.out.2 q hq).keep KT (by decide)) (TO8.out.keep KT (by decide))); have HB9 := Lib.hid (HB8.out.trans (VN8.out.under hg9.out (Nat.le_refl _) VN8.out.low)); clear KT) | ((with_reducible refine wpList_at 41 rfl ?_); refine wpList_kn rfl (.int .i64 ((j + 1 : Nat) : Int)) (by exact exec_add rfl rfl rfl (by have := HJ.out; have := NB.out; rw [IntKind.wrap_i64]; omega)) ?_))
            go_roundg (n - (j + 1))
            case measure => have := HJ.out; omega
            case rel => exact ⟨j + 1, acc ++ [t], p9, g9, c9, vcat U (acc.length * 1) (fun _ => .slice p7 tn c7), by have := HJ.out; omega, by rw [List.length_append, HM.out]; rfl, rfl, O2, AC9, HB9⟩
          · have O2 := Lib.hid (show acc = onceJ ts (j + 1) by
              have h := of_decide_eq_true MA.out.symm
              rw [ON.out, ← HA.out]
              unfold stepO
              rw [if_pos (by rw [← TN.out]; exact h)])
            go_wp2_with (first | ((with_reducible refine wpList_at 21 rfl ?_); refine wpList_kn rfl (.bool false) (by exact exec_lssi rfl rfl rfl LT2.out) ?_) | ((with_reducible refine wpList_at 41 rfl ?_); refine wpList_kn rfl (.int .i64 ((j + 1 : Nat) : Int)) (by exact exec_add rfl rfl rfl (by have := HJ.out; have := NB.out; rw [IntKind.wrap_i64]; omega)) ?_))
            go_roundg (n - (j + 1))
            case measure => have := HJ.out; omega
            case rel => exact ⟨j + 1, acc, p, g, c, U, by have := HJ.out; omega, by rw [HM.out], rfl, O2, VN, HB⟩
    · obtain rfl : j = n := by omega
      have LT := Lib.hid (show decide ((j : Int) < (j : Int)) = false from decide_eq_false (by omega))
      have RES := Lib.hid (show acc = onceL ts by rw [HA.out, HN.out]; exact onceJ_all ts)
      have AL := Lib.hid (show acc.length ≤ j by rw [HA.out]; exact onceJ_le ts j)
      clear hlt hj hkk
      go_wp2_with ((with_reducible refine wpList_at 12 rfl ?_); refine wpList_kn rfl (.bool false) (by exact exec_lssi rfl rfl rfl LT.out) ?_)
      go_ret
      rw [← RES.out]
      exact ⟨⟨_, rfl, p, g, c, U, rfl, by have := AL.out; have := NB.out; omega, VN.out.1, VN.out.2⟩, HB.out⟩
end Go.Proofs.YtoopcmcmjaikhaaDoor
