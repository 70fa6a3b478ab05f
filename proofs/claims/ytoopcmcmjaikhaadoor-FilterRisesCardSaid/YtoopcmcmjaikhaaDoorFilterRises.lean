/- For every hash and every slice of texts: the numbers in the filter that is built of the first sixty texts rise, are as many as the unlike texts that are not empty, and below that number times the spread; the call returns true. The table that the row lists (that of package sip) is laid as the card ties it. No other condition. -/
import Derived.Test.YtoopcmcmjaikhaaDoorFis
import Derived.Test.YtoopcmcmjaikhaaDoorZA
import Derived.Test.YtoopcmcmjaikhaaDoorLt2
import Derived.Test.YtoopcmcmjaikhaaDoorIt
import Derived.Maps.OwnSet
import Derived.Test.YtoopcmcmjaikhaaDoorTie
import Derived.Test.YtoopcmcmjaikhaaDoorCards
import Derived.Lay
import Derived.ShutString
import Derived.ChangeOld
import Derived.Below
import Derived.SevenTiedAt
set_option linter.unusedVariables false
set_option linter.unusedSimpArgs false
namespace Go.Proofs.YtoopcmcmjaikhaaDoor.filterRises
open Go.ChangeShapes Go.WideShapes Go.ChangeAt Go.WideMaps Go.RowKit Go.Lib Go.Sort Go.Maps Go.Proofs.YtoopcmcmjaikhaaDoor

set_option maxRecDepth 100000
theorem own : ownKnob Tryd.prog.godebug = none := by kernel_rfl
theorem exec_lenM {o : Oper} {ev : Operand → Value} {W : World} {x : Operand} {T : TypeId} {b : Nat} {v : Value} (ho : o.op = .call { callee := .builtin .len, args := #[x], argTypes := #[T] }) (hx : ev x = .map (some b)) (h : ∀ ty, (Builtin.len_ #[T] ty #[.map (some b)]).run Tryd.prog W = .ok v W) : (execOp ev o).run Tryd.prog W = .ok (.value v) W := by
  simp [execOp, ho, resolve, invoke, builtin, hx, h, Result.andThen]
theorem exec_mulR {o : Oper} {ev : Operand → Value} {W : World} {x y : Operand} {a b r : Nat} (ho : o.op = .binOp .mul 59 x y 59) (hx : ev x = .int .u64 (a : Int)) (hy : ev y = .int .u64 (b : Int)) (hr : a * b = r) (hl : r < 18446744073709551616) : (execOp ev o).run Tryd.prog W = .ok (.value (.int .u64 (r : Int))) W := by
  subst hr
  exact exec_mulE ho hx hy hl
theorem exec_neN {o : Oper} {ev : Operand → Value} {W : World} {x y : Operand} {a : Int} (ho : o.op = .binOp .neq 3 x y 3) (hx : ev x = .int .i64 a) (hy : ev y = .int .i64 a) : (execOp ev o).run Tryd.prog W = .ok (.value (.bool false)) W := by
  unfold execOp
  simp [ho, hx, hy, go_sem, Tryd.underlying3]
/-- What the map of those that were met knows behind so many texts. -/
def Knows (D : DataW Unit) (l : List (List Nat)) : Prop := (∀ t, IsB t → Maps.has D (kl t) = decide (t ∈ l)) ∧ Maps.size D = l.length
theorem knows_put {D : DataW Unit} {l : List (List Nat)} {t : List Nat} {d : DataW Unit} (h : Knows D l) (hD : Tidy D) (hM : IsMap D) (ht : IsB t) (h0 : t.length ≠ 0) : Knows (D.put (kl t) d) (stepO l t) := by
  refine ⟨fun y hy => ?_, ?_⟩
  · by_cases e : y = t
    · subst e
      rw [has_put_same hM (kl_key y), decide_eq_true (mem_stepO.2 (.inr ⟨rfl, h0⟩))]
    · rw [has_put_other (fun q => e (by unfold kl at q; injection q with q; exact keyB_inj hy ht q)), h.1 y hy]
      apply decide_eq_decide.2
      rw [mem_stepO]
      exact ⟨.inl, fun q => q.elim id fun q => absurd q.1 e⟩
  · rw [size_put hD, h.1 t ht, h.2]
    unfold stepO
    by_cases e : t ∈ l
    · rw [decide_eq_true e, if_pos rfl, if_pos (.inr e)]
    · rw [decide_eq_false e, if_neg (by decide), if_neg (by rintro (q | q); exact h0 q; exact e q), List.length_append]
      rfl
theorem knows_nil : Knows (.map []) [] := ⟨fun t _ => by simp [Maps.has], by simp [Maps.size]⟩
set_option maxHeartbeats 32000000 in
theorem walk (W : World) (hL : laidMetH Tryd.prog sipLaid W) (t0 : List Nat) (w0 : IsH t0) (v1 : Value) (t1 : List (List Nat)) (w1 : TextsAt W v1 t1) :
    Calls Tryd.prog 8 #[.agg (arr 32 (bv (lf t0))), v1] W fun e w' => e = .returned (.bool true) ∧ Below W.heap.size W w' := by
  have E := Lib.hid (Mem.nil W)
  have LL := Lib.hid (of_sip hL)
  have HX := Lib.hid (show ∀ i, lf t0 i < 256 from lf_lt w0.2)
  obtain ⟨p, g, o, c, V, hv, hc, RV, hi⟩ := id w1
  subst hv
  obtain ⟨m, hm⟩ : ∃ m, m = min t1.length 60 := ⟨_, rfl⟩
  obtain ⟨q, hq, hmc, A2⟩ := texts_take w1 (m := m) (by omega)
  have hml : (t1.take m).length = m := by rw [List.length_take]; omega
  obtain ⟨ts, hts⟩ : ∃ ts, ts = t1.take m := ⟨_, rfl⟩
  rw [← hts] at A2 hml
  rw [hml] at A2
  have A := Lib.hid A2
  have CUTS := Lib.hid (show ∀ w, (Instr.sliceAt 30 (.slice p t1.length c) none (some (.int .i64 ((m : Nat) : Int))) none).run Tryd.prog w = .ok (.slice q m c) w from fun w => run_cut Tryd.underlying30 (by intro w; kernel_rfl) hq hmc w)
  obtain ⟨N, hN⟩ : ∃ N, N = t1.length := ⟨_, rfl⟩
  rw [← hN] at CUTS ⊢
  have MIN := Lib.hid (show min (N : Int) 60 = ((m : Nat) : Int) by omega)
  have hm60 : m ≤ 60 := by omega
  obtain ⟨F, hF⟩ : ∃ F, F = fB (key0 (lf t0)) (key1 (lf t0)) (onceL ts) := ⟨_, rfl⟩
  have hol : (onceL ts).length ≤ 60 := Nat.le_trans (once_any_len ts) (by omega)
  obtain ⟨nL, hnL⟩ : ∃ nL, nL = (onceL ts).length := ⟨_, rfl⟩
  have hFL : F.length ≤ 140737488351232 := by
    rw [hF]
    unfold fB
    rw [List.length_append, tl_length, pk_length]
    have h1 := (wid_bd (onceL ts).length).2
    have h2 := codes_le 0 (sortN (fnumsL (key0 (lf t0)) (key1 (lf t0)) (onceL ts))) (fun z hz => by
      have := fnums_lt ((sortN_perm _).mem_iff.1 hz)
      omega)
    rw [sortN_len, fnums_len] at h2
    unfold nB
    omega
  obtain ⟨S, hS⟩ : ∃ S, S = sortN (fnumsL (key0 (lf t0)) (key1 (lf t0)) (onceL ts)) := ⟨_, rfl⟩
  have hvr : vres F.length (lf F) = some S := by rw [hF, hS]; exact vres_fB (Nat.le_trans hol (by decide))
  have hSl : S.length = nL := by rw [hS, sortN_len, fnums_len, hnL]
  have SS := Lib.hid (show S.Pairwise (· ≤ ·) by rw [hS]; exact sortN_sorted _)
  have SM := Lib.hid (show ∀ i (h : i < S.length), S[i] < nL * 784931 from fun i h => by
    have h2 := List.getElem_mem h
    rw [hnL]
    have h3 : S[i] ∈ sortN (fnumsL (key0 (lf t0)) (key1 (lf t0)) (onceL ts)) := by rw [← hS]; exact h2
    exact fnums_lt ((sortN_perm _).mem_iff.1 h3))
  have C1 := Lib.hid (show ∀ w, Below W.heap.size W w → Calls Tryd.prog 13 #[.agg (arr 32 (bv (lf t0))), .slice q m c] w fun e w' => (∃ pf gf cf, e = .returned (.tuple #[.slice pf F.length cf, .int .i64 0]) ∧ Row w' pf gf 0 F.length cf (lf F)) ∧ Below w.heap.size w w' from fun w hb => by
    rw [hF]
    refine (fibuild_any (Lib.hid (A.out.below hb)) (Lib.hid (LL.out.below hb)) HX.out (Nat.le_trans hol (by decide))).mono ?_
    rintro e w' ⟨⟨pf, gf, cf, rfl, hO⟩, hb2⟩
    exact ⟨⟨pf, gf, cf, rfl, hO.row⟩, hb2⟩)
  have CV := Lib.hid (show ∀ w pf gf cf, Row w pf gf 0 F.length cf (lf F) → Calls Tryd.prog 27 #[.slice pf F.length cf] w fun e w' => (∃ p5 g5 c5, e = .returned (.tuple #[.slice p5 nL c5, .int .i64 0]) ∧ VOwn 59 1 w.heap.size w' p5 g5 nL c5 (wv (lf S))) ∧ Below w.heap.size w w' from fun w pf gf cf hR => by
    have h := fival_any (Lib.hid hR) hFL
    rw [hvr] at h
    refine h.mono ?_
    rintro e w' ⟨p5, g5, c5, rfl, hV, hb⟩
    rw [hSl] at hV ⊢
    exact ⟨⟨p5, g5, c5, rfl, hV⟩, hb⟩)
  have MM := Lib.hid (show m ≤ 60 ∧ nL ≤ 60 ∧ S.length = nL ∧ ts.length = m from ⟨hm60, by omega, hSl, hml⟩)
  have OJ := Lib.hid (show (onceJ ts m).length = nL by rw [← hml, onceJ_all, hnL])
  obtain ⟨p2, g2, o2, c2, V2, hv2, hc2, RV2, hi2⟩ := A.out
  rw [hml] at hv2 RV2
  injection hv2 with e1 _ e3
  subst e1 e3
  have RR := Lib.hid RV2
  have TT := Lib.hid hi2
  clear hL w0 w1 hc RV hi hm hq hmc A2 hml hts hN A LL HX hm60 hF hol hFL hS hvr hSl hnL hc2 RV2 hi2
  go_enter Tryd.func8, Tryd.ntmps8
  go_upto_region 6 with (first
    | ((with_reducible refine wpList_at 2 rfl ?_); refine mem_box E 23 rfl _ rfl rfl (arr_cells' 32 (bv (lf t0))) ?_; clear E; intro b3 w3 E)
    | ((with_reducible refine wpList_at 17 rfl ?_); refine wpList_kn rfl (.int .i64 ((m : Nat) : Int)) (by exact exec_min rfl rfl rfl rfl MIN.out) ?_)
    | ((with_reducible refine wpList_at 18 rfl ?_); refine wpList_kn rfl (.slice q m c) (by exact exec_sl rfl (CUTS.out _)) ?_)
    | ((with_reducible refine wpList_at 20 rfl ?_); refine mem_load_row E 23 rfl (.tmp 2) rfl rfl List.mem_cons_self Tryd.underlying23 rfl (by rw [arr_size]; kernel_rfl) ?_)
    | (go_at_call 13; with_reducible refine (C1.out _ E.out.below).mono ?_; rintro e w4 ⟨⟨pf, gf, cf, rfl, hR⟩, hb⟩; have RF := Lib.hid hR; replace E := Lib.hid (E.out.call hb); clear hR hb)
    | (go_at_call 27; with_reducible refine (CV.out _ _ _ _ RF.out).mono ?_; rintro e w5 ⟨⟨p5, g5, c5, rfl, hV⟩, hb⟩; have VS := Lib.hid hV; replace E := Lib.hid (E.out.call hb); clear hV hb)
    | ((with_reducible refine wpList_at 30 rfl ?_); refine mem_known rfl _ _ (exec_mkmap rfl) ?_))
  have OM := Lib.hid (World.ownsMap_made (H := Unit) w5 Tryd.prog 9 (plainElem Tryd.prog 4))
  have NEB := Lib.hid (show p5 = none ∨ some w5.heap.size ≠ some g5 from by
    rcases VS.out.typed with h | ⟨cur, h, _⟩
    · exact .inl h
    · exact .inr fun e => by
        injection e with e
        have := (Array.getElem?_eq_some_iff.mp h).1
        omega)
  replace VS := Lib.hid (VS.out.below (below_new w5 (.map #[] 0)))
  have HB := Lib.hid (E.out.below.trans ((below_new w5 (.map #[] 0)).mono E.out.below.size))
  have BM := Lib.hid E.out.below.size
  obtain ⟨bm, hbm⟩ : ∃ bm, bm = w5.heap.size := ⟨_, rfl⟩
  rw [← hbm] at OM NEB BM ⊢
  generalize w5.alloc (.map #[] 0) = w6 at OM VS HB ⊢
  clear hbm E RF
  go_loopg [33] m (fun k s33 wr => ∃ (j : Nat) (D : DataW Unit), j + k = m ∧ s33 = .int .i64 (j : Int) ∧ Hid (wr.ownsMap Tryd.prog 9 (plainElem Tryd.prog 4) bm j D) ∧ Hid (Knows D (onceJ ts j)) ∧ Hid (VOwn 59 1 w4.heap.size wr p5 g5 nL c5 (wv (lf S))) ∧ Hid (Below W.heap.size W wr))
  case atStart => exact ⟨0, .map [], by omega, rfl, OM, Lib.hid (by unfold onceJ; exact knows_nil), VS, HB⟩
  case round =>
    clear OM VS HB
    obtain ⟨j, D, hj, rfl, OM, KW, VS, HB⟩ := hrel
    obtain ⟨kk, hkk⟩ : ∃ kk : Nat, kk = gk := ⟨_, rfl⟩
    rw [← hkk] at hj
    by_cases hlt : j < m
    · have LT := Lib.hid (show decide ((j : Int) < (m : Int)) = true from decide_eq_true (by omega))
      obtain rfl := RR.out.head (by omega)
      have ht : j < ts.length := by have := MM.out; omega
      have ON := Lib.hid (onceJ_succ ts ht)
      obtain ⟨pt, gt, ot, ct, hVj, htl, RT⟩ := TT.out j ht
      obtain ⟨x, hx⟩ : ∃ x, x = ts[j] := ⟨_, rfl⟩
      rw [← hx] at hVj htl RT ON
      have TX := Lib.hid (show TextAt W (.slice pt x.length ct) x from ⟨pt, gt, ot, ct, rfl, htl, RT⟩)
      have STR := Lib.hid (show ∀ w, Below W.heap.size W w → (convert 32 9 (.slice pt x.length ct)).run Tryd.prog w = .ok (.string (strL x)) w from fun w hb => text_strL (TX.out.below hb))
      have KEY := Lib.hid (show keyOf Tryd.prog 9 (.string (strL x)) = some (kl x) from key_of (by unfold maxLen; omega))
      have XB := Lib.hid TX.out.isB
      obtain ⟨xn, hxn⟩ : ∃ xn, xn = x.length := ⟨_, rfl⟩
      rw [← hxn] at hVj STR
      have XN := Lib.hid hxn
      have CC := Lib.hid (show wr.cell? ⟨g2, o2 + j * 1, none⟩ = some (.slice pt xn ct) from by
        rw [← hVj, Nat.mul_one]
        exact (RR.out.below HB.out).cell j (by omega))
      have HJ := Lib.hid (show j < m ∧ j + kk = m ∧ kk = gk from ⟨hlt, hj, hkk⟩)
      have KD := Lib.hid (string_keyed (P := Tryd.prog) (k := 9) Tryd.underlying9)
      clear ht hVj htl RT hx TX hxn hlt hj hkk
      by_cases h0 : xn = 0
      · have G0 := Lib.hid (show decide ((0 : Int) < (xn : Int)) = false from decide_eq_false (by omega))
        have K2 := Lib.hid (show Knows D (onceJ ts (j + 1)) by
          rw [ON.out]
          unfold stepO
          rw [if_pos (.inl (by rw [← XN.out]; exact h0))]
          exact KW.out)
        clear h0
        go_wp2_with (first
    | ((with_reducible refine wpList_at 34 rfl ?_); refine wpList_kn rfl (.bool true) (by exact exec_lssi rfl rfl rfl LT.out) ?_)
    | ((with_reducible refine wpList_at 35 rfl ?_); refine wpList_ix (k := 1) (j := j) Tryd.underlying30 (by kernel_rfl) (.tmp 31) (.tmp 33) rfl rfl rfl rfl HJ.out.1 rfl ?_)
    | ((with_reducible refine wpList_at 36 rfl ?_); refine wpList_ld1 32 (.tmp 35) rfl rfl rfl Tryd.underlying32 rfl CC.out ?_)
    | ((with_reducible refine wpList_at 39 rfl ?_); refine wpList_kn rfl (.bool false) (by exact exec_gtrN rfl rfl rfl G0.out) ?_)
    | ((with_reducible refine wpList_at 43 rfl ?_); refine wpList_kn rfl (.int .i64 ((j + 1 : Nat) : Int)) (by exact exec_add rfl rfl rfl (by have := HJ.out; have := MM.out; rw [IntKind.wrap_i64]; omega)) ?_))
        go_roundg (m - (j + 1))
        case measure => have := HJ.out; omega
        case rel => exact ⟨j + 1, D, by have := HJ.out; omega, rfl, Lib.hid (OM.out.mono (Nat.le_succ j)), K2, VS, HB⟩
      · have G0 := Lib.hid (show decide ((0 : Int) < (xn : Int)) = true from decide_eq_true (by omega))
        have K2 := Lib.hid (show Knows (D.put (kl x) (.lit (.bool true))) (onceJ ts (j + 1)) by
          rw [ON.out]
          exact knows_put KW.out (OM.out.tidy KD.out) OM.out.isMap XB.out (by rw [← XN.out]; exact h0))
        clear h0
        go_wp2_with (first
    | ((with_reducible refine wpList_at 34 rfl ?_); refine wpList_kn rfl (.bool true) (by exact exec_lssi rfl rfl rfl LT.out) ?_)
    | ((with_reducible refine wpList_at 35 rfl ?_); refine wpList_ix (k := 1) (j := j) Tryd.underlying30 (by kernel_rfl) (.tmp 31) (.tmp 33) rfl rfl rfl rfl HJ.out.1 rfl ?_)
    | ((with_reducible refine wpList_at 36 rfl ?_); refine wpList_ld1 32 (.tmp 35) rfl rfl rfl Tryd.underlying32 rfl CC.out ?_)
    | ((with_reducible refine wpList_at 39 rfl ?_); refine wpList_kn rfl (.bool true) (by exact exec_gtrN rfl rfl rfl G0.out) ?_)
    | ((with_reducible refine wpList_at 42 rfl ?_); refine wpList_known rfl (.string (strL x)) _ (exec_cvs rfl (STR.out _ HB.out)) ?_)
    | ((with_reducible refine wpList_atn rfl ?_); refine wpList_mapUpdate_in _ rfl (.tmp 40) (.tmp 42) (.const (.bool true)) 57 rfl 9 4 KD.out Tryd.underlying57 (plainElem Tryd.prog 4) bm j D rfl OM.out (by have := HJ.out; have := MM.out; unfold maxLen; omega) _ _ (kl x) rfl rfl KEY.out (.lit (.bool true)) [] (plainElem_bool Tryd.underlying4 true) ?_; intro w9 hown hturn; have OM9 := Lib.hid hown; have VS9 := Lib.hid (VS.out.kept hturn.grown NEB.out); have HB9 := Lib.hid (below_but HB.out hturn.grown BM.out); clear hown hturn)
    | ((with_reducible refine wpList_at 43 rfl ?_); refine wpList_kn rfl (.int .i64 ((j + 1 : Nat) : Int)) (by exact exec_add rfl rfl rfl (by have := HJ.out; have := MM.out; rw [IntKind.wrap_i64]; omega)) ?_))
        go_roundg (m - (j + 1))
        case measure => have := HJ.out; omega
        case rel => exact ⟨j + 1, _, by have := HJ.out; omega, rfl, OM9, K2, VS9, HB9⟩
    · obtain rfl : j = m := by omega
      have LT := Lib.hid (show decide ((j : Int) < (j : Int)) = false from decide_eq_false (by omega))
      have SZ := Lib.hid (show Maps.size D = nL by rw [KW.out.2, OJ.out])
      clear hlt hj hkk
      go_upto_region 14 with (first
    | ((with_reducible refine wpList_at 34 rfl ?_); refine wpList_kn rfl (.bool false) (by exact exec_lssi rfl rfl rfl LT.out) ?_)
    | ((with_reducible refine wpList_at 54 rfl ?_); refine wpList_kn rfl (.int .i64 (nL : Int)) (by exact exec_lenM rfl rfl (fun ty => by have h := OM.out.len Tryd.underlying57 ty; rw [SZ.out] at h; exact h)) ?_)
    | ((with_reducible refine wpList_at 55 rfl ?_); refine wpList_kn rfl (.bool false) (by exact exec_neN rfl rfl rfl) ?_)
    | (go_at_call 28; with_reducible refine (issort_any VS.out MM.out.2.2.1 SS.out (Nat.le_trans MM.out.2.1 (by decide))).mono ?_; rintro e w10 ⟨rfl, hb⟩; replace VS := Lib.hid (VS.out.below hb); replace HB := Lib.hid (HB.out.trans (hb.mono HB.out.size)); clear hb))
      go_loopg [64] nL (fun k s64 wr => ∃ (i : Nat), i + k = nL ∧ s64 = .int .i64 (i : Int) ∧ Hid (VOwn 59 1 w4.heap.size wr p5 g5 nL c5 (wv (lf S))) ∧ Hid (Below W.heap.size W wr))
      case atStart => exact ⟨0, by omega, rfl, VS, HB⟩
      case round =>
        clear VS HB
        obtain ⟨i, hi, rfl, VS, HB⟩ := hrel
        obtain ⟨k2, hk2⟩ : ∃ k2 : Nat, k2 = gk := ⟨_, rfl⟩
        rw [← hk2] at hi
        by_cases hlt : i < nL
        · have LT2 := Lib.hid (show decide ((i : Int) < (nL : Int)) = true from decide_eq_true (by omega))
          obtain rfl : p5 = some ⟨g5, 0, none⟩ := VS.out.row.head (by omega)
          have hiS : i < S.length := by have := MM.out; omega
          obtain ⟨z, hz⟩ : ∃ z, z = S[i] := ⟨_, rfl⟩
          have CC := Lib.hid (show wr.cell? ⟨g5, 0 + i * 1, none⟩ = some (.int .u64 (z : Int)) from by
            have h := VS.out.row.cell i (by omega)
            rw [hz, ← lf_get hiS, Nat.mul_one]
            exact h)
          obtain ⟨E2, hE2⟩ : ∃ E2, E2 = nL * 784931 := ⟨_, rfl⟩
          have GE := Lib.hid (show decide ((E2 : Int) ≤ (z : Int)) = false from decide_eq_false (by
            have := SM.out i hiS
            rw [← hz, ← hE2] at this
            omega))
          have EE := Lib.hid hE2
          have HI := Lib.hid (show i < nL ∧ i + k2 = nL ∧ k2 = gk from ⟨hlt, hi, hk2⟩)
          clear hiS hz hE2 hlt hi hk2
          go_wp2_with (first
    | ((with_reducible refine wpList_at 65 rfl ?_); refine wpList_kn rfl (.bool true) (by exact exec_lssi rfl rfl rfl LT2.out) ?_)
    | ((with_reducible refine wpList_at 66 rfl ?_); refine wpList_ix (k := 1) (j := i) Tryd.underlying54 (by kernel_rfl) (.tmp 62) (.tmp 64) rfl rfl rfl rfl HI.out.1 rfl ?_)
    | ((with_reducible refine wpList_at 67 rfl ?_); refine wpList_ld1 59 (.tmp 66) rfl rfl rfl Tryd.underlying59 rfl CC.out ?_)
    | ((with_reducible refine wpList_at 71 rfl ?_); refine wpList_kn rfl (.int .u64 (nL : Int)) (by exact exec_cvu rfl rfl (by have := MM.out; omega)) ?_)
    | ((with_reducible refine wpList_at 72 rfl ?_); refine wpList_kn rfl (.int .u64 (E2 : Int)) (by exact exec_mulR (a := nL) (b := 784931) rfl rfl rfl EE.out.symm (by have := EE.out; have := MM.out; omega)) ?_)
    | ((with_reducible refine wpList_at 73 rfl ?_); refine wpList_kn rfl (.bool false) (by exact exec_gequ rfl rfl rfl GE.out) ?_)
    | ((with_reducible refine wpList_at 74 rfl ?_); refine wpList_kn rfl (.int .i64 ((i + 1 : Nat) : Int)) (by exact exec_add rfl rfl rfl (by have := HI.out; have := MM.out; rw [IntKind.wrap_i64]; omega)) ?_))
          go_roundg (nL - (i + 1))
          case measure => have := HI.out; omega
          case rel => exact ⟨i + 1, by have := HI.out; omega, rfl, VS, HB⟩
        · have LT2 := Lib.hid (show decide ((i : Int) < (nL : Int)) = false from decide_eq_false (by omega))
          clear hlt hi hk2
          go_wp2_with (first
    | ((with_reducible refine wpList_at 65 rfl ?_); refine wpList_kn rfl (.bool false) (by exact exec_lssi rfl rfl rfl LT2.out) ?_)
    | (go_at_call 17; refine (awake12_any _).mono ?_; rintro e w9 ⟨rfl, hb⟩; replace HB := Lib.hid (HB.out.trans (hb.mono HB.out.size)); clear hb))
          go_ret
          exact ⟨rfl, HB.out⟩

set_option maxRecDepth 100000 in
theorem lifted (os : Os) (started : os.Started) (H : Type) (enc : TypeId × Value → H) :
    ReturnsInHanded {} Tryd.checked os 8 .any (fun w args => (Rows.filterRisesSpec.pre enc Tryd.prog Tryd.f8 [] false w args ∧ laidMetH Tryd.prog sipLaid w) ∧ sizedMet enc Tryd.prog Tryd.f8 (OpenSpec.ofChange Rows.filterRisesSpec) false w args)
      (Rows.filterRisesSpec.post enc Tryd.prog Tryd.f8 false true false false) := by
  refine returnsInHanded_of_change_and (C := Tryd.checked) (X := fun w _ => laidMetH Tryd.prog sipLaid w) (fun _ _ _ hh h => h.of_heap hh) own started (by kernel_rfl) Tryd.func8
    (ChangeSpec.witness_shaped (enc := enc) (C := Tryd.checked) (os := os) (X := fun w _ => laidMetH Tryd.prog sipLaid w) false (World.laidAll Tryd.prog os sipLaid) #[.agg #[.int .u8 0, .int .u8 0, .int .u8 0, .int .u8 0, .int .u8 0, .int .u8 0, .int .u8 0, .int .u8 0, .int .u8 0, .int .u8 0, .int .u8 0, .int .u8 0, .int .u8 0, .int .u8 0, .int .u8 0, .int .u8 0, .int .u8 0, .int .u8 0, .int .u8 0, .int .u8 0, .int .u8 0, .int .u8 0, .int .u8 0, .int .u8 0, .int .u8 0, .int .u8 0, .int .u8 0, .int .u8 0, .int .u8 0, .int .u8 0, .int .u8 0, .int .u8 0], .slice none 0 0] 8 (World.laidAll_os _ _ _)
      (World.shaped_of_ZipB (by kernel_rfl) (by kernel_rfl)) (by kernel_rfl) (by kernel_rfl) (by kernel_rfl)
      (by rw [MakeChecks.laidMetH_plain _ _ _ (by kernel_rfl)]; exact laidMet_laidAll _ (by kernel_rfl) (by kernel_rfl))) ?_
  intro W base args ds gs before hval0 hW _ hsz0 hL _
  have hval : ∀ (j : Nat) t v, Tryd.f8.params[j]? = some t → args[j]? = some v → Value.okWide Tryd.prog W .any base t v := hval0
  have hsz : (DataW.weightsEach Tryd.prog (Tryd.f8.params.toList ++ Rows.filterRisesSpec.plain.varTypes Tryd.prog) (ds ++ gs)).all (· ≤ reachBytes) = true := hsz0
  have hW' := hW
  obtain ⟨p, q, hA0, hV, rfl, hfz, hnd⟩ := hW
  have hA : DataW.TrodAll enc Tryd.prog W 0 (fun _ => true) true Tryd.f8.params.toList args.toList ds p := hA0
  rw [Tryd.params8] at hA hval hsz
  obtain ⟨v0, vs0, d0, ds0, p0, q0, hargs, rfl, rfl, h0, r0⟩ := trodAll_cons hA
  obtain ⟨v1, vs1, d1, ds1, p1, q1, rfl, rfl, rfl, h1, r1⟩ := trodAll_cons r0
  obtain ⟨rfl, rfl, rfl⟩ := trodAll_nil r1
  obtain rfl : args = #[v0, v1] := by cases args; simp_all
  obtain ⟨rfl, rfl⟩ := trodVars_none hV
  have k0 := h0
  have lt0 : ∀ x ∈ p0, x.block < W.heap.size := by obtain ⟨m, hm⟩ := k0; exact DataW.trod_lt m _ _ _ hm
  obtain ⟨t0, w0, rfl⟩ := open_hash_arg (hval 0 23 v0 rfl rfl) h0
  have k1 := h1
  have lt1 : ∀ x ∈ p1, x.block < W.heap.size := by obtain ⟨m, hm⟩ := k1; exact DataW.trod_lt m _ _ _ hm
  obtain ⟨t1, w1⟩ := open_texts_arg (j := 1) (hval 1 30 v1 rfl rfl) h1 hsz rfl rfl
  clear hA0 hval0 hsz0
  simp only [List.append_nil] at hW'
  refine (walk W hL t0 w0 v1 t1 w1).mono fun e W' ⟨he, bel⟩ => ?_
  subst he
  exact ⟨_, rfl, _, _, _, [], _, [], hW', trodAll_mk1 (shut_bool Tryd.underlying4 _), (trodAll_cons_mk (Below.trod laidOut (by kernel_rfl) (of_decide_eq_true (by kernel_rfl)) k0 bel lt0) (trodAll_cons_mk (Below.trod laidOut (by kernel_rfl) (of_decide_eq_true (by kernel_rfl)) k1 bel lt1) trodAll_mk0)), rfl, bel.frame _, fun h => by cases h⟩

theorem over : Rows.FilterRisesSaid :=
  OpenClaim.holds_of_wide 8 Tryd.f8 rfl rfl rfl rfl rfl rfl rfl ⟨rfl, rfl, rfl, rfl, rfl⟩ rfl rfl rfl rfl rfl (by kernel_rfl) Tryd.func8 (by kernel_rfl)
    (of_decide_eq_true (by kernel_rfl)) (by unfold Func.isWrapper; first | (rw [if_pos (by decide +kernel)]; kernel_rfl) | (rw [if_neg (by decide +kernel)]; exact ⟨rfl, rfl⟩))
    (fun os started H enc _ => lifted os started H enc)

/-- The tied card. -/
theorem card_holds : Rows.FilterRisesCardSaid :=
  Claim7.holds_tied_plain_at .later [] [.data] true (true, "0199c94cb409754160ff1d9dd08a3fca2d5985d0812adfda39cfc780a5302024") false
    over (fun _ h => by cases h) (by kernel_rfl) (fun _ h => by cases h) filterRises_row_tie rfl ⟨rfl, rfl⟩ (by kernel_rfl) rfl
    (fun f fn hf hfn => by
      obtain rfl : f = 8 := Option.some.inj ((show Tryd.prog.funcNamed "sporran/sporranlaw12.FilterRises" = some 8 by kernel_rfl).symm.trans hf) |>.symm
      obtain rfl : fn = Tryd.f8 := (Option.some.inj (Tryd.func8.symm.trans hfn)).symm
      exact ⟨by kernel_rfl, fun j t ht => by
        rw [Tryd.params8] at ht
        have hm : t ∈ [23, 30] := by simpa using Array.mem_of_getElem? ht
        have hall : ([23, 30].all fun u => !Tryd.prog.wantsStandIn u) = true := by kernel_rfl
        exact (show Tryd.prog.wantsStandIn t = false by simpa using List.all_eq_true.1 hall t hm)⟩)
    (by kernel_rfl)
#print axioms card_holds
end Go.Proofs.YtoopcmcmjaikhaaDoor.filterRises
