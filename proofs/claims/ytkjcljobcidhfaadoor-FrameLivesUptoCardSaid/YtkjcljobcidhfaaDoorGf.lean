/- Feeding a frame reader, the program's. -/
import Derived.Test.YtkjcljobcidhfaaDoorGr
import Derived.Deep.LoopGhost
set_option linter.unusedSimpArgs false
set_option linter.unusedVariables false
set_option maxRecDepth 100000
namespace Go.Proofs.YtkjcljobcidhfaaDoor
open Go.RowKit Go.Lib Go.Sort

theorem infoFr3 : (Tryd.prog.info? 42).map (fun i => (i.zero, i.size, i.bytes)) = some (some (.agg fr0), 2, 40) := by kernel_rfl
def fU (s : ByteArray) (v : Value) : Nat → Value := fun i => if i = 0 then .string s else v
theorem frV_arr (s : ByteArray) (v : Value) : frV s v = arr 2 (fU s v) := rfl
theorem fU_one (s : ByteArray) (p : Option Addr) (n c : Nat) : ∀ j, j < 2 → (fU s (.slice p n c) j).oneCell' = true := fun j hj => by
  unfold fU
  split <;> rfl
theorem Fr.under1 {bu : Nat} {o : Option Nat} {w1 w w' : World} (h : Fr bu o w1 w) (hb : Below w1.heap.size w w') : Fr bu o w1 w' := ⟨hb.os.trans h.os, hb.tape.trans h.tape, hb.output.trans h.output, Nat.le_trans h.size hb.size, fun k hk h1 h2 => (hb.block k hk).trans (h.block k hk h1 h2)⟩
/-- A slice of a row, wherever the row's world. -/
def Within (p1 : Option Addr) (g1 c1 : Nat) (zs : List Nat) (q : Option Addr) (o c2 : Nat) (cur : List Nat) : Prop := ∀ w, Row w p1 g1 0 zs.length c1 (lf zs) → Row w q g1 o cur.length c2 (lf cur)
theorem lf_drop (l : List Nat) (k i : Nat) : lf l (k + i) = lf (l.drop k) i := by
  unfold lf
  simp only [List.getD_eq_getElem?_getD, List.getElem?_drop]
theorem Within.drop {w : World} {p1 : Option Addr} {g1 c1 : Nat} {zs : List Nat} {q : Option Addr} {o c2 : Nat} {cur : List Nat} (h : Within p1 g1 c1 zs q o c2 cur) (R : Row w p1 g1 0 zs.length c1 (lf zs)) {l : Nat} (hl : l ≤ cur.length) :
    ∃ q', (∀ W, (Instr.sliceAt 26 (.slice q cur.length c2) (some (.int .i64 (l : Int))) none none).run Tryd.prog W = .ok (.slice q' (cur.length - l) (c2 - l)) W) ∧ Within p1 g1 c1 zs q' (o + l) (c2 - l) (cur.drop l) := by
  have R1 := h w R
  have le := R1.le
  obtain ⟨q', e, R2⟩ := R1.slice hl (Nat.le_refl _) le (Nat.le_refl c2)
  refine ⟨q', fun W => by rw [run_sl (bounds_l hl), e], fun w2 R3 => ?_⟩
  obtain ⟨q2, e2, R4⟩ := (h w2 R3).slice hl (Nat.le_refl _) le (Nat.le_refl c2)
  rw [e] at e2
  injection e2 with e2
  subst e2
  rw [List.length_drop]
  exact R4.to (fun i hi => lf_drop _ _ _) (lf_lt fun x hx => isB_row R1 x (List.mem_of_mem_drop hx))
/-- Frames' payloads lie elsewhere than a row. -/
def Apart (V : Nat → Value) (fs : List (ByteArray × List Nat)) (p : Option Addr) : Prop := ∀ i, i < fs.length → ∀ j, ob p = some j → (V (i * 2 + 1)).ownBlock ≠ some j
theorem TextOwn.lies {B : Nat} {w : World} {v : Value} {t : List Nat} (h : TextOwn B w v t) {j : Nat} (e : v.ownBlock = some j) : B ≤ j ∧ j < w.heap.size := by
  obtain ⟨p, g, c, rfl, _, N⟩ := h
  exact World.ownsRow.lt N.own j e
/-- How Feed ends. -/
def FeedEnd (D : World) (br bu : Nat) (p : Option Addr) (zs : List Nat) (W : World) (e : Ending) (w' : World) : Prop :=
  ∃ fs r er pf gf cf V, Feeds zs fs r er ∧ e = .returned (.tuple #[.slice pf fs.length cf, .int .i64 er]) ∧ FrsAt W.heap.size w' pf gf cf V fs ∧ ∃ p' g' c', Fp D br bu er p' g' c' r w' ∧ Fr bu (ob p) W w' ∧ Lies W (ob p) (ob p') ∧ Apart V fs p'
theorem Turns.from {D w0 w1 w2 : World} {br bu : Nat} {er : Int} {o : Option Addr} {p : Option Addr} {xs : List Nat} (F : Fr bu (ob o) w0 w1) (L : Lies w0 (ob o) (ob p)) (h : Turns D br bu er p xs w1 w2) : Turns D br bu er o xs w0 w2 := by
  obtain ⟨p', g', c', T, F2, L2⟩ := h
  exact ⟨p', g', c', T, F.trans F2 L, L.trans L2 F.size⟩
theorem feed_end {D w0 w1 w2 w3 : World} {br bu : Nat} {er : Int} {o p pf : Option Addr} {xs : List Nat} {gf cf : Nat} {V : Nat → Value} {fs : List (ByteArray × List Nat)} (F : Fr bu (ob o) w0 w2) (L : Lies w0 (ob o) (ob p)) (FS : FrsAt w1.heap.size w2 pf gf cf V fs) (PB : ∀ j, ob p = some j → j < w1.heap.size) (h : Turns D br bu er p xs w2 w3) :
    ∃ p' g' c', Fp D br bu er p' g' c' xs w3 ∧ Fr bu (ob o) w0 w3 ∧ Lies w0 (ob o) (ob p') ∧ Apart V fs p' := by
  obtain ⟨p', g', c', T, F2, L2⟩ := h
  refine ⟨p', g', c', T, F.trans F2 L, L.trans L2 F.size, fun i hi j e e2 => ?_⟩
  have h1 := (FS.2 i hi).2.lies e2
  rcases L2 j e with h2 | h2
  · have := PB j h2; omega
  · omega

set_option maxHeartbeats 16000000 in
theorem feed_any {D W : World} {br bu : Nat} {p q0 : Option Addr} {g c h0 o0 d0 : Nat} {xs ys : List Nat} (T : Hid (Fp D br bu 0 p g c xs W)) (R : Hid (Row W q0 h0 o0 ys.length d0 (lf ys))) (hl : xs.length + ys.length ≤ 70000000000000) (LD : Hid (S.Both D)) :
    Calls Tryd.prog 9 #[.pointer (some ⟨br, 0, none⟩), .slice q0 ys.length d0] W (FeedEnd D br bu p (xs ++ ys) W) := by
  have M := Lib.hid (made_any T.out.cR)
  have A := Lib.hid (add_any T R (by omega))
  rw [tl_lf] at A
  obtain ⟨zs, hz⟩ : ∃ zs, zs = xs ++ ys := ⟨_, rfl⟩
  have HZ := Lib.hid (show zs.length ≤ 70000000000000 by rw [hz, List.length_append]; omega)
  rw [← hz] at A
  rw [← hz]
  have c0 := Lib.hid (cell_of_here T.out.cR 0 (v := .pointer (some ⟨bu, 0, none⟩)) rfl)
  have ce := Lib.hid (cell_of_here T.out.cU 1 (v := .int .i64 0) rfl)
  have DW := Lib.hid T.out.under0.size
  obtain ⟨m, hm⟩ : ∃ m, m = ys.length := ⟨_, rfl⟩
  rw [← hm] at A
  rw [← hm]
  clear hz hl R T hm
  go_enter Tryd.func9, Tryd.ntmps9
  go_upto_region 7 with (first
    | (go_at_call 16; refine M.out.mono ?_; rintro e w2 ⟨rfl, rfl⟩)
    | ((with_reducible refine wpList_at 16 rfl ?_); refine wpList_ld1 49 (.tmp 15) rfl rfl rfl Tryd.underlying49 rfl c0.out ?_)
    | ((with_reducible refine wpList_at 19 rfl ?_); refine wpList_ld1 27 (.tmp 18) rfl rfl rfl Tryd.underlying27 rfl ce.out ?_)
    | ((with_reducible refine wpList_at 31 rfl ?_); refine wpList_ld1 49 (.tmp 30) rfl rfl rfl Tryd.underlying49 rfl c0.out ?_)
    | (go_at_call 17; refine A.out.mono ?_; rintro e w1 ⟨rfl, p1, g1, c1, T1, F1, L1⟩))
  have PB := Lib.hid (show ∀ j, ob p1 = some j → j < w1.heap.size from fun j e => (T1.lies j e).2)
  have T1 := Lib.hid T1
  have F1 := Lib.hid F1
  have L1 := Lib.hid L1
  clear A c0 ce M
  go_wp2_with fail
  go_loopg [6] zs.length (fun k f wr => ∃ (cur : List Nat) (q : Option Addr) (o c2 : Nat) (fs : List (ByteArray × List Nat)) (pf : Option Addr) (gf cf : Nat) (V : Nat → Value), k = cur.length ∧ f = .slice pf fs.length cf ∧ Hid (Fq D br bu (.slice q cur.length c2) 0 p1 g1 c1 zs wr) ∧ Hid (Within p1 g1 c1 zs q o c2 cur) ∧ Hid (FrsAt w1.heap.size wr pf gf cf V fs) ∧ Hid (∀ fs' r e, Feeds cur fs' r e → Feeds zs (fs ++ fs') r e) ∧ Hid (Fr bu (ob p1) w1 wr) ∧ Hid (24 * fs.length + cur.length ≤ zs.length) ∧ Hid (fs = [] → cur = zs ∧ q = p1 ∧ c2 = c1))
  case atStart => exact ⟨zs, p1, 0, c1, [], none, 0, 0, fun _ => undef, rfl, rfl, T1, Lib.hid fun w r => r, Lib.hid (FrsAt.none (Nat.le_refl _) _), Lib.hid (fun fs' r e h => h), Lib.hid (Fr.refl _ _ _), Lib.hid (by simp), Lib.hid (fun _ => ⟨rfl, rfl, rfl⟩)⟩
  case round =>
    obtain ⟨cur, q, o, c2, fs, pf, gf, cf, V, hk, rfl, K, RW, FS, CN, FF, LN, NF⟩ := hrel
    obtain ⟨kk, hkk⟩ : ∃ kk : Nat, kk = gk := ⟨_, rfl⟩
    rw [← hkk] at hk
    have ZB := HZ.out
    have LNo := LN.out
    have FE := Lib.hid (first_any (Lib.hid (RW.out _ K.out.row)) (by omega) (Lib.hid (LD.out.below K.out.under0)))
    clear ZB LNo
    obtain ⟨pr, hp⟩ : ∃ pr, pr = pFirst cur := ⟨_, rfl⟩
    have HP := Lib.hid hp.symm
    rw [← hp] at FE
    clear hp
    cases pr with
    | wait =>
      by_cases hf : fs = []
      · obtain ⟨rfl, rfl, rfl⟩ := NF.out hf
        have HF := Lib.hid (show decide ((0 : Int) < ((fs.length : Nat) : Int)) = false from by rw [hf]; rfl)
        have HFS := Lib.hid hf
        clear hf
        go_wp2_with (first
    | ((with_reducible refine wpList_at 38 rfl ?_); refine wpList_ld1 49 (.tmp 37) rfl rfl rfl Tryd.underlying49 rfl (cell_of_here K.out.cR 0 (v := .pointer (some ⟨bu, 0, none⟩)) rfl) ?_)
    | ((with_reducible refine wpList_at 41 rfl ?_); refine wpList_ld1 26 (.tmp 40) rfl rfl rfl Tryd.underlying26 rfl (cell_of_here K.out.cU 0 (v := .slice q cur.length c2) rfl) ?_)
    | (go_at_call 18; refine FE.out.mono ?_; rintro e w2 ⟨hb, rfl⟩; have HB := Lib.hid hb; replace K := Lib.hid (K.out.call hb); replace FS := Lib.hid (FS.out.below hb); replace FF := Lib.hid (FF.out.under1 (hb.mono FF.out.size)); clear hb; have E := Lib.hid (Mem.nil w2))
    | ((with_reducible refine wpList_at 7 rfl ?_); refine mem_alloc E 42 rfl rfl infoFr ?_; clear E; intro b7 w3 E7; have E := Lib.hid (show Mem w2 [(b7, 42, fr0)] w3 from E7.out); clear E7)
    | ((with_reducible refine wpList_atn rfl ?_); refine mem_store_row 0 E 42 rfl (.tmp 7) (.tmp 43) rfl rfl rfl rfl (by kernel_rfl) rfl (fr0_one) ?_; clear E; intro w4 E7; have E := Lib.hid (show Mem w2 [(b7, 42, fr0)] w4 from E7.out); clear E7; replace K := Lib.hid (K.out.call E.out.below); replace FS := Lib.hid (FS.out.below E.out.below); replace FF := Lib.hid (FF.out.under1 (E.out.below.mono FF.out.size)))
    | ((with_reducible refine wpList_at 70 rfl ?_); refine wpList_kn rfl (.bool false) (by exact exec_gtri rfl rfl rfl HF.out) ?_))
        go_ret2
        refine ⟨fs, cur, 0, pf, gf, cf, V, by have := CN.out [] cur 0 (.wait HP.out); rwa [List.append_nil] at this, rfl, FS.out.mono F1.out.size, _, g1, _, K.out, F1.out.trans FF.out L1.out, L1.out, fun i hi => absurd hi (by rw [HFS.out]; simp)⟩
      · have HF := Lib.hid (show decide ((0 : Int) < ((fs.length : Nat) : Int)) = true from decide_eq_true (by have := List.length_pos_iff.2 hf; omega))
        clear hf
        go_wp2_with (first
    | ((with_reducible refine wpList_at 38 rfl ?_); refine wpList_ld1 49 (.tmp 37) rfl rfl rfl Tryd.underlying49 rfl (cell_of_here K.out.cR 0 (v := .pointer (some ⟨bu, 0, none⟩)) rfl) ?_)
    | ((with_reducible refine wpList_at 41 rfl ?_); refine wpList_ld1 26 (.tmp 40) rfl rfl rfl Tryd.underlying26 rfl (cell_of_here K.out.cU 0 (v := .slice q cur.length c2) rfl) ?_)
    | (go_at_call 18; refine FE.out.mono ?_; rintro e w2 ⟨hb, rfl⟩; have HB := Lib.hid hb; replace K := Lib.hid (K.out.call hb); replace FS := Lib.hid (FS.out.below hb); replace FF := Lib.hid (FF.out.under1 (hb.mono FF.out.size)); clear hb; have E := Lib.hid (Mem.nil w2))
    | ((with_reducible refine wpList_at 7 rfl ?_); refine mem_alloc E 42 rfl rfl infoFr ?_; clear E; intro b7 w3 E7; have E := Lib.hid (show Mem w2 [(b7, 42, fr0)] w3 from E7.out); clear E7)
    | ((with_reducible refine wpList_atn rfl ?_); refine mem_store_row 0 E 42 rfl (.tmp 7) (.tmp 43) rfl rfl rfl rfl (by kernel_rfl) rfl (fr0_one) ?_; clear E; intro w4 E7; have E := Lib.hid (show Mem w2 [(b7, 42, fr0)] w4 from E7.out); clear E7; replace K := Lib.hid (K.out.call E.out.below); replace FS := Lib.hid (FS.out.below E.out.below); replace FF := Lib.hid (FF.out.under1 (E.out.below.mono FF.out.size)))
    | ((with_reducible refine wpList_at 70 rfl ?_); refine wpList_kn rfl (.bool true) (by exact exec_gtri rfl rfl rfl HF.out) ?_)
    | ((with_reducible refine wpList_at 74 rfl ?_); refine wpList_ld1 49 (.tmp 73) rfl rfl rfl Tryd.underlying49 rfl (cell_of_here K.out.cR 0 (v := .pointer (some ⟨bu, 0, none⟩)) rfl) ?_)
    | (go_at_call 21; refine (fit_any K (Lib.hid (RW.out _ K.out.row)) (by have := HZ.out; have := LN.out; omega)).mono ?_; rintro e w5 ⟨rfl, TT, KT⟩; have TT := Lib.hid TT; have KT := Lib.hid KT))
        go_ret2
        exact ⟨fs, cur, 0, pf, gf, cf, V, by have := CN.out [] cur 0 (.wait HP.out); rwa [List.append_nil] at this, rfl, (FS.out.keep KT.out (by decide) (by decide)).mono F1.out.size, feed_end (F1.out.trans FF.out L1.out) L1.out FS.out PB.out TT.out⟩
    | bad eq =>
      have HE := Lib.hid (show decide (eq = 0) = !true from decide_eq_false (pFirst_err HP.out))
      go_wp2_with (first
    | ((with_reducible refine wpList_at 38 rfl ?_); refine wpList_ld1 49 (.tmp 37) rfl rfl rfl Tryd.underlying49 rfl (cell_of_here K.out.cR 0 (v := .pointer (some ⟨bu, 0, none⟩)) rfl) ?_)
    | ((with_reducible refine wpList_at 41 rfl ?_); refine wpList_ld1 26 (.tmp 40) rfl rfl rfl Tryd.underlying26 rfl (cell_of_here K.out.cU 0 (v := .slice q cur.length c2) rfl) ?_)
    | (go_at_call 18; refine FE.out.mono ?_; rintro e w2 ⟨hb, rfl⟩; have HB := Lib.hid hb; replace K := Lib.hid (K.out.call hb); replace FS := Lib.hid (FS.out.below hb); replace FF := Lib.hid (FF.out.under1 (hb.mono FF.out.size)); clear hb; have E := Lib.hid (Mem.nil w2))
    | ((with_reducible refine wpList_at 7 rfl ?_); refine mem_alloc E 42 rfl rfl infoFr ?_; clear E; intro b7 w3 E7; have E := Lib.hid (show Mem w2 [(b7, 42, fr0)] w3 from E7.out); clear E7)
    | ((with_reducible refine wpList_atn rfl ?_); refine mem_store_row 0 E 42 rfl (.tmp 7) (.tmp 43) rfl rfl rfl rfl (by kernel_rfl) rfl (fr0_one) ?_; clear E; intro w4 E7; have E := Lib.hid (show Mem w2 [(b7, 42, fr0)] w4 from E7.out); clear E7; replace K := Lib.hid (K.out.call E.out.below); replace FS := Lib.hid (FS.out.below E.out.below); replace FF := Lib.hid (FF.out.under1 (E.out.below.mono FF.out.size)))
    | ((with_reducible refine wpList_at 47 rfl ?_); refine wpList_kn rfl (.bool true) (by exact exec_neqE rfl rfl rfl HE.out) ?_)
    | ((with_reducible refine wpList_at 51 rfl ?_); refine wpList_ld1 49 (.tmp 50) rfl rfl rfl Tryd.underlying49 rfl (cell_of_here K.out.cR 0 (v := .pointer (some ⟨bu, 0, none⟩)) rfl) ?_)
    | (go_at_call 19; refine (fail_any K eq).mono ?_; rintro e w5 ⟨rfl, TT, KT⟩; have TT := Lib.hid TT; have KT := Lib.hid KT))
      go_ret2
      exact ⟨fs, [], eq, pf, gf, cf, V, by have := CN.out [] [] eq (.bad HP.out); rwa [List.append_nil] at this, rfl, (FS.out.keep KT.out (by decide) (by decide)).mono F1.out.size, feed_end (F1.out.trans FF.out L1.out) L1.out FS.out PB.out TT.out⟩
    | frame k s pay =>
      obtain ⟨fl1, fl2, _, fl4⟩ := pFirst_frame HP.out
      have FL1 := Lib.hid fl1
      have PL := Lib.hid fl2
      clear fl1 fl2 fl4
      have HNE := Lib.hid (show decide ((((24 + pay.length : Nat) : Nat) : Int) = 0) = false from decide_eq_false (by omega))
      obtain ⟨q', SL, RW2⟩ := RW.out.drop K.out.row FL1.out
      have SL := Lib.hid SL
      have RW2 := Lib.hid RW2
      have CN2 := Lib.hid (show ∀ fs' r e, Feeds (cur.drop (24 + pay.length)) fs' r e → Feeds zs ((fs ++ [(s, pay)]) ++ fs') r e from fun fs' r e h => by
        rw [List.append_assoc]
        exact CN.out _ _ _ (.frame HP.out h))
      go_wp2_with (first
    | ((with_reducible refine wpList_at 38 rfl ?_); refine wpList_ld1 49 (.tmp 37) rfl rfl rfl Tryd.underlying49 rfl (cell_of_here K.out.cR 0 (v := .pointer (some ⟨bu, 0, none⟩)) rfl) ?_)
    | ((with_reducible refine wpList_at 41 rfl ?_); refine wpList_ld1 26 (.tmp 40) rfl rfl rfl Tryd.underlying26 rfl (cell_of_here K.out.cU 0 (v := .slice q cur.length c2) rfl) ?_)
    | (go_at_call 18; refine FE.out.mono ?_; rintro e w2 ⟨hb, p8, g8, c8, rfl, N8⟩; have PO := Lib.hid (show TextOwn w1.heap.size w2 (.slice p8 pay.length c8) pay from ⟨p8, g8, c8, rfl, by have := PL.out; omega, N8.mono FF.out.size⟩); clear N8; have HB := Lib.hid hb; replace K := Lib.hid (K.out.call hb); replace FS := Lib.hid (FS.out.below hb); replace FF := Lib.hid (FF.out.under1 (hb.mono FF.out.size)); clear hb; have E := Lib.hid (Mem.nil w2))
    | ((with_reducible refine wpList_at 7 rfl ?_); refine mem_alloc E 42 rfl rfl infoFr ?_; clear E; intro b7 w3 E7; have E := Lib.hid (show Mem w2 [(b7, 42, fr0)] w3 from E7.out); clear E7)
    | ((with_reducible refine wpList_atn rfl ?_); refine mem_store_row 0 E 42 rfl (.tmp 7) (.tmp 43) rfl rfl rfl rfl (by kernel_rfl) rfl (frV_one _ _ _ _) ?_; clear E; intro w4 E7; have E := Lib.hid (show Mem w2 [(b7, 42, arr 2 (fU s (.slice p8 pay.length c8)))] w4 from E7.out); clear E7; replace K := Lib.hid (K.out.call E.out.below); replace FS := Lib.hid (FS.out.below E.out.below); replace FF := Lib.hid (FF.out.under1 (E.out.below.mono FF.out.size)))
    | ((with_reducible refine wpList_at 57 rfl ?_); refine wpList_kn rfl (.bool false) (by exact exec_eqli rfl rfl rfl HNE.out) ?_)
    | ((with_reducible refine wpList_at 59 rfl ?_); refine mem_load_row E 42 rfl (.tmp 7) rfl rfl List.mem_cons_self Tryd.underlying42 rfl (by rw [arr_size]; kernel_rfl) ?_; replace PO := Lib.hid (PO.out.below E.out.below))
    | ((with_reducible refine wpList_at 60 rfl ?_); refine wpList_vbs 31 42 2 1 rfl _ rfl (fU s (.slice p8 pay.length c8)) (one_arr (fU_one _ _ _ _)) (by unfold maxLen; omega) (ps := #[(0, .agg (arr 2 (fU s (.slice p8 pay.length c8))))]) (by kernel_rfl) (fun W => run_bs1 Tryd.underlying31 infoFr3 (by omega) (by omega) _ (arr_size _ _) W) (arr_vs _ _) ?_; intro p13 g13 w13 N13 hb13; replace K := Lib.hid (K.out.call hb13.out); replace FS := Lib.hid (FS.out.below hb13.out); replace PO := Lib.hid (PO.out.below hb13.out); replace FF := Lib.hid (FF.out.under1 (hb13.out.mono FF.out.size)); clear hb13)
    | ((with_reducible refine wpList_at 61 rfl ?_); refine wpList_vapp 31 42 2 40 Tryd.underlying31 infoFr3 rfl (by omega) rfl (.tmp 58) (.tmp 60) rfl rfl (Lib.hid FS.out.1) rfl (Lib.hid N13.out.row) (by have := HZ.out; have := LN.out; unfold maxLen; omega) (by have := HZ.out; have := LN.out; omega) ?_; intro p14 g14 c14 w14 N14 hg14; have KT := Lib.hid (KeepT.of_grown FS.out.1 hg14.out); have BU := Lib.hid (FS.out.1.under hg14.out (Nat.le_refl _) FF.out.size); replace K := Lib.hid (K.out.keep (FS.out.1.under hg14.out (Nat.le_trans DW.out F1.out.size) (Nat.le_trans DW.out (Nat.le_trans F1.out.size FF.out.size))) KT.out (by decide) (by decide) (by decide)); replace FF := Lib.hid (FF.out.under1 BU.out); replace FS := Lib.hid (FS.out.snoc (s := s) (t := pay) KT.out N14.out rfl PO.out); clear KT BU hg14 N14 PO N13)
    | ((with_reducible refine wpList_at 65 rfl ?_); refine wpList_ld1 49 (.tmp 64) rfl rfl rfl Tryd.underlying49 rfl (cell_of_here K.out.cR 0 (v := .pointer (some ⟨bu, 0, none⟩)) rfl) ?_)
    | (go_at_call 20; refine (drop_any K SL).mono ?_; rintro e w15 ⟨rfl, rfl⟩))
      go_roundg (cur.drop (24 + pay.length)).length
      case measure => have := FL1.out; rw [List.length_drop]; omega
      case rel =>
        have LN2 := LN.out
        have FL2 := FL1.out
        exact ⟨cur.drop (24 + pay.length), q', _, c2 - (24 + pay.length), fs ++ [(s, pay)], p14, g14, c14, _, rfl, by rw [List.length_append, List.length_singleton], Lib.hid (by rw [List.length_drop]; exact K.out.set0), RW2, Lib.hid (FS.out.keep (KeepT.of_only K.out.cU (only_set _ _ _)) (by decide) (by decide)), CN2, Lib.hid (FF.out.set 0 _), Lib.hid (by rw [List.length_append, List.length_singleton, List.length_drop]; omega), Lib.hid (fun h => absurd h (by simp))⟩
end Go.Proofs.YtkjcljobcidhfaaDoor
