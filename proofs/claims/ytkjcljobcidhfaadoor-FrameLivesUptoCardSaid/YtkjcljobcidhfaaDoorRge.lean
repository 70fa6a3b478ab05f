/- Feeding the document's frame reader. -/
import Derived.Test.YtkjcljobcidhfaaDoorRgd
import Derived.Deep.LoopGhost
import Derived.BigQuiet
set_option linter.unusedSimpArgs false
set_option linter.unusedVariables false
set_option maxRecDepth 100000
namespace Go.Proofs.YtkjcljobcidhfaaDoor
open Go.RowKit Go.Lib Go.Sort

/-- The document's reader, in any world whose old blocks are those of a world where it was so. -/
theorem Rq.cX {D w : World} {bx : Nat} {v : Value} {er : Int} {p : Option Addr} {g c : Nat} {xs : List Nat} (K : Rq D bx v er p g c xs w) : w.heap[bx]? = some (.cells #[v, .int .i64 er] 29 (0, 0)) := K.mem.get List.mem_cons_self
theorem Rq.call {D w w' : World} {bx : Nat} {v : Value} {er : Int} {p : Option Addr} {g c : Nat} {xs : List Nat} (K : Rq D bx v er p g c xs w) (h : Below w.heap.size w w') : Rq D bx v er p g c xs w' := Wb.call K h
theorem Rq.set0 {D w : World} {bx : Nat} {v u : Value} {er : Int} {p : Option Addr} {g c : Nat} {xs : List Nat} (K : Rq D bx v er p g c xs w) : Rq D bx u er p g c xs (w.setCell ⟨bx, 0, none⟩ u) := Wb.setc K (i := 0) rfl rfl
theorem Rq.set1 {D w : World} {bx : Nat} {v : Value} {er x : Int} {p : Option Addr} {g c : Nat} {xs : List Nat} (K : Rq D bx v er p g c xs w) : Rq D bx v x p g c xs (w.setCell ⟨bx, 1, none⟩ (.int .i64 x)) := Wb.setc K (i := 0) rfl rfl
theorem Rq.swap {D w : World} {bx : Nat} {v : Value} {er : Int} {p p' : Option Addr} {g c g' c' : Nat} {xs ys : List Nat} (K : Rq D bx v er p g c xs w) (N : Own D.heap.size w p' g' ys.length c' (lf ys)) : Rq D bx v er p' g' c' ys w := ⟨K.mem, N, K.nb⟩
theorem Rq.under0 {D w : World} {bx : Nat} {v : Value} {er : Int} {p : Option Addr} {g c : Nat} {xs : List Nat} (K : Rq D bx v er p g c xs w) : Below D.heap.size D w := K.mem.below
theorem Rq.keep {D w w' : World} {bx : Nat} {v : Value} {er : Int} {p : Option Addr} {g c : Nat} {xs : List Nat} {T0 : TypeId} (T : Rq D bx v er p g c xs w) (hb : Below D.heap.size w w') (k : KeepT T0 w w') (h1 : (5 : TypeId) ≠ T0) (h2 : 29 ≠ T0) : Rq D bx v er p g c xs w' :=
  ⟨⟨T.mem.below.trans hb, fun q hq => k.keep _ _ _ (by obtain rfl := List.mem_singleton.1 hq; exact h2) (T.mem.has q hq), T.mem.nd, T.mem.ge⟩, ownK T.own k h1, T.nb⟩
theorem Rq.nil {D w w' : World} {bx : Nat} {er : Int} {p : Option Addr} {g c : Nat} {xs : List Nat} (K : Rq D bx (.slice none 0 0) er p g c xs w) (hb : Below w.heap.size w w') : Rq D bx (.slice none ([] : List Nat).length 0) er none 0 0 [] w' := (K.call hb).swap (ys := []) (own_nothing _ _ _ (lf_lt isB_nil) (K.call hb).under0.size)
theorem keepB {b : Nat} {v : Value} {W w : World} {j : Nat} {cs : Array Value} {T : TypeId} (hW : W.heap[b]? = some (.cells cs T (0, 0))) (hb : Below W.heap.size (W.setCell ⟨b, j, none⟩ v) w) : KeepT T W w := (KeepT.of_only hW (only_set b j v)).trans (KeepT.of_below _ (by rw [size_set]; exact hb))
theorem own_n {B : Nat} {w : World} {p : Option Addr} {g c L : Nat} {x : Nat → Nat} (N : Own B w p g (0 + L) c (cat (fun _ => 0) 0 x)) : Own B w p g L c x := by
  rw [Nat.zero_add] at N
  exact N.to (fun i hi => cat_zero _ _ _) fun i => by have := N.byte i; rwa [cat_zero] at this
theorem own_cat {B : Nat} {w : World} {p : Option Addr} {g c n m : Nat} {xs ys zs : List Nat} (N : Own B w p g (n + m) c (cat (lf xs) n (lf ys))) (hn : n = xs.length) (hm : m = ys.length) (hz : zs = xs ++ ys) : n + m = zs.length ∧ Own B w p g zs.length c (lf zs) := by
  subst hn hm hz
  have e : xs.length + ys.length = (xs ++ ys).length := by rw [List.length_append]
  refine ⟨e, ?_⟩
  rw [← e]
  exact N.to (fun i hi => lf_cat _ _ _) fun i => by have := N.byte i; rwa [lf_cat] at this
/-- How the document's Feed ends. -/
def RFeedEnd (D : World) (bx : Nat) (zs : List Nat) (W : World) (e : Ending) (w' : World) : Prop := ∃ fs r er pf gf cf V, Feeds zs fs r er ∧ e = .returned (.tuple #[.slice pf fs.length cf, .int .i64 er]) ∧ FrsAt W.heap.size w' pf gf cf V fs ∧ Below D.heap.size D w' ∧ Fr bx none W w' ∧ ∃ p' g' c', Rq D bx (.slice p' r.length c') er p' g' c' r w' ∧ ∀ j, ob p' = some j → W.heap.size ≤ j
theorem Fr.underX {bu : Nat} {o : Option Nat} {w1 w w' : World} (h : Fr bu o w1 w) (hb : Below w1.heap.size w w') : Fr bu o w1 w' := ⟨hb.os.trans h.os, hb.tape.trans h.tape, hb.output.trans h.output, Nat.le_trans h.size hb.size, fun k hk h1 h2 => (hb.block k hk).trans (h.block k hk h1 h2)⟩
theorem Own.lies {B : Nat} {w : World} {p : Option Addr} {g n c : Nat} {x : Nat → Nat} (N : Own B w p g n c x) : ∀ j, ob p = some j → B ≤ j := fun j e => (World.ownsRow.lt N.own j (by rw [ob_own]; exact e)).1

set_option maxHeartbeats 16000000 in
theorem rfeed_any {D W : World} {bx : Nat} {p q0 : Option Addr} {g c h0 o0 d0 : Nat} {xs ys : List Nat} (K0 : Hid (Rq D bx (.slice p xs.length c) 0 p g c xs W)) (R : Hid (Row W q0 h0 o0 ys.length d0 (lf ys))) (hl : xs.length + ys.length ≤ 70000000000000) :
    Calls Tryd.prog 10 #[.pointer (some ⟨bx, 0, none⟩), .slice q0 ys.length d0] W (RFeedEnd D bx (xs ++ ys) W) := by
  obtain ⟨zs, hz⟩ : ∃ zs, zs = xs ++ ys := ⟨_, rfl⟩
  have HZ := Lib.hid (show zs.length ≤ 70000000000000 by rw [hz, List.length_append]; omega)
  have HZ2 := Lib.hid hz
  rw [← hz]
  have R1 := Lib.hid K0.out.own.row
  have ca := Lib.hid (show ∀ w', Below W.heap.size W w' → w'.cell? ⟨bx, 0, none⟩ = some (.slice p xs.length c) from fun w' hb => cell_of_here (by rw [hb.block bx (heap_lt K0.out.cX)]; exact K0.out.cX) 0 rfl)
  have ce := Lib.hid (cell_of_here K0.out.cX 1 (v := .int .i64 0) rfl)
  have BE := Lib.hid (show 0 + xs.length + ys.length ≤ 140737488355328 by omega)
  obtain ⟨m, hm⟩ : ∃ m, m = ys.length := ⟨_, rfl⟩
  have HM := Lib.hid hm
  obtain ⟨n, hn⟩ : ∃ n, n = xs.length := ⟨_, rfl⟩
  have HN := Lib.hid hn
  rw [← hm] at R BE
  rw [← hn] at R1 ca BE
  rw [← hm]
  clear hz hl hm hn
  go_enter Tryd.func10, Tryd.ntmps10
  go_upto_region 5 with (first
    | ((with_reducible refine wpList_at 12 rfl ?_); refine wpList_ld1 27 (.tmp 11) rfl rfl rfl Tryd.underlying27 rfl ce.out ?_)
    | ((with_reducible refine wpList_at 19 rfl ?_); refine wpList_bse rfl rfl ?_; intro p7 g7 w7 N7 hb7)
    | ((with_reducible refine wpList_at 23 rfl ?_); refine wpList_ld1 26 (.tmp 22) rfl rfl rfl Tryd.underlying26 rfl (ca.out _ hb7.out) ?_)
    | ((with_reducible refine wpList_at 24 rfl ?_); refine wpList_app (.inr rfl) (.tmp 19) (.tmp 23) rfl rfl N7 rfl (Lib.hid (R1.out.below hb7.out)) (by have := BE.out; omega) ?_; intro p8 g8 c8 w8 N8x hb8; have N8 := Lib.hid (own_n N8x.out); have HB := Lib.hid (hb7.out.trans hb8.out); (try simp only [Nat.zero_add]); clear N7 hb7 hb8 N8x)
    | ((with_reducible refine wpList_at 26 rfl ?_); refine wpList_app (.inr rfl) (.tmp 24) (.tmp 25) rfl rfl N8 rfl (Lib.hid (R.out.below HB.out)) (by have := BE.out; omega) ?_; intro p9 g9 c9 w9 N9 hb9; replace HB := Lib.hid (HB.out.trans hb9.out); clear N8 hb9)
    | ((with_reducible refine wpList_atn rfl ?_); refine wpList_setc (show _ = some (Obj.cells #[.slice p xs.length c, .int .i64 0] 29 (0, 0)) by rw [HB.out.block bx (heap_lt K0.out.cX)]; exact K0.out.cX) rfl 26 (.tmp 28) (.tmp 26) rfl rfl rfl (by kernel_rfl) rfl rfl rfl ?_))
  obtain ⟨hnm, N9z⟩ := own_cat N9.out HN.out HM.out HZ2.out
  have F0 := Lib.hid ((Fr.below (bs := bx) (o := none) HB.out).set 0 (.slice p9 (n + m) c9))
  have O0 := Lib.hid N9z.lies
  have K0W := Lib.hid K0.out.under0.size
  have K1 := Lib.hid (((K0.out.call HB.out).set0 (u := .slice p9 (n + m) c9)).swap (ownK (N9z.mono K0.out.under0.size) (KeepT.of_only (K0.out.call HB.out).cX (only_set bx 0 (.slice p9 (n + m) c9))) (by decide)))
  generalize (w9.setCell ⟨bx, 0, none⟩ (.slice p9 (n + m) c9)) = w10 at K1 F0 ⊢
  rw [hnm] at K1
  clear N9 N9z hnm HB ca ce R R1 K0 BE
  go_wp2_with fail
  go_loopg [6] zs.length (fun k f wr => ∃ (cur : List Nat) (p1 : Option Addr) (g1 c1 : Nat) (fs : List (ByteArray × List Nat)) (pf : Option Addr) (gf cf : Nat) (V : Nat → Value), k = cur.length ∧ f = .slice pf fs.length cf ∧ Hid (Rq D bx (.slice p1 cur.length c1) 0 p1 g1 c1 cur wr) ∧ Hid (FrsAt W.heap.size wr pf gf cf V fs) ∧ Hid (∀ fs' r e, Feeds cur fs' r e → Feeds zs (fs ++ fs') r e) ∧ Hid (24 * fs.length + cur.length ≤ zs.length) ∧ Hid (Fr bx none W wr) ∧ Hid (∀ j, ob p1 = some j → W.heap.size ≤ j))
  case atStart => exact ⟨zs, p9, g9, c9, [], none, 0, 0, fun _ => undef, rfl, rfl, K1, Lib.hid (FrsAt.none F0.out.size _), Lib.hid (fun fs' r e h => h), Lib.hid (by simp), F0, O0⟩
  case round =>
    clear K1 F0 O0
    obtain ⟨cur, p1, g1, c1, fs, pf, gf, cf, V, hk, rfl, K, FS, CN, LN, FF, OW⟩ := hrel
    obtain ⟨kk, hkk⟩ : ∃ kk : Nat, kk = gk := ⟨_, rfl⟩
    rw [← hkk] at hk
    have ZB := HZ.out
    have LNo := LN.out
    have FE := Lib.hid (rfirst_any K.out (by omega))
    clear ZB LNo
    obtain ⟨pr, hp⟩ : ∃ pr, pr = pFirst cur := ⟨_, rfl⟩
    have HP := Lib.hid hp.symm
    rw [← hp] at FE
    clear hp
    cases pr with
    | wait =>
      have HE0 := Lib.hid (show decide ((0 : Int) = 0) = !false from rfl)
      go_wp2_with (first
    | (go_at_call 22; refine FE.out.mono ?_; rintro e w2 ⟨rfl, hb⟩; replace K := Lib.hid (K.out.call hb); replace FS := Lib.hid (FS.out.below hb); replace FF := Lib.hid (FF.out.underX (hb.mono FF.out.size)); clear hb; have E := Lib.hid (Mem.nil w2))
    | ((with_reducible refine wpList_at 7 rfl ?_); refine mem_alloc E 42 rfl rfl infoFr ?_; clear E; intro b7 w3 E7; have E := Lib.hid (show Mem w2 [(b7, 42, fr0)] w3 from E7.out); clear E7)
    | ((with_reducible refine wpList_atn rfl ?_); refine mem_store_row 0 E 42 rfl (.tmp 7) (.tmp 32) rfl rfl rfl rfl (by kernel_rfl) rfl (fr0_one) ?_; clear E; intro w4 E7; have E := Lib.hid (show Mem w2 [(b7, 42, fr0)] w4 from E7.out); clear E7; replace K := Lib.hid (K.out.call E.out.below); replace FS := Lib.hid (FS.out.below E.out.below); replace FF := Lib.hid (FF.out.underX (E.out.below.mono FF.out.size)))
    | ((with_reducible refine wpList_at 43 rfl ?_); refine wpList_ld1 27 (.tmp 42) rfl rfl rfl Tryd.underlying27 rfl (cell_of_here K.out.cX 1 (v := .int .i64 0) rfl) ?_)
    | ((with_reducible refine wpList_at 44 rfl ?_); refine wpList_kn rfl (.bool false) (by exact exec_neqE rfl rfl rfl HE0.out) ?_))
      have cq := cell_of_here K.out.cX 1 (v := .int .i64 0) rfl
      go_quiet (fail)
      go_wp2_with fail
      go_ret2
      exact ⟨fs, cur, 0, pf, gf, cf, V, by have := CN.out [] cur 0 (.wait HP.out); rwa [List.append_nil] at this, rfl, FS.out.below ⟨rfl, rfl, rfl, Nat.le_refl _, fun _ _ => rfl⟩, K.out.under0.trans ⟨rfl, rfl, rfl, Nat.le_refl _, fun _ _ => rfl⟩, FF.out.underX ⟨rfl, rfl, rfl, Nat.le_refl _, fun _ _ => rfl⟩, p1, g1, c1, K.out.call ⟨rfl, rfl, rfl, Nat.le_refl _, fun _ _ => rfl⟩, OW.out⟩
    | bad eq =>
      have HE := Lib.hid (show decide (eq = 0) = !true from decide_eq_false (pFirst_err HP.out))
      go_wp2_with (first
    | (go_at_call 22; refine FE.out.mono ?_; rintro e w2 ⟨rfl, hb⟩; replace FS := Lib.hid (FS.out.keep (keepB K.out.cX hb) (by decide) (by decide)); replace K := Lib.hid (K.out.set1.call (by rw [size_set]; exact hb)); replace FF := Lib.hid ((FF.out.set 1 _).underX (hb.mono FF.out.size)); clear hb; have E := Lib.hid (Mem.nil w2))
    | ((with_reducible refine wpList_at 7 rfl ?_); refine mem_alloc E 42 rfl rfl infoFr ?_; clear E; intro b7 w3 E7; have E := Lib.hid (show Mem w2 [(b7, 42, fr0)] w3 from E7.out); clear E7)
    | ((with_reducible refine wpList_atn rfl ?_); refine mem_store_row 0 E 42 rfl (.tmp 7) (.tmp 32) rfl rfl rfl rfl (by kernel_rfl) rfl (fr0_one) ?_; clear E; intro w4 E7; have E := Lib.hid (show Mem w2 [(b7, 42, fr0)] w4 from E7.out); clear E7; replace K := Lib.hid (K.out.call E.out.below); replace FS := Lib.hid (FS.out.below E.out.below); replace FF := Lib.hid (FF.out.underX (E.out.below.mono FF.out.size)))
    | ((with_reducible refine wpList_at 43 rfl ?_); refine wpList_ld1 27 (.tmp 42) rfl rfl rfl Tryd.underlying27 rfl (cell_of_here K.out.cX 1 (v := .int .i64 eq) rfl) ?_)
    | ((with_reducible refine wpList_at 44 rfl ?_); refine wpList_kn rfl (.bool true) (by exact exec_neqE rfl rfl rfl HE.out) ?_)
    | ((with_reducible refine wpList_atn rfl ?_); refine wpList_setc K.out.cX rfl 26 (.tmp 47) (.const (.slice none 0 0)) rfl rfl rfl (by kernel_rfl) rfl rfl rfl ?_; replace FS := Lib.hid (FS.out.keep (KeepT.of_only K.out.cX (only_set bx 0 (.slice none 0 0))) (by decide) (by decide)); replace K := Lib.hid (K.out.set0 (u := .slice none 0 0)); replace FF := Lib.hid (FF.out.set 0 (.slice none 0 0))))
      have cq := cell_of_here K.out.cX 1 (v := .int .i64 eq) rfl
      go_quiet (fail)
      go_wp2_with fail
      go_ret2
      exact ⟨fs, [], eq, pf, gf, cf, V, by have := CN.out [] [] eq (.bad HP.out); rwa [List.append_nil] at this, rfl, FS.out.below ⟨rfl, rfl, rfl, Nat.le_refl _, fun _ _ => rfl⟩, K.out.under0.trans ⟨rfl, rfl, rfl, Nat.le_refl _, fun _ _ => rfl⟩, FF.out.underX ⟨rfl, rfl, rfl, Nat.le_refl _, fun _ _ => rfl⟩, none, 0, 0, K.out.nil ⟨rfl, rfl, rfl, Nat.le_refl _, fun _ _ => rfl⟩, fun j e => by cases e⟩
    | frame k s pay =>
      obtain ⟨fl1, fl2, _, fl4⟩ := pFirst_frame HP.out
      have FL1 := Lib.hid fl1
      have PL := Lib.hid fl2
      clear fl1 fl2 fl4
      have CN2 := Lib.hid (show ∀ fs' r e, Feeds (cur.drop (24 + pay.length)) fs' r e → Feeds zs ((fs ++ [(s, pay)]) ++ fs') r e from fun fs' r e h => by
        rw [List.append_assoc]
        exact CN.out _ _ _ (.frame HP.out h))
      go_wp2_with (first
    | (go_at_call 22; refine FE.out.mono ?_; rintro e w2 ⟨p8, g8, c8, p9, g9, c9, rfl, N8, N9, hb⟩; have PO := Lib.hid (show TextOwn W.heap.size w2 (.slice p8 pay.length c8) pay from ⟨p8, g8, c8, rfl, by have := PL.out; omega, N8.mono FF.out.size⟩); have OW9 := Lib.hid (N9.mono FF.out.size).lies; have N9 := Lib.hid (N9.mono K.out.under0.size); clear N8; replace FS := Lib.hid (FS.out.keep (keepB K.out.cX hb) (by decide) (by decide)); replace K := Lib.hid ((K.out.set0.call (by rw [size_set]; exact hb)).swap N9.out); replace FF := Lib.hid ((FF.out.set 0 _).underX (hb.mono FF.out.size)); clear hb N9; have E := Lib.hid (Mem.nil w2))
    | ((with_reducible refine wpList_at 7 rfl ?_); refine mem_alloc E 42 rfl rfl infoFr ?_; clear E; intro b7 w3 E7; have E := Lib.hid (show Mem w2 [(b7, 42, fr0)] w3 from E7.out); clear E7)
    | ((with_reducible refine wpList_atn rfl ?_); refine mem_store_row 0 E 42 rfl (.tmp 7) (.tmp 32) rfl rfl rfl rfl (by kernel_rfl) rfl (frV_one _ _ _ _) ?_; clear E; intro w4 E7; have E := Lib.hid (show Mem w2 [(b7, 42, arr 2 (fU s (.slice p8 pay.length c8)))] w4 from E7.out); clear E7; replace K := Lib.hid (K.out.call E.out.below); replace FS := Lib.hid (FS.out.below E.out.below); replace FF := Lib.hid (FF.out.underX (E.out.below.mono FF.out.size)))
    | ((with_reducible refine wpList_at 37 rfl ?_); refine mem_load_row E 42 rfl (.tmp 7) rfl rfl List.mem_cons_self Tryd.underlying42 rfl (by rw [arr_size]; kernel_rfl) ?_; replace PO := Lib.hid (PO.out.below E.out.below))
    | ((with_reducible refine wpList_at 38 rfl ?_); refine wpList_vbs 31 42 2 1 rfl _ rfl (fU s (.slice p8 pay.length c8)) (one_arr (fU_one _ _ _ _)) (by unfold maxLen; omega) (ps := #[(0, .agg (arr 2 (fU s (.slice p8 pay.length c8))))]) (by kernel_rfl) (fun W => run_bs1 Tryd.underlying31 infoFr3 (by omega) (by omega) _ (arr_size _ _) W) (arr_vs _ _) ?_; intro p13 g13 w13 N13 hb13; replace K := Lib.hid (K.out.call hb13.out); replace FS := Lib.hid (FS.out.below hb13.out); replace PO := Lib.hid (PO.out.below hb13.out); replace FF := Lib.hid (FF.out.underX (hb13.out.mono FF.out.size)); clear hb13)
    | ((with_reducible refine wpList_at 39 rfl ?_); refine wpList_vapp 31 42 2 40 Tryd.underlying31 infoFr3 rfl (by omega) rfl (.tmp 36) (.tmp 38) rfl rfl (Lib.hid FS.out.1) rfl (Lib.hid N13.out.row) (by have := HZ.out; have := LN.out; unfold maxLen; omega) (by have := HZ.out; have := LN.out; omega) ?_; intro p14 g14 c14 w14 N14 hg14; have KT := Lib.hid (KeepT.of_grown FS.out.1 hg14.out); replace FF := Lib.hid (FF.out.underX (FS.out.1.under hg14.out (Nat.le_refl _) FF.out.size)); replace K := Lib.hid (K.out.keep (FS.out.1.under hg14.out K0W.out K.out.under0.size) KT.out (by decide) (by decide)); replace FS := Lib.hid (FS.out.snoc (s := s) (t := pay) KT.out N14.out rfl PO.out); clear KT hg14 N14 PO N13))
      go_roundg (cur.drop (24 + pay.length)).length
      case measure => have := FL1.out; rw [List.length_drop]; omega
      case rel =>
        have LN2 := LN.out
        have FL2 := FL1.out
        exact ⟨cur.drop (24 + pay.length), p9, g9, c9, fs ++ [(s, pay)], p14, g14, c14, _, rfl, by rw [List.length_append, List.length_singleton], K, FS, CN2, Lib.hid (by rw [List.length_append, List.length_singleton, List.length_drop]; omega), FF, OW9⟩
end Go.Proofs.YtkjcljobcidhfaaDoor
