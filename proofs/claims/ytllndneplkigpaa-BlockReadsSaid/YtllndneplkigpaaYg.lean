/- The document's block.Decode. -/
import Derived.Test.YtllndneplkigpaaYe
import Derived.Test.YtllndneplkigpaaBg
import Derived.Test.YtllndneplkigpaaRb
set_option linter.unusedSimpArgs false
set_option linter.unusedVariables false
set_option maxRecDepth 100000
namespace Go.Proofs.Ytllndneplkigpaa
open Go.RowKit Go.Lib Go.Sort

theorem lf_dropk (xs : List Nat) (m i : Nat) : lf (xs.drop m) i = lf xs (m + i) := by
  unfold lf
  simp only [List.getD_eq_getElem?_getD, List.getElem?_drop]
theorem ups_bc (H : Hd) (u v : Value) : ups (bc H u) 68 v = bc H v := by
  funext j
  unfold ups bc
  split <;> rfl
section
variable {ops : Array Oper} {rest : List Oper} {Q : Exit → Act → World → Prop} {op : Oper} {a : Act} {w w0 : World} {l : List (Nat × TypeId × Array Value)}
theorem mem_allocg (E : Hid (Mem w0 l w)) (T : TypeId) (hg : op.guard = none) (ho : op.op = .alloc T) {z : Value} {n : Nat} (hz : (Try.prog.info? T).map (fun i => (i.zero, i.size)) = some (some z, n))
    (h : ∀ b w', Hid (Mem w0 ((b, T, z.cells) :: l) w') → Hid (Below w.heap.size w w') → Hid (w.heap.size ≤ b) → wpList Try.prog ops Q rest (a.put op.dst (.pointer (some ⟨b, 0, none⟩))) w') : wpList Try.prog ops Q (op :: rest) a w := by
  refine mem_known hg (.pointer (some ⟨w.heap.size, 0, none⟩)) (w.alloc (.cells z.cells T)) ?_ (h _ _ (Lib.hid (E.out.new T _)) (Lib.hid (below_new w _)) (Lib.hid (Nat.le_refl _)))
  unfold execOp
  simp only [ho, Sem.run_bind, Instr.alloc, (zero_of_info hz).1, Result.andThen_ok]
  rfl
end
theorem built_blkh (H : Hd) : Try.prog.built 41 (#[(0, .agg (arr 68 (hc H)))] : Array (Nat × Value)).toList = some (arr 69 (bc H (.slice none 0 0))) := by kernel_rfl
theorem bch_one (H : Hd) (v : Value) (hv : v.oneCell' = true) : ∀ j, j < 69 → (bc H v j).oneCell' = true := fun j hj => by
  unfold bc
  split
  · exact hv
  · unfold hc
    repeat' split
    all_goals rfl
/-- A header read by the document. -/
theorem rhd_any {w : World} {p : Option Addr} {c : Nat} {xs : List Nat} (A : TextAt w (.slice p xs.length c) xs) (h : 80 ≤ xs.length) : Calls Try.prog 49 #[.slice p xs.length c] w fun e w' => ∃ p' c', e = .returned (.tuple #[.agg (arr 68 (hc (hdOf (lf (xs.take 80))))), .slice p' (xs.drop 80).length c', .int .i64 0]) ∧ TextAt w' (.slice p' (xs.drop 80).length c') (xs.drop 80) ∧ Below w.heap.size w w' := by
  have AB := A.isB
  obtain ⟨p1, g, o, c1, hv, hl, R⟩ := A
  injection hv with e1 e2 e3
  subst e1 e3
  obtain rfl := R.head (by omega)
  have e80 : arr 68 (hc (hdOf (lf xs))) = arr 68 (hc (hdOf (lf (xs.take 80)))) := by
    have hb : ∀ i, lf (xs.take 80) i < 256 := lf_lt fun x hx => AB x (List.mem_of_mem_take hx)
    exact hc_back (hdOf_ok hb) fun i hi => by rw [hb_hdOf hb i hi, lf_takek hi]
  refine (rhdec_long (Lib.hid R) h (by omega)).mono fun e w' hg => ?_
  obtain ⟨p2, g2, c2, he, hr, hb⟩ := hg
  rw [e80] at he
  have hd : (xs.drop 80).length = xs.length - 80 := List.length_drop
  refine ⟨p2, c2, by rw [he, hd], ⟨p2, g2, 0, c2, rfl, by omega, ?_⟩, hb⟩
  rw [hd]
  exact hr.to (fun i hi => (lf_dropk _ _ _).symm) (lf_lt fun x hx => AB x (List.mem_of_mem_drop hx))
/-- A count read by the document. -/
theorem rcount_any {w : World} {p : Option Addr} {c : Nat} {xs r : List Nat} {k : Nat} (A : TextAt w (.slice p xs.length c) xs) (h : pVal xs = .good k r) : Calls Try.prog 50 #[.slice p xs.length c] w fun e w' => ∃ p' c', e = .returned (.tuple #[.int .u64 ((k : Nat) : Int), .slice p' r.length c', .int .i64 0]) ∧ TextAt w' (.slice p' r.length c') r ∧ Below w.heap.size w w' := by
  unfold pVal at h
  split at h
  · rename_i hd
    injection h with h1 h2
    subst h1 h2
    have AB := A.isB
    obtain ⟨p1, g, o, c1, hv, hl, R⟩ := A
    injection hv with e1 e2 e3
    subst e1 e3
    refine (ref_decode_good (Lib.hid R) (Lib.hid hd) hl).mono fun e w' hg => ?_
    obtain ⟨p2, g2, c2, he, hr, hb⟩ := hg
    have hdl : (xs.drop (wOf (lf xs 0))).length = xs.length - wOf (lf xs 0) := List.length_drop
    refine ⟨p2, c2, by rw [he, hdl], ⟨p2, g2, 0, c2, rfl, by omega, ?_⟩, hb⟩
    rw [hdl]
    exact hr.row.to (fun i hi => (lf_dropk _ _ _).symm) (lf_lt fun x hx => AB x (List.mem_of_mem_drop hx))
  · cases h
theorem rcount_bad {w : World} {p : Option Addr} {c : Nat} {xs : List Nat} {er : Int} (A : TextAt w (.slice p xs.length c) xs) (h : pVal xs = .bad er) : Calls Try.prog 50 #[.slice p xs.length c] w fun e w' => e = .returned (.tuple #[.int .u64 0, .slice none 0 0, .int .i64 er]) ∧ Below w.heap.size w w' := by
  unfold pVal at h
  split at h
  · cases h
  · rename_i hd
    injection h with h1
    subst h1
    obtain ⟨p1, g, o, c1, hv, hl, R⟩ := A
    injection hv with e1 e2 e3
    subst e1 e3
    exact ref_decode_bad (Lib.hid R) (Lib.hid rfl) hd hl
set_option maxHeartbeats 8000000 in
theorem rbdec_few {W : World} {v : Value} {xs : List Nat} (A : Hid (TextAt W v xs)) (h : 200000 < xs.length ∨ xs.length < 80) : Calls Try.prog 18 #[v] W (BDec W (pBlkL xs)) := by
  have E := Lib.hid (Mem.nil W)
  obtain ⟨p, c, rfl, hl⟩ := A.out.slice
  obtain ⟨n, hn⟩ : ∃ n, n = xs.length := ⟨_, rfl⟩
  by_cases h2 : 200000 < xs.length
  · have PL := Lib.hid (show pBlkL xs = .bad 91 from if_pos h2)
    rw [← hn] at h2 ⊢
    have t2 : (200000 : Int) < ((n : Nat) : Int) := by omega
    clear h2 A hl h hn
    go_enter Try.func18, Try.ntmps18
    go_wp2_with (first
      | ((with_reducible refine wpList_at 2 rfl ?_); refine mem_alloc E 41 rfl rfl infoBz ?_; clear E; intro b2 w2 E; simp only [arr_cells'] at E)
      | ((with_reducible refine wpList_at 15 rfl ?_); refine wpList_bld 41 _ rfl rfl (ps := #[]) (by kernel_rfl) built_blk0 ?_) | ((with_reducible refine wpList_atn rfl ?_); refine mem_store_row 0 E 41 rfl (.tmp 2) (.tmp 15) rfl rfl rfl rfl (by kernel_rfl) (by simp only [arr_size]) (all_of bz_one) ?_; clear E; intro w99 E; simp only [List.set_cons_zero, List.set_cons_succ] at E))
    refine bodyPost_ret (res_blk (fn := Try.f18) rfl _ _ _ rfl (E.out.get List.mem_cons_self) blk_is rfl (by rw [arr_size]; kernel_rfl)) rfl ?_
    rw [PL.out]
    exact ⟨rfl, E.out.below⟩
  · have h8 : n < 80 := by omega
    have PL := Lib.hid (show pBlkL xs = .bad 50 from (if_neg h2).trans (Res.bb (Res.bb (by unfold pTake; rw [if_neg (by omega)]))))
    have t2 : ¬ (200000 : Int) < ((n : Nat) : Int) := by omega
    have HC := Lib.hid (show ∀ w' : World, Calls Try.prog 49 #[.slice p n c] w' fun e w'' => e = .returned (.tuple #[.agg (arr 68 (hc h0)), .slice none 0 0, .int .i64 50]) ∧ Below w'.heap.size w' w'' from fun w' => rhdec_short h8)
    rw [← hn]
    clear h2 A hl h hn h8
    go_enter Try.func18, Try.ntmps18
    go_wp2_with (first
      | ((with_reducible refine wpList_at 2 rfl ?_); refine mem_alloc E 41 rfl rfl infoBz ?_; clear E; intro b2 w2 E; simp only [arr_cells'] at E)
      | (go_at_call 49; refine (HC.out _).mono ?_; rintro e w3 ⟨rfl, hb⟩; replace E := Lib.hid (E.out.call hb); clear hb)
      | ((with_reducible refine wpList_at 4 rfl ?_); refine mem_alloc E 39 rfl rfl infoH ?_; clear E; intro b4 w4 E; simp only [arr_cells'] at E)
      | ((with_reducible refine wpList_atn rfl ?_); refine mem_store_row 0 E 39 rfl (.tmp 4) (.tmp 19) rfl rfl rfl rfl (by kernel_rfl) (by simp only [arr_size]) (hc_one _) ?_; clear E; intro w5 E; simp only [List.set_cons_zero, List.set_cons_succ] at E)
      | ((with_reducible refine wpList_at 24 rfl ?_); refine wpList_bld 41 _ rfl rfl (ps := #[]) (by kernel_rfl) built_blk0 ?_) | ((with_reducible refine wpList_atn rfl ?_); refine mem_store_row 1 E 41 rfl (.tmp 2) (.tmp 24) rfl rfl rfl rfl (by kernel_rfl) (by simp only [arr_size]) (all_of bz_one) ?_; clear E; intro w99 E; simp only [List.set_cons_zero, List.set_cons_succ] at E))
    refine bodyPost_ret (res_blk (fn := Try.f18) rfl _ _ _ rfl (E.out.get (List.mem_cons_of_mem _ List.mem_cons_self)) blk_is rfl (by rw [arr_size]; kernel_rfl)) rfl ?_
    rw [PL.out]
    exact ⟨rfl, E.out.below⟩
set_option maxHeartbeats 16000000 in
theorem rbdec_long {W : World} {v : Value} {xs : List Nat} (A : Hid (TextAt W v xs)) (h1 : ¬ 200000 < xs.length) (h2 : 80 ≤ xs.length) : Calls Try.prog 18 #[v] W (BDec W (pBlkL xs)) := by
  have E := Lib.hid (Mem.nil W)
  obtain ⟨p, c, rfl, hl⟩ := A.out.slice
  obtain ⟨n, hn⟩ : ∃ n, n = xs.length := ⟨_, rfl⟩
  obtain ⟨H, hH⟩ : ∃ H, H = hdOf (lf (xs.take 80)) := ⟨_, rfl⟩
  obtain ⟨r0, hr0⟩ : ∃ r0, r0 = xs.drop 80 := ⟨_, rfl⟩
  have OKH := Lib.hid (show H.Ok by rw [hH]; exact hdOf_ok (lf_lt fun x hx => A.out.isB x (List.mem_of_mem_take hx)))
  have P0 : pBlkL xs = (pTxs r0).bind fun l s => (pEnd s).bind fun _ s => .good ⟨H, l⟩ s := (if_neg h1).trans (by
    have e : pHd xs = .good H r0 := by rw [hH, hr0]; exact Res.bg (by unfold pTake; rw [if_pos h2])
    exact Res.bg e)
  have L0 : r0.length ≤ 200000 := by rw [hr0, List.length_drop]; omega
  obtain ⟨rl0, hrl0⟩ : ∃ rl0, rl0 = r0.length := ⟨_, rfl⟩
  have HC := Lib.hid (show ∀ w' : World, Below W.heap.size W w' → Calls Try.prog 49 #[.slice p n c] w' fun e w'' => ∃ p' c', e = .returned (.tuple #[.agg (arr 68 (hc H)), .slice p' rl0 c', .int .i64 0]) ∧ TextAt w'' (.slice p' rl0 c') r0 ∧ Below w'.heap.size w' w'' from fun w' hb => by
    rw [hn, hrl0, hr0, hH]
    exact rhd_any (A.out.below hb) h2)
  have t2 : ¬ (200000 : Int) < ((n : Nat) : Int) := by omega
  rw [← hn]
  cases hv : pVal r0 with
  | bad er =>
    have he := errs_val _ _ hv
    have PL := Lib.hid (show pBlkL xs = .bad er from P0.trans (Res.bb (Res.bb (Res.bb hv))))
    have CC := Lib.hid (show ∀ (w' : World) (p' : Option Addr) (c' : Nat), TextAt w' (.slice p' rl0 c') r0 → Calls Try.prog 50 #[.slice p' rl0 c'] w' fun e w'' => e = .returned (.tuple #[.int .u64 0, .slice none 0 0, .int .i64 er]) ∧ Below w'.heap.size w' w'' from fun w' p' c' hT => by rw [hrl0] at hT ⊢; exact rcount_bad hT hv)
    have c2 : (er == 0) = false := by simp; exact he
    have c3 : (er != 0) = true := by simp; exact he
    clear hl hn hH hr0 P0 L0 hrl0 hv he A h1 h2
    go_enter Try.func18, Try.ntmps18
    go_wp2_with (first
      | ((with_reducible refine wpList_at 2 rfl ?_); refine mem_alloc E 41 rfl rfl infoBz ?_; clear E; intro b2 w2 E; simp only [arr_cells'] at E)
      | (go_at_call 49; refine (HC.out _ E.out.below).mono ?_; rintro e w3 ⟨p5, c5, rfl, hT, hb⟩; have T5 := Lib.hid hT; replace E := Lib.hid (E.out.call hb); clear hb hT)
      | ((with_reducible refine wpList_at 4 rfl ?_); refine mem_allocg E 39 rfl rfl infoH ?_; clear E; intro b4 w4 E hb4 ge4; simp only [arr_cells'] at E)
      | ((with_reducible refine wpList_atn rfl ?_); refine mem_store_rowo 0 E 39 rfl (.tmp 4) (.tmp 19) rfl rfl rfl rfl (by kernel_rfl) (by simp only [arr_size]) (hc_one _) ?_; intro w5 E9 HO; simp only [List.set_cons_zero, List.set_cons_succ] at E9; have BB := Lib.hid (hb4.out.trans (HO.out.2.below ge4.out hb4.out.size)); replace T5 := Lib.hid (T5.out.below BB.out); clear hb4 ge4 BB HO E; have E := E9; clear E9)
      | (go_at_call 50; refine (CC.out _ _ _ T5.out).mono ?_; rintro e w6 ⟨rfl, hb⟩; replace E := Lib.hid (E.out.call hb); clear hb T5)
      | ((with_reducible refine wpList_at 34 rfl ?_); refine wpList_bld 41 _ rfl rfl (ps := #[]) (by kernel_rfl) built_blk0 ?_) | ((with_reducible refine wpList_atn rfl ?_); refine mem_store_row 1 E 41 rfl (.tmp 2) (.tmp 34) rfl rfl rfl rfl (by kernel_rfl) (by simp only [arr_size]) (all_of bz_one) ?_; clear E; intro w99 E; simp only [List.set_cons_zero, List.set_cons_succ] at E))
    refine bodyPost_ret (res_blk (fn := Try.f18) rfl _ _ _ rfl (E.out.get (List.mem_cons_of_mem _ List.mem_cons_self)) blk_is rfl (by rw [arr_size]; kernel_rfl)) rfl ?_
    rw [PL.out]
    exact ⟨rfl, E.out.below⟩
  | good k r1 =>
    have CC := Lib.hid (show ∀ (w' : World) (p' : Option Addr) (c' : Nat), TextAt w' (.slice p' rl0 c') r0 → Calls Try.prog 50 #[.slice p' rl0 c'] w' fun e w'' => ∃ p9 c9, e = .returned (.tuple #[.int .u64 ((k : Nat) : Int), .slice p9 r1.length c9, .int .i64 0]) ∧ TextAt w'' (.slice p9 r1.length c9) r1 ∧ Below w'.heap.size w' w'' from fun w' p' c' hT => by rw [hrl0] at hT ⊢; exact rcount_any hT hv)
    have L1 : r1.length ≤ 200000 := Nat.le_trans (eats_val.le hv) L0
    by_cases hk : k ≤ 2000
    · have PL : Hid (pBlkL xs = (pRep pTx k r1).bind fun l s => (pEnd s).bind fun _ s => .good ⟨H, l⟩ s) := Lib.hid (P0.trans (by
        have e : pTxs r0 = pRep pTx k r1 := Res.bg ((Res.bg hv).trans (if_pos hk))
        rw [e]))
      have tk : ¬ (2000 : Int) < ((k : Nat) : Int) := by omega
      have HL1 := Lib.hid L1
      clear hl hn hH hr0 P0 L0 L1 hrl0 hv A h1 h2
      go_enter Try.func18, Try.ntmps18
      go_upto_region 13 with (first
        | ((with_reducible refine wpList_at 2 rfl ?_); refine mem_alloc E 41 rfl rfl infoBz ?_; clear E; intro b2 w2 E; simp only [arr_cells'] at E)
        | (go_at_call 49; refine (HC.out _ E.out.below).mono ?_; rintro e w3 ⟨p5, c5, rfl, hT, hb⟩; have T5 := Lib.hid hT; replace E := Lib.hid (E.out.call hb); clear hb hT)
        | ((with_reducible refine wpList_at 4 rfl ?_); refine mem_allocg E 39 rfl rfl infoH ?_; clear E; intro b4 w4 E hb4 ge4; simp only [arr_cells'] at E)
        | ((with_reducible refine wpList_atn rfl ?_); refine mem_store_rowo 0 E 39 rfl (.tmp 4) (.tmp 19) rfl rfl rfl rfl (by kernel_rfl) (by simp only [arr_size]) (hc_one _) ?_; intro w5 E9 HO; simp only [List.set_cons_zero, List.set_cons_succ] at E9; have BB := Lib.hid (hb4.out.trans (HO.out.2.below ge4.out hb4.out.size)); replace T5 := Lib.hid (T5.out.below BB.out); clear hb4 ge4 BB HO E; have E := E9; clear E9)
        | (go_at_call 50; refine (CC.out _ _ _ T5.out).mono ?_; rintro e w6 ⟨p9, c9, rfl, hT, hb⟩; clear T5; have T5 := Lib.hid hT; replace E := Lib.hid (E.out.call hb); clear hb hT)
        | ((with_reducible refine wpList_at 39 rfl ?_); refine mem_load_row E 39 rfl (.tmp 4) rfl rfl List.mem_cons_self Try.underlying39 rfl (by simp only [arr_size]; kernel_rfl) ?_)
        | ((with_reducible refine wpList_at 40 rfl ?_); refine wpList_bld 41 _ rfl rfl (ps := #[(0, .agg (arr 68 (hc H)))]) (by kernel_rfl) (built_blkh H) ?_)
        | ((with_reducible refine wpList_at 8 rfl ?_); refine mem_allocg E 41 rfl rfl infoBz ?_; clear E; intro b8 w8 E hb8 ge8; simp only [arr_cells'] at E)
        | ((with_reducible refine wpList_atn rfl ?_); refine mem_store_rowo 0 E 41 rfl (.tmp 8) (.tmp 40) rfl rfl rfl rfl (by kernel_rfl) (by simp only [arr_size]) (all_of (bch_one H _ rfl)) ?_; intro w10 E9 HO; simp only [List.set_cons_zero, List.set_cons_succ] at E9; have BB := Lib.hid (hb8.out.trans (HO.out.2.below ge8.out hb8.out.size)); replace T5 := Lib.hid (T5.out.below BB.out); clear hb8 ge8 BB HO E; have E := E9; clear E9))
      have B10 := Lib.hid E.out.below.size
      replace E : Hid (Mem W [(b8, 41, arr 69 (bc H (.slice none 0 0))), (b4, 39, arr 68 (hc H)), (b2, 41, arr 69 bz)] w10) := E
      have k3 : k ≤ 140737488355328 := by omega
      go_loopg [5, 42] k (fun gk s5 i wr => ∃ (j : Nat) (p5 : Option Addr) (c5 : Nat) (r : List Nat) (ts : List TTx) (vx : Value), j + gk = k ∧ i = .int .u64 ((j : Nat) : Int) ∧ s5 = .slice p5 r.length c5 ∧ Hid (TextAt wr (.slice p5 r.length c5) r) ∧ Hid (r.length ≤ 200000) ∧ Hid (ts.length = j) ∧ Hid (Mem W [(b8, 41, arr 69 (bc H vx)), (b4, 39, arr 68 (hc H)), (b2, 41, arr 69 bz)] wr) ∧ Hid (TxsOwn W.heap.size wr vx ts) ∧ Hid (pBlkL xs = (pRep pTx gk r).bind fun l s => (pEnd s).bind fun _ s => .good ⟨H, ts ++ l⟩ s))
      case atStart => exact ⟨0, p9, c9, r1, [], .slice none 0 0, by omega, rfl, rfl, T5, HL1, Lib.hid rfl, E, Lib.hid ⟨none, 0, 0, fun _ => undef, rfl, by simp, vown_nothing _ _ _ _ _ B10.out, fun i h => absurd h (by simp)⟩, PL⟩
      case round =>
        clear E T5 HL1 PL
        obtain ⟨j, p5, c5, r, ts, vx, hj, rfl, rfl, T5, RL, TL, E, TX, PL⟩ := hrel
        obtain ⟨kk, rfl⟩ : ∃ kk : Nat, kk = gk := ⟨_, rfl⟩
        obtain ⟨rl, hrl⟩ : ∃ rl, rl = r.length := ⟨_, rfl⟩
        have HRL := Lib.hid hrl
        rw [← hrl] at T5 ⊢
        clear hrl
        by_cases hlt : j < k
        · have c1 : ((j : Nat) : Int) < ((k : Nat) : Int) := by omega
          obtain ⟨q1, rfl⟩ : ∃ q1, kk = q1 + 1 := ⟨kk - 1, by omega⟩
          cases hp : pTx r with
          | bad er =>
            have he := errs_tx _ _ hp
            have PB := Lib.hid (show pBlkL xs = .bad er from PL.out.trans (pRep_bad hp _))
            have CT := Lib.hid (show ∀ w', Below wr.heap.size wr w' → Calls Try.prog 10 #[.slice p5 rl c5] w' fun e w'' => e = .returned (.tuple #[.agg (arr 4 txz), .slice none 0 0, .int .i64 er]) ∧ Below w'.heap.size w' w'' from fun w' hb => by
              have := rtxdec_any (Lib.hid (T5.out.below hb))
              rwa [hp] at this)
            have c2 : (er == 0) = false := by simp; exact he
            have c3 : (er != 0) = true := by simp; exact he
            clear he hp
            go_wp2_with (first
              | (go_at_call 10; refine (CT.out _ (Below.refl _ _)).mono ?_; rintro e w11 ⟨rfl, hb⟩; replace E := Lib.hid (E.out.call hb); clear hb)
              | ((with_reducible refine wpList_at 9 rfl ?_); refine mem_alloc E 28 rfl rfl infoTxz ?_; clear E; intro b9 w9 E; simp only [arr_cells'] at E)
              | ((with_reducible refine wpList_atn rfl ?_); refine mem_store_row 0 E 28 rfl (.tmp 9) (.tmp 47) rfl rfl rfl rfl (by kernel_rfl) (by simp only [arr_size]) (all_of txz_one) ?_; clear E; intro w12 E; simp only [List.set_cons_zero, List.set_cons_succ] at E)
              | ((with_reducible refine wpList_at 52 rfl ?_); refine wpList_bld 41 _ rfl rfl (ps := #[]) (by kernel_rfl) built_blk0 ?_) | ((with_reducible refine wpList_atn rfl ?_); refine mem_store_row 3 E 41 rfl (.tmp 2) (.tmp 52) rfl rfl rfl rfl (by kernel_rfl) (by simp only [arr_size]) (all_of bz_one) ?_; clear E; intro w99 E; simp only [List.set_cons_zero, List.set_cons_succ] at E))
            refine bodyPost_ret (res_blk (fn := Try.f18) rfl _ _ _ rfl (E.out.get (List.mem_cons_of_mem _ (List.mem_cons_of_mem _ (List.mem_cons_of_mem _ List.mem_cons_self)))) blk_is rfl (by rw [arr_size]; kernel_rfl)) rfl ?_
            rw [PB.out]
            exact ⟨rfl, E.out.below⟩
          | good t r2 =>
            have PE : Hid (pBlkL xs = (pRep pTx q1 r2).bind fun l s => (pEnd s).bind fun _ s => .good ⟨H, (ts ++ [t]) ++ l⟩ s) := Lib.hid (PL.out.trans ((pRep_step hp _).trans (congrArg (Res.bind (pRep pTx q1 r2)) (funext fun l => funext fun s => by rw [List.append_assoc]; rfl))))
            have RL2 := Lib.hid (Nat.le_trans (eats_tx.le hp) RL.out)
            have CT := Lib.hid (show Calls Try.prog 10 #[.slice p5 rl c5] wr fun e w'' => ∃ V p7 g7 c7, e = .returned (.tuple #[.agg (arr 4 V), .slice p7 r2.length c7, .int .i64 0]) ∧ TxOwn wr.heap.size w'' V t ∧ TextOwn wr.heap.size w'' (.slice p7 r2.length c7) r2 ∧ Below wr.heap.size wr w'' from by
              have := rtxdec_any T5
              rw [hp] at this
              refine this.mono fun e w'' h => ?_
              obtain ⟨v, p7, g7, c7, he, ⟨V, hV0, hV⟩, hN, hbb⟩ := h
              subst hV0
              exact ⟨V, p7, g7, c7, he, hV, ⟨p7, g7, c7, rfl, by have := RL2.out; omega, hN⟩, hbb⟩)
            obtain ⟨pt, gt, ct, Vt, hvt, hlt2, N3', I3'⟩ := TX.out
            rw [TL.out] at hvt N3'
            subst hvt
            have N3 := Lib.hid N3'
            have I3 := Lib.hid I3'
            clear hp PL N3' I3' TX hlt2
            go_upto_region 18 with (first
              | (go_at_call 10; refine CT.out.mono ?_; rintro e w11 ⟨V, p7, g7, c7, rfl, hV, hT, hb⟩; have TI := Lib.hid (hV.mono E.out.below.size); have T7 := Lib.hid (hT.mono E.out.below.size); replace N3 := Lib.hid (N3.out.below hb); replace I3 := Lib.hid (fun i h => (I3.out i h).below hb); replace E := Lib.hid (E.out.call hb); clear hb hV hT)
              | ((with_reducible refine wpList_at 9 rfl ?_); refine mem_allocg E 28 rfl rfl infoTxz ?_; clear E; intro b9 w9 E hb9 ge9; simp only [arr_cells'] at E)
              | ((with_reducible refine wpList_atn rfl ?_); refine mem_store_rowo 0 E 28 rfl (.tmp 9) (.tmp 47) rfl rfl rfl rfl (by kernel_rfl) (by simp only [arr_size]) (all_of TI.out.one) ?_; intro w12 E9 HO; simp only [List.set_cons_zero, List.set_cons_succ] at E9; have BB := Lib.hid (hb9.out.trans (HO.out.2.below ge9.out hb9.out.size)); replace TI := Lib.hid (TI.out.below BB.out); replace T7 := Lib.hid (T7.out.below BB.out); replace N3 := Lib.hid (N3.out.below BB.out); replace I3 := Lib.hid (fun i h => (I3.out i h).below BB.out); clear hb9 ge9 BB HO E; have E := E9; clear E9)
              | ((with_reducible refine wpList_at 55 rfl ?_); refine mem_load_cell E 35 (by kernel_rfl) (.tmp 54) rfl rfl (List.mem_cons_of_mem _ List.mem_cons_self) Try.underlying35 rfl (v := .slice pt j ct) (by rw [arr_get 69 _ 68 (by omega)]; rfl) ?_)
              | ((with_reducible refine wpList_at 56 rfl ?_); refine mem_load_row E 28 rfl (.tmp 9) rfl rfl List.mem_cons_self Try.underlying28 rfl (by simp only [arr_size]; kernel_rfl) ?_; replace E := Lib.hid E.out.tail)
              | ((with_reducible refine wpList_at 57 rfl ?_); refine wpList_vbs 35 28 4 1 rfl _ rfl V (one_arr TI.out.one) (by unfold maxLen; omega) (ps := #[(0, .agg (arr 4 V))]) (by kernel_rfl) (fun W => run_bs1 Try.underlying35 infoTx3 (by omega) (by omega) _ (arr_size _ _) W) (arr_vs _ _) ?_; intro p13 g13 w13 N13 hb13; replace E := Lib.hid (E.out.call hb13.out); replace TI := Lib.hid (TI.out.below hb13.out); replace T7 := Lib.hid (T7.out.below hb13.out); replace N3 := Lib.hid (N3.out.below hb13.out); replace I3 := Lib.hid (fun i h => (I3.out i h).below hb13.out); clear hb13)
              | (at_builtin; refine wpList_vapp 35 28 4 64 Try.underlying35 infoTx3 (by first | rfl | exact arr_size _ _) (by omega) rfl (.tmp 55) (.tmp 57) rfl rfl N3 rfl (Lib.hid N13.out.row) (by unfold maxLen; omega) (by omega) ?_; intro p14 g14 c14 w14 N14 hg14; have KT := Lib.hid (KeepT.of_grown N3.out hg14.out); have BU := Lib.hid (N3.out.under hg14.out (Nat.le_refl _) E.out.below.size); replace E := Lib.hid (E.out.keepT BU.out KT.out (by intro p hp; simp only [List.mem_cons, List.not_mem_nil, or_false] at hp; rcases hp with rfl | rfl | rfl <;> first | exact (by decide : (41 : TypeId) ≠ 28) | exact (by decide : (39 : TypeId) ≠ 28))); replace TI := Lib.hid (TI.out.keep KT.out (by decide) (by decide) (by decide) (by decide)); replace T7 := Lib.hid (T7.out.keep KT.out (by decide)); replace I3 := Lib.hid (fun i h => (I3.out i h).keep KT.out (by decide) (by decide) (by decide) (by decide)); clear KT BU hg14 N13 N3)
              | ((with_reducible refine wpList_atn rfl ?_); refine mem_store_cello (v := .slice p14 (j + 1) c14) 0 E 35 rfl (.tmp 59) (.tmp 58) rfl rfl rfl rfl (by kernel_rfl) rfl rfl (by rw [arr_size]; omega) ?_; intro w15 E9 HO; have KT := Lib.hid (KeepT.of_only HO.out.1 HO.out.2); simp only [List.set_cons_zero, List.set_cons_succ, arr_ups, ups_bc] at E9; replace TI := Lib.hid (TI.out.keep KT.out (by decide) (by decide) (by decide) (by decide)); replace T7 := Lib.hid (T7.out.keep KT.out (by decide)); replace N14 := Lib.hid (N14.out.keep KT.out (by decide)); replace I3 := Lib.hid (fun i h => (I3.out i h).keep KT.out (by decide) (by decide) (by decide) (by decide)); clear KT HO E; have E := E9; clear E9))
            have TX2 : Hid (TxsOwn W.heap.size w15 (.slice p14 (j + 1) c14) (ts ++ [t])) := Lib.hid (by
              have hL : (ts ++ [t]).length = j + 1 := by rw [List.length_append, List.length_singleton, TL.out]
              refine ⟨p14, g14, c14, _, by rw [hL], by rw [hL]; omega, by rw [hL]; exact N14.out, fun i h => ?_⟩
              rw [hL] at h
              by_cases e : i = j
              · subst e
                have e2 : (ts ++ [t])[i]'(by rw [hL]; exact h) = t := by
                  rw [List.getElem_append_right (by rw [TL.out]; omega)]
                  simp
                rw [e2]
                exact TI.out.to fun y hy => vcat_hi.symm
              · have hi : i < ts.length := by rw [TL.out]; omega
                have e2 : (ts ++ [t])[i]'(by rw [hL]; exact h) = ts[i] := List.getElem_append_left hi
                rw [e2]
                exact (I3.out i hi).to fun y hy => (vcat_lo (by omega) hy).symm)
            have TL2 : Hid ((ts ++ [t]).length = j + 1) := Lib.hid (by rw [List.length_append, List.length_singleton, TL.out])
            have T8 := Lib.hid T7.out.at
            clear N14 I3 TI T7 CT T5
            go_wp2
            go_roundg q1
            case measure => omega
            case rel => exact ⟨j + 1, p7, c7, r2, ts ++ [t], _, by omega, by go_num, rfl, T8, RL2, TL2, E, TX2, PE⟩
        · obtain rfl : j = k := by omega
          obtain rfl : kk = 0 := by omega
          have c1 : ¬ (((j : Nat) : Int) < ((j : Nat) : Int)) := by omega
          have PE : Hid (pBlkL xs = (pEnd r).bind fun _ s => .good ⟨H, ts⟩ s) := Lib.hid (PL.out.trans (by rw [pRep]; show (pEnd r).bind (fun _ s => Res.good (⟨H, ts ++ []⟩ : TBlk) s) = _; rw [List.append_nil]))
          clear PL
          by_cases hr : rl = 0
          · have PG : Hid (pBlkL xs = .good ⟨H, ts⟩ r) := Lib.hid (PE.out.trans (Res.bg (if_pos (by rw [← HRL.out]; exact hr))))
            subst hr
            have TO := Lib.hid TX.out.cells1
            have BO : Hid (∀ w', TxsOwn W.heap.size w' vx ts → BlkOwn W.heap.size w' (bc H vx) ⟨H, ts⟩) := Lib.hid fun w' h => ⟨fun j hj => by unfold bc; rw [if_neg (by omega)], OKH.out, by show TxsOwn _ _ (bc H vx 68) ts; exact h⟩
            clear PE T5
            go_wp2_with (first
              | ((with_reducible refine wpList_at 66 rfl ?_); refine mem_load_row E 41 rfl (.tmp 8) rfl rfl List.mem_cons_self blk_is rfl (by simp only [arr_size]; kernel_rfl) ?_)
              | ((with_reducible refine wpList_atn rfl ?_); refine mem_store_rowk 2 E 41 rfl (.tmp 2) (.tmp 66) rfl rfl rfl rfl (by kernel_rfl) (by simp only [arr_size]) (all_of (bch_one H _ TO.out.2)) ?_; clear E; intro w19 E KT; simp only [List.set_cons_zero, List.set_cons_succ] at E; replace TX := Lib.hid (TX.out.keep KT.out (by decide) (by decide) (by decide) (by decide) (by decide)); clear KT))
            refine bodyPost_ret (res_blk (fn := Try.f18) rfl _ _ _ rfl (E.out.get (List.mem_cons_of_mem _ (List.mem_cons_of_mem _ List.mem_cons_self))) blk_is rfl (by rw [arr_size]; kernel_rfl)) rfl ?_
            rw [PG.out]
            exact ⟨_, rfl, BO.out _ TX.out, E.out.below⟩
          · have PB : Hid (pBlkL xs = .bad 70) := Lib.hid (PE.out.trans (Res.bb (if_neg (by rw [← HRL.out]; exact hr))))
            have c4 : ((rl : Nat) : Int) > 0 := by omega
            clear PE hr
            go_wp2_with (first
              | ((with_reducible refine wpList_at 65 rfl ?_); refine wpList_bld 41 _ rfl rfl (ps := #[]) (by kernel_rfl) built_blk0 ?_) | ((with_reducible refine wpList_atn rfl ?_); refine mem_store_row 2 E 41 rfl (.tmp 2) (.tmp 65) rfl rfl rfl rfl (by kernel_rfl) (by simp only [arr_size]) (all_of bz_one) ?_; clear E; intro w99 E; simp only [List.set_cons_zero, List.set_cons_succ] at E))
            refine bodyPost_ret (res_blk (fn := Try.f18) rfl _ _ _ rfl (E.out.get (List.mem_cons_of_mem _ (List.mem_cons_of_mem _ List.mem_cons_self))) blk_is rfl (by rw [arr_size]; kernel_rfl)) rfl ?_
            rw [PB.out]
            exact ⟨rfl, E.out.below⟩
    · have PL : Hid (pBlkL xs = .bad 4) := Lib.hid (P0.trans (Res.bb (Res.bb ((Res.bg hv).trans (if_neg hk)))))
      have tk : (2000 : Int) < ((k : Nat) : Int) := by omega
      clear hl hn hH hr0 P0 L0 L1 hrl0 hv A h1 h2 hk
      go_enter Try.func18, Try.ntmps18
      go_wp2_with (first
        | ((with_reducible refine wpList_at 2 rfl ?_); refine mem_alloc E 41 rfl rfl infoBz ?_; clear E; intro b2 w2 E; simp only [arr_cells'] at E)
        | (go_at_call 49; refine (HC.out _ E.out.below).mono ?_; rintro e w3 ⟨p5, c5, rfl, hT, hb⟩; have T5 := Lib.hid hT; replace E := Lib.hid (E.out.call hb); clear hb hT)
        | ((with_reducible refine wpList_at 4 rfl ?_); refine mem_allocg E 39 rfl rfl infoH ?_; clear E; intro b4 w4 E hb4 ge4; simp only [arr_cells'] at E)
        | ((with_reducible refine wpList_atn rfl ?_); refine mem_store_rowo 0 E 39 rfl (.tmp 4) (.tmp 19) rfl rfl rfl rfl (by kernel_rfl) (by simp only [arr_size]) (hc_one _) ?_; intro w5 E9 HO; simp only [List.set_cons_zero, List.set_cons_succ] at E9; have BB := Lib.hid (hb4.out.trans (HO.out.2.below ge4.out hb4.out.size)); replace T5 := Lib.hid (T5.out.below BB.out); clear hb4 ge4 BB HO E; have E := E9; clear E9)
        | (go_at_call 50; refine (CC.out _ _ _ T5.out).mono ?_; rintro e w6 ⟨p9, c9, rfl, hT, hb⟩; replace E := Lib.hid (E.out.call hb); clear hb hT T5)
        | ((with_reducible refine wpList_at 38 rfl ?_); refine wpList_bld 41 _ rfl rfl (ps := #[]) (by kernel_rfl) built_blk0 ?_) | ((with_reducible refine wpList_atn rfl ?_); refine mem_store_row 1 E 41 rfl (.tmp 2) (.tmp 38) rfl rfl rfl rfl (by kernel_rfl) (by simp only [arr_size]) (all_of bz_one) ?_; clear E; intro w99 E; simp only [List.set_cons_zero, List.set_cons_succ] at E))
      refine bodyPost_ret (res_blk (fn := Try.f18) rfl _ _ _ rfl (E.out.get (List.mem_cons_of_mem _ List.mem_cons_self)) blk_is rfl (by rw [arr_size]; kernel_rfl)) rfl ?_
      rw [PL.out]
      exact ⟨rfl, E.out.below⟩
theorem rbdec_any {W : World} {v : Value} {xs : List Nat} (A : Hid (TextAt W v xs)) : Calls Try.prog 18 #[v] W (BDec W (pBlkL xs)) := by
  by_cases h : 200000 < xs.length ∨ xs.length < 80
  · exact rbdec_few A h
  · exact rbdec_long A (by omega) (by omega)
end Go.Proofs.Ytllndneplkigpaa
