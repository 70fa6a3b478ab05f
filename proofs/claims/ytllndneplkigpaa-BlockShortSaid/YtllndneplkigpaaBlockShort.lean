/- For every block, every whole number and every byte: what is left of the block's bytes, cut short, is refused as too short, and the bytes with a byte behind them are refused as having a trail; both writers tell the same error where it can't be written; the call returns true. No condition. -/
import Derived.Test.YtllndneplkigpaaBg
import Derived.ShutString
import Derived.ChangeOld
import Derived.Below
import Derived.SizedLaws
set_option linter.unusedVariables false
set_option linter.unusedSimpArgs false
namespace Go.Proofs.Ytllndneplkigpaa.blockShort
open Go.ChangeShapes Go.WideShapes Go.ChangeAt Go.RowKit Go.Lib Go.Sort Go.Proofs.Ytllndneplkigpaa

set_option maxRecDepth 100000

/-- The error of a block that can't be written. -/
theorem benc_bad {t : TBlk} {er : Int} (h : (2000 < t.txs.length ∨ t.txs.any (fun x => !canB x) = true) ∧ er = 1 ∨ ¬ (2000 < t.txs.length ∨ t.txs.any (fun x => !canB x) = true) ∧ 200000 < (blkB t).length ∧ er = 91) {W w' : World} {e : Ending} (hb : BEnc W t e w') :
    e = .returned (.tuple #[.slice none 0 0, .int .i64 er]) ∧ Below W.heap.size W w' := by
  unfold BEnc at hb
  rcases h with ⟨h1, rfl⟩ | ⟨h1, h2, rfl⟩
  · rwa [if_pos h1] at hb
  · rwa [if_neg h1, if_pos h2] at hb
theorem benc_ok {t : TBlk} (h1 : ¬ (2000 < t.txs.length ∨ t.txs.any (fun x => !canB x) = true)) (h2 : ¬ 200000 < (blkB t).length) {W w' : World} {e : Ending} (hb : BEnc W t e w') :
    ∃ p g c, e = .returned (.tuple #[.slice p (blkB t).length c, .int .i64 0]) ∧ Own W.heap.size w' p g (blkB t).length c (lf (blkB t)) ∧ Below W.heap.size W w' := by
  unfold BEnc at hb
  rwa [if_neg h1, if_neg h2] at hb

theorem cut_of (a1 : Int) (n : Nat) (h0 : 0 < n) (hn : n ≤ 140737488351232) : ∃ q : Nat, q < n ∧ wrap64 ((IntKind.u64.wrap a1).tmod (IntKind.u64.wrap (n : Int))) = ((q : Nat) : Int) := by
  have e : IntKind.u64.wrap (n : Int) = (n : Int) := by rw [IntKind.wrap_u64]; omega
  have h2 : 0 ≤ (a1 % 18446744073709551616) % (n : Int) := Int.emod_nonneg _ (by omega)
  have h3 : (a1 % 18446744073709551616) % (n : Int) < (n : Int) := Int.emod_lt_of_pos _ (by omega)
  refine ⟨((a1 % 18446744073709551616) % (n : Int)).toNat, by omega, ?_⟩
  rw [e, IntKind.wrap_u64, Int.tmod_eq_emod_of_nonneg (by omega), Int.toNat_of_nonneg h2]
  unfold wrap64
  omega
set_option maxHeartbeats 4000000 in
theorem walk_bad {W : World} {V : Nat → Value} {t : TBlk} (A : Hid (BlkCells W V t)) {er : Int} (he : er ≠ 0) (h : (2000 < t.txs.length ∨ t.txs.any (fun x => !canB x) = true) ∧ er = 1 ∨ ¬ (2000 < t.txs.length ∨ t.txs.any (fun x => !canB x) = true) ∧ 200000 < (blkB t).length ∧ er = 91) (a1 a2 : Int) :
    Calls Try.prog 7 #[.agg (arr 69 V), .int .i64 a1, .int .u8 a2] W fun e w' => e = .returned (.bool true) ∧ Below W.heap.size W w' := by
  have E := Lib.hid (Mem.nil W)
  have AT : BlkAt W (.agg (arr 69 V)) t := ⟨V, rfl, A.out⟩
  have EN := Lib.hid (show ∀ w', Below W.heap.size W w' → Calls Try.prog 21 #[.agg (arr 69 V)] w' fun e w'' => e = .returned (.tuple #[.slice none 0 0, .int .i64 er]) ∧ Below w'.heap.size w' w'' from fun w' hb => (benc_any (Lib.hid (AT.below hb))).mono fun e w'' q => benc_bad h q)
  have RN := Lib.hid (show ∀ w', Below W.heap.size W w' → Calls Try.prog 22 #[.agg (arr 69 V)] w' fun e w'' => e = .returned (.tuple #[.slice none 0 0, .int .i64 er]) ∧ Below w'.heap.size w' w'' from fun w' hb => (rbenc_any (Lib.hid (AT.below hb))).mono fun e w'' q => benc_bad h q)
  have AW := Lib.hid awake8_any
  have c2 : (er == 0) = false := by simp; exact he
  have c3 : (er != 0) = true := by simp; exact he
  clear A AT h he
  go_enter Try.func7, Try.ntmps7
  go_wp2_with (first
    | ((with_reducible refine wpList_at 3 rfl ?_); refine mem_box E 41 rfl (.tmp 0) rfl rfl (arr_cells' 69 V) ?_; clear E; intro b1 w1 E)
    | ((with_reducible refine wpList_at 16 rfl ?_); refine mem_load_row E 41 rfl (.tmp 3) rfl rfl List.mem_cons_self blk_is rfl (by simp only [arr_size]; kernel_rfl) ?_)
    | ((with_reducible refine wpList_at 33 rfl ?_); refine mem_load_row E 41 rfl (.tmp 3) rfl rfl List.mem_cons_self blk_is rfl (by simp only [arr_size]; kernel_rfl) ?_)
    | (go_at_call 21; refine (EN.out _ E.out.below).mono ?_; rintro e w3 ⟨rfl, hb⟩; replace E := Lib.hid (E.out.call hb); clear hb)
    | (go_at_call 22; refine (RN.out _ E.out.below).mono ?_; rintro e w3 ⟨rfl, hb⟩; replace E := Lib.hid (E.out.call hb); clear hb)
    | (go_at_call 20; refine (AW.out _).mono ?_; rintro e w3 ⟨rfl, hb⟩; replace E := Lib.hid (E.out.call hb); clear hb))
  go_ret
  exact ⟨rfl, E.out.below⟩
set_option maxHeartbeats 4000000 in
theorem walk_long {W : World} {V : Nat → Value} {t : TBlk} (A : Hid (BlkCells W V t)) (h1 : ¬ (2000 < t.txs.length ∨ t.txs.any (fun x => !canB x) = true)) (h2 : ¬ 200000 < (blkB t).length) (h3 : 190000 < (blkB t).length) (a1 a2 : Int) :
    Calls Try.prog 7 #[.agg (arr 69 V), .int .i64 a1, .int .u8 a2] W fun e w' => e = .returned (.bool true) ∧ Below W.heap.size W w' := by
  have E := Lib.hid (Mem.nil W)
  have AT : BlkAt W (.agg (arr 69 V)) t := ⟨V, rfl, A.out⟩
  obtain ⟨n, hn⟩ : ∃ n, n = (blkB t).length := ⟨_, rfl⟩
  have EN := Lib.hid (show ∀ w', Below W.heap.size W w' → Calls Try.prog 21 #[.agg (arr 69 V)] w' fun e w'' => ∃ p c, e = .returned (.tuple #[.slice p n c, .int .i64 0]) ∧ Below w'.heap.size w' w'' from fun w' hb => (benc_any (Lib.hid (AT.below hb))).mono fun e w'' q => by
    obtain ⟨p, g, c, he, N, hbb⟩ := benc_ok h1 h2 q
    exact ⟨p, c, by rw [he, hn], hbb⟩)
  have RN := Lib.hid (show ∀ w', Below W.heap.size W w' → Calls Try.prog 22 #[.agg (arr 69 V)] w' fun e w'' => ∃ p c, e = .returned (.tuple #[.slice p n c, .int .i64 0]) ∧ Below w'.heap.size w' w'' from fun w' hb => (rbenc_any (Lib.hid (AT.below hb))).mono fun e w'' q => by
    obtain ⟨p, g, c, he, N, hbb⟩ := benc_ok h1 h2 q
    exact ⟨p, c, by rw [he, hn], hbb⟩)
  have AW := Lib.hid awake8_any
  have c2 : ¬ ((n : Nat) : Int) < 81 := by omega
  have c3 : (190000 : Int) < ((n : Nat) : Int) := by omega
  clear A AT h1 h2 h3 hn
  go_enter Try.func7, Try.ntmps7
  go_wp2_with (first
    | ((with_reducible refine wpList_at 3 rfl ?_); refine mem_box E 41 rfl (.tmp 0) rfl rfl (arr_cells' 69 V) ?_; clear E; intro b1 w1 E)
    | ((with_reducible refine wpList_at 16 rfl ?_); refine mem_load_row E 41 rfl (.tmp 3) rfl rfl List.mem_cons_self blk_is rfl (by simp only [arr_size]; kernel_rfl) ?_)
    | ((with_reducible refine wpList_at 33 rfl ?_); refine mem_load_row E 41 rfl (.tmp 3) rfl rfl List.mem_cons_self blk_is rfl (by simp only [arr_size]; kernel_rfl) ?_)
    | (go_at_call 21; refine (EN.out _ E.out.below).mono ?_; rintro e w3 ⟨p3, cc3, rfl, hb⟩; replace E := Lib.hid (E.out.call hb); clear hb)
    | (go_at_call 22; refine (RN.out _ E.out.below).mono ?_; rintro e w4 ⟨p4, cc4, rfl, hb⟩; replace E := Lib.hid (E.out.call hb); clear hb)
    | (go_at_call 20; refine (AW.out _).mono ?_; rintro e w5 ⟨rfl, hb⟩; replace E := Lib.hid (E.out.call hb); clear hb))
  go_ret
  exact ⟨rfl, E.out.below⟩
theorem u8_nat {a : Int} (h : (Lit.int .u8 a).wf = true) : ∃ y : Nat, a = ((y : Nat) : Int) ∧ y < 256 := by
  have h' : 0 ≤ a ∧ a ≤ 255 := by
    simp [Lit.wf, IntKind.min, IntKind.max, IntKind.bits, IntKind.signed] at h
    omega
  exact ⟨a.toNat, by omega, by omega⟩
theorem isB_lf {zs : List Nat} (h : ∀ i, lf zs i < 256) : IsB zs := fun x hx => by
  obtain ⟨i, hi, rfl⟩ := List.getElem_of_mem hx
  rw [← lf_get hi]
  exact h i
theorem row_one {w : World} {B y g : Nat} {p : Option Addr} (N : VOwn 5 1 B w p g 1 1 (fun _ => .int .u8 ((y : Nat) : Int))) (hy : y < 256) : Hid (Row w p g 0 1 1 (fun _ => y)) :=
  Lib.hid ⟨N.row.le, N.row.cap, N.row.nil, N.row.head, fun i hi => N.row.cell i (by omega), fun _ => hy⟩
theorem at_cat {w : World} {B : Nat} {p : Option Addr} {g n c : Nat} {x : Nat → Nat} {zs : List Nat} (N : Own B w p g (n + 1) c (cat (lf zs) n x)) (hn : n = zs.length) (hb : IsB zs) (hl : n + 1 ≤ 140737488351232) : TextAt w (.slice p (n + 1) c) (zs ++ [x 0]) := by
  have hl2 : (zs ++ [x 0]).length = n + 1 := by rw [List.length_append, hn]; rfl
  have h0 : x 0 < 256 := by
    have := N.byte n
    unfold cat at this
    rwa [if_neg (by omega), Nat.sub_self] at this
  refine ⟨p, g, 0, c, by rw [hl2], by rw [hl2]; exact hl, ?_⟩
  rw [hl2]
  refine N.row.to (fun i hi => ?_) (lf_lt (hb.append fun y hy => by rw [List.mem_singleton.1 hy]; exact h0))
  rw [← lf_cat]
  unfold cat
  rw [← hn]
  split
  · rfl
  · obtain rfl : i = n := by omega
    rw [Nat.sub_self]
    rfl
set_option maxHeartbeats 8000000 in
theorem walk_good {W : World} {V : Nat → Value} {t : TBlk} (A : Hid (BlkCells W V t)) (h1 : ¬ (2000 < t.txs.length ∨ t.txs.any (fun x => !canB x) = true)) (h3 : ¬ 190000 < (blkB t).length) (a1 : Int) (y : Nat) (hy : y < 256) :
    Calls Try.prog 7 #[.agg (arr 69 V), .int .i64 a1, .int .u8 ((y : Nat) : Int)] W fun e w' => e = .returned (.bool true) ∧ Below W.heap.size W w' := by
  have E := Lib.hid (Mem.nil W)
  have AT : BlkAt W (.agg (arr 69 V)) t := ⟨V, rfl, A.out⟩
  have OK := okTxs_of A.out h1
  have h2 : ¬ 200000 < (blkB t).length := by omega
  have h81 : 81 ≤ (blkB t).length := by
    unfold blkB
    rw [List.length_append, List.length_append, tl_length]
    have := cnt_le t.txs.length
    omega
  obtain ⟨zs, hzs⟩ : ∃ zs, zs = blkB t := ⟨_, rfl⟩
  obtain ⟨n, hn⟩ : ∃ n, n = zs.length := ⟨_, rfl⟩
  have hnn : n = (blkB t).length := by rw [hn, hzs]
  obtain ⟨q, hq, hq2⟩ := cut_of a1 n (by omega) (by omega)
  have EN := Lib.hid (show ∀ w', Below W.heap.size W w' → Calls Try.prog 21 #[.agg (arr 69 V)] w' fun e w'' => ∃ p g c, e = .returned (.tuple #[.slice p n c, .int .i64 0]) ∧ q ≤ c ∧ TextAt w'' (.slice p q c) (zs.take q) ∧ Own w'.heap.size w'' p g n c (lf zs) ∧ Below w'.heap.size w' w'' from fun w' hb => (benc_any (Lib.hid (AT.below hb))).mono fun e w'' qq => by
    obtain ⟨p, g, c, he, N, hbb⟩ := benc_ok h1 h2 qq
    rw [← hzs] at he N
    have R := N.row
    rw [← hn] at R
    refine ⟨p, g, c, by rw [he, hn], by have := R.le; omega, ?_, by rw [← hn] at N; exact N, hbb⟩
    have hl2 : (zs.take q).length = q := by rw [List.length_take]; omega
    refine ⟨p, g, 0, c, by rw [hl2], by rw [hl2]; omega, ?_⟩
    rw [hl2]
    exact ⟨by have := R.le; omega, R.cap, fun e => ⟨by have := (R.nil e).1; omega, (R.nil e).2⟩, fun h => R.head (by omega), fun i hi => by rw [lf_takek hi]; exact R.cell i (by omega), lf_lt fun x hx => isB_lf N.byte x (List.mem_of_mem_take hx)⟩)
  have DC := Lib.hid (show ∀ w' p c, TextAt w' (.slice p q c) (zs.take q) → Calls Try.prog 17 #[.slice p q c] w' fun e w'' => e = .returned (.tuple #[.agg (arr 69 bz), .int .i64 50]) ∧ Below w'.heap.size w' w'' from fun w' p c hT => by
    have := bdec_any (Lib.hid hT)
    have e : pBlkL (zs.take q) = .bad 50 := (if_neg (by rw [List.length_take]; omega)).trans (by rw [hzs]; exact pBlk_short OK (by omega))
    rwa [e] at this)
  have DT := Lib.hid (show ∀ w' v, TextAt w' v (zs ++ [y]) → Calls Try.prog 17 #[v] w' fun e w'' => e = .returned (.tuple #[.agg (arr 69 bz), .int .i64 70]) ∧ Below w'.heap.size w' w'' from fun w' v hT => by
    have := bdec_any (Lib.hid hT)
    have e : pBlkL (zs ++ [y]) = .bad 70 := (if_neg (by rw [List.length_append]; show ¬ 200000 < zs.length + 1; omega)).trans (by rw [hzs]; exact pBlk_trail OK y)
    rwa [e] at this)
  have nz : ¬ (n : Int) = 0 := by omega
  have n81 : ¬ (n : Int) < 81 := by omega
  have n190 : ¬ (190000 : Int) < (n : Int) := by omega
  have HNZ := Lib.hid hn
  have HNL := Lib.hid (show n ≤ 190000 by omega)
  obtain ⟨u, hu⟩ : ∃ u, u = IntKind.u64.wrap a1 := ⟨_, rfl⟩
  obtain ⟨r, hr⟩ : ∃ r, r = (IntKind.u64.wrap a1).tmod (IntKind.u64.wrap (n : Int)) := ⟨_, rfl⟩
  have X1 := Lib.hid (show IntKind.u64.wrap a1 = u from hu.symm)
  have X2 := Lib.hid (show IntKind.u64.wrap (n : Int) = (n : Int) by rw [IntKind.wrap_u64]; omega)
  have X3 := Lib.hid (show u.tmod (n : Int) = r by rw [hr, hu, X2.out])
  have X4 := Lib.hid (show IntKind.i64.wrap r = ((q : Nat) : Int) by rw [hr, ← hq2, IntKind.wrap_i64]; unfold wrap64; rfl)
  have HY := Lib.hid hy
  clear A AT h1 h2 h3 h81 hzs hn hnn hq OK hq2 hu hr hy
  go_enter Try.func7, Try.ntmps7
  go_upto_region 5 with (first
    | ((with_reducible refine wpList_at 3 rfl ?_); refine mem_box E 41 rfl (.tmp 0) rfl rfl (arr_cells' 69 V) ?_; clear E; intro b1 w1 E)
    | ((with_reducible refine wpList_at 16 rfl ?_); refine mem_load_row E 41 rfl (.tmp 3) rfl rfl List.mem_cons_self blk_is rfl (by simp only [arr_size]; kernel_rfl) ?_)
    | (go_at_call 21; refine (EN.out _ E.out.below).mono ?_; rintro e w3 ⟨p3, g3, c3, rfl, lc, hT, hR, hb⟩; have T3 := Lib.hid hT; have N3 := Lib.hid hR; have LC := Lib.hid lc; replace E := Lib.hid (E.out.call hb); clear hb hT hR))
  clear EN n81 n190
  have x1 := X1.out
  have x2 := X2.out
  have x3 := X3.out
  have x4 := X4.out
  go_upto_region 6 with (first
    | (go_at_call 17; refine (DC.out _ _ _ T3.out).mono ?_; rintro e1 w5 ⟨rfl, hb⟩; replace E := Lib.hid (E.out.call hb); replace N3 := Lib.hid (N3.out.below hb); clear hb T3)
    | ((with_reducible refine wpList_at 11 rfl ?_); refine mem_allocb E 41 rfl rfl infoBz ?_; clear E; intro b11 w6 E hb11; simp only [arr_cells'] at E; replace N3 := Lib.hid (N3.out.below hb11.out); clear hb11)
    | ((with_reducible refine wpList_atn rfl ?_); refine mem_store_rowk 0 E 41 rfl (.tmp 11) (.tmp 54) rfl rfl rfl rfl (by kernel_rfl) (by simp only [arr_size]) (all_of bz_one) ?_; clear E; intro w9 E KT; simp only [List.set_cons_zero, List.set_cons_succ] at E; replace N3 := Lib.hid (own_keep N3.out KT.out (by decide)); clear KT))

  clear x1 x2 x3 x4
  go_upto_region 7 with (first
    | (go_at_call 8; refine (clone_any (Lib.hid N3.out.row) (by have := HNL.out; omega)).mono ?_; rintro e2 w10 ⟨p57, g57, c57, rfl, Ytllndneplkigpaa', hb⟩; have SZ := Lib.hid E.out.below.size; have LT := Lib.hid E.out.lt; have ZB2 := Lib.hid (isB_lf N3.out.byte); replace E := Lib.hid (E.out.call hb); have NC := Lib.hid Ytllndneplkigpaa'; clear hb Ytllndneplkigpaa' N3)
    | ((with_reducible refine wpList_at 60 rfl ?_); refine wpList_vbs 22 5 1 1 rfl _ rfl (fun _ => .int .u8 ((y : Nat) : Int)) (fun _ _ => rfl) (by unfold maxLen; omega) (ps := #[(0, .int .u8 ((y : Nat) : Int))]) (by kernel_rfl) (fun W => run_bs1v Try.underlying22 infoB _ rfl W) (vs_const _) ?_; intro p60 g60 w60 N60 hb60; replace E := Lib.hid (E.out.call hb60.out); replace NC := Lib.hid (NC.out.below hb60.out); clear hb60)
    | (at_builtin; refine wpList_app (.inl rfl) (.tmp 58) (.tmp 60) rfl rfl NC rfl (row_one N60.out HY.out) (by have := HNL.out; omega) ?_; intro p61 g61 c61 w61 N61 hb61; have T61 := Lib.hid (at_cat N61.out HNZ.out ZB2.out (by have := HNL.out; omega)); replace E := Lib.hid (E.out.part hb61.out SZ.out LT.out); clear hb61)
    | (go_at_call 17; refine (DT.out _ _ T61.out).mono ?_; rintro e1 w12 ⟨rfl, hb⟩; replace E := Lib.hid (E.out.call hb); clear hb)
    | ((with_reducible refine wpList_at 13 rfl ?_); refine mem_alloc E 41 rfl rfl infoBz ?_; clear E; intro b13 w13 E; simp only [arr_cells'] at E)
    | ((with_reducible refine wpList_atn rfl ?_); refine mem_store_row 0 E 41 rfl (.tmp 13) (.tmp 63) rfl rfl rfl rfl (by kernel_rfl) (by simp only [arr_size]) (all_of bz_one) ?_; clear E; intro w14 E; simp only [List.set_cons_zero, List.set_cons_succ] at E))
  go_wp2
  go_ret
  exact ⟨rfl, E.out.below⟩
theorem walk (W : World) (v0 : Value) (t0 : TBlk) (w0 : BlkAt W v0 t0) (a1 : Int) (w1 : (Lit.int .i64 a1).wf = true) (a2 : Int) (w2 : (Lit.int .u8 a2).wf = true) : Calls Try.prog 7 #[v0, .int .i64 a1, .int .u8 a2] W fun e w' => e = .returned (.bool true) ∧ Below W.heap.size W w' := by
  obtain ⟨V, rfl, A⟩ := w0
  by_cases h1 : 2000 < t0.txs.length ∨ t0.txs.any (fun x => !canB x) = true
  · exact walk_bad (Lib.hid A) (er := 1) (by decide) (.inl ⟨h1, rfl⟩) a1 a2
  · by_cases h2 : 200000 < (blkB t0).length
    · exact walk_bad (Lib.hid A) (er := 91) (by decide) (.inr ⟨h1, h2, rfl⟩) a1 a2
    · by_cases h3 : 190000 < (blkB t0).length
      · exact walk_long (Lib.hid A) h1 h2 h3 a1 a2
      · obtain ⟨y, rfl, hy⟩ := u8_nat w2
        exact walk_good (Lib.hid A) h1 h3 a1 y hy

set_option maxRecDepth 100000 in
theorem lifted (os : Os) (started : os.Started) (H : Type) (enc : TypeId × Value → H) :
    ReturnsInHanded {} Try.checked os 7 .any (Rows.blockShortSpec.pre6 enc Try.prog Try.f7 Rows.blockShortRow.domain false) (Rows.blockShortSpec.post enc Try.prog Try.f7 false true false false) := by
  refine returnsInHanded_of_change_sized (C := Try.checked) own started (by kernel_rfl) Try.func7
    (ChangeSpec.witness6 (enc := enc) (C := Try.checked) false ⟨#[], #[.agg #[.int .u32 0, .int .u8 0, .int .u8 0, .int .u8 0, .int .u8 0, .int .u8 0, .int .u8 0, .int .u8 0, .int .u8 0, .int .u8 0, .int .u8 0, .int .u8 0, .int .u8 0, .int .u8 0, .int .u8 0, .int .u8 0, .int .u8 0, .int .u8 0, .int .u8 0, .int .u8 0, .int .u8 0, .int .u8 0, .int .u8 0, .int .u8 0, .int .u8 0, .int .u8 0, .int .u8 0, .int .u8 0, .int .u8 0, .int .u8 0, .int .u8 0, .int .u8 0, .int .u8 0, .int .u8 0, .int .u8 0, .int .u8 0, .int .u8 0, .int .u8 0, .int .u8 0, .int .u8 0, .int .u8 0, .int .u8 0, .int .u8 0, .int .u8 0, .int .u8 0, .int .u8 0, .int .u8 0, .int .u8 0, .int .u8 0, .int .u8 0, .int .u8 0, .int .u8 0, .int .u8 0, .int .u8 0, .int .u8 0, .int .u8 0, .int .u8 0, .int .u8 0, .int .u8 0, .int .u8 0, .int .u8 0, .int .u8 0, .int .u8 0, .int .u8 0, .int .u8 0, .int .u32 0, .int .u32 0, .int .u32 0, .slice none 0 0], .int .i64 0, .int .u8 0], []⟩ 8 (by kernel_rfl) (by kernel_rfl) (by kernel_rfl) (by kernel_rfl)) ?_
  intro W base args ds gs before hval0 hW hcnd hsz0 _
  have hval : ∀ (j : Nat) t v, Try.f7.params[j]? = some t → args[j]? = some v → Value.okWide Try.prog W .any base t v := hval0
  have hsz : (DataW.weightsEach Try.prog (Try.f7.params.toList ++ Rows.blockShortSpec.plain.varTypes Try.prog) (ds ++ gs)).all (· ≤ reachBytes) = true := hsz0
  have hW' := hW
  obtain ⟨p, q, hA0, hV, rfl, hfz, hnd⟩ := hW
  have hA : DataW.TrodAll enc Try.prog W 0 (fun _ => true) true Try.f7.params.toList args.toList ds p := hA0
  rw [Try.params7] at hA hval hsz
  obtain ⟨v0, vs0, d0, ds0, p0, q0, hargs, rfl, rfl, h0, r0⟩ := trodAll_cons hA
  obtain ⟨v1, vs1, d1, ds1, p1, q1, rfl, rfl, rfl, h1, r1⟩ := trodAll_cons r0
  obtain ⟨v2, vs2, d2, ds2, p2, q2, rfl, rfl, rfl, h2, r2⟩ := trodAll_cons r1
  obtain ⟨rfl, rfl, rfl⟩ := trodAll_nil r2
  obtain rfl : args = #[v0, v1, v2] := by cases args; simp_all
  obtain ⟨rfl, rfl⟩ := trodVars_none hV
  have k0 := h0
  have lt0 : ∀ x ∈ p0, x.block < W.heap.size := by obtain ⟨m, hm⟩ := k0; exact DataW.trod_lt m _ _ _ hm
  obtain ⟨t0, w0⟩ := open_blk (j := 0) (hval 0 41 v0 rfl rfl) h0 hsz rfl rfl
  obtain ⟨a1, rfl, rfl, rfl, w1⟩ := open_int Try.underlying3 (hval 1 3 v1 rfl rfl) h1
  obtain ⟨a2, rfl, rfl, rfl, w2⟩ := open_int Try.underlying5 (hval 2 5 v2 rfl rfl) h2
  clear hA0 hval0 hsz0
  simp only [List.append_nil] at hW'
  refine (walk W v0 t0 w0 a1 w1 a2 w2).mono fun e W' ⟨he, bel⟩ => ?_
  subst he
  exact ⟨_, rfl, _, _, _, [], _, [], hW', trodAll_mk1 (shut_bool Try.underlying4 _), (trodAll_cons_mk (Below.trod laidOut (by kernel_rfl) (of_decide_eq_true (by kernel_rfl)) k0 bel lt0) (trodAll_cons_mk (shut_int Try.underlying3 w1) (trodAll_cons_mk (shut_int Try.underlying5 w2) trodAll_mk0))), rfl, bel.frame _, fun h => by cases h⟩

theorem over : Rows.blockShortRow.holds Try.pinned (OpenSpec.ofChange Rows.blockShortSpec) :=
  OpenClaim.holds_of_wide 7 Try.f7 rfl rfl rfl rfl rfl rfl rfl ⟨rfl, rfl, rfl, rfl, rfl⟩ rfl rfl rfl rfl rfl (by kernel_rfl) Try.func7 (by kernel_rfl)
    (of_decide_eq_true (by kernel_rfl)) (by unfold Func.isWrapper; first | (rw [if_pos (by decide +kernel)]; kernel_rfl) | (rw [if_neg (by decide +kernel)]; exact ⟨rfl, rfl⟩))
    (fun os started H enc _ => lifted os started H enc)

/-- The statement. -/
theorem proved : Rows.BlockShortSaid :=
  over
#print axioms proved
end Go.Proofs.Ytllndneplkigpaa.blockShort
