/- The hasher's end: SHA-256 of the bytes so far; the hasher, and what else lay in memory, stay. -/
import Derived.Test.YtoopcmcmjaikhaaDoorSShaTake
import Derived.Test.YtoopcmcmjaikhaaDoorSJoin
import Derived.Deep.WholeRow
set_option maxRecDepth 100000
namespace Go.Proofs.YtoopcmcmjaikhaaDoor.S
open Go.RowKit Go.Lib
attribute [local go_sem ↓] Go.wp_at_zero Go.wp_at_succ

/-- A hasher's zero value. -/
def hzero : Nat → Value := fun i => if i = 0 then .bool false else if i ≤ 8 then .int .u32 0 else if i ≤ 72 then .int .u8 0 else .int .u64 0
theorem hf_one (s : R8) (r : Nat → Int) (cnt : Int) (i : Nat) : (hf s r cnt i).oneCell' = true := by
  unfold hf rv
  repeat' split
  all_goals rfl
theorem z44 (w : World) : (zeroValue 176).run Tryd.prog w = .ok (.agg (arr 74 hzero)) w := (zero_of_info (P := Tryd.prog) (t := 176) (v := .agg (arr 74 hzero)) (n := 74) (by kernel_rfl)).1 w
theorem z64 (w : World) : (zeroValue 179).run Tryd.prog w = .ok (.agg (arr 72 zb)) w := (zero_of_info (P := Tryd.prog) (t := 179) (v := .agg (arr 72 zb)) (n := 72) (by kernel_rfl)).1 w

/-- How many bytes of the last blocks stand behind the bytes so far and ahead of the count. -/
def gap (m : Nat) : Nat := 1 + (119 - m % 64) % 64
theorem ahead_gap (m : Nat) : ahead m = m + gap m := by unfold ahead zeros gap; omega
theorem gap_lt (m : Nat) : gap m ≤ 64 := by unfold gap; omega
/-- The pad with so many bytes of the count. -/
def pf (m q : Nat) : Nat → Value := fun i => if i < gap m + q then .int .u8 (padByte (fun _ => 0) m (m + i)) else .int .u8 0
theorem pf_start (m i : Nat) : upd zb 0 (.int .u8 128) i = pf m 0 i := by
  unfold upd pf zb
  have hg : 1 ≤ gap m := by unfold gap; omega
  by_cases e : i = 0
  · subst e; rw [if_pos rfl, if_pos (by omega), Nat.add_zero, pad_mark]
  · rw [if_neg e]
    by_cases h : i < gap m + 0
    · rw [if_pos h, pad_nought _ _ _ (by omega) (by rw [ahead_gap]; omega)]
    · rw [if_neg h]
theorem pf_step (m q i : Nat) (v : Value) (hv : v = .int .u8 ((m : Int) * 8 / 2 ^ (56 - 8 * q) % 256)) : upd (pf m q) (gap m + q) v i = pf m (q + 1) i := by
  unfold upd pf
  by_cases e : i = gap m + q
  · subst e
    have e1 : m + (gap m + q) = ahead m + q := by rw [ahead_gap]; omega
    rw [if_pos rfl, if_pos (by omega), e1, pad_count, hv]
  · rw [if_neg e]
    by_cases h : i < gap m + q
    · rw [if_pos h, if_pos (by omega)]
    · rw [if_neg h, if_neg (by omega)]
theorem run_to64 (P m : Nat) (hm : m + 8 ≤ 72) (w : World) : (Instr.sliceAt 179 (.pointer (some ⟨P, 0, none⟩)) none (some (.int .i64 ((m : Int) + 8))) none).run Tryd.prog w = .ok (.slice (some ⟨P, 0, none⟩) (m + 8) 72) w := by
  have hl : Tryd.prog.arrayLen 179 = 72 := by kernel_rfl
  have he : Tryd.prog.elem 179 = 5 := by kernel_rfl
  have ht : Tryd.prog.underlying 179 = some (.array (Tryd.prog.arrayLen 179) (Tryd.prog.elem 179)) := by rw [hl, he]; exact Tryd.underlying179
  have hs : ∀ w, (Go.sizeOf 5).run Tryd.prog w = .ok 1 w := fun w => by kernel_rfl
  rw [run_sliceAt_array_h w 179 ⟨P, 0, none⟩ ht .i64 ((m : Int) + 8) (by omega) (by rw [hl]; omega), he, hs, hl]
  simp only [Result.andThen_ok, slicedAt]
  rw [if_neg (by omega), Nat.zero_mul, add_at]
  have e : ((m : Int) + 8).toNat = m + 8 := by omega
  rw [e]
  rfl
theorem words_range {b : Nat} {s : R8} {r : Nat → Int} {cnt : Int} {w : World} (h : HasAt b 176 74 (hf s r cnt) w) : w.rangeAt b 1 (arr 8 (rv s)).toList := fun j v hj => by
  have hj8 : j < 8 := by
    have := (List.getElem?_eq_some_iff.1 hj).1
    rw [Array.length_toList, arr_size] at this
    exact this
  rw [Array.getElem?_toList, arr_get 8 _ j hj8] at hj
  obtain rfl := Option.some.inj hj
  have h1 := h.cell (1 + j) (by omega)
  rw [Nat.add_comm 1 j, hf_word _ _ _ j hj8] at h1
  rw [Nat.add_comm 1 j]
  exact h1
theorem cat_pad (x : Nat → Int) (m i : Nat) : cat x m (fun i => padByte (fun _ => 0) m (m + i)) i = padByte x m i := by
  unfold cat
  by_cases h : i < m
  · rw [if_pos h, pad_low x m i h]
  · rw [if_neg h]
    have e : m + (i - m) = i := by omega
    show padByte (fun _ => 0) m (m + (i - m)) = _
    rw [e]
    unfold padByte
    rw [if_neg h, if_neg h]
theorem sha_end (x : Nat → Int) (m : Nat) : digest (mst (cat x m (fun i => padByte (fun _ => 0) m (m + i))) ((m + (gap m + 8)) / 64)) = sha x m := by
  unfold sha
  have e : ahead m + 8 = m + (gap m + 8) := by rw [ahead_gap]; omega
  rw [e, mst_congr _ (fun i _ => cat_pad x m i)]

set_option maxRecDepth 100000 in
set_option maxHeartbeats 2000000 in
theorem end_any (b : Nat) (x : Nat → Int) (hx : ∀ i, 0 ≤ x i ∧ x i ≤ 255) (m : Nat) (hm : m ≤ 1152921504606846975) (w : World) (hh : Hashed b x m w) (hk : KLaid w) :
    Calls Tryd.prog 120 #[.pointer (some ⟨b, 0, none⟩)] w fun e w' => e = .returned (.agg (arr 32 (sha x m))) ∧ Below w.heap.size w w' := by
  obtain ⟨r, hh, hr, hrr⟩ := hh
  have HX := Lib.hid hx
  have HR := Lib.hid hr
  have HRR := Lib.hid hrr
  have H0' : Hid (HasAt b 176 74 (hf (mst x (m / 64)) r m) w ∧ KLaid w) := Lib.hid ⟨hh, hk⟩
  have hbl := hh.lt
  have h2l : 2 < w.heap.size := cell_lt (hk 0 (by omega))
  clear hx hr hrr hh hk
  have Z4 := z44
  have Z6 := z64
  have k2 : HasAt (w.heap.size + 1) 176 74 hzero ((w.alloc (.cells (arr 32 zb) 23)).alloc (.cells (arr 74 hzero) 176)) := by
    have h := HasAt.new (w.alloc (.cells (arr 32 zb) 23)) hzero 74 176
    have e : (w.alloc (.cells (arr 32 zb) 23)).heap.size = w.heap.size + 1 := by simp
    rw [e] at h
    exact h
  have k3 : Below w.heap.size w ((w.alloc (.cells (arr 32 zb) 23)).alloc (.cells (arr 74 hzero) 176)) := (below_new w _).trans ((below_new _ _).mono (by simp))
  have k4 : HasAt w.heap.size 23 32 zb ((w.alloc (.cells (arr 32 zb) 23)).alloc (.cells (arr 74 hzero) 176)) := (HasAt.new w zb 32 23).alloc _
  have K := Lib.hid (And.intro k2 (And.intro k3 k4))
  have ks : ((w.alloc (.cells (arr 32 zb) 23)).alloc (.cells (arr 74 hzero) 176)).heap.size = w.heap.size + 2 := by simp
  have KS := Lib.hid ks
  clear k2 k3 k4 ks
  go_enter Tryd.func120, Tryd.ntmps120
  go_upto_region 2 with (first
    | (refine wpList_load_all rfl 176 (.tmp 10) rfl b 74 rfl 176 (hf (mst x (m / 64)) r m) (H0'.out.1.alloc _) _ Tryd.underlying176 rfl (by kernel_rfl) ?_)
    | (refine wpList_store_all rfl 176 (.tmp 3) (.tmp 11) rfl (w.heap.size + 1) 74 rfl 176 hzero (hf (mst x (m / 64)) r m) K.out.1 rfl (by kernel_rfl) (hf_one _ _ _) ?_; intro w1 hh1 ho1; have H1 := Lib.hid (And.intro hh1 ho1); clear hh1 ho1))
  have H1 : Hid (HasAt (w.heap.size + 1) 176 74 (hf (mst x (m / 64)) r m) w1 ∧ Only (w.heap.size + 1) ((w.alloc (.cells (arr 32 zb) 23)).alloc (.cells (arr 74 hzero) 176)) w1) := H1
  have hsz : w.heap.size + 2 ≤ w1.heap.size := Nat.le_trans (Nat.le_of_eq KS.out.symm) H1.out.2.size
  have G1 : Hid (HasAt b 176 74 (hf (mst x (m / 64)) r m) w1 ∧ KLaid w1 ∧ HasAt w.heap.size 23 32 zb w1 ∧ HasAt (w.heap.size + 1) 176 74 (hf (mst x (m / 64)) r m) w1 ∧ Below w.heap.size w w1) := by
    have hbw : Below w.heap.size w w1 := K.out.2.1.trans (H1.out.2.below (by omega) K.out.2.1.size)
    refine Lib.hid ⟨H0'.out.1.below hbw, fun i hi => ?_, ?_, H1.out.1, hbw⟩
    · have h1 := H0'.out.2 i hi
      rw [World.cell?_of_block (w := w) (hbw.block 2 (cell_lt h1))]
      exact h1
    · exact K.out.2.2.only H1.out.2 (by omega)
  clear H1 K KS H0' Z4
  go_upto_region 3 with fail
  have G2 : Hid (HasAt b 176 74 (hf (mst x (m / 64)) r m) (w1.alloc (.cells (arr 72 zb) 179)) ∧ KLaid (w1.alloc (.cells (arr 72 zb) 179)) ∧ HasAt w.heap.size 23 32 zb (w1.alloc (.cells (arr 72 zb) 179)) ∧ HasAt (w.heap.size + 1) 176 74 (hf (mst x (m / 64)) r m) (w1.alloc (.cells (arr 72 zb) 179)) ∧ Below w.heap.size w (w1.alloc (.cells (arr 72 zb) 179)) ∧ HasAt w1.heap.size 179 72 zb (w1.alloc (.cells (arr 72 zb) 179))) :=
    Lib.hid ⟨G1.out.1.alloc _, fun i hi => cell_alloc (G1.out.2.1 i hi), G1.out.2.2.1.alloc _, G1.out.2.2.2.1.alloc _, G1.out.2.2.2.2.alloc G1.out.2.2.2.2.size _, HasAt.new w1 zb 72 179⟩
  clear G1
  generalize w1.alloc (.cells (arr 72 zb) 179) = w2 at *
  generalize w1.heap.size = P at *
  have c0 : w2.cell? ⟨P, 0, none⟩ = some (.int .u8 0) := G2.out.2.2.2.2.2.cell 0 (by omega)
  have f0 := G2.out.2.2.2.2.2.free 0
  have c73 : w2.cell? ⟨b, 73, none⟩ = some (.int .u64 m) := G2.out.1.cell 73 (by omega)
  have hPb : b ≠ P := by omega
  clear Z6
  go_upto_region 6 with fail
  have G3 : Hid (HasAt b 176 74 (hf (mst x (m / 64)) r m) (w2.setCell ⟨P, 0, none⟩ (.int .u8 128)) ∧ KLaid (w2.setCell ⟨P, 0, none⟩ (.int .u8 128)) ∧ HasAt w.heap.size 23 32 zb (w2.setCell ⟨P, 0, none⟩ (.int .u8 128)) ∧ HasAt (w.heap.size + 1) 176 74 (hf (mst x (m / 64)) r m) (w2.setCell ⟨P, 0, none⟩ (.int .u8 128)) ∧ Below w.heap.size w (w2.setCell ⟨P, 0, none⟩ (.int .u8 128)) ∧ HasAt P 179 72 (pf m 0) (w2.setCell ⟨P, 0, none⟩ (.int .u8 128))) := by
    refine Lib.hid ⟨G2.out.1.other _ _ hPb, fun i hi => ?_, G2.out.2.2.1.other _ _ (by show w.heap.size ≠ P; omega), G2.out.2.2.2.1.other _ _ (by show w.heap.size + 1 ≠ P; omega), G2.out.2.2.2.2.1.setCell (by show w.heap.size ≤ P; omega) _, G2.out.2.2.2.2.2.set 0 _ (fun i _ => pf_start m i)⟩
    have h1 := G2.out.2.1 i hi
    rw [World.cell?_of_block (w := w2) (Below.heap_setCell _ _ _ _ (by show 2 ≠ P; omega))]
    exact h1
  clear G2 c0 f0 c73
  generalize w2.setCell ⟨P, 0, none⟩ (.int .u8 128) = w3 at *
  go_upto_if 22 with fail
  go_cut [6] (fun s6 wx => s6 = .int .i64 (gap m) ∧ w3 = wx)
  case first =>
    by_cases h0 : (56 - (m : Int) % 64) ≤ 0
    · go_wp2
      go_meet
      refine ⟨?_, rfl⟩
      congr 1
      unfold gap
      omega
    · go_wp2
      go_meet
      refine ⟨?_, rfl⟩
      congr 1
      unfold gap
      omega
  case rest =>
    obtain ⟨rfl, rfl⟩ := hcut
    have c73 : w3.cell? ⟨b, 73, none⟩ = some (.int .u64 m) := G3.out.1.cell 73 (by omega)
    go_upto_region 9 with fail
    have hgl := gap_lt m
    clear c73
    go_wp2
    go_loopg [30] 8 (fun k i wr => ∃ q : Nat, q + k = 8 ∧ i = .int .i64 (q : Int) ∧ Only P w3 wr ∧ HasAt P 179 72 (pf m q) wr)
    case atStart => exact ⟨0, by omega, rfl, Only.refl _ _, G3.out.2.2.2.2.2⟩
    case round =>
      obtain ⟨q, hq, rfl, ho, hp⟩ := hrel
      have H := Lib.hid (And.intro ho hp)
      clear ho hp
      by_cases hl : q < 8
      · have cq : wr.cell? ⟨P, gap m + q, none⟩ = some (pf m q (gap m + q)) := H.out.2.cell _ (by omega)
        have fq := H.out.2.free (gap m + q)
        have eq0 : pf m q (gap m + q) = .int .u8 0 := by unfold pf; rw [if_neg (by omega)]
        rw [eq0] at cq
        clear eq0
        go_wp2
        go_roundg (gk - 1)
        case measure => omega
        case rel =>
          refine ⟨q + 1, by omega, by go_num, H.out.1.setCell _ rfl _, H.out.2.set (gap m + q) _ (fun i _ => pf_step m q i _ rfl)⟩
      · obtain rfl : q = 8 := by omega
        have hbw : Below w.heap.size w wr := G3.out.2.2.2.2.1.trans (H.out.1.below (by omega) G3.out.2.2.2.2.1.size)
        have hk5 : KLaid wr := fun i hi => by
          have h1 := G3.out.2.1 i hi
          rw [World.cell?_of_block (w := w3) (H.out.1.block 2 (cell_lt h1) (by omega))]
          exact h1
        have hz5 : HasAt w.heap.size 23 32 zb wr := G3.out.2.2.1.only H.out.1 (by omega)
        have hh5 : HasAt (w.heap.size + 1) 176 74 (hf (mst x (m / 64)) r m) wr := G3.out.2.2.2.1.only H.out.1 (by omega)
        have hl5 : Lies wr (some ⟨P, 0, none⟩) P 0 (gap m + 8) (fun i => padByte (fun _ => 0) m (m + i)) := by
          refine ⟨fun _ => rfl, fun i hi => ?_⟩
          rw [Nat.zero_add, H.out.2.cell i (by omega)]
          unfold pf
          rw [if_pos hi]
        have htk := take_any (w.heap.size + 1) (by omega) x HX.out m (fun i => padByte (fun _ => 0) m (m + i)) (fun i => pad_range _ (fun _ => by omega) _ _) (gap m + 8) (some ⟨P, 0, none⟩) P 0 72 (by omega) (by omega) (by omega) wr hl5 (fun _ => by omega) ⟨r, hh5, HR.out, HRR.out⟩ hk5
        have HT := Lib.hid htk
        have sl := run_to64 P (gap m) (by omega) wr
        have H5 := Lib.hid (And.intro hbw (And.intro hz5 hk5))
        clear htk hbw hk5 hz5 hh5 hl5 H G3
        go_upto_region 15 with (go_at_call 119; refine HT.out.mono ?_; rintro e w6 ⟨rfl, hh6, ho6⟩; have H6 := Lib.hid (And.intro hh6 ho6); clear hh6 ho6)
        obtain ⟨r6, h6, _, _⟩ := H6.out.1
        have hbw6 : Below w.heap.size w w6 := H5.out.1.trans (H6.out.2.below (by omega) H5.out.1.size)
        have hz6 : HasAt w.heap.size 23 32 zb w6 := H5.out.2.1.only H6.out.2 (by omega)
        have hj := join_any (mst (cat x m (fun i => padByte (fun _ => 0) m (m + i))) ((m + (gap m + 8)) / 64)) (mst_in _ _) w6
        have hr6 := words_range h6
        have HJ := Lib.hid hj
        have HR6 := Lib.hid hr6
        have HB6 := Lib.hid (And.intro hbw6 hz6)
        clear hj hr6 hbw6 hz6 h6 sl HT H5 H6
        go_wp2_with (first
          | (refine wpList_load_mid rfl 133 (.tmp 48) rfl (w.heap.size + 1) 1 rfl (arr 8 (rv (mst (cat x m (fun i => padByte (fun _ => 0) m (m + i))) ((m + (gap m + 8)) / 64)))).toList _ HR6.out Tryd.underlying133 rfl (by rw [Array.length_toList, arr_size]; kernel_rfl) ?_; rw [Array.toArray_toList])
          | (go_at_call 129; refine HJ.out.mono ?_; rintro e w7 ⟨rfl, hb7⟩; have H7 : Hid (HasAt w.heap.size 23 32 zb w7 ∧ Below w.heap.size w w7) := Lib.hid ⟨HB6.out.2.below hb7, HB6.out.1.trans (hb7.mono HB6.out.1.size)⟩; clear hb7)
          | (refine wpList_store_all rfl 23 (.tmp 2) (.tmp 50) rfl w.heap.size 32 rfl 23 zb (digest _) H7.out.1 rfl (by kernel_rfl) (fun _ => rfl) ?_; intro w8 hh8 ho8))
        rw [sha_end] at hh8
        refine bodyPost_ret (v := .agg (arr 32 (sha x m))) (results_cell_row (fn := Tryd.f120) rfl _ _ w.heap.size 23 _ (0, 0) _ rfl hh8 Tryd.underlying23 rfl (by rw [arr_size]; kernel_rfl)) rfl ⟨rfl, ?_⟩
        exact H7.out.2.trans (ho8.below (Nat.le_refl _) H7.out.2.size)
end Go.Proofs.YtoopcmcmjaikhaaDoor.S

