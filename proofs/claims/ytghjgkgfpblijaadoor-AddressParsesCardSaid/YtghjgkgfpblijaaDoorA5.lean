/- address.endOf, sumOf, sumText, bitsText: an address's text. -/
import Derived.Test.YtghjgkgfpblijaaDoorA4
import Derived.Test.YtghjgkgfpblijaaDoorZC
import Derived.Test.YtghjgkgfpblijaaDoorDl
import Derived.Test.YtghjgkgfpblijaaDoorZE
set_option linter.unusedSimpArgs false
set_option linter.unusedVariables false
set_option maxRecDepth 100000
namespace Go.Proofs.YtghjgkgfpblijaaDoor
open Go.ChangeShapes Go.WideShapes Go.RowKit Go.Lib Go.Sort

/-- What a right address's sum comes to. -/
def endV (v : Nat) : Nat := if v = 0 then 1 else 734539939
theorem endV_lt (v : Nat) : endV v < 1073741824 := by unfold endV; split <;> decide
/-- The small letters. -/
def SL : ByteArray := ⟨#[113, 112, 122, 114, 121, 57, 120, 56, 103, 102, 50, 116, 118, 100, 119, 48, 115, 51, 106, 110, 53, 52, 107, 104, 99, 101, 54, 109, 117, 97, 55, 108]⟩
def SB : ByteArray := ⟨#[98, 99, 49]⟩
theorem SL_size : SL.size = 32 := rfl
def ltS (L : ByteArray) (r : List Nat) : ByteArray := strX (fun i => byt L (lf r i)) r.length
theorem ltS_size (L : ByteArray) (r : List Nat) : (ltS L r).size = r.length := strX_size _ _
theorem ltS_byt {L : ByteArray} {r : List Nat} {i : Nat} (h : i < r.length) : byt (ltS L r) i = byt L (lf r i) := strX_byt (fun i => byt_lt _ _) h
/-- The numbers of an address of bits. -/
def nsB (v : Nat) (b : List Nat) : List Nat := (v :: grp 8 5 b) ++ sum6 (v :: grp 8 5 b) (endV v)
def bT (v : Nat) (b : List Nat) : ByteArray := SB ++ ltS SL (nsB v b)
/-- An address with a sum. -/
def sT (m : Nat) (b : List Nat) : ByteArray := b58 ((m :: b) ++ (dbl (m :: b)).take 4)
theorem grp6_tl (n : Nat) : grp6 n = tl (gI 5 n 30) 6 := by
  simp [grp6, tl, gI, List.range_succ]
theorem tl_one (v : Nat) : tl (fun _ => v) 1 = [v] := rfl
theorem exec_eq8v {o : Oper} {ev : Operand → Value} {W : World} {x y : Operand} {a b : Nat} {q : Bool} (ho : o.op = .binOp .eql 5 x y 5) (hx : ev x = .int .u8 (a : Int)) (hy : ev y = .int .u8 (b : Int)) (hq : decide (a = b) = q) : (execOp ev o).run Tryd.prog W = .ok (.value (.bool q)) W := by
  subst hq
  unfold execOp
  by_cases h : a = b
  · subst h
    simp [ho, hx, hy, go_sem, Tryd.underlying5]
  · have h2 : ¬ ((a : Int) = (b : Int)) := by omega
    simp [ho, hx, hy, go_sem, Tryd.underlying5, h, h2]
theorem endof_any (v : Nat) (w : World) : Calls Tryd.prog 41 #[.int .u8 (v : Int)] w fun e w' => e = .returned (.int .u32 ((endV v : Nat) : Int)) ∧ w = w' := by
  by_cases h : v = 0
  · have Y := Lib.hid (show decide (v = 0) = true by simp [h])
    have EV := Lib.hid (show endV v = 1 by unfold endV; rw [if_pos h])
    clear h
    go_enter Tryd.func41, Tryd.ntmps41
    go_wp2_with (first
      | ((with_reducible refine wpList_at 4 rfl ?_); refine wpList_known4 rfl (.bool true) _ (by exact exec_eq8v (a := v) (b := 0) (q := true) rfl rfl rfl Y.out) ?_; try simp only [Act.put, List.setIfInBounds_toArray, List.set_cons_zero, List.set_cons_succ]))
    go_ret
    exact ⟨by rw [EV.out]; rfl, rfl⟩
  · have Y := Lib.hid (show decide (v = 0) = false by simp [h])
    have EV := Lib.hid (show endV v = 734539939 by unfold endV; rw [if_neg h])
    clear h
    go_enter Tryd.func41, Tryd.ntmps41
    go_wp2_with (first
      | ((with_reducible refine wpList_at 4 rfl ?_); refine wpList_known4 rfl (.bool false) _ (by exact exec_eq8v (a := v) (b := 0) (q := false) rfl rfl rfl Y.out) ?_; try simp only [Act.put, List.setIfInBounds_toArray, List.set_cons_zero, List.set_cons_succ]))
    go_ret
    exact ⟨by rw [EV.out]; rfl, rfl⟩
theorem run_h4a (b : Nat) (w : World) : (Instr.sliceAt 43 (.pointer (some ⟨b, 0, none⟩)) none (some (.int .i64 4)) none).run Tryd.prog w = .ok (.slice (some ⟨b, 0, none⟩) 4 32) w := by
  have hl : Tryd.prog.arrayLen 43 = 32 := by kernel_rfl
  have he : Tryd.prog.elem 43 = 5 := by kernel_rfl
  have ht : Tryd.prog.underlying 43 = some (.array (Tryd.prog.arrayLen 43) (Tryd.prog.elem 43)) := by rw [hl, he]; exact Tryd.underlying43
  have hs : ∀ w, (Go.sizeOf 5).run Tryd.prog w = .ok 1 w := fun w => by kernel_rfl
  rw [run_sliceAt_array_h w 43 ⟨b, 0, none⟩ ht .i64 4 (by omega) (by rw [hl]; omega), he, hs, hl]
  rfl
theorem infoHashA : (Tryd.prog.info? 43).map (fun i => (i.zero, i.size)) = some (some (.agg (arr 32 (bv fun _ => 0))), 32) := by kernel_rfl
theorem isH_bytes (l : List Nat) : ∀ i, lf (dbl l) i < 256 := lf_lt (isH_dbl l).byte
theorem asumof_any {w : World} {p : Option Addr} {g o n c : Nat} {x : Nat → Nat} (R : Hid (Row w p g o n c x)) (hn : n ≤ 140737488351232) (L : Hid (S.Both w)) :
    Calls Tryd.prog 38 #[.slice p n c] w fun e w' => ∃ b, e = .returned (.slice (some ⟨b, 0, none⟩) 4 32) ∧ Row w' (some ⟨b, 0, none⟩) b 0 4 32 (lf (dbl (tl x n))) ∧ Below w.heap.size w w' := by
  have E := Lib.hid (Mem.nil w)
  have R2 : Row w p g o (tl x n).length c (lf (tl x n)) := by rw [tl_length]; exact R.out.to (fun i hi => (lf_tl x hi).symm) (lf_lt (isB_tl R.out.byte n))
  have D := Lib.hid (show ∀ w', Below w.heap.size w w' → Calls Tryd.prog 58 #[.slice p n c] w' fun e w'' => e = .returned (.agg (arr 32 (bv (lf (dbl (tl x n)))))) ∧ Below w'.heap.size w' w'' from fun w' hb => by
    have := double_l (Lib.hid (R2.below hb)) (by rw [tl_length]; exact hn) (Lib.hid (L.out.below hb))
    rw [tl_length] at this
    exact this)
  have DB := Lib.hid (isH_bytes (tl x n))
  obtain ⟨d, hd⟩ : ∃ d, d = dbl (tl x n) := ⟨_, rfl⟩
  rw [← hd] at D DB ⊢
  clear hd R2 R L
  go_enter Tryd.func38, Tryd.ntmps38
  go_wp2_with (first
    | (go_at_call 58; refine (D.out _ E.out.below).mono ?_; rintro e w4 ⟨rfl, hb⟩; replace E := Lib.hid (E.out.call hb); clear hb)
    | ((with_reducible refine wpList_at 3 rfl ?_); refine mem_alloc E 43 rfl rfl infoHashA ?_; clear E; intro b3 w5 E; simp only [arr_cells'] at E)
    | ((with_reducible refine wpList_atn rfl ?_); refine mem_store_row 0 E 43 rfl (.tmp 3) (.tmp 5) rfl rfl rfl rfl (by kernel_rfl) (by simp only [arr_size]) (bv_one _ _) ?_; clear E; intro w6 E; simp only [List.set_cons_zero, List.set_cons_succ] at E)
    | ((with_reducible refine wpList_at 6 rfl ?_); refine mem_known rfl (.slice (some ⟨b3, 0, none⟩) 4 32) _ (exec_sl rfl (by exact run_h4a b3 _)) ?_))
  go_ret
  refine ⟨b3, rfl, ⟨by omega, by unfold maxLen; omega, fun h => (by cases h), fun _ => rfl, fun i hi => ?_, DB.out⟩, E.out.below⟩
  rw [Nat.zero_add]
  exact cell_of_here (E.out.get List.mem_cons_self) i (arr_get 32 _ i (by omega))
theorem sT_list {m n : Nat} {x : Nat → Nat} {X Y : Nat → Nat} {k : Nat} (hX : X = cat (fun _ => m) 1 x) (hY : Y = cat X k (lf (dbl (tl X k)))) (hk : k = 1 + n) : tl Y (k + 4) = (m :: tl x n) ++ (dbl (m :: tl x n)).take 4 := by
  have h1 : tl X k = m :: tl x n := by rw [hX, hk, tl_cat, tl_one]; rfl
  rw [hY, tl_cat, h1]
  congr 1
set_option maxHeartbeats 4000000 in
theorem sumtext_any {w : World} (L : Hid (S.Both w)) (m : Nat) (hm : m < 256) {p : Option Addr} {g o n c : Nat} {x : Nat → Nat} (R : Hid (Row w p g o n c x)) (hn : n ≤ 1000) :
    Calls Tryd.prog 18 #[.int .u8 (m : Int), .slice p n c] w fun e w' => e = .returned (.string (sT m (tl x n))) ∧ Below w.heap.size w w' := by
  obtain ⟨k, hk⟩ : ∃ k, k = 1 + n := ⟨_, rfl⟩
  obtain ⟨X, hX⟩ : ∃ X, X = cat (fun _ => m) 1 x := ⟨_, rfl⟩
  obtain ⟨Y, hY⟩ : ∃ Y, Y = cat X k (lf (dbl (tl X k))) := ⟨_, rfl⟩
  have SE := Lib.hid (show b58 (tl Y (k + 4)) = sT m (tl x n) by rw [sT_list hX hY hk]; rfl)
  have HK := Lib.hid hk.symm
  have HX := Lib.hid hX.symm
  have HY := Lib.hid hY.symm
  have HM := Lib.hid hm
  obtain ⟨k4, hk4⟩ : ∃ k4, k4 = k + 4 := ⟨_, rfl⟩
  have HK4 := Lib.hid hk4.symm
  have kb : k ≤ 1001 := by omega
  have k4b : k4 ≤ 1005 := by omega
  clear hk hX hY hm hk4
  go_enter Tryd.func18, Tryd.ntmps18
  go_wp2_with (first
    | ((with_reducible refine wpList_at 7 rfl ?_); refine wpList_b1o rfl _ rfl (.int .u8 (m : Int)) (v := m) (by kernel_rfl) rfl HM.out ?_; intro p1 g1 w1 N hb; have BB := Lib.hid hb.out; replace R := Lib.hid (R.out.below hb.out); clear hb; try simp only [Act.put, List.setIfInBounds_toArray, List.set_cons_zero, List.set_cons_succ])
    | ((with_reducible refine wpList_at 9 rfl ?_); refine wpList_app (.inl rfl) (.tmp 7) (.tmp 8) rfl rfl N rfl R (by omega) ?_; clear N; intro p8 g8 c8 w8 N hb8; rw [HK.out, HX.out] at N; rw [HK.out]; replace BB := Lib.hid (BB.out.trans hb8.out); clear hb8; try simp only [Act.put, List.setIfInBounds_toArray, List.set_cons_zero, List.set_cons_succ])
    | (go_at_call 38; refine (asumof_any (Lib.hid N.out.row) (by omega) (Lib.hid (L.out.below BB.out))).mono ?_; rintro e w3 ⟨b3, rfl, R3, hb⟩; have R4 := Lib.hid R3; replace N := Lib.hid (N.out.below hb); replace BB := Lib.hid (BB.out.trans (hb.mono BB.out.size)); clear R3 hb)
    | ((with_reducible refine wpList_at 13 rfl ?_); refine wpList_app (.inl rfl) (.tmp 10) (.tmp 12) rfl rfl N rfl R4 (by omega) ?_; clear N; intro p9 g9 c9 w9 N hb8; rw [HY.out, HK4.out] at N; rw [HK4.out]; replace BB := Lib.hid (BB.out.trans hb8.out); clear hb8; try simp only [Act.put, List.setIfInBounds_toArray, List.set_cons_zero, List.set_cons_succ])
    | (go_at_call 24; refine (b58_any (Lib.hid N.out.row) (by omega)).mono ?_; rintro e w4 ⟨rfl, hb⟩; replace BB := Lib.hid (BB.out.trans (hb.mono BB.out.size)); clear hb))
  go_ret
  exact ⟨by rw [← SE.out, HK4.out]; rfl, BB.out⟩
end Go.Proofs.YtghjgkgfpblijaaDoor
