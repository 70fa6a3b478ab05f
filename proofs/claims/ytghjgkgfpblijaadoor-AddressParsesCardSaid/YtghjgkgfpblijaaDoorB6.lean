/- One letter of an address of bits turned: it is none; bytes of a text turned in place. -/
import Derived.Test.YtghjgkgfpblijaaDoorB5
set_option linter.unusedSimpArgs false
set_option linter.unusedVariables false
set_option maxRecDepth 100000
namespace Go.Proofs.YtghjgkgfpblijaaDoor
open Go.ChangeShapes Go.WideShapes Go.RowKit Go.Lib Go.Sort

theorem nsB_chk {v : Nat} (hv : v < 32) (b : List Nat) : chk (nsB v b) = endV v := chk_good (fun x hx => by
  rcases List.mem_cons.1 hx with rfl | q
  · exact hv
  · exact grpX_lt (o := 5) (by omega) x q) (endV_lt v)
theorem mkOf_zero (b : List Nat) : mkOf 0 b = none := mkOf_no fun j _ hk => by omega
theorem pbits_bad {all : List Nat} (h : chk all ≠ endV (all.getD 0 0)) : pbits all = none := by
  unfold pbits
  by_cases h7 : all.length < 7
  · rw [if_pos h7]
  · rw [if_neg h7, if_pos h]
/-- A version that stands for nothing. -/
theorem pbits_ver {d : Nat} {t : List Nat} (h : ∀ n, kOf d n = 0) : pbits (d :: t) = none := by
  unfold pbits
  split
  · rfl
  · split
    · rfl
    · split
      · rfl
      · rw [show (d :: t).getD 0 0 = d from rfl, h, mkOf_zero]
theorem kOf_two {d : Nat} (h : 2 ≤ d) (n : Nat) : kOf d n = 0 := by
  unfold kOf
  rw [if_neg (by omega), if_neg (by omega), if_neg (by omega)]
theorem split_at (l : List Nat) {i : Nat} (h : i < l.length) : l = l.take i ++ lf l i :: l.drop (i + 1) := by
  rw [lf_get h, List.getElem_cons_drop, List.take_append_drop]
theorem set_at (l : List Nat) {i : Nat} (h : i < l.length) (d : Nat) : l.set i d = l.take i ++ d :: l.drop (i + 1) := by
  rw [List.set_eq_take_append_cons_drop, if_pos h]
theorem turned_none {v : Nat} {b : List Nat} (hb : ∀ x, x ∈ b → x < 256) (hw : (v = 0 ∧ b.length = 20) ∨ (v = 0 ∧ b.length = 32) ∨ (v = 1 ∧ b.length = 32)) {i d : Nat} (hi : i < (nsB v b).length) (hd : d < 32) (hne : d ≠ lf (nsB v b) i) : pbits ((nsB v b).set i d) = none := by
  have hv : v < 32 := by omega
  have hlt := nsB_lt hv b
  have hc := nsB_chk hv b
  have hx : lf (nsB v b) i < 32 := by rw [lf_get hi]; exact hlt _ (List.getElem_mem hi)
  have h1 := split_at (nsB v b) hi
  have hne2 : chk ((nsB v b).set i d) ≠ chk (nsB v b) := by
    rw [set_at _ hi]
    have := chk_turn (a := (nsB v b).take i) (b := (nsB v b).drop (i + 1)) (x := lf (nsB v b) i) (y := d) (fun x q => hlt x (List.mem_of_mem_take q)) (fun x q => hlt x (List.mem_of_mem_drop q)) hx hd (fun e => hne e.symm)
    rw [← h1] at this
    exact this
  rw [hc] at hne2
  rcases Nat.eq_zero_or_pos i with rfl | hi0
  · have hset : (nsB v b).set 0 d = d :: (nsB v b).drop 1 := by rw [set_at _ hi]; rfl
    have hv0 : lf (nsB v b) 0 = v := rfl
    rw [hv0] at hne h1
    by_cases hd2 : 2 ≤ d
    · rw [hset]; exact pbits_ver (kOf_two hd2)
    · refine pbits_bad ?_
      rw [show ((nsB v b).set 0 d).getD 0 0 = d by rw [hset]; rfl]
      by_cases h20 : b.length = 20
      · -- then d = 1 stands for nothing of 20 bytes: told below
        intro hh
        exact absurd hh (by
          have hv1 : v = 0 := by omega
          have hd1 : d = 1 := by omega
          subst hv1 hd1
          rw [hset]
          intro he
          have e1 := pol_turn (s := 1) (by omega) (a := [3, 3, 0, 2, 3]) (b := (nsB 0 b).drop 1) (x := 0) (y := 1) (by intro z hz; simp at hz; omega) (fun x q => hlt x (List.mem_of_mem_drop q)) (by omega) (by omega)
          have e2 : pol 1 ([3, 3, 0, 2, 3] ++ 0 :: (nsB 0 b).drop 1) = 1 := by
            have : chk (nsB 0 b) = 1 := hc
            rw [h1] at this
            exact this
          have e3 : pol 1 ([3, 3, 0, 2, 3] ++ 1 :: (nsB 0 b).drop 1) = 734539939 := he
          have hl : ((nsB 0 b).drop 1).length = 38 := by rw [List.length_drop, nsB_len, grp_len20 h20]
          rw [e2, e3, hl] at e1
          have e4 : ¬ ((734539939 : Nat) = 1 ^^^ pol 0 ((0 ^^^ 1) :: List.replicate 38 0)) := by decide +kernel
          exact e4 e1)
      · intro hh
        have h32 : b.length = 32 := by omega
        have hl : ((nsB v b).drop 1).length = 58 := by rw [List.length_drop, nsB_len, grp_len32 h32]
        have e1 := pol_turn (s := 1) (by omega) (a := [3, 3, 0, 2, 3]) (b := (nsB v b).drop 1) (x := v) (y := d) (by intro z hz; simp at hz; omega) (fun x q => hlt x (List.mem_of_mem_drop q)) hv hd
        have e2 : pol 1 ([3, 3, 0, 2, 3] ++ v :: (nsB v b).drop 1) = endV v := by
          have := hc
          rw [h1] at this
          exact this
        have e3 : pol 1 ([3, 3, 0, 2, 3] ++ d :: (nsB v b).drop 1) = endV d := by rw [hset] at hh; exact hh
        rw [e2, e3, hl] at e1
        have hvd : (v = 0 ∧ d = 1) ∨ (v = 1 ∧ d = 0) := by omega
        rcases hvd with ⟨rfl, rfl⟩ | ⟨rfl, rfl⟩
        · have e4 : ¬ (endV 1 = endV 0 ^^^ pol 0 ((0 ^^^ 1) :: List.replicate 58 0)) := by decide +kernel
          exact e4 e1
        · have e4 : ¬ (endV 0 = endV 1 ^^^ pol 0 ((1 ^^^ 0) :: List.replicate 58 0)) := by decide +kernel
          exact e4 e1
  · refine pbits_bad ?_
    have h0 : ((nsB v b).set i d).getD 0 0 = v := by
      rw [List.getD_eq_getElem?_getD, List.getElem?_set_ne (by omega)]
      rfl
    rw [h0]
    exact hne2
theorem set_lt {l : List Nat} {i d : Nat} (h : ∀ x, x ∈ l → x < 32) (hd : d < 32) : ∀ x, x ∈ l.set i d → x < 32 := fun x hx => by
  rcases List.mem_or_eq_of_mem_set hx with q | q
  · exact h x q
  · omega
/-- A text of numbers. -/
def nT (l : List Nat) : ByteArray := SB ++ ltS SL l
theorem nT_size (l : List Nat) : (nT l).size = l.length + 3 := by
  unfold nT
  rw [ByteArray.size_append, ltS_size]
  show 3 + _ = _
  omega
theorem nT_byte {l : List Nat} {i : Nat} (h : i < l.length) : byt (nT l) (3 + i) = byt SL (lf l i) := by
  unfold nT
  rw [byt_catr (by show 3 ≤ _; omega) (by rw [ltS_size]; show 3 + i < 3 + l.length; omega)]
  rw [show 3 + i - SB.size = i by show 3 + i - 3 = i; omega, ltS_byt h]
theorem pA_turned {v : Nat} {b : List Nat} (hb : ∀ x, x ∈ b → x < 256) (hw : (v = 0 ∧ b.length = 20) ∨ (v = 0 ∧ b.length = 32) ∨ (v = 1 ∧ b.length = 32)) {i d : Nat} (hi : i < (nsB v b).length) (hd : d < 32) (hne : d ≠ lf (nsB v b) i) : pA (nT ((nsB v b).set i d)) = none := by
  have hl : (nsB v b).length = 39 ∨ (nsB v b).length = 59 := by
    rw [nsB_len]
    rcases hw with ⟨_, h⟩ | ⟨_, h⟩ | ⟨_, h⟩
    · rw [grp_len20 h]; omega
    · rw [grp_len32 h]; omega
    · rw [grp_len32 h]; omega
  have hz : (nT ((nsB v b).set i d)).size = (nsB v b).length + 3 := by rw [nT_size, List.length_set]
  have hlt := set_lt (i := i) (nsB_lt (v := v) (by omega) b) hd
  have h1 : numS (nT ((nsB v b).set i d)) = some ((nsB v b).set i d) := by
    unfold numS nT
    obtain ⟨h1, h2⟩ := hasP_app SB (ltS SL ((nsB v b).set i d))
    obtain ⟨h3, h4⟩ := ltS_places SL_size SL_ix hlt
    rw [if_pos h1, h2, if_pos h3, h4]
  have h2 : pB (nT ((nsB v b).set i d)) = none := by
    unfold pB
    rw [if_neg (by omega), h1]
    exact turned_none hb hw hi hd hne
  unfold pA
  rw [long_none (by omega) (.inl (by unfold nT; exact byt_catl (by show 0 < 3; omega))), h2]
theorem SL_inj {i j : Nat} (hi : i < 32) (hj : j < 32) (h : byt SL i = byt SL j) : i = j := by
  have h1 := SL_ix ⟨i, hi⟩
  have h2 := SL_ix ⟨j, hj⟩
  simp only at h1 h2
  rw [← h1, h, h2]
/-- The text with one letter put. -/
theorem nT_put {l : List Nat} {i d sz : Nat} (hi : i < l.length) (hz : sz = l.length + 3) : strX (fun k => if k = 3 + i then byt SL d else byt (nT l) k) sz = nT (l.set i d) := by
  refine ba_ext (by rw [strX_size, nT_size, List.length_set, hz]) fun k hk => ?_
  rw [strX_size] at hk
  rw [strX_byt (fun k => by split; exact byt_lt _ _; exact byt_lt _ _) hk]
  by_cases h3 : k < 3
  · rw [if_neg (by omega)]
    unfold nT
    rw [byt_catl (by show k < 3; omega), byt_catl (by show k < 3; omega)]
  · obtain ⟨q, rfl⟩ : ∃ q, k = 3 + q := ⟨k - 3, by omega⟩
    have hq : q < l.length := by omega
    rw [nT_byte (l := l.set i d) (by rw [List.length_set]; exact hq)]
    by_cases e : q = i
    · subst e
      rw [if_pos rfl, lf_get (by rw [List.length_set]; exact hq), List.getElem_set_self]
    · rw [if_neg (by omega), nT_byte hq, lf_get hq, lf_get (by rw [List.length_set]; exact hq), List.getElem_set_ne (by omega)]
theorem run_ixS64 (s : ByteArray) (i : Nat) (hi : i < s.size) (w : World) : (Instr.index 9 (.string s) (.int .i64 (i : Int))).run Tryd.prog w = .ok (.int .u8 ((byt s i : Nat) : Int)) w := by
  rw [run_index_string (w := w) 9 s .i64 (i : Int) Tryd.underlying9, dif_pos ⟨by omega, by omega⟩]
  rw [← byt_get s i hi]
  rfl
theorem ownM_put {w : World} {p : Option Addr} {B g n c i v : Nat} {x : Nat → Nat} (N : OwnM B w p g n c x) (hi : i < n) (hv : v < 256) : OwnM B (w.setCell ⟨g, i, none⟩ (.int .u8 (v : Int))) p g n c (fun k => if k = i then v else x k) ∧ Below B w (w.setCell ⟨g, i, none⟩ (.int .u8 (v : Int))) ∧ w.frozen? ⟨g, i, none⟩ = false := by
  obtain ⟨cur, fz, h1, h2, h3, h4⟩ := N.here
  have hle := N.le
  have H : (w.setCell ⟨g, i, none⟩ (.int .u8 (v : Int))).heap[g]? = some (.cells (cur.setIfInBounds i (.int .u8 (v : Int))) 5 fz) := by
    simp only [World.setCell, Array.getElem?_modify]
    rw [if_pos trivial, h1]
    simp
  have hO : Only g w (w.setCell ⟨g, i, none⟩ (.int .u8 (v : Int))) := (Only.refl g w).setCell ⟨g, i, none⟩ rfl _
  have hb2 : Below B w (w.setCell ⟨g, i, none⟩ (.int .u8 (v : Int))) := only_below hO N.lo N.low
  refine ⟨⟨N.hd, N.lo, ⟨_, fz, H, by rw [Array.size_setIfInBounds]; exact h2, by rw [Array.size_setIfInBounds]; exact h3, ?_⟩, N.le, N.cap, fun k => ?_, Nat.le_trans N.low hb2.size⟩, hb2, free_mark h1 h2 (by omega)⟩
  · apply List.ext_getElem?
    intro k
    have e1 : (cur.toList.take n)[k]? = (fbs x n)[k]? := by rw [h4]
    rcases Nat.lt_or_ge k n with q | q
    · rw [List.getElem?_take_of_lt q] at e1 ⊢
      rw [fbs_at _ _ _ q] at e1 ⊢
      rw [Array.toList_setIfInBounds, List.getElem?_set]
      by_cases e : i = k
      · subst e
        rw [if_pos rfl, if_pos (by rw [Array.length_toList]; omega), if_pos rfl]
      · rw [if_neg e, if_neg (fun h => e h.symm), e1]
    · rw [List.getElem?_eq_none (by rw [List.length_take]; omega), List.getElem?_eq_none (by rw [fbs_length]; exact q)]
  · split
    · exact hv
    · exact N.byte k
/-- A byte, stored into a text's bytes. -/
theorem wpList_mput0 {ops : Array Oper} {rest : List Oper} {Q : Exit → Act → World → Prop} {op : Oper} {a : Act} {w : World} (hg : op.guard = none) (x y : Operand) (ho : op.op = .store 5 x y) {B g n c i v : Nat} {p : Option Addr} {f : Nat → Nat} (N : Hid (OwnM B w p g n c f)) (hx : a.eval x = .pointer (some ⟨g, i, none⟩)) (hy : a.eval y = .int .u8 (v : Int)) (hi : i < n) (hv : v < 256)
    (k : ∀ w', Hid (OwnM B w' p g n c fun k => if k = i then v else f k) → Hid (Below B w w') → wpList Tryd.prog ops Q rest (a.put op.dst undef) w') : wpList Tryd.prog ops Q (op :: rest) a w := by
  obtain ⟨O, hb, hf⟩ := ownM_put N.out hi hv
  have hc := N.out.row.cell i hi
  rw [Nat.zero_add] at hc
  refine wpList_plain hg fun K hK => ?_
  unfold Oper.wp execOp
  simp only [ho, hx, hy, Sem.run_bind, Sem.run_pure, run_store_one (P := Tryd.prog) (ty := 5) (v := .int .u8 (v : Int)) (by kernel_rfl) rfl rfl hc hf, Result.andThen_ok]
  exact hK _ _ (k _ (Lib.hid O) (Lib.hid hb))
end Go.Proofs.YtghjgkgfpblijaaDoor
