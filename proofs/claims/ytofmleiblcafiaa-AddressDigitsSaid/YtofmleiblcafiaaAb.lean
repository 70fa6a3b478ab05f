/- address.rebase: a number in places of another base. -/
import Derived.Test.YtofmleiblcafiaaAv
import Derived.Test.YtofmleiblcafiaaAp
import Derived.Test.YtofmleiblcafiaaBs
set_option linter.unusedSimpArgs false
set_option linter.unusedVariables false
set_option maxRecDepth 100000
namespace Go.Proofs.Ytofmleiblcafiaa
open Go.RowKit Go.Lib Go.Sort

section
variable {ops : Array Oper} {rest : List Oper} {Q : Exit → Act → World → Prop} {op : Oper} {a : Act} {w : World}
/-- A slice of one byte. -/
theorem wpList_b1 (hw : Region.wanted op (yielded ops a.tmps) = true) (parts : Array (Nat × Operand)) (ho : op.op = .buildSlice 22 1 parts) (y0 : Value) {v : Nat} (hp : (parts.map fun (i, y) => (i, a.eval y)) = #[(0, y0)]) (he : y0 = .int .u8 (v : Int)) (hv : v < 256)
    (k : ∀ b w', Hid (Row w' (some ⟨b, 0, none⟩) b 0 1 1 (fun _ => v)) → Hid (Below w.heap.size w w') → wpList Try.prog ops Q rest (a.put op.dst (.slice (some ⟨b, 0, none⟩) 1 1)) w') : wpList Try.prog ops Q (op :: rest) a w := by
  subst he
  refine wpList_known4 hw (.slice (some ⟨w.heap.size, 0, none⟩) 1 1) (w.alloc (.cells (fbs (fun _ => v) 1).toArray 5)) ?_ (k _ _ (Lib.hid (own_new w (fun _ => v) 1 (by unfold maxLen; omega) fun _ => hv).row) (Lib.hid (below_new w _)))
  unfold execOp
  have h := run_bs1v Try.underlying22 infoB (.int .u8 (v : Int)) rfl w
  simp only [ho, hp, Sem.run_bind, h, Result.andThen_ok]
  rfl
end
theorem dig_bound {b c : Nat} (hb : 0 < b) (hc : 2 ≤ c) (hbc : b ≤ c ^ 8) {ps : List Nat} (h : ∀ x, x ∈ ps → x < b) : (dig c (acc b ps)).length ≤ 8 * ps.length := by
  refine (dig_len_le hc _ _).2 (Nat.lt_of_lt_of_le (acc_lt hb ps h) ?_)
  rw [Nat.pow_mul]
  exact Nat.pow_le_pow_left hbc _
theorem tl_succ (x : Nat → Nat) (j : Nat) : tl x (j + 1) = tl x j ++ [x j] := by unfold tl; rw [List.range_succ, List.map_append]; rfl
theorem tl_mem {x : Nat → Nat} {n b : Nat} (h : ∀ i, i < n → x i < b) : ∀ y, y ∈ tl x n → y < b := fun y hy => by
  obtain ⟨i, hi, rfl⟩ := List.mem_map.1 hy
  exact h i (by simpa using hi)
/-- The first L digits. -/
theorem dig_take {c n L : Nat} (hc : 2 ≤ c) (h : L ≤ (dig c n).length) : (dig c n).take L = tl (fun i => n / c ^ i % c) L := by
  apply lf_inj
  · rw [List.length_take, tl_length]; omega
  · intro i hi
    rw [List.length_take] at hi
    rw [lf_tl _ (by omega)]
    unfold lf
    rw [List.getD_eq_getElem?_getD, List.getElem?_take_of_lt (by omega), ← List.getD_eq_getElem?_getD, dig_getD hc]
/-- The digits behind a place: the first ones are turned in place, the others come of the carry. -/
theorem dig_more {c b V p : Nat} (hc : 2 ≤ c) (hb : 1 ≤ b) : tl (fun i => (V * b + p) / c ^ i % c) (dig c V).length ++ dig c ((V * b + p) / c ^ (dig c V).length) = dig c (V * b + p) := by
  have hV : V ≤ V * b + p := Nat.le_trans (Nat.le_mul_of_pos_right V (by omega)) (Nat.le_add_right _ _)
  have hL := dig_mono hc hV
  rw [← dig_take hc hL]
  exact (dig_split hc _ _ hL).symm
theorem dig_out {c V : Nat} (hc : 2 ≤ c) : V / c ^ (dig c V).length = 0 := Nat.div_eq_of_lt ((dig_len_le hc _ V).1 (Nat.le_refl _))
theorem lf_rev (l : List Nat) {i : Nat} (h : i < l.length) : lf l (l.length - 1 - i) = lf l.reverse i := by
  rw [lf_get (by omega), lf_get (by rw [List.length_reverse]; exact h), List.getElem_reverse]
theorem lz_is {x : Nat → Nat} {n q : Nat} (hq : q ≤ n) (h : ∀ i, i < q → x i = 0) (he : q = n ∨ x q ≠ 0) : lz (tl x n) = q := by
  rcases Nat.lt_trichotomy (lz (tl x n)) q with h1 | h1 | h1
  · have h2 := lz_end (l := tl x n) (by rw [tl_length]; omega)
    exact absurd ((lf_tl x (by omega)).trans (h _ h1)) h2
  · exact h1
  · rcases he with rfl | he
    · have := lz_le (tl x q); rw [tl_length] at this; omega
    · have h2 := lz_get h1
      have h3 : lf (tl x n) q = x q := lf_tl x (by have := lz_le (tl x n); rw [tl_length] at this; omega)
      exact absurd (h3.symm.trans h2) he
set_option maxHeartbeats 16000000 in
theorem rebase_to {w : World} {p : Option Addr} {g o n cc : Nat} {x : Nat → Nat} (R : Hid (Row w p g o n cc x)) (hn : n ≤ 1000000) (hx : Hid (∀ i, i < n → x i < 256)) : Calls Try.prog 12 #[.slice p n cc, .int .i64 256, .int .i64 58] w (GetsL w (reb 256 58 (tl x n))) := by
  go_enter Try.func12, Try.ntmps12
  go_wp2
  have N0 := Lib.hid (own_nothing w w.heap.size (lf []) (lf_lt isB_nil) (Nat.le_refl _))
  have B0 := Lib.hid (Below.refl w.heap.size w)
  go_loopg [7, 17] n (fun k s i wr => ∃ (j m c1 g1 : Nat) (p1 : Option Addr) (ds : List Nat), j + k = n ∧ i = .int .i64 (j : Int) ∧ s = .slice p1 m c1 ∧ Hid (m = ds.length ∧ ds = dig 58 (acc 256 (tl x j))) ∧ Hid (Own w.heap.size wr p1 g1 m c1 (lf ds)) ∧ Hid (Below w.heap.size w wr))
  case atStart => exact ⟨0, 0, 0, 0, none, [], by omega, rfl, rfl, Lib.hid ⟨rfl, rfl⟩, N0, B0⟩
  case round =>
    clear N0 B0
    obtain ⟨j, m, c1, g1, p1, ds, hj, rfl, rfl, D, N, BB⟩ := hrel
    obtain ⟨kk, rfl⟩ : ∃ kk : Nat, kk = gk := ⟨_, rfl⟩
    obtain ⟨wo, rfl⟩ : ∃ wo : World, wo = wr := ⟨_, rfl⟩
    have mb : m ≤ 8 * j := by
      rw [D.out.1, D.out.2]
      have := dig_bound (b := 256) (c := 58) (by omega) (by omega) (by decide) (tl_mem (n := j) fun i hi => hx.out i (by omega))
      rwa [tl_length] at this
    by_cases hlt : j < n
    · obtain rfl := R.out.head (by omega)
      have HLT := Lib.hid hlt
      have xb := hx.out j hlt
      obtain ⟨y, hy⟩ : ∃ y, y = x j := ⟨_, rfl⟩
      have CL := Lib.hid (show wo.cell? ⟨g, o + j, none⟩ = some (.int .u8 (y : Int)) by rw [hy]; exact (R.out.below BB.out).cell j hlt)
      obtain ⟨V, hV⟩ : ∃ V, V = acc 256 (tl x j) := ⟨_, rfl⟩
      rw [← hV] at D
      rw [← hy] at xb
      have HN := Lib.hid (show acc 256 (tl x (j + 1)) = V * 256 + y by rw [tl_succ, acc_snoc, ← hV, ← hy])
      have MO := Lib.hid (show tl (fun i => (V * 256 + y) / 58 ^ i % 58) m ++ dig 58 ((V * 256 + y) / 58 ^ m) = dig 58 (V * 256 + y) by rw [D.out.1, D.out.2]; exact dig_more (by omega) (by omega))
      have ZE := Lib.hid (show V / 58 ^ m = 0 by rw [D.out.1, D.out.2]; exact dig_out (by omega))
      have DG := Lib.hid (show ∀ q, lf ds q = V / 58 ^ q % 58 from fun q => by rw [D.out.2]; exact dig_getD (by omega) q V)
      have LB := Lib.hid (show (dig 58 (V * 256 + y)).length ≤ 8 * (j + 1) by
        rw [← HN.out]
        have := dig_bound (b := 256) (c := 58) (by omega) (by omega) (by decide) (tl_mem (n := j + 1) fun i hi => hx.out i (by omega))
        rwa [tl_length] at this)
      have S0 := Lib.hid (show y < 256 ∧ (V * 256 + y) / 58 ^ 0 = y + 256 * (V / 58 ^ 0) from ⟨xb, by rw [Nat.pow_zero, Nat.div_one, Nat.div_one, Nat.mul_comm]; omega⟩)
      have N1 := Lib.hid (N.out.to (y := fun i => if i < 0 then (V * 256 + y) / 58 ^ i % 58 else lf ds i) (fun i _ => by rw [if_neg (by omega)]) (fun i => by split; exact absurd (by assumption) (by omega); exact N.out.byte i))
      clear hy hV N D
      go_wp2_with (first
        | ((with_reducible refine wpList_at 19 rfl ?_); refine wpList_ix (k := 1) (j := j) Try.underlying22 (by kernel_rfl) (.tmp 15) (.tmp 17) rfl rfl rfl rfl HLT.out rfl ?_; rw [Nat.mul_one]; try simp only [Act.put, List.setIfInBounds_toArray, List.set_cons_zero, List.set_cons_succ])
        | ((with_reducible refine wpList_at 20 rfl ?_); refine wpList_ld1 5 (.tmp 19) rfl rfl rfl Try.underlying5 rfl CL.out ?_; try simp only [Act.put, List.setIfInBounds_toArray, List.set_cons_zero, List.set_cons_succ]))
      go_loopg [10, 25] m (fun k s i wr => ∃ q r : Nat, q + k = m ∧ i = .int .i64 (q : Int) ∧ s = .int .i64 (r : Int) ∧ Hid (r < 256 ∧ (V * 256 + y) / 58 ^ q = r + 256 * (V / 58 ^ q)) ∧ Hid (Own w.heap.size wr p1 g1 m c1 (fun i => if i < q then (V * 256 + y) / 58 ^ i % 58 else lf ds i)) ∧ Hid (Below w.heap.size w wr))
      case atStart => exact ⟨0, y, by omega, rfl, rfl, S0, N1, BB⟩
      case round =>
        clear S0 N1 BB
        obtain ⟨q, r, hq, rfl, rfl, S, N, BB⟩ := hrel
        obtain ⟨k2, rfl⟩ : ∃ kk : Nat, kk = gk := ⟨_, rfl⟩
        have rb := S.out.1
        by_cases hlq : q < m
        · have HLQ := Lib.hid hlq
          obtain rfl := N.out.row.head (by omega)
          obtain ⟨z, hz⟩ : ∃ z, z = V / 58 ^ q % 58 := ⟨_, rfl⟩
          have zb : z < 58 := by rw [hz]; exact Nat.mod_lt _ (by omega)
          have C2 := Lib.hid (show wr.cell? ⟨g1, q, none⟩ = some (.int .u8 (z : Int)) by have := N.out.row.cell q hlq; rwa [if_neg (by omega), DG.out, ← hz, Nat.zero_add] at this)
          have ST := Lib.hid (step_div (c := 58) (L := q) (by omega) S.out.2 hz)
          have CB := Lib.hid (carry_lt (c := 58) (b := 256) rb zb)
          clear hz S
          go_wp2_with (first
            | ((with_reducible refine wpList_at 28 rfl ?_); refine wpList_ix (k := 1) (j := q) Try.underlying22 (by kernel_rfl) (.tmp 23) (.tmp 25) rfl rfl rfl rfl HLQ.out rfl ?_; rw [Nat.mul_one, Nat.zero_add]; try simp only [Act.put, List.setIfInBounds_toArray, List.set_cons_zero, List.set_cons_succ])
            | ((with_reducible refine wpList_at 29 rfl ?_); refine wpList_ld1 5 (.tmp 28) rfl rfl rfl Try.underlying5 rfl C2.out ?_; try simp only [Act.put, List.setIfInBounds_toArray, List.set_cons_zero, List.set_cons_succ])
            | ((with_reducible refine wpList_at 42 rfl ?_); refine wpList_ix (k := 1) (j := q) Try.underlying22 (by kernel_rfl) (.tmp 36) (.tmp 37) rfl rfl rfl rfl HLQ.out rfl ?_; rw [Nat.mul_one, Nat.zero_add]; try simp only [Act.put, List.setIfInBounds_toArray, List.set_cons_zero, List.set_cons_succ])
            | ((refine wpList_atn rfl ?_); refine wpList_bput0 rfl (.tmp 42) (.tmp 41) rfl N rfl (v := (r + z * 256) % 58) (congrArg (Value.int .u8) (show ((r : Int) + (z : Int) * 256) % 58 = (((r + z * 256) % 58 : Nat) : Int) by omega)) HLQ.out (by omega) ?_; clear N; intro w8 N hb8; replace BB := Lib.hid (BB.out.trans hb8.out)))
          have N2 := Lib.hid (N.out.to (y := fun i => if i < q + 1 then (V * 256 + y) / 58 ^ i % 58 else lf ds i) (fun i _ => by
            rcases Nat.lt_trichotomy i q with h | h | h
            · rw [if_neg (by omega), if_pos h, if_pos (by omega)]
            · subst h; rw [if_pos rfl, if_pos (by omega)]; exact ST.out.2.symm
            · rw [if_neg (by omega), if_neg (by omega), if_neg (by omega)]) (fun i => by
            split
            · have := Nat.mod_lt ((V * 256 + y) / 58 ^ i) (show 0 < 58 by omega); omega
            · rw [DG.out]; have := Nat.mod_lt (V / 58 ^ i) (show 0 < 58 by omega); omega))
          go_roundg (m - (q + 1))
          case measure => omega
          case rel => exact ⟨q + 1, (r + z * 256) / 58, by omega, by go_num, congrArg (Value.int .i64) (by omega), Lib.hid ⟨CB.out, ST.out.1⟩, N2, BB⟩
        · obtain rfl : q = m := by omega
          have RM := Lib.hid (show r = (V * 256 + y) / 58 ^ q by rw [S.out.2, ZE.out]; omega)
          have N3 := Lib.hid (N.out.to (y := lf (tl (fun i => (V * 256 + y) / 58 ^ i % 58) q)) (fun i hi => by rw [if_pos hi, lf_tl _ hi]) (lf_lt fun v hv => by
            obtain ⟨i, _, rfl⟩ := List.mem_map.1 hv
            have := Nat.mod_lt ((V * 256 + y) / 58 ^ i) (show 0 < 58 by omega); omega))
          have M3 := Lib.hid (show tl (fun i => (V * 256 + y) / 58 ^ i % 58) q ++ dig 58 r = dig 58 (V * 256 + y) by rw [RM.out]; exact MO.out)
          have L3 := Lib.hid (show q = (tl (fun i => (V * 256 + y) / 58 ^ i % 58) q).length from (tl_length _ _).symm)
          clear N S RM MO ZE DG
          go_wp2
          go_loopg [7, 10] r (fun k s i wr => ∃ (r q c1 g1 : Nat) (p1 : Option Addr) (es : List Nat), r ≤ k ∧ r < 256 ∧ i = .int .i64 (r : Int) ∧ s = .slice p1 q c1 ∧ Hid (q = es.length ∧ es ++ dig 58 r = dig 58 (V * 256 + y)) ∧ Hid (Own w.heap.size wr p1 g1 q c1 (lf es)) ∧ Hid (Below w.heap.size w wr))
          case atStart => exact ⟨r, q, c1, g1, p1, _, Nat.le_refl _, rb, rfl, rfl, Lib.hid ⟨L3.out, M3.out⟩, N3, BB⟩
          case round =>
            clear N3 BB M3 L3
            obtain ⟨r, q, c1, g1, p1, es, hrk, rb, rfl, rfl, M, N, BB⟩ := hrel
            obtain ⟨k3, rfl⟩ : ∃ kk : Nat, kk = gk := ⟨_, rfl⟩
            have qb : q ≤ 8 * (j + 1) := by
              have h1 := congrArg List.length M.out.2
              rw [List.length_append] at h1
              have := LB.out
              have := M.out.1
              omega
            by_cases hr : 0 < r
            · have HR := Lib.hid (dig_pos (b := 58) (by omega) hr)
              go_wp2_with (first
                | ((with_reducible refine wpList_at 57 rfl ?_); refine wpList_b1 rfl _ rfl (.int .u8 ((r : Int) % 58)) (v := r % 58) (by kernel_rfl) (congrArg (Value.int .u8) (show ((r : Int)) % 58 = ((r % 58 : Nat) : Int) by omega)) (by omega) ?_; intro b7 w7 R7 hb7; replace N := Lib.hid (N.out.below hb7.out); replace BB := Lib.hid (BB.out.trans (hb7.out.mono BB.out.size)); clear hb7; try simp only [Act.put, List.setIfInBounds_toArray, List.set_cons_zero, List.set_cons_succ])
                | ((with_reducible refine wpList_at 58 rfl ?_); refine wpList_app (.inl rfl) (.tmp 52) (.tmp 57) rfl rfl N rfl R7 (by omega) ?_; clear N R7; intro p8 g8 c8 w8 N hb8; replace BB := Lib.hid (BB.out.trans hb8.out); clear hb8; try simp only [Act.put, List.setIfInBounds_toArray, List.set_cons_zero, List.set_cons_succ]))
              have N2 := Lib.hid (N.out.to (y := lf (es ++ [r % 58])) (fun i hi => by
                rw [← lf_cat, ← M.out.1]
                unfold cat
                by_cases h : i < q
                · rw [if_pos h, if_pos h]
                · rw [if_neg h, if_neg h, show i - q = 0 by omega]; rfl) (fun i => by
                rw [← lf_cat]
                exact cat_byte _ (lf_lt fun v hv => by
                  have := dig_lt (b := 58) (by omega) (V * 256 + y) v (by rw [← M.out.2]; exact List.mem_append_left _ hv)
                  omega) (lf_lt fun v hv => by simp at hv; omega) i))
              have M2 := Lib.hid (show q + 1 = (es ++ [r % 58]).length ∧ (es ++ [r % 58]) ++ dig 58 (r / 58) = dig 58 (V * 256 + y) from ⟨by rw [List.length_append, ← M.out.1]; rfl, by rw [List.append_assoc, ← M.out.2, HR.out]; rfl⟩)
              clear N M HR
              go_roundg (r / 58)
              case measure => omega
              case rel => exact ⟨r / 58, q + 1, c8, g8, p8, _, Nat.le_refl _, by omega, congrArg (Value.int .i64) (by omega), rfl, M2, N2, BB⟩
            · obtain rfl : r = 0 := by omega
              have DD := Lib.hid (show q = es.length ∧ es = dig 58 (acc 256 (tl x (j + 1))) from ⟨M.out.1, by rw [HN.out, ← M.out.2, dig_zero, List.append_nil]⟩)
              clear M
              go_wp2
              go_roundg (n - (j + 1))
              case measure => omega
              case rel => exact ⟨j + 1, q, c1, g1, p1, es, by omega, by go_num, rfl, DD, N, BB⟩
    · obtain rfl : j = n := by omega
      have Z0 := Lib.hid (show m = ds.length ∧ ds = ds ++ List.replicate 0 0 ∧ ∀ i, i < 0 → x i = 0 from ⟨D.out.1, by simp, fun i h => absurd h (by omega)⟩)
      obtain ⟨m0, hm0⟩ : ∃ m0, m0 = m := ⟨_, rfl⟩
      rw [← hm0] at D mb
      clear hm0
      go_wp2
      go_loopg [7, 62] j (fun k s i wr => ∃ (q m c1 g1 : Nat) (p1 : Option Addr) (es : List Nat), q + k = j ∧ i = .int .i64 (q : Int) ∧ s = .slice p1 m c1 ∧ Hid (m = es.length ∧ es = ds ++ List.replicate q 0 ∧ ∀ i, i < q → x i = 0) ∧ Hid (Own w.heap.size wr p1 g1 m c1 (lf es)) ∧ Hid (Below w.heap.size w wr))
      case atStart => exact ⟨0, m, c1, g1, p1, ds, by omega, rfl, rfl, Z0, N, BB⟩
      case round =>
        clear Z0 N BB
        obtain ⟨q, m, c1, g1, p1, es, hq, rfl, rfl, Z, N, BB⟩ := hrel
        obtain ⟨k4, rfl⟩ : ∃ kk : Nat, kk = gk := ⟨_, rfl⟩
        by_cases hlq : q < j
        · obtain rfl := R.out.head (by omega)
          have HLQ := Lib.hid hlq
          have mq : m ≤ 9 * j := by rw [Z.out.1, Z.out.2.1, List.length_append, List.length_replicate, ← D.out.1]; omega
          obtain ⟨y, hy⟩ : ∃ y, y = x q := ⟨_, rfl⟩
          have CL := Lib.hid (show wr.cell? ⟨g, o + q, none⟩ = some (.int .u8 (y : Int)) by rw [hy]; exact (R.out.below BB.out).cell q hlq)
          by_cases hy0 : y = 0
          · subst hy0
            go_wp2_with (first
              | ((with_reducible refine wpList_at 64 rfl ?_); refine wpList_ix (k := 1) (j := q) Try.underlying22 (by kernel_rfl) (.tmp 60) (.tmp 62) rfl rfl rfl rfl HLQ.out rfl ?_; rw [Nat.mul_one]; try simp only [Act.put, List.setIfInBounds_toArray, List.set_cons_zero, List.set_cons_succ])
              | ((with_reducible refine wpList_at 65 rfl ?_); refine wpList_ld1 5 (.tmp 64) rfl rfl rfl Try.underlying5 rfl CL.out ?_; try simp only [Act.put, List.setIfInBounds_toArray, List.set_cons_zero, List.set_cons_succ])
              | ((with_reducible refine wpList_at 69 rfl ?_); refine wpList_b1 rfl _ rfl (.int .u8 0) (v := 0) (by kernel_rfl) rfl (by omega) ?_; intro b7 w7 R7 hb7; replace N := Lib.hid (N.out.below hb7.out); have ZB := Lib.hid N.out.byte; replace BB := Lib.hid (BB.out.trans (hb7.out.mono BB.out.size)); clear hb7; try simp only [Act.put, List.setIfInBounds_toArray, List.set_cons_zero, List.set_cons_succ])
              | ((with_reducible refine wpList_at 70 rfl ?_); refine wpList_app (.inl rfl) (.tmp 68) (.tmp 69) rfl rfl N rfl R7 (by omega) ?_; clear N R7; intro p8 g8 c8 w8 N hb8; replace BB := Lib.hid (BB.out.trans hb8.out); clear hb8; try simp only [Act.put, List.setIfInBounds_toArray, List.set_cons_zero, List.set_cons_succ]))
            have N2 := Lib.hid (N.out.to (y := lf (es ++ [0])) (fun i hi => by
              rw [← lf_cat, ← Z.out.1]
              unfold cat
              by_cases h : i < m
              · rw [if_pos h, if_pos h]
              · rw [if_neg h, if_neg h, show i - m = 0 by omega]; rfl) (fun i => by
              rw [← lf_cat]
              exact cat_byte _ (fun i => by have := N.out.byte; exact ZB.out i) (lf_lt fun v hv => by simp at hv; omega) i))
            have Z2 := Lib.hid (show m + 1 = (es ++ [0]).length ∧ es ++ [0] = ds ++ List.replicate (q + 1) 0 ∧ ∀ i, i < q + 1 → x i = 0 from ⟨by rw [List.length_append, ← Z.out.1]; rfl, by rw [Z.out.2.1, List.append_assoc, ← List.replicate_succ'], fun i hi => by
              rcases Nat.lt_or_ge i q with h | h
              · exact Z.out.2.2 i h
              · obtain rfl : i = q := by omega
                exact hy.symm⟩)
            clear N Z hy
            go_roundg (j - (q + 1))
            case measure => omega
            case rel => exact ⟨q + 1, m + 1, c8, g8, p8, _, by omega, by go_num, rfl, Z2, N2, BB⟩
          · have FEC : q = j ∨ x q ≠ 0 := .inr (by rw [← hy]; exact hy0)
            have b1 : ((y : Int) == 0) = false := by simpa using (show ¬ ((y : Int) = 0) by omega)
            clear hy hy0 mq
            have FE := Lib.hid (show reb 256 58 (tl x j) = es.reverse by
              have e1 := lz_is (x := x) (n := j) (q := q) (by omega) Z.out.2.2 FEC
              unfold reb
              rw [e1, ← D.out.2, Z.out.2.1, List.reverse_append, List.reverse_replicate])
            have ML := Lib.hid Z.out.1
            have mq : m ≤ 9 * j := by rw [Z.out.1, Z.out.2.1, List.length_append, List.length_replicate, ← D.out.1]; omega
            clear Z D
            go_wp2_with (first
              | ((with_reducible refine wpList_at 64 rfl ?_); refine wpList_ix (k := 1) (j := q) Try.underlying22 (by kernel_rfl) (.tmp 60) (.tmp 62) rfl rfl rfl rfl HLQ.out rfl ?_; rw [Nat.mul_one]; try simp only [Act.put, List.setIfInBounds_toArray, List.set_cons_zero, List.set_cons_succ])
              | ((with_reducible refine wpList_at 65 rfl ?_); refine wpList_ld1 5 (.tmp 64) rfl rfl rfl Try.underlying5 rfl CL.out ?_; try simp only [Act.put, List.setIfInBounds_toArray, List.set_cons_zero, List.set_cons_succ])
              | (go_at_call 14; refine (rev_any N (by omega)).mono ?_; rintro e w9 ⟨rfl, N9, hb9⟩; have Ytofmleiblcafiaa := Lib.hid N9; replace BB := Lib.hid (BB.out.trans hb9); clear N9 hb9))
            go_ret
            refine ⟨p1, g1, c1, ?_, ?_, BB.out⟩
            · rw [FE.out, List.length_reverse, ← ML.out]; rfl
            · rw [FE.out, List.length_reverse, ← ML.out]
              exact Ytofmleiblcafiaa.out.to (fun i hi => by rw [ML.out] at hi ⊢; exact lf_rev es hi) (lf_lt fun v hv => isB_own (by rw [← ML.out]; exact N.out) v (List.mem_reverse.1 hv))
        · obtain rfl : q = j := by omega
          have FEC : q = q ∨ x q ≠ 0 := .inl rfl
          have FE := Lib.hid (show reb 256 58 (tl x q) = es.reverse by
            have e1 := lz_is (x := x) (n := q) (q := q) (by omega) Z.out.2.2 FEC
            unfold reb
            rw [e1, ← D.out.2, Z.out.2.1, List.reverse_append, List.reverse_replicate])
          have ML := Lib.hid Z.out.1
          have mq : m ≤ 9 * q := by rw [Z.out.1, Z.out.2.1, List.length_append, List.length_replicate, ← D.out.1]; omega
          clear Z D
          go_wp2_with (first
            | (go_at_call 14; refine (rev_any N (by omega)).mono ?_; rintro e w9 ⟨rfl, N9, hb9⟩; have Ytofmleiblcafiaa := Lib.hid N9; replace BB := Lib.hid (BB.out.trans hb9); clear N9 hb9))
          go_ret
          refine ⟨p1, g1, c1, ?_, ?_, BB.out⟩
          · rw [FE.out, List.length_reverse, ← ML.out]; rfl
          · rw [FE.out, List.length_reverse, ← ML.out]
            exact Ytofmleiblcafiaa.out.to (fun i hi => by rw [ML.out] at hi ⊢; exact lf_rev es hi) (lf_lt fun v hv => isB_own (by rw [← ML.out]; exact N.out) v (List.mem_reverse.1 hv))
set_option maxHeartbeats 16000000 in
theorem rebase_of {w : World} {p : Option Addr} {g o n cc : Nat} {x : Nat → Nat} (R : Hid (Row w p g o n cc x)) (hn : n ≤ 1000000) (hx : Hid (∀ i, i < n → x i < 58)) : Calls Try.prog 12 #[.slice p n cc, .int .i64 58, .int .i64 256] w (GetsL w (reb 58 256 (tl x n))) := by
  go_enter Try.func12, Try.ntmps12
  go_wp2
  have N0 := Lib.hid (own_nothing w w.heap.size (lf []) (lf_lt isB_nil) (Nat.le_refl _))
  have B0 := Lib.hid (Below.refl w.heap.size w)
  go_loopg [7, 17] n (fun k s i wr => ∃ (j m c1 g1 : Nat) (p1 : Option Addr) (ds : List Nat), j + k = n ∧ i = .int .i64 (j : Int) ∧ s = .slice p1 m c1 ∧ Hid (m = ds.length ∧ ds = dig 256 (acc 58 (tl x j))) ∧ Hid (Own w.heap.size wr p1 g1 m c1 (lf ds)) ∧ Hid (Below w.heap.size w wr))
  case atStart => exact ⟨0, 0, 0, 0, none, [], by omega, rfl, rfl, Lib.hid ⟨rfl, rfl⟩, N0, B0⟩
  case round =>
    clear N0 B0
    obtain ⟨j, m, c1, g1, p1, ds, hj, rfl, rfl, D, N, BB⟩ := hrel
    obtain ⟨kk, rfl⟩ : ∃ kk : Nat, kk = gk := ⟨_, rfl⟩
    obtain ⟨wo, rfl⟩ : ∃ wo : World, wo = wr := ⟨_, rfl⟩
    have mb : m ≤ 8 * j := by
      rw [D.out.1, D.out.2]
      have := dig_bound (b := 58) (c := 256) (by omega) (by omega) (by decide) (tl_mem (n := j) fun i hi => hx.out i (by omega))
      rwa [tl_length] at this
    by_cases hlt : j < n
    · obtain rfl := R.out.head (by omega)
      have HLT := Lib.hid hlt
      have xb := hx.out j hlt
      obtain ⟨y, hy⟩ : ∃ y, y = x j := ⟨_, rfl⟩
      have CL := Lib.hid (show wo.cell? ⟨g, o + j, none⟩ = some (.int .u8 (y : Int)) by rw [hy]; exact (R.out.below BB.out).cell j hlt)
      obtain ⟨V, hV⟩ : ∃ V, V = acc 58 (tl x j) := ⟨_, rfl⟩
      rw [← hV] at D
      rw [← hy] at xb
      have HN := Lib.hid (show acc 58 (tl x (j + 1)) = V * 58 + y by rw [tl_succ, acc_snoc, ← hV, ← hy])
      have MO := Lib.hid (show tl (fun i => (V * 58 + y) / 256 ^ i % 256) m ++ dig 256 ((V * 58 + y) / 256 ^ m) = dig 256 (V * 58 + y) by rw [D.out.1, D.out.2]; exact dig_more (by omega) (by omega))
      have ZE := Lib.hid (show V / 256 ^ m = 0 by rw [D.out.1, D.out.2]; exact dig_out (by omega))
      have DG := Lib.hid (show ∀ q, lf ds q = V / 256 ^ q % 256 from fun q => by rw [D.out.2]; exact dig_getD (by omega) q V)
      have LB := Lib.hid (show (dig 256 (V * 58 + y)).length ≤ 8 * (j + 1) by
        rw [← HN.out]
        have := dig_bound (b := 58) (c := 256) (by omega) (by omega) (by decide) (tl_mem (n := j + 1) fun i hi => hx.out i (by omega))
        rwa [tl_length] at this)
      have S0 := Lib.hid (show y < 58 ∧ (V * 58 + y) / 256 ^ 0 = y + 58 * (V / 256 ^ 0) from ⟨xb, by rw [Nat.pow_zero, Nat.div_one, Nat.div_one, Nat.mul_comm]; omega⟩)
      have N1 := Lib.hid (N.out.to (y := fun i => if i < 0 then (V * 58 + y) / 256 ^ i % 256 else lf ds i) (fun i _ => by rw [if_neg (by omega)]) (fun i => by split; exact absurd (by assumption) (by omega); exact N.out.byte i))
      clear hy hV N D
      go_wp2_with (first
        | ((with_reducible refine wpList_at 19 rfl ?_); refine wpList_ix (k := 1) (j := j) Try.underlying22 (by kernel_rfl) (.tmp 15) (.tmp 17) rfl rfl rfl rfl HLT.out rfl ?_; rw [Nat.mul_one]; try simp only [Act.put, List.setIfInBounds_toArray, List.set_cons_zero, List.set_cons_succ])
        | ((with_reducible refine wpList_at 20 rfl ?_); refine wpList_ld1 5 (.tmp 19) rfl rfl rfl Try.underlying5 rfl CL.out ?_; try simp only [Act.put, List.setIfInBounds_toArray, List.set_cons_zero, List.set_cons_succ]))
      go_loopg [10, 25] m (fun k s i wr => ∃ q r : Nat, q + k = m ∧ i = .int .i64 (q : Int) ∧ s = .int .i64 (r : Int) ∧ Hid (r < 58 ∧ (V * 58 + y) / 256 ^ q = r + 58 * (V / 256 ^ q)) ∧ Hid (Own w.heap.size wr p1 g1 m c1 (fun i => if i < q then (V * 58 + y) / 256 ^ i % 256 else lf ds i)) ∧ Hid (Below w.heap.size w wr))
      case atStart => exact ⟨0, y, by omega, rfl, rfl, S0, N1, BB⟩
      case round =>
        clear S0 N1 BB
        obtain ⟨q, r, hq, rfl, rfl, S, N, BB⟩ := hrel
        obtain ⟨k2, rfl⟩ : ∃ kk : Nat, kk = gk := ⟨_, rfl⟩
        have rb := S.out.1
        by_cases hlq : q < m
        · have HLQ := Lib.hid hlq
          obtain rfl := N.out.row.head (by omega)
          obtain ⟨z, hz⟩ : ∃ z, z = V / 256 ^ q % 256 := ⟨_, rfl⟩
          have zb : z < 256 := by rw [hz]; exact Nat.mod_lt _ (by omega)
          have C2 := Lib.hid (show wr.cell? ⟨g1, q, none⟩ = some (.int .u8 (z : Int)) by have := N.out.row.cell q hlq; rwa [if_neg (by omega), DG.out, ← hz, Nat.zero_add] at this)
          have ST := Lib.hid (step_div (c := 256) (L := q) (by omega) S.out.2 hz)
          have CB := Lib.hid (carry_lt (c := 256) (b := 58) rb zb)
          clear hz S
          go_wp2_with (first
            | ((with_reducible refine wpList_at 28 rfl ?_); refine wpList_ix (k := 1) (j := q) Try.underlying22 (by kernel_rfl) (.tmp 23) (.tmp 25) rfl rfl rfl rfl HLQ.out rfl ?_; rw [Nat.mul_one, Nat.zero_add]; try simp only [Act.put, List.setIfInBounds_toArray, List.set_cons_zero, List.set_cons_succ])
            | ((with_reducible refine wpList_at 29 rfl ?_); refine wpList_ld1 5 (.tmp 28) rfl rfl rfl Try.underlying5 rfl C2.out ?_; try simp only [Act.put, List.setIfInBounds_toArray, List.set_cons_zero, List.set_cons_succ])
            | ((with_reducible refine wpList_at 42 rfl ?_); refine wpList_ix (k := 1) (j := q) Try.underlying22 (by kernel_rfl) (.tmp 36) (.tmp 37) rfl rfl rfl rfl HLQ.out rfl ?_; rw [Nat.mul_one, Nat.zero_add]; try simp only [Act.put, List.setIfInBounds_toArray, List.set_cons_zero, List.set_cons_succ])
            | ((refine wpList_atn rfl ?_); refine wpList_bput0 rfl (.tmp 42) (.tmp 41) rfl N rfl (v := (r + z * 58) % 256) (congrArg (Value.int .u8) (show ((r : Int) + (z : Int) * 58) % 256 = (((r + z * 58) % 256 : Nat) : Int) by omega)) HLQ.out (by omega) ?_; clear N; intro w8 N hb8; replace BB := Lib.hid (BB.out.trans hb8.out)))
          have N2 := Lib.hid (N.out.to (y := fun i => if i < q + 1 then (V * 58 + y) / 256 ^ i % 256 else lf ds i) (fun i _ => by
            rcases Nat.lt_trichotomy i q with h | h | h
            · rw [if_neg (by omega), if_pos h, if_pos (by omega)]
            · subst h; rw [if_pos rfl, if_pos (by omega)]; exact ST.out.2.symm
            · rw [if_neg (by omega), if_neg (by omega), if_neg (by omega)]) (fun i => by
            split
            · have := Nat.mod_lt ((V * 58 + y) / 256 ^ i) (show 0 < 256 by omega); omega
            · rw [DG.out]; have := Nat.mod_lt (V / 256 ^ i) (show 0 < 256 by omega); omega))
          go_roundg (m - (q + 1))
          case measure => omega
          case rel => exact ⟨q + 1, (r + z * 58) / 256, by omega, by go_num, congrArg (Value.int .i64) (by omega), Lib.hid ⟨CB.out, ST.out.1⟩, N2, BB⟩
        · obtain rfl : q = m := by omega
          have RM := Lib.hid (show r = (V * 58 + y) / 256 ^ q by rw [S.out.2, ZE.out]; omega)
          have N3 := Lib.hid (N.out.to (y := lf (tl (fun i => (V * 58 + y) / 256 ^ i % 256) q)) (fun i hi => by rw [if_pos hi, lf_tl _ hi]) (lf_lt fun v hv => by
            obtain ⟨i, _, rfl⟩ := List.mem_map.1 hv
            have := Nat.mod_lt ((V * 58 + y) / 256 ^ i) (show 0 < 256 by omega); omega))
          have M3 := Lib.hid (show tl (fun i => (V * 58 + y) / 256 ^ i % 256) q ++ dig 256 r = dig 256 (V * 58 + y) by rw [RM.out]; exact MO.out)
          have L3 := Lib.hid (show q = (tl (fun i => (V * 58 + y) / 256 ^ i % 256) q).length from (tl_length _ _).symm)
          clear N S RM MO ZE DG
          go_wp2
          go_loopg [7, 10] r (fun k s i wr => ∃ (r q c1 g1 : Nat) (p1 : Option Addr) (es : List Nat), r ≤ k ∧ r < 58 ∧ i = .int .i64 (r : Int) ∧ s = .slice p1 q c1 ∧ Hid (q = es.length ∧ es ++ dig 256 r = dig 256 (V * 58 + y)) ∧ Hid (Own w.heap.size wr p1 g1 q c1 (lf es)) ∧ Hid (Below w.heap.size w wr))
          case atStart => exact ⟨r, q, c1, g1, p1, _, Nat.le_refl _, rb, rfl, rfl, Lib.hid ⟨L3.out, M3.out⟩, N3, BB⟩
          case round =>
            clear N3 BB M3 L3
            obtain ⟨r, q, c1, g1, p1, es, hrk, rb, rfl, rfl, M, N, BB⟩ := hrel
            obtain ⟨k3, rfl⟩ : ∃ kk : Nat, kk = gk := ⟨_, rfl⟩
            have qb : q ≤ 8 * (j + 1) := by
              have h1 := congrArg List.length M.out.2
              rw [List.length_append] at h1
              have := LB.out
              have := M.out.1
              omega
            by_cases hr : 0 < r
            · have HR := Lib.hid (dig_pos (b := 256) (by omega) hr)
              go_wp2_with (first
                | ((with_reducible refine wpList_at 57 rfl ?_); refine wpList_b1 rfl _ rfl (.int .u8 ((r : Int) % 256)) (v := r % 256) (by kernel_rfl) (congrArg (Value.int .u8) (show ((r : Int)) % 256 = ((r % 256 : Nat) : Int) by omega)) (by omega) ?_; intro b7 w7 R7 hb7; replace N := Lib.hid (N.out.below hb7.out); replace BB := Lib.hid (BB.out.trans (hb7.out.mono BB.out.size)); clear hb7; try simp only [Act.put, List.setIfInBounds_toArray, List.set_cons_zero, List.set_cons_succ])
                | ((with_reducible refine wpList_at 58 rfl ?_); refine wpList_app (.inl rfl) (.tmp 52) (.tmp 57) rfl rfl N rfl R7 (by omega) ?_; clear N R7; intro p8 g8 c8 w8 N hb8; replace BB := Lib.hid (BB.out.trans hb8.out); clear hb8; try simp only [Act.put, List.setIfInBounds_toArray, List.set_cons_zero, List.set_cons_succ]))
              have N2 := Lib.hid (N.out.to (y := lf (es ++ [r % 256])) (fun i hi => by
                rw [← lf_cat, ← M.out.1]
                unfold cat
                by_cases h : i < q
                · rw [if_pos h, if_pos h]
                · rw [if_neg h, if_neg h, show i - q = 0 by omega]; rfl) (fun i => by
                rw [← lf_cat]
                exact cat_byte _ (lf_lt fun v hv => by
                  have := dig_lt (b := 256) (by omega) (V * 58 + y) v (by rw [← M.out.2]; exact List.mem_append_left _ hv)
                  omega) (lf_lt fun v hv => by simp at hv; omega) i))
              have M2 := Lib.hid (show q + 1 = (es ++ [r % 256]).length ∧ (es ++ [r % 256]) ++ dig 256 (r / 256) = dig 256 (V * 58 + y) from ⟨by rw [List.length_append, ← M.out.1]; rfl, by rw [List.append_assoc, ← M.out.2, HR.out]; rfl⟩)
              clear N M HR
              go_roundg (r / 256)
              case measure => omega
              case rel => exact ⟨r / 256, q + 1, c8, g8, p8, _, Nat.le_refl _, by omega, congrArg (Value.int .i64) (by omega), rfl, M2, N2, BB⟩
            · obtain rfl : r = 0 := by omega
              have DD := Lib.hid (show q = es.length ∧ es = dig 256 (acc 58 (tl x (j + 1))) from ⟨M.out.1, by rw [HN.out, ← M.out.2, dig_zero, List.append_nil]⟩)
              clear M
              go_wp2
              go_roundg (n - (j + 1))
              case measure => omega
              case rel => exact ⟨j + 1, q, c1, g1, p1, es, by omega, by go_num, rfl, DD, N, BB⟩
    · obtain rfl : j = n := by omega
      have Z0 := Lib.hid (show m = ds.length ∧ ds = ds ++ List.replicate 0 0 ∧ ∀ i, i < 0 → x i = 0 from ⟨D.out.1, by simp, fun i h => absurd h (by omega)⟩)
      obtain ⟨m0, hm0⟩ : ∃ m0, m0 = m := ⟨_, rfl⟩
      rw [← hm0] at D mb
      clear hm0
      go_wp2
      go_loopg [7, 62] j (fun k s i wr => ∃ (q m c1 g1 : Nat) (p1 : Option Addr) (es : List Nat), q + k = j ∧ i = .int .i64 (q : Int) ∧ s = .slice p1 m c1 ∧ Hid (m = es.length ∧ es = ds ++ List.replicate q 0 ∧ ∀ i, i < q → x i = 0) ∧ Hid (Own w.heap.size wr p1 g1 m c1 (lf es)) ∧ Hid (Below w.heap.size w wr))
      case atStart => exact ⟨0, m, c1, g1, p1, ds, by omega, rfl, rfl, Z0, N, BB⟩
      case round =>
        clear Z0 N BB
        obtain ⟨q, m, c1, g1, p1, es, hq, rfl, rfl, Z, N, BB⟩ := hrel
        obtain ⟨k4, rfl⟩ : ∃ kk : Nat, kk = gk := ⟨_, rfl⟩
        by_cases hlq : q < j
        · obtain rfl := R.out.head (by omega)
          have HLQ := Lib.hid hlq
          have mq : m ≤ 9 * j := by rw [Z.out.1, Z.out.2.1, List.length_append, List.length_replicate, ← D.out.1]; omega
          obtain ⟨y, hy⟩ : ∃ y, y = x q := ⟨_, rfl⟩
          have CL := Lib.hid (show wr.cell? ⟨g, o + q, none⟩ = some (.int .u8 (y : Int)) by rw [hy]; exact (R.out.below BB.out).cell q hlq)
          by_cases hy0 : y = 0
          · subst hy0
            go_wp2_with (first
              | ((with_reducible refine wpList_at 64 rfl ?_); refine wpList_ix (k := 1) (j := q) Try.underlying22 (by kernel_rfl) (.tmp 60) (.tmp 62) rfl rfl rfl rfl HLQ.out rfl ?_; rw [Nat.mul_one]; try simp only [Act.put, List.setIfInBounds_toArray, List.set_cons_zero, List.set_cons_succ])
              | ((with_reducible refine wpList_at 65 rfl ?_); refine wpList_ld1 5 (.tmp 64) rfl rfl rfl Try.underlying5 rfl CL.out ?_; try simp only [Act.put, List.setIfInBounds_toArray, List.set_cons_zero, List.set_cons_succ])
              | ((with_reducible refine wpList_at 69 rfl ?_); refine wpList_b1 rfl _ rfl (.int .u8 0) (v := 0) (by kernel_rfl) rfl (by omega) ?_; intro b7 w7 R7 hb7; replace N := Lib.hid (N.out.below hb7.out); have ZB := Lib.hid N.out.byte; replace BB := Lib.hid (BB.out.trans (hb7.out.mono BB.out.size)); clear hb7; try simp only [Act.put, List.setIfInBounds_toArray, List.set_cons_zero, List.set_cons_succ])
              | ((with_reducible refine wpList_at 70 rfl ?_); refine wpList_app (.inl rfl) (.tmp 68) (.tmp 69) rfl rfl N rfl R7 (by omega) ?_; clear N R7; intro p8 g8 c8 w8 N hb8; replace BB := Lib.hid (BB.out.trans hb8.out); clear hb8; try simp only [Act.put, List.setIfInBounds_toArray, List.set_cons_zero, List.set_cons_succ]))
            have N2 := Lib.hid (N.out.to (y := lf (es ++ [0])) (fun i hi => by
              rw [← lf_cat, ← Z.out.1]
              unfold cat
              by_cases h : i < m
              · rw [if_pos h, if_pos h]
              · rw [if_neg h, if_neg h, show i - m = 0 by omega]; rfl) (fun i => by
              rw [← lf_cat]
              exact cat_byte _ (fun i => by have := N.out.byte; exact ZB.out i) (lf_lt fun v hv => by simp at hv; omega) i))
            have Z2 := Lib.hid (show m + 1 = (es ++ [0]).length ∧ es ++ [0] = ds ++ List.replicate (q + 1) 0 ∧ ∀ i, i < q + 1 → x i = 0 from ⟨by rw [List.length_append, ← Z.out.1]; rfl, by rw [Z.out.2.1, List.append_assoc, ← List.replicate_succ'], fun i hi => by
              rcases Nat.lt_or_ge i q with h | h
              · exact Z.out.2.2 i h
              · obtain rfl : i = q := by omega
                exact hy.symm⟩)
            clear N Z hy
            go_roundg (j - (q + 1))
            case measure => omega
            case rel => exact ⟨q + 1, m + 1, c8, g8, p8, _, by omega, by go_num, rfl, Z2, N2, BB⟩
          · have FEC : q = j ∨ x q ≠ 0 := .inr (by rw [← hy]; exact hy0)
            have b1 : ((y : Int) == 0) = false := by simpa using (show ¬ ((y : Int) = 0) by omega)
            clear hy hy0 mq
            have FE := Lib.hid (show reb 58 256 (tl x j) = es.reverse by
              have e1 := lz_is (x := x) (n := j) (q := q) (by omega) Z.out.2.2 FEC
              unfold reb
              rw [e1, ← D.out.2, Z.out.2.1, List.reverse_append, List.reverse_replicate])
            have ML := Lib.hid Z.out.1
            have mq : m ≤ 9 * j := by rw [Z.out.1, Z.out.2.1, List.length_append, List.length_replicate, ← D.out.1]; omega
            clear Z D
            go_wp2_with (first
              | ((with_reducible refine wpList_at 64 rfl ?_); refine wpList_ix (k := 1) (j := q) Try.underlying22 (by kernel_rfl) (.tmp 60) (.tmp 62) rfl rfl rfl rfl HLQ.out rfl ?_; rw [Nat.mul_one]; try simp only [Act.put, List.setIfInBounds_toArray, List.set_cons_zero, List.set_cons_succ])
              | ((with_reducible refine wpList_at 65 rfl ?_); refine wpList_ld1 5 (.tmp 64) rfl rfl rfl Try.underlying5 rfl CL.out ?_; try simp only [Act.put, List.setIfInBounds_toArray, List.set_cons_zero, List.set_cons_succ])
              | (go_at_call 14; refine (rev_any N (by omega)).mono ?_; rintro e w9 ⟨rfl, N9, hb9⟩; have Ytofmleiblcafiaa := Lib.hid N9; replace BB := Lib.hid (BB.out.trans hb9); clear N9 hb9))
            go_ret
            refine ⟨p1, g1, c1, ?_, ?_, BB.out⟩
            · rw [FE.out, List.length_reverse, ← ML.out]; rfl
            · rw [FE.out, List.length_reverse, ← ML.out]
              exact Ytofmleiblcafiaa.out.to (fun i hi => by rw [ML.out] at hi ⊢; exact lf_rev es hi) (lf_lt fun v hv => isB_own (by rw [← ML.out]; exact N.out) v (List.mem_reverse.1 hv))
        · obtain rfl : q = j := by omega
          have FEC : q = q ∨ x q ≠ 0 := .inl rfl
          have FE := Lib.hid (show reb 58 256 (tl x q) = es.reverse by
            have e1 := lz_is (x := x) (n := q) (q := q) (by omega) Z.out.2.2 FEC
            unfold reb
            rw [e1, ← D.out.2, Z.out.2.1, List.reverse_append, List.reverse_replicate])
          have ML := Lib.hid Z.out.1
          have mq : m ≤ 9 * q := by rw [Z.out.1, Z.out.2.1, List.length_append, List.length_replicate, ← D.out.1]; omega
          clear Z D
          go_wp2_with (first
            | (go_at_call 14; refine (rev_any N (by omega)).mono ?_; rintro e w9 ⟨rfl, N9, hb9⟩; have Ytofmleiblcafiaa := Lib.hid N9; replace BB := Lib.hid (BB.out.trans hb9); clear N9 hb9))
          go_ret
          refine ⟨p1, g1, c1, ?_, ?_, BB.out⟩
          · rw [FE.out, List.length_reverse, ← ML.out]; rfl
          · rw [FE.out, List.length_reverse, ← ML.out]
            exact Ytofmleiblcafiaa.out.to (fun i hi => by rw [ML.out] at hi ⊢; exact lf_rev es hi) (lf_lt fun v hv => isB_own (by rw [← ML.out]; exact N.out) v (List.mem_reverse.1 hv))
end Go.Proofs.Ytofmleiblcafiaa
