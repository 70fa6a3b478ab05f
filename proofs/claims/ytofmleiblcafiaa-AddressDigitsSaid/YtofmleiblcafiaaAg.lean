/- The document's Unbase58. -/
import Derived.Test.YtofmleiblcafiaaAf
set_option linter.unusedSimpArgs false
set_option linter.unusedVariables false
set_option maxRecDepth 100000
namespace Go.Proofs.Ytofmleiblcafiaa
open Go.ChangeShapes Go.WideShapes Go.RowKit Go.Lib Go.Sort

section
variable {ops : Array Oper} {rest : List Oper} {Q : Exit → Act → World → Prop} {op : Oper} {a : Act} {w : World}
/-- A slice of one byte, of the call's own. -/
theorem wpList_b1o (hw : Region.wanted op (yielded ops a.tmps) = true) (parts : Array (Nat × Operand)) (ho : op.op = .buildSlice 22 1 parts) (y0 : Value) {v : Nat} (hp : (parts.map fun (i, y) => (i, a.eval y)) = #[(0, y0)]) (he : y0 = .int .u8 (v : Int)) (hv : v < 256)
    (k : ∀ p g w', Hid (Own w.heap.size w' p g 1 1 (fun _ => v)) → Hid (Below w.heap.size w w') → wpList Try.prog ops Q rest (a.put op.dst (.slice p 1 1)) w') : wpList Try.prog ops Q (op :: rest) a w := by
  subst he
  refine wpList_known4 hw (.slice (some ⟨w.heap.size, 0, none⟩) 1 1) (w.alloc (.cells (fbs (fun _ => v) 1).toArray 5)) ?_ (k _ _ _ (Lib.hid (own_new w (fun _ => v) 1 (by unfold maxLen; omega) fun _ => hv)) (Lib.hid (below_new w _)))
  unfold execOp
  have h := run_bs1v Try.underlying22 infoB (.int .u8 (v : Int)) rfl w
  simp only [ho, hp, Sem.run_bind, h, Result.andThen_ok]
  rfl
end
theorem plZ_in {c : Nat} (h : ixL D58 c < 58) : plZ D58 c = ((ixL D58 c : Nat) : Int) := by unfold plZ; rw [D58_size, if_pos h]
theorem plZ_out {c : Nat} (h : ¬ ixL D58 c < 58) : plZ D58 c = -1 := by unfold plZ; rw [D58_size, if_neg h]
theorem ix_one : ixL D58 49 = 0 := D58_back 0 (by omega)
theorem ix_zero {c : Nat} (h : ixL D58 c = 0) : c = 49 := by
  have h1 : byt D58 (ixL D58 c) = c := ixf_get (by show ixL D58 c < D58.size; rw [h, D58_size]; omega)
  rw [h] at h1
  rw [← h1]; decide +kernel
theorem tl_zeros {f : Nat → Nat} {k : Nat} (h : ∀ i, i < k → f i = 0) : tl f k = List.replicate k 0 := by
  apply List.ext_getElem
  · rw [tl_length, List.length_replicate]
  · intro i h1 h2
    rw [tl_length] at h1
    have := lf_tl f h1
    rw [lf_get (by rw [tl_length]; exact h1)] at this
    rw [this, List.getElem_replicate, h i h1]
theorem tl_add (f : Nat → Nat) (k m : Nat) : tl f (k + m) = tl f k ++ tl (fun i => f (k + i)) m := by
  rw [← tl_cat]
  apply lf_inj (by rw [tl_length, tl_length])
  intro i hi
  rw [tl_length] at hi
  rw [lf_tl _ hi, lf_tl _ hi]
  unfold cat
  by_cases h : i < k
  · rw [if_pos h]
  · rw [if_neg h]
    show f i = f (k + (i - k))
    rw [show k + (i - k) = i by omega]
/-- Places of which the first k are noughts. -/
theorem reb_ones {F G : Nat → Nat} {n m k : Nat} (h1 : m + k = n) (h2 : ∀ i, i < m → G i = F (k + i)) (h3 : ∀ i, i < k → F i = 0) (h4 : m = 0 ∨ G 0 ≠ 0) :
    reb 58 256 (tl F n) = List.replicate k 0 ++ (dig 256 (acc 58 (tl G m))).reverse := by
  have e1 : lz (tl F n) = k := by
    refine lz_is (by omega) h3 ?_
    rcases h4 with h | h
    · exact .inl (by omega)
    · rcases Nat.eq_zero_or_pos m with q | q
      · exact .inl (by omega)
      · exact .inr fun e => h (by rw [h2 0 q]; exact e)
  have e3 : tl (fun i => F (k + i)) m = tl G m := by
    apply lf_inj (by rw [tl_length, tl_length])
    intro i hi
    rw [tl_length] at hi
    rw [lf_tl _ hi, lf_tl _ hi, h2 i hi]
  have e2 : tl F n = List.replicate k 0 ++ tl G m := by
    rw [← h1, Nat.add_comm, tl_add, tl_zeros h3, e3]
  unfold reb
  rw [e1, e2, acc_zeros]
theorem lf_rdig {c n i m : Nat} (hc : 2 ≤ c) (hm : m = (dig c n).length) (hi : i < m) : lf (dig c n).reverse i = n / c ^ (m - 1 - i) % c := by
  rw [hm] at hi ⊢
  rw [← lf_rev _ hi]
  unfold lf
  exact dig_getD hc _ _
theorem dig_one {r : Nat} (h : 0 < r) (h2 : r < 256) : dig 256 r = [r] := by
  rw [dig_pos (by omega) h, Nat.mod_eq_of_lt h2, Nat.div_eq_of_lt h2]
  rfl
set_option maxHeartbeats 32000000 in
theorem runb_any (w : World) (s : ByteArray) : Calls Try.prog 6 #[.string s] w (UnbEnd w s) := by
  by_cases h3 : 300 < s.size
  · have h3i : (300 : Int) < (s.size : Int) := by omega
    have H3 := Lib.hid h3
    clear h3
    go_enter Try.func6, Try.ntmps6
    go_wp2
    go_ret2
    exact ⟨Below.refl _ _, .inl ⟨H3.out, rfl⟩⟩
  · have hs : s.size ≤ 300 := by omega
    clear h3
    obtain ⟨IX, hIX⟩ : ∃ IX, IX = ixL D58 := ⟨_, rfl⟩
    obtain ⟨PF, hPF⟩ : ∃ PF, PF = plZ D58 := ⟨_, rfl⟩
    have PIN := Lib.hid (show ∀ c : Nat, IX c < 58 → PF c = ((IX c : Nat) : Int) from fun c h => by rw [hPF, hIX]; exact plZ_in (by rw [← hIX]; exact h))
    have POUT := Lib.hid (show ∀ c : Nat, ¬ IX c < 58 → PF c = -1 from fun c h => by rw [hPF]; exact plZ_out (by rw [← hIX]; exact h))
    have PCC := Lib.hid (show ∀ c : Nat, c < 256 → ∀ w0 : World, Calls Try.prog 13 #[.string D58, .int .u8 (c : Int)] w0 fun e w' => e = .returned (.int .i64 (PF c)) ∧ w0 = w' from fun c h w0 => by rw [hPF]; exact place_any D58 c (by rw [D58_size]; omega) h w0)
    have ALI := Lib.hid (show (∀ i, i < s.size → IX (byt s i) < 58) → AllIn D58 s from fun h i hi => by rw [D58_size, ← hIX]; exact h i hi)
    have NAI := Lib.hid (show ∀ i, i < s.size → ¬ IX (byt s i) < 58 → ¬ AllIn D58 s from fun i hi h k => h (by have := k i hi; rw [D58_size, ← hIX] at this; exact this))
    have PON := Lib.hid (show ∀ (k : Nat) (u : ByteArray), u.size + k = s.size → (∀ i, i < u.size → byt u i = byt s (k + i)) → (∀ i, i < k → byt s i = 49) → (u.size = 0 ∨ byt u 0 ≠ 49) → reb 58 256 (plL D58 s) = List.replicate k 0 ++ (dig 256 (acc 58 (tl (fun i => IX (byt u i)) u.size))).reverse from fun k u h1 h2 h3 h4 => by
      unfold plL
      rw [← hIX]
      refine reb_ones h1 (fun i hi => by rw [h2 i hi]) (fun i hi => by rw [h3 i hi, hIX]; exact ix_one) ?_
      rcases h4 with h | h
      · exact .inl h
      · exact .inr fun e => h (ix_zero (by rw [← hIX]; exact e)))
    clear hIX hPF
    have F0 := Lib.hid (show ∀ i, i < 0 → IX (byt s i) < 58 from fun i h => absurd h (by omega))
    go_enter Try.func6, Try.ntmps6
    go_wp2
    go_loopg [4] s.size (fun k i wr => ∃ j : Nat, j + k = s.size ∧ i = .int .i64 (j : Int) ∧ Hid (∀ i, i < j → IX (byt s i) < 58) ∧ wr = w)
    case atStart => exact ⟨0, by omega, rfl, F0, rfl⟩
    case round =>
      clear F0
      obtain ⟨j, hj, rfl, FF, rfl⟩ := hrel
      obtain ⟨kk, rfl⟩ : ∃ kk : Nat, kk = gk := ⟨_, rfl⟩
      by_cases hlt : j < s.size
      · obtain ⟨z, hz⟩ : ∃ z, z = byt s j := ⟨_, rfl⟩
        have Gz : ((s[j]'hlt).toNat : Int) = (z : Int) := by rw [hz, byt_get]
        have zb : z < 256 := by rw [hz]; exact byt_lt _ _
        have PC := Lib.hid (PCC.out z zb)
        by_cases hi : IX z < 58
        · obtain ⟨y, hy⟩ : ∃ y, y = IX z := ⟨_, rfl⟩
          have PZ := Lib.hid (show PF z = (y : Int) by rw [hy]; exact PIN.out z hi)
          have F1 := Lib.hid (show ∀ i, i < j + 1 → IX (byt s i) < 58 from fun i h => by
            rcases Nat.lt_or_ge i j with q | q
            · exact FF.out i q
            · obtain rfl : i = j := by omega
              rw [← hz]; exact hi)
          clear hz hy hi FF
          go_wp2_with (go_at_call 13; refine (PC.out _).mono ?_; rintro e w2 ⟨rfl, rfl⟩; rw [PZ.out])
          go_roundg (s.size - (j + 1))
          case measure => omega
          case rel => exact ⟨j + 1, by omega, by go_num, F1, rfl⟩
        · have PZ := Lib.hid (show PF z = -1 from POUT.out z hi)
          have NA := Lib.hid (show ¬ AllIn D58 s from NAI.out j hlt (by rw [← hz]; exact hi))
          clear hz hi FF
          go_wp2_with (go_at_call 13; refine (PC.out _).mono ?_; rintro e w2 ⟨rfl, rfl⟩; rw [PZ.out])
          go_ret2
          exact ⟨Below.refl _ _, .inr (.inl ⟨hs, NA.out, rfl⟩)⟩
      · obtain rfl : j = s.size := by omega
        have AL := Lib.hid FF.out
        have AL0 := Lib.hid (ALI.out FF.out)
        have U0 := Lib.hid (show s.size + 0 = s.size ∧ (∀ i, i < s.size → byt s i = byt s (0 + i)) ∧ ∀ i, i < 0 → byt s i = 49 from ⟨rfl, fun i _ => by rw [Nat.zero_add], fun i h => absurd h (by omega)⟩)
        have N0 := Lib.hid (own_nothing wr wr.heap.size (fun _ => 0) (fun _ => by omega) (Nat.le_refl _))
        have B0 := Lib.hid (Below.refl wr.heap.size wr)
        obtain ⟨w, rfl⟩ : ∃ w : World, w = wr := ⟨_, rfl⟩
        clear FF
        go_wp2
        go_loopg [0, 5] s.size (fun m s0 s5 wr => ∃ (k c g : Nat) (p : Option Addr) (u : ByteArray), k + m = s.size ∧ s0 = .string u ∧ s5 = .slice p k c ∧ Hid (u.size + k = s.size ∧ (∀ i, i < u.size → byt u i = byt s (k + i)) ∧ ∀ i, i < k → byt s i = 49) ∧ Hid (Own w.heap.size wr p g k c (fun _ => 0)) ∧ Hid (Below w.heap.size w wr))
        case atStart => exact ⟨0, 0, 0, none, s, by omega, rfl, rfl, U0, N0, B0⟩
        case round =>
          clear U0 N0 B0
          obtain ⟨k, c, g, p, u, hk, rfl, rfl, UU, N5, BB⟩ := hrel
          obtain ⟨k2, rfl⟩ : ∃ kk : Nat, kk = gk := ⟨_, rfl⟩
          by_cases hu : 0 < u.size
          · obtain ⟨c0, hc0⟩ : ∃ c0, c0 = byt u 0 := ⟨_, rfl⟩
            have G0 : ((u[0]'hu).toNat : Int) = (c0 : Int) := by rw [hc0, byt_get]
            have h0i : (0 : Int) < (u.size : Int) := by omega
            have uk : u.size + k = s.size := UU.out.1
            by_cases h49 : c0 = 49
            · have DR := Lib.hid (byt_drop1 (s := u) hu)
              have U2 := Lib.hid (show (u.extract 1 u.size).size + (k + 1) = s.size ∧ (∀ i, i < (u.extract 1 u.size).size → byt (u.extract 1 u.size) i = byt s ((k + 1) + i)) ∧ ∀ i, i < k + 1 → byt s i = 49 from ⟨by rw [DR.out.1]; omega, fun i hi => by
                rw [DR.out.1] at hi
                rw [DR.out.2 i hi, UU.out.2.1 (1 + i) (by omega)]
                congr 1; omega, fun i hi => by
                rcases Nat.lt_or_ge i k with q | q
                · exact UU.out.2.2 i q
                · obtain rfl : i = k := by omega
                  have := UU.out.2.1 0 hu
                  rw [Nat.add_zero, ← hc0] at this
                  omega⟩)
              have HU := Lib.hid hu
              obtain rfl := h49
              clear hc0 UU DR
              go_wp2_with (first
                | ((with_reducible refine wpList_at 33 rfl ?_); refine wpList_b1 rfl _ rfl (.int .u8 0) (v := 0) (by kernel_rfl) rfl (by omega) ?_; intro b7 w7 R7 hb7; replace N5 := Lib.hid (N5.out.below hb7.out); replace BB := Lib.hid (BB.out.trans (hb7.out.mono BB.out.size)); clear hb7; try simp only [Act.put, List.setIfInBounds_toArray, List.set_cons_zero, List.set_cons_succ])
                | ((with_reducible refine wpList_at 34 rfl ?_); refine wpList_app (.inl rfl) (.tmp 32) (.tmp 33) rfl rfl N5 rfl R7 (by omega) ?_; clear N5 R7; intro p8 g8 c8 w8 N5 hb8; replace BB := Lib.hid (BB.out.trans hb8.out); clear hb8; try simp only [Act.put, List.setIfInBounds_toArray, List.set_cons_zero, List.set_cons_succ])
                | ((with_reducible refine wpList_at 36 rfl ?_); refine wpList_known4 rfl (.string (u.extract 1 u.size)) _ (exec_drop1 rfl rfl rfl HU.out) ?_; try simp only [Act.put, List.setIfInBounds_toArray, List.set_cons_zero, List.set_cons_succ]))
              have N8 := Lib.hid (N5.out.to (y := fun _ => 0) (fun i _ => by unfold cat; split <;> rfl) (fun _ => by omega))
              clear N5
              go_roundg (s.size - (k + 1))
              case measure => omega
              case rel => exact ⟨k + 1, c8, g8, p8, _, by omega, rfl, rfl, U2, N8, BB⟩
            · have EX := Lib.hid (show u.size = 0 ∨ byt u 0 ≠ 49 from .inr (by rw [← hc0]; exact h49))
              have b1 : ((c0 : Int) == 49) = false := by simpa using (show ¬ ((c0 : Int) = 49) by omega)
              clear hc0 h49
              have AU := Lib.hid (show ∀ i, i < u.size → IX (byt u i) < 58 from fun i hi => by rw [UU.out.2.1 i hi]; exact AL.out _ (by have := UU.out.1; omega))
              obtain ⟨wo, rfl⟩ : ∃ wo : World, wo = wr := ⟨_, rfl⟩
              have M0 := Lib.hid (own_nothing wo wo.heap.size (lf []) (lf_lt isB_nil) (Nat.le_refl _))
              have C0 := Lib.hid (Below.refl wo.heap.size wo)
              have us : u.size ≤ 300 := by have := UU.out.1; omega
              go_wp2
              go_loopg [6, 7] u.size (fun k s6 s7 wr => ∃ (j m c1 g1 : Nat) (p1 : Option Addr) (ds : List Nat), j + k = u.size ∧ s7 = .int .i64 (j : Int) ∧ s6 = .slice p1 m c1 ∧ Hid (m = ds.length ∧ ds = (dig 256 (acc 58 (tl (fun i => IX (byt u i)) j))).reverse) ∧ Hid (Own wo.heap.size wr p1 g1 m c1 (lf ds)) ∧ Hid (Below wo.heap.size wo wr))
              case atStart => exact ⟨0, 0, 0, 0, none, [], by omega, rfl, rfl, Lib.hid ⟨rfl, rfl⟩, M0, C0⟩
              case round =>
                clear M0 C0
                obtain ⟨j, m, c1, g1, p1, ds, hj, rfl, rfl, D, N6, CC⟩ := hrel
                obtain ⟨k3, rfl⟩ : ∃ kk : Nat, kk = gk := ⟨_, rfl⟩
                have mb : m ≤ 8 * j := by
                  rw [D.out.1, D.out.2, List.length_reverse]
                  have := dig_bound (b := 58) (c := 256) (by omega) (by omega) (by decide) (tl_mem (x := fun i => IX (byt u i)) (n := j) fun i hi => AU.out i (by omega))
                  rwa [tl_length] at this
                by_cases hlt : j < u.size
                · obtain ⟨z, hz⟩ : ∃ z, z = byt u j := ⟨_, rfl⟩
                  have Gz : ((u[j]'hlt).toNat : Int) = (z : Int) := by rw [hz, byt_get]
                  have zb : z < 256 := by rw [hz]; exact byt_lt _ _
                  obtain ⟨y, hy⟩ : ∃ y, y = IX z := ⟨_, rfl⟩
                  have yb : y < 58 := by rw [hy, hz]; exact AU.out j hlt
                  have PZ := Lib.hid (show PF z = (y : Int) by rw [hy]; exact PIN.out z (by rw [← hy]; exact yb))
                  have PC := Lib.hid (PCC.out z zb)
                  obtain ⟨V, hV⟩ : ∃ V, V = acc 58 (tl (fun i => IX (byt u i)) j) := ⟨_, rfl⟩
                  rw [← hV] at D
                  have HN := Lib.hid (show acc 58 (tl (fun i => IX (byt u i)) (j + 1)) = V * 58 + y by rw [tl_succ, acc_snoc, ← hV, hy, hz])
                  have ML := Lib.hid (show m = (dig 256 V).length by rw [D.out.1, D.out.2, List.length_reverse])
                  have MO := Lib.hid (show tl (fun i => (V * 58 + y) / 256 ^ i % 256) m ++ dig 256 ((V * 58 + y) / 256 ^ m) = dig 256 (V * 58 + y) by rw [ML.out]; exact dig_more (by omega) (by omega))
                  have ZE := Lib.hid (show V / 256 ^ m = 0 by rw [ML.out]; exact dig_out (by omega))
                  have DG := Lib.hid (show ∀ i, i < m → lf ds i = V / 256 ^ (m - 1 - i) % 256 from fun i hi => by rw [D.out.2]; exact lf_rdig (by omega) ML.out hi)
                  have S0 := Lib.hid (show y < 58 ∧ (V * 58 + y) / 256 ^ 0 = y + 58 * (V / 256 ^ 0) from ⟨yb, by rw [Nat.pow_zero, Nat.div_one, Nat.div_one, Nat.mul_comm]; omega⟩)
                  have N1 := Lib.hid (N6.out.to (y := fun i => if m - 1 - i < 0 then (V * 58 + y) / 256 ^ (m - 1 - i) % 256 else lf ds i) (fun i _ => by rw [if_neg (by omega)]) (fun i => by split; exact absurd (by assumption) (by omega); exact N6.out.byte i))
                  have HJ := Lib.hid hlt
                  have NB := Lib.hid N6.out.byte
                  clear hz hy hV N6 D
                  go_wp2_with (go_at_call 13; refine (PC.out _).mono ?_; rintro e w2 ⟨rfl, rfl⟩; rw [PZ.out])
                  clear PZ PC
                  go_loopg [8, 9] m (fun k s8 s9 wr => ∃ q r : Nat, q + k = m ∧ s9 = .int .i64 ((m : Int) - 1 - (q : Int)) ∧ s8 = .int .i64 (r : Int) ∧ Hid (r < 58 ∧ (V * 58 + y) / 256 ^ q = r + 58 * (V / 256 ^ q)) ∧ Hid (Own wo.heap.size wr p1 g1 m c1 (fun i => if m - 1 - i < q then (V * 58 + y) / 256 ^ (m - 1 - i) % 256 else lf ds i)) ∧ Hid (Below wo.heap.size wo wr))
                  case atStart => exact ⟨0, y, by omega, congrArg (Value.int .i64) (by omega), rfl, S0, N1, CC⟩
                  case round =>
                    clear S0 N1 CC
                    obtain ⟨q, r, hq, rfl, rfl, S, N, CC⟩ := hrel
                    obtain ⟨k4, rfl⟩ : ∃ kk : Nat, kk = gk := ⟨_, rfl⟩
                    have rb := S.out.1
                    by_cases hlq : q < m
                    · obtain ⟨tt, ht⟩ : ∃ tt, tt = m - 1 - q := ⟨_, rfl⟩
                      have et : (m : Int) - 1 - (q : Int) = (tt : Int) := by omega
                      rw [et]
                      have htm : tt < m := by omega
                      have HT := Lib.hid (And.intro ht et)
                      obtain rfl := N.out.row.head (by omega)
                      obtain ⟨x, hx⟩ : ∃ x, x = V / 256 ^ q % 256 := ⟨_, rfl⟩
                      have xb : x < 256 := by rw [hx]; exact Nat.mod_lt _ (by omega)
                      have C2 := Lib.hid (show wr.cell? ⟨g1, tt, none⟩ = some (.int .u8 (x : Int)) by have := N.out.row.cell tt htm; rwa [if_neg (by omega), DG.out tt htm, show m - 1 - tt = q by omega, ← hx, Nat.zero_add] at this)
                      have ST := Lib.hid (step_div (c := 256) (L := q) (by omega) S.out.2 hx)
                      have CB := Lib.hid (carry_lt (c := 256) (b := 58) rb xb)
                      have HLQ := Lib.hid htm
                      clear hx S et ht
                      go_wp2_with (first
                        | ((with_reducible refine wpList_at 57 rfl ?_); refine wpList_ix (k := 1) (j := tt) Try.underlying22 (by kernel_rfl) (.tmp 55) (.tmp 56) rfl rfl rfl rfl HLQ.out rfl ?_; rw [Nat.mul_one, Nat.zero_add]; try simp only [Act.put, List.setIfInBounds_toArray, List.set_cons_zero, List.set_cons_succ])
                        | ((with_reducible refine wpList_at 58 rfl ?_); refine wpList_ld1 5 (.tmp 57) rfl rfl rfl Try.underlying5 rfl C2.out ?_; try simp only [Act.put, List.setIfInBounds_toArray, List.set_cons_zero, List.set_cons_succ])
                        | ((with_reducible refine wpList_at 67 rfl ?_); refine wpList_ix (k := 1) (j := tt) Try.underlying22 (by kernel_rfl) (.tmp 62) (.tmp 63) rfl rfl rfl rfl HLQ.out rfl ?_; rw [Nat.mul_one, Nat.zero_add]; try simp only [Act.put, List.setIfInBounds_toArray, List.set_cons_zero, List.set_cons_succ])
                        | ((refine wpList_atn rfl ?_); refine wpList_bput0 rfl (.tmp 67) (.tmp 66) rfl N rfl (v := (r + x * 58) % 256) (congrArg (Value.int .u8) (show ((r : Int) + 58 * (x : Int)) % 256 = (((r + x * 58) % 256 : Nat) : Int) by omega)) HLQ.out (by omega) ?_; clear N; intro w8 N hb8; replace CC := Lib.hid (CC.out.trans hb8.out)))
                      have N2 := Lib.hid (N.out.to (y := fun i => if m - 1 - i < q + 1 then (V * 58 + y) / 256 ^ (m - 1 - i) % 256 else lf ds i) (fun i him => by
                        have h1 := HT.out.1
                        rcases Nat.lt_trichotomy i tt with h | h | h
                        · rw [if_neg (by omega), if_neg (by omega), if_neg (by omega)]
                        · subst h; rw [if_pos rfl, if_pos (by omega), show m - 1 - i = q by omega]; exact ST.out.2.symm
                        · rw [if_neg (by omega), if_pos (by omega), if_pos (by omega)]) (fun i => by
                        split
                        · have := Nat.mod_lt ((V * 58 + y) / 256 ^ (m - 1 - i)) (show 0 < 256 by omega); omega
                        · exact NB.out i))
                      go_roundg (m - (q + 1))
                      case measure => omega
                      case rel => exact ⟨q + 1, (r + x * 58) / 256, by omega, congrArg (Value.int .i64) (by have := HT.out.2; omega), congrArg (Value.int .i64) (by omega), Lib.hid ⟨CB.out, ST.out.1⟩, N2, CC⟩
                    · obtain rfl : q = m := by omega
                      have RM := Lib.hid (show r = (V * 58 + y) / 256 ^ q by rw [S.out.2, ZE.out]; omega)
                      have bneg : ((q : Int) - 1 - (q : Int)) = -1 := by omega
                      rw [bneg]
                      clear bneg
                      have N3 := Lib.hid (N.out.to (y := lf (tl (fun i => (V * 58 + y) / 256 ^ i % 256) q).reverse) (fun i hi => by
                        rw [if_pos (by omega)]
                        have h1 := lf_rev (tl (fun i => (V * 58 + y) / 256 ^ i % 256) q) (i := i) (by rw [tl_length]; exact hi)
                        rw [tl_length] at h1
                        rw [← h1, lf_tl _ (by omega)]) (lf_lt fun v hv => by
                        obtain ⟨i, _, rfl⟩ := List.mem_map.1 (List.mem_reverse.1 hv)
                        have := Nat.mod_lt ((V * 58 + y) / 256 ^ i) (show 0 < 256 by omega); omega))
                      have MO2 := Lib.hid (show (dig 256 (V * 58 + y)).reverse = (dig 256 r).reverse ++ (tl (fun i => (V * 58 + y) / 256 ^ i % 256) q).reverse by rw [RM.out, ← MO.out, List.reverse_append])
                      obtain ⟨es, hes⟩ : ∃ es, es = (tl (fun i => (V * 58 + y) / 256 ^ i % 256) q).reverse := ⟨_, rfl⟩
                      have LE := Lib.hid (show q = es.length by rw [hes, List.length_reverse, tl_length])
                      rw [← hes] at N3 MO2
                      clear N S RM MO ZE DG hes NB
                      by_cases hr : 0 < r
                      · have RN := Lib.hid N3.out.row
                        go_wp2_with (first
                          | ((with_reducible refine wpList_at 74 rfl ?_); refine wpList_b1o rfl _ rfl (.int .u8 (r : Int)) (v := r) (by kernel_rfl) rfl (by omega) ?_; intro p7 g7 w7 N7 hb7; have B7 := Lib.hid CC.out.size; replace RN := Lib.hid (RN.out.below hb7.out); replace CC := Lib.hid (CC.out.trans (hb7.out.mono CC.out.size)); clear hb7; try simp only [Act.put, List.setIfInBounds_toArray, List.set_cons_zero, List.set_cons_succ])
                          | ((with_reducible refine wpList_at 76 rfl ?_); refine wpList_app (.inl rfl) (.tmp 74) (.tmp 75) rfl rfl (Lib.hid (N7.out.mono B7.out)) rfl RN (by omega) ?_; clear N7 RN; intro p8 g8 c8 w8 N hb8; replace CC := Lib.hid (CC.out.trans hb8.out); clear hb8; try simp only [Act.put, List.setIfInBounds_toArray, List.set_cons_zero, List.set_cons_succ]))
                        have N9 := Lib.hid (N.out.to (y := lf (r :: es)) (fun i hi => by
                          unfold cat
                          cases i with
                          | zero => rfl
                          | succ i => rw [if_neg (by omega)]; rfl) (lf_lt fun v hv => by
                          rcases List.mem_cons.1 hv with rfl | hv
                          · omega
                          · exact isB_own (by rw [← LE.out]; exact N3.out) v hv))
                        have D9 := Lib.hid (show 1 + q = (r :: es).length ∧ r :: es = (dig 256 (acc 58 (tl (fun i => IX (byt u i)) (j + 1)))).reverse from ⟨by rw [List.length_cons, ← LE.out]; omega, by rw [HN.out, MO2.out, dig_one hr (by omega)]; rfl⟩)
                        clear N N3 MO2
                        go_roundg (u.size - (j + 1))
                        case measure => omega
                        case rel => exact ⟨j + 1, 1 + q, c8, g8, p8, _, by omega, by go_num, rfl, D9, N9, CC⟩
                      · obtain rfl : r = 0 := by omega
                        have D9 := Lib.hid (show q = es.length ∧ es = (dig 256 (acc 58 (tl (fun i => IX (byt u i)) (j + 1)))).reverse from ⟨LE.out, by rw [HN.out, MO2.out]; rfl⟩)
                        clear MO2
                        go_wp2
                        go_roundg (u.size - (j + 1))
                        case measure => omega
                        case rel => exact ⟨j + 1, q, c1, g1, p1, es, by omega, by go_num, rfl, D9, N3, CC⟩
                · obtain rfl : j = u.size := by omega
                  have N5b := Lib.hid (N5.out.below CC.out)
                  have R6 := Lib.hid N6.out.row
                  have kb : k ≤ 300 := by have := UU.out.1; omega
                  replace BB := Lib.hid (BB.out.trans (CC.out.mono BB.out.size))
                  go_wp2_with (first
                    | ((with_reducible refine wpList_at 79 rfl ?_); refine wpList_app (.inl rfl) (.tmp 77) (.tmp 78) rfl rfl N5b rfl R6 (by omega) ?_; intro p8 g8 c8 w8 N hb8; replace BB := Lib.hid (BB.out.trans hb8.out); clear hb8; try simp only [Act.put, List.setIfInBounds_toArray, List.set_cons_zero, List.set_cons_succ]))
                  go_ret2
                  have e1 := PON.out k u UU.out.1 UU.out.2.1 UU.out.2.2 EX.out
                  rw [← D.out.2] at e1
                  have e2 : (List.replicate k 0 ++ ds).length = k + m := by rw [List.length_append, List.length_replicate, ← D.out.1]
                  refine ⟨BB.out, .inr (.inr ⟨hs, AL0.out, List.replicate k 0 ++ ds, p8, g8, c8, e1.symm, by rw [e2]; rfl, ?_⟩)⟩
                  rw [e2]
                  refine N.out.to (fun i hi => ?_) (lf_lt fun v hv => ?_)
                  · rw [← lf_cat, List.length_replicate]
                    unfold cat
                    split
                    · unfold lf
                      rw [List.getD_eq_getElem?_getD, List.getElem?_replicate, if_pos (by assumption)]
                      rfl
                    · rfl
                  · rcases List.mem_append.1 hv with h | h
                    · have := (List.mem_replicate.1 h).2; omega
                    · exact isB_own (by rw [← D.out.1]; exact N6.out) v h
          · have EX := Lib.hid (show u.size = 0 ∨ byt u 0 ≠ 49 from .inl (by omega))
            have b1 : decide ((0 : Int) < (u.size : Int)) = false := decide_eq_false (by omega)
            have AU := Lib.hid (show ∀ i, i < u.size → IX (byt u i) < 58 from fun i hi => by rw [UU.out.2.1 i hi]; exact AL.out _ (by have := UU.out.1; omega))
            obtain ⟨wo, rfl⟩ : ∃ wo : World, wo = wr := ⟨_, rfl⟩
            have M0 := Lib.hid (own_nothing wo wo.heap.size (lf []) (lf_lt isB_nil) (Nat.le_refl _))
            have C0 := Lib.hid (Below.refl wo.heap.size wo)
            have us : u.size ≤ 300 := by have := UU.out.1; omega
            go_wp2
            go_loopg [6, 7] u.size (fun k s6 s7 wr => ∃ (j m c1 g1 : Nat) (p1 : Option Addr) (ds : List Nat), j + k = u.size ∧ s7 = .int .i64 (j : Int) ∧ s6 = .slice p1 m c1 ∧ Hid (m = ds.length ∧ ds = (dig 256 (acc 58 (tl (fun i => IX (byt u i)) j))).reverse) ∧ Hid (Own wo.heap.size wr p1 g1 m c1 (lf ds)) ∧ Hid (Below wo.heap.size wo wr))
            case atStart => exact ⟨0, 0, 0, 0, none, [], by omega, rfl, rfl, Lib.hid ⟨rfl, rfl⟩, M0, C0⟩
            case round =>
              clear M0 C0
              obtain ⟨j, m, c1, g1, p1, ds, hj, rfl, rfl, D, N6, CC⟩ := hrel
              obtain ⟨k3, rfl⟩ : ∃ kk : Nat, kk = gk := ⟨_, rfl⟩
              have mb : m ≤ 8 * j := by
                rw [D.out.1, D.out.2, List.length_reverse]
                have := dig_bound (b := 58) (c := 256) (by omega) (by omega) (by decide) (tl_mem (x := fun i => IX (byt u i)) (n := j) fun i hi => AU.out i (by omega))
                rwa [tl_length] at this
              by_cases hlt : j < u.size
              · obtain ⟨z, hz⟩ : ∃ z, z = byt u j := ⟨_, rfl⟩
                have Gz : ((u[j]'hlt).toNat : Int) = (z : Int) := by rw [hz, byt_get]
                have zb : z < 256 := by rw [hz]; exact byt_lt _ _
                obtain ⟨y, hy⟩ : ∃ y, y = IX z := ⟨_, rfl⟩
                have yb : y < 58 := by rw [hy, hz]; exact AU.out j hlt
                have PZ := Lib.hid (show PF z = (y : Int) by rw [hy]; exact PIN.out z (by rw [← hy]; exact yb))
                have PC := Lib.hid (PCC.out z zb)
                obtain ⟨V, hV⟩ : ∃ V, V = acc 58 (tl (fun i => IX (byt u i)) j) := ⟨_, rfl⟩
                rw [← hV] at D
                have HN := Lib.hid (show acc 58 (tl (fun i => IX (byt u i)) (j + 1)) = V * 58 + y by rw [tl_succ, acc_snoc, ← hV, hy, hz])
                have ML := Lib.hid (show m = (dig 256 V).length by rw [D.out.1, D.out.2, List.length_reverse])
                have MO := Lib.hid (show tl (fun i => (V * 58 + y) / 256 ^ i % 256) m ++ dig 256 ((V * 58 + y) / 256 ^ m) = dig 256 (V * 58 + y) by rw [ML.out]; exact dig_more (by omega) (by omega))
                have ZE := Lib.hid (show V / 256 ^ m = 0 by rw [ML.out]; exact dig_out (by omega))
                have DG := Lib.hid (show ∀ i, i < m → lf ds i = V / 256 ^ (m - 1 - i) % 256 from fun i hi => by rw [D.out.2]; exact lf_rdig (by omega) ML.out hi)
                have S0 := Lib.hid (show y < 58 ∧ (V * 58 + y) / 256 ^ 0 = y + 58 * (V / 256 ^ 0) from ⟨yb, by rw [Nat.pow_zero, Nat.div_one, Nat.div_one, Nat.mul_comm]; omega⟩)
                have N1 := Lib.hid (N6.out.to (y := fun i => if m - 1 - i < 0 then (V * 58 + y) / 256 ^ (m - 1 - i) % 256 else lf ds i) (fun i _ => by rw [if_neg (by omega)]) (fun i => by split; exact absurd (by assumption) (by omega); exact N6.out.byte i))
                have HJ := Lib.hid hlt
                have NB := Lib.hid N6.out.byte
                clear hz hy hV N6 D
                go_wp2_with (go_at_call 13; refine (PC.out _).mono ?_; rintro e w2 ⟨rfl, rfl⟩; rw [PZ.out])
                clear PZ PC
                go_loopg [8, 9] m (fun k s8 s9 wr => ∃ q r : Nat, q + k = m ∧ s9 = .int .i64 ((m : Int) - 1 - (q : Int)) ∧ s8 = .int .i64 (r : Int) ∧ Hid (r < 58 ∧ (V * 58 + y) / 256 ^ q = r + 58 * (V / 256 ^ q)) ∧ Hid (Own wo.heap.size wr p1 g1 m c1 (fun i => if m - 1 - i < q then (V * 58 + y) / 256 ^ (m - 1 - i) % 256 else lf ds i)) ∧ Hid (Below wo.heap.size wo wr))
                case atStart => exact ⟨0, y, by omega, congrArg (Value.int .i64) (by omega), rfl, S0, N1, CC⟩
                case round =>
                  clear S0 N1 CC
                  obtain ⟨q, r, hq, rfl, rfl, S, N, CC⟩ := hrel
                  obtain ⟨k4, rfl⟩ : ∃ kk : Nat, kk = gk := ⟨_, rfl⟩
                  have rb := S.out.1
                  by_cases hlq : q < m
                  · obtain ⟨tt, ht⟩ : ∃ tt, tt = m - 1 - q := ⟨_, rfl⟩
                    have et : (m : Int) - 1 - (q : Int) = (tt : Int) := by omega
                    rw [et]
                    have htm : tt < m := by omega
                    have HT := Lib.hid (And.intro ht et)
                    obtain rfl := N.out.row.head (by omega)
                    obtain ⟨x, hx⟩ : ∃ x, x = V / 256 ^ q % 256 := ⟨_, rfl⟩
                    have xb : x < 256 := by rw [hx]; exact Nat.mod_lt _ (by omega)
                    have C2 := Lib.hid (show wr.cell? ⟨g1, tt, none⟩ = some (.int .u8 (x : Int)) by have := N.out.row.cell tt htm; rwa [if_neg (by omega), DG.out tt htm, show m - 1 - tt = q by omega, ← hx, Nat.zero_add] at this)
                    have ST := Lib.hid (step_div (c := 256) (L := q) (by omega) S.out.2 hx)
                    have CB := Lib.hid (carry_lt (c := 256) (b := 58) rb xb)
                    have HLQ := Lib.hid htm
                    clear hx S et ht
                    go_wp2_with (first
                      | ((with_reducible refine wpList_at 57 rfl ?_); refine wpList_ix (k := 1) (j := tt) Try.underlying22 (by kernel_rfl) (.tmp 55) (.tmp 56) rfl rfl rfl rfl HLQ.out rfl ?_; rw [Nat.mul_one, Nat.zero_add]; try simp only [Act.put, List.setIfInBounds_toArray, List.set_cons_zero, List.set_cons_succ])
                      | ((with_reducible refine wpList_at 58 rfl ?_); refine wpList_ld1 5 (.tmp 57) rfl rfl rfl Try.underlying5 rfl C2.out ?_; try simp only [Act.put, List.setIfInBounds_toArray, List.set_cons_zero, List.set_cons_succ])
                      | ((with_reducible refine wpList_at 67 rfl ?_); refine wpList_ix (k := 1) (j := tt) Try.underlying22 (by kernel_rfl) (.tmp 62) (.tmp 63) rfl rfl rfl rfl HLQ.out rfl ?_; rw [Nat.mul_one, Nat.zero_add]; try simp only [Act.put, List.setIfInBounds_toArray, List.set_cons_zero, List.set_cons_succ])
                      | ((refine wpList_atn rfl ?_); refine wpList_bput0 rfl (.tmp 67) (.tmp 66) rfl N rfl (v := (r + x * 58) % 256) (congrArg (Value.int .u8) (show ((r : Int) + 58 * (x : Int)) % 256 = (((r + x * 58) % 256 : Nat) : Int) by omega)) HLQ.out (by omega) ?_; clear N; intro w8 N hb8; replace CC := Lib.hid (CC.out.trans hb8.out)))
                    have N2 := Lib.hid (N.out.to (y := fun i => if m - 1 - i < q + 1 then (V * 58 + y) / 256 ^ (m - 1 - i) % 256 else lf ds i) (fun i him => by
                      have h1 := HT.out.1
                      rcases Nat.lt_trichotomy i tt with h | h | h
                      · rw [if_neg (by omega), if_neg (by omega), if_neg (by omega)]
                      · subst h; rw [if_pos rfl, if_pos (by omega), show m - 1 - i = q by omega]; exact ST.out.2.symm
                      · rw [if_neg (by omega), if_pos (by omega), if_pos (by omega)]) (fun i => by
                      split
                      · have := Nat.mod_lt ((V * 58 + y) / 256 ^ (m - 1 - i)) (show 0 < 256 by omega); omega
                      · exact NB.out i))
                    go_roundg (m - (q + 1))
                    case measure => omega
                    case rel => exact ⟨q + 1, (r + x * 58) / 256, by omega, congrArg (Value.int .i64) (by have := HT.out.2; omega), congrArg (Value.int .i64) (by omega), Lib.hid ⟨CB.out, ST.out.1⟩, N2, CC⟩
                  · obtain rfl : q = m := by omega
                    have RM := Lib.hid (show r = (V * 58 + y) / 256 ^ q by rw [S.out.2, ZE.out]; omega)
                    have bneg : ((q : Int) - 1 - (q : Int)) = -1 := by omega
                    rw [bneg]
                    clear bneg
                    have N3 := Lib.hid (N.out.to (y := lf (tl (fun i => (V * 58 + y) / 256 ^ i % 256) q).reverse) (fun i hi => by
                      rw [if_pos (by omega)]
                      have h1 := lf_rev (tl (fun i => (V * 58 + y) / 256 ^ i % 256) q) (i := i) (by rw [tl_length]; exact hi)
                      rw [tl_length] at h1
                      rw [← h1, lf_tl _ (by omega)]) (lf_lt fun v hv => by
                      obtain ⟨i, _, rfl⟩ := List.mem_map.1 (List.mem_reverse.1 hv)
                      have := Nat.mod_lt ((V * 58 + y) / 256 ^ i) (show 0 < 256 by omega); omega))
                    have MO2 := Lib.hid (show (dig 256 (V * 58 + y)).reverse = (dig 256 r).reverse ++ (tl (fun i => (V * 58 + y) / 256 ^ i % 256) q).reverse by rw [RM.out, ← MO.out, List.reverse_append])
                    obtain ⟨es, hes⟩ : ∃ es, es = (tl (fun i => (V * 58 + y) / 256 ^ i % 256) q).reverse := ⟨_, rfl⟩
                    have LE := Lib.hid (show q = es.length by rw [hes, List.length_reverse, tl_length])
                    rw [← hes] at N3 MO2
                    clear N S RM MO ZE DG hes NB
                    by_cases hr : 0 < r
                    · have RN := Lib.hid N3.out.row
                      go_wp2_with (first
                        | ((with_reducible refine wpList_at 74 rfl ?_); refine wpList_b1o rfl _ rfl (.int .u8 (r : Int)) (v := r) (by kernel_rfl) rfl (by omega) ?_; intro p7 g7 w7 N7 hb7; have B7 := Lib.hid CC.out.size; replace RN := Lib.hid (RN.out.below hb7.out); replace CC := Lib.hid (CC.out.trans (hb7.out.mono CC.out.size)); clear hb7; try simp only [Act.put, List.setIfInBounds_toArray, List.set_cons_zero, List.set_cons_succ])
                        | ((with_reducible refine wpList_at 76 rfl ?_); refine wpList_app (.inl rfl) (.tmp 74) (.tmp 75) rfl rfl (Lib.hid (N7.out.mono B7.out)) rfl RN (by omega) ?_; clear N7 RN; intro p8 g8 c8 w8 N hb8; replace CC := Lib.hid (CC.out.trans hb8.out); clear hb8; try simp only [Act.put, List.setIfInBounds_toArray, List.set_cons_zero, List.set_cons_succ]))
                      have N9 := Lib.hid (N.out.to (y := lf (r :: es)) (fun i hi => by
                        unfold cat
                        cases i with
                        | zero => rfl
                        | succ i => rw [if_neg (by omega)]; rfl) (lf_lt fun v hv => by
                        rcases List.mem_cons.1 hv with rfl | hv
                        · omega
                        · exact isB_own (by rw [← LE.out]; exact N3.out) v hv))
                      have D9 := Lib.hid (show 1 + q = (r :: es).length ∧ r :: es = (dig 256 (acc 58 (tl (fun i => IX (byt u i)) (j + 1)))).reverse from ⟨by rw [List.length_cons, ← LE.out]; omega, by rw [HN.out, MO2.out, dig_one hr (by omega)]; rfl⟩)
                      clear N N3 MO2
                      go_roundg (u.size - (j + 1))
                      case measure => omega
                      case rel => exact ⟨j + 1, 1 + q, c8, g8, p8, _, by omega, by go_num, rfl, D9, N9, CC⟩
                    · obtain rfl : r = 0 := by omega
                      have D9 := Lib.hid (show q = es.length ∧ es = (dig 256 (acc 58 (tl (fun i => IX (byt u i)) (j + 1)))).reverse from ⟨LE.out, by rw [HN.out, MO2.out]; rfl⟩)
                      clear MO2
                      go_wp2
                      go_roundg (u.size - (j + 1))
                      case measure => omega
                      case rel => exact ⟨j + 1, q, c1, g1, p1, es, by omega, by go_num, rfl, D9, N3, CC⟩
              · obtain rfl : j = u.size := by omega
                have N5b := Lib.hid (N5.out.below CC.out)
                have R6 := Lib.hid N6.out.row
                have kb : k ≤ 300 := by have := UU.out.1; omega
                replace BB := Lib.hid (BB.out.trans (CC.out.mono BB.out.size))
                go_wp2_with (first
                  | ((with_reducible refine wpList_at 79 rfl ?_); refine wpList_app (.inl rfl) (.tmp 77) (.tmp 78) rfl rfl N5b rfl R6 (by omega) ?_; intro p8 g8 c8 w8 N hb8; replace BB := Lib.hid (BB.out.trans hb8.out); clear hb8; try simp only [Act.put, List.setIfInBounds_toArray, List.set_cons_zero, List.set_cons_succ]))
                go_ret2
                have e1 := PON.out k u UU.out.1 UU.out.2.1 UU.out.2.2 EX.out
                rw [← D.out.2] at e1
                have e2 : (List.replicate k 0 ++ ds).length = k + m := by rw [List.length_append, List.length_replicate, ← D.out.1]
                refine ⟨BB.out, .inr (.inr ⟨hs, AL0.out, List.replicate k 0 ++ ds, p8, g8, c8, e1.symm, by rw [e2]; rfl, ?_⟩)⟩
                rw [e2]
                refine N.out.to (fun i hi => ?_) (lf_lt fun v hv => ?_)
                · rw [← lf_cat, List.length_replicate]
                  unfold cat
                  split
                  · unfold lf
                    rw [List.getD_eq_getElem?_getD, List.getElem?_replicate, if_pos (by assumption)]
                    rfl
                  · rfl
                · rcases List.mem_append.1 hv with h | h
                  · have := (List.mem_replicate.1 h).2; omega
                  · exact isB_own (by rw [← D.out.1]; exact N6.out) v h
end Go.Proofs.Ytofmleiblcafiaa
