/- address.places: where the letters of a text stand among some letters. -/
import Derived.Test.YtofmleiblcafiaaAb
import Derived.Test.YtofmleiblcafiaaCv
import Derived.WalkMore
import Derived.Lib.OthersKept
set_option linter.unusedSimpArgs false
set_option linter.unusedVariables false
set_option maxRecDepth 100000
namespace Go.Proofs.Ytofmleiblcafiaa
open Go.RowKit Go.Lib Go.Sort

/-- A text's iterator in a block. -/
def ItAt (b : Nat) (s : ByteArray) (pos : Nat) (w : World) : Prop := w.heap[b]? = some (.stringIter s pos)
theorem ItAt.below {b : Nat} {s : ByteArray} {pos : Nat} {w w' : World} (h : ItAt b s pos w) (hb : Below w.heap.size w w') : ItAt b s pos w' := by unfold ItAt at *; rw [hb.block b (heap_lt h)]; exact h
theorem ItAt.only {b c : Nat} {s : ByteArray} {pos : Nat} {w w' : World} (h : ItAt b s pos w) (ho : Only c w w') (hc : b ≠ c) : ItAt b s pos w' := by unfold ItAt at *; exact ho.heap hc h
theorem only_iter {b : Nat} {s : ByteArray} {pos : Nat} {w : World} (h : ItAt b s pos w) (pos' : Nat) : Only b w (w.iterAt b s pos') ∧ ItAt b s pos' (w.iterAt b s pos') := by
  refine ⟨⟨rfl, rfl, rfl, by simp [World.iterAt], fun k hk hne => ?_⟩, Go.Lib.iterAt_heap w b s pos pos' h⟩
  simp only [World.iterAt]
  rw [Array.getElem?_setIfInBounds, if_neg (fun e => hne e.symm)]
theorem Own.it {B g n c b pos : Nat} {p : Option Addr} {x : Nat → Nat} {s : ByteArray} {w w' : World} (N : Own B w p g n c x) (h : ItAt b s pos w) (ho : Only b w w') : Own B w' p g n c x := by
  refine ⟨?_, N.spot, N.byte, Nat.le_trans N.low ho.size⟩
  refine N.own.kept (w' := w') (row := some b) ⟨ho.os, ho.tape, ho.output, ho.size, fun k hk hne => ho.block k hk (fun e => hne (by rw [e]))⟩ ?_
  rcases N.own.2 with ⟨h1, _⟩ | ⟨g', cap, cur, h1, h2, h3, _⟩
  · rw [h1]; exact .inl rfl
  · rw [h1]
    refine .inr fun e => ?_
    have e2 : g' = b := by simpa [Value.ownBlock] using e
    unfold ItAt at h
    rw [e2, h] at h3
    injection h3 with h3
    cases h3
theorem ItAt.grown {B g n c b pos m c' : Nat} {p p' : Option Addr} {x : Nat → Nat} {s : ByteArray} {w w' : World} (h : ItAt b s pos w) (hb : w'.heap[b]? = w.heap[b]?) : ItAt b s pos w' := by unfold ItAt at *; rw [hb]; exact h
section
variable {ops : Array Oper} {rest : List Oper} {Q : Exit → Act → World → Prop} {op : Oper} {a : Act} {w : World}
theorem wpList_range (hw : Region.wanted op (yielded ops a.tmps) = true) (x : Operand) (ho : op.op = .range 9 x) {s : ByteArray} (hx : a.eval x = .string s)
    (k : ∀ b w', Hid (ItAt b s 0 w') → Hid (Below w.heap.size w w' ∧ w.heap.size ≤ b) → wpList Try.prog ops Q rest (a.put op.dst (.pointer (some ⟨b, 0, none⟩))) w') : wpList Try.prog ops Q (op :: rest) a w := by
  refine wpList_known4 hw (.pointer (some ⟨w.heap.size, 0, none⟩)) (w.alloc (.stringIter s 0)) ?_ (k _ _ (Lib.hid ?_) (Lib.hid ⟨below_new w _, Nat.le_refl _⟩))
  · unfold execOp
    simp only [ho, hx, Instr.range, Sem.run_bind, run_underlying Try.underlying9, Result.andThen_ok]
    rfl
  · unfold ItAt
    show (w.heap.push _)[w.heap.size]? = _
    simp
theorem wpList_next (hw : Region.wanted op (yielded ops a.tmps) = true) (x : Operand) (ho : op.op = .next x true) {b pos : Nat} {s : ByteArray} (hx : a.eval x = .pointer (some ⟨b, 0, none⟩)) (I : Hid (ItAt b s pos w)) (h : pos < s.size) (ha : byt s pos < 128)
    (k : ∀ w', Hid (ItAt b s (pos + 1) w') → Hid (Only b w w') → wpList Try.prog ops Q rest (a.put op.dst (.tuple #[.bool true, .int .i64 (pos : Int), .int .i32 ((byt s pos : Nat) : Int)])) w') : wpList Try.prog ops Q (op :: rest) a w := by
  have ha2 : (s[pos]'h).toNat < 128 := by rw [byt_get]; exact ha
  have hr := Go.Lib.run_next_ascii_at (P := Try.prog) w b s pos op.type I.out h ha2
  rw [byt_get] at hr
  obtain ⟨ho2, hi⟩ := only_iter I.out (pos + 1)
  refine wpList_known4 hw _ _ ?_ (k _ (Lib.hid hi) (Lib.hid ho2))
  unfold execOp
  simp only [ho, hx, Sem.run_bind, hr, Result.andThen_ok]
  rfl
theorem wpList_nexth (hw : Region.wanted op (yielded ops a.tmps) = true) (x : Operand) (ho : op.op = .next x true) {b pos : Nat} {s : ByteArray} (hx : a.eval x = .pointer (some ⟨b, 0, none⟩)) (I : Hid (ItAt b s pos w)) (h : pos < s.size) (ha : 128 ≤ byt s pos)
    (k : ∀ (r pos' : Nat) w', Hid (ItAt b s pos' w') → Hid (Only b w w') → 128 ≤ r → wpList Try.prog ops Q rest (a.put op.dst (.tuple #[.bool true, .int .i64 (pos : Int), .int .i32 (r : Int)])) w') : wpList Try.prog ops Q (op :: rest) a w := by
  have ha2 : 128 ≤ (s[pos]'h).toNat := by rw [byt_get]; exact ha
  have hd := decode_high s pos h ha2
  have hr := Go.Lib.run_next_any_at (P := Try.prog) w b s pos op.type I.out h
  obtain ⟨ho2, hi⟩ := only_iter I.out (pos + (Utf8.decode s pos).2)
  have e : (Utf8.decode s pos).1 = (((Utf8.decode s pos).1 : Nat) : Int) := rfl
  refine wpList_known4 hw _ _ ?_ (k (Utf8.decode s pos).1 _ _ (Lib.hid hi) (Lib.hid ho2) hd.1)
  unfold execOp
  simp only [ho, hx, Sem.run_bind, hr, Result.andThen_ok]
  rfl
theorem wpList_nexte (hw : Region.wanted op (yielded ops a.tmps) = true) (x : Operand) (ho : op.op = .next x true) {b pos : Nat} {s : ByteArray} (hx : a.eval x = .pointer (some ⟨b, 0, none⟩)) (I : Hid (ItAt b s pos w)) (h : ¬ pos < s.size)
    (k : wpList Try.prog ops Q rest (a.put op.dst (.tuple #[.bool false])) w) : wpList Try.prog ops Q (op :: rest) a w := by
  have hr := Go.Lib.run_next_end_at (P := Try.prog) w b s pos op.type I.out h
  refine wpList_known4 hw _ _ ?_ k
  unfold execOp
  simp only [ho, hx, Sem.run_bind, hr, Result.andThen_ok]
  rfl
end
section
variable {ops : Array Oper} {rest : List Oper} {Q : Exit → Act → World → Prop} {op : Oper} {a : Act} {w : World}
/-- An append to a slice of the call's own; what other blocks hold. -/
theorem wpList_appg (hw : Region.wanted op (yielded ops a.tmps) = true) (s t : Operand) (ho : op.op = .call { callee := .builtin .append, args := #[s, t], argTypes := #[22, 22] }) {B g n c : Nat} {p : Option Addr} {x : Nat → Nat} (hs : a.eval s = .slice p n c) (N : Hid (Own B w p g n c x))
    {q : Option Addr} {h o m d : Nat} {y : Nat → Nat} (ht : a.eval t = .slice q m d) (R : Hid (Row w q h o m d y)) (hlen : n + m ≤ 140737488355328)
    (k : ∀ p' g' c' w', Hid (Own B w' p' g' (n + m) c' (cat x n y)) → Hid (Below B w w') → Hid (w.grownBy w' ((Value.slice p n c).ownBlock)) → wpList Try.prog ops Q rest (a.put op.dst (.slice p' (n + m) c')) w') : wpList Try.prog ops Q (op :: rest) a w := by
  refine BigFrame.wpList_want hw fun K hK => ?_
  obtain ⟨i0, hi, hz0, hz1, hz2⟩ := info_parts infoB
  cases q with
  | none =>
    obtain ⟨rfl, rfl⟩ := R.out.nil rfl
    have hrun := run_append_owned_none (P := Try.prog) (w := w) B 22 op.type 5 i0 1 Try.underlying22 hi _ n _ N.out.own
    refine mo_known (.slice p n c) w ?_ (hK _ _ (k p g c w (Lib.hid (N.out.to (fun i hi => by unfold cat; rw [if_pos hi]) (cat_byte n N.out.byte R.out.byte))) (Lib.hid (Below.refl _ _)) (Lib.hid (World.grownBy.refl _ _))))
    simp [execOp, ho, resolve, invoke, builtin, hs, ht, hrun, Result.andThen]
  | some ad =>
    refine wp_append_own (P := Try.prog) w s t 22 ho B 5 i0 (.int .u8 0) 1 1 Try.underlying22 hi hz0 hz1 hz2 rfl (by decide) _ _ _ hs N.out.own ad m d (fbs y m) ht (by rw [fbs_length]; omega) ?_ (fbs_one y m) (by unfold maxLen; omega) (by omega) N.out.low ?_
    · intro j u hu
      obtain ⟨hj, rfl⟩ := fbs_get _ _ _ _ hu
      obtain rfl := Option.some.inj (R.out.head (by omega))
      rw [row_add]
      exact R.out.cell j hj
    · intro v' w' hown hgrow hnil
      rw [fbs_cat] at hown
      have hb : Below B w w' := (Below.refl _ _).grown hgrow N.out.low fun k hk => (World.ownsRow.lt N.out.own k hk).1
      obtain ⟨p', g', c', rfl, N'⟩ := own_of hown (cat_byte n N.out.byte R.out.byte) (Nat.le_trans N.out.low hb.size)
      exact hK _ _ (k p' g' c' w' (Lib.hid N') (Lib.hid hb) (Lib.hid hgrow))
end
theorem ItAt.app {B g n c b pos : Nat} {p : Option Addr} {x : Nat → Nat} {s : ByteArray} {w w' : World} (h : ItAt b s pos w) (N : Own B w p g n c x) (hg : w.grownBy w' ((Value.slice p n c).ownBlock)) : ItAt b s pos w' := by
  unfold ItAt at *
  rw [hg.block b (heap_lt h) (fun e => ?_)]
  · exact h
  · rcases N.own.2 with ⟨h1, _⟩ | ⟨g', cap, cur, h1, h2, h3, _⟩
    · rw [h1] at e; cases e
    · rw [h1] at e
      have e2 : b = g' := by simpa [Value.ownBlock] using e
      rw [← e2, h] at h3
      injection h3 with h3
      cases h3
/-- The first place of c among f 0 .. f (n - 1); n, if it stands at none. -/
def ixf (f : Nat → Nat) (c : Nat) : Nat → Nat
  | 0 => 0
  | n + 1 => if ixf f c n < n then ixf f c n else if f n = c then n else n + 1
theorem ixf_miss {f : Nat → Nat} {c : Nat} : ∀ {n : Nat}, (∀ i, i < n → f i ≠ c) → ixf f c n = n
  | 0, _ => rfl
  | n + 1, h => by
    unfold ixf
    rw [ixf_miss (fun i hi => h i (by omega)), if_neg (by omega), if_neg (h n (by omega))]
theorem ixf_hit {f : Nat → Nat} {c q : Nat} (hq : f q = c) (h : ∀ i, i < q → f i ≠ c) : ∀ {n : Nat}, q < n → ixf f c n = q
  | 0, hn => absurd hn (by omega)
  | n + 1, hn => by
    unfold ixf
    rcases Nat.lt_or_ge q n with r | r
    · rw [ixf_hit hq h r, if_pos r]
    · obtain rfl : q = n := by omega
      rw [ixf_miss h, if_neg (by omega), if_pos hq]
theorem ixf_get {f : Nat → Nat} {c : Nat} : ∀ {n : Nat}, ixf f c n < n → f (ixf f c n) = c
  | 0, hn => absurd hn (by omega)
  | n + 1, hn => by
    unfold ixf at hn ⊢
    by_cases h1 : ixf f c n < n
    · rw [if_pos h1]; exact ixf_get h1
    · rw [if_neg h1] at hn ⊢
      by_cases h2 : f n = c
      · rw [if_pos h2]; exact h2
      · rw [if_neg h2] at hn; omega
theorem ixf_le (f : Nat → Nat) (c : Nat) : ∀ n : Nat, ixf f c n ≤ n
  | 0 => Nat.le_refl _
  | n + 1 => by
    unfold ixf
    have := ixf_le f c n
    split
    · omega
    · split <;> omega
/-- Where a byte stands among letters. -/
def ixL (L : ByteArray) (c : Nat) : Nat := ixf (byt L) c L.size
/-- Where a text's bytes stand among letters. -/
def plL (L s : ByteArray) : List Nat := tl (fun i => ixL L (byt s i)) s.size
def AllIn (L s : ByteArray) : Prop := ∀ i, i < s.size → ixL L (byt s i) < L.size
/-- What a call leaves that tells the places. -/
def PlEnd (w : World) (L s : ByteArray) (e : Ending) (w' : World) : Prop := (AllIn L s ∧ ∃ p g c, e = .returned (.tuple #[.slice p s.size c, .bool true]) ∧ Own w.heap.size w' p g s.size c (lf (plL L s)) ∧ Below w.heap.size w w') ∨ (¬ AllIn L s ∧ e = .returned (.tuple #[.slice none 0 0, .bool false]) ∧ Below w.heap.size w w')
set_option maxHeartbeats 16000000 in
theorem places_any (w : World) (s L : ByteArray) (hs : s.size ≤ 1000000) (hL : L.size ≤ 100) (hA : Hid (∀ i, i < L.size → byt L i < 128)) : Calls Try.prog 11 #[.string s, .string L] w (PlEnd w L s) := by
  have N0 := Lib.hid (own_nothing w w.heap.size (fun i => ixL L (byt s i)) (fun i => by have := ixf_le (byt L) (byt s i) L.size; unfold ixL; omega) (Nat.le_refl _))
  have B0 := Lib.hid (Below.refl w.heap.size w)
  have F0 := Lib.hid (show ∀ i, i < 0 → ixL L (byt s i) < L.size from fun i h => absurd h (by omega))
  have IB := Lib.hid (show ∀ i, ixL L (byt s i) < 256 from fun i => by have := ixf_le (byt L) (byt s i) L.size; unfold ixL; omega)
  go_enter Try.func11, Try.ntmps11
  go_wp2
  go_step3
  go_wp2_with (first
    | ((with_reducible refine wpList_at 12 rfl ?_); refine wpList_range rfl (.tmp 11) rfl rfl ?_; intro bo w1 IO HO; replace B0 := Lib.hid (B0.out.trans HO.out.1); replace N0 := Lib.hid (N0.out.below HO.out.1); try simp only [Act.put, List.setIfInBounds_toArray, List.set_cons_zero, List.set_cons_succ]))
  go_step3
  go_wp2_with (first
    | ((with_reducible refine wpList_at 12 rfl ?_); refine wpList_range rfl (.tmp 11) rfl rfl ?_; intro bo w1 IO HO; replace B0 := Lib.hid (B0.out.trans HO.out.1); replace N0 := Lib.hid (N0.out.below HO.out.1); try simp only [Act.put, List.setIfInBounds_toArray, List.set_cons_zero, List.set_cons_succ]))
  go_loopg [6] s.size (fun k s6 wr => ∃ (j g c : Nat) (p : Option Addr), j + k = s.size ∧ s6 = .slice p j c ∧ Hid (ItAt bo s j wr) ∧ Hid (∀ i, i < j → ixL L (byt s i) < L.size) ∧ Hid (Own w.heap.size wr p g j c (fun i => ixL L (byt s i))) ∧ Hid (Below w.heap.size w wr))
  case atStart => exact ⟨0, 0, 0, none, by omega, rfl, IO, F0, N0, B0⟩
  case round =>
    clear N0 B0 F0 IO
    obtain ⟨j, g, c, p, hj, rfl, IO, FF, N, BB⟩ := hrel
    obtain ⟨kk, rfl⟩ : ∃ kk : Nat, kk = gk := ⟨_, rfl⟩
    by_cases hlt : j < s.size
    · have HJ := Lib.hid hlt
      obtain ⟨y, hy⟩ : ∃ y, y = byt s j := ⟨_, rfl⟩
      have RY := Lib.hid hy
      by_cases ha : y < 128
      · obtain ⟨r, hr⟩ : ∃ r, r = y := ⟨_, rfl⟩
        rw [← hr] at RY ha
        have HA2 := Lib.hid (show byt s j < 128 by rw [← RY.out]; exact ha)
        clear hy hr hlt
        go_wp2_with (first
          | ((with_reducible refine wpList_at 13 rfl ?_); refine wpList_next rfl (.tmp 12) rfl rfl IO HJ.out HA2.out ?_; intro w2 IO2 ho2; replace N := Lib.hid (N.out.it IO.out ho2.out); replace BB := Lib.hid (BB.out.trans (ho2.out.below HO.out.2 BB.out.size)); clear IO ho2; have IO := IO2; clear IO2; rw [← RY.out]; try simp only [Act.put, List.setIfInBounds_toArray, List.set_cons_zero, List.set_cons_succ])
          | ((with_reducible refine wpList_at 17 rfl ?_); refine wpList_range rfl (.tmp 16) rfl rfl ?_; intro bi w3 II HI; have IOb := IO; have BBb := BB; replace IO := Lib.hid (IO.out.below HI.out.1); replace N := Lib.hid (N.out.below HI.out.1); replace BB := Lib.hid (BB.out.trans (HI.out.1.mono BB.out.size)); try simp only [Act.put, List.setIfInBounds_toArray, List.set_cons_zero, List.set_cons_succ]))
        have HNE := Lib.hid (show bo ≠ bi from fun e => by have h1 := heap_lt IOb.out; have h2 := HI.out.2; omega)
        have HBI := Lib.hid (show w.heap.size ≤ bi from Nat.le_trans BBb.out.size HI.out.2)
        clear IOb BBb HI
        have MI0 := Lib.hid (show ∀ i, i < 0 → byt L i ≠ r from fun i h => absurd h (by omega))
        go_loopg [6, 18] L.size (fun k s6 s18 wr => ∃ q : Nat, q + k = L.size ∧ s6 = .slice p j c ∧ Hid (ItAt bi L q wr) ∧ Hid (ItAt bo s (j + 1) wr) ∧ Hid (∀ i, i < q → byt L i ≠ r) ∧ Hid (Own w.heap.size wr p g j c (fun i => ixL L (byt s i))) ∧ Hid (Below w.heap.size w wr))
        case atStart => exact ⟨0, by omega, rfl, II, IO, MI0, N, BB⟩
        case round =>
          clear MI0 II IO N BB
          obtain ⟨q, hq, rfl, II, IO, MI, N, BB⟩ := hrel
          obtain ⟨k2, rfl⟩ : ∃ kk : Nat, kk = gk := ⟨_, rfl⟩
          by_cases hlq : q < L.size
          · obtain ⟨z, hzz⟩ : ∃ z, z = byt L q := ⟨_, rfl⟩
            have HZZ := Lib.hid hzz
            have zb : z < 128 := by rw [hzz]; exact hA.out q hlq
            have zb2 : byt L q < 128 := hA.out q hlq
            have HL2 := Lib.hid (And.intro hlq zb2)
            clear zb2
            by_cases hz : z = r
            · subst hz
              have HIT := Lib.hid (show ixL L (byt s j) = q from ixf_hit (by rw [← RY.out, ← hzz]) (fun i hi => by rw [← RY.out]; exact MI.out i hi) hlq)
              have F2 := Lib.hid (show ∀ i, i < j + 1 → ixL L (byt s i) < L.size from fun i hi => by
                rcases Nat.lt_or_ge i j with h | h
                · exact FF.out i h
                · obtain rfl : i = j := by omega
                  rw [HIT.out]; exact hlq)
              clear hzz MI FF RY
              go_wp2_with (first
                | ((with_reducible refine wpList_at 18 rfl ?_); refine wpList_next rfl (.tmp 17) rfl rfl II HL2.out.1 HL2.out.2 ?_; intro w5 II5 ho5; replace N := Lib.hid (N.out.it II.out ho5.out); replace IO := Lib.hid (IO.out.only ho5.out HNE.out); replace BB := Lib.hid (BB.out.trans (ho5.out.below HBI.out BB.out.size)); clear II ho5; have II := II5; clear II5; rw [← HZZ.out]; try simp only [Act.put, List.setIfInBounds_toArray, List.set_cons_zero, List.set_cons_succ])
                | ((with_reducible refine wpList_at 28 rfl ?_); refine wpList_b1 rfl _ rfl (.int .u8 (q : Int)) (v := q) (by kernel_rfl) rfl (by omega) ?_; intro b7 w7 R7 hb7; replace N := Lib.hid (N.out.below hb7.out); replace IO := Lib.hid (IO.out.below hb7.out); replace BB := Lib.hid (BB.out.trans (hb7.out.mono BB.out.size)); clear hb7; try simp only [Act.put, List.setIfInBounds_toArray, List.set_cons_zero, List.set_cons_succ])
                | ((with_reducible refine wpList_at 29 rfl ?_); refine wpList_appg rfl (.tmp 25) (.tmp 28) rfl rfl N rfl R7 (by omega) ?_; intro p8 g8 c8 w8 N8 hb8 hg8; replace IO := Lib.hid (IO.out.app N.out hg8.out); clear N R7 hg8; have N := N8; clear N8; replace BB := Lib.hid (BB.out.trans hb8.out); clear hb8; try simp only [Act.put, List.setIfInBounds_toArray, List.set_cons_zero, List.set_cons_succ]))
              have N2 := Lib.hid (N.out.to (y := fun i => ixL L (byt s i)) (fun i hi => by
                unfold cat
                by_cases h : i < j
                · rw [if_pos h]
                · rw [if_neg h, show i = j by omega, HIT.out]) IB.out)
              clear N
              go_roundg (s.size - (j + 1))
              case measure => (have := HJ.out; omega)
              case rel => exact ⟨j + 1, g8, c8, p8, by have := HJ.out; omega, rfl, IO, F2, N2, BB⟩
            · have b1 : ((r : Int) == (z : Int)) = false := by simpa using (show ¬ ((r : Int) = (z : Int)) by omega)
              have M2 := Lib.hid (show ∀ i, i < q + 1 → byt L i ≠ r from fun i hi => by
                rcases Nat.lt_or_ge i q with h | h
                · exact MI.out i h
                · obtain rfl : i = q := by omega
                  rw [← hzz]; exact hz)
              clear hzz MI hz
              go_wp2_with (((with_reducible refine wpList_at 18 rfl ?_); refine wpList_next rfl (.tmp 17) rfl rfl II HL2.out.1 HL2.out.2 ?_; intro w5 II5 ho5; replace N := Lib.hid (N.out.it II.out ho5.out); replace IO := Lib.hid (IO.out.only ho5.out HNE.out); replace BB := Lib.hid (BB.out.trans (ho5.out.below HBI.out BB.out.size)); clear II ho5; have II := II5; clear II5; rw [← HZZ.out]; try simp only [Act.put, List.setIfInBounds_toArray, List.set_cons_zero, List.set_cons_succ]))
              go_roundg (L.size - (q + 1))
              case measure => omega
              case rel => exact ⟨q + 1, by omega, rfl, II, IO, M2, N, BB⟩
          · obtain rfl : q = L.size := by omega
            have NO := Lib.hid (show ¬ AllIn L s from fun h => by
              have h1 := h j HJ.out
              have h2 : ixL L (byt s j) = L.size := ixf_miss (fun i hi => by rw [← RY.out]; exact MI.out i hi)
              omega)
            clear MI FF
            go_wp2_with (((with_reducible refine wpList_at 18 rfl ?_); refine wpList_nexte rfl (.tmp 17) rfl rfl II (by omega) ?_; try simp only [Act.put, List.setIfInBounds_toArray, List.set_cons_zero, List.set_cons_succ]))
            try rw [Exit.noGoto_ret]
            go_ret2
            exact .inr ⟨NO.out, rfl, BB.out⟩
      · have HA2 := Lib.hid (show 128 ≤ byt s j by rw [← RY.out]; omega)
        have hyb : 128 ≤ y := by omega
        clear ha hlt
        go_wp2_with (first
          | ((with_reducible refine wpList_at 13 rfl ?_); refine wpList_nexth rfl (.tmp 12) rfl rfl IO HJ.out HA2.out ?_; intro r pj w2 IO2 ho2 hr; replace N := Lib.hid (N.out.it IO.out ho2.out); replace BB := Lib.hid (BB.out.trans (ho2.out.below HO.out.2 BB.out.size)); clear IO ho2; have IO := IO2; clear IO2; try simp only [Act.put, List.setIfInBounds_toArray, List.set_cons_zero, List.set_cons_succ])
          | ((with_reducible refine wpList_at 17 rfl ?_); refine wpList_range rfl (.tmp 16) rfl rfl ?_; intro bi w3 II HI; have IOb := IO; have BBb := BB; replace IO := Lib.hid (IO.out.below HI.out.1); replace N := Lib.hid (N.out.below HI.out.1); replace BB := Lib.hid (BB.out.trans (HI.out.1.mono BB.out.size)); try simp only [Act.put, List.setIfInBounds_toArray, List.set_cons_zero, List.set_cons_succ]))
        have HNE := Lib.hid (show bo ≠ bi from fun e => by have h1 := heap_lt IOb.out; have h2 := HI.out.2; omega)
        have HBI := Lib.hid (show w.heap.size ≤ bi from Nat.le_trans BBb.out.size HI.out.2)
        clear IOb BBb HI
        have MI0 := Lib.hid (show ∀ i, i < 0 → byt L i ≠ r from fun i h => absurd h (by omega))
        go_loopg [6, 18] L.size (fun k s6 s18 wr => ∃ q : Nat, q + k = L.size ∧ s6 = .slice p j c ∧ Hid (ItAt bi L q wr) ∧ Hid (ItAt bo s pj wr) ∧ Hid (∀ i, i < q → byt L i ≠ r) ∧ Hid (Own w.heap.size wr p g j c (fun i => ixL L (byt s i))) ∧ Hid (Below w.heap.size w wr))
        case atStart => exact ⟨0, by omega, rfl, II, IO, MI0, N, BB⟩
        case round =>
          clear MI0 II IO N BB
          obtain ⟨q, hq, rfl, II, IO, MI, N, BB⟩ := hrel
          obtain ⟨k2, rfl⟩ : ∃ kk : Nat, kk = gk := ⟨_, rfl⟩
          by_cases hlq : q < L.size
          · obtain ⟨z, hzz⟩ : ∃ z, z = byt L q := ⟨_, rfl⟩
            have HZZ := Lib.hid hzz
            have zb : z < 128 := by rw [hzz]; exact hA.out q hlq
            have zb2 : byt L q < 128 := hA.out q hlq
            have HL2 := Lib.hid (And.intro hlq zb2)
            clear zb2
            have hz : ¬ z = r := by omega
            have b1 : ((r : Int) == (z : Int)) = false := by simpa using (show ¬ ((r : Int) = (z : Int)) by omega)
            have M2 := Lib.hid (show ∀ i, i < q + 1 → byt L i ≠ r from fun i hi => by
              rcases Nat.lt_or_ge i q with h | h
              · exact MI.out i h
              · obtain rfl : i = q := by omega
                rw [← hzz]; exact hz)
            clear hzz MI hz
            go_wp2_with (((with_reducible refine wpList_at 18 rfl ?_); refine wpList_next rfl (.tmp 17) rfl rfl II HL2.out.1 HL2.out.2 ?_; intro w5 II5 ho5; replace N := Lib.hid (N.out.it II.out ho5.out); replace IO := Lib.hid (IO.out.only ho5.out HNE.out); replace BB := Lib.hid (BB.out.trans (ho5.out.below HBI.out BB.out.size)); clear II ho5; have II := II5; clear II5; rw [← HZZ.out]; try simp only [Act.put, List.setIfInBounds_toArray, List.set_cons_zero, List.set_cons_succ]))
            go_roundg (L.size - (q + 1))
            case measure => omega
            case rel => exact ⟨q + 1, by omega, rfl, II, IO, M2, N, BB⟩
          · obtain rfl : q = L.size := by omega
            have NO := Lib.hid (show ¬ AllIn L s from fun h => by
              have h1 := h j HJ.out
              have h2 : ixL L (byt s j) = L.size := ixf_miss (fun i hi => by have := hA.out i hi; omega)
              omega)
            clear MI FF
            go_wp2_with (((with_reducible refine wpList_at 18 rfl ?_); refine wpList_nexte rfl (.tmp 17) rfl rfl II (by omega) ?_; try simp only [Act.put, List.setIfInBounds_toArray, List.set_cons_zero, List.set_cons_succ]))
            try rw [Exit.noGoto_ret]
            go_ret2
            exact .inr ⟨NO.out, rfl, BB.out⟩
    · obtain rfl : j = s.size := by omega
      have AL := Lib.hid (show AllIn L s from FF.out)
      clear FF
      go_wp2_with (((with_reducible refine wpList_at 13 rfl ?_); refine wpList_nexte rfl (.tmp 12) rfl rfl IO (by omega) ?_; try simp only [Act.put, List.setIfInBounds_toArray, List.set_cons_zero, List.set_cons_succ]))
      try rw [Exit.noGoto_ret]
      go_ret2
      exact .inl ⟨AL.out, p, g, c, rfl, N.out.to (fun i hi => by unfold plL; rw [lf_tl _ hi]) (lf_lt fun v hv => by
        unfold plL at hv
        obtain ⟨i, _, rfl⟩ := List.mem_map.1 hv
        exact IB.out i), BB.out⟩
end Go.Proofs.Ytofmleiblcafiaa
