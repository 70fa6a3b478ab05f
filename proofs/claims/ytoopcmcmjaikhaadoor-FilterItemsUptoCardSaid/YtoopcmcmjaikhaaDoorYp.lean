/- Bytes of the call's own that are written over: what stays. -/
import Derived.Test.YtoopcmcmjaikhaaDoorBc
set_option linter.unusedSimpArgs false
set_option linter.unusedVariables false
set_option maxRecDepth 100000
namespace Go.Proofs.YtoopcmcmjaikhaaDoor
open Go.RowKit Go.Lib Go.Sort

/-- Bytes in blocks from B on may have turned; all else is as it was, and rows of bytes are such rows still. -/
structure Spoilt (B : Nat) (w w' : World) : Prop where
  below : Below B w w'
  keep : KeepT 5 w w'
  own : ∀ p g n c x, Own B w p g n c x → ∃ x', Own B w' p g n c x'
section
variable {B : Nat} {w w1 w' : World}
theorem Spoilt.refl (B : Nat) (w : World) : Spoilt B w w := ⟨Below.refl _ _, KeepT.of_below 5 (Below.refl _ _), fun p g n c x h => ⟨x, h⟩⟩
theorem Spoilt.trans (h : Spoilt B w w1) (k : Spoilt B w1 w') : Spoilt B w w' :=
  ⟨h.below.trans k.below, ⟨fun q cc T hT hq => k.keep.keep q cc T hT (h.keep.keep q cc T hT hq), Nat.le_trans h.keep.size k.keep.size⟩, fun p g n c x N => by
    obtain ⟨x1, N1⟩ := h.own p g n c x N
    exact k.own p g n c x1 N1⟩
theorem Spoilt.of (hB : B ≤ w.heap.size) (h : Below w.heap.size w w') : Spoilt B w w' := ⟨h.mono hB, KeepT.of_below 5 h, fun p g n c x N => ⟨x, N.below h⟩⟩
theorem fbs_set (x : Nat → Nat) (n i y : Nat) : (fbs x n).set i (.int .u8 ((y : Nat) : Int)) = fbs (fun j => if j = i then y else x j) n := by
  apply List.ext_getElem?
  intro j
  rw [List.getElem?_set]
  rcases Nat.lt_or_ge j n with h | h
  · rw [fbs_at _ _ _ h, fbs_at _ _ _ h]
    by_cases e : i = j
    · subst e
      rw [if_pos rfl, if_pos (by rw [fbs_length]; exact h), if_pos rfl]
    · rw [if_neg e, if_neg (fun h => e h.symm)]
  · rw [List.getElem?_eq_none (by rw [fbs_length]; exact h), List.getElem?_eq_none (by rw [fbs_length]; exact h)]
    split <;> first | rfl | (split <;> first | rfl | (rw [fbs_length] at *; omega))
/-- A byte of a row of the call's own, written. -/
theorem Own.spoil {p : Option Addr} {g n c i y : Nat} {x : Nat → Nat} (N : Own B w p g n c x) (hi : i < n) (hy : y < 256) :
    Spoilt B w (w.setCell ⟨g, i, none⟩ (.int .u8 ((y : Nat) : Int))) ∧ ∃ cur, w.heap[g]? = some (.cells cur 5 (0, 0)) ∧ i < cur.size := by
  have hO : Only g w (w.setCell ⟨g, i, none⟩ (.int .u8 ((y : Nat) : Int))) := (Only.refl g w).setCell _ rfl _
  have N0 := N
  obtain ⟨h0, h1⟩ := N.own
  rcases h1 with ⟨h1, h2⟩ | ⟨g', cap, cur, h1, h2, h3, h4, h5, h6, h7⟩
  · omega
  · injection h1 with a1 a2 a3
    subst a3
    rcases N.spot with q | q
    · rw [q] at a1; cases a1
    · rw [q] at a1
      injection a1 with a1
      injection a1 with a1
      subst a1
      have hh : (w.setCell ⟨g, i, none⟩ (.int .u8 ((y : Nat) : Int))).heap[g]? = some (.cells (cur.setIfInBounds i (.int .u8 ((y : Nat) : Int))) 5 (0, 0)) := ((Holds.start h3).set rfl).here
      refine ⟨⟨hO.below h2 N.low, KeepT.of_only h3 hO, fun p2 g2 n2 c2 x2 M => ?_⟩, cur, h3, by omega⟩
      refine ⟨fun j => if g2 = g ∧ j = i then y else x2 j, ?_, M.spot, fun j => by split <;> first | exact hy | exact M.byte j, Nat.le_trans M.low hO.size⟩
      obtain ⟨k0, k1⟩ := M.own
      rcases k1 with ⟨k1, k2⟩ | ⟨g3, cap3, cur3, k1, k2, k3, k4, k5, k6, k7⟩
      · subst k2
        exact ⟨fbs_length _ _, .inl ⟨k1, rfl⟩⟩
      · injection k1 with b1 b2 b3
        have hg : g3 = g2 := by
          rcases M.spot with r | r
          · rw [r] at b1; cases b1
          · rw [r] at b1; injection b1 with b1; injection b1 with b1; exact b1.symm
        subst hg
        by_cases e : g3 = g
        · subst e
          rw [h3] at k3
          injection k3 with k3
          injection k3 with k3
          subst k3
          refine ⟨by rw [fbs_length, Nat.mul_one], .inr ⟨g3, cap3, cur.setIfInBounds i (.int .u8 ((y : Nat) : Int)), by rw [b1, b3], k2, hh, k4, k5, by simp [k6], ?_⟩⟩
          rw [Array.toList_setIfInBounds, List.take_set, k7, fbs_set]
          congr 1
          funext j
          simp
        · refine ⟨by rw [fbs_length, Nat.mul_one], .inr ⟨g3, cap3, cur3, by rw [b1, b3], k2, hO.heap e k3, k4, k5, k6, ?_⟩⟩
          rw [k7]
          exact fbs_congr fun j _ => by rw [if_neg fun h => e h.1]
end
/-- A list of things that there are one by one. -/
theorem pick {α : Type} {P : Nat → α → Prop} : ∀ n, (∀ i, i < n → ∃ a, P i a) → ∃ l : List α, l.length = n ∧ ∀ i (h : i < l.length), P i l[i]
  | 0, _ => ⟨[], rfl, fun i h => absurd h (by simp)⟩
  | n + 1, h => by
    obtain ⟨l, hl, hp⟩ := pick n fun i hi => h i (by omega)
    obtain ⟨a, ha⟩ := h n (by omega)
    refine ⟨l ++ [a], by rw [List.length_append, hl]; rfl, fun i hi => ?_⟩
    rw [List.length_append, List.length_singleton] at hi
    by_cases e : i = l.length
    · subst e
      rw [List.getElem_append_right (by omega)]
      simp only [Nat.sub_self, List.getElem_cons_zero]
      rw [hl]
      exact ha
    · rw [List.getElem_append_left (by omega)]
      exact hp i (by omega)
section
variable {B : Nat} {w w' : World}
theorem TextOwn.spoilt {v : Value} {t : List Nat} (h : TextOwn B w v t) (s : Spoilt B w w') : ∃ t', TextOwn B w' v t' := by
  obtain ⟨p, g, c, rfl, hl, N⟩ := h
  obtain ⟨x', N'⟩ := s.own _ _ _ _ _ N
  have e : (tl x' t.length).length = t.length := tl_length _ _
  refine ⟨tl x' t.length, p, g, c, by rw [e], by rw [e]; exact hl, ?_⟩
  rw [e]
  exact N'.to (fun i hi => (lf_tl _ hi).symm) (lf_lt (isB_tl N'.byte _))
theorem TextsOwn.spoilt {v : Value} {ts : List (List Nat)} (h : TextsOwn B w v ts) (s : Spoilt B w w') : ∃ ts', TextsOwn B w' v ts' := by
  obtain ⟨p, g, c, V, rfl, hl, N, I⟩ := h
  obtain ⟨l, hl2, hp⟩ := pick (P := fun i a => TextOwn B w' (V i) a) ts.length fun i hi => (I i hi).spoilt s
  exact ⟨l, p, g, c, V, by rw [hl2], by rw [hl2]; exact hl, by rw [hl2]; exact N.keep s.keep (by decide), hp⟩
theorem InOwn.spoilt {V : Nat → Value} {t : TIn} (h : InOwn B w V t) (s : Spoilt B w w') : ∃ t', InOwn B w' V t' := by
  obtain ⟨a, ha⟩ := h.sc.spoilt s
  obtain ⟨b, hb⟩ := h.wit.spoilt s
  exact ⟨⟨t.id, t.idx, a, t.sq, b⟩, h.len, h.idB, h.id, h.idx, h.idxB, ha, h.sq, h.sqB, hb⟩
theorem OutOwn.spoilt {V : Nat → Value} {t : TOut} (h : OutOwn B w V t) (s : Spoilt B w w') : ∃ t', OutOwn B w' V t' := by
  obtain ⟨a, ha⟩ := h.sc.spoilt s
  exact ⟨⟨t.val, a⟩, h.val, h.valB, ha⟩
theorem InsOwn.spoilt {v : Value} {ts : List TIn} (h : InsOwn B w v ts) (s : Spoilt B w w') : ∃ ts', InsOwn B w' v ts' := by
  obtain ⟨p, g, c, V, rfl, hl, N, I⟩ := h
  obtain ⟨l, hl2, hp⟩ := pick (P := fun i a => InOwn B w' (fun x => V (i * 36 + x)) a) ts.length fun i hi => (I i hi).spoilt s
  exact ⟨l, p, g, c, V, by rw [hl2], by rw [hl2]; exact hl, by rw [hl2]; exact N.keep s.keep (by decide), hp⟩
theorem OutsOwn.spoilt {v : Value} {ts : List TOut} (h : OutsOwn B w v ts) (s : Spoilt B w w') : ∃ ts', OutsOwn B w' v ts' := by
  obtain ⟨p, g, c, V, rfl, hl, N, I⟩ := h
  obtain ⟨l, hl2, hp⟩ := pick (P := fun i a => OutOwn B w' (fun x => V (i * 2 + x)) a) ts.length fun i hi => (I i hi).spoilt s
  exact ⟨l, p, g, c, V, by rw [hl2], by rw [hl2]; exact hl, by rw [hl2]; exact N.keep s.keep (by decide), hp⟩
theorem TxOwn.spoilt {V : Nat → Value} {t : TTx} (h : TxOwn B w V t) (s : Spoilt B w w') : ∃ t', TxOwn B w' V t' := by
  obtain ⟨a, ha⟩ := h.ins.spoilt s
  obtain ⟨b, hb⟩ := h.outs.spoilt s
  exact ⟨⟨t.ver, a, b, t.lock⟩, h.ver, h.verB, ha, hb, h.lock, h.lockB⟩
end
end Go.Proofs.YtoopcmcmjaikhaaDoor

