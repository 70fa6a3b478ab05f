/- A new hasher: of no bytes; what lay in memory stays. -/
import Derived.Test.YtoopcmcmjaikhaaDoorSShaLaid
set_option maxRecDepth 100000
namespace Go.Proofs.YtoopcmcmjaikhaaDoor.S
open Go.RowKit Go.Lib
attribute [local go_sem ↓] Go.wp_at_zero Go.wp_at_succ

theorem SLaid.below {w w' : World} (h : SLaid w) (hb : Below w.heap.size w w') : SLaid w' := fun i hi => by
  have := h i hi
  rw [hb.cell (cell_lt this), this]
theorem KLaid.below {w w' : World} (h : KLaid w) (hb : Below w.heap.size w w') : KLaid w' := fun i hi => by
  have := h i hi
  rw [hb.cell (cell_lt this), this]
theorem SLaid.range {w : World} (h : SLaid w) : w.rangeAt 1 0 (arr 8 (rv H0)).toList := fun j v hj => by
  have hj8 : j < 8 := by
    have := (List.getElem?_eq_some_iff.1 hj).1
    rw [Array.length_toList, arr_size] at this
    exact this
  rw [Array.getElem?_toList, arr_get 8 _ j hj8] at hj
  obtain rfl := Option.some.inj hj
  rw [Nat.zero_add]
  exact h j hj8
theorem wpList_build_to {P : Program} {ops : Array Oper} {rest : List Oper} {o : Oper} {a : Act} {w : World} {Q : Exit → Act → World → Prop} (hg : o.guard = none) (t : TypeId) (parts : Array (Nat × Operand)) (ho : o.op = .build t parts)
    (ps : Array (Nat × Value)) (hp : parts.map (fun (i, x) => (i, a.eval x)) = ps) (cells : Array Value) (hc : P.built t ps.toList = some cells) (h : wpList P ops Q rest (a.put o.dst (.agg cells)) w) : wpList P ops Q (o :: rest) a w := by
  refine wpList_build hg t parts ho ?_ ?_
  · rw [hp, hc]; rfl
  · rw [hp, hc]; exact h
theorem new_built : Tryd.prog.built 176 (#[(0, .bool true), (1, .agg (arr 8 (rv H0)))] : Array (Nat × Value)).toList = some (arr 74 (hf H0 (fun _ => 0) 0)) := by kernel_rfl

set_option maxRecDepth 100000 in
set_option maxHeartbeats 2000000 in
theorem new_any (w : World) (hs : SLaid w) : Calls Tryd.prog 118 #[] w fun e w' => ∃ b, e = .returned (.pointer (some ⟨b, 0, none⟩)) ∧ w.heap.size ≤ b ∧ Hashed b (fun _ => 0) 0 w' ∧ Below w.heap.size w w' := by
  have hr := hs.range
  have HR := Lib.hid hr
  clear hr hs
  go_enter Tryd.func118, Tryd.ntmps118
  have hn := HasAt.new w (hf H0 (fun _ => 0) 0) 74 176
  have HN := Lib.hid hn
  clear hn
  go_upto_region 1 with fail
  refine wp_region_lit ?_
  refine wpList_load_mid rfl 133 (.global 1) rfl 1 0 rfl (arr 8 (rv H0)).toList _ HR.out Tryd.underlying133 rfl (by rw [Array.length_toList, arr_size]; kernel_rfl) ?_
  rw [Array.toArray_toList]
  refine wpList_build_to rfl 176 _ rfl #[(0, .bool true), (1, .agg (arr 8 (rv H0)))] (by first | kernel_rfl | (simp; rfl)) (arr 74 (hf H0 (fun _ => 0) 0)) new_built ?_
  go_wp2
  go_ret
  exact ⟨_, rfl, Nat.le_refl _, ⟨fun _ => 0, HN.out, fun _ h => absurd h (by omega), fun _ => ⟨Int.le_refl 0, (by decide : (0 : Int) ≤ 255)⟩⟩, below_new w _⟩

theorem cat_zero (x y : Nat → Int) : cat x 0 y = y := by
  funext i
  unfold cat
  rw [if_neg (by omega)]
  rfl
/-- A hasher's own bytes told otherwise. -/
theorem Lies.lt {w : World} {p : Option Addr} {g o n : Nat} {x : Nat → Int} (h : Lies w p g o n x) (h0 : 0 < n) : g < w.heap.size := cell_lt (h.2 0 h0)
theorem KLaid.lt {w : World} (h : KLaid w) : 2 < w.heap.size := cell_lt (h 0 (by omega))
theorem KLaid.only {b : Nat} {w w' : World} (h : KLaid w) (hb : b ≠ 2) (ho : Only b w w') : KLaid w' := fun i hi => by
  have h1 := h i hi
  rw [World.cell?_of_block (w := w) (ho.block 2 (cell_lt h1) (fun e => hb e.symm))]
  exact h1
/-- The tables of sha lie where they are laid. -/
def Both (w : World) : Prop := SLaid w ∧ KLaid w
theorem Both.below {w w' : World} (h : Both w) (hb : Below w.heap.size w w') : Both w' := ⟨h.1.below hb, h.2.below hb⟩

set_option maxRecDepth 100000 in
set_option maxHeartbeats 2000000 in
theorem sum_any (p : Option Addr) (g o n c : Nat) (x : Nat → Int) (hx : ∀ i, 0 ≤ x i ∧ x i ≤ 255) (hn : n ≤ 1152921504606846975) (hnc : n ≤ c) (hcm : c ≤ 9223372036854775807) (w : World) (hl : Lies w p g o n x) (hs : Both w) :
    Calls Tryd.prog 94 #[.slice p n c] w fun e w' => e = .returned (.agg (arr 32 (sha x n))) ∧ Below w.heap.size w w' := by
  have HX := Lib.hid hx
  have k1 := HasAt.new w zb 32 23
  have k2 := below_new w (.cells (arr 32 zb) 23)
  have k3 := new_any _ (hs.below k2).1
  have K1 := Lib.hid (And.intro k1 (And.intro k2 (And.intro (hl.below k2) (hs.below k2))))
  have K3 := Lib.hid k3
  have ks : (w.alloc (.cells (arr 32 zb) 23)).heap.size = w.heap.size + 1 := by simp
  have KS := Lib.hid ks
  clear hx k1 k2 k3 hl hs ks
  go_enter Tryd.func94, Tryd.ntmps94
  go_upto_region 2 with (go_at_call 118; refine K3.out.mono ?_; rintro e w1 ⟨b, rfl, hb1, hh1, hw1⟩; have H1 := Lib.hid (And.intro hb1 (And.intro hh1 hw1)); clear hb1 hh1 hw1)
  have ks := KS.out
  have kb : w.heap.size + 1 ≤ b := by have := H1.out.1; rw [KS.out] at this; exact this
  have kl1 : Lies w1 p g o n x := K1.out.2.2.1.below H1.out.2.2
  have kk1 : Both w1 := K1.out.2.2.2.below H1.out.2.2
  have kz1 : HasAt w.heap.size 23 32 zb w1 := K1.out.1.below H1.out.2.2
  have kw1 : Below w.heap.size w w1 := K1.out.2.1.trans (H1.out.2.2.mono (by omega))
  have kg : 0 < n → g < (w.alloc (.cells (arr 32 zb) 23)).heap.size := fun h0 => K1.out.2.2.1.lt h0
  have k2 : 2 < (w.alloc (.cells (arr 32 zb) 23)).heap.size := K1.out.2.2.2.2.lt
  have htk := take_any b (by omega) (fun _ => 0) (fun _ => ⟨Int.le_refl 0, (by decide : (0 : Int) ≤ 255)⟩) 0 x HX.out n p g o c hnc hcm (by omega) w1 kl1 (fun h => by have := kg h; omega) H1.out.2.1 kk1.2
  have HT := Lib.hid htk
  have G1 := Lib.hid (And.intro kk1 (And.intro kz1 kw1))
  have hb2 : b ≠ 2 := by omega
  clear ks kl1 kk1 kz1 kw1 kg k2 htk K3 K1 KS H1
  go_upto_region 3 with (go_at_call 119; refine HT.out.mono ?_; rintro e w2 ⟨rfl, hh2, ho2⟩; have H2 := Lib.hid (And.intro hh2 ho2); clear hh2 ho2)
  have ke := H2.out.1
  rw [cat_zero, Nat.zero_add] at ke
  have kw2 : Below w.heap.size w w2 := G1.out.2.2.trans (H2.out.2.below (by omega) G1.out.2.2.size)
  have kz2 : HasAt w.heap.size 23 32 zb w2 := G1.out.2.1.only H2.out.2 (by omega)
  have hend := end_any b x HX.out n hn w2 ke (G1.out.1.2.only hb2 H2.out.2)
  have HE := Lib.hid hend
  have G2 := Lib.hid (And.intro kz2 kw2)
  clear ke kw2 kz2 hend HT H2 G1
  go_wp2_with (first
    | (go_at_call 120; refine HE.out.mono ?_; rintro e w3 ⟨rfl, hb3⟩; have H3 : Hid (HasAt w.heap.size 23 32 zb w3 ∧ Below w.heap.size w w3) := Lib.hid ⟨G2.out.1.below hb3, G2.out.2.trans (hb3.mono G2.out.2.size)⟩; clear hb3)
    | (refine wpList_store_all rfl 23 (.tmp 2) (.tmp 9) rfl w.heap.size 32 rfl 23 zb (sha x n) H3.out.1 rfl (by kernel_rfl) (fun _ => rfl) ?_; intro w4 hh4 ho4))
  refine bodyPost_ret (v := .agg (arr 32 (sha x n))) (results_cell_row (fn := Tryd.f94) rfl _ _ w.heap.size 23 _ (0, 0) _ rfl hh4 Tryd.underlying23 rfl (by rw [arr_size]; kernel_rfl)) rfl ⟨rfl, ?_⟩
  exact H3.out.2.trans (ho4.below (Nat.le_refl _) H3.out.2.size)
end Go.Proofs.YtoopcmcmjaikhaaDoor.S

