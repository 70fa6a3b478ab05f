/- What an argument of type api.Header is, in a law over plain data. -/
import Derived.Test.YtoopcmcmjaikhaaDoorHc
import Derived.Test.YtoopcmcmjaikhaaDoorZA
set_option linter.unusedSimpArgs false
set_option maxRecDepth 100000
namespace Go.Proofs.YtoopcmcmjaikhaaDoor
open Go.ChangeShapes Go.WideShapes Go.ChangeAt Go.RowKit Go.Lib

/-- The whole number in a cell. -/
def nAt (l : List Value) (i : Nat) : Nat := match l[i]? with
  | some (.int _ n) => n.toNat
  | _ => 0
theorem one_cell {l : List Value} {o : Nat} {v : Value} (h : (l.drop o).take 1 = [v]) : l[o]? = some v := by
  have : ((l.drop o).take 1)[0]? = some v := by rw [h]; rfl
  simpa using this
theorem range32 {a : Int} (h : (Lit.int .u32 a).wf = true) : 0 ≤ a ∧ a < 4294967296 := by
  simp [Lit.wf, IntKind.min, IntKind.max, IntKind.bits, IntKind.signed] at h
  omega
theorem range8 {a : Int} (h : (Lit.int .u8 a).wf = true) : 0 ≤ a ∧ a < 256 := by
  simp [Lit.wf, IntKind.min, IntKind.max, IntKind.bits, IntKind.signed] at h
  omega
section
variable {H : Type} {enc : TypeId × Value → H} {w : World} {base : Nat} {spare : Nat → Bool} {held : Bool}
theorem cell_u32 {m o : Nat} {l : List Value} {y : DataW H × List MemPlace} (h : DataW.trod enc Tryd.prog w base spare held m 26 ((l.drop o).take 1) = some y) : l[o]? = some (.int .u32 ((nAt l o : Nat) : Int)) ∧ nAt l o < 4294967296 := by
  obtain ⟨z, e, _, hw⟩ := DataW.trod_int Tryd.underlying26 h
  have e1 := one_cell e
  have hr := range32 hw
  have en : nAt l o = z.toNat := by unfold nAt; rw [e1]
  rw [en, Int.toNat_of_nonneg hr.1]
  exact ⟨e1, by omega⟩
theorem cells_hash {m o : Nat} {l : List Value} {y : DataW H × List MemPlace} (h : DataW.trod enc Tryd.prog w base spare held m 23 ((l.drop o).take 32) = some y) (i : Nat) (hi : i < 32) : l[o + i]? = some (.int .u8 ((nAt l (o + i) : Nat) : Int)) ∧ nAt l (o + i) < 256 := by
  obtain ⟨xs, m, rfl, hx, hlen, hn, hel⟩ := DataW.trod_array Tryd.underlying23 h
  have h2 := hel i hi
  rw [cellsB, List.getElem?_eq_getElem (by omega)] at h2
  obtain ⟨z, e, _, hw⟩ := DataW.trod_int Tryd.underlying5 h2
  have e0 := one_cell e
  rw [Nat.mul_one, List.getElem?_take, if_pos hi, List.getElem?_drop] at e0
  have hr := range8 hw
  have en : nAt l (o + i) = z.toNat := by unfold nAt; rw [e0]
  rw [en, Int.toNat_of_nonneg hr.1]
  exact ⟨e0, by omega⟩
theorem open_hdr {r : Reach} {b0 : Nat} {v : Value} {d : DataW H} {ps : List MemPlace} (hval : Value.okWide Tryd.prog w r b0 28 v) (hd : DataW.Trod enc Tryd.prog w base spare held 28 v d ps) : ∃ h : Hd, v = .agg (arr 68 (hc h)) ∧ h.Ok := by
  obtain ⟨cs, rfl, hsz⟩ := okWide_struct Tryd.underlying28 hval
  have hC : Tryd.prog.cellsOf 28 = 68 := by kernel_rfl
  rw [hC] at hsz
  obtain ⟨fuel, hf⟩ := hd
  obtain ⟨xs, n, _, _, _, hlen, hfs⟩ := DataW.trod_struct Tryd.underlying28 hf
  have c32 : Tryd.prog.cellsOf 26 = 1 := by kernel_rfl
  have cH : Tryd.prog.cellsOf 23 = 32 := by kernel_rfl
  have hlen6 : xs.length = 6 := hlen
  have k0 := hfs 0 _ rfl
  have k1 := hfs 1 _ rfl
  have k2 := hfs 2 _ rfl
  have k3 := hfs 3 _ rfl
  have k4 := hfs 4 _ rfl
  have k5 := hfs 5 _ rfl
  rw [List.getElem?_eq_getElem (by omega)] at k0 k1 k2 k3 k4 k5
  simp only [c32, cH, Value.cells] at k0 k1 k2 k3 k4 k5
  have a0 := cell_u32 (o := 0) k0
  have a1 := cells_hash (o := 1) k1
  have a2 := cells_hash (o := 33) k2
  have a3 := cell_u32 (o := 65) k3
  have a4 := cell_u32 (o := 66) k4
  have a5 := cell_u32 (o := 67) k5
  refine ⟨⟨nAt cs.toList 0, fun i => if i < 32 then nAt cs.toList (1 + i) else 0, fun i => if i < 32 then nAt cs.toList (33 + i) else 0, nAt cs.toList 65, nAt cs.toList 66, nAt cs.toList 67⟩, ?_, ⟨a0.2, a3.2, a4.2, a5.2, fun i => ?_, fun i => ?_⟩⟩
  · refine congrArg Value.agg (arr_of hsz fun i hi => ?_)
    rw [← Array.getElem?_toList]
    unfold hc
    by_cases q0 : i = 0
    · subst q0; exact a0.1
    · rw [if_neg q0]
      by_cases q1 : i ≤ 32
      · rw [if_pos q1]
        have := (a1 (i - 1) (by omega)).1
        rw [show 1 + (i - 1) = i by omega] at this
        simp only [if_pos (show i - 1 < 32 by omega), show 1 + (i - 1) = i by omega]
        exact this
      · rw [if_neg q1]
        by_cases q2 : i ≤ 64
        · rw [if_pos q2]
          have := (a2 (i - 33) (by omega)).1
          rw [show 33 + (i - 33) = i by omega] at this
          simp only [if_pos (show i - 33 < 32 by omega), show 33 + (i - 33) = i by omega]
          exact this
        · rw [if_neg q2]
          by_cases q3 : i = 65
          · subst q3; exact a3.1
          · rw [if_neg q3]
            by_cases q4 : i = 66
            · subst q4; exact a4.1
            · rw [if_neg q4]
              obtain rfl : i = 67 := by omega
              exact a5.1
  · show (if i < 32 then _ else _) < 256
    split
    · exact (a1 i ‹_›).2
    · omega
  · show (if i < 32 then _ else _) < 256
    split
    · exact (a2 i ‹_›).2
    · omega
end
end Go.Proofs.YtoopcmcmjaikhaaDoor

