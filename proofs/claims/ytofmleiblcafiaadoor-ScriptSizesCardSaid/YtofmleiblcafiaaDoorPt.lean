/- The table of script patterns as the rows list it, and how a script of a kind is written. -/
import Derived.Test.YtofmleiblcafiaaDoorSLaid
import Derived.Test.YtofmleiblcafiaaDoorCo
import Derived.Test.YtofmleiblcafiaaDoorBs
import Derived.Test.YtofmleiblcafiaaDoorOp
import Derived.Lib.SmallJoins
set_option linter.unusedSimpArgs false
set_option linter.unusedVariables false
set_option maxRecDepth 100000
namespace Go.Proofs.YtofmleiblcafiaaDoor
open Go.ChangeShapes Go.WideShapes Go.ChangeAt Go.RowKit Go.Lib

/-- What stands ahead of a kind's bytes, what behind, and how many there are (-1: any). -/
def hB : Nat → ByteArray
  | 0 => ⟨#[118, 169, 20]⟩ | 1 => ⟨#[169, 20]⟩ | 2 => ⟨#[0, 20]⟩ | 3 => ⟨#[0, 32]⟩ | 4 => ⟨#[81, 32]⟩ | _ => ⟨#[106]⟩
def tB : Nat → ByteArray
  | 0 => ⟨#[136, 172]⟩ | 1 => ⟨#[135]⟩ | _ => ⟨#[]⟩
def cN : Nat → Int
  | 0 => 20 | 1 => 20 | 2 => 20 | 3 => 32 | 4 => 32 | _ => -1
def hL : Nat → List Nat
  | 0 => [118, 169, 20] | 1 => [169, 20] | 2 => [0, 20] | 3 => [0, 32] | 4 => [81, 32] | _ => [106]
def tL : Nat → List Nat
  | 0 => [136, 172] | 1 => [135] | _ => []
/-- Whether a pattern has room for n bytes. -/
def okI (c n : Int) : Bool := if c = -1 then decide (0 ≤ n) else decide (n = c)
def okc (j n : Nat) : Bool := okI (cN j) (n : Int)
/-- The cells of a pattern, and of all. -/
def pcell (j : Nat) : Nat → Value
  | 0 => .int .i64 ((j + 1 : Nat) : Int) | 1 => .string (hB j) | 2 => .int .i64 (cN j) | _ => .string (tB j)
def pv (i : Nat) : Value := pcell (i / 4) (i % 4)
/-- The patterns lie where they are laid. -/
def PLaid (w : World) : Prop := ∀ i, i < 24 → w.cell? ⟨0, i, none⟩ = some (pv i)
theorem PLaid.below {w w' : World} (h : PLaid w) (hb : Below w.heap.size w w') : PLaid w' := fun i hi => by
  rw [hb.cell (cell_lt (h i hi))]; exact h i hi
def patLaid : List (String × DataW Unit) := [("sporran/script.patterns", Rows.laid_sporran_script_patterns)]
theorem gPat : Tryd.prog.globalNamed "sporran/script.patterns" = some 0 := by kernel_rfl
theorem tPat : (Tryd.prog.globals[0]?).map (·.type) = some 45 := by kernel_rfl
theorem at_of_take {cs : List Value} {v : Value} {k o m : Nat} (hm : m = 1) (ho : o < 4) (h : (List.drop o (List.take 4 (List.drop k cs))).take m = [v]) : cs[k + o]? = some v := by
  subst hm
  have h1 : ((List.drop o (List.take 4 (List.drop k cs))).take 1)[0]? = some v := by rw [h]; rfl
  rw [List.getElem?_take_of_lt (by omega), List.getElem?_drop, List.getElem?_take_of_lt (by omega), List.getElem?_drop] at h1
  exact h1
/-- What the rows list of the pattern j. -/
def pdat {H : Type} (j : Nat) : DataW H := .agg [.lit (.int .i64 ((j + 1 : Nat) : Int)), .lit (.string (hB j).data.toList), .lit (.int .i64 (cN j)), .lit (.string (tB j).data.toList)]
theorem pdat_all {H : Type} : (Rows.laid_sporran_script_patterns : DataW H) = .agg ((List.range 6).map pdat) := rfl
theorem patsOf {H : Type} {enc : TypeId × Value → H} {w : World} {base : Nat} {spare : Nat → Bool} {held : Bool} {fuel : Nat} {cs : List Value} {p : List MemPlace}
    (h : DataW.trod enc Tryd.prog w base spare held fuel 45 cs = some (Rows.laid_sporran_script_patterns, p)) : ∀ i, i < 24 → cs[i]? = some (pv i) := by
  obtain ⟨xs, m, rfl, hx, hlen, hn, hel⟩ := DataW.trod_array Tryd.underlying45 h
  have hx1 := congrArg Prod.fst hx
  rw [pdat_all] at hx1
  have hx2 : (List.range 6).map pdat = xs.map (·.1) := by simpa using hx1
  have hc : Tryd.prog.cellsOf 44 = 4 := by kernel_rfl
  have c3 : Tryd.prog.cellsOf 3 = 1 := by kernel_rfl
  have c9 : Tryd.prog.cellsOf 9 = 1 := by kernel_rfl
  rw [hc] at hel
  intro i hi
  obtain ⟨j, hje⟩ : ∃ j, j = i / 4 := ⟨_, rfl⟩
  obtain ⟨f, hfe⟩ : ∃ f, f = i % 4 := ⟨_, rfl⟩
  have hi2 : i = j * 4 + f := by omega
  have hf4 : f < 4 := by omega
  have hj : j < 6 := by omega
  have h2 := hel j hj
  obtain ⟨y, hy⟩ : ∃ y, xs[j]? = some y := ⟨xs[j], List.getElem?_eq_getElem (by omega)⟩
  rw [hy] at h2
  have hd : y.1 = pdat j := by
    have h3 : ((List.range 6).map (pdat (H := H)))[j]? = (xs.map (·.1))[j]? := by rw [hx2]
    rw [List.getElem?_map, List.getElem?_map, hy, List.getElem?_range hj] at h3
    simpa using h3.symm
  obtain ⟨y0, y1, y2, y3, n, hyy, hl, t0, t1, t2, t3⟩ := Joins.trod_struct4 Tryd.underlying44 h2
  obtain ⟨n0, e0, x0, _⟩ := DataW.trod_int Tryd.underlying3 t0
  obtain ⟨s1, e1, x1, _⟩ := DataW.trod_string Tryd.underlying9 t1
  obtain ⟨n2, e2, x2, _⟩ := DataW.trod_int Tryd.underlying3 t2
  obtain ⟨s3, e3, x3, _⟩ := DataW.trod_string Tryd.underlying9 t3
  rw [hyy, x0, x1, x2, x3] at hd
  unfold pdat at hd
  simp only [DataW.agg.injEq, List.cons.injEq, DataW.lit.injEq, Lit.int.injEq, Lit.string.injEq, true_and, and_true] at hd
  obtain ⟨d0, d1, d2, d3⟩ := hd
  have q1 : s1 = hB j := by cases s1; rename_i d; congr 1; exact Array.toList_inj.1 d1
  have q3 : s3 = tB j := by cases s3; rename_i d; congr 1; exact Array.toList_inj.1 d3
  subst d0 q1 d2 q3
  have r0 := at_of_take (k := j * 4) (o := 0) c3 (by omega) e0
  have r1 := at_of_take (k := j * 4) (o := 1) c9 (by omega) e1
  have r2 := at_of_take (k := j * 4) (o := 2) c3 (by omega) e2
  have r3 := at_of_take (k := j * 4) (o := 3) c9 (by omega) e3
  have hpv : pv i = pcell j f := by unfold pv; rw [← hje, ← hfe]
  rw [hpv, hi2]
  match f, hf4 with
  | 0, _ => exact r0
  | 1, _ => exact r1
  | 2, _ => exact r2
  | 3, _ => exact r3
theorem of_pat {W : World} (h : laidMetH Tryd.prog patLaid W) : PLaid W := by
  rw [MakeChecks.laidMetH_plain _ _ _ (by kernel_rfl)] at h
  obtain ⟨ps, ⟨g0, t0, cs0, f0, p0, q0, hg0, ht0, hv0, hd0, _, _⟩, _, _⟩ := h
  obtain rfl := Option.some.inj (gPat.symm.trans hg0)
  obtain rfl := Option.some.inj (tPat.symm.trans ht0)
  intro i hi
  rw [World.var?_cell hg0 hv0 i]
  have := patsOf hd0 i hi
  simpa using this
theorem pat_door_met (os : Os) (args : Array Value) : laidMetH Tryd.prog patLaid ((World.doorLaid Tryd.prog 400 os).forCall (fun _ _ => 0) ⟨#[], args, []⟩).memory :=
  laidMetH_of_parts3 (fuel := 8) (laidMet_of_run' 8 (by kernel_rfl) (by kernel_rfl)) (by kernel_rfl) (by kernel_rfl)
/-- All patterns, loaded. -/
theorem PLaid.load {w : World} (h : PLaid w) : (Instr.loadAt 45 (.pointer (some ⟨0, 0, none⟩))).run Tryd.prog w = .ok (.agg (arr 24 pv)) w := by
  have hr : w.rangeAt 0 0 (vs pv 24) := fun j v hj => by
    obtain ⟨h1, rfl⟩ := vs_get _ _ _ _ hj
    rw [Nat.zero_add]
    exact h j h1
  have := run_loadAt_mid (P := Tryd.prog) w 0 0 45 (vs pv 24) _ hr Tryd.underlying45 rfl (by rw [vs_length]; kernel_rfl)
  rwa [vs_arr] at this
/-- One of them. -/
theorem pat_index (j : Nat) (hj : j < 6) (w : World) : (Instr.index 45 (.agg (arr 24 pv)) (.int .i64 (j : Int))).run Tryd.prog w = .ok (.agg #[.int .i64 ((j + 1 : Nat) : Int), .string (hB j), .int .i64 (cN j), .string (tB j)]) w := by
  match j, hj with
  | 0, _ => (show _ = _; kernel_rfl)
  | 1, _ => (show _ = _; kernel_rfl)
  | 2, _ => (show _ = _; kernel_rfl)
  | 3, _ => (show _ = _; kernel_rfl)
  | 4, _ => (show _ = _; kernel_rfl)
  | 5, _ => (show _ = _; kernel_rfl)
theorem has_any (k : Int) (h t : ByteArray) (c n : Int) (w : World) : Calls Tryd.prog 25 #[.agg #[.int .i64 k, .string h, .int .i64 c, .string t], .int .i64 n] w fun e w' => e = .returned (.bool (okI c n)) ∧ Below w.heap.size w w' := by
  by_cases hc : c = -1
  · subst hc
    go_enter Tryd.func25, Tryd.ntmps25
    go_wp2
    go_ret
    exact ⟨rfl, below_new _ _⟩
  · have O := Lib.hid (show okI c n = decide (n = c) by unfold okI; rw [if_neg hc])
    have hc2 : (c == -1) = false := by simpa using hc
    clear hc
    go_enter Tryd.func25, Tryd.ntmps25
    go_wp2
    go_ret
    exact ⟨by rw [O.out]; rfl, below_new _ _⟩
end Go.Proofs.YtofmleiblcafiaaDoor
