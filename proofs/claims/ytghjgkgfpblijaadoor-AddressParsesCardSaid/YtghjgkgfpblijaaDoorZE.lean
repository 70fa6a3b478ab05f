/- Texts of ours, merged: Pt, Pc, Pd, Pm. -/
import Derived.Test.YtghjgkgfpblijaaDoorSA
import Derived.Test.YtghjgkgfpblijaaDoorCo
import Derived.Test.YtghjgkgfpblijaaDoorZA
import Derived.Lib.SmallJoins
import Derived.Test.YtghjgkgfpblijaaDoorZB
import Derived.WalkMore
import Derived.BigQuiet
import Derived.Deep.QuietTactic
import Derived.Deep.LoopGhost
section
set_option linter.unusedSimpArgs false
set_option linter.unusedVariables false
set_option maxRecDepth 100000
namespace Go.Proofs.YtghjgkgfpblijaaDoor
open Go.ChangeShapes Go.WideShapes Go.ChangeAt Go.RowKit Go.Lib

/-- What stands ahead of a kind's bytes, what behind, and how many there are (-1: any). -/
def hB : Nat → ByteArray
  | 0 => ⟨#[118, 169, 20]⟩ | 1 => ⟨#[169, 20]⟩ | 2 => ⟨#[0, 20]⟩ | 3 => ⟨#[0, 32]⟩ | 4 => ⟨#[81, 32]⟩ | _ => ⟨#[106]⟩
def tB : Nat → ByteArray
  | 0 => ⟨#[136, 172]⟩ | 1 => ⟨#[135]⟩ | _ => ⟨#[]⟩
def cN : Nat → Int
  | 0 => 20 | 1 => 20 | 2 => 20 | 3 => 32 | 4 => 32 | _ => -1
def hL : Nat → List Nat
  | 0 => [118, 169, 20] | 1 => [169, 20] | 2 => [0, 20] | 3 => [0, 32] | 4 => [81, 32] | _ => [106]
def tL : Nat → List Nat
  | 0 => [136, 172] | 1 => [135] | _ => []
/-- Whether a pattern has room for n bytes. -/
def okI (c n : Int) : Bool := if c = -1 then decide (0 ≤ n) else decide (n = c)
def okc (j n : Nat) : Bool := okI (cN j) (n : Int)
/-- The cells of a pattern, and of all. -/
def pcell (j : Nat) : Nat → Value
  | 0 => .int .i64 ((j + 1 : Nat) : Int) | 1 => .string (hB j) | 2 => .int .i64 (cN j) | _ => .string (tB j)
def pv (i : Nat) : Value := pcell (i / 4) (i % 4)
/-- The patterns lie where they are laid. -/
def PLaid (w : World) : Prop := ∀ i, i < 24 → w.cell? ⟨0, i, none⟩ = some (pv i)
theorem PLaid.below {w w' : World} (h : PLaid w) (hb : Below w.heap.size w w') : PLaid w' := fun i hi => by
  rw [hb.cell (cell_lt (h i hi))]; exact h i hi
def patLaid : List (String × DataW Unit) := [("sporran/script.patterns", Rows.laid_sporran_script_patterns)]
theorem gPat : Tryd.prog.globalNamed "sporran/script.patterns" = some 0 := by kernel_rfl
theorem tPat : (Tryd.prog.globals[0]?).map (·.type) = some 52 := by kernel_rfl
theorem at_of_take {cs : List Value} {v : Value} {k o m : Nat} (hm : m = 1) (ho : o < 4) (h : (List.drop o (List.take 4 (List.drop k cs))).take m = [v]) : cs[k + o]? = some v := by
  subst hm
  have h1 : ((List.drop o (List.take 4 (List.drop k cs))).take 1)[0]? = some v := by rw [h]; rfl
  rw [List.getElem?_take_of_lt (by omega), List.getElem?_drop, List.getElem?_take_of_lt (by omega), List.getElem?_drop] at h1
  exact h1
/-- What the rows list of the pattern j. -/
def pdat {H : Type} (j : Nat) : DataW H := .agg [.lit (.int .i64 ((j + 1 : Nat) : Int)), .lit (.string (hB j).data.toList), .lit (.int .i64 (cN j)), .lit (.string (tB j).data.toList)]
theorem pdat_all {H : Type} : (Rows.laid_sporran_script_patterns : DataW H) = .agg ((List.range 6).map pdat) := rfl
theorem patsOf {H : Type} {enc : TypeId × Value → H} {w : World} {base : Nat} {spare : Nat → Bool} {held : Bool} {fuel : Nat} {cs : List Value} {p : List MemPlace}
    (h : DataW.trod enc Tryd.prog w base spare held fuel 52 cs = some (Rows.laid_sporran_script_patterns, p)) : ∀ i, i < 24 → cs[i]? = some (pv i) := by
  obtain ⟨xs, m, rfl, hx, hlen, hn, hel⟩ := DataW.trod_array Tryd.underlying52 h
  have hx1 := congrArg Prod.fst hx
  rw [pdat_all] at hx1
  have hx2 : (List.range 6).map pdat = xs.map (·.1) := by simpa using hx1
  have hc : Tryd.prog.cellsOf 51 = 4 := by kernel_rfl
  have c3 : Tryd.prog.cellsOf 3 = 1 := by kernel_rfl
  have c9 : Tryd.prog.cellsOf 9 = 1 := by kernel_rfl
  rw [hc] at hel
  intro i hi
  obtain ⟨j, hje⟩ : ∃ j, j = i / 4 := ⟨_, rfl⟩
  obtain ⟨f, hfe⟩ : ∃ f, f = i % 4 := ⟨_, rfl⟩
  have hi2 : i = j * 4 + f := by omega
  have hf4 : f < 4 := by omega
  have hj : j < 6 := by omega
  have h2 := hel j hj
  obtain ⟨y, hy⟩ : ∃ y, xs[j]? = some y := ⟨xs[j], List.getElem?_eq_getElem (by omega)⟩
  rw [hy] at h2
  have hd : y.1 = pdat j := by
    have h3 : ((List.range 6).map (pdat (H := H)))[j]? = (xs.map (·.1))[j]? := by rw [hx2]
    rw [List.getElem?_map, List.getElem?_map, hy, List.getElem?_range hj] at h3
    simpa using h3.symm
  obtain ⟨y0, y1, y2, y3, n, hyy, hl, t0, t1, t2, t3⟩ := Joins.trod_struct4 Tryd.underlying51 h2
  obtain ⟨n0, e0, x0, _⟩ := DataW.trod_int Tryd.underlying3 t0
  obtain ⟨s1, e1, x1, _⟩ := DataW.trod_string Tryd.underlying9 t1
  obtain ⟨n2, e2, x2, _⟩ := DataW.trod_int Tryd.underlying3 t2
  obtain ⟨s3, e3, x3, _⟩ := DataW.trod_string Tryd.underlying9 t3
  rw [hyy, x0, x1, x2, x3] at hd
  unfold pdat at hd
  simp only [DataW.agg.injEq, List.cons.injEq, DataW.lit.injEq, Lit.int.injEq, Lit.string.injEq, true_and, and_true] at hd
  obtain ⟨d0, d1, d2, d3⟩ := hd
  have q1 : s1 = hB j := by cases s1; rename_i d; congr 1; exact Array.toList_inj.1 d1
  have q3 : s3 = tB j := by cases s3; rename_i d; congr 1; exact Array.toList_inj.1 d3
  subst d0 q1 d2 q3
  have r0 := at_of_take (k := j * 4) (o := 0) c3 (by omega) e0
  have r1 := at_of_take (k := j * 4) (o := 1) c9 (by omega) e1
  have r2 := at_of_take (k := j * 4) (o := 2) c3 (by omega) e2
  have r3 := at_of_take (k := j * 4) (o := 3) c9 (by omega) e3
  have hpv : pv i = pcell j f := by unfold pv; rw [← hje, ← hfe]
  rw [hpv, hi2]
  match f, hf4 with
  | 0, _ => exact r0
  | 1, _ => exact r1
  | 2, _ => exact r2
  | 3, _ => exact r3
theorem of_pat {W : World} (h : laidMetH Tryd.prog patLaid W) : PLaid W := by
  rw [MakeChecks.laidMetH_plain _ _ _ (by kernel_rfl)] at h
  obtain ⟨ps, ⟨g0, t0, cs0, f0, p0, q0, hg0, ht0, hv0, hd0, _, _⟩, _, _⟩ := h
  obtain rfl := Option.some.inj (gPat.symm.trans hg0)
  obtain rfl := Option.some.inj (tPat.symm.trans ht0)
  intro i hi
  rw [World.var?_cell hg0 hv0 i]
  have := patsOf hd0 i hi
  simpa using this
theorem pat_door_met (os : Os) (args : Array Value) : laidMetH Tryd.prog patLaid ((World.doorLaid Tryd.prog 400 os).forCall (fun _ _ => 0) ⟨#[], args, []⟩).memory :=
  laidMetH_of_parts3 (fuel := 8) (laidMet_of_run' 8 (by kernel_rfl) (by kernel_rfl)) (by kernel_rfl) (by kernel_rfl)
/-- All patterns, loaded. -/
theorem PLaid.load {w : World} (h : PLaid w) : (Instr.loadAt 52 (.pointer (some ⟨0, 0, none⟩))).run Tryd.prog w = .ok (.agg (arr 24 pv)) w := by
  have hr : w.rangeAt 0 0 (vs pv 24) := fun j v hj => by
    obtain ⟨h1, rfl⟩ := vs_get _ _ _ _ hj
    rw [Nat.zero_add]
    exact h j h1
  have := run_loadAt_mid (P := Tryd.prog) w 0 0 52 (vs pv 24) _ hr Tryd.underlying52 rfl (by rw [vs_length]; kernel_rfl)
  rwa [vs_arr] at this
/-- One of them. -/
theorem pat_index (j : Nat) (hj : j < 6) (w : World) : (Instr.index 52 (.agg (arr 24 pv)) (.int .i64 (j : Int))).run Tryd.prog w = .ok (.agg #[.int .i64 ((j + 1 : Nat) : Int), .string (hB j), .int .i64 (cN j), .string (tB j)]) w := by
  match j, hj with
  | 0, _ => (show _ = _; kernel_rfl)
  | 1, _ => (show _ = _; kernel_rfl)
  | 2, _ => (show _ = _; kernel_rfl)
  | 3, _ => (show _ = _; kernel_rfl)
  | 4, _ => (show _ = _; kernel_rfl)
  | 5, _ => (show _ = _; kernel_rfl)
theorem has_any (k : Int) (h t : ByteArray) (c n : Int) (w : World) : Calls Tryd.prog 33 #[.agg #[.int .i64 k, .string h, .int .i64 c, .string t], .int .i64 n] w fun e w' => e = .returned (.bool (okI c n)) ∧ Below w.heap.size w w' := by
  by_cases hc : c = -1
  · subst hc
    go_enter Tryd.func33, Tryd.ntmps33
    go_wp2
    go_ret
    exact ⟨rfl, below_new _ _⟩
  · have O := Lib.hid (show okI c n = decide (n = c) by unfold okI; rw [if_neg hc])
    have hc2 : (c == -1) = false := by simpa using hc
    clear hc
    go_enter Tryd.func33, Tryd.ntmps33
    go_wp2
    go_ret
    exact ⟨by rw [O.out]; rfl, below_new _ _⟩
end Go.Proofs.YtghjgkgfpblijaaDoor
end
section
set_option linter.unusedSimpArgs false
set_option linter.unusedVariables false
set_option maxRecDepth 100000
namespace Go.Proofs.YtghjgkgfpblijaaDoor
open Go.ChangeShapes Go.WideShapes Go.ChangeAt Go.RowKit Go.Lib

theorem hB_bytes (j : Nat) : bytL (hB j) = hL j := by
  match j with
  | 0 => decide | 1 => decide | 2 => decide | 3 => decide | 4 => decide | _ + 5 => show bytL ⟨#[106]⟩ = [106]; decide
theorem tB_bytes (j : Nat) : bytL (tB j) = tL j := by
  match j with
  | 0 => decide | 1 => decide | _ + 2 => show bytL ⟨#[]⟩ = []; decide
theorem hB_size (j : Nat) : 1 ≤ (hB j).size ∧ (hB j).size ≤ 3 := by
  match j with
  | 0 => decide | 1 => decide | 2 => decide | 3 => decide | 4 => decide | _ + 5 => show 1 ≤ (ByteArray.mk #[106]).size ∧ (ByteArray.mk #[106]).size ≤ 3; decide
theorem tB_size (j : Nat) : (tB j).size ≤ 3 := by
  match j with
  | 0 => decide | 1 => decide | _ + 2 => show (ByteArray.mk #[]).size ≤ 3; decide
theorem cN_val (j : Nat) : cN j = -1 ∨ cN j = 20 ∨ cN j = 32 := by
  match j with
  | 0 => decide | 1 => decide | 2 => decide | 3 => decide | 4 => decide | _ + 5 => exact .inl rfl
/-- A script is of the pattern j, with the bytes b. -/
def OfPat (j : Nat) (xs b : List Nat) : Prop := xs = hL j ++ b ++ tL j ∧ okc j b.length = true
/-- A script's kind, and the bytes in it. -/
def Cls (xs : List Nat) (k : Nat) (b : List Nat) : Prop := (∃ j, j < 6 ∧ k = j + 1 ∧ OfPat j xs b) ∨ (k = 0 ∧ b = [] ∧ ∀ j, j < 6 → ∀ b', ¬ OfPat j xs b')
theorem ofpat_kind {i j : Nat} (hi : i < 6) (hj : j < 6) {xs a b : List Nat} (h : OfPat i xs a) (k : OfPat j xs b) : i = j := by
  have h0 := h.1
  rw [k.1] at h0
  match i, hi, j, hj with
  | 0, _, 0, _ => rfl
  | 1, _, 1, _ => rfl
  | 2, _, 2, _ => rfl
  | 3, _, 3, _ => rfl
  | 4, _, 4, _ => rfl
  | 5, _, 5, _ => rfl
  | 0, _, 1, _ => simp [hL] at h0
  | 0, _, 2, _ => simp [hL] at h0
  | 0, _, 3, _ => simp [hL] at h0
  | 0, _, 4, _ => simp [hL] at h0
  | 0, _, 5, _ => simp [hL] at h0
  | 1, _, 0, _ => simp [hL] at h0
  | 1, _, 2, _ => simp [hL] at h0
  | 1, _, 3, _ => simp [hL] at h0
  | 1, _, 4, _ => simp [hL] at h0
  | 1, _, 5, _ => simp [hL] at h0
  | 2, _, 0, _ => simp [hL] at h0
  | 2, _, 1, _ => simp [hL] at h0
  | 2, _, 3, _ => simp [hL] at h0
  | 2, _, 4, _ => simp [hL] at h0
  | 2, _, 5, _ => simp [hL] at h0
  | 3, _, 0, _ => simp [hL] at h0
  | 3, _, 1, _ => simp [hL] at h0
  | 3, _, 2, _ => simp [hL] at h0
  | 3, _, 4, _ => simp [hL] at h0
  | 3, _, 5, _ => simp [hL] at h0
  | 4, _, 0, _ => simp [hL] at h0
  | 4, _, 1, _ => simp [hL] at h0
  | 4, _, 2, _ => simp [hL] at h0
  | 4, _, 3, _ => simp [hL] at h0
  | 4, _, 5, _ => simp [hL] at h0
  | 5, _, 0, _ => simp [hL] at h0
  | 5, _, 1, _ => simp [hL] at h0
  | 5, _, 2, _ => simp [hL] at h0
  | 5, _, 3, _ => simp [hL] at h0
  | 5, _, 4, _ => simp [hL] at h0
theorem ofpat_bytes {j : Nat} {xs a b : List Nat} (h : OfPat j xs a) (k : OfPat j xs b) : a = b := by
  have h0 := h.1
  rw [k.1] at h0
  exact (List.append_cancel_left (List.append_cancel_right h0)).symm
theorem Cls.same {xs a b : List Nat} {i j : Nat} (h : Cls xs i a) (k : Cls xs j b) : i = j ∧ a = b := by
  rcases h with ⟨p, hp, rfl, h⟩ | ⟨rfl, rfl, h⟩ <;> rcases k with ⟨q, hq, rfl, k⟩ | ⟨rfl, rfl, k⟩
  · obtain rfl := ofpat_kind hp hq h k
    exact ⟨rfl, ofpat_bytes h k⟩
  · exact absurd h (k p hp a)
  · exact absurd k (h q hq b)
  · exact ⟨rfl, rfl⟩
/-- What a call leaves that tells a script's kind. -/
def ClsEnd (w : World) (xs : List Nat) (e : Ending) (w' : World) : Prop := ∃ (k : Nat) (b : List Nat) (p : Option Addr) (g c : Nat), e = .returned (.tuple #[.int .i64 (k : Int), .slice p b.length c]) ∧ Cls xs k b ∧ Own w.heap.size w' p g b.length c (lf b) ∧ Below w.heap.size w w'
theorem okI_pos {c n : Int} (h : okI c n = true) (hc : c = -1 ∨ c = 20 ∨ c = 32) : 0 ≤ n := by
  unfold okI at h
  split at h
  · simpa using h
  · have h : n = c := by simpa using h
    omega
/-- Bytes that begin and end as a pattern asks. -/
theorem ofpat_of {x : Nat → Nat} {n j m : Nat} (hn : n = (hB j).size + m + (tB j).size) (h1 : ∀ q, q < (hB j).size → x q = byt (hB j) q) (h2 : ∀ q, q < (tB j).size → x ((hB j).size + m + q) = byt (tB j) q) (h3 : okI (cN j) (m : Int) = true) :
    OfPat j (tl x n) (tl (fun i => x ((hB j).size + i)) m) := by
  refine ⟨?_, by unfold okc; rw [tl_length]; exact h3⟩
  rw [← hB_bytes, ← tB_bytes]
  apply List.ext_getElem?
  intro i
  have key : ∀ (f : Nat → Nat) (k i : Nat), (tl f k)[i]? = if i < k then some (f i) else none := fun f k i => by
    unfold tl
    rw [List.getElem?_map]
    split
    · rw [List.getElem?_range (by assumption)]; rfl
    · rw [List.getElem?_eq_none (by simp; omega)]; rfl
  unfold bytL
  rw [List.append_assoc, key]
  by_cases a : i < (hB j).size
  · rw [List.getElem?_append_left (by rw [tl_length]; exact a), key, if_pos a, if_pos (by omega), h1 i a]
  · rw [List.getElem?_append_right (by rw [tl_length]; omega), tl_length]
    by_cases b : i - (hB j).size < m
    · rw [List.getElem?_append_left (by rw [tl_length]; exact b), key, if_pos b, if_pos (by omega), show (hB j).size + (i - (hB j).size) = i by omega]
    · rw [List.getElem?_append_right (by rw [tl_length]; omega), tl_length, key]
      by_cases c : i - (hB j).size - m < (tB j).size
      · rw [if_pos c, if_pos (by omega), ← h2 _ c, show (hB j).size + m + (i - (hB j).size - m) = i by omega]
      · rw [if_neg c, if_neg (by omega)]
/-- What a script of a pattern has at its places. -/
theorem ofpat_at {x : Nat → Nat} {n j : Nat} {b : List Nat} (h : OfPat j (tl x n) b) : n = (hB j).size + b.length + (tB j).size ∧ (∀ q, q < (hB j).size → x q = byt (hB j) q) ∧ (∀ q, q < (tB j).size → x ((hB j).size + b.length + q) = byt (tB j) q) ∧ okI (cN j) (b.length : Int) = true := by
  obtain ⟨h1, h2⟩ := h
  rw [← hB_bytes, ← tB_bytes] at h1
  have hl : n = (hB j).size + b.length + (tB j).size := by
    have := congrArg List.length h1
    rw [Nat.add_assoc]; simpa [tl_length, bytL_length] using this
  have at_ : ∀ i, i < n → lf (bytL (hB j) ++ b ++ bytL (tB j)) i = x i := fun i hi => by rw [← h1, lf_tl x hi]
  refine ⟨hl, fun q hq => ?_, fun q hq => ?_, h2⟩
  · rw [← at_ q (by omega), List.append_assoc, ← lf_cat]
    unfold cat
    rw [if_pos (by rw [bytL_length]; exact hq)]
    exact lf_tl _ hq
  · rw [← at_ _ (by omega), ← lf_cat]
    unfold cat
    rw [List.length_append, bytL_length, if_neg (by omega), Nat.add_sub_cancel_left]
    exact lf_tl _ hq
theorem cls_other {x : Nat → Nat} {n : Nat} (h : ∀ j, j < 6 → ∀ b, ¬ OfPat j (tl x n) b) : Cls (tl x n) 0 [] := .inr ⟨rfl, rfl, h⟩
end Go.Proofs.YtghjgkgfpblijaaDoor
end
section
set_option linter.unusedSimpArgs false
set_option linter.unusedVariables false
set_option maxRecDepth 100000
namespace Go.Proofs.YtghjgkgfpblijaaDoor
open Go.ChangeShapes Go.WideShapes Go.ChangeAt Go.RowKit Go.Lib Go.Sort

theorem infoPat : (Tryd.prog.info? 51).map (fun i => (i.zero, i.size)) = some (some (.agg #[.int .i64 0, .string ⟨#[]⟩, .int .i64 0, .string ⟨#[]⟩]), 4) := by kernel_rfl
theorem pat_one (K C : Int) (H T : ByteArray) : (#[.int .i64 K, .string H, .int .i64 C, .string T] : Array Value).all (·.oneCell') = true := by simp [Value.oneCell']
set_option maxHeartbeats 8000000 in
theorem class_any {w : World} (hP : PLaid w) {p : Option Addr} {g o n c : Nat} {x : Nat → Nat} (R : Hid (Row w p g o n c x)) (hn : n ≤ 140737488355328) : Calls Tryd.prog 17 #[.slice p n c] w (ClsEnd w (tl x n)) := by
  have PL := Lib.hid hP
  clear hP
  go_enter Tryd.func17, Tryd.ntmps17
  go_wp2_with (refine wpList_ld 52 (.global 0) rfl rfl rfl PL.out.load ?_)
  go_step3
  go_wp2_with (refine wpList_ld 52 (.global 0) rfl rfl rfl PL.out.load ?_)
  go_step3
  go_wp2_with (refine wpList_ld 52 (.global 0) rfl rfl rfl PL.out.load ?_)
  have SOF := Lib.hid (show ∀ j : Nat, j < 0 → ∀ b, ¬ OfPat j (tl x n) b from fun j h => absurd h (by omega))
  have BB := Lib.hid (Below.refl w.heap.size w)
  go_loopg [10] 6 (fun k i wr => ∃ j : Nat, j + k = 6 ∧ i = .int .i64 (j : Int) ∧ Hid (∀ j' : Nat, j' < j → ∀ b, ¬ OfPat j' (tl x n) b) ∧ Hid (Below w.heap.size w wr))
  case atStart => exact ⟨0, by omega, rfl, SOF, BB⟩
  case round =>
    clear SOF BB
    obtain ⟨j, hj, rfl, SOF, BB⟩ := hrel
    obtain ⟨kk, rfl⟩ : ∃ kk : Nat, kk = gk := ⟨_, rfl⟩
    obtain ⟨wo, rfl⟩ : ∃ wo : World, wo = wr := ⟨_, rfl⟩
    by_cases hlt : j < 6
    · have PI := Lib.hid (fun W : World => pat_index j hlt W)
      have HS := hB_size j
      have TS := tB_size j
      have CV := Lib.hid (cN_val j)
      have NO := Lib.hid (show (∀ b, ¬ OfPat j (tl x n) b) → ∀ j' : Nat, j' < j + 1 → ∀ b, ¬ OfPat j' (tl x n) b from fun h j' hj' => by
        rcases Nat.lt_or_ge j' j with q | q
        · exact SOF.out j' q
        · obtain rfl : j' = j := by omega
          exact h)
      have YES := Lib.hid (show ∀ b, OfPat j (tl x n) b → Cls (tl x n) (j + 1) b from fun b h => .inl ⟨j, hlt, rfl, h⟩)
      have OFA := Lib.hid (show ∀ b, OfPat j (tl x n) b → _ from fun b h => ofpat_at h)
      have OFM := Lib.hid (show ∀ m, n = (hB j).size + m + (tB j).size → _ from fun m h => ofpat_of (x := x) h)
      obtain ⟨H, hH⟩ : ∃ H, H = hB j := ⟨_, rfl⟩
      obtain ⟨T, hT⟩ : ∃ T, T = tB j := ⟨_, rfl⟩
      obtain ⟨C, hC⟩ : ∃ C, C = cN j := ⟨_, rfl⟩
      obtain ⟨K, hK⟩ : ∃ K : Int, K = ((j + 1 : Nat) : Int) := ⟨_, rfl⟩
      rw [← hH] at HS PI OFA OFM
      rw [← hT] at TS PI OFA OFM
      rw [← hC] at CV PI OFA OFM
      rw [← hK] at PI
      have HK := Lib.hid hK
      clear hH hT hC hK SOF
      have E := Lib.hid (Mem.nil wo)
      cases hok : okI C ((n : Int) - (H.size : Int) - (T.size : Int)) with
      | false =>
        have HAS := Lib.hid (fun W : World => has_any K H T C ((n : Int) - (H.size : Int) - (T.size : Int)) W)
        rw [hok] at HAS
        have NP := Lib.hid (NO.out fun b h => by
          obtain ⟨e1, _, _, e2⟩ := OFA.out b h
          rw [show (n : Int) - (H.size : Int) - (T.size : Int) = (b.length : Int) by omega, e2] at hok
          cases hok)
        clear hok NO OFA OFM YES CV
        go_wp2_with (first
          | (refine wpList_known4 rfl _ _ (exec_index rfl (PI.out _)) ?_)
          | (refine mem_alloc E 51 rfl rfl infoPat ?_; clear E; intro b5 w5 E)
          | (refine mem_store_row 0 E 51 rfl (.tmp 5) (.tmp 12) rfl rfl rfl rfl (by kernel_rfl) rfl (pat_one _ _ _ _) ?_; clear E; intro w6 E; simp only [List.set_cons_zero] at E)
          | (refine mem_load_row E 51 rfl (.tmp 5) rfl rfl List.mem_cons_self Tryd.underlying51 rfl (by kernel_rfl) ?_)
          | (refine mem_load_cell E 9 rfl (.tmp 16) rfl rfl List.mem_cons_self Tryd.underlying9 rfl rfl ?_)
          | (refine mem_load_cell E 9 rfl (.tmp 20) rfl rfl List.mem_cons_self Tryd.underlying9 rfl rfl ?_)
          | (go_at_call 33; ((with_reducible refine (HAS.out _).mono ?_); rintro e w7 ⟨rfl, hb⟩); replace E := Lib.hid (E.out.call hb); clear hb))
        go_roundg (6 - (j + 1))
        case measure => omega
        case rel => exact ⟨j + 1, by omega, by go_num, NP, Lib.hid (BB.out.trans (E.out.below.mono BB.out.size))⟩
      | true =>
        obtain ⟨m, hm⟩ : ∃ m : Nat, n = H.size + m + T.size := ⟨n - H.size - T.size, by have := okI_pos hok CV.out; omega⟩
        have HAS := Lib.hid (fun W : World => has_any K H T C ((n : Int) - (H.size : Int) - (T.size : Int)) W)
        rw [hok] at HAS
        have OK := Lib.hid (show okI C (m : Int) = true by rw [← hok]; congr 1; omega)
        have HM := Lib.hid hm
        have OFM2 := Lib.hid (fun h1 h2 => YES.out _ (OFM.out m hm h1 h2 OK.out))
        have NH := Lib.hid (fun (q : Nat) (hq : q < H.size) (hne : x q ≠ byt H q) => NO.out fun b h => hne ((OFA.out b h).2.1 q hq))
        have NT := Lib.hid (fun (q : Nat) (hq : q < T.size) (hne : x (H.size + m + q) ≠ byt T q) => NO.out fun b h => by
          obtain ⟨e1, _, e3, _⟩ := OFA.out b h
          have e4 : b.length = m := by omega
          rw [e4] at e3
          exact hne (e3 q hq))
        clear hok NO OFA OFM YES CV hm OK
        go_wp2_with (first
          | (refine wpList_known4 rfl _ _ (exec_index rfl (PI.out _)) ?_)
          | (refine mem_alloc E 51 rfl rfl infoPat ?_; clear E; intro b5 w5 E)
          | (refine mem_store_row 0 E 51 rfl (.tmp 5) (.tmp 12) rfl rfl rfl rfl (by kernel_rfl) rfl (pat_one _ _ _ _) ?_; clear E; intro w6 E; simp only [List.set_cons_zero] at E)
          | (refine mem_load_row E 51 rfl (.tmp 5) rfl rfl List.mem_cons_self Tryd.underlying51 rfl (by kernel_rfl) ?_)
          | (refine mem_load_cell E 9 rfl (.tmp 16) rfl rfl List.mem_cons_self Tryd.underlying9 rfl rfl ?_)
          | (refine mem_load_cell E 9 rfl (.tmp 20) rfl rfl List.mem_cons_self Tryd.underlying9 rfl rfl ?_)
          | (refine mem_load_cell E 9 rfl (.tmp 26) rfl rfl List.mem_cons_self Tryd.underlying9 rfl rfl ?_)
          | (go_at_call 33; ((with_reducible refine (HAS.out _).mono ?_); rintro e w7 ⟨rfl, hb⟩); replace E := Lib.hid (E.out.call hb); clear hb))
        clear HAS PI
        have F0 := Lib.hid (show ∀ q' : Nat, q' < 0 → x q' = byt H q' from fun q' h => absurd h (by omega))
        go_loopg [29] H.size (fun k i wr => ∃ q : Nat, q + k = H.size ∧ i = .int .i64 (q : Int) ∧ Hid (∀ q' : Nat, q' < q → x q' = byt H q') ∧ Hid (Mem wo [(b5, 51, #[.int .i64 K, .string H, .int .i64 C, .string T])] wr))
        case atStart => exact ⟨0, by omega, rfl, F0, E⟩
        case round =>
          clear F0 E
          obtain ⟨q, hq, rfl, F0, E⟩ := hrel
          obtain ⟨k2, rfl⟩ : ∃ k2 : Nat, k2 = gk := ⟨_, rfl⟩
          by_cases hlq : q < H.size
          · have hnq : q < n := by have := HM.out; omega
            obtain rfl := R.out.head (by omega)
            have c1 := (R.out.below (BB.out.trans (E.out.below.mono BB.out.size))).cell q hnq
            have c2 := cell_of_here (E.out.get List.mem_cons_self) 1 (v := .string H) rfl
            obtain ⟨y, hy⟩ : ∃ y, y = x q := ⟨_, rfl⟩
            obtain ⟨z, hz⟩ : ∃ z, z = byt H q := ⟨_, rfl⟩
            have G : ((H[q]'hlq).toNat : Int) = ((z : Nat) : Int) := by rw [hz, byt_get]
            rw [← hy] at c1
            by_cases he : y = z
            · subst he
              have F1 := Lib.hid (show ∀ q' : Nat, q' < q + 1 → x q' = byt H q' from fun q' h => by
                rcases Nat.lt_or_ge q' q with r | r
                · exact F0.out q' r
                · obtain rfl : q' = q := by omega
                  rw [← hy, hz])
              clear hy hz F0
              go_upto_region 8 with fail
              go_quiet (fail)
              go_wp2
              go_roundg (H.size - (q + 1))
              case measure => omega
              case rel => exact ⟨q + 1, by omega, by go_num, F1, Lib.hid E.out.drewN'⟩
            · have NP := Lib.hid (NH.out q hlq (by rw [← hy, ← hz]; exact he))
              have b1 : ((y : Int) == (z : Int)) = false := by simpa using (show ¬ ((y : Int) = (z : Int)) by omega)
              clear hy hz F0 he
              go_upto_region 8 with fail
              go_quiet (fail)
              go_wp2
              go_roundg (6 - (j + 1))
              case measure => omega
              case rel => exact ⟨j + 1, by omega, by go_num, NP, Lib.hid (BB.out.trans (E.out.drewN'.below.mono BB.out.size))⟩
          · obtain rfl : q = H.size := by omega
            obtain ⟨M, hM⟩ : ∃ M, M = H.size + m := ⟨_, rfl⟩
            have S : (n : Int) - (T.size : Int) = (M : Int) := by have := HM.out; omega
            have hMn : M + T.size = n := by have := HM.out; omega
            rw [← hM] at NT
            have HMM := Lib.hid hM
            clear hM NH
            go_wp2_with (first
              | (refine mem_load_cell E 9 rfl (.tmp 44) rfl rfl List.mem_cons_self Tryd.underlying9 rfl rfl ?_)
              | (refine mem_load_cell E 9 rfl (.tmp 48) rfl rfl List.mem_cons_self Tryd.underlying9 rfl rfl ?_))
            clear S
            have T0 := Lib.hid (show ∀ q' : Nat, q' < 0 → x (M + q') = byt T q' from fun q' h => absurd h (by omega))
            go_loopg [51] T.size (fun k i wr => ∃ q : Nat, q + k = T.size ∧ i = .int .i64 (q : Int) ∧ Hid (∀ q' : Nat, q' < q → x (M + q') = byt T q') ∧ Hid (Mem wo [(b5, 51, #[.int .i64 K, .string H, .int .i64 C, .string T])] wr))
            case atStart => exact ⟨0, by omega, rfl, T0, E⟩
            case round =>
              clear T0 E
              obtain ⟨q, hq, rfl, T0, E⟩ := hrel
              obtain ⟨k3, rfl⟩ : ∃ k3 : Nat, k3 = gk := ⟨_, rfl⟩
              by_cases hlq : q < T.size
              · have hnq : M + q < n := by omega
                obtain rfl := R.out.head (by omega)
                have c1 := (R.out.below (BB.out.trans (E.out.below.mono BB.out.size))).cell (M + q) hnq
                have c2 := cell_of_here (E.out.get List.mem_cons_self) 3 (v := .string T) rfl
                obtain ⟨y, hy⟩ : ∃ y, y = x (M + q) := ⟨_, rfl⟩
                obtain ⟨z, hz⟩ : ∃ z, z = byt T q := ⟨_, rfl⟩
                have G : ((T[q]'hlq).toNat : Int) = ((z : Nat) : Int) := by rw [hz, byt_get]
                rw [← hy] at c1
                by_cases he : y = z
                · subst he
                  have T1 := Lib.hid (show ∀ q' : Nat, q' < q + 1 → x (M + q') = byt T q' from fun q' h => by
                    rcases Nat.lt_or_ge q' q with r | r
                    · exact T0.out q' r
                    · obtain rfl : q' = q := by omega
                      rw [← hy, hz])
                  clear hy hz T0
                  go_upto_region 14 with fail
                  go_quiet (fail)
                  go_wp2
                  go_roundg (T.size - (q + 1))
                  case measure => omega
                  case rel => exact ⟨q + 1, by omega, by go_num, T1, Lib.hid E.out.drewN'⟩
                · have NP := Lib.hid (NT.out q hlq (by rw [← hy, ← hz]; exact he))
                  have b1 : ((y : Int) == (z : Int)) = false := by simpa using (show ¬ ((y : Int) = (z : Int)) by omega)
                  clear hy hz T0 he
                  go_upto_region 14 with fail
                  go_quiet (fail)
                  go_wp2
                  go_roundg (6 - (j + 1))
                  case measure => omega
                  case rel => exact ⟨j + 1, by omega, by go_num, NP, Lib.hid (BB.out.trans (E.out.drewN'.below.mono BB.out.size))⟩
              · obtain rfl : q = T.size := by omega
                have FIN := Lib.hid (OFM2.out F0.out (by rw [← HMM.out]; exact T0.out))
                have hle := R.out.le
                obtain ⟨p1, hp1, RS0⟩ := R.out.slice (l := H.size) (h := M) (m := c) (by have := HMM.out; omega) (by omega) (by omega) (Nat.le_refl _)
                have RS := Lib.hid (RS0.below BB.out)
                have hm2 : m ≤ 140737488355328 := by have := HM.out; omega
                have SL := Lib.hid (fun W : World => run_sl (w := W) (p := p) (bounds_lh (w := W) (n := n) (c := c) (l := H.size) (h := M) (by have := HMM.out; omega) (by omega)))
                rw [hp1] at SL
                rw [show M - H.size = m by have := HMM.out; omega] at SL RS
                clear hp1 RS0 T0 F0
                go_upto_region 16 with fail
                refine wp_region_memS (S := fun W' => W'.heap[b5]? = some (.cells #[.int .i64 K, .string H, .int .i64 C, .string T] 51 (0, 0))) E (by kernel_rfl) ?_
                intro wx E0
                have S0 := Lib.hid (E0.out.get List.mem_cons_self)
                clear E
                refine hm_run 0 66 (.pointer (some ⟨b5, 0, none⟩)) rfl rfl (by kernel_rfl) (by kernel_rfl) (by kernel_rfl) (fun _ _ _ h => h) rfl (fun W' hW => rfl) S0.out ?_
                try simp only [Act.put, List.getElem_toArray, List.getElem_cons_succ, List.getElem_cons_zero, List.setIfInBounds_toArray, List.set_cons_zero, List.set_cons_succ]
                refine hm_run 1 67 (.int .i64 K) rfl rfl (by kernel_rfl) (by kernel_rfl) (by kernel_rfl) (fun _ _ _ h => h) rfl (fun W' hW => exec_load rfl (run_load_one Tryd.underlying3 rfl (cell_of_here hW 0 rfl))) S0.out ?_
                try simp only [Act.put, List.getElem_toArray, List.getElem_cons_succ, List.getElem_cons_zero, List.setIfInBounds_toArray, List.set_cons_zero, List.set_cons_succ]
                refine hm_run 2 68 (.slice p n c) rfl rfl (by kernel_rfl) (by kernel_rfl) (by kernel_rfl) (fun _ _ _ h => h) rfl (fun W' hW => rfl) S0.out ?_
                try simp only [Act.put, List.getElem_toArray, List.getElem_cons_succ, List.getElem_cons_zero, List.setIfInBounds_toArray, List.set_cons_zero, List.set_cons_succ]
                refine hm_run 3 69 (.pointer (some ⟨b5, 1, none⟩)) rfl rfl (by kernel_rfl) (by kernel_rfl) (by kernel_rfl) (fun _ _ _ h => h) rfl (fun W' hW => rfl) S0.out ?_
                try simp only [Act.put, List.getElem_toArray, List.getElem_cons_succ, List.getElem_cons_zero, List.setIfInBounds_toArray, List.set_cons_zero, List.set_cons_succ]
                refine hm_run 4 70 (.string H) rfl rfl (by kernel_rfl) (by kernel_rfl) (by kernel_rfl) (fun _ _ _ h => h) rfl (fun W' hW => exec_load rfl (run_load_one Tryd.underlying9 rfl (cell_of_here hW 1 rfl))) S0.out ?_
                try simp only [Act.put, List.getElem_toArray, List.getElem_cons_succ, List.getElem_cons_zero, List.setIfInBounds_toArray, List.set_cons_zero, List.set_cons_succ]
                refine hm_run 5 71 (.int .i64 (H.size : Int)) rfl rfl (by kernel_rfl) (by kernel_rfl) (by kernel_rfl) (fun _ _ _ h => h) rfl (fun W' hW => exec_lenS rfl rfl) S0.out ?_
                try simp only [Act.put, List.getElem_toArray, List.getElem_cons_succ, List.getElem_cons_zero, List.setIfInBounds_toArray, List.set_cons_zero, List.set_cons_succ]
                refine hm_run 6 72 (.int .i64 (M : Int)) rfl rfl (by kernel_rfl) (by kernel_rfl) (by kernel_rfl) (fun _ _ _ h => h) rfl (fun W' hW => rfl) S0.out ?_
                try simp only [Act.put, List.getElem_toArray, List.getElem_cons_succ, List.getElem_cons_zero, List.setIfInBounds_toArray, List.set_cons_zero, List.set_cons_succ]
                refine hm_run 7 73 (.slice p1 m (c - H.size)) rfl rfl (by kernel_rfl) (by kernel_rfl) (by kernel_rfl) (fun _ _ _ h => h) rfl (fun W' hW => exec_sl rfl (SL.out _)) S0.out ?_
                try simp only [Act.put, List.getElem_toArray, List.getElem_cons_succ, List.getElem_cons_zero, List.setIfInBounds_toArray, List.set_cons_zero, List.set_cons_succ]
                refine hm_one (i := 8) (by kernel_rfl) ?_
                refine hm_step 8 rfl (by kernel_rfl) fun K hK => ?_
                try simp only [Act.put, List.getElem_toArray, List.getElem_cons_succ, List.getElem_cons_zero, List.setIfInBounds_toArray, List.set_cons_zero, List.set_cons_succ]
                go_simp
                go_at_call 14
                refine (clone_any (Lib.hid (RS.out.below E0.out.below)) hm2).mono ?_
                rintro e w9 ⟨p9, g9, c9, rfl, N9, hb9⟩
                have E9 := Lib.hid (E0.out.call hb9)
                have NN9 := Lib.hid N9
                clear N9 hb9
                refine hK _ _ (E9.out.get List.mem_cons_self) ?_
                clear hK K
                try simp only [Act.put, List.getElem_toArray, List.getElem_cons_succ, List.getElem_cons_zero, List.setIfInBounds_toArray, List.set_cons_zero, List.set_cons_succ]
                refine hm_run 9 2 (.int .i64 K) rfl rfl (by kernel_rfl) (by kernel_rfl) (by kernel_rfl) (fun _ _ _ h => h) rfl (fun W' hW => rfl) (E9.out.get List.mem_cons_self) ?_
                try simp only [Act.put, List.getElem_toArray, List.getElem_cons_succ, List.getElem_cons_zero, List.setIfInBounds_toArray, List.set_cons_zero, List.set_cons_succ]
                refine hm_run 10 3 (.slice p9 m c9) rfl rfl (by kernel_rfl) (by kernel_rfl) (by kernel_rfl) (fun _ _ _ h => h) rfl (fun W' hW => rfl) (E9.out.get List.mem_cons_self) ?_
                try simp only [Act.put, List.getElem_toArray, List.getElem_cons_succ, List.getElem_cons_zero, List.setIfInBounds_toArray, List.set_cons_zero, List.set_cons_succ]
                refine wpAnyH_done (by kernel_rfl) ?_ _
                go_wp2
                try rw [Exit.noGoto_ret]
                go_ret2
                refine ⟨j + 1, tl (fun i => x (H.size + i)) m, p9, g9, c9, ?_, FIN.out, ?_, BB.out.trans (E9.out.below.mono BB.out.size)⟩
                · show Ending.returned (.tuple #[.int .i64 K, .slice p9 m c9]) = _
                  rw [HK.out, tl_length]
                · have := (NN9.out.mono (Nat.le_trans BB.out.size E0.out.below.size)).tl
                  exact this
    · obtain rfl : j = 6 := by omega
      go_wp2
      try rw [Exit.noGoto_ret]
      go_ret2
      exact ⟨0, [], none, 0, 0, rfl, cls_other fun j' h' => SOF.out j' h', own_nothing _ _ _ (lf_lt isB_nil) BB.out.size, BB.out⟩
end Go.Proofs.YtghjgkgfpblijaaDoor
end
section
set_option linter.unusedSimpArgs false
set_option linter.unusedVariables false
set_option maxRecDepth 100000
namespace Go.Proofs.YtghjgkgfpblijaaDoor
open Go.ChangeShapes Go.WideShapes Go.ChangeAt Go.RowKit Go.Lib Go.Sort

/-- The script of a kind with some bytes, if there is one. -/
def mkOf (kind : Int) (b : List Nat) : Option (List Nat) := if 1 ≤ kind ∧ kind ≤ 6 ∧ okc (kind.toNat - 1) b.length = true then some (hL (kind.toNat - 1) ++ b ++ tL (kind.toNat - 1)) else none
theorem mkOf_yes {j : Nat} (hj : j < 6) {kind : Int} (hk : kind = ((j + 1 : Nat) : Int)) {b : List Nat} (h : okc j b.length = true) : mkOf kind b = some (hL j ++ b ++ tL j) := by
  subst hk
  have e : ((j + 1 : Nat) : Int).toNat - 1 = j := by omega
  unfold mkOf
  rw [e, if_pos ⟨by omega, by omega, h⟩]
theorem mkOf_no {kind : Int} {b : List Nat} (h : ∀ j : Nat, j < 6 → kind = ((j + 1 : Nat) : Int) → okc j b.length = false) : mkOf kind b = none := by
  unfold mkOf
  rw [if_neg]
  rintro ⟨h1, h2, h3⟩
  have := h (kind.toNat - 1) (by omega) (by omega)
  rw [this] at h3
  cases h3
/-- What a call leaves that makes a script. -/
def MkEnd (w : World) (kind : Int) (b : List Nat) (e : Ending) (w' : World) : Prop := ∃ (r : List Nat) (ok : Bool) (p : Option Addr) (g c : Nat), e = .returned (.tuple #[.slice p r.length c, .bool ok]) ∧ ok = (mkOf kind b).isSome ∧ r = (mkOf kind b).getD [] ∧ Row w' p g 0 r.length c (lf r) ∧ Below w.heap.size w w'
theorem mkEnd_no {w : World} {kind : Int} {b : List Nat} (h : mkOf kind b = none) {w' : World} (hb : Below w.heap.size w w') : MkEnd w kind b (.returned (.tuple #[.slice none 0 0, .bool false])) w' :=
  ⟨[], false, none, 0, 0, rfl, by rw [h]; rfl, by rw [h]; rfl, Row.nothing _ _ (lf_lt isB_nil), hb⟩
theorem run_bs3v {P : Program} {S T bytes : Nat} {z : Value} (hS : P.underlying S = some (.slice T)) (hT : (P.info? T).map (fun i => (i.zero, i.size, i.bytes)) = some (some z, 1, bytes)) (a b c : Value) (ha : a.cells = #[a]) (hb : b.cells = #[b]) (hc : c.cells = #[c]) (w : World) :
    (Instr.buildSlice S 3 #[(0, a), (1, b), (2, c)]).run P w = .ok (.slice (some ⟨w.heap.size, 0, none⟩) 3 3) (w.alloc (.cells #[a, b, c] T)) := by
  obtain ⟨i0, hi, hz0, hz1, hz2⟩ := info_parts hT
  refine run_buildSlice w S T 3 _ #[a, b, c] i0 z hS hi hz0 (by rw [hz1]; omega) (by rw [hz1]; omega) ?_
  have e : Array.range 3 = #[0, 1, 2] := by decide
  simp [Instr.fill, ha, hb, hc, hz1, e]
/-- Three texts, one behind the other in a slice. -/
def v3 (a b c : Value) : Nat → Value | 0 => a | 1 => b | _ => c
theorem texts3 {w : World} {p1 p2 p3 p : Option Addr} {g1 g2 g3 g o1 o2 o3 n1 n2 n3 c1 c2 c3 B : Nat} {x1 x2 x3 : Nat → Nat} (R1 : Row w p1 g1 o1 n1 c1 x1) (R2 : Row w p2 g2 o2 n2 c2 x2) (R3 : Row w p3 g3 o3 n3 c3 x3)
    (h1 : n1 ≤ 140737488351232) (h2 : n2 ≤ 140737488351232) (h3 : n3 ≤ 140737488351232) (N : VOwn 22 1 B w p g 3 3 (v3 (.slice p1 n1 c1) (.slice p2 n2 c2) (.slice p3 n3 c3))) : TextsAt w (.slice p 3 3) [tl x1 n1, tl x2 n2, tl x3 n3] := by
  refine ⟨p, g, 0, 3, _, rfl, by simp, N.row, fun i hi => ?_⟩
  match i, hi with
  | 0, _ => exact ⟨p1, g1, o1, c1, by rw [show ([tl x1 n1, tl x2 n2, tl x3 n3])[0] = tl x1 n1 from rfl, tl_length]; rfl, by rw [show ([tl x1 n1, tl x2 n2, tl x3 n3])[0] = tl x1 n1 from rfl, tl_length]; exact h1, R1.tl⟩
  | 1, _ => exact ⟨p2, g2, o2, c2, by rw [show ([tl x1 n1, tl x2 n2, tl x3 n3])[1] = tl x2 n2 from rfl, tl_length]; rfl, by rw [show ([tl x1 n1, tl x2 n2, tl x3 n3])[1] = tl x2 n2 from rfl, tl_length]; exact h2, R2.tl⟩
  | 2, _ => exact ⟨p3, g3, o3, c3, by rw [show ([tl x1 n1, tl x2 n2, tl x3 n3])[2] = tl x3 n3 from rfl, tl_length]; rfl, by rw [show ([tl x1 n1, tl x2 n2, tl x3 n3])[2] = tl x3 n3 from rfl, tl_length]; exact h3, R3.tl⟩
set_option maxHeartbeats 8000000 in
theorem make_any {w : World} (hP : PLaid w) (kind : Int) {p : Option Addr} {g o n c : Nat} {x : Nat → Nat} (R : Hid (Row w p g o n c x)) (hn : n ≤ 140737488351232) : Calls Tryd.prog 15 #[.int .i64 kind, .slice p n c] w (MkEnd w kind (tl x n)) := by
  have PL := Lib.hid hP
  clear hP
  go_enter Tryd.func15, Tryd.ntmps15
  go_wp2_with (refine wpList_ld 52 (.global 0) rfl rfl rfl PL.out.load ?_)
  have SOF := Lib.hid (show ∀ j : Nat, j < 0 → kind = ((j + 1 : Nat) : Int) → okc j (tl x n).length = false from fun j h => absurd h (by omega))
  have BB := Lib.hid (Below.refl w.heap.size w)
  go_loopg [9] 6 (fun k i wr => ∃ j : Nat, j + k = 6 ∧ i = .int .i64 (j : Int) ∧ Hid (∀ j' : Nat, j' < j → kind = ((j' + 1 : Nat) : Int) → okc j' (tl x n).length = false) ∧ Hid (Below w.heap.size w wr))
  case atStart => exact ⟨0, by omega, rfl, SOF, BB⟩
  case round =>
    clear SOF BB
    obtain ⟨j, hj, rfl, SOF, BB⟩ := hrel
    obtain ⟨kk, rfl⟩ : ∃ kk : Nat, kk = gk := ⟨_, rfl⟩
    obtain ⟨wo, rfl⟩ : ∃ wo : World, wo = wr := ⟨_, rfl⟩
    by_cases hlt : j < 6
    · have PI := Lib.hid (fun W : World => pat_index j hlt W)
      have HS := hB_size j
      have TS := tB_size j
      have NO := Lib.hid (show (kind = ((j + 1 : Nat) : Int) → okc j (tl x n).length = false) → ∀ j' : Nat, j' < j + 1 → kind = ((j' + 1 : Nat) : Int) → okc j' (tl x n).length = false from fun h j' hj' => by
        rcases Nat.lt_or_ge j' j with q | q
        · exact SOF.out j' q
        · obtain rfl : j' = j := by omega
          exact h)
      have YES := Lib.hid (show kind = ((j + 1 : Nat) : Int) → okc j (tl x n).length = true → mkOf kind (tl x n) = some (bytL (hB j) ++ tl x n ++ bytL (tB j)) from fun h1 h2 => by rw [hB_bytes, tB_bytes]; exact mkOf_yes hlt h1 h2)
      have OKC := Lib.hid (show okc j (tl x n).length = okI (cN j) (n : Int) by unfold okc; rw [tl_length])
      obtain ⟨H, hH⟩ : ∃ H, H = hB j := ⟨_, rfl⟩
      obtain ⟨T, hT⟩ : ∃ T, T = tB j := ⟨_, rfl⟩
      obtain ⟨C, hC⟩ : ∃ C, C = cN j := ⟨_, rfl⟩
      obtain ⟨K, hK⟩ : ∃ K : Int, K = ((j + 1 : Nat) : Int) := ⟨_, rfl⟩
      rw [← hH] at HS PI YES
      rw [← hT] at TS PI YES
      rw [← hC] at PI OKC
      rw [← hK] at PI NO YES
      clear hH hT hC hK SOF
      have E := Lib.hid (Mem.nil wo)
      by_cases hkd : K = kind
      · have b1 : (K == kind) = true := by simpa using hkd
        have HKD := Lib.hid hkd
        clear hkd
        cases hok : okI C (n : Int) with
        | false =>
          have HAS := Lib.hid (fun W : World => has_any K H T C (n : Int) W)
          rw [hok] at HAS
          have NP := Lib.hid (NO.out fun _ => by rw [OKC.out, hok])
          clear hok NO YES OKC
          go_wp2_with (first
            | (refine wpList_known4 rfl _ _ (exec_index rfl (PI.out _)) ?_)
            | (refine mem_alloc E 51 rfl rfl infoPat ?_; clear E; intro b5 w5 E)
            | (refine mem_store_row 0 E 51 rfl (.tmp 7) (.tmp 11) rfl rfl rfl rfl (by kernel_rfl) rfl (pat_one _ _ _ _) ?_; clear E; intro w6 E; simp only [List.set_cons_zero] at E)
            | (refine mem_load_row E 51 rfl (.tmp 7) rfl rfl List.mem_cons_self Tryd.underlying51 rfl (by kernel_rfl) ?_)
            | (refine mem_load_cell E 3 rfl (.tmp 12) rfl rfl List.mem_cons_self Tryd.underlying3 rfl rfl ?_)
            | (go_at_call 33; ((with_reducible refine (HAS.out _).mono ?_); rintro e w7 ⟨rfl, hb⟩); replace E := Lib.hid (E.out.call hb); clear hb))
          go_roundg (6 - (j + 1))
          case measure => omega
          case rel => exact ⟨j + 1, by omega, by go_num, NP, Lib.hid (BB.out.trans (E.out.below.mono BB.out.size))⟩
        | true =>
          have HAS := Lib.hid (fun W : World => has_any K H T C (n : Int) W)
          rw [hok] at HAS
          have YY := Lib.hid (YES.out HKD.out.symm (by rw [OKC.out, hok]))
          clear hok NO YES OKC
          go_wp2_with (first
            | (refine wpList_known4 rfl _ _ (exec_index rfl (PI.out _)) ?_)
            | (refine mem_alloc E 51 rfl rfl infoPat ?_; clear E; intro b5 w5 E)
            | (refine mem_store_row 0 E 51 rfl (.tmp 7) (.tmp 11) rfl rfl rfl rfl (by kernel_rfl) rfl (pat_one _ _ _ _) ?_; clear E; intro w6 E; simp only [List.set_cons_zero] at E)
            | (refine mem_load_row E 51 rfl (.tmp 7) rfl rfl List.mem_cons_self Tryd.underlying51 rfl (by kernel_rfl) ?_)
            | (refine mem_load_cell E 3 rfl (.tmp 12) rfl rfl List.mem_cons_self Tryd.underlying3 rfl rfl ?_)
            | (refine mem_load_cell E 9 rfl (.tmp 22) rfl rfl List.mem_cons_self Tryd.underlying9 rfl rfl ?_)
            | (refine mem_load_cell E 9 rfl (.tmp 26) rfl rfl List.mem_cons_self Tryd.underlying9 rfl rfl ?_)
            | (refine wpList_cv rfl (.tmp 23) rfl rfl (by omega) ?_; intro pa ga ca wa NA hba; replace E := Lib.hid (E.out.call hba.out); clear hba)
            | (refine wpList_cv rfl (.tmp 27) rfl rfl (by omega) ?_; intro pc gc cc wc NC hbc; replace E := Lib.hid (E.out.call hbc.out); replace NA := Lib.hid (NA.out.below hbc.out); clear hbc)
            | (refine wpList_vbs 70 22 1 3 rfl _ rfl (v3 (.slice pa H.size ca) (.slice p n c) (.slice pc T.size cc)) (fun i hi => by match i, hi with | 0, _ => rfl | 1, _ => rfl | 2, _ => rfl) (by unfold maxLen; omega) (ps := #[(0, .slice pa H.size ca), (1, .slice p n c), (2, .slice pc T.size cc)]) (by kernel_rfl) (fun W => run_bs3v Tryd.underlying70 infoText3 _ _ _ rfl rfl rfl W) rfl ?_; intro pv gv wv NV hbv; replace NA := Lib.hid (NA.out.below hbv.out); replace NC := Lib.hid (NC.out.below hbv.out); replace E := Lib.hid (E.out.call hbv.out); have TT := Lib.hid (texts3 NA.out.row ((R.out.below BB.out).below E.out.below) NC.out.row (by omega) hn (by omega) NV.out); clear hbv)
            | (go_at_call 34; refine (concat_any TT (by simp [sm, tl_length]; omega)).mono ?_; intro e w8 h8; obtain ⟨r8, p8, g8, c8, rfl, HR8, N8, hb8⟩ := getsL_var h8; replace E := Lib.hid (E.out.call hb8); have NN8 := Lib.hid N8; clear hb8 N8 h8)
            | (go_at_call 33; ((with_reducible refine (HAS.out _).mono ?_); rintro e w7 ⟨rfl, hb⟩); replace E := Lib.hid (E.out.call hb); clear hb))
          go_ret2
          have e : r8 = bytL H ++ tl x n ++ bytL T := by rw [HR8.out]; simp [bytL]
          exact ⟨r8, true, p8, g8, c8, rfl, by rw [YY.out]; rfl, by rw [YY.out, e]; rfl, NN8.out.row, BB.out.trans (E.out.below.mono BB.out.size)⟩
      · have b1 : (K == kind) = false := by simpa using hkd
        have NP := Lib.hid (NO.out fun h => absurd h.symm hkd)
        clear hkd NO YES OKC
        go_wp2_with (first
          | (refine wpList_known4 rfl _ _ (exec_index rfl (PI.out _)) ?_)
          | (refine mem_alloc E 51 rfl rfl infoPat ?_; clear E; intro b5 w5 E)
          | (refine mem_store_row 0 E 51 rfl (.tmp 7) (.tmp 11) rfl rfl rfl rfl (by kernel_rfl) rfl (pat_one _ _ _ _) ?_; clear E; intro w6 E; simp only [List.set_cons_zero] at E)
          | (refine mem_load_cell E 3 rfl (.tmp 12) rfl rfl List.mem_cons_self Tryd.underlying3 rfl rfl ?_))
        go_roundg (6 - (j + 1))
        case measure => omega
        case rel => exact ⟨j + 1, by omega, by go_num, NP, Lib.hid (BB.out.trans (E.out.below.mono BB.out.size))⟩
    · obtain rfl : j = 6 := by omega
      have YtghjgkgfpblijaaDoor := Lib.hid (mkOf_no SOF.out)
      clear SOF
      go_wp2
      go_ret2
      exact mkEnd_no YtghjgkgfpblijaaDoor.out BB.out
end Go.Proofs.YtghjgkgfpblijaaDoor
end
