/- The table of messages' layouts as the rows list it. -/
import Derived.Test.YtfjpjhhkafkepaaDoorZA
import Derived.Deep.Strs
import Derived.ProofKit
import Derived.LaidMore
import Derived.OpenShut
import Derived.Stop.Joined
import Derived.Lay
import Derived.Lib.SmallJoins
set_option linter.unusedSimpArgs false
set_option linter.unusedVariables false
set_option maxRecDepth 100000
namespace Go.Proofs.YtfjpjhhkafkepaaDoor
open Go.ChangeShapes Go.WideShapes Go.ChangeAt Go.RowKit Go.Lib

def mcom : Nat → ByteArray
  | 0 => ⟨#[]⟩
  | 1 => ⟨#[118, 101, 114, 115, 105, 111, 110]⟩
  | 2 => ⟨#[118, 101, 114, 97, 99, 107]⟩
  | 3 => ⟨#[112, 105, 110, 103]⟩
  | 4 => ⟨#[112, 111, 110, 103]⟩
  | 5 => ⟨#[103, 101, 116, 104, 101, 97, 100, 101, 114, 115]⟩
  | 6 => ⟨#[104, 101, 97, 100, 101, 114, 115]⟩
  | 7 => ⟨#[103, 101, 116, 99, 102, 104, 101, 97, 100, 101, 114, 115]⟩
  | 8 => ⟨#[99, 102, 104, 101, 97, 100, 101, 114, 115]⟩
  | 9 => ⟨#[103, 101, 116, 99, 102, 105, 108, 116, 101, 114, 115]⟩
  | 10 => ⟨#[99, 102, 105, 108, 116, 101, 114]⟩
  | 11 => ⟨#[103, 101, 116, 100, 97, 116, 97]⟩
  | 12 => ⟨#[98, 108, 111, 99, 107]⟩
  | 13 => ⟨#[110, 111, 116, 102, 111, 117, 110, 100]⟩
  | _ => ⟨#[]⟩
def mpar : Nat → (Nat → Int)
  | 0 => fun _ => 0
  | 1 => fun | 0 => 1 | 1 => 11 | 2 => 2 | 3 => 12 | 4 => 13 | 5 => 14 | _ => 0
  | 2 => fun _ => 0
  | 3 => fun | 0 => 2 | _ => 0
  | 4 => fun | 0 => 2 | _ => 0
  | 5 => fun | 0 => 1 | 1 => 5 | 2 => 3 | _ => 0
  | 6 => fun | 0 => 7 | _ => 0
  | 7 => fun | 0 => 10 | 1 => 1 | 2 => 3 | _ => 0
  | 8 => fun | 0 => 10 | 1 => 3 | 2 => 4 | 3 => 5 | _ => 0
  | 9 => fun | 0 => 10 | 1 => 1 | 2 => 3 | _ => 0
  | 10 => fun | 0 => 10 | 1 => 3 | 2 => 8 | _ => 0
  | 11 => fun | 0 => 6 | _ => 0
  | 12 => fun | 0 => 9 | _ => 0
  | 13 => fun | 0 => 6 | _ => 0
  | _ => fun _ => 0
def mmost : Nat → Int
  | 0 => 0
  | 1 => 256
  | 2 => 0
  | 3 => 0
  | 4 => 0
  | 5 => 101
  | 6 => 100
  | 7 => 0
  | 8 => 2000
  | 9 => 0
  | 10 => 199950
  | 11 => 1000
  | 12 => 0
  | 13 => 1000
  | _ => 0
/-- The cells of a layout, and of all. -/
def mcell (j : Nat) : Nat → Value
  | 0 => .string (mcom j)
  | 7 => .int .i64 (mmost j)
  | k => .int .i64 (mpar j (k - 1))
def mv (i : Nat) : Value := mcell (i / 8) (i % 8)
/-- The layouts lie where they are laid. -/
def MLaid (w : World) : Prop := ∀ i, i < 112 → w.cell? ⟨0, i, none⟩ = some (mv i)
theorem MLaid.below {w w' : World} (h : MLaid w) (hb : Below w.heap.size w w') : MLaid w' := fun i hi => by
  rw [hb.cell (cell_lt (h i hi))]; exact h i hi
def mlLaid : List (String × DataW Unit) := [("sporran/message.layouts", Rows.laid_sporran_message_layouts)]
theorem gMl : Tryd.prog.globalNamed "sporran/message.layouts" = some 0 := by kernel_rfl
theorem tMl : (Tryd.prog.globals[0]?).map (·.type) = some 50 := by kernel_rfl
theorem at_of_take8 {cs : List Value} {v : Value} {k o m : Nat} (hm : m = 1) (ho : o < 8) (h : (List.drop o (List.take 8 (List.drop k cs))).take m = [v]) : cs[k + o]? = some v := by
  subst hm
  have h1 : ((List.drop o (List.take 8 (List.drop k cs))).take 1)[0]? = some v := by rw [h]; rfl
  rw [List.getElem?_take_of_lt (by omega), List.getElem?_drop, List.getElem?_take_of_lt (by omega), List.getElem?_drop] at h1
  exact h1
/-- What the rows list of the layout j. -/
def mdat {H : Type} (j : Nat) : DataW H := .agg [.lit (.string (mcom j).data.toList), .agg ((List.range 6).map fun k => .lit (.int .i64 (mpar j k))), .lit (.int .i64 (mmost j))]
theorem mdat_all {H : Type} : (Rows.laid_sporran_message_layouts : DataW H) = .agg ((List.range 14).map mdat) := rfl
theorem laysOf {H : Type} {enc : TypeId × Value → H} {w : World} {base : Nat} {spare : Nat → Bool} {held : Bool} {fuel : Nat} {cs : List Value} {p : List MemPlace}
    (h : DataW.trod enc Tryd.prog w base spare held fuel 50 cs = some (Rows.laid_sporran_message_layouts, p)) : ∀ i, i < 112 → cs[i]? = some (mv i) := by
  obtain ⟨xs, m, rfl, hx, hlen, hn, hel⟩ := DataW.trod_array Tryd.underlying50 h
  have hx1 := congrArg Prod.fst hx
  rw [mdat_all] at hx1
  have hx2 : (List.range 14).map mdat = xs.map (·.1) := by simpa using hx1
  have hc : Tryd.prog.cellsOf 49 = 8 := by kernel_rfl
  have c3 : Tryd.prog.cellsOf 3 = 1 := by kernel_rfl
  have c9 : Tryd.prog.cellsOf 9 = 1 := by kernel_rfl
  have cP : Tryd.prog.cellsOf 46 = 1 := by kernel_rfl
  have c6 : Tryd.prog.cellsOf 47 = 6 := by kernel_rfl
  rw [hc] at hel
  intro i hi
  obtain ⟨j, hje⟩ : ∃ j, j = i / 8 := ⟨_, rfl⟩
  obtain ⟨f, hfe⟩ : ∃ f, f = i % 8 := ⟨_, rfl⟩
  have hi2 : i = j * 8 + f := by omega
  have hf8 : f < 8 := by omega
  have hj : j < 14 := by omega
  have h2 := hel j hj
  obtain ⟨y, hy⟩ : ∃ y, xs[j]? = some y := ⟨xs[j], List.getElem?_eq_getElem (by omega)⟩
  rw [hy] at h2
  have hd : y.1 = mdat j := by
    have h3 : ((List.range 14).map (mdat (H := H)))[j]? = (xs.map (·.1))[j]? := by rw [hx2]
    rw [List.getElem?_map, List.getElem?_map, hy, List.getElem?_range hj] at h3
    simpa using h3.symm
  obtain ⟨y0, y1, y2, n, hyy, hl, t0, t1, t2⟩ := Go.Deep.trod_struct3 Tryd.underlying49 h2
  obtain ⟨s0, e0, x0, _⟩ := DataW.trod_string Tryd.underlying9 t0
  obtain ⟨n2, e2, x2, _⟩ := DataW.trod_int Tryd.underlying3 t2
  obtain ⟨zs, m1, _, hz, hzl, _, hzel⟩ := DataW.trod_array Tryd.underlying47 t1
  rw [cP] at hzel
  have hz1 := congrArg Prod.fst hz
  rw [hyy, x0, x2] at hd
  simp only at hz1
  simp only [hz1] at hd
  unfold mdat at hd
  simp only [DataW.agg.injEq, List.cons.injEq, DataW.lit.injEq, Lit.int.injEq, Lit.string.injEq, true_and, and_true] at hd
  obtain ⟨d0, d1, d2⟩ := hd
  have q0 : s0 = mcom j := by cases s0; rename_i d; congr 1; exact Array.toList_inj.1 d0
  subst q0 d2
  have r0 := at_of_take8 (k := j * 8) (o := 0) c9 (by omega) e0
  have r7 := at_of_take8 (k := j * 8) (o := 7) c3 (by omega) e2
  have rp : ∀ k, k < 6 → cs[j * 8 + (1 + k)]? = some (.int .i64 (mpar j k)) := fun k hk => by
    have h4 := hzel k hk
    obtain ⟨z, hzk⟩ : ∃ z, zs[k]? = some z := ⟨zs[k]'(by omega), List.getElem?_eq_getElem (by omega)⟩
    rw [hzk] at h4
    obtain ⟨nk, ek, xk, _⟩ := DataW.trod_int Tryd.underlying46 h4
    have hk2 : z.1 = .lit (.int .i64 (mpar j k)) := by
      have h3 := congrArg (fun l => l[k]?) d1
      simp only [List.getElem?_map, hzk, List.getElem?_range hk, Option.map_some, Option.some.injEq] at h3
      exact h3
    rw [xk] at hk2
    simp only [DataW.lit.injEq, Lit.int.injEq, true_and] at hk2
    subst hk2
    have h1 : ((List.take 1 (List.drop (k * 1) (List.take (Tryd.prog.cellsOf 47) (List.drop 1 (List.take 8 (List.drop (j * 8) cs))))))[0]?) = some (.int .i64 (mpar j k)) := by rw [ek]; rfl
    rw [c6, List.getElem?_take_of_lt (by omega), List.getElem?_drop, List.getElem?_take_of_lt (by omega), List.getElem?_drop, List.getElem?_take_of_lt (by omega), List.getElem?_drop] at h1
    rw [← h1]
    congr 1
    omega
  have hpv : mv i = mcell j f := by unfold mv; rw [← hje, ← hfe]
  rw [hpv, hi2]
  match f, hf8 with
  | 0, _ => exact r0
  | 1, _ => exact rp 0 (by omega)
  | 2, _ => exact rp 1 (by omega)
  | 3, _ => exact rp 2 (by omega)
  | 4, _ => exact rp 3 (by omega)
  | 5, _ => exact rp 4 (by omega)
  | 6, _ => exact rp 5 (by omega)
  | 7, _ => exact r7
theorem of_ml {W : World} (h : laidMetH Tryd.prog mlLaid W) : MLaid W := by
  rw [MakeChecks.laidMetH_plain _ _ _ (by kernel_rfl)] at h
  obtain ⟨ps, ⟨g0, t0, cs0, f0, p0, q0, hg0, ht0, hv0, hd0, _, _⟩, _, _⟩ := h
  obtain rfl := Option.some.inj (gMl.symm.trans hg0)
  obtain rfl := Option.some.inj (tMl.symm.trans ht0)
  intro i hi
  rw [World.var?_cell hg0 hv0 i]
  have := laysOf hd0 i hi
  simpa using this
/-- All layouts, loaded; one of them. -/
theorem MLaid.load {w : World} (h : MLaid w) : (Instr.loadAt 50 (.pointer (some ⟨0, 0, none⟩))).run Tryd.prog w = .ok (.agg (arr 112 mv)) w := by
  have hr : w.rangeAt 0 0 (vs mv 112) := fun j v hj => by
    obtain ⟨h1, rfl⟩ := vs_get _ _ _ _ hj
    rw [Nat.zero_add]
    exact h j h1
  have := run_loadAt_mid (P := Tryd.prog) w 0 0 50 (vs mv 112) _ hr Tryd.underlying50 rfl (by rw [vs_length]; kernel_rfl)
  rwa [vs_arr] at this
theorem MLaid.one {w : World} (h : MLaid w) {j : Nat} (hj : j < 14) : (Instr.loadAt 49 (.pointer (some ⟨0, j * 8, none⟩))).run Tryd.prog w = .ok (.agg (arr 8 (mcell j))) w := by
  have hr : w.rangeAt 0 (j * 8) (vs (mcell j) 8) := fun k v hk => by
    obtain ⟨h1, rfl⟩ := vs_get _ _ _ _ hk
    rw [h (j * 8 + k) (by omega)]
    unfold mv
    rw [show (j * 8 + k) / 8 = j by omega, show (j * 8 + k) % 8 = k by omega]
  have := run_loadAt_mid (P := Tryd.prog) w 0 (j * 8) 49 (vs (mcell j) 8) _ hr Tryd.underlying49 rfl (by rw [vs_length]; kernel_rfl)
  rwa [vs_arr] at this
end Go.Proofs.YtfjpjhhkafkepaaDoor
