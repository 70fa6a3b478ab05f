/- A header read. -/
import Derived.Test.YtoopcmcmjaikhaaDoorHb
import Derived.Test.YtoopcmcmjaikhaaDoorZA
set_option linter.unusedSimpArgs false
set_option linter.unusedVariables false
namespace Go.Proofs.YtoopcmcmjaikhaaDoor
open Go.RowKit Go.Lib Go.Sort

theorem Mem.fst {w0 w : World} {x y : Nat × TypeId × Array Value} {l : List (Nat × TypeId × Array Value)} (E : Mem w0 (x :: y :: l) w) : Mem w0 [x] w := E.sub (List.Sublist.cons_cons _ (List.nil_sublist _))
/-- A row of later blocks stays while an earlier block of the list is written. -/
theorem row_of_own {w0 w1 w2 : World} {l : List (Nat × TypeId × Array Value)} {B g n c : Nat} {p : Option Addr} {x : Nat → Nat} (N : Own B w1 p g n c x) (E : Mem w0 l w1) (hs : ∀ q, q ∈ l → q.1 < B) {i b T : Nat} {c1 : Array Value} (hi : l[i]? = some (b, T, c1)) (ho : Only b w1 w2) : Row w2 p g 0 n c x := by
  have hb : b < B := hs _ (List.mem_of_getElem? hi)
  refine ⟨N.row.le, N.row.cap, N.row.nil, N.row.head, fun j hj => ?_, N.row.byte⟩
  have h1 := N.row.cell j hj
  refine ho.cell (fun e => ?_) h1
  have hp := N.row.head (by omega)
  have := (World.ownsRow.lt N.own g (by rw [hp]; rfl)).1
  simp at e
  omega
theorem run_part {g o n c : Nat} (l k : Nat) (hk : 0 < k) (h : l + k ≤ c) (W : World) : (Instr.sliceAt 32 (.slice (some ⟨g, o, none⟩) n c) (some (.int .i64 ((l : Nat) : Int))) (some (.int .i64 ((l + k : Nat) : Int))) (some (.int .i64 ((l + k : Nat) : Int)))).run Tryd.prog W = .ok (.slice (some ⟨g, o + l, none⟩) k k) W := by
  rw [run_sl (bounds_lhm (by omega) (Nat.le_refl _) h)]
  unfold sliced
  rw [if_neg (by omega), Nat.mul_one]
  show Result.ok (Value.slice (some ((⟨g, o, none⟩ : Addr).add l)) (l + k - l) (l + k - l)) W = _
  rw [row_add, Nat.add_sub_cancel_left]
theorem Row.part {w : World} {g o n c : Nat} {x : Nat → Nat} (R : Row w (some ⟨g, o, none⟩) g o n c x) (l k : Nat) (h : l + k ≤ n) : Row w (some ⟨g, o + l, none⟩) g (o + l) k k (fun i => x (l + i)) :=
  ⟨Nat.le_refl _, by have := R.cap; have := R.le; omega, fun e => (by cases e), fun _ => rfl, fun i hi => by rw [Nat.add_assoc]; exact R.cell (l + i) (by omega), fun i => R.byte _⟩
theorem run_arrayAt (a : Addr) (n c : Nat) (h : 32 ≤ n) (w : World) : (Instr.arrayAt 23 (.slice (some a) n c)).run Tryd.prog w = .ok (.pointer (some a)) w := by
  have hu : Tryd.prog.underlying 23 = some (.array 32 5) := Tryd.underlying23
  simp [Instr.arrayAt, run_underlying hu]
  omega
theorem load_hash {w : World} {g o n c : Nat} {x : Nat → Nat} {p : Option Addr} (R : Row w p g o n c x) (h : 32 ≤ n) : (Instr.loadAt 23 (.pointer (some ⟨g, o, none⟩))).run Tryd.prog w = .ok (.agg (arr 32 (bv x))) w := by
  have hr : w.rangeAt g o (arr 32 (bv x)).toList := fun j v hj => by
    have hj32 : j < 32 := by
      have := (List.getElem?_eq_some_iff.1 hj).1
      rw [Array.length_toList, arr_size] at this
      exact this
    rw [Array.getElem?_toList, arr_get 32 _ j hj32] at hj
    obtain rfl := Option.some.inj hj
    exact R.cell j (by omega)
  simpa using run_loadAt_mid (P := Tryd.prog) w g o 23 (arr 32 (bv x)).toList _ hr Tryd.underlying23 rfl (by rw [Array.length_toList, arr_size]; kernel_rfl)
theorem load_hdr {w0 w : World} {l : List (Nat × TypeId × Array Value)} {b : Nat} {h : Hd} (E : Mem w0 l w) (hm : (b, 28, arr 68 (hc h)) ∈ l) : (Instr.loadAt 28 (.pointer (some ⟨b, 0, none⟩))).run Tryd.prog w = .ok (.agg (arr 68 (hc h))) w := by
  simpa using run_loadAt_mid (P := Tryd.prog) w b 0 28 (arr 68 (hc h)).toList _ (range_all (E.get hm)) Tryd.underlying28 rfl (by rw [Array.length_toList, arr_size]; kernel_rfl)
theorem built_hd (h : Hd) : Tryd.prog.built 28 (#[(0, .int .u32 ((h.v : Nat) : Int)), (1, .agg (arr 32 (bv h.prev))), (2, .agg (arr 32 (bv h.merkle))), (3, .int .u32 ((h.t : Nat) : Int)), (4, .int .u32 ((h.b : Nat) : Int)), (5, .int .u32 ((h.n : Nat) : Int))] : Array (Nat × Value)).toList = some (arr 68 (hc h)) := by kernel_rfl
theorem zeroH (w : World) : (zeroValue 28).run Tryd.prog w = .ok (.agg (arr 68 (hc h0))) w := (zero_of_info infoH).1 w
abbrev noHeader (k : Nat) : Value := .tuple #[.agg (arr 68 (hc h0)), .slice none 0 0, .int .i64 ((k : Nat) : Int)]
def HdGood (w : World) (n : Nat) (x : Nat → Nat) (e : Ending) (w' : World) : Prop :=
  ∃ p g c, e = .returned (.tuple #[.agg (arr 68 (hc (hdOf x))), .slice p (n - 80) c, .int .i64 0]) ∧ Row w' p g 0 (n - 80) c (fun i => x (80 + i)) ∧ Below w.heap.size w w'

end Go.Proofs.YtoopcmcmjaikhaaDoor

