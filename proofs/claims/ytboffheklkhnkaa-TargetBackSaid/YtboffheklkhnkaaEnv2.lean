/- Two new blocks laid, then both written. -/
import Derived.Test.YtboffheklkhnkaaEnvN
namespace Go.Proofs.Ytboffheklkhnkaa
open Go.RowKit Go.Lib Go.Sort
theorem envn_store_new2 {ops : Array Oper} {Q : Exit → Act → World → Prop} {rest : List Oper} {op : Oper} {a : Act} {w0 w1 : World} {l : List (Nat × (Nat → Value))} (E : Hid (EnvN w0 l w1)) (x y : Operand) (hgd : op.guard = none) (ho : op.op = .store 24 x y) (hx : a.eval x = .pointer (some ⟨w1.heap.size, 0, none⟩)) {n : Nat} (hy : a.eval y = wide n)
    (h : ∀ w', Hid (EnvN w0 ((w1.heap.size + 1, wl 0) :: (w1.heap.size, wl n) :: l) w') → wpList Try.prog ops Q rest (a.put op.dst undef) w') : wpList Try.prog ops Q (op :: rest) a ((w1.alloc (.cells z4 24)).alloc (.cells z4 24)) := by
  have E2 := (E.out.nextz rfl).nextz (b := w1.heap.size + 1) (by simp)
  have hz := E2.get (b := w1.heap.size) (f := wl 0) (List.mem_cons_of_mem _ List.mem_cons_self)
  exact wpList_store_all hgd 24 x y ho w1.heap.size 4 hx 24 (wl 0) (wl n) hz hy (by kernel_rfl) (fun _ => rfl) fun w' hh ho' => h w' (Lib.hid (E2.turn (i := 1) rfl hh ho'))
theorem held_load_to {ops : Array Oper} {Q : Exit → Act → World → Prop} {md : Region.Mode} {S : World → Prop} {fuel : Nat} {listed : Array Bool} {a : Act} {w : World} {oi : Oper} (i t : Nat) (x : Operand) {b : Nat} {f : Nat → Value} (hd : oi.dst = some t) (hi : ops[i]? = some oi) (hs : Region.noSelect ops = true) (hf : Region.free md ops listed i = true) (hr : (Region.ready md ops listed).contains i = true)
    (hQ : ∀ c a w, Q (.panic c) (a.put oi.dst (.agg (arr 4 f))) w → Q (.panic c) a w) (hw : Region.wanted oi (yielded ops a.tmps) = true) (ho : oi.op = .load 24 x) (hx : a.eval x = .pointer (some ⟨b, 0, none⟩)) (hl : ∀ W, S W → HasAt b 24 4 f W) (hS : S w)
    (h : wpAnyH Try.prog md ops Q S fuel (listed.setIfInBounds i true) (a.put (some t) (.agg (arr 4 f))) w) : wpAnyH Try.prog md ops Q S (fuel + 1) listed a w :=
  held_load i x hi hs hf hr hQ hw ho hx hl hS (by rw [hd]; exact h)
end Go.Proofs.Ytboffheklkhnkaa
