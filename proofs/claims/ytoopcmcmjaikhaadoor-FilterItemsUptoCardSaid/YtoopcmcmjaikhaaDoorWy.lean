/- A new writer; a writer's bytes. -/
import Derived.Test.YtoopcmcmjaikhaaDoorWx
set_option linter.unusedSimpArgs false
set_option linter.unusedVariables false
set_option maxRecDepth 100000
namespace Go.Proofs.YtoopcmcmjaikhaaDoor
open Go.RowKit Go.Lib Go.Sort

/-- A new writer. -/
theorem rinew_any (w : World) : Calls Tryd.prog 36 #[] w fun e w' => ∃ b bf bw, e = .returned (.pointer (some ⟨b, 0, none⟩)) ∧ Wtr w w' b bf bw [] ∧ Below w.heap.size w w' := by
  have E := Lib.hid (Mem.nil w)
  have hmf : ∀ (fn : Fn) (first cap : Array Value) (w : World), (Instr.makeFunc fn first cap).run Tryd.prog w = .ok (.func fn first cap) w := fun _ _ _ _ => rfl
  go_enter Tryd.func36, Tryd.ntmps36
  go_wp2_with (first
    | (refine mem_alloc E 32 rfl rfl (z := .slice none 0 0) (n := 1) (by kernel_rfl) ?_; clear E; intro bw w1 E)
    | (refine mem_alloc E 3 rfl rfl (z := .int .i64 0) (n := 1) (by kernel_rfl) ?_; clear E; intro bf w2 E)
    | (refine mem_store_cell 0 E 3 rfl (.tmp 2) (.const (.int .i64 0)) rfl rfl rfl rfl (by kernel_rfl) (v := .int .i64 0) rfl rfl rfl (c' := #[.int .i64 0]) rfl ?_; clear E; intro w3 E; simp only [List.set_cons_zero] at E)
    | (refine wpList_bld 111 _ rfl rfl (ps := #[(0, .func (.func 69) #[] #[.pointer (some ⟨bf, 0, none⟩), .pointer (some ⟨bw, 0, none⟩)]), (1, .func (.func 70) #[] #[.pointer (some ⟨bw, 0, none⟩)])]) (by kernel_rfl) (by kernel_rfl) ?_)
    | (refine mem_box (c := #[.func (.func 69) #[] #[.pointer (some ⟨bf, 0, none⟩), .pointer (some ⟨bw, 0, none⟩)], .func (.func 70) #[] #[.pointer (some ⟨bw, 0, none⟩)]]) E 111 rfl (.tmp 5) rfl rfl rfl ?_; clear E; intro b w4 E))
  go_ret
  refine ⟨b, bf, bw, rfl, ⟨E.out.get List.mem_cons_self, ⟨none, 0, 0, ?_⟩, by simp⟩, E.out.below⟩
  exact Wb.none E.out.tail fun q hq => by
    simp only [List.mem_cons, List.not_mem_nil, or_false] at hq
    rcases hq with rfl | rfl
    · show (3 : Nat) ≠ 5; decide
    · show (32 : Nat) ≠ 5; decide
section
variable {D w : World} {b bf bw : Nat} {l : List Bool}
/-- A writer whose memory begins further down. -/
theorem Wtr.base {D0 : World} (h : Wtr D w b bf bw l) (hb : Below D0.heap.size D0 D) : Wtr D0 w b bf bw l := by
  obtain ⟨p, g, c, K⟩ := h.at'
  refine ⟨h.box, ⟨p, g, c, ⟨hb.trans (K.mem.below.mono hb.size), K.mem.has, K.mem.nd, fun q hq => Nat.le_trans hb.size (K.mem.ge q hq)⟩, K.own.mono hb.size, K.nb⟩, h.len⟩
theorem all_any (h : WAt D w bf bw l) (hl : l.length ≤ 1000000000000) : Calls Tryd.prog 70 #[.pointer (some ⟨bw, 0, none⟩)] w (GetsL w (pk l)) := by
  obtain ⟨p, g, c, K⟩ := h
  have c0 := cell_of_here (K.mem.get (b := bw) (List.mem_cons_of_mem _ List.mem_cons_self)) 0 (v := .slice p (nB l.length) c) rfl
  obtain ⟨xs, hx⟩ : ∃ xs, xs = pk l := ⟨_, rfl⟩
  have e1 : nB l.length = xs.length := by rw [hx, pk_length]
  rw [e1] at c0
  have LX := Lib.hid (show xs.length ≤ 140737488355328 by rw [← e1]; unfold nB; omega)
  rw [← hx] at K ⊢
  have R := Lib.hid K.row
  clear K hx e1 hl
  go_enter Tryd.func70, Tryd.ntmps70
  go_wp2_with (go_at_call 32; refine (clone_any R LX.out).mono ?_; rintro e w2 ⟨p2, g2, c2, rfl, N2, hb2⟩; have N := Lib.hid N2; have B := Lib.hid hb2; clear N2 hb2)
  go_ret
  exact ⟨p2, g2, c2, rfl, N.out, B.out⟩
theorem wbytes_any (h : Wtr D w b bf bw l) : Calls Tryd.prog 39 #[.pointer (some ⟨b, 0, none⟩)] w (GetsL w (pk l)) := by
  have M := Lib.hid (wmade_any h)
  have c1 := cell_of_here h.box 1 (v := .func (.func 70) #[] #[.pointer (some ⟨bw, 0, none⟩)]) rfl
  have P := Lib.hid (all_any h.at' h.len)
  clear h
  go_enter Tryd.func39, Tryd.ntmps39
  go_wp2_with (first
    | (go_at_call 71; refine M.out.mono ?_; rintro e w2 ⟨rfl, rfl⟩)
    | (go_at_call 70; refine P.out.mono ?_; rintro e w2 ⟨p2, g2, c2, rfl, N2, hb2⟩; have N := Lib.hid N2; have B := Lib.hid hb2; clear N2 hb2))
  go_ret
  exact ⟨p2, g2, c2, rfl, N.out, B.out⟩
end
end Go.Proofs.YtoopcmcmjaikhaaDoor

