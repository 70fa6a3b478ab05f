/- A header written, the document's. -/
import Derived.Test.YtoopcmcmjaikhaaDoorHq
import Derived.Test.YtoopcmcmjaikhaaDoorZA
set_option linter.unusedSimpArgs false
set_option linter.unusedVariables false
namespace Go.Proofs.YtoopcmcmjaikhaaDoor
open Go.RowKit Go.Lib Go.Sort

theorem wp_region_work {P : Program} {ops : Array Oper} {Q : Exit → Act → World → Prop} {S : World → Prop} {w0 w : World} {l : List (Nat × TypeId × Array Value)} {B g n c : Nat} {p : Option Addr} {x : Nat → Nat} {id : Nat} {a : Act} (K : Hid (Work w0 l B p g n c x w)) (hm : P.follows .mixedOrders = true)
    (h : ∀ w', Hid (Work w0 l B p g n c x w') → wpAnyH P .any ops Q S ops.size (Array.replicate ops.size false) a w') : (Code.region id ops true).wp P Q a w :=
  wp_region_held hm (h _ (Lib.hid ⟨⟨⟨K.out.mem.below.os, K.out.mem.below.tape, K.out.mem.below.output, K.out.mem.below.size, K.out.mem.below.block⟩, K.out.mem.has, K.out.mem.nd, K.out.mem.ge⟩, ⟨K.out.own.own, K.out.own.spot, K.out.own.byte, K.out.own.low⟩, K.out.low, K.out.under⟩))
/-- The three numbers at a header's end. -/
def uvn (h : Hd) (j : Nat) : Nat := if j = 0 then h.t else if j = 1 then h.b else h.n
def uv (h : Hd) (j : Nat) : Value := .int .u32 ((uvn h j : Nat) : Int)
theorem uvn_lt {h : Hd} (ok : h.Ok) (j : Nat) : uvn h j < 4294967296 := by
  unfold uvn
  split
  · exact ok.t
  · split
    · exact ok.b
    · exact ok.n
theorem front (h : Hd) (i : Nat) (hi : i < 68) : cat (cat (byteAt h.v) 4 h.prev) 36 h.merkle i = hb h i := by
  unfold cat hb
  repeat' split
  all_goals first | rfl | omega
theorem back_more (h : Hd) (j : Nat) (hj : j < 3) (i : Nat) (hi : i < 68 + 4 * j + 4) : cat (hb h) (68 + 4 * j) (byteAt (uvn h j)) i = hb h i := by
  unfold cat
  split
  · rfl
  · have hj3 : j = 0 ∨ j = 1 ∨ j = 2 := by omega
    rcases hj3 with rfl | rfl | rfl
    all_goals
      unfold hb uvn
      repeat' split
      all_goals first | rfl | omega

set_option maxRecDepth 100000 in
set_option maxHeartbeats 4000000 in
theorem rhenc_any {h : Hd} (ok : Hid h.Ok) (w : World) : Calls Tryd.prog 30 #[.agg (arr 68 (hc h))] w (Gets w 80 (hb h)) := by
  have E := Lib.hid (Mem.nil w)
  have hv := ok.out.v
  have ht := ok.out.t
  have hb' := ok.out.b
  have hn := ok.out.n
  go_enter Tryd.func30, Tryd.ntmps30
  go_upto_region 2 with (first
    | (refine mem_box E 28 rfl _ rfl rfl (arr_cells' 68 (hc h)) ?_; clear E; intro b2 w2 E)
    | (refine mem_load_cell E 26 (by kernel_rfl) (.tmp 6) rfl rfl List.mem_cons_self Tryd.underlying26 rfl (hc_v h) ?_)
    | (go_at_call 60; refine (low_any h.v 4 (by omega) _).mono ?_; rintro e w1 ⟨p1, g1, c1, rfl, N1, hb⟩; have K := Lib.hid (Work.start E.out N1 hb); clear hb N1 E))
  refine wp_region_work (S := fun _ => True) K (by kernel_rfl) ?_
  clear K
  intro wx E0
  refine hm_run 0 10 _ rfl rfl (by kernel_rfl) (by kernel_rfl) (by kernel_rfl) (fun _ _ _ h => h) rfl (fun _ _ => rfl) trivial ?_
  try simp only [Act.put, List.getElem_toArray, List.getElem_cons_succ, List.getElem_cons_zero, List.setIfInBounds_toArray, List.set_cons_zero, List.set_cons_succ]
  refine hm_run 1 11 (.pointer (some ⟨b2, 1, none⟩)) rfl rfl (by kernel_rfl) (by kernel_rfl) (by kernel_rfl) (fun _ _ _ h => h) rfl (fun _ _ => by kernel_rfl) trivial ?_
  try simp only [Act.put, List.getElem_toArray, List.getElem_cons_succ, List.getElem_cons_zero, List.setIfInBounds_toArray, List.set_cons_zero, List.set_cons_succ]
  refine hm_run 2 12 (.slice (some ⟨b2, 1, none⟩) 32 32) rfl rfl (by kernel_rfl) (by kernel_rfl) (by kernel_rfl) (fun _ _ _ h => h) rfl (fun W _ => exec_sl rfl (run_hash b2 1 W)) trivial ?_
  try simp only [Act.put, List.getElem_toArray, List.getElem_cons_succ, List.getElem_cons_zero, List.setIfInBounds_toArray, List.set_cons_zero, List.set_cons_succ]
  refine hm_run 4 14 (.pointer (some ⟨b2, 33, none⟩)) rfl rfl (by kernel_rfl) (by kernel_rfl) (by kernel_rfl) (fun _ _ _ h => h) rfl (fun _ _ => by kernel_rfl) trivial ?_
  try simp only [Act.put, List.getElem_toArray, List.getElem_cons_succ, List.getElem_cons_zero, List.setIfInBounds_toArray, List.set_cons_zero, List.set_cons_succ]
  refine hm_run 5 15 (.slice (some ⟨b2, 33, none⟩) 32 32) rfl rfl (by kernel_rfl) (by kernel_rfl) (by kernel_rfl) (fun _ _ _ h => h) rfl (fun W _ => exec_sl rfl (run_hash b2 33 W)) trivial ?_
  try simp only [Act.put, List.getElem_toArray, List.getElem_cons_succ, List.getElem_cons_zero, List.setIfInBounds_toArray, List.set_cons_zero, List.set_cons_succ]
  refine hm_one (i := 3) (by kernel_rfl) ?_
  refine hm_step 3 rfl (by kernel_rfl) fun K hK => ?_
  try simp only [Act.put, List.getElem_toArray, List.getElem_cons_succ, List.getElem_cons_zero, List.setIfInBounds_toArray, List.set_cons_zero, List.set_cons_succ]
  refine mo_app (.tmp 10) (.tmp 12) rfl rfl (Lib.hid E0.out.own) rfl (Lib.hid (E0.out.mem.prev List.mem_cons_self ok.out)) (by omega) ?_
  intro p4 g4 c4 w4 N4 hb4
  have E5_3 := Lib.hid (E0.out.turn N4.out hb4.out)
  simp only [Nat.reduceAdd] at E5_3 ⊢
  clear N4 hb4
  refine hK _ _ trivial ?_
  clear hK K
  try simp only [Act.put, List.getElem_toArray, List.getElem_cons_succ, List.getElem_cons_zero, List.setIfInBounds_toArray, List.set_cons_zero, List.set_cons_succ]
  refine hm_one (i := 6) (by kernel_rfl) ?_
  refine hm_step 6 rfl (by kernel_rfl) fun K hK => ?_
  try simp only [Act.put, List.getElem_toArray, List.getElem_cons_succ, List.getElem_cons_zero, List.setIfInBounds_toArray, List.set_cons_zero, List.set_cons_succ]
  refine mo_app (.tmp 13) (.tmp 15) rfl rfl (Lib.hid E5_3.out.own) rfl (Lib.hid (E5_3.out.mem.merkle List.mem_cons_self ok.out)) (by omega) ?_
  intro p4 g4 c4 w4 N4 hb4
  have E6_6 := Lib.hid (E5_3.out.turn N4.out hb4.out)
  simp only [Nat.reduceAdd] at E6_6 ⊢
  clear N4 hb4
  refine hK _ _ trivial ?_
  clear hK K
  try simp only [Act.put, List.getElem_toArray, List.getElem_cons_succ, List.getElem_cons_zero, List.setIfInBounds_toArray, List.set_cons_zero, List.set_cons_succ]
  refine hm_run 7 3 _ rfl rfl (by kernel_rfl) (by kernel_rfl) (by kernel_rfl) (fun _ _ _ h => h) rfl (fun _ _ => rfl) trivial ?_
  try simp only [Act.put, List.getElem_toArray, List.getElem_cons_succ, List.getElem_cons_zero, List.setIfInBounds_toArray, List.set_cons_zero, List.set_cons_succ]
  refine wpAnyH_done (by kernel_rfl) ?_ _
  have K := E6_6
  go_wp2_with (first
    | (refine mem_load_cell (Lib.hid K.out.mem) 26 (by kernel_rfl) (.tmp 17) rfl rfl List.mem_cons_self Tryd.underlying26 rfl (hc_t h) ?_)
    | (refine mem_load_cell (Lib.hid K.out.mem) 26 (by kernel_rfl) (.tmp 19) rfl rfl List.mem_cons_self Tryd.underlying26 rfl (hc_b h) ?_)
    | (refine mem_load_cell (Lib.hid K.out.mem) 26 (by kernel_rfl) (.tmp 21) rfl rfl List.mem_cons_self Tryd.underlying26 rfl (hc_n h) ?_))
  have G := Lib.hid (K.out.to (y := hb h) (front h) (hb_lt ok.out)).gets
  have ba := below_new w4 (.cells (arr 3 (uv h)) 26)
  have N0 := Lib.hid (G.out.1.below ba)
  have B0 := Lib.hid (G.out.2.trans (ba.mono G.out.2.size))
  obtain ⟨bs, hbs⟩ : ∃ bs, bs = w4.heap.size := ⟨_, rfl⟩
  have U0 : Hid ((w4.alloc (.cells (arr 3 (uv h)) 26)).heap[bs]? = some (.cells (arr 3 (uv h)) 26 (0, 0))) := Lib.hid (by rw [hbs]; exact here_new w4 _ _)
  rw [← hbs]
  clear hbs
  clear K G ba
  go_loopg [3, 25] 3 (fun k s i wr => ∃ (j : Nat) (p : Option Addr) (g c : Nat), j + k = 3 ∧ i = .int .i64 (j : Int) ∧ s = .slice p (68 + 4 * j) c ∧ Hid (Own w.heap.size wr p g (68 + 4 * j) c (hb h)) ∧ Hid (Below w.heap.size w wr) ∧ Hid (wr.heap[bs]? = some (.cells (arr 3 (uv h)) 26 (0, 0))))
  case atStart => exact ⟨0, _, _, _, by omega, rfl, rfl, N0, B0, U0⟩
  case round =>
    clear N0 B0 U0
    obtain ⟨j, p, g, c, hj, rfl, rfl, N, B, U⟩ := hrel
    obtain ⟨kk, rfl⟩ : ∃ kk : Nat, kk = gk := ⟨_, rfl⟩
    by_cases hlt : j < 3
    · have c0 := cell_of_here U.out j (arr_get 3 (uv h) j hlt)
      unfold uv at c0
      have hu := uvn_lt ok.out j
      obtain ⟨u, hu'⟩ : ∃ u, u = uvn h j := ⟨_, rfl⟩
      rw [← hu'] at c0 hu
      have UQ := Lib.hid hu'
      clear hu'
      go_upto_region 6 with fail
      go_wp2_with (first
        | (go_at_call 60; refine (low_any u 4 (by omega) _).mono ?_; rintro e w5 ⟨p5, g5, c5, rfl, N5, hb5⟩; have R5 := Lib.hid N5.row; have N6 := Lib.hid (N.out.below hb5); have B6 := Lib.hid (B.out.trans (hb5.mono B.out.size)); have U6 := Lib.hid ((hb5.block bs (heap_lt U.out)).trans U.out); clear hb5 N5 N B U c0)
        | (at_builtin; refine wpList_appk (by kernel_rfl) (.tmp 29) (.tmp 32) rfl rfl N6 rfl R5 (by omega) ?_; intro p7 g7 c7 w7 N7 hb7 hk7; have B7 := Lib.hid (B6.out.trans hb7.out); have U7 := Lib.hid (hk7.out _ _ _ (by decide) U6.out); clear N6 B6 U6 hb7 hk7 R5))
      have N8 := Lib.hid (N7.out.to (y := hb h) (fun i hi => by rw [UQ.out]; exact back_more h j hlt i hi) (hb_lt ok.out))
      clear N7 UQ
      go_roundg (kk - 1)
      case measure => omega
      case rel => exact ⟨j + 1, p7, g7, c7, by omega, by go_num, rfl, N8, B7, U7⟩
    · obtain rfl : j = 3 := by omega
      go_wp2
      go_ret
      exact ⟨p, g, c, rfl, N.out, B.out⟩
end Go.Proofs.YtoopcmcmjaikhaaDoor

