/- A header read, the document's. -/
import Derived.Test.YtllndneplkigpaaRa
import Derived.Test.YtllndneplkigpaaZC
set_option linter.unusedSimpArgs false
set_option linter.unusedVariables false
namespace Go.Proofs.Ytllndneplkigpaa
open Go.RowKit Go.Lib Go.Sort

theorem set_hc (h h' : Hd) (j : Nat) (v : Value) (e : ∀ i, i < 68 → upd (hc h) j v i = hc h' i) : (arr 68 (hc h)).setIfInBounds j v = arr 68 (hc h') := by
  rw [arr_set]; exact arr_congr e
theorem set_v (h : Hd) (v : Nat) : (arr 68 (hc h)).setIfInBounds 0 (.int .u32 ((v : Nat) : Int)) = arr 68 (hc { h with v := v }) := set_hc _ _ _ _ fun i _ => by
  unfold upd hc
  by_cases e : i = 0
  · rw [if_pos e, if_pos e]
  · rw [if_neg e, if_neg e, if_neg e]
theorem set_t (h : Hd) (v : Nat) : (arr 68 (hc h)).setIfInBounds 65 (.int .u32 ((v : Nat) : Int)) = arr 68 (hc { h with t := v }) := set_hc _ _ _ _ fun i _ => by
  unfold upd hc
  by_cases e : i = 65
  · subst e; rfl
  · rw [if_neg e, if_neg e, if_neg e]
theorem set_b (h : Hd) (v : Nat) : (arr 68 (hc h)).setIfInBounds 66 (.int .u32 ((v : Nat) : Int)) = arr 68 (hc { h with b := v }) := set_hc _ _ _ _ fun i _ => by
  unfold upd hc
  by_cases e : i = 66
  · subst e; rfl
  · rw [if_neg e, if_neg e, if_neg e]
theorem set_n (h : Hd) (v : Nat) : (arr 68 (hc h)).setIfInBounds 67 (.int .u32 ((v : Nat) : Int)) = arr 68 (hc { h with n := v }) := set_hc _ _ _ _ fun i hi => by
  unfold upd hc
  by_cases e : i = 67
  · subst e; rfl
  · rw [if_neg e]
    by_cases e0 : i = 0
    · rw [if_pos e0, if_pos e0]
    · rw [if_neg e0, if_neg e0]
      by_cases e1 : i ≤ 32
      · rw [if_pos e1, if_pos e1]
      · rw [if_neg e1, if_neg e1]
        by_cases e2 : i ≤ 64
        · rw [if_pos e2, if_pos e2]
        · rw [if_neg e2, if_neg e2]
          by_cases e3 : i = 65
          · rw [if_pos e3, if_pos e3]
          · rw [if_neg e3, if_neg e3, if_pos (by omega), if_pos (by omega)]
theorem splice_at (N off k : Nat) (F : Nat → Value) (y : Nat → Nat) (h : off + k ≤ N) : ((arr N F).toList.take off ++ (fbs y k ++ (arr N F).toList.drop (off + (fbs y k).length))).toArray = arr N (fun i => if off ≤ i ∧ i < off + k then .int .u8 ((y (i - off) : Nat) : Int) else F i) := by
  have hl : (arr N F).toList.length = N := by rw [Array.length_toList, arr_size]
  refine arr_of ?_ ?_
  · rw [List.size_toArray, List.length_append, List.length_append, List.length_take, fbs_length, List.length_drop, hl]; omega
  · intro i hi
    rw [List.getElem?_toArray, fbs_length]
    rcases Nat.lt_or_ge i off with q | q
    · rw [List.getElem?_append_left (by rw [List.length_take, hl]; omega), List.getElem?_take, if_pos q, Array.getElem?_toList, arr_get N _ i hi]
      simp only [if_neg (show ¬ (off ≤ i ∧ i < off + k) by omega)]
    · rw [List.getElem?_append_right (by rw [List.length_take, hl]; omega), List.length_take, hl, Nat.min_eq_left (by omega)]
      rcases Nat.lt_or_ge i (off + k) with q2 | q2
      · rw [List.getElem?_append_left (by rw [fbs_length]; omega), fbs_at _ _ _ (by omega)]
        simp only [if_pos (show off ≤ i ∧ i < off + k from ⟨q, q2⟩)]
      · rw [List.getElem?_append_right (by rw [fbs_length]; omega), fbs_length, List.getElem?_drop, Array.getElem?_toList, show off + k + (i - off - k) = i by omega, arr_get N _ i hi]
        simp only [if_neg (show ¬ (off ≤ i ∧ i < off + k) by omega)]
section
variable {ops : Array Oper} {rest : List Oper} {Q : Exit → Act → World → Prop} {op : Oper} {a : Act} {w w0 : World} {l : List (Nat × TypeId × Array Value)}
theorem mem_copy_at (i : Nat) (E : Hid (Mem w0 l w)) (hgd : op.guard = none) (d s : Operand) (ho : op.op = .call { callee := .builtin .copy, args := #[d, s], argTypes := #[22, 22] }) {b T N off : Nat} {F : Nat → Value} (hi : l[i]? = some (b, T, arr N F))
    (hd : a.eval d = .slice (some ⟨b, off, none⟩) 32 32) {q : Option Addr} {g o c : Nat} {y : Nat → Nat} (hs : a.eval s = .slice q 32 c) (R : Hid (Row w q g o 32 c y)) (hn : off + 32 ≤ N)
    (h : ∀ w', Hid (Mem w0 (l.set i (b, T, arr N (fun i => if off ≤ i ∧ i < off + 32 then .int .u8 ((y (i - off) : Nat) : Int) else F i))) w') → wpList Try.prog ops Q rest (a.put op.dst (.int .i64 32)) w') : wpList Try.prog ops Q (op :: rest) a w := by
  obtain rfl := R.out.head (by omega)
  have hg := E.out.get (List.mem_of_getElem? hi)
  refine wpList_copy_own hgd d s 22 22 ho 5 Try.underlying22 (by kernel_rfl) b off 32 32 ⟨g, o, none⟩ 32 c hd hs (arr N F) T hg (fbs y 32) (by rw [fbs_length]; rfl) ?_ (by rw [fbs_length, arr_size]; omega) (fbs_one y 32) ?_
  · intro j v hv
    obtain ⟨hj, rfl⟩ := fbs_get _ _ _ _ hv
    rw [row_add]
    exact R.out.cell j hj
  · rw [splice_at N off 32 F y hn, fbs_length]
    have ho' : Only b w (w.setRow b (arr N (fun i => if off ≤ i ∧ i < off + 32 then .int .u8 ((y (i - off) : Nat) : Int) else F i))) := ⟨rfl, rfl, rfl, by simp, fun k _ hk => setRow_other w b k _ hk⟩
    exact h _ (Lib.hid (E.out.turn hi (setRow_heap w b _ _ T _ hg) ho'))
theorem mem_copy_prev (i : Nat) (E : Hid (Mem w0 l w)) (hgd : op.guard = none) (d s : Operand) (ho : op.op = .call { callee := .builtin .copy, args := #[d, s], argTypes := #[22, 22] }) {b : Nat} {h : Hd} (hi : l[i]? = some (b, 39, arr 68 (hc h)))
    (hd : a.eval d = .slice (some ⟨b, 1, none⟩) 32 32) {q : Option Addr} {g o c : Nat} {y : Nat → Nat} (hs : a.eval s = .slice q 32 c) (R : Hid (Row w q g o 32 c y))
    (k : ∀ w', Hid (Mem w0 (l.set i (b, 39, arr 68 (hc { h with prev := y }))) w') → wpList Try.prog ops Q rest (a.put op.dst (.int .i64 32)) w') : wpList Try.prog ops Q (op :: rest) a w := by
  refine mem_copy_at i E hgd d s ho hi hd hs R (by omega) fun w' E' => k w' ?_
  have e : arr 68 (fun i => if 1 ≤ i ∧ i < 1 + 32 then Value.int .u8 ((y (i - 1) : Nat) : Int) else hc h i) = arr 68 (hc { h with prev := y }) := arr_congr fun i _ => by
    unfold hc
    by_cases e0 : i = 0
    · rw [if_neg (by omega), if_pos e0, if_pos e0]
    · by_cases e1 : i ≤ 32
      · rw [if_pos (by omega), if_neg e0, if_pos e1]
      · rw [if_neg (by omega), if_neg e0, if_neg e1, if_neg e0, if_neg e1]
  rw [← e]; exact E'
theorem mem_copy_merkle (i : Nat) (E : Hid (Mem w0 l w)) (hgd : op.guard = none) (d s : Operand) (ho : op.op = .call { callee := .builtin .copy, args := #[d, s], argTypes := #[22, 22] }) {b : Nat} {h : Hd} (hi : l[i]? = some (b, 39, arr 68 (hc h)))
    (hd : a.eval d = .slice (some ⟨b, 33, none⟩) 32 32) {q : Option Addr} {g o c : Nat} {y : Nat → Nat} (hs : a.eval s = .slice q 32 c) (R : Hid (Row w q g o 32 c y))
    (k : ∀ w', Hid (Mem w0 (l.set i (b, 39, arr 68 (hc { h with merkle := y }))) w') → wpList Try.prog ops Q rest (a.put op.dst (.int .i64 32)) w') : wpList Try.prog ops Q (op :: rest) a w := by
  refine mem_copy_at i E hgd d s ho hi hd hs R (by omega) fun w' E' => k w' ?_
  have e : arr 68 (fun i => if 33 ≤ i ∧ i < 33 + 32 then Value.int .u8 ((y (i - 33) : Nat) : Int) else hc h i) = arr 68 (hc { h with merkle := y }) := arr_congr fun i _ => by
    unfold hc
    by_cases e0 : i = 0
    · rw [if_neg (by omega), if_pos e0, if_pos e0]
    · by_cases e1 : i ≤ 32
      · rw [if_neg (by omega), if_neg e0, if_pos e1, if_neg e0, if_pos e1]
      · by_cases e2 : i ≤ 64
        · rw [if_pos (by omega), if_neg e0, if_neg e1, if_pos e2]
        · rw [if_neg (by omega), if_neg e0, if_neg e1, if_neg e2, if_neg e0, if_neg e1, if_neg e2]
  rw [← e]; exact E'
end

set_option maxRecDepth 100000 in
set_option maxHeartbeats 4000000 in
theorem rhdec_short {w : World} {p : Option Addr} {n c : Nat} (h : n < 80) : Calls Try.prog 49 #[.slice p n c] w fun e w' => e = .returned (noHeader 50) ∧ Below w.heap.size w w' := by
  have E := Lib.hid (Mem.nil w)
  have zH := zeroH
  go_enter Try.func49, Try.ntmps49
  go_wp2_with (first
    | (refine mem_alloc E 39 rfl rfl infoH ?_; clear E; intro b2 w2 E; simp only [arr_cells'] at E)
    | (refine mem_store_row 0 E 39 rfl _ _ rfl rfl rfl rfl (by kernel_rfl) (by simp only [arr_size]) (by exact hc_one _) ?_; clear E; intro w7 E; simp only [List.set_cons_zero, List.set_cons_succ] at E))
  exact bodyPost_ret (res_row_tmp_tmp (fn := Try.f49) rfl _ _ b2 68 39 _ _ rfl (E.out.get List.mem_cons_self) Try.underlying39 rfl (by kernel_rfl)) rfl ⟨rfl, E.out.below⟩

set_option maxRecDepth 100000 in
set_option maxHeartbeats 16000000 in
theorem rhdec_walk {w : World} {g o n c : Nat} {H : Hd} {y : Nat → Nat} {p8 : Option Addr} {o8 : Nat} (ok : Hid H.Ok) (h : 80 ≤ n) (hn : n ≤ 140737488355328)
    (C0 : Hid (∀ W : World, Below w.heap.size w W → Calls Try.prog 69 #[.slice (some ⟨g, o, none⟩) 4 c] W fun e w' => e = .returned (.int .u64 ((H.v : Nat) : Int)) ∧ W = w'))
    (C68 : Hid (∀ W : World, Below w.heap.size w W → Calls Try.prog 69 #[.slice (some ⟨g, o + 68, none⟩) 4 (c - 68)] W fun e w' => e = .returned (.int .u64 ((H.t : Nat) : Int)) ∧ W = w'))
    (C72 : Hid (∀ W : World, Below w.heap.size w W → Calls Try.prog 69 #[.slice (some ⟨g, o + 72, none⟩) 4 (c - 72)] W fun e w' => e = .returned (.int .u64 ((H.b : Nat) : Int)) ∧ W = w'))
    (C76 : Hid (∀ W : World, Below w.heap.size w W → Calls Try.prog 69 #[.slice (some ⟨g, o + 76, none⟩) 4 (c - 76)] W fun e w' => e = .returned (.int .u64 ((H.n : Nat) : Int)) ∧ W = w'))
    (S0 : Hid (∀ W, (Instr.sliceAt 22 (.slice (some ⟨g, o, none⟩) n c) none (some (.int .i64 4)) none).run Try.prog W = .ok (.slice (some ⟨g, o, none⟩) 4 c) W))
    (S4 : Hid (∀ W, (Instr.sliceAt 22 (.slice (some ⟨g, o, none⟩) n c) (some (.int .i64 4)) (some (.int .i64 36)) none).run Try.prog W = .ok (.slice (some ⟨g, o + 4, none⟩) 32 (c - 4)) W))
    (S36 : Hid (∀ W, (Instr.sliceAt 22 (.slice (some ⟨g, o, none⟩) n c) (some (.int .i64 36)) (some (.int .i64 68)) none).run Try.prog W = .ok (.slice (some ⟨g, o + 36, none⟩) 32 (c - 36)) W))
    (S68 : Hid (∀ W, (Instr.sliceAt 22 (.slice (some ⟨g, o, none⟩) n c) (some (.int .i64 68)) (some (.int .i64 72)) none).run Try.prog W = .ok (.slice (some ⟨g, o + 68, none⟩) 4 (c - 68)) W))
    (S72 : Hid (∀ W, (Instr.sliceAt 22 (.slice (some ⟨g, o, none⟩) n c) (some (.int .i64 72)) (some (.int .i64 76)) none).run Try.prog W = .ok (.slice (some ⟨g, o + 72, none⟩) 4 (c - 72)) W))
    (S76 : Hid (∀ W, (Instr.sliceAt 22 (.slice (some ⟨g, o, none⟩) n c) (some (.int .i64 76)) (some (.int .i64 80)) none).run Try.prog W = .ok (.slice (some ⟨g, o + 76, none⟩) 4 (c - 76)) W))
    (P4 : Hid (Row w (some ⟨g, o + 4, none⟩) g (o + 4) 32 (c - 4) H.prev)) (P36 : Hid (Row w (some ⟨g, o + 36, none⟩) g (o + 36) 32 (c - 36) H.merkle))
    (S80 : Hid (∀ W, (Instr.sliceAt 22 (.slice (some ⟨g, o, none⟩) n c) (some (.int .i64 80)) none none).run Try.prog W = .ok (.slice p8 (n - 80) (c - 80)) W)) (RT : Hid (Row w p8 g o8 (n - 80) (c - 80) y)) :
    Calls Try.prog 49 #[(.slice (some ⟨g, o, none⟩) n c)] w fun e w' => ∃ p g c, e = .returned (.tuple #[.agg (arr 68 (hc H)), .slice p (n - 80) c, .int .i64 0]) ∧ Row w' p g 0 (n - 80) c y ∧ Below w.heap.size w w' := by
  have E := Lib.hid (Mem.nil w)
  have hv := ok.out.v
  have ht := ok.out.t
  have hb' := ok.out.b
  have hn' := ok.out.n
  have sh := run_hash
  have s0 := S0.out
  have s4 := S4.out
  have s36 := S36.out
  have s68 := S68.out
  have s72 := S72.out
  have s76 := S76.out
  go_enter Try.func49, Try.ntmps49
  go_upto_region 3 with (refine mem_alloc E 39 rfl rfl infoH ?_; clear E; intro b2 w2 E; simp only [arr_cells'] at E)
  go_upto_region 5 with (first
    | (refine mem_alloc E 39 rfl rfl infoH ?_; clear E; intro b5 w5 E; simp only [arr_cells'] at E)
    | (go_at_call 69; ((with_reducible refine (C0.out _ E.out.below).mono ?_); rintro e wn ⟨rfl, rfl⟩))
    | (refine mem_store_cell 0 E 24 rfl (.tmp 14) (.tmp 13) rfl rfl rfl rfl (by kernel_rfl) rfl rfl (by exact hc_v _) (by exact set_v _ _) ?_; clear E; intro w7 E; simp only [List.set_cons_zero, List.set_cons_succ] at E))
  refine wp_region_still_tail 4 (by kernel_rfl) (by kernel_rfl) ?_
  simp only [List.take_succ_cons, List.take_zero, List.drop_succ_cons, List.drop_zero]
  change wpStill _ _ w7.drew (fun a' => wpList _ _ _ _ a' w7.drew) _ _
  replace E := Lib.hid E.out.drew
  generalize w7.drew = wd5 at *
  iterate 4 still_step
  refine wpStill_nil ?_
  refine mem_copy_prev 0 E rfl (.tmp 16) (.tmp 18) rfl rfl rfl rfl (Lib.hid (P4.out.below E.out.below)) ?_
  clear E
  intro wz5 E
  simp only [List.set_cons_zero] at E
  go_upto_region 6 with fail
  refine wp_region_still_tail 4 (by kernel_rfl) (by kernel_rfl) ?_
  simp only [List.take_succ_cons, List.take_zero, List.drop_succ_cons, List.drop_zero]
  change wpStill _ _ wz5.drew (fun a' => wpList _ _ _ _ a' wz5.drew) _ _
  replace E := Lib.hid E.out.drew
  generalize wz5.drew = wd6 at *
  iterate 4 still_step
  refine wpStill_nil ?_
  refine mem_copy_merkle 0 E rfl (.tmp 21) (.tmp 23) rfl rfl rfl rfl (Lib.hid (P36.out.below E.out.below)) ?_
  clear E
  intro wz6 E
  simp only [List.set_cons_zero] at E
  go_upto_region 10 with (first
    | (go_at_call 69; ((with_reducible refine (C68.out _ E.out.below).mono ?_); rintro e wn ⟨rfl, rfl⟩))
    | (go_at_call 69; ((with_reducible refine (C72.out _ E.out.below).mono ?_); rintro e wn ⟨rfl, rfl⟩))
    | (go_at_call 69; ((with_reducible refine (C76.out _ E.out.below).mono ?_); rintro e wn ⟨rfl, rfl⟩))
    | (refine mem_store_cell 0 E 24 rfl (.tmp 29) (.tmp 28) rfl rfl rfl rfl (by kernel_rfl) rfl rfl (by exact hc_t _) (by exact set_t _ _) ?_; clear E; intro w7 E; simp only [List.set_cons_zero, List.set_cons_succ] at E)
    | (refine mem_store_cell 0 E 24 rfl (.tmp 34) (.tmp 33) rfl rfl rfl rfl (by kernel_rfl) rfl rfl (by exact hc_b _) (by exact set_b _ _) ?_; clear E; intro w7 E; simp only [List.set_cons_zero, List.set_cons_succ] at E)
    | (refine mem_store_cell 0 E 24 rfl (.tmp 39) (.tmp 38) rfl rfl rfl rfl (by kernel_rfl) rfl rfl (by exact hc_n _) (by exact set_n _ _) ?_; clear E; intro w7 E; simp only [List.set_cons_zero, List.set_cons_succ] at E))
  have E : Hid (Mem w [(b5, 39, arr 68 (hc H)), (b2, 39, arr 68 (hc h0))] w7) := E
  refine wp_region_memS (S := fun W => Mem w [(b5, 39, arr 68 (hc H))] W) E (by kernel_rfl) ?_
  clear E
  intro wx E0
  refine hm_run 0 40 (.agg (arr 68 (hc H))) rfl rfl (by kernel_rfl) (by kernel_rfl) (by kernel_rfl) (fun _ _ _ h => h) rfl (fun W hW => exec_load rfl (load_hdr hW List.mem_cons_self)) (E0.out.fst) ?_
  try simp only [Act.put, List.getElem_toArray, List.getElem_cons_succ, List.getElem_cons_zero, List.setIfInBounds_toArray, List.set_cons_zero, List.set_cons_succ]
  refine hm_run 2 42 (.slice (some ⟨g, o, none⟩) n c) rfl rfl (by kernel_rfl) (by kernel_rfl) (by kernel_rfl) (fun _ _ _ h => h) rfl (fun _ _ => rfl) (E0.out.fst) ?_
  try simp only [Act.put, List.getElem_toArray, List.getElem_cons_succ, List.getElem_cons_zero, List.setIfInBounds_toArray, List.set_cons_zero, List.set_cons_succ]
  refine hm_run 3 43 (.slice p8 (n - 80) (c - 80)) rfl rfl (by kernel_rfl) (by kernel_rfl) (by kernel_rfl) (fun _ _ _ h => h) rfl (fun W _ => exec_sl rfl (S80.out W)) (E0.out.fst) ?_
  try simp only [Act.put, List.getElem_toArray, List.getElem_cons_succ, List.getElem_cons_zero, List.setIfInBounds_toArray, List.set_cons_zero, List.set_cons_succ]
  refine hm_one (i := 1) (by kernel_rfl) ?_
  refine hm_step 1 rfl (by kernel_rfl) fun K hK => ?_
  try simp only [Act.put, List.getElem_toArray, List.getElem_cons_succ, List.getElem_cons_zero, List.setIfInBounds_toArray, List.set_cons_zero, List.set_cons_succ]
  try simp only [Act.put, List.getElem_toArray, List.getElem_cons_succ, List.getElem_cons_zero, List.setIfInBounds_toArray, List.set_cons_zero, List.set_cons_succ]
  refine mo_known (.slice (some ⟨wx.heap.size, 0, none⟩) 0 0) (wx.alloc (.cells #[] 5)) (by first | rfl | kernel_rfl) ?_
  have E3_1 := Lib.hid (E0.out.call (below_new wx (.cells #[] 5)))
  have NA := Lib.hid (own_start wx y RT.out.byte)
  have HS := Lib.hid E0.out.lt
  have WS := Lib.hid E0.out.below.size
  refine hK _ _ (E3_1.out.fst) ?_
  clear hK K
  try simp only [Act.put, List.getElem_toArray, List.getElem_cons_succ, List.getElem_cons_zero, List.setIfInBounds_toArray, List.set_cons_zero, List.set_cons_succ]
  refine hm_one (i := 4) (by kernel_rfl) ?_
  refine hm_step 4 rfl (by kernel_rfl) fun K hK => ?_
  try simp only [Act.put, List.getElem_toArray, List.getElem_cons_succ, List.getElem_cons_zero, List.setIfInBounds_toArray, List.set_cons_zero, List.set_cons_succ]
  try simp only [Act.put, List.getElem_toArray, List.getElem_cons_succ, List.getElem_cons_zero, List.setIfInBounds_toArray, List.set_cons_zero, List.set_cons_succ]
  refine mo_app (.tmp 41) (.tmp 43) rfl rfl NA rfl (Lib.hid (RT.out.below E3_1.out.below)) (by omega) ?_
  intro p9 g9 c9 w9 N9 hb9
  have E4_4 := Lib.hid (E3_1.out.part hb9.out WS.out HS.out)
  simp only [Nat.zero_add] at N9 ⊢
  refine hK _ _ (E4_4.out.fst) ?_
  clear hK K
  try simp only [Act.put, List.getElem_toArray, List.getElem_cons_succ, List.getElem_cons_zero, List.setIfInBounds_toArray, List.set_cons_zero, List.set_cons_succ]
  refine hm_one (i := 5) (by kernel_rfl) ?_
  refine hm_step 5 rfl (by kernel_rfl) fun K hK => ?_
  try simp only [Act.put, List.getElem_toArray, List.getElem_cons_succ, List.getElem_cons_zero, List.setIfInBounds_toArray, List.set_cons_zero, List.set_cons_succ]
  try simp only [Act.put, List.getElem_toArray, List.getElem_cons_succ, List.getElem_cons_zero, List.setIfInBounds_toArray, List.set_cons_zero, List.set_cons_succ]
  refine mo_store_only 1 E4_4 39 (.tmp 2) (.tmp 40) rfl rfl rfl rfl (by kernel_rfl) (by simp only [arr_size]) (by exact hc_one _) ?_
  intro wm E5_5 HO
  simp only [List.set_cons_zero, List.set_cons_succ] at E5_5
  have NZ : Hid (Row wm p9 g9 0 (n - 80) c9 y) := Lib.hid ((row_of_own N9.out E4_4.out HS.out (i := 1) rfl HO.out).to (fun i _ => cat_zero _ _ i) RT.out.byte)
  refine hK _ _ (E5_5.out.fst) ?_
  clear hK K
  try simp only [Act.put, List.getElem_toArray, List.getElem_cons_succ, List.getElem_cons_zero, List.setIfInBounds_toArray, List.set_cons_zero, List.set_cons_succ]
  refine hm_run 6 3 _ rfl rfl (by kernel_rfl) (by kernel_rfl) (by kernel_rfl) (fun _ _ _ h => h) rfl (fun _ _ => rfl) (E5_5.out.fst) ?_
  try simp only [Act.put, List.getElem_toArray, List.getElem_cons_succ, List.getElem_cons_zero, List.setIfInBounds_toArray, List.set_cons_zero, List.set_cons_succ]
  refine hm_run 7 4 _ rfl rfl (by kernel_rfl) (by kernel_rfl) (by kernel_rfl) (fun _ _ _ h => h) rfl (fun _ _ => rfl) (E5_5.out.fst) ?_
  try simp only [Act.put, List.getElem_toArray, List.getElem_cons_succ, List.getElem_cons_zero, List.setIfInBounds_toArray, List.set_cons_zero, List.set_cons_succ]
  refine wpAnyH_done (by kernel_rfl) ?_ _
  go_wp2_with fail
  exact bodyPost_ret (res_row_tmp_tmp (fn := Try.f49) rfl _ _ b2 68 39 _ _ rfl (E5_5.out.get (List.mem_cons_of_mem _ List.mem_cons_self)) Try.underlying39 rfl (by kernel_rfl)) rfl ⟨p9, g9, c9, rfl, NZ.out, E5_5.out.below⟩

theorem run_cut {g o n c : Nat} (l k : Nat) (hk : 0 < k) (h : l + k ≤ c) (W : World) : (Instr.sliceAt 22 (.slice (some ⟨g, o, none⟩) n c) (some (.int .i64 ((l : Nat) : Int))) (some (.int .i64 ((l + k : Nat) : Int))) none).run Try.prog W = .ok (.slice (some ⟨g, o + l, none⟩) k (c - l)) W := by
  rw [run_sl (bounds_lh (by omega) h)]
  unfold sliced
  rw [if_neg (by omega), Nat.mul_one]
  show Result.ok (Value.slice (some ((⟨g, o, none⟩ : Addr).add l)) (l + k - l) (c - l)) W = _
  rw [row_add, Nat.add_sub_cancel_left]
theorem run_cut0 {g o n c : Nat} (k : Nat) (hk : 0 < k) (h : k ≤ c) (W : World) : (Instr.sliceAt 22 (.slice (some ⟨g, o, none⟩) n c) none (some (.int .i64 ((k : Nat) : Int))) none).run Try.prog W = .ok (.slice (some ⟨g, o, none⟩) k c) W := by
  rw [run_sl (bounds_h h)]
  unfold sliced
  rw [if_neg (by omega), Nat.zero_mul]
  show Result.ok (Value.slice (some ((⟨g, o, none⟩ : Addr).add 0)) (k - 0) (c - 0)) W = _
  rw [row_add]
  rfl
theorem Row.cut {w : World} {g o n c : Nat} {x : Nat → Nat} (R : Row w (some ⟨g, o, none⟩) g o n c x) (l k : Nat) (h : l + k ≤ n) : Row w (some ⟨g, o + l, none⟩) g (o + l) k (c - l) (fun i => x (l + i)) :=
  ⟨by have := R.le; omega, by have := R.cap; omega, fun e => (by cases e), fun _ => rfl, fun i hi => by rw [Nat.add_assoc]; exact R.cell (l + i) (by omega), fun i => R.byte _⟩
theorem rhdec_long {w : World} {g o n c : Nat} {x : Nat → Nat} (R : Hid (Row w (some ⟨g, o, none⟩) g o n c x)) (h : 80 ≤ n) (hn : n ≤ 140737488355328) : Calls Try.prog 49 #[(.slice (some ⟨g, o, none⟩) n c)] w (HdGood w n x) := by
  have hc' : n ≤ c := R.out.le
  obtain ⟨p8, e8, R8⟩ := R.out.slice (l := 80) (h := n) (m := c) h (Nat.le_refl _) R.out.le (Nat.le_refl _)
  have S80 : Hid (∀ W, (Instr.sliceAt 22 (.slice (some ⟨g, o, none⟩) n c) (some (.int .i64 80)) none none).run Try.prog W = .ok (.slice p8 (n - 80) (c - 80)) W) := Lib.hid fun W => by
    have := run_sl (w := W) (p := some ⟨g, o, none⟩) (bounds_l (n := n) (c := c) (l := 80) h)
    rw [e8] at this
    exact this
  have R0 : Row w (some ⟨g, o, none⟩) g o 4 c x := ⟨by omega, R.out.cap, fun e => (by cases e), fun _ => rfl, fun i hi => R.out.cell i (by omega), R.out.byte⟩
  exact rhdec_walk (H := hdOf x) (Lib.hid (hdOf_ok R.out.byte)) h hn (Lib.hid fun W hW => ref_number_any (Lib.hid (R0.below hW)) (by omega)) (Lib.hid fun W hW => ref_number_any (Lib.hid ((R.out.cut 68 4 (by omega)).below hW)) (by omega)) (Lib.hid fun W hW => ref_number_any (Lib.hid ((R.out.cut 72 4 (by omega)).below hW)) (by omega)) (Lib.hid fun W hW => ref_number_any (Lib.hid ((R.out.cut 76 4 (by omega)).below hW)) (by omega))
    (Lib.hid (run_cut0 4 (by omega) (by omega))) (Lib.hid (run_cut 4 32 (by omega) (by omega))) (Lib.hid (run_cut 36 32 (by omega) (by omega))) (Lib.hid (run_cut 68 4 (by omega) (by omega))) (Lib.hid (run_cut 72 4 (by omega) (by omega))) (Lib.hid (run_cut 76 4 (by omega) (by omega)))
    (Lib.hid (R.out.cut 4 32 (by omega))) (Lib.hid (R.out.cut 36 32 (by omega))) S80 (Lib.hid R8)
end Go.Proofs.Ytllndneplkigpaa
