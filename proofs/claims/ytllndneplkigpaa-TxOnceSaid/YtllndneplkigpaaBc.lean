/- A block in memory of its own; two blocks that are the same. -/
import Derived.Test.YtllndneplkigpaaRbe
import Derived.Test.YtllndneplkigpaaRl
import Derived.Test.YtllndneplkigpaaTj
set_option linter.unusedSimpArgs false
set_option linter.unusedVariables false
set_option maxRecDepth 100000
namespace Go.Proofs.Ytllndneplkigpaa
open Go.RowKit Go.Lib Go.Sort

theorem part_v (h : Hd) (w : World) : (part 24 (arr 68 (hc h)) 0).run Try.prog w = .ok (.int .u32 ((h.v : Nat) : Int)) w := by kernel_rfl
theorem part_p (h : Hd) (w : World) : (part 37 (arr 68 (hc h)) 1).run Try.prog w = .ok (.agg (arr 32 (bv h.prev))) w := by kernel_rfl
theorem part_m (h : Hd) (w : World) : (part 37 (arr 68 (hc h)) 33).run Try.prog w = .ok (.agg (arr 32 (bv h.merkle))) w := by kernel_rfl
theorem part_t (h : Hd) (w : World) : (part 24 (arr 68 (hc h)) 65).run Try.prog w = .ok (.int .u32 ((h.t : Nat) : Int)) w := by kernel_rfl
theorem part_b (h : Hd) (w : World) : (part 24 (arr 68 (hc h)) 66).run Try.prog w = .ok (.int .u32 ((h.b : Nat) : Int)) w := by kernel_rfl
theorem part_n (h : Hd) (w : World) : (part 24 (arr 68 (hc h)) 67).run Try.prog w = .ok (.int .u32 ((h.n : Nat) : Int)) w := by kernel_rfl
theorem same_hdr (h : Hd) (w : World) : (Op.equalIn 10000 39 (.agg (arr 68 (hc h))) (.agg (arr 68 (hc h)))).run Try.prog w = .ok true w := by
  rw [run_equalIn_struct w 9999 39 _ _ hdr_is' (by kernel_rfl)]
  refine eqFields_all _ fun f hf => ?_
  have hm : (f.type, f.offset) ∈ [(24, 0), (37, 1), (37, 33), (24, 65), (24, 66), (24, 67)] := by
    rw [← hdr_fields']
    exact List.mem_map.2 ⟨f, hf, rfl⟩
  have num : ∀ (n : Nat), (Op.equalIn 9999 24 (.int .u32 ((n : Nat) : Int)) (.int .u32 ((n : Nat) : Int))).run Try.prog w = .ok true w := fun n => by
    rw [run_equalIn_int w 9998 24 .u32 .u32 _ _ Try.underlying24]
    simp
  simp only [List.mem_cons, List.not_mem_nil, or_false, Prod.mk.injEq] at hm
  rcases hm with ⟨e1, e2⟩ | ⟨e1, e2⟩ | ⟨e1, e2⟩ | ⟨e1, e2⟩ | ⟨e1, e2⟩ | ⟨e1, e2⟩
  · rw [e1, e2]; exact ⟨_, part_v h w, num _⟩
  · rw [e1, e2]; exact ⟨_, part_p h w, same_bytes_at (d := 9997) Try.underlying37 _ w⟩
  · rw [e1, e2]; exact ⟨_, part_m h w, same_bytes_at (d := 9997) Try.underlying37 _ w⟩
  · rw [e1, e2]; exact ⟨_, part_t h w, num _⟩
  · rw [e1, e2]; exact ⟨_, part_b h w, num _⟩
  · rw [e1, e2]; exact ⟨_, part_n h w, num _⟩

set_option maxHeartbeats 4000000 in
theorem eftx_any {w : World} {v v' : Value} {ts : List TTx} (A : Hid (TxsAt w v ts)) (A' : Hid (TxsAt w v' ts)) :
    Calls Try.prog 51 #[v, v', .func (.func 11) #[] #[]] w fun e w' => e = .returned (.bool true) ∧ Below w.heap.size w w' := by
  obtain ⟨p, g, o, c, V, hv, hc, R0, hi⟩ := A.out
  obtain ⟨p', g', o', c', V', hv', hc', R0', hi'⟩ := A'.out
  subst hv hv'
  have RR := Lib.hid R0
  have SS := Lib.hid R0'
  have TT := Lib.hid hi
  have TU := Lib.hid hi'
  clear R0 hi A R0' hi' A' hc'
  have E := Lib.hid (Mem.nil w)
  obtain ⟨n, hn⟩ : ∃ n, n = ts.length := ⟨_, rfl⟩
  have HN := Lib.hid hn
  rw [← hn] at RR SS hc ⊢
  have hn3 : n ≤ 140737488355328 := by omega
  clear hn hc
  go_enter Try.func51, Try.ntmps51
  go_wp2
  go_loopg [17] n (fun k i wr => ∃ j : Nat, j + k = n ∧ i = .int .i64 (j : Int) ∧ Hid (Mem w [] wr))
  case atStart => exact ⟨0, by omega, rfl, E⟩
  case round =>
    clear E
    obtain ⟨j, hj, rfl, E⟩ := hrel
    obtain ⟨kk, rfl⟩ : ∃ kk : Nat, kk = gk := ⟨_, rfl⟩
    by_cases hlt : j < n
    · obtain rfl := RR.out.head (by omega)
      obtain rfl := SS.out.head (by omega)
      have ht : j < ts.length := by rw [← HN.out]; exact hlt
      have EC := Lib.hid (TT.out j ht)
      have ED := Lib.hid (TU.out j ht)
      go_wp2_with (first
        | (refine wpList_ix (k := 4) (j := j) Try.underlying35 (by kernel_rfl) (.tmp 15) (.tmp 17) rfl rfl rfl rfl hlt rfl ?_)
        | (refine wpList_ix (k := 4) (j := j) Try.underlying35 (by kernel_rfl) (.tmp 22) (.tmp 23) rfl rfl rfl rfl hlt rfl ?_)
        | (refine wpList_ld 28 (.tmp 20) rfl rfl rfl ((RR.out.below E.out.below).load hlt Try.underlying28 rfl (by kernel_rfl)) ?_)
        | (refine wpList_ld 28 (.tmp 24) rfl rfl rfl ((SS.out.below E.out.below).load hlt Try.underlying28 rfl (by kernel_rfl)) ?_)
        | (refine mem_alloc E 28 rfl rfl infoTx ?_; clear E; intro bn wn E)
        | (refine mem_store_row 0 E 28 rfl (.tmp 8) (.tmp 21) rfl rfl rfl rfl (by kernel_rfl) (by rw [arr_size]; rfl) (RR.out.arr_one hlt) ?_; clear E; intro w5 E; simp only [List.set_cons_zero, List.set_cons_succ] at E)
        | (refine mem_store_row 0 E 28 rfl (.tmp 9) (.tmp 25) rfl rfl rfl rfl (by kernel_rfl) (by rw [arr_size]; rfl) (SS.out.arr_one hlt) ?_; clear E; intro w6 E; simp only [List.set_cons_zero, List.set_cons_succ] at E)
        | (refine mem_load_row E 28 rfl (.tmp 8) rfl rfl (List.mem_cons_of_mem _ List.mem_cons_self) Try.underlying28 rfl (by simp only [arr_size]; kernel_rfl) ?_)
        | (refine mem_load_row E 28 rfl (.tmp 9) rfl rfl List.mem_cons_self Try.underlying28 rfl (by simp only [arr_size]; kernel_rfl) ?_)
        | (go_at_call 11; refine (same_tx (Lib.hid (EC.out.below E.out.below)) (Lib.hid (ED.out.below E.out.below))).mono ?_; rintro e w7 ⟨rfl, hb⟩; replace E := Lib.hid (E.out.call hb); clear hb))
      go_roundg (n - (j + 1))
      case measure => omega
      case rel => exact ⟨j + 1, by omega, by go_num, Lib.hid E.out.tail.tail⟩
    · obtain rfl : j = n := by omega
      go_wp2
      go_ret
      exact ⟨rfl, E.out.below⟩


set_option maxHeartbeats 4000000 in
theorem same_blk {w : World} {V V' : Nat → Value} {t : TBlk} (A : Hid (BlkCells w V t)) (A' : Hid (BlkCells w V' t)) : Calls Try.prog 19 #[.agg (arr 69 V), .agg (arr 69 V')] w fun e w' => e = .returned (.bool true) ∧ Below w.heap.size w w' := by
  have E := Lib.hid (Mem.nil w)
  have c68 : (arr 69 V)[68]? = some (V 68) := arr_get 69 V 68 (by omega)
  have c68' : (arr 69 V')[68]? = some (V' 68) := arr_get 69 V' 68 (by omega)
  have S := Lib.hid fun w' (hb : Below w.heap.size w w') => eftx_any (Lib.hid (A.out.txs.below hb)) (Lib.hid (A'.out.txs.below hb))
  have EQ := same_hdr t.hd
  go_enter Try.func19, Try.ntmps19
  go_wp2_with (first
    | ((with_reducible refine wpList_at 2 rfl ?_); refine mem_box E 41 rfl (.tmp 0) rfl rfl (arr_cells' 69 V) ?_; clear E; intro b2 w2 E)
    | ((with_reducible refine wpList_at 3 rfl ?_); refine mem_box E 41 rfl (.tmp 1) rfl rfl (arr_cells' 69 V') ?_; clear E; intro b3 w3 E)
    | ((with_reducible refine wpList_at 6 rfl ?_); refine wpList_ld 39 (.tmp 5) rfl rfl rfl (ld_hdrA A.out (E.out.get (List.mem_cons_of_mem _ List.mem_cons_self)) (Below.refl _ _)) ?_)
    | ((with_reducible refine wpList_at 8 rfl ?_); refine wpList_ld 39 (.tmp 7) rfl rfl rfl (ld_hdrA A'.out (E.out.get List.mem_cons_self) (Below.refl _ _)) ?_)
    | ((with_reducible refine wpList_at 12 rfl ?_); refine mem_load_cell E 35 (by kernel_rfl) (.tmp 11) rfl rfl (List.mem_cons_of_mem _ List.mem_cons_self) Try.underlying35 rfl c68 ?_)
    | ((with_reducible refine wpList_at 14 rfl ?_); refine mem_load_cell E 35 (by kernel_rfl) (.tmp 13) rfl rfl List.mem_cons_self Try.underlying35 rfl c68' ?_)
    | (go_at_call 51; refine (S.out _ E.out.below).mono ?_; rintro e w4 ⟨rfl, hb⟩; replace E := Lib.hid (E.out.call hb); clear hb))
  go_ret
  exact ⟨by simp, E.out.below⟩
theorem TxOwn.to {B : Nat} {w : World} {V U : Nat → Value} {t : TTx} (h : TxOwn B w V t) (e : ∀ x, x < 4 → V x = U x) : TxOwn B w U t :=
  ⟨by rw [← e 0 (by omega)]; exact h.ver, h.verB, by rw [← e 1 (by omega)]; exact h.ins, by rw [← e 2 (by omega)]; exact h.outs, by rw [← e 3 (by omega)]; exact h.lock, h.lockB⟩
/-- A block in memory of its own. -/
structure BlkOwn (B : Nat) (w : World) (V : Nat → Value) (t : TBlk) : Prop where
  hd : ∀ j, j < 68 → V j = hc t.hd j
  ok : t.hd.Ok
  txs : ∃ p g c X, V 68 = .slice p t.txs.length c ∧ t.txs.length * 64 ≤ 140737488351232 ∧ VOwn 28 4 B w p g t.txs.length c X ∧ ∀ i (h : i < t.txs.length), TxOwn B w (fun x => X (i * 4 + x)) t.txs[i]
theorem BlkOwn.at {B : Nat} {w : World} {V : Nat → Value} {t : TBlk} (h : BlkOwn B w V t) : BlkCells w V t := by
  obtain ⟨p, g, c, X, e, hl, N, I⟩ := h.txs
  exact ⟨h.hd, h.ok, p, g, 0, c, X, e, hl, N.row, fun i hi => (I i hi).at⟩
theorem BlkOwn.below {B : Nat} {w w' : World} {V : Nat → Value} {t : TBlk} (h : BlkOwn B w V t) (hb : Below w.heap.size w w') : BlkOwn B w' V t := by
  obtain ⟨p, g, c, X, e, hl, N, I⟩ := h.txs
  exact ⟨h.hd, h.ok, p, g, c, X, e, hl, N.below hb, fun i hi => (I i hi).below hb⟩
theorem BlkOwn.keep {B : Nat} {w w' : World} {V : Nat → Value} {t : TBlk} (h : BlkOwn B w V t) (k : KeepT 41 w w') : BlkOwn B w' V t := by
  obtain ⟨p, g, c, X, e, hl, N, I⟩ := h.txs
  exact ⟨h.hd, h.ok, p, g, c, X, e, hl, N.keep k (by decide), fun i hi => (I i hi).keep k (by decide) (by decide) (by decide) (by decide)⟩
theorem blk_ones {w : World} {V : Nat → Value} {t : TBlk} (A : BlkCells w V t) : ∀ j, j < 69 → (V j).oneCell' = true := fun j hj => by
  by_cases h : j = 68
  · rw [h]; exact A.txs.one
  · rw [A.hd j (by omega)]
    unfold hc
    repeat' split
    all_goals rfl
end Go.Proofs.Ytllndneplkigpaa
