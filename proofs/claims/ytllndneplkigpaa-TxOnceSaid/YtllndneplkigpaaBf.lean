/- A block's parts, read: Part of headers and of transactions, their list, the end; block.read. -/
import Derived.Test.YtllndneplkigpaaBa
import Derived.Test.YtllndneplkigpaaBc
import Derived.Test.YtllndneplkigpaaHc
set_option linter.unusedSimpArgs false
set_option linter.unusedVariables false
set_option maxRecDepth 100000
namespace Go.Proofs.Ytllndneplkigpaa
open Go.RowKit Go.Lib Go.Sort

/-- No parser gives up with the number 0. -/
def Errs {α : Type} (p : List Nat → Res α) : Prop := ∀ xs e, p xs = .bad e → e ≠ 0
theorem Res.bind_bad {α β : Type} {x : Res α} {f : α → List Nat → Res β} {e : Int} (h : x.bind f = .bad e) : x = .bad e ∨ ∃ a r, x = .good a r ∧ f a r = .bad e := by
  cases x with
  | bad e' =>
    have h2 : (Res.bad e' : Res β) = .bad e := h
    injection h2 with h2
    exact .inl (by rw [h2])
  | good a r => exact .inr ⟨a, r, rfl, h⟩
theorem Errs.bind {α β : Type} {p : List Nat → Res α} {f : α → List Nat → Res β} (hp : Errs p) (hf : ∀ a, Errs (f a)) : Errs fun xs => (p xs).bind f := fun xs e h => by
  rcases Res.bind_bad h with h | ⟨a, r, h1, h2⟩
  · exact hp xs e h
  · exact hf a r e h2
theorem Errs.pure {α : Type} (a : α) : Errs fun xs => Res.good a xs := fun xs e h => by cases h
theorem Errs.lit {α : Type} {e0 : Int} (h0 : e0 ≠ 0) : Errs (α := α) fun _ => Res.bad e0 := fun xs e h => by
  injection h with h
  rw [← h]
  exact h0
theorem Errs.ite {α : Type} {c : Prop} [Decidable c] {p q : List Nat → Res α} (hp : Errs p) (hq : Errs q) : Errs fun xs => if c then p xs else q xs := by
  by_cases h : c
  · simp only [if_pos h]; exact hp
  · simp only [if_neg h]; exact hq
theorem errs_take (n : Nat) : Errs (pTake n) := fun xs e h => by
  rw [(pTake_bad h).2]
  decide
theorem errs_num (m : Nat) : Errs (pNum m) := (errs_take m).bind fun t => Errs.pure _
theorem errs_val : Errs pVal := fun xs e h => by
  unfold pVal at h
  split at h
  · cases h
  · injection h with h
    rw [← h]
    omega
theorem errs_cnt (M : Nat) : Errs (pCnt M) := errs_val.bind fun n => Errs.ite (Errs.pure n) (Errs.lit (by decide))
theorem errs_text (M : Nat) : Errs (pText M) := (errs_cnt M).bind fun n => errs_take n
theorem errs_rep {α : Type} {p : List Nat → Res α} (hp : Errs p) : ∀ n, Errs (pRep p n)
  | 0 => Errs.pure []
  | n + 1 => hp.bind fun a => (errs_rep hp n).bind fun l => Errs.pure (a :: l)
theorem errs_list {α : Type} {p : List Nat → Res α} (M : Nat) (hp : Errs p) : Errs (pList M p) := (errs_cnt M).bind fun n => errs_rep hp n
theorem errs_in : Errs pIn := (errs_take 32).bind fun _ => (errs_num 4).bind fun _ => (errs_text 10000).bind fun _ => (errs_num 4).bind fun _ => Errs.pure _
theorem errs_out : Errs pOut := (errs_num 8).bind fun _ => Errs.ite ((errs_text 10000).bind fun _ => Errs.pure _) (Errs.lit (by decide))
theorem errs_wits : ∀ l, Errs (pWits l)
  | [] => Errs.pure []
  | x :: l => (errs_list 100 (errs_text 10000)).bind fun ws => (errs_wits l).bind fun l' => Errs.pure _
theorem errs_ins (m : Bool) (l : List TIn) : Errs (pIns m l) := Errs.ite ((errs_wits l).bind fun l' => Errs.ite (Errs.pure _) (Errs.lit (by decide))) (Errs.pure _)
theorem errs_mark : Errs pMark := fun xs e h => by
  unfold pMark at h
  split at h
  · exact ((errs_take 1).bind fun _ => (errs_num 1).bind fun x => Errs.ite (Errs.pure true) (Errs.lit (by decide))) xs e h
  · cases h
theorem errs_tx : Errs pTx := (errs_num 4).bind fun v => errs_mark.bind fun m => (errs_list 2000 errs_in).bind fun ins => Errs.ite (Errs.lit (by decide)) ((errs_list 2000 errs_out).bind fun outs => (errs_ins m ins).bind fun ins => (errs_num 4).bind fun lock => Errs.pure _)

section
variable {ops : Array Oper} {rest : List Oper} {Q : Exit → Act → World → Prop} {op : Oper} {a : Act} {W w : World} {b T : Nat} {c0 cs : Array Value} {l : List (Nat × TypeId × Array Value)}
/-- A cell of the box, stored: what else stays. -/
theorem wpList_xkt (E : Hid (Mem (rb W b cs) l w)) (hW : Hid (W.heap[b]? = some (.cells c0 T (0, 0)))) (ty : TypeId) (x y : Operand) (hg : op.guard = none) (ho : op.op = .store ty x y) {j : Nat} (hx : a.eval x = .pointer (some ⟨b, j, none⟩)) {v : Value} (hy : a.eval y = v)
    (hs : (Try.prog.info? ty).map (·.size) = some 1) (h1 : v.cells = #[v]) (h2 : v.oneCell' = true) {v0 : Value} (hv : cs[j]? = some v0) {cs' : Array Value} (hc : cs.setIfInBounds j v = cs')
    (h : ∀ w', Hid (Mem (rb W b cs') l w') → Hid (KeepT T w w') → wpList Try.prog ops Q rest (a.put op.dst undef) w') : wpList Try.prog ops Q (op :: rest) a w := by
  have hbox := E.out.rbox hW.out
  have hM := E.out.rset hW.out j v
  rw [hc] at hM
  have hK := KeepT.of_only hbox ((Only.refl b w).setCell ⟨b, j, none⟩ rfl v)
  refine wpList_plain hg fun K hK' => ?_
  unfold Oper.wp execOp
  simp only [ho, hx, hy, Sem.run_bind, Sem.run_pure, run_store_one (P := Try.prog) (ty := ty) hs h1 h2 (cell_of_here hbox j hv) (free_of_here hbox j), Result.andThen_ok]
  exact hK' _ _ (h _ (Lib.hid hM) (Lib.hid hK))
end
/-- A list of transactions in memory of its own. -/
def TxsOwn (B : Nat) (w : World) (v : Value) (ts : List TTx) : Prop :=
  ∃ p g c X, v = .slice p ts.length c ∧ ts.length * 64 ≤ 140737488351232 ∧ VOwn 28 4 B w p g ts.length c X ∧ ∀ i (h : i < ts.length), TxOwn B w (fun x => X (i * 4 + x)) ts[i]
theorem TxsOwn.keep {T : TypeId} {B : Nat} {w w' : World} {v : Value} {ts : List TTx} (h : TxsOwn B w v ts) (k : KeepT T w w') (h1 : (5 : TypeId) ≠ T) (h2 : 22 ≠ T) (h3 : 67 ≠ T) (h4 : 70 ≠ T) (h5 : 28 ≠ T) : TxsOwn B w' v ts := by
  obtain ⟨p, g, c, X, e, hl, N, I⟩ := h
  exact ⟨p, g, c, X, e, hl, N.keep k h5, fun i hi => (I i hi).keep k h1 h2 h3 h4⟩
theorem TxsOwn.below {B : Nat} {w w' : World} {v : Value} {ts : List TTx} (h : TxsOwn B w v ts) (hb : Below w.heap.size w w') : TxsOwn B w' v ts := by
  obtain ⟨p, g, c, X, e, hl, N, I⟩ := h
  exact ⟨p, g, c, X, e, hl, N.below hb, fun i hi => (I i hi).below hb⟩
theorem TxsOwn.mono {B B' : Nat} {w : World} {v : Value} {ts : List TTx} (h : TxsOwn B w v ts) (hB : B' ≤ B) : TxsOwn B' w v ts := by
  obtain ⟨p, g, c, X, e, hl, N, I⟩ := h
  exact ⟨p, g, c, X, e, hl, N.mono hB, fun i hi => (I i hi).mono hB⟩
theorem TxsOwn.cells1 {B : Nat} {w : World} {v : Value} {ts : List TTx} (h : TxsOwn B w v ts) : v.cells = #[v] ∧ v.oneCell' = true := by
  obtain ⟨p, g, c, X, rfl, _⟩ := h
  exact ⟨rfl, rfl⟩
section
variable {D W : World} {b : Nat} {u : Value} {xs : List Nat}
set_option maxHeartbeats 4000000 in
theorem parttx_bad (R : Hid (Rd D W b u xs)) (h2 : xs.length ≤ 200000) {er : Int} (hb : pTx xs = .bad er) : Calls Try.prog 99 #[.pointer (some ⟨b, 0, none⟩), .int .i64 200000, .func (.func 9) #[] #[]] W (RdPost D W b (TxV W.heap.size) (pTx xs)) := by
  have he := errs_tx xs er hb
  obtain ⟨p, g, o, c, n, k, p1, rfl, hn, hl, mn, hk, kc, kn, sl, R1⟩ := R.out.shown 200000
  have hkn : k = xs.length := by omega
  have T1 : TextAt D (.slice p1 k c) xs := ⟨p1, g, o, c, by rw [hkn], by omega, by rw [hkn] at R1; exact R1⟩
  have E := Lib.hid R.out.start
  have PV := Lib.hid hb
  have CT := Lib.hid (show ∀ w', Below D.heap.size D w' → Calls Try.prog 9 #[.slice p1 k c] w' fun e w'' => e = .returned (.tuple #[.agg (arr 4 txz), .slice none 0 0, .int .i64 er]) ∧ Below w'.heap.size w' w'' from fun w' hw => by
    have := txdec_any (Lib.hid (T1.below hw))
    rwa [hb] at this)
  have MN := Lib.hid mn
  have SL := Lib.hid sl
  have KC := Lib.hid kc
  have e2 : (er == 0) = false := by simp; exact he
  clear hn mn hk kc sl R1 he kn hb hkn T1
  go_enter Try.func99, Try.ntmps99
  go_upto_region 1 with (refine mem_alloc E 28 rfl rfl infoTxz ?_; clear E; intro b6 w6 E; simp only [arr_cells'] at E)
  try simp only [Act.put, List.getElem_toArray, List.getElem_cons_succ, List.getElem_cons_zero, List.setIfInBounds_toArray, List.set_cons_zero, List.set_cons_succ]
  go_cut [7] (fun s7 wx => ∃ p1', s7 = .slice p1' k c ∧ p1' = p1 ∧ Hid (Mem (rb W b #[.slice p n c]) [(b6, 28, arr 4 txz)] wx))
  case first =>
    refine wp_region_mem E (by kernel_rfl) ?_
    clear E
    intro wx E0
    refine hm_run 0 11 (.pointer (some ⟨b, 0, none⟩)) rfl rfl (by kernel_rfl) (by kernel_rfl) (by kernel_rfl) (fun _ _ _ h => h) rfl (fun _ _ => rfl) (E0.out) ?_
    try simp only [Act.put, List.getElem_toArray, List.getElem_cons_succ, List.getElem_cons_zero, List.setIfInBounds_toArray, List.set_cons_zero, List.set_cons_succ]
    refine hm_run 1 12 (.pointer (some ⟨b, 0, none⟩)) rfl rfl (by kernel_rfl) (by kernel_rfl) (by kernel_rfl) (fun _ _ _ h => h) rfl (fun _ _ => rfl) (E0.out) ?_
    try simp only [Act.put, List.getElem_toArray, List.getElem_cons_succ, List.getElem_cons_zero, List.setIfInBounds_toArray, List.set_cons_zero, List.set_cons_succ]
    refine hm_run 2 13 (.pointer (some ⟨b, 0, none⟩)) rfl rfl (by kernel_rfl) (by kernel_rfl) (by kernel_rfl) (fun _ _ _ h => h) rfl (fun _ _ => rfl) (E0.out) ?_
    try simp only [Act.put, List.getElem_toArray, List.getElem_cons_succ, List.getElem_cons_zero, List.setIfInBounds_toArray, List.set_cons_zero, List.set_cons_succ]
    refine hm_run 3 14 (.slice p n c) rfl rfl (by kernel_rfl) (by kernel_rfl) (by kernel_rfl) (fun _ _ _ h => h) rfl (fun W' hW => exec_load rfl (run_load_one Try.underlying22 rfl (cell_of_here (hW.rbox R.out.box) 0 rfl))) (E0.out) ?_
    try simp only [Act.put, List.getElem_toArray, List.getElem_cons_succ, List.getElem_cons_zero, List.setIfInBounds_toArray, List.set_cons_zero, List.set_cons_succ]
    refine hm_run 4 15 (.int .i64 200000) rfl rfl (by kernel_rfl) (by kernel_rfl) (by kernel_rfl) (fun _ _ _ h => h) rfl (fun _ _ => rfl) (E0.out) ?_
    try simp only [Act.put, List.getElem_toArray, List.getElem_cons_succ, List.getElem_cons_zero, List.setIfInBounds_toArray, List.set_cons_zero, List.set_cons_succ]
    refine hm_run 5 16 (.pointer (some ⟨b, 0, none⟩)) rfl rfl (by kernel_rfl) (by kernel_rfl) (by kernel_rfl) (fun _ _ _ h => h) rfl (fun _ _ => rfl) (E0.out) ?_
    try simp only [Act.put, List.getElem_toArray, List.getElem_cons_succ, List.getElem_cons_zero, List.setIfInBounds_toArray, List.set_cons_zero, List.set_cons_succ]
    refine hm_run 6 17 (.pointer (some ⟨b, 0, none⟩)) rfl rfl (by kernel_rfl) (by kernel_rfl) (by kernel_rfl) (fun _ _ _ h => h) rfl (fun _ _ => rfl) (E0.out) ?_
    try simp only [Act.put, List.getElem_toArray, List.getElem_cons_succ, List.getElem_cons_zero, List.setIfInBounds_toArray, List.set_cons_zero, List.set_cons_succ]
    refine hm_run 7 18 (.pointer (some ⟨b, 0, none⟩)) rfl rfl (by kernel_rfl) (by kernel_rfl) (by kernel_rfl) (fun _ _ _ h => h) rfl (fun _ _ => rfl) (E0.out) ?_
    try simp only [Act.put, List.getElem_toArray, List.getElem_cons_succ, List.getElem_cons_zero, List.setIfInBounds_toArray, List.set_cons_zero, List.set_cons_succ]
    refine hm_run 8 19 (.slice p n c) rfl rfl (by kernel_rfl) (by kernel_rfl) (by kernel_rfl) (fun _ _ _ h => h) rfl (fun W' hW => exec_load rfl (run_load_one Try.underlying22 rfl (cell_of_here (hW.rbox R.out.box) 0 rfl))) (E0.out) ?_
    try simp only [Act.put, List.getElem_toArray, List.getElem_cons_succ, List.getElem_cons_zero, List.setIfInBounds_toArray, List.set_cons_zero, List.set_cons_succ]
    refine hm_run 9 20 (.int .i64 ((n : Nat) : Int)) rfl rfl (by kernel_rfl) (by kernel_rfl) (by kernel_rfl) (fun _ _ _ h => h) rfl (fun W' _ => exec_len Try.underlying22 rfl rfl) (E0.out) ?_
    try simp only [Act.put, List.getElem_toArray, List.getElem_cons_succ, List.getElem_cons_zero, List.setIfInBounds_toArray, List.set_cons_zero, List.set_cons_succ]
    refine hm_run 10 21 (.int .i64 ((k : Nat) : Int)) rfl rfl (by kernel_rfl) (by kernel_rfl) (by kernel_rfl) (fun _ _ _ h => h) rfl (fun W' _ => exec_min rfl rfl rfl rfl MN.out) (E0.out) ?_
    try simp only [Act.put, List.getElem_toArray, List.getElem_cons_succ, List.getElem_cons_zero, List.setIfInBounds_toArray, List.set_cons_zero, List.set_cons_succ]
    refine hm_run 11 22 (.slice p1 k c) rfl rfl (by kernel_rfl) (by kernel_rfl) (by kernel_rfl) (fun _ _ _ h => h) rfl (fun W' _ => exec_sl rfl ((run_h KC.out W').trans (by rw [SL.out]))) (E0.out) ?_
    try simp only [Act.put, List.getElem_toArray, List.getElem_cons_succ, List.getElem_cons_zero, List.setIfInBounds_toArray, List.set_cons_zero, List.set_cons_succ]
    refine hm_run 12 7 (.slice p1 k c) rfl rfl (by kernel_rfl) (by kernel_rfl) (by kernel_rfl) (fun _ _ _ h => h) rfl (fun _ _ => rfl) (E0.out) ?_
    try simp only [Act.put, List.getElem_toArray, List.getElem_cons_succ, List.getElem_cons_zero, List.setIfInBounds_toArray, List.set_cons_zero, List.set_cons_succ]
    refine wpAnyH_done (by kernel_rfl) ?_ _
    go_wp2_with fail
    go_meet
    exact ⟨p1, rfl, rfl, E0⟩
  case rest =>
    obtain ⟨_, rfl, rfl, E⟩ := hcut
    go_wp2_with (first
      | (go_at_call 9; refine (CT.out _ (only_old R.out E.out.ronly)).mono ?_; rintro e w1 ⟨rfl, hb⟩; replace E := Lib.hid (E.out.call hb); clear hb)
      | ((with_reducible refine wpList_at 8 rfl ?_); refine mem_alloc E 28 rfl rfl infoTxz ?_; clear E; intro b8 w8 E; simp only [arr_cells'] at E)
      | ((with_reducible refine wpList_atn rfl ?_); refine mem_store_row 0 E 28 rfl (.tmp 8) (.tmp 27) rfl rfl rfl rfl (by kernel_rfl) (by simp only [arr_size]) (all_of txz_one) ?_; clear E; intro w9 E; simp only [List.set_cons_zero, List.set_cons_succ] at E)
      | (go_at_call 64; refine (need_bad _ _ _).mono ?_; rintro e w2 ⟨rfl, rfl⟩))
    exact ⟨rfl, RdPost.bad PV.out E.out.ronly⟩
set_option maxHeartbeats 8000000 in
theorem parttx_good (R : Hid (Rd D W b u xs)) (h2 : xs.length ≤ 200000) {t : TTx} {r : List Nat} (hb : pTx xs = .good t r) : Calls Try.prog 99 #[.pointer (some ⟨b, 0, none⟩), .int .i64 200000, .func (.func 9) #[] #[]] W (RdPost D W b (TxV W.heap.size) (pTx xs)) := by
  have hd := eats_tx.isDrop hb
  have hle := eats_tx.le hb
  obtain ⟨rl, hrl⟩ : ∃ rl, rl = r.length := ⟨_, rfl⟩
  rw [← hrl] at hd hle
  obtain ⟨o9, ho9⟩ : ∃ o9, o9 = xs.length - rl := ⟨_, rfl⟩
  rw [← ho9] at hd
  obtain ⟨q, cq, hq, _⟩ := R.out.dat.slice
  obtain ⟨p3, m3, c3, s3, A3⟩ := (show TextAt D (.slice q xs.length cq) xs by rw [← hq]; exact R.out.dat).drop (n := o9) (by omega)
  rw [← hd] at A3
  obtain ⟨p, g, o, c, n, k, p1, rfl, hn, hl, mn, hk, kc, kn, sl, R1⟩ := R.out.shown 200000
  injection hq with q1 q2 q3
  subst q1 q3
  have hkn : k = xs.length := by omega
  have T1 : TextAt D (.slice p1 k c) xs := ⟨p1, g, o, c, by rw [hkn], by omega, by rw [hkn] at R1; exact R1⟩
  have E := Lib.hid R.out.start
  have PV := Lib.hid hb
  have CT := Lib.hid (show ∀ w', Below D.heap.size D w' → Calls Try.prog 9 #[.slice p1 k c] w' fun e w'' => ∃ V p4 c4, e = .returned (.tuple #[.agg (arr 4 V), .slice p4 rl c4, .int .i64 0]) ∧ TxOwn w'.heap.size w'' V t ∧ Below w'.heap.size w' w'' from fun w' hw => by
    have := txdec_any (Lib.hid (T1.below hw))
    rw [hb] at this
    refine this.mono fun e w'' h => ?_
    obtain ⟨v, p4, g4, c4, he, ⟨V, hv, hV⟩, hN, hbb⟩ := h
    subst hv
    exact ⟨V, p4, c4, by rw [he, hrl], hV, hbb⟩)
  rw [← hn] at s3
  have MN := Lib.hid mn
  have SL := Lib.hid sl
  have S3 := Lib.hid s3
  have T3 := Lib.hid A3
  have KC := Lib.hid kc
  have K9 : Hid (IntKind.i64.wrap ((k : Int) - (rl : Int)) = ((o9 : Nat) : Int)) := Lib.hid (by rw [IntKind.wrap_i64]; omega)
  have L9 := Lib.hid (show o9 ≤ n by omega)
  clear hn mn hk kc sl R1 hb s3 A3 hkn T1 hd hle hrl ho9 q2 kn
  go_enter Try.func99, Try.ntmps99
  go_upto_region 1 with (refine mem_alloc E 28 rfl rfl infoTxz ?_; clear E; intro b6 w6 E; simp only [arr_cells'] at E)
  try simp only [Act.put, List.getElem_toArray, List.getElem_cons_succ, List.getElem_cons_zero, List.setIfInBounds_toArray, List.set_cons_zero, List.set_cons_succ]
  go_cut [7] (fun s7 wx => ∃ p1', s7 = .slice p1' k c ∧ p1' = p1 ∧ Hid (Mem (rb W b #[.slice p n c]) [(b6, 28, arr 4 txz)] wx))
  case first =>
    refine wp_region_mem E (by kernel_rfl) ?_
    clear E
    intro wx E0
    refine hm_run 0 11 (.pointer (some ⟨b, 0, none⟩)) rfl rfl (by kernel_rfl) (by kernel_rfl) (by kernel_rfl) (fun _ _ _ h => h) rfl (fun _ _ => rfl) (E0.out) ?_
    try simp only [Act.put, List.getElem_toArray, List.getElem_cons_succ, List.getElem_cons_zero, List.setIfInBounds_toArray, List.set_cons_zero, List.set_cons_succ]
    refine hm_run 1 12 (.pointer (some ⟨b, 0, none⟩)) rfl rfl (by kernel_rfl) (by kernel_rfl) (by kernel_rfl) (fun _ _ _ h => h) rfl (fun _ _ => rfl) (E0.out) ?_
    try simp only [Act.put, List.getElem_toArray, List.getElem_cons_succ, List.getElem_cons_zero, List.setIfInBounds_toArray, List.set_cons_zero, List.set_cons_succ]
    refine hm_run 2 13 (.pointer (some ⟨b, 0, none⟩)) rfl rfl (by kernel_rfl) (by kernel_rfl) (by kernel_rfl) (fun _ _ _ h => h) rfl (fun _ _ => rfl) (E0.out) ?_
    try simp only [Act.put, List.getElem_toArray, List.getElem_cons_succ, List.getElem_cons_zero, List.setIfInBounds_toArray, List.set_cons_zero, List.set_cons_succ]
    refine hm_run 3 14 (.slice p n c) rfl rfl (by kernel_rfl) (by kernel_rfl) (by kernel_rfl) (fun _ _ _ h => h) rfl (fun W' hW => exec_load rfl (run_load_one Try.underlying22 rfl (cell_of_here (hW.rbox R.out.box) 0 rfl))) (E0.out) ?_
    try simp only [Act.put, List.getElem_toArray, List.getElem_cons_succ, List.getElem_cons_zero, List.setIfInBounds_toArray, List.set_cons_zero, List.set_cons_succ]
    refine hm_run 4 15 (.int .i64 200000) rfl rfl (by kernel_rfl) (by kernel_rfl) (by kernel_rfl) (fun _ _ _ h => h) rfl (fun _ _ => rfl) (E0.out) ?_
    try simp only [Act.put, List.getElem_toArray, List.getElem_cons_succ, List.getElem_cons_zero, List.setIfInBounds_toArray, List.set_cons_zero, List.set_cons_succ]
    refine hm_run 5 16 (.pointer (some ⟨b, 0, none⟩)) rfl rfl (by kernel_rfl) (by kernel_rfl) (by kernel_rfl) (fun _ _ _ h => h) rfl (fun _ _ => rfl) (E0.out) ?_
    try simp only [Act.put, List.getElem_toArray, List.getElem_cons_succ, List.getElem_cons_zero, List.setIfInBounds_toArray, List.set_cons_zero, List.set_cons_succ]
    refine hm_run 6 17 (.pointer (some ⟨b, 0, none⟩)) rfl rfl (by kernel_rfl) (by kernel_rfl) (by kernel_rfl) (fun _ _ _ h => h) rfl (fun _ _ => rfl) (E0.out) ?_
    try simp only [Act.put, List.getElem_toArray, List.getElem_cons_succ, List.getElem_cons_zero, List.setIfInBounds_toArray, List.set_cons_zero, List.set_cons_succ]
    refine hm_run 7 18 (.pointer (some ⟨b, 0, none⟩)) rfl rfl (by kernel_rfl) (by kernel_rfl) (by kernel_rfl) (fun _ _ _ h => h) rfl (fun _ _ => rfl) (E0.out) ?_
    try simp only [Act.put, List.getElem_toArray, List.getElem_cons_succ, List.getElem_cons_zero, List.setIfInBounds_toArray, List.set_cons_zero, List.set_cons_succ]
    refine hm_run 8 19 (.slice p n c) rfl rfl (by kernel_rfl) (by kernel_rfl) (by kernel_rfl) (fun _ _ _ h => h) rfl (fun W' hW => exec_load rfl (run_load_one Try.underlying22 rfl (cell_of_here (hW.rbox R.out.box) 0 rfl))) (E0.out) ?_
    try simp only [Act.put, List.getElem_toArray, List.getElem_cons_succ, List.getElem_cons_zero, List.setIfInBounds_toArray, List.set_cons_zero, List.set_cons_succ]
    refine hm_run 9 20 (.int .i64 ((n : Nat) : Int)) rfl rfl (by kernel_rfl) (by kernel_rfl) (by kernel_rfl) (fun _ _ _ h => h) rfl (fun W' _ => exec_len Try.underlying22 rfl rfl) (E0.out) ?_
    try simp only [Act.put, List.getElem_toArray, List.getElem_cons_succ, List.getElem_cons_zero, List.setIfInBounds_toArray, List.set_cons_zero, List.set_cons_succ]
    refine hm_run 10 21 (.int .i64 ((k : Nat) : Int)) rfl rfl (by kernel_rfl) (by kernel_rfl) (by kernel_rfl) (fun _ _ _ h => h) rfl (fun W' _ => exec_min rfl rfl rfl rfl MN.out) (E0.out) ?_
    try simp only [Act.put, List.getElem_toArray, List.getElem_cons_succ, List.getElem_cons_zero, List.setIfInBounds_toArray, List.set_cons_zero, List.set_cons_succ]
    refine hm_run 11 22 (.slice p1 k c) rfl rfl (by kernel_rfl) (by kernel_rfl) (by kernel_rfl) (fun _ _ _ h => h) rfl (fun W' _ => exec_sl rfl ((run_h KC.out W').trans (by rw [SL.out]))) (E0.out) ?_
    try simp only [Act.put, List.getElem_toArray, List.getElem_cons_succ, List.getElem_cons_zero, List.setIfInBounds_toArray, List.set_cons_zero, List.set_cons_succ]
    refine hm_run 12 7 (.slice p1 k c) rfl rfl (by kernel_rfl) (by kernel_rfl) (by kernel_rfl) (fun _ _ _ h => h) rfl (fun _ _ => rfl) (E0.out) ?_
    try simp only [Act.put, List.getElem_toArray, List.getElem_cons_succ, List.getElem_cons_zero, List.setIfInBounds_toArray, List.set_cons_zero, List.set_cons_succ]
    refine wpAnyH_done (by kernel_rfl) ?_ _
    go_wp2_with fail
    go_meet
    exact ⟨p1, rfl, rfl, E0⟩
  case rest =>
    obtain ⟨_, rfl, rfl, E⟩ := hcut
    go_wp2_with (first
      | (go_at_call 9; refine (CT.out _ (only_old R.out E.out.ronly)).mono ?_; rintro e w1 ⟨V, p4, c4, rfl, hV, hb⟩; have TX := Lib.hid (hV.mono E.out.rsize); replace E := Lib.hid (E.out.call hb); clear hb hV)
      | ((with_reducible refine wpList_at 8 rfl ?_); refine mem_allocb E 28 rfl rfl infoTxz ?_; clear E; intro b8 w8 E hb8; simp only [arr_cells'] at E; replace TX := Lib.hid (TX.out.below hb8.out); clear hb8)
      | ((with_reducible refine wpList_atn rfl ?_); refine mem_store_rowk 0 E 28 rfl (.tmp 8) (.tmp 27) rfl rfl rfl rfl (by kernel_rfl) (by simp only [arr_size]) (all_of TX.out.one) ?_; clear E; intro w9 E KT; simp only [List.set_cons_zero, List.set_cons_succ] at E; replace TX := Lib.hid (TX.out.keep KT.out (by decide) (by decide) (by decide) (by decide)); clear KT)
      | (go_at_call 64; refine (need_ok _ _ _).mono ?_; rintro e w2 ⟨⟨r2, rfl⟩, rfl⟩)
      | ((with_reducible refine wpList_at 39 rfl ?_); refine wpList_xld E R.out.hbox 22 _ rfl rfl rfl Try.underlying22 rfl rfl ?_)
      | ((with_reducible refine wpList_at 44 rfl ?_); refine mem_known rfl (.int .i64 ((o9 : Nat) : Int)) _ (exec_sub rfl rfl rfl K9.out) ?_)
      | ((with_reducible refine wpList_at 45 rfl ?_); refine mem_known rfl (.slice p3 m3 c3) _ (exec_sl rfl (by exact (run_l L9.out _).trans (by rw [S3.out]))) ?_)
      | ((with_reducible refine wpList_atn rfl ?_); refine wpList_xkt E R.out.hbox 22 (.tmp 47) (.tmp 45) rfl rfl rfl (v := .slice p3 m3 c3) rfl (by kernel_rfl) rfl rfl rfl (cs' := #[.slice p3 m3 c3]) rfl ?_; clear E; intro w1 E KT; replace TX := Lib.hid (TX.out.keep KT.out (by decide) (by decide) (by decide) (by decide)); clear KT)
      | ((with_reducible refine wpList_at 48 rfl ?_); refine mem_load_row E 28 rfl (.tmp 8) rfl rfl List.mem_cons_self Try.underlying28 rfl (by simp only [arr_size]; kernel_rfl) ?_)
      | ((with_reducible refine wpList_atn rfl ?_); refine mem_store_rowk 1 E 28 rfl (.tmp 6) (.tmp 48) rfl rfl rfl rfl (by kernel_rfl) (by simp only [arr_size]) (all_of TX.out.one) ?_; clear E; intro w9 E KT; simp only [List.set_cons_zero, List.set_cons_succ] at E; replace TX := Lib.hid (TX.out.keep KT.out (by decide) (by decide) (by decide) (by decide)); clear KT))
    refine bodyPost_ret (results_cell_row (fn := Try.f99) rfl _ _ b6 28 _ (0, 0) _ rfl (E.out.get (List.mem_cons_of_mem _ List.mem_cons_self)) Try.underlying28 rfl (by rw [arr_size]; kernel_rfl)) rfl ?_
    exact RdPost.good PV.out T3.out E.out ⟨V, rfl, TX.out⟩
theorem parttx_any (R : Hid (Rd D W b u xs)) (h2 : xs.length ≤ 200000) : Calls Try.prog 99 #[.pointer (some ⟨b, 0, none⟩), .int .i64 200000, .func (.func 9) #[] #[]] W (RdPost D W b (TxV W.heap.size) (pTx xs)) := by
  cases h : pTx xs with
  | bad er => have := parttx_bad R h2 h; rwa [h] at this
  | good t r => have := parttx_good R h2 h; rwa [h] at this
set_option maxHeartbeats 2000000 in
theorem readtx_any (R : Hid (Rd D W b u xs)) (h2 : xs.length ≤ 200000) : Calls Try.prog 81 #[.pointer (some ⟨b, 0, none⟩)] W (RdPost D W b (TxV W.heap.size) (pTx xs)) := by
  have E := Lib.hid R.out.start
  go_enter Try.func81, Try.ntmps81
  go_wp2_with (first
    | ((with_reducible refine wpList_at 2 rfl ?_); refine mem_alloc E 28 rfl rfl infoTxz ?_; clear E; intro b2 w2 E; simp only [arr_cells'] at E)
    | (go_at_call 99; refine (parttx_any (Lib.hid (E.out.rnext R.out R.out.dat)) h2).mono ?_; intro e1 w1 h1; rcases h1.cases with ⟨er, hr, rfl, ho⟩ | ⟨a1, r1, v1, u1, hr, rfl, ha, hb, U, rfl, hU⟩; case inl => exact ⟨rfl, RdPost.bad hr (E.out.ronly.trans ho)⟩
       (have HR := Lib.hid hr; have HA := Lib.hid ha; have TX := Lib.hid (hU.mono E.out.rsize); replace E := Lib.hid (E.out.rcall R.out.box hb); clear hr ha hb h1 hU))
    | ((with_reducible refine wpList_atn rfl ?_); refine mem_store_rowk 0 E 28 rfl (.tmp 2) (.tmp 4) rfl rfl rfl rfl (by kernel_rfl) (by simp only [arr_size]) (all_of TX.out.one) ?_; clear E; intro w9 E KT; simp only [List.set_cons_zero, List.set_cons_succ] at E; replace TX := Lib.hid (TX.out.keep KT.out (by decide) (by decide) (by decide) (by decide)); clear KT))
  refine bodyPost_ret (results_cell_row (fn := Try.f81) rfl _ _ b2 28 _ (0, 0) _ rfl (E.out.get List.mem_cons_self) Try.underlying28 rfl (by rw [arr_size]; kernel_rfl)) rfl ?_
  exact RdPost.good HR.out HA.out E.out ⟨U, rfl, TX.out⟩
set_option maxHeartbeats 8000000 in
theorem pltxs_any (R : Hid (Rd D W b u xs)) (h2 : xs.length ≤ 200000) : Calls Try.prog 80 #[.pointer (some ⟨b, 0, none⟩), .int .i64 2000, .func (.func 81) #[] #[]] W (RdPost D W b (fun w' v a => TxsOwn W.heap.size w' v a) (pList 2000 pTx xs)) := by
  have E := Lib.hid R.out.start
  go_enter Try.func80, Try.ntmps80
  go_wp2_with (first
    | (go_at_call 92; refine (pcnt_any R 2000 (by omega)).mono ?_; intro e1 w1 h1; rcases h1.cases with ⟨er, hr, rfl, ho⟩ | ⟨n, r0, v1, u0, hr, rfl, ha, hb, rfl⟩; case inl => exact ⟨rfl, RdPost.bad (Res.bb hr) ho⟩
       (have RL0 := Lib.hid (Nat.le_trans ((eats_cnt 2000).le hr) h2); have HR0 := Lib.hid hr; have HA0 := Lib.hid ha; have HN := pCnt_le hr; replace E := Lib.hid (E.out.rcall R.out.box hb); clear hr ha hb h1)))
  have n3 : n ≤ 140737488355328 := by omega
  go_loopg [7, 11] n (fun k s i wr => ∃ (j : Nat) (p : Option Addr) (g c : Nat) (V : Nat → Value) (u : Value) (r : List Nat) (ts : List TTx), j + k = n ∧ i = .int .i64 (j : Int) ∧ s = .slice p j c ∧ Hid (ts.length = j) ∧ Hid (VOwn 28 4 W.heap.size wr p g j c V) ∧ Hid (∀ i (h : i < ts.length), TxOwn W.heap.size wr (fun x => V (i * 4 + x)) ts[i]) ∧ Hid (r.length ≤ 200000) ∧ Hid (TextAt D u r) ∧ Hid (Mem (rb W b #[u]) [] wr) ∧ Hid (pRep pTx n r0 = (pRep pTx k r).bind fun l s => .good (ts ++ l) s))
  case atStart => exact ⟨0, none, 0, 0, fun _ => undef, u0, r0, [], by omega, rfl, rfl, Lib.hid rfl, Lib.hid (vown_nothing _ _ _ _ _ E.out.rsize), Lib.hid (fun i h => by simp at h), RL0, HA0, E, Lib.hid (by cases pRep pTx n r0 <;> rfl)⟩
  case round =>
    clear E HA0 RL0
    obtain ⟨j, p3, g3, c3, V3, u3, r3, ts, hj, rfl, rfl, TL, N3, I3, RL, HA, E, PE⟩ := hrel
    obtain ⟨kk, hkk⟩ : ∃ kk : Nat, kk = gk := ⟨_, rfl⟩
    rw [← hkk] at hj PE
    by_cases hlt : j < n
    · obtain ⟨k1, rfl⟩ : ∃ k1, kk = k1 + 1 := ⟨kk - 1, by omega⟩
      go_wp2_with (first
        | (go_at_call 81; refine (readtx_any (Lib.hid (E.out.rnext R.out HA.out)) RL.out).mono ?_; intro e1 w1 h1; rcases h1.cases with ⟨er, hr, rfl, ho⟩ | ⟨t, r4, v4, u4, hr, rfl, ha, hb, U4, rfl, ho4⟩; case inl => exact ⟨rfl, RdPost.bad ((Res.bg HR0.out).trans (PE.out.trans (pRep_bad hr _))) (E.out.ronly.trans ho)⟩
           (replace PE := Lib.hid (PE.out.trans (pRep_step hr _)); replace RL := Lib.hid (Nat.le_trans (eats_tx.le hr) RL.out); replace HA := Lib.hid ha; have KT := rkeep (E.out.rbox R.out.box) hb; have TI := Lib.hid (TxOwn.mono ho4 E.out.rsize)
            replace N3 := Lib.hid (N3.out.keep KT (by decide)); replace I3 := Lib.hid (fun i h => ((I3.out i h)).keep KT (by decide) (by decide) (by decide) (by decide)); replace E := Lib.hid (E.out.rcall R.out.box hb); clear KT hr ha hb h1 ho4))
        | (refine wpList_vbs 35 28 4 1 rfl _ rfl U4 (one_arr TI.out.one) (by unfold maxLen; omega) (ps := #[(0, .agg (arr 4 U4))]) (by kernel_rfl) (fun W => run_bs1 Try.underlying35 infoTx3 (by omega) (by omega) _ (arr_size _ _) W) (arr_vs _ _) ?_; intro p13 g13 w13 N13 hb13; replace E := Lib.hid (E.out.call hb13.out); replace TI := Lib.hid (TI.out.below hb13.out); replace N3 := Lib.hid (N3.out.below hb13.out); replace I3 := Lib.hid (fun i h => (I3.out i h).below hb13.out); clear hb13)
        | (at_builtin; refine wpList_vapp 35 28 4 64 Try.underlying35 infoTx3 (by first | rfl | exact arr_size _ _) (by omega) rfl (.tmp 13) (.tmp 17) rfl rfl N3 rfl (Lib.hid N13.out.row) (by unfold maxLen; omega) (by omega) ?_; intro p14 g14 c14 w14 N14 hg14))
      have KT := Lib.hid (KeepT.of_grown N3.out hg14.out)
      have BU := Lib.hid (N3.out.under hg14.out (Nat.le_refl _) E.out.rsize)
      have E2 := Lib.hid (E.out.part BU.out (by rw [rb_size]; exact Nat.le_refl _) (fun q hq => by cases hq))
      have I14 : Hid (∀ i (h : i < (ts ++ [t]).length), TxOwn W.heap.size w14 (fun x => (vcat V3 (j * 4) U4) (i * 4 + x)) (ts ++ [t])[i]) := Lib.hid (fun i h => by
        rw [List.length_append, List.length_singleton, TL.out] at h
        by_cases e : i = j
        · subst e
          have e2 : (ts ++ [t])[i]'(by rw [List.length_append, List.length_singleton, TL.out]; exact h) = t := by
            rw [List.getElem_append_right (by rw [TL.out]; omega)]
            simp
          rw [e2]
          exact (TI.out.keep KT.out (by decide) (by decide) (by decide) (by decide)).to fun y hy => vcat_hi.symm
        · have hi : i < ts.length := by rw [TL.out]; omega
          have e2 : (ts ++ [t])[i]'(by rw [List.length_append, List.length_singleton, TL.out]; exact h) = ts[i] := List.getElem_append_left hi
          rw [e2]
          exact ((I3.out i hi).keep KT.out (by decide) (by decide) (by decide) (by decide)).to fun y hy => (vcat_lo (by omega) hy).symm)
      have PE2 := Lib.hid (show pRep pTx n r0 = (pRep pTx k1 r4).bind fun l s => .good (ts ++ [t] ++ l) s by
        rw [PE.out]
        congr 1
        funext l s
        rw [List.append_assoc]
        rfl)
      have TL2 := Lib.hid (show (ts ++ [t]).length = j + 1 by rw [List.length_append, List.length_singleton, TL.out])
      clear KT BU hg14 N13 E TI I3 PE N3 TL
      go_roundg k1
      case measure => omega
      case rel => exact ⟨j + 1, p14, g14, c14, _, u4, r4, ts ++ [t], by omega, by go_num, rfl, TL2, N14, I14, RL, HA, E2, PE2⟩
    · obtain rfl : j = n := by omega
      obtain rfl : kk = 0 := by omega
      have PP := Lib.hid (show pList 2000 pTx xs = .good ts r3 from (Res.bg HR0.out).trans (PE.out.trans (by rw [pRep]; show Res.good (ts ++ []) r3 = _; rw [List.append_nil])))
      go_wp2
      go_ret
      exact RdPost.good PP.out HA.out E.out ⟨p3, g3, c3, V3, by rw [TL.out]; rfl, by rw [TL.out]; omega, by rw [TL.out]; exact N3.out, I3.out⟩

def HdV (w' : World) (v : Value) (a : Hd) : Prop := v = .agg (arr 68 (hc a)) ∧ a.Ok
set_option maxHeartbeats 4000000 in
theorem parth_bad (R : Hid (Rd D W b u xs)) (hs : xs.length < 80) : Calls Try.prog 78 #[.pointer (some ⟨b, 0, none⟩), .int .i64 80, .func (.func 79) #[] #[]] W (RdPost D W b (HdV) (pHd xs)) := by
  obtain ⟨p, g, o, c, n, k, p1, rfl, hn, hl, mn, hk, kc, kn, sl, R1⟩ := R.out.shown 80
  have hb : pHd xs = .bad 50 := Res.bb (by unfold pTake; rw [if_neg (by omega)])
  have hk8 : k < 80 := by omega
  have E := Lib.hid R.out.start
  have PV := Lib.hid hb
  have CT := Lib.hid (show ∀ w' : World, Calls Try.prog 79 #[.slice p1 k c] w' fun e w'' => e = .returned (.tuple #[.agg (arr 68 (hc h0)), .slice none 0 0, .int .i64 50]) ∧ Below w'.heap.size w' w'' from fun w' => hdec_short hk8)
  have MN := Lib.hid mn
  have SL := Lib.hid sl
  have KC := Lib.hid kc
  clear hn mn hk kc sl R1 kn hb hk8
  go_enter Try.func78, Try.ntmps78
  go_upto_region 1 with (refine mem_alloc E 39 rfl rfl infoH ?_; clear E; intro b6 w6 E; simp only [arr_cells'] at E)
  try simp only [Act.put, List.getElem_toArray, List.getElem_cons_succ, List.getElem_cons_zero, List.setIfInBounds_toArray, List.set_cons_zero, List.set_cons_succ]
  go_cut [7] (fun s7 wx => ∃ p1', s7 = .slice p1' k c ∧ p1' = p1 ∧ Hid (Mem (rb W b #[.slice p n c]) [(b6, 39, arr 68 (hc h0))] wx))
  case first =>
    refine wp_region_mem E (by kernel_rfl) ?_
    clear E
    intro wx E0
    refine hm_run 0 11 (.pointer (some ⟨b, 0, none⟩)) rfl rfl (by kernel_rfl) (by kernel_rfl) (by kernel_rfl) (fun _ _ _ h => h) rfl (fun _ _ => rfl) (E0.out) ?_
    try simp only [Act.put, List.getElem_toArray, List.getElem_cons_succ, List.getElem_cons_zero, List.setIfInBounds_toArray, List.set_cons_zero, List.set_cons_succ]
    refine hm_run 1 12 (.pointer (some ⟨b, 0, none⟩)) rfl rfl (by kernel_rfl) (by kernel_rfl) (by kernel_rfl) (fun _ _ _ h => h) rfl (fun _ _ => rfl) (E0.out) ?_
    try simp only [Act.put, List.getElem_toArray, List.getElem_cons_succ, List.getElem_cons_zero, List.setIfInBounds_toArray, List.set_cons_zero, List.set_cons_succ]
    refine hm_run 2 13 (.pointer (some ⟨b, 0, none⟩)) rfl rfl (by kernel_rfl) (by kernel_rfl) (by kernel_rfl) (fun _ _ _ h => h) rfl (fun _ _ => rfl) (E0.out) ?_
    try simp only [Act.put, List.getElem_toArray, List.getElem_cons_succ, List.getElem_cons_zero, List.setIfInBounds_toArray, List.set_cons_zero, List.set_cons_succ]
    refine hm_run 3 14 (.slice p n c) rfl rfl (by kernel_rfl) (by kernel_rfl) (by kernel_rfl) (fun _ _ _ h => h) rfl (fun W' hW => exec_load rfl (run_load_one Try.underlying22 rfl (cell_of_here (hW.rbox R.out.box) 0 rfl))) (E0.out) ?_
    try simp only [Act.put, List.getElem_toArray, List.getElem_cons_succ, List.getElem_cons_zero, List.setIfInBounds_toArray, List.set_cons_zero, List.set_cons_succ]
    refine hm_run 4 15 (.int .i64 80) rfl rfl (by kernel_rfl) (by kernel_rfl) (by kernel_rfl) (fun _ _ _ h => h) rfl (fun _ _ => rfl) (E0.out) ?_
    try simp only [Act.put, List.getElem_toArray, List.getElem_cons_succ, List.getElem_cons_zero, List.setIfInBounds_toArray, List.set_cons_zero, List.set_cons_succ]
    refine hm_run 5 16 (.pointer (some ⟨b, 0, none⟩)) rfl rfl (by kernel_rfl) (by kernel_rfl) (by kernel_rfl) (fun _ _ _ h => h) rfl (fun _ _ => rfl) (E0.out) ?_
    try simp only [Act.put, List.getElem_toArray, List.getElem_cons_succ, List.getElem_cons_zero, List.setIfInBounds_toArray, List.set_cons_zero, List.set_cons_succ]
    refine hm_run 6 17 (.pointer (some ⟨b, 0, none⟩)) rfl rfl (by kernel_rfl) (by kernel_rfl) (by kernel_rfl) (fun _ _ _ h => h) rfl (fun _ _ => rfl) (E0.out) ?_
    try simp only [Act.put, List.getElem_toArray, List.getElem_cons_succ, List.getElem_cons_zero, List.setIfInBounds_toArray, List.set_cons_zero, List.set_cons_succ]
    refine hm_run 7 18 (.pointer (some ⟨b, 0, none⟩)) rfl rfl (by kernel_rfl) (by kernel_rfl) (by kernel_rfl) (fun _ _ _ h => h) rfl (fun _ _ => rfl) (E0.out) ?_
    try simp only [Act.put, List.getElem_toArray, List.getElem_cons_succ, List.getElem_cons_zero, List.setIfInBounds_toArray, List.set_cons_zero, List.set_cons_succ]
    refine hm_run 8 19 (.slice p n c) rfl rfl (by kernel_rfl) (by kernel_rfl) (by kernel_rfl) (fun _ _ _ h => h) rfl (fun W' hW => exec_load rfl (run_load_one Try.underlying22 rfl (cell_of_here (hW.rbox R.out.box) 0 rfl))) (E0.out) ?_
    try simp only [Act.put, List.getElem_toArray, List.getElem_cons_succ, List.getElem_cons_zero, List.setIfInBounds_toArray, List.set_cons_zero, List.set_cons_succ]
    refine hm_run 9 20 (.int .i64 ((n : Nat) : Int)) rfl rfl (by kernel_rfl) (by kernel_rfl) (by kernel_rfl) (fun _ _ _ h => h) rfl (fun W' _ => exec_len Try.underlying22 rfl rfl) (E0.out) ?_
    try simp only [Act.put, List.getElem_toArray, List.getElem_cons_succ, List.getElem_cons_zero, List.setIfInBounds_toArray, List.set_cons_zero, List.set_cons_succ]
    refine hm_run 10 21 (.int .i64 ((k : Nat) : Int)) rfl rfl (by kernel_rfl) (by kernel_rfl) (by kernel_rfl) (fun _ _ _ h => h) rfl (fun W' _ => exec_min rfl rfl rfl rfl MN.out) (E0.out) ?_
    try simp only [Act.put, List.getElem_toArray, List.getElem_cons_succ, List.getElem_cons_zero, List.setIfInBounds_toArray, List.set_cons_zero, List.set_cons_succ]
    refine hm_run 11 22 (.slice p1 k c) rfl rfl (by kernel_rfl) (by kernel_rfl) (by kernel_rfl) (fun _ _ _ h => h) rfl (fun W' _ => exec_sl rfl ((run_h KC.out W').trans (by rw [SL.out]))) (E0.out) ?_
    try simp only [Act.put, List.getElem_toArray, List.getElem_cons_succ, List.getElem_cons_zero, List.setIfInBounds_toArray, List.set_cons_zero, List.set_cons_succ]
    refine hm_run 12 7 (.slice p1 k c) rfl rfl (by kernel_rfl) (by kernel_rfl) (by kernel_rfl) (fun _ _ _ h => h) rfl (fun _ _ => rfl) (E0.out) ?_
    try simp only [Act.put, List.getElem_toArray, List.getElem_cons_succ, List.getElem_cons_zero, List.setIfInBounds_toArray, List.set_cons_zero, List.set_cons_succ]
    refine wpAnyH_done (by kernel_rfl) ?_ _
    go_wp2_with fail
    go_meet
    exact ⟨p1, rfl, rfl, E0⟩
  case rest =>
    obtain ⟨_, rfl, rfl, E⟩ := hcut
    go_wp2_with (first
      | (go_at_call 79; refine (CT.out _).mono ?_; rintro e w1 ⟨rfl, hb⟩; replace E := Lib.hid (E.out.call hb); clear hb)
      | ((with_reducible refine wpList_at 8 rfl ?_); refine mem_alloc E 39 rfl rfl infoH ?_; clear E; intro b8 w8 E; simp only [arr_cells'] at E)
      | ((with_reducible refine wpList_atn rfl ?_); refine mem_store_row 0 E 39 rfl (.tmp 8) (.tmp 27) rfl rfl rfl rfl (by kernel_rfl) (by simp only [arr_size]) (hc_one _) ?_; clear E; intro w9 E; simp only [List.set_cons_zero, List.set_cons_succ] at E)
      | (go_at_call 64; refine (need_bad _ _ _).mono ?_; rintro e w2 ⟨rfl, rfl⟩))
    exact ⟨rfl, RdPost.bad PV.out E.out.ronly⟩
set_option maxHeartbeats 8000000 in
theorem parth_good (R : Hid (Rd D W b u xs)) (hs : 80 ≤ xs.length) : Calls Try.prog 78 #[.pointer (some ⟨b, 0, none⟩), .int .i64 80, .func (.func 79) #[] #[]] W (RdPost D W b (HdV) (pHd xs)) := by
  have hb : pHd xs = .good (hdOf (lf (xs.take 80))) (xs.drop 80) := Res.bg (by unfold pTake; rw [if_pos hs])
  obtain ⟨o9, ho9⟩ : ∃ o9 : Nat, o9 = 80 := ⟨_, rfl⟩
  obtain ⟨rl, hrl⟩ : ∃ rl : Nat, rl = 0 := ⟨_, rfl⟩
  obtain ⟨q, cq, hq, _⟩ := R.out.dat.slice
  obtain ⟨p3, m3, c3, s3, A3⟩ := (show TextAt D (.slice q xs.length cq) xs by rw [← hq]; exact R.out.dat).drop (n := o9) (by omega)
  rw [ho9] at A3
  obtain ⟨p, g, o, c, n, k, p1, rfl, hn, hl, mn, hk, kc, kn, sl, R1⟩ := R.out.shown 80
  injection hq with q1 q2 q3
  subst q1 q3
  have hkn : k = 80 := by omega
  obtain rfl := R1.head (by omega)
  have R2 : Row D (some ⟨g, o, none⟩) g o k c (lf (xs.take 80)) := R1.to (fun i hi => (lf_takek (by omega)).symm) (lf_lt fun x hx => R.out.dat.isB x (List.mem_of_mem_take hx))
  have OKH := Lib.hid (hdOf_ok R2.byte)
  have E := Lib.hid R.out.start
  have PV := Lib.hid hb
  have CT := Lib.hid (show ∀ w', Below D.heap.size D w' → Calls Try.prog 79 #[.slice (some ⟨g, o, none⟩) k c] w' fun e w'' => ∃ p4 c4, e = .returned (.tuple #[.agg (arr 68 (hc (hdOf (lf (xs.take 80))))), .slice p4 rl c4, .int .i64 0]) ∧ Below w'.heap.size w' w'' from fun w' hw => by
    refine (hdec_long (Lib.hid (R2.below hw)) (by omega) (by omega)).mono fun e w'' h => ?_
    obtain ⟨p4, g4, c4, he, _, hbb⟩ := h
    exact ⟨p4, c4, by rw [he, hrl, hkn], hbb⟩)
  obtain ⟨H, hH⟩ : ∃ H, H = hdOf (lf (xs.take 80)) := ⟨_, rfl⟩
  rw [← hH] at CT OKH PV
  obtain ⟨p1, hp1⟩ : ∃ p1, p1 = (some ⟨g, o, none⟩ : Option Addr) := ⟨_, rfl⟩
  rw [← hp1] at sl CT
  rw [← hn] at s3
  have MN := Lib.hid mn
  have SL := Lib.hid sl
  have S3 := Lib.hid s3
  have T3 := Lib.hid A3
  have KC := Lib.hid kc
  have K9 : Hid (IntKind.i64.wrap ((k : Int) - (rl : Int)) = ((o9 : Nat) : Int)) := Lib.hid (by rw [IntKind.wrap_i64]; omega)
  have L9 := Lib.hid (show o9 ≤ n by omega)
  clear hn mn hk kc sl R1 R2 hb s3 A3 hkn hrl ho9 q2 kn hs hH hp1
  go_enter Try.func78, Try.ntmps78
  go_upto_region 1 with (refine mem_alloc E 39 rfl rfl infoH ?_; clear E; intro b6 w6 E; simp only [arr_cells'] at E)
  try simp only [Act.put, List.getElem_toArray, List.getElem_cons_succ, List.getElem_cons_zero, List.setIfInBounds_toArray, List.set_cons_zero, List.set_cons_succ]
  go_cut [7] (fun s7 wx => ∃ p1', s7 = .slice p1' k c ∧ p1' = p1 ∧ Hid (Mem (rb W b #[.slice p n c]) [(b6, 39, arr 68 (hc h0))] wx))
  case first =>
    refine wp_region_mem E (by kernel_rfl) ?_
    clear E
    intro wx E0
    refine hm_run 0 11 (.pointer (some ⟨b, 0, none⟩)) rfl rfl (by kernel_rfl) (by kernel_rfl) (by kernel_rfl) (fun _ _ _ h => h) rfl (fun _ _ => rfl) (E0.out) ?_
    try simp only [Act.put, List.getElem_toArray, List.getElem_cons_succ, List.getElem_cons_zero, List.setIfInBounds_toArray, List.set_cons_zero, List.set_cons_succ]
    refine hm_run 1 12 (.pointer (some ⟨b, 0, none⟩)) rfl rfl (by kernel_rfl) (by kernel_rfl) (by kernel_rfl) (fun _ _ _ h => h) rfl (fun _ _ => rfl) (E0.out) ?_
    try simp only [Act.put, List.getElem_toArray, List.getElem_cons_succ, List.getElem_cons_zero, List.setIfInBounds_toArray, List.set_cons_zero, List.set_cons_succ]
    refine hm_run 2 13 (.pointer (some ⟨b, 0, none⟩)) rfl rfl (by kernel_rfl) (by kernel_rfl) (by kernel_rfl) (fun _ _ _ h => h) rfl (fun _ _ => rfl) (E0.out) ?_
    try simp only [Act.put, List.getElem_toArray, List.getElem_cons_succ, List.getElem_cons_zero, List.setIfInBounds_toArray, List.set_cons_zero, List.set_cons_succ]
    refine hm_run 3 14 (.slice p n c) rfl rfl (by kernel_rfl) (by kernel_rfl) (by kernel_rfl) (fun _ _ _ h => h) rfl (fun W' hW => exec_load rfl (run_load_one Try.underlying22 rfl (cell_of_here (hW.rbox R.out.box) 0 rfl))) (E0.out) ?_
    try simp only [Act.put, List.getElem_toArray, List.getElem_cons_succ, List.getElem_cons_zero, List.setIfInBounds_toArray, List.set_cons_zero, List.set_cons_succ]
    refine hm_run 4 15 (.int .i64 80) rfl rfl (by kernel_rfl) (by kernel_rfl) (by kernel_rfl) (fun _ _ _ h => h) rfl (fun _ _ => rfl) (E0.out) ?_
    try simp only [Act.put, List.getElem_toArray, List.getElem_cons_succ, List.getElem_cons_zero, List.setIfInBounds_toArray, List.set_cons_zero, List.set_cons_succ]
    refine hm_run 5 16 (.pointer (some ⟨b, 0, none⟩)) rfl rfl (by kernel_rfl) (by kernel_rfl) (by kernel_rfl) (fun _ _ _ h => h) rfl (fun _ _ => rfl) (E0.out) ?_
    try simp only [Act.put, List.getElem_toArray, List.getElem_cons_succ, List.getElem_cons_zero, List.setIfInBounds_toArray, List.set_cons_zero, List.set_cons_succ]
    refine hm_run 6 17 (.pointer (some ⟨b, 0, none⟩)) rfl rfl (by kernel_rfl) (by kernel_rfl) (by kernel_rfl) (fun _ _ _ h => h) rfl (fun _ _ => rfl) (E0.out) ?_
    try simp only [Act.put, List.getElem_toArray, List.getElem_cons_succ, List.getElem_cons_zero, List.setIfInBounds_toArray, List.set_cons_zero, List.set_cons_succ]
    refine hm_run 7 18 (.pointer (some ⟨b, 0, none⟩)) rfl rfl (by kernel_rfl) (by kernel_rfl) (by kernel_rfl) (fun _ _ _ h => h) rfl (fun _ _ => rfl) (E0.out) ?_
    try simp only [Act.put, List.getElem_toArray, List.getElem_cons_succ, List.getElem_cons_zero, List.setIfInBounds_toArray, List.set_cons_zero, List.set_cons_succ]
    refine hm_run 8 19 (.slice p n c) rfl rfl (by kernel_rfl) (by kernel_rfl) (by kernel_rfl) (fun _ _ _ h => h) rfl (fun W' hW => exec_load rfl (run_load_one Try.underlying22 rfl (cell_of_here (hW.rbox R.out.box) 0 rfl))) (E0.out) ?_
    try simp only [Act.put, List.getElem_toArray, List.getElem_cons_succ, List.getElem_cons_zero, List.setIfInBounds_toArray, List.set_cons_zero, List.set_cons_succ]
    refine hm_run 9 20 (.int .i64 ((n : Nat) : Int)) rfl rfl (by kernel_rfl) (by kernel_rfl) (by kernel_rfl) (fun _ _ _ h => h) rfl (fun W' _ => exec_len Try.underlying22 rfl rfl) (E0.out) ?_
    try simp only [Act.put, List.getElem_toArray, List.getElem_cons_succ, List.getElem_cons_zero, List.setIfInBounds_toArray, List.set_cons_zero, List.set_cons_succ]
    refine hm_run 10 21 (.int .i64 ((k : Nat) : Int)) rfl rfl (by kernel_rfl) (by kernel_rfl) (by kernel_rfl) (fun _ _ _ h => h) rfl (fun W' _ => exec_min rfl rfl rfl rfl MN.out) (E0.out) ?_
    try simp only [Act.put, List.getElem_toArray, List.getElem_cons_succ, List.getElem_cons_zero, List.setIfInBounds_toArray, List.set_cons_zero, List.set_cons_succ]
    refine hm_run 11 22 (.slice p1 k c) rfl rfl (by kernel_rfl) (by kernel_rfl) (by kernel_rfl) (fun _ _ _ h => h) rfl (fun W' _ => exec_sl rfl ((run_h KC.out W').trans (by rw [SL.out]))) (E0.out) ?_
    try simp only [Act.put, List.getElem_toArray, List.getElem_cons_succ, List.getElem_cons_zero, List.setIfInBounds_toArray, List.set_cons_zero, List.set_cons_succ]
    refine hm_run 12 7 (.slice p1 k c) rfl rfl (by kernel_rfl) (by kernel_rfl) (by kernel_rfl) (fun _ _ _ h => h) rfl (fun _ _ => rfl) (E0.out) ?_
    try simp only [Act.put, List.getElem_toArray, List.getElem_cons_succ, List.getElem_cons_zero, List.setIfInBounds_toArray, List.set_cons_zero, List.set_cons_succ]
    refine wpAnyH_done (by kernel_rfl) ?_ _
    go_wp2_with fail
    go_meet
    exact ⟨p1, rfl, rfl, E0⟩
  case rest =>
    obtain ⟨_, rfl, rfl, E⟩ := hcut
    go_wp2_with (first
      | (go_at_call 79; refine (CT.out _ (only_old R.out E.out.ronly)).mono ?_; rintro e w1 ⟨p4, c4, rfl, hb⟩; replace E := Lib.hid (E.out.call hb); clear hb)
      | ((with_reducible refine wpList_at 8 rfl ?_); refine mem_alloc E 39 rfl rfl infoH ?_; clear E; intro b8 w8 E; simp only [arr_cells'] at E)
      | ((with_reducible refine wpList_atn rfl ?_); refine mem_store_row 0 E 39 rfl (.tmp 8) (.tmp 27) rfl rfl rfl rfl (by kernel_rfl) (by simp only [arr_size]) (hc_one _) ?_; clear E; intro w9 E; simp only [List.set_cons_zero, List.set_cons_succ] at E)
      | (go_at_call 64; refine (need_ok _ _ _).mono ?_; rintro e w2 ⟨⟨r2, rfl⟩, rfl⟩)
      | ((with_reducible refine wpList_at 39 rfl ?_); refine wpList_xld E R.out.hbox 22 _ rfl rfl rfl Try.underlying22 rfl rfl ?_)
      | ((with_reducible refine wpList_at 44 rfl ?_); refine mem_known rfl (.int .i64 ((o9 : Nat) : Int)) _ (exec_sub rfl rfl rfl K9.out) ?_)
      | ((with_reducible refine wpList_at 45 rfl ?_); refine mem_known rfl (.slice p3 m3 c3) _ (exec_sl rfl (by exact (run_l L9.out _).trans (by rw [S3.out]))) ?_)
      | ((with_reducible refine wpList_atn rfl ?_); refine wpList_xst E R.out.hbox 22 (.tmp 47) (.tmp 45) rfl rfl rfl (v := .slice p3 m3 c3) rfl (by kernel_rfl) rfl rfl rfl (cs' := #[.slice p3 m3 c3]) rfl ?_; clear E; intro w1 E)
      | ((with_reducible refine wpList_at 48 rfl ?_); refine mem_load_row E 39 rfl (.tmp 8) rfl rfl List.mem_cons_self Try.underlying39 rfl (by simp only [arr_size]; kernel_rfl) ?_)
      | ((with_reducible refine wpList_atn rfl ?_); refine mem_store_row 1 E 39 rfl (.tmp 6) (.tmp 48) rfl rfl rfl rfl (by kernel_rfl) (by simp only [arr_size]) (hc_one _) ?_; clear E; intro w9 E; simp only [List.set_cons_zero, List.set_cons_succ] at E))
    refine bodyPost_ret (results_cell_row (fn := Try.f78) rfl _ _ b6 39 _ (0, 0) _ rfl (E.out.get (List.mem_cons_of_mem _ List.mem_cons_self)) Try.underlying39 rfl (by rw [arr_size]; kernel_rfl)) rfl ?_
    exact RdPost.good PV.out T3.out E.out ⟨rfl, OKH.out⟩
theorem parth_any (R : Hid (Rd D W b u xs)) : Calls Try.prog 78 #[.pointer (some ⟨b, 0, none⟩), .int .i64 80, .func (.func 79) #[] #[]] W (RdPost D W b HdV (pHd xs)) := by
  by_cases h : xs.length < 80
  · exact parth_bad R h
  · exact parth_good R (by omega)
set_option maxHeartbeats 2000000 in
theorem pend_any (R : Hid (Rd D W b u xs)) : Calls Try.prog 82 #[.pointer (some ⟨b, 0, none⟩)] W (RdPost D W b (fun _ _ _ => True) (pEnd xs)) := by
  have E := Lib.hid R.out.start
  obtain ⟨p, c, rfl, hl⟩ := R.out.dat.slice
  obtain ⟨n, hn⟩ : ∃ n, n = xs.length := ⟨_, rfl⟩
  have A := Lib.hid R.out.dat
  have HN := Lib.hid hn
  have HB := R.out.hbox
  rw [← hn] at E HB A
  clear hn hl R
  go_enter Try.func82, Try.ntmps82
  go_wp2_with (first
    | ((with_reducible refine wpList_at 6 rfl ?_); refine wpList_xld E HB 22 _ rfl rfl rfl Try.underlying22 rfl rfl ?_)
    | (go_at_call 64; refine (need_any _ _ _ _).mono ?_; rintro e2 w2 ⟨rfl, ⟨hc, rr, rfl⟩ | ⟨hc, rfl⟩⟩; case inr => exact ⟨rfl, RdPost.bad (if_neg (by rw [← HN.out]; simp at hc; omega)) E.out.ronly⟩
       (have HC : Hid (xs.length = 0) := Lib.hid (by rw [← HN.out]; simp at hc; omega); clear hc)))
  go_end0
  exact RdPost.good (if_pos HC.out) A.out E.out True.intro
/-- The cells of a block of noughts. -/
def bz : Nat → Value := bc (hr fun _ => 0) (.slice none 0 0)
def BlkV (B : Nat) (w' : World) (v : Value) (a : TBlk) : Prop := ∃ V, v = .agg (arr 69 V) ∧ BlkOwn B w' V a
theorem infoBz : (Try.prog.info? 41).map (fun i => (i.zero, i.size)) = some (some (.agg (arr 69 bz)), 69) := infoBlk0
theorem bz_one : ∀ j, j < 69 → (bz j).oneCell' = true := blk_ones (bc_at (hr_ok fun _ => by decide) (txs_nil default))
set_option maxHeartbeats 8000000 in
theorem bread_any (R : Hid (Rd D W b u xs)) (h2 : xs.length ≤ 200000) : Calls Try.prog 48 #[.pointer (some ⟨b, 0, none⟩)] W (RdPost D W b (BlkV W.heap.size) (pBlk xs)) := by
  have E := Lib.hid R.out.start
  go_enter Try.func48, Try.ntmps48
  go_upto_region 1 with (refine mem_alloc E 41 rfl rfl infoBz ?_; clear E; intro b0 w0 E; simp only [arr_cells'] at E)
  go_upto_region 2 with (refine mem_alloc E 41 rfl rfl infoBz ?_; clear E; intro b2 w2 E; simp only [arr_cells'] at E)
  go_upto_region 5 with (first
    | (go_at_call 78; refine (parth_any (Lib.hid (E.out.rnext R.out R.out.dat))).mono ?_; intro e1 w1 h1; rcases h1.cases with ⟨er, hr, rfl, ho⟩ | ⟨H, r1, v1, u1, hr, rfl, ha, hb, rfl, hok⟩; case inl => exact ⟨rfl, RdPost.bad (Res.bb hr) (E.out.ronly.trans ho)⟩
       (have HR1 := Lib.hid hr; have HA := Lib.hid ha; have OKH := Lib.hid hok; have RL := Lib.hid (Nat.le_trans (eats_hd.le hr) h2); replace E := Lib.hid (E.out.rcall R.out.box hb); clear hr ha hb h1 hok))
    | ((with_reducible refine wpList_atn rfl ?_); refine mem_store_part 0 E 39 rfl (.tmp 6) (.tmp 5) rfl rfl rfl rfl (by rw [arr_size]; kernel_rfl) (by rw [arr_size]; omega) (hc_one _) ?_; clear E; intro w3 E KT3; clear KT3; simp only [List.set_cons_zero, List.set_cons_succ] at E)
    | (go_at_call 80; refine (pltxs_any (Lib.hid (E.out.rnext R.out HA.out)) RL.out).mono ?_; intro e1 w1 h1; rcases h1.cases with ⟨er, hr, rfl, ho⟩ | ⟨txs, r2, v2, u2, hr, rfl, ha, hb, hv⟩; case inl => exact ⟨rfl, RdPost.bad ((Res.bg HR1.out).trans (Res.bb hr)) (E.out.ronly.trans ho)⟩
       (have HR2 := Lib.hid hr; have TX := Lib.hid (hv.mono E.out.rsize); have TO := Lib.hid hv.cells1; replace HA := Lib.hid ha; replace E := Lib.hid (E.out.rcall R.out.box hb); clear hr ha hb h1 hv))
    | ((with_reducible refine wpList_atn rfl ?_); refine mem_store_cellk (v := v2) 0 E 35 rfl (.tmp 9) (.tmp 8) rfl rfl rfl rfl (by kernel_rfl) TO.out.1 TO.out.2 (by rw [arr_size]; omega) ?_; clear E; intro w6 E KT; simp only [List.set_cons_zero, List.set_cons_succ, arr_ups] at E; replace TX := Lib.hid (TX.out.keep KT.out (by decide) (by decide) (by decide) (by decide) (by decide)); clear KT)
    | (go_at_call 82; refine (pend_any (Lib.hid (E.out.rnext R.out HA.out))).mono ?_; intro e1 w1 h1; rcases h1.cases with ⟨er, hr, rfl, ho⟩ | ⟨q3, r3, v3, u3, hr, rfl, ha, hb, _⟩; case inl => exact ⟨rfl, RdPost.bad ((Res.bg HR1.out).trans ((Res.bg HR2.out).trans (Res.bb hr))) (E.out.ronly.trans ho)⟩
       (have HR3 := Lib.hid hr; have KT := rkeep (E.out.rbox R.out.box) hb; replace TX := Lib.hid (TX.out.keep KT (by decide) (by decide) (by decide) (by decide) (by decide)); replace HA := Lib.hid ha; replace E := Lib.hid (E.out.rcall R.out.box hb); clear KT hr ha hb h1)))
  obtain ⟨V3, hV3⟩ : ∃ V3 : Nat → Value, V3 = ups (upl bz 0 (arr 68 (hc H)).toList) 68 v2 := ⟨_, rfl⟩
  have V68 : V3 68 = v2 := by rw [hV3, ups_at]
  have VH : ∀ j, j < 68 → V3 j = hc H j := fun j hj => by
    rw [hV3, ups_ne _ _ (by omega)]
    have := upl_in (arr 68 (hc H)).toList bz 0 j (by rw [Array.length_toList, arr_size]; exact hj)
    rw [Nat.zero_add] at this
    rw [this, Array.getElem_toList]
    have e := arr_get 68 (hc H) j hj
    rw [Array.getElem?_eq_getElem (by rw [arr_size]; exact hj)] at e
    exact Option.some.inj e
  have BO : Hid (∀ w', TxsOwn W.heap.size w' v2 txs → BlkOwn W.heap.size w' V3 ⟨H, txs⟩) := Lib.hid fun w' h => ⟨VH, OKH.out, by show TxsOwn _ _ (V3 68) txs; rw [V68]; exact h⟩
  have ONE := Lib.hid (blk_ones (BO.out _ TX.out).at)
  have PP := Lib.hid (show pBlk xs = .good ⟨H, txs⟩ r3 from (Res.bg HR1.out).trans ((Res.bg HR2.out).trans (Res.bg HR3.out)))
  rw [← hV3] at E
  clear hV3 V68 VH
  go_wp2_with (first
    | ((with_reducible refine wpList_at 12 rfl ?_); refine mem_load_row E 41 rfl (.tmp 3) rfl rfl List.mem_cons_self blk_is rfl (by simp only [arr_size]; kernel_rfl) ?_)
    | ((with_reducible refine wpList_atn rfl ?_); refine mem_store_rowk 1 E 41 rfl (.tmp 2) (.tmp 12) rfl rfl rfl rfl (by kernel_rfl) (by simp only [arr_size]) (all_of ONE.out) ?_; clear E; intro w9 E KT; simp only [List.set_cons_zero, List.set_cons_succ] at E; replace TX := Lib.hid (TX.out.keep KT.out (by decide) (by decide) (by decide) (by decide) (by decide)); clear KT))
  refine bodyPost_ret (results_cell_row (fn := Try.f48) rfl _ _ b0 41 _ (0, 0) _ rfl (E.out.get (List.mem_cons_of_mem _ List.mem_cons_self)) blk_is rfl (by rw [arr_size]; kernel_rfl)) rfl ?_
  exact RdPost.good PP.out HA.out E.out ⟨_, rfl, BO.out _ TX.out⟩
end
end Go.Proofs.Ytllndneplkigpaa
