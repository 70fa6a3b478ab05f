/- A transaction written, the program's: its bytes with or without witnesses, or the error. -/
import Derived.Test.YtfjpjhhkafkepaaDoorTf
import Derived.Test.YtfjpjhhkafkepaaDoorTc
import Derived.Test.YtfjpjhhkafkepaaDoorZA
set_option linter.unusedSimpArgs false
set_option linter.unusedVariables false
set_option maxRecDepth 100000
namespace Go.Proofs.YtfjpjhhkafkepaaDoor
open Go.RowKit Go.Lib Go.Sort

theorem res2 {P : Program} {fn : Func} {a b : Tmp} (h : fn.results = #[.tmp a, .tmp b]) (tmps : Array Value) (w : World) :
    (results fn tmps).run P w = .ok (.tuple #[tmps.getD a undef, tmps.getD b undef]) w := by simp [results, h]
theorem nb_one {b T : Nat} {cs : Array Value} (hT : T ≠ 5) : ∀ q : Nat × TypeId × Array Value, q ∈ [(b, T, cs)] → q.2.1 ≠ 5 := fun q hq => by obtain rfl := List.mem_singleton.1 hq; exact hT
theorem tput4_nil {w0 w : World} {l : List (Nat × TypeId × Array Value)} (n : Nat) (E : Hid (Mem w0 l w)) (nb : ∀ q, q ∈ l → q.2.1 ≠ 5) : Calls Tryd.prog 14 #[.slice none 0 0, .int .u64 ((n : Nat) : Int), .int .i64 4] w (Puts w0 l (low n 4)) := tput4 n (Lib.hid (Wb.none E.out nb)) (by simp)
theorem isB_01 : IsB [0, 1] := fun x hx => by simp at hx; omega
theorem fbs_01 : (#[Value.int .u8 0, Value.int .u8 1] : Array Value).toList = fbs (lf [0, 1]) 2 := by rfl
/-- A transaction's bytes, the form with witnesses or the other. -/
def txB (m : Bool) (t : TTx) : List Nat := low t.ver 4 ++ (if m then [0, 1] else []) ++ listB inB t.ins ++ listB outB t.outs ++ (if m then (t.ins.map witB).flatten else []) ++ low t.lock 4
theorem flat_le {α : Type} (f : α → List Nat) (B : Nat) : ∀ l : List α, (∀ x, x ∈ l → (f x).length ≤ B) → ((l.map f).flatten).length ≤ l.length * B
  | [], _ => by simp
  | x :: l, h => by
    have h1 := h x List.mem_cons_self
    have h2 := flat_le f B l (fun y hy => h y (List.mem_cons_of_mem _ hy))
    simp only [List.map_cons, List.flatten_cons, List.length_append, List.length_cons, Nat.add_mul]
    omega
theorem listB_le {α : Type} (f : α → List Nat) (B M : Nat) (l : List α) (hl : l.length ≤ M) (h : ∀ x, x ∈ l → (f x).length ≤ B) : (listB f l).length ≤ 9 + M * B := by
  unfold listB
  rw [List.length_append]
  have h1 := flat_le f B l h
  have h2 := (cnt_le l.length).2
  have h3 : l.length * B ≤ M * B := Nat.mul_le_mul_right B hl
  omega
structure CanFacts (t : TTx) : Prop where
  n0 : 0 < t.ins.length
  n1 : t.ins.length ≤ 2000
  m1 : t.outs.length ≤ 2000
  ins : ∀ x, x ∈ t.ins → x.sc.length ≤ 10000 ∧ x.wit.length ≤ 100 ∧ ∀ y, y ∈ x.wit → y.length ≤ 10000
  outs : ∀ x, x ∈ t.outs → 0 ≤ x.val ∧ x.sc.length ≤ 10000
theorem can_facts {t : TTx} (h : canB t = true) : CanFacts t := by
  unfold canB at h
  simp only [Bool.and_eq_true, Bool.not_eq_true', Bool.or_eq_false_iff, decide_eq_false_iff_not] at h
  obtain ⟨⟨⟨⟨h1, h2⟩, h3⟩, h4⟩, h5⟩ := h
  refine ⟨by omega, by omega, by omega, fun x hx => ?_, fun x hx => ?_⟩
  · rw [List.any_eq_false] at h4
    have := h4 x hx
    unfold badInB longB at this
    simp only [Bool.or_eq_true, decide_eq_true_eq, List.any_eq_true, not_or, not_exists, not_and] at this
    exact ⟨by omega, by omega, fun y hy => by have := this.2 y hy; omega⟩
  · rw [List.any_eq_false] at h5
    have := h5 x hx
    unfold badOutB longB at this
    simp only [Bool.or_eq_true, decide_eq_true_eq, not_or] at this
    exact ⟨by omega, by omega⟩
theorem inB_le {x : TIn} (h : x.id.length = 32) (hs : x.sc.length ≤ 10000) : (inB x).length ≤ 10049 := by
  have := text_le x.sc
  unfold inB
  simp only [List.length_append, low_length]
  omega
theorem outB_le {x : TOut} (hs : x.sc.length ≤ 10000) : (outB x).length ≤ 10017 := by
  have := text_le x.sc
  unfold outB
  simp only [List.length_append, low_length]
  omega
theorem witB_le {x : TIn} (h : x.wit.length ≤ 100) (hs : ∀ y, y ∈ x.wit → y.length ≤ 10000) : (witB x).length ≤ 1000909 := by
  have := listB_le text 10009 100 x.wit h (fun y hy => by have := text_le y; have := hs y hy; omega)
  unfold witB
  omega
theorem TxCells.idlen {W : World} {V : Nat → Value} {t : TTx} (A : TxCells W V t) : ∀ x, x ∈ t.ins → x.id.length = 32 := fun x hx => by
  obtain ⟨p, g, o, c, U, _, _, _, hi⟩ := A.ins
  obtain ⟨i, hi2, rfl⟩ := List.getElem_of_mem hx
  exact (hi i hi2).len
theorem parts_le {t : TTx} (h : CanFacts t) (hid : ∀ x, x ∈ t.ins → x.id.length = 32) : (listB inB t.ins).length ≤ 20098009 ∧ (listB outB t.outs).length ≤ 20034009 ∧ ((t.ins.map witB).flatten).length ≤ 2001818000 := by
  refine ⟨?_, ?_, ?_⟩
  · have := listB_le inB 10049 2000 t.ins h.n1 (fun x hx => inB_le (hid x hx) (h.ins x hx).1)
    omega
  · have := listB_le outB 10017 2000 t.outs h.m1 (fun x hx => outB_le (h.outs x hx).2)
    omega
  · have h1 := flat_le witB 1000909 t.ins (fun x hx => witB_le (h.ins x hx).2.1 (h.ins x hx).2.2)
    have h2 : t.ins.length * 1000909 ≤ 2000 * 1000909 := Nat.mul_le_mul_right _ h.n1
    omega
/-- What a call that writes a transaction leaves. -/
def Enc (W : World) (t : TTx) (m : Bool) (e : Ending) (w' : World) : Prop :=
  if canB t then ∃ p g c, e = .returned (.tuple #[.slice p (txB m t).length c, .int .i64 0]) ∧ Own W.heap.size w' p g (txB m t).length c (lf (txB m t)) ∧ Below W.heap.size W w'
  else e = .returned (.tuple #[.slice none 0 0, .int .i64 1]) ∧ Below W.heap.size W w'
theorem Enc.of {W w' : World} {t : TTx} {m : Bool} {zs : List Nat} {p : Option Addr} {g c : Nat} {l : List (Nat × TypeId × Array Value)} (hc : canB t = true) (h : zs = txB m t) (K : Wb W l p g c zs w') : Enc W t m (.returned (.tuple #[.slice p zs.length c, .int .i64 0])) w' := by
  subst h
  unfold Enc
  rw [if_pos hc]
  exact ⟨p, g, c, rfl, K.own, K.mem.below⟩

set_option maxHeartbeats 4000000 in
theorem txenc_bad {W : World} {V : Nat → Value} {t : TTx} (A : Hid (TxCells W V t)) (hc : canB t = false) (b m : Bool) : Calls Tryd.prog 36 #[.agg (arr 4 V), .bool b] W (Enc W t m) := by
  have E := Lib.hid (Mem.nil W)
  have AT : TxAt W (.agg (arr 4 V)) t := ⟨V, rfl, A.out⟩
  have CAN := Lib.hid (show ∀ w', Below W.heap.size W w' → Calls Tryd.prog 55 #[.agg (arr 4 V)] w' fun e w'' => e = .returned (.bool false) ∧ Below w'.heap.size w' w'' from fun w' hb => by
    have := can_any (Lib.hid (AT.below hb))
    rwa [hc] at this)
  have HC := Lib.hid hc
  clear A AT hc
  go_enter Tryd.func36, Tryd.ntmps36
  go_wp2_with (first
    | (refine mem_box E 58 rfl _ rfl rfl (arr_cells' 4 V) ?_; clear E; intro b2 w2 E)
    | (refine mem_load_row E 58 rfl (.tmp 2) rfl rfl List.mem_cons_self Tryd.underlying58 rfl (by simp only [arr_size]; kernel_rfl) ?_)
    | (go_at_call 55; refine (CAN.out _ E.out.below).mono ?_; rintro e w3 ⟨rfl, hb⟩; replace E := Lib.hid (E.out.call hb); clear hb))
  refine bodyPost_ret (res2 (fn := Tryd.f36) rfl _ _) rfl ?_
  unfold Enc
  rw [HC.out]
  exact ⟨rfl, E.out.below⟩

set_option maxHeartbeats 8000000 in
theorem txenc_bare {W : World} {V : Nat → Value} {t : TTx} (A : Hid (TxCells W V t)) (hc : canB t = true) : Calls Tryd.prog 36 #[.agg (arr 4 V), .bool false] W (Enc W t false) := by
  have E := Lib.hid (Mem.nil W)
  have AT : TxAt W (.agg (arr 4 V)) t := ⟨V, rfl, A.out⟩
  have c0 : (arr 4 V)[0]? = some (.int .u32 ((t.ver : Nat) : Int)) := by rw [arr_get 4 V 0 (by omega), A.out.ver]; rfl
  have c1 : (arr 4 V)[1]? = some (V 1) := arr_get 4 V 1 (by omega)
  have c2 : (arr 4 V)[2]? = some (V 2) := arr_get 4 V 2 (by omega)
  have c3 : (arr 4 V)[3]? = some (.int .u32 ((t.lock : Nat) : Int)) := by rw [arr_get 4 V 3 (by omega), A.out.lock]; rfl
  have cw0 : IntKind.u64.wrap (t.ver : Int) = (t.ver : Int) := wrap_u32 A.out.verB
  have cw3 : IntKind.u64.wrap (t.lock : Int) = (t.lock : Int) := wrap_u32 A.out.lockB
  have HC := Lib.hid hc
  have CF := can_facts hc
  have BD := Lib.hid (parts_le CF A.out.idlen)
  have N1 := CF.n1
  have HI := Lib.hid A.out.ins
  have HO := Lib.hid A.out.outs
  have CAN := Lib.hid (show ∀ w', Below W.heap.size W w' → Calls Tryd.prog 55 #[.agg (arr 4 V)] w' fun e w'' => e = .returned (.bool true) ∧ Below w'.heap.size w' w'' from fun w' hb => by
    have := can_any (Lib.hid (AT.below hb))
    rwa [hc] at this)
  clear A AT hc CF
  go_enter Tryd.func36, Tryd.ntmps36
  go_wp2_with (first
    | (refine mem_box E 58 rfl _ rfl rfl (arr_cells' 4 V) ?_; clear E; intro b2 w2 E)
    | (refine mem_load_row E 58 rfl (.tmp 2) rfl rfl List.mem_cons_self Tryd.underlying58 rfl (by simp only [arr_size]; kernel_rfl) ?_)
    | (go_at_call 55; refine (CAN.out _ E.out.below).mono ?_; rintro e w3 ⟨rfl, hb⟩; replace E := Lib.hid (E.out.call hb); clear hb)
    | (refine mem_load_cell E 22 rfl (.tmp 19) rfl rfl List.mem_cons_self Tryd.underlying22 rfl c0 ?_)
    | (go_at_call 14; (with_reducible refine (tput4_nil t.ver E (nb_one (by decide))).mono ?_); intro e w5 h5; obtain ⟨p5, g5, c5, z5, rfl, Z5, K5⟩ := h5.any; clear h5 E; have K := K5; clear K5)
    | (refine mem_load_cell (Lib.hid K.out.mem) 55 rfl (.tmp 28) rfl rfl List.mem_cons_self Tryd.underlying55 rfl c1 ?_)
    | (go_at_call 58; (with_reducible refine (plin_any HI K (by have := BD.out; simp only [Z5.out, List.length_append, tl_length, low_length, List.length_nil]; omega)).mono ?_); intro e w7 h7; obtain ⟨p7, g7, c7, z7, rfl, Z7, K7⟩ := h7.any; clear h7 K; have K := K7; clear K7)
    | (refine mem_load_cell (Lib.hid K.out.mem) 56 rfl (.tmp 32) rfl rfl List.mem_cons_self Tryd.underlying56 rfl c2 ?_)
    | (go_at_call 60; (with_reducible refine (plout_any HO K (by have := BD.out; simp only [Z7.out, Z5.out, List.length_append, tl_length, low_length, List.length_nil]; omega)).mono ?_); intro e w8 h8; obtain ⟨p8, g8, c8, z8, rfl, Z8, K8⟩ := h8.any; clear h8 K; have K := K8; clear K8)
    | (refine mem_load_cell (Lib.hid K.out.mem) 22 rfl (.tmp 49) rfl rfl List.mem_cons_self Tryd.underlying22 rfl c3 ?_)
    | (go_at_call 14; (with_reducible refine (tput4 t.lock K (by have := BD.out; simp only [Z8.out, Z7.out, Z5.out, List.length_append, tl_length, low_length, List.length_nil]; omega)).mono ?_); intro e w9 h9; obtain ⟨p9, g9, c9, z9, rfl, Z9, K9⟩ := h9.any; clear h9 K; have K := K9; clear K9))
  refine bodyPost_ret (res2 (fn := Tryd.f36) rfl _ _) rfl ?_
  exact Enc.of HC.out (by rw [Z9.out, Z8.out, Z7.out, Z5.out]; unfold txB; simp) K.out

set_option maxHeartbeats 8000000 in
theorem txenc_none {W : World} {V : Nat → Value} {t : TTx} (A : Hid (TxCells W V t)) (hc : canB t = true) (hh : t.ins.any hasB = false) : Calls Tryd.prog 36 #[.agg (arr 4 V), .bool true] W (Enc W t false) := by
  have E := Lib.hid (Mem.nil W)
  have AT : TxAt W (.agg (arr 4 V)) t := ⟨V, rfl, A.out⟩
  have c0 : (arr 4 V)[0]? = some (.int .u32 ((t.ver : Nat) : Int)) := by rw [arr_get 4 V 0 (by omega), A.out.ver]; rfl
  have c1 : (arr 4 V)[1]? = some (V 1) := arr_get 4 V 1 (by omega)
  have c2 : (arr 4 V)[2]? = some (V 2) := arr_get 4 V 2 (by omega)
  have c3 : (arr 4 V)[3]? = some (.int .u32 ((t.lock : Nat) : Int)) := by rw [arr_get 4 V 3 (by omega), A.out.lock]; rfl
  have cw0 : IntKind.u64.wrap (t.ver : Int) = (t.ver : Int) := wrap_u32 A.out.verB
  have cw3 : IntKind.u64.wrap (t.lock : Int) = (t.lock : Int) := wrap_u32 A.out.lockB
  have HC := Lib.hid hc
  have CF := can_facts hc
  have BD := Lib.hid (parts_le CF A.out.idlen)
  have N1 := CF.n1
  have HI := Lib.hid A.out.ins
  have HO := Lib.hid A.out.outs
  have CAN := Lib.hid (show ∀ w', Below W.heap.size W w' → Calls Tryd.prog 55 #[.agg (arr 4 V)] w' fun e w'' => e = .returned (.bool true) ∧ Below w'.heap.size w' w'' from fun w' hb => by
    have := can_any (Lib.hid (AT.below hb))
    rwa [hc] at this)
  have HASW := Lib.hid (show ∀ w', Below W.heap.size W w' → Calls Tryd.prog 56 #[V 1, .func (.func 57) #[] #[]] w' fun e w'' => e = .returned (.bool false) ∧ Below w'.heap.size w' w'' from fun w' hb => by
    have := cfhasw_any (Lib.hid hasw_any) (Lib.hid (A.out.ins.below hb))
    rwa [hh] at this)
  clear A AT hc CF
  go_enter Tryd.func36, Tryd.ntmps36
  go_wp2_with (first
    | (refine mem_box E 58 rfl _ rfl rfl (arr_cells' 4 V) ?_; clear E; intro b2 w2 E)
    | (refine mem_load_row E 58 rfl (.tmp 2) rfl rfl List.mem_cons_self Tryd.underlying58 rfl (by simp only [arr_size]; kernel_rfl) ?_)
    | (go_at_call 55; refine (CAN.out _ E.out.below).mono ?_; rintro e w3 ⟨rfl, hb⟩; replace E := Lib.hid (E.out.call hb); clear hb)
    | (refine mem_load_cell E 55 rfl (.tmp 15) rfl rfl List.mem_cons_self Tryd.underlying55 rfl c1 ?_)
    | (go_at_call 56; refine (HASW.out _ E.out.below).mono ?_; rintro e w4 ⟨rfl, hb⟩; replace E := Lib.hid (E.out.call hb); clear hb)
    | (refine mem_load_cell E 22 rfl (.tmp 19) rfl rfl List.mem_cons_self Tryd.underlying22 rfl c0 ?_)
    | (go_at_call 14; (with_reducible refine (tput4_nil t.ver E (nb_one (by decide))).mono ?_); intro e w5 h5; obtain ⟨p5, g5, c5, z5, rfl, Z5, K5⟩ := h5.any; clear h5 E; have K := K5; clear K5)
    | (refine mem_load_cell (Lib.hid K.out.mem) 55 rfl (.tmp 28) rfl rfl List.mem_cons_self Tryd.underlying55 rfl c1 ?_)
    | (go_at_call 58; (with_reducible refine (plin_any HI K (by have := BD.out; simp only [Z5.out, List.length_append, tl_length, low_length, List.length_nil]; omega)).mono ?_); intro e w7 h7; obtain ⟨p7, g7, c7, z7, rfl, Z7, K7⟩ := h7.any; clear h7 K; have K := K7; clear K7)
    | (refine mem_load_cell (Lib.hid K.out.mem) 56 rfl (.tmp 32) rfl rfl List.mem_cons_self Tryd.underlying56 rfl c2 ?_)
    | (go_at_call 60; (with_reducible refine (plout_any HO K (by have := BD.out; simp only [Z7.out, Z5.out, List.length_append, tl_length, low_length, List.length_nil]; omega)).mono ?_); intro e w8 h8; obtain ⟨p8, g8, c8, z8, rfl, Z8, K8⟩ := h8.any; clear h8 K; have K := K8; clear K8)
    | (refine mem_load_cell (Lib.hid K.out.mem) 22 rfl (.tmp 49) rfl rfl List.mem_cons_self Tryd.underlying22 rfl c3 ?_)
    | (go_at_call 14; (with_reducible refine (tput4 t.lock K (by have := BD.out; simp only [Z8.out, Z7.out, Z5.out, List.length_append, tl_length, low_length, List.length_nil]; omega)).mono ?_); intro e w9 h9; obtain ⟨p9, g9, c9, z9, rfl, Z9, K9⟩ := h9.any; clear h9 K; have K := K9; clear K9))
  refine bodyPost_ret (res2 (fn := Tryd.f36) rfl _ _) rfl ?_
  exact Enc.of HC.out (by rw [Z9.out, Z8.out, Z7.out, Z5.out]; unfold txB; simp) K.out

set_option maxHeartbeats 8000000 in
theorem txenc_marked {W : World} {V : Nat → Value} {t : TTx} (A : Hid (TxCells W V t)) (hc : canB t = true) (hh : t.ins.any hasB = true) : Calls Tryd.prog 36 #[.agg (arr 4 V), .bool true] W (Enc W t true) := by
  have E := Lib.hid (Mem.nil W)
  have AT : TxAt W (.agg (arr 4 V)) t := ⟨V, rfl, A.out⟩
  have c0 : (arr 4 V)[0]? = some (.int .u32 ((t.ver : Nat) : Int)) := by rw [arr_get 4 V 0 (by omega), A.out.ver]; rfl
  have c1 : (arr 4 V)[1]? = some (V 1) := arr_get 4 V 1 (by omega)
  have c2 : (arr 4 V)[2]? = some (V 2) := arr_get 4 V 2 (by omega)
  have c3 : (arr 4 V)[3]? = some (.int .u32 ((t.lock : Nat) : Int)) := by rw [arr_get 4 V 3 (by omega), A.out.lock]; rfl
  have cw0 : IntKind.u64.wrap (t.ver : Int) = (t.ver : Int) := wrap_u32 A.out.verB
  have cw3 : IntKind.u64.wrap (t.lock : Int) = (t.lock : Int) := wrap_u32 A.out.lockB
  have HC := Lib.hid hc
  have CF := can_facts hc
  have BD := Lib.hid (parts_le CF A.out.idlen)
  have N1 := CF.n1
  have HI := Lib.hid A.out.ins
  have HO := Lib.hid A.out.outs
  have CAN := Lib.hid (show ∀ w', Below W.heap.size W w' → Calls Tryd.prog 55 #[.agg (arr 4 V)] w' fun e w'' => e = .returned (.bool true) ∧ Below w'.heap.size w' w'' from fun w' hb => by
    have := can_any (Lib.hid (AT.below hb))
    rwa [hc] at this)
  have HASW := Lib.hid (show ∀ w', Below W.heap.size W w' → Calls Tryd.prog 56 #[V 1, .func (.func 57) #[] #[]] w' fun e w'' => e = .returned (.bool true) ∧ Below w'.heap.size w' w'' from fun w' hb => by
    have := cfhasw_any (Lib.hid hasw_any) (Lib.hid (A.out.ins.below hb))
    rwa [hh] at this)
  clear A AT hc CF
  obtain ⟨pi, gi, oi, ci, Vi, hvi, hci, Ri, hii⟩ := HI.out
  have RI := Lib.hid Ri
  have TI := Lib.hid hii
  have LV := Lib.hid hvi
  have SUM := Lib.hid (show ∀ j, j ≤ t.ins.length → (fl (t.ins.map witB) j).length ≤ ((t.ins.map witB).flatten).length from fun j hj => by
    rw [← fl_all, fl_length, fl_length]
    exact sm_le _ (by rw [List.length_map]; exact hj))
  obtain ⟨n, hn⟩ : ∃ n, n = t.ins.length := ⟨_, rfl⟩
  have HN := Lib.hid hn
  rw [← hn] at LV RI N1 SUM
  have c1' : (arr 4 V)[1]? = some (.slice pi n ci) := by rw [c1, LV.out]
  have hn3 : n ≤ 140737488355328 := by omega
  clear hn hvi hci Ri hii
  rw [LV.out] at c1 HI HASW
  go_enter Tryd.func36, Tryd.ntmps36
  go_wp2_with (first
    | (refine mem_box E 58 rfl _ rfl rfl (arr_cells' 4 V) ?_; clear E; intro b2 w2 E)
    | (refine mem_load_row E 58 rfl (.tmp 2) rfl rfl List.mem_cons_self Tryd.underlying58 rfl (by simp only [arr_size]; kernel_rfl) ?_)
    | (go_at_call 55; refine (CAN.out _ E.out.below).mono ?_; rintro e w3 ⟨rfl, hb⟩; replace E := Lib.hid (E.out.call hb); clear hb)
    | (refine mem_load_cell E 55 rfl (.tmp 15) rfl rfl List.mem_cons_self Tryd.underlying55 rfl c1 ?_)
    | (go_at_call 56; refine (HASW.out _ E.out.below).mono ?_; rintro e w4 ⟨rfl, hb⟩; replace E := Lib.hid (E.out.call hb); clear hb)
    | (refine mem_load_cell E 22 rfl (.tmp 19) rfl rfl List.mem_cons_self Tryd.underlying22 rfl c0 ?_)
    | (go_at_call 14; (with_reducible refine (tput4_nil t.ver E (nb_one (by decide))).mono ?_); intro e w5 h5; obtain ⟨p5, g5, c5, z5, rfl, Z5, K5⟩ := h5.any; clear h5 E; have K := K5; clear K5)
    | (refine wb_bs K _ rfl rfl [0, 1] isB_01 (ps := #[(0, .int .u8 0), (1, .int .u8 1)]) (by kernel_rfl) (cs := #[.int .u8 0, .int .u8 1]) (fun W => run_bs2v Tryd.underlying30 infoB _ _ rfl rfl W) fbs_01 (by unfold maxLen; omega) ?_; clear K; intro bm wm Rm K)
    | (at_builtin; refine wpList_wb rfl (.tmp 24) (.tmp 25) rfl K rfl rfl rfl Rm (by have := BD.out; simp only [Z5.out, List.length_append, tl_length, low_length, List.length_nil]; omega) ?_; clear K; intro p6 g6 c6 w6 z6 Z6 K)
    | (refine mem_load_cell (Lib.hid K.out.mem) 55 rfl (.tmp 28) rfl rfl List.mem_cons_self Tryd.underlying55 rfl c1 ?_)
    | (go_at_call 58; (with_reducible refine (plin_any HI K (by have := BD.out; simp only [Z6.out, Z5.out, List.length_append, tl_length, low_length, List.length_nil]; omega)).mono ?_); intro e w7 h7; obtain ⟨p7, g7, c7, z7, rfl, Z7, K7⟩ := h7.any; clear h7 K; have K := K7; clear K7)
    | (refine mem_load_cell (Lib.hid K.out.mem) 56 rfl (.tmp 32) rfl rfl List.mem_cons_self Tryd.underlying56 rfl c2 ?_)
    | (go_at_call 60; (with_reducible refine (plout_any HO K (by have := BD.out; simp only [Z7.out, Z6.out, Z5.out, List.length_append, tl_length, low_length, List.length_nil]; omega)).mono ?_); intro e w8 h8; obtain ⟨p8, g8, c8, z8, rfl, Z8, K8⟩ := h8.any; clear h8 K; have K := K8; clear K8)
    | (refine mem_load_cell (Lib.hid K.out.mem) 55 rfl (.tmp 36) rfl rfl List.mem_cons_self Tryd.underlying55 rfl c1 ?_))
  have Z0 : Hid (z8 = low t.ver 4 ++ [0, 1] ++ listB inB t.ins ++ listB outB t.outs) := Lib.hid (by rw [Z8.out, Z7.out, Z6.out, Z5.out]; rfl)
  clear Z5 Z6 Z7 Z8
  go_loopg [7, 39] n (fun k s i wr => ∃ (j : Nat) (p : Option Addr) (g c : Nat) (zs : List Nat), j + k = n ∧ i = .int .i64 (j : Int) ∧ s = .slice p zs.length c ∧ Hid (zs = z8 ++ fl (t.ins.map witB) j) ∧ Hid (Wb W [(b2, 58, arr 4 V)] p g c zs wr))
  case atStart => exact ⟨0, p8, g8, c8, z8, by omega, rfl, rfl, Lib.hid (by simp [fl]), K⟩
  case round =>
    clear K
    obtain ⟨j, p, g, c, zs, hj, rfl, rfl, Z, K⟩ := hrel
    obtain ⟨kk, rfl⟩ : ∃ kk : Nat, kk = gk := ⟨_, rfl⟩
    by_cases hlt : j < n
    · obtain rfl := RI.out.head (by omega)
      have ht : j < t.ins.length := by rw [← HN.out]; exact hlt
      have EC := TI.out j ht
      have WT := Lib.hid EC.wit
      have FS := Lib.hid (show fl (t.ins.map witB) (j + 1) = fl (t.ins.map witB) j ++ listB text t.ins[j].wit by rw [fl_succ _ (by rw [List.length_map]; exact ht), List.getElem_map]; rfl)
      have BD2 := Lib.hid (show zs.length + (listB text t.ins[j].wit).length ≤ 140737488355328 by
        have h1 := SUM.out (j + 1) (by omega)
        have h2 := BD.out
        rw [FS.out, List.length_append] at h1
        rw [Z.out, List.length_append, Z0.out]
        simp only [List.length_append, low_length, List.length_cons, List.length_nil]
        omega)
      have c35 : (arr 36 fun i => Vi (j * 36 + i))[35]? = some (Vi (j * 36 + 35)) := arr_get 36 _ 35 (by omega)
      clear EC
      go_wp2_with (first
        | (refine wpList_ix (k := 36) (j := j) Tryd.underlying55 (by kernel_rfl) (.tmp 37) (.tmp 39) rfl rfl rfl rfl hlt rfl ?_)
        | (refine wpList_ld 75 (.tmp 41) rfl rfl rfl ((RI.out.below K.out.mem.below).load hlt Tryd.underlying75 rfl (by kernel_rfl)) ?_)
        | (refine wb_alloc K 75 (by decide) rfl rfl infoIn ?_; clear K; intro b9 w4 K; simp only [arr_cells'] at K)
        | (refine wb_store_row 0 K 75 rfl (.tmp 9) (.tmp 42) rfl rfl rfl rfl (by kernel_rfl) (by simp only [arr_size]) (RI.out.arr_one hlt) ?_; clear K; intro w5 K; simp only [List.set_cons_zero, List.set_cons_succ] at K)
        | (refine mem_load_cell (Lib.hid K.out.mem) 73 rfl (.tmp 44) rfl rfl List.mem_cons_self Tryd.underlying73 rfl c35 ?_)
        | (go_at_call 62; refine (pltext_any WT K BD2.out).mono ?_; intro e w6 h6; obtain ⟨p6, g6, c6, z6, rfl, Z6, K6⟩ := h6.any; have K6 := Lib.hid K6.out.tail; clear h6 K))
      go_roundg (n - (j + 1))
      case measure => omega
      case rel => exact ⟨j + 1, p6, g6, c6, z6, by omega, by go_num, rfl, Lib.hid (by rw [Z6.out, Z.out, FS.out]; simp only [List.append_assoc]), K6⟩
    · obtain rfl : j = n := by omega
      have FF := Lib.hid (show fl (t.ins.map witB) j = (t.ins.map witB).flatten by
        have e := fl_all (t.ins.map witB)
        rwa [List.length_map, ← HN.out] at e)
      go_wp2_with (first
        | (refine mem_load_cell (Lib.hid K.out.mem) 22 rfl (.tmp 49) rfl rfl List.mem_cons_self Tryd.underlying22 rfl c3 ?_)
        | (go_at_call 14; (with_reducible refine (tput4 t.lock K (by have := BD.out; have h1 := SUM.out j (Nat.le_refl _); rw [Z.out, List.length_append, Z0.out]; simp only [List.length_append, low_length, List.length_cons, List.length_nil]; omega)).mono ?_); intro e w9 h9; obtain ⟨p9, g9, c9, z9, rfl, Z9, K9⟩ := h9.any; clear h9 K; have K := K9; clear K9))
      refine bodyPost_ret (res2 (fn := Tryd.f36) rfl _ _) rfl ?_
      exact Enc.of HC.out (by rw [Z9.out, Z.out, FF.out, Z0.out]; unfold txB; simp) K.out

theorem txenc_any {W : World} {v : Value} {t : TTx} (A : Hid (TxAt W v t)) (b : Bool) : Calls Tryd.prog 36 #[v, .bool b] W (Enc W t (b && t.ins.any hasB)) := by
  obtain ⟨V, rfl, A1⟩ := A.out
  by_cases hc : canB t = true
  · cases b
    · exact txenc_bare (Lib.hid A1) hc
    · by_cases hh : t.ins.any hasB = true
      · rw [hh]
        exact txenc_marked (Lib.hid A1) hc hh
      · have hh : t.ins.any hasB = false := by simpa using hh
        rw [hh]
        exact txenc_none (Lib.hid A1) hc hh
  · exact txenc_bad (Lib.hid A1) (by simpa using hc) b _
end Go.Proofs.YtfjpjhhkafkepaaDoor

