/- script.Class: a script's kind, and the bytes in it, in memory of their own. -/
import Derived.Test.YtofmleiblcafiaaDoorPc
set_option linter.unusedSimpArgs false
set_option linter.unusedVariables false
set_option maxRecDepth 100000
namespace Go.Proofs.YtofmleiblcafiaaDoor
open Go.ChangeShapes Go.WideShapes Go.ChangeAt Go.RowKit Go.Lib Go.Sort

theorem infoPat : (Tryd.prog.info? 44).map (fun i => (i.zero, i.size)) = some (some (.agg #[.int .i64 0, .string ⟨#[]⟩, .int .i64 0, .string ⟨#[]⟩]), 4) := by kernel_rfl
theorem Mem.drewN' {w0 w : World} {l : List (Nat × TypeId × Array Value)} {a : Nat} (E : Mem w0 l w) : Mem w0 l (w.drewN a) := ⟨⟨E.below.os, E.below.tape, E.below.output, E.below.size, E.below.block⟩, E.has, E.nd, E.ge⟩
theorem exec_lenS {o : Oper} {ev : Operand → Value} {W : World} {x : Operand} {s : ByteArray} (ho : o.op = .call { callee := .builtin .len, args := #[x], argTypes := #[9] }) (hx : ev x = .string s) : (execOp ev o).run Tryd.prog W = .ok (.value (.int .i64 (s.size : Int))) W := by
  unfold execOp
  simp [ho, hx, resolve, invoke, builtin, go_sem, Tryd.underlying9]
theorem pat_one (K C : Int) (H T : ByteArray) : (#[.int .i64 K, .string H, .int .i64 C, .string T] : Array Value).all (·.oneCell') = true := by simp [Value.oneCell']
theorem exec_index {T : TypeId} {o : Oper} {ev : Operand → Value} {W : World} {x y : Operand} (ho : o.op = .index T x y) {v : Value} (h : (Instr.index T (ev x) (ev y)).run Tryd.prog W = .ok v W) : (execOp ev o).run Tryd.prog W = .ok (.value v) W := by
  unfold execOp
  simp only [ho, Sem.run_bind, h, Result.andThen_ok]
  rfl
theorem wpList_known4 {P : Program} {ops : Array Oper} {rest : List Oper} {Q : Exit → Act → World → Prop} {op : Oper} {a : Act} {w : World} (hw : Region.wanted op (yielded ops a.tmps) = true) (v : Value) (w' : World) (hrun : (execOp a.eval op).run P w = .ok (.value v) w') (h : wpList P ops Q rest (a.put op.dst v) w') : wpList P ops Q (op :: rest) a w :=
  BigFrame.wpList_want hw fun _ hK => mo_known v w' hrun (hK _ _ h)
set_option maxHeartbeats 8000000 in
theorem class_any {w : World} (hP : PLaid w) {p : Option Addr} {g o n c : Nat} {x : Nat → Nat} (R : Hid (Row w p g o n c x)) (hn : n ≤ 140737488355328) : Calls Tryd.prog 13 #[.slice p n c] w (ClsEnd w (tl x n)) := by
  have PL := Lib.hid hP
  clear hP
  go_enter Tryd.func13, Tryd.ntmps13
  go_wp2_with (refine wpList_ld 45 (.global 0) rfl rfl rfl PL.out.load ?_)
  go_step3
  go_wp2_with (refine wpList_ld 45 (.global 0) rfl rfl rfl PL.out.load ?_)
  go_step3
  go_wp2_with (refine wpList_ld 45 (.global 0) rfl rfl rfl PL.out.load ?_)
  have SOF := Lib.hid (show ∀ j : Nat, j < 0 → ∀ b, ¬ OfPat j (tl x n) b from fun j h => absurd h (by omega))
  have BB := Lib.hid (Below.refl w.heap.size w)
  go_loopg [10] 6 (fun k i wr => ∃ j : Nat, j + k = 6 ∧ i = .int .i64 (j : Int) ∧ Hid (∀ j' : Nat, j' < j → ∀ b, ¬ OfPat j' (tl x n) b) ∧ Hid (Below w.heap.size w wr))
  case atStart => exact ⟨0, by omega, rfl, SOF, BB⟩
  case round =>
    clear SOF BB
    obtain ⟨j, hj, rfl, SOF, BB⟩ := hrel
    obtain ⟨kk, rfl⟩ : ∃ kk : Nat, kk = gk := ⟨_, rfl⟩
    obtain ⟨wo, rfl⟩ : ∃ wo : World, wo = wr := ⟨_, rfl⟩
    by_cases hlt : j < 6
    · have PI := Lib.hid (fun W : World => pat_index j hlt W)
      have HS := hB_size j
      have TS := tB_size j
      have CV := Lib.hid (cN_val j)
      have NO := Lib.hid (show (∀ b, ¬ OfPat j (tl x n) b) → ∀ j' : Nat, j' < j + 1 → ∀ b, ¬ OfPat j' (tl x n) b from fun h j' hj' => by
        rcases Nat.lt_or_ge j' j with q | q
        · exact SOF.out j' q
        · obtain rfl : j' = j := by omega
          exact h)
      have YES := Lib.hid (show ∀ b, OfPat j (tl x n) b → Cls (tl x n) (j + 1) b from fun b h => .inl ⟨j, hlt, rfl, h⟩)
      have OFA := Lib.hid (show ∀ b, OfPat j (tl x n) b → _ from fun b h => ofpat_at h)
      have OFM := Lib.hid (show ∀ m, n = (hB j).size + m + (tB j).size → _ from fun m h => ofpat_of (x := x) h)
      obtain ⟨H, hH⟩ : ∃ H, H = hB j := ⟨_, rfl⟩
      obtain ⟨T, hT⟩ : ∃ T, T = tB j := ⟨_, rfl⟩
      obtain ⟨C, hC⟩ : ∃ C, C = cN j := ⟨_, rfl⟩
      obtain ⟨K, hK⟩ : ∃ K : Int, K = ((j + 1 : Nat) : Int) := ⟨_, rfl⟩
      rw [← hH] at HS PI OFA OFM
      rw [← hT] at TS PI OFA OFM
      rw [← hC] at CV PI OFA OFM
      rw [← hK] at PI
      have HK := Lib.hid hK
      clear hH hT hC hK SOF
      have E := Lib.hid (Mem.nil wo)
      cases hok : okI C ((n : Int) - (H.size : Int) - (T.size : Int)) with
      | false =>
        have HAS := Lib.hid (fun W : World => has_any K H T C ((n : Int) - (H.size : Int) - (T.size : Int)) W)
        rw [hok] at HAS
        have NP := Lib.hid (NO.out fun b h => by
          obtain ⟨e1, _, _, e2⟩ := OFA.out b h
          rw [show (n : Int) - (H.size : Int) - (T.size : Int) = (b.length : Int) by omega, e2] at hok
          cases hok)
        clear hok NO OFA OFM YES CV
        go_wp2_with (first
          | (refine wpList_known4 rfl _ _ (exec_index rfl (PI.out _)) ?_)
          | (refine mem_alloc E 44 rfl rfl infoPat ?_; clear E; intro b5 w5 E)
          | (refine mem_store_row 0 E 44 rfl (.tmp 5) (.tmp 12) rfl rfl rfl rfl (by kernel_rfl) rfl (pat_one _ _ _ _) ?_; clear E; intro w6 E; simp only [List.set_cons_zero] at E)
          | (refine mem_load_row E 44 rfl (.tmp 5) rfl rfl List.mem_cons_self Tryd.underlying44 rfl (by kernel_rfl) ?_)
          | (refine mem_load_cell E 9 rfl (.tmp 16) rfl rfl List.mem_cons_self Tryd.underlying9 rfl rfl ?_)
          | (refine mem_load_cell E 9 rfl (.tmp 20) rfl rfl List.mem_cons_self Tryd.underlying9 rfl rfl ?_)
          | (go_at_call 25; ((with_reducible refine (HAS.out _).mono ?_); rintro e w7 ⟨rfl, hb⟩); replace E := Lib.hid (E.out.call hb); clear hb))
        go_roundg (6 - (j + 1))
        case measure => omega
        case rel => exact ⟨j + 1, by omega, by go_num, NP, Lib.hid (BB.out.trans (E.out.below.mono BB.out.size))⟩
      | true =>
        obtain ⟨m, hm⟩ : ∃ m : Nat, n = H.size + m + T.size := ⟨n - H.size - T.size, by have := okI_pos hok CV.out; omega⟩
        have HAS := Lib.hid (fun W : World => has_any K H T C ((n : Int) - (H.size : Int) - (T.size : Int)) W)
        rw [hok] at HAS
        have OK := Lib.hid (show okI C (m : Int) = true by rw [← hok]; congr 1; omega)
        have HM := Lib.hid hm
        have OFM2 := Lib.hid (fun h1 h2 => YES.out _ (OFM.out m hm h1 h2 OK.out))
        have NH := Lib.hid (fun (q : Nat) (hq : q < H.size) (hne : x q ≠ byt H q) => NO.out fun b h => hne ((OFA.out b h).2.1 q hq))
        have NT := Lib.hid (fun (q : Nat) (hq : q < T.size) (hne : x (H.size + m + q) ≠ byt T q) => NO.out fun b h => by
          obtain ⟨e1, _, e3, _⟩ := OFA.out b h
          have e4 : b.length = m := by omega
          rw [e4] at e3
          exact hne (e3 q hq))
        clear hok NO OFA OFM YES CV hm OK
        go_wp2_with (first
          | (refine wpList_known4 rfl _ _ (exec_index rfl (PI.out _)) ?_)
          | (refine mem_alloc E 44 rfl rfl infoPat ?_; clear E; intro b5 w5 E)
          | (refine mem_store_row 0 E 44 rfl (.tmp 5) (.tmp 12) rfl rfl rfl rfl (by kernel_rfl) rfl (pat_one _ _ _ _) ?_; clear E; intro w6 E; simp only [List.set_cons_zero] at E)
          | (refine mem_load_row E 44 rfl (.tmp 5) rfl rfl List.mem_cons_self Tryd.underlying44 rfl (by kernel_rfl) ?_)
          | (refine mem_load_cell E 9 rfl (.tmp 16) rfl rfl List.mem_cons_self Tryd.underlying9 rfl rfl ?_)
          | (refine mem_load_cell E 9 rfl (.tmp 20) rfl rfl List.mem_cons_self Tryd.underlying9 rfl rfl ?_)
          | (refine mem_load_cell E 9 rfl (.tmp 26) rfl rfl List.mem_cons_self Tryd.underlying9 rfl rfl ?_)
          | (go_at_call 25; ((with_reducible refine (HAS.out _).mono ?_); rintro e w7 ⟨rfl, hb⟩); replace E := Lib.hid (E.out.call hb); clear hb))
        clear HAS PI
        have F0 := Lib.hid (show ∀ q' : Nat, q' < 0 → x q' = byt H q' from fun q' h => absurd h (by omega))
        go_loopg [29] H.size (fun k i wr => ∃ q : Nat, q + k = H.size ∧ i = .int .i64 (q : Int) ∧ Hid (∀ q' : Nat, q' < q → x q' = byt H q') ∧ Hid (Mem wo [(b5, 44, #[.int .i64 K, .string H, .int .i64 C, .string T])] wr))
        case atStart => exact ⟨0, by omega, rfl, F0, E⟩
        case round =>
          clear F0 E
          obtain ⟨q, hq, rfl, F0, E⟩ := hrel
          obtain ⟨k2, rfl⟩ : ∃ k2 : Nat, k2 = gk := ⟨_, rfl⟩
          by_cases hlq : q < H.size
          · have hnq : q < n := by have := HM.out; omega
            obtain rfl := R.out.head (by omega)
            have c1 := (R.out.below (BB.out.trans (E.out.below.mono BB.out.size))).cell q hnq
            have c2 := cell_of_here (E.out.get List.mem_cons_self) 1 (v := .string H) rfl
            obtain ⟨y, hy⟩ : ∃ y, y = x q := ⟨_, rfl⟩
            obtain ⟨z, hz⟩ : ∃ z, z = byt H q := ⟨_, rfl⟩
            have G : ((H[q]'hlq).toNat : Int) = ((z : Nat) : Int) := by rw [hz, byt_get]
            rw [← hy] at c1
            by_cases he : y = z
            · subst he
              have F1 := Lib.hid (show ∀ q' : Nat, q' < q + 1 → x q' = byt H q' from fun q' h => by
                rcases Nat.lt_or_ge q' q with r | r
                · exact F0.out q' r
                · obtain rfl : q' = q := by omega
                  rw [← hy, hz])
              clear hy hz F0
              go_upto_region 8 with fail
              go_quiet (fail)
              go_wp2
              go_roundg (H.size - (q + 1))
              case measure => omega
              case rel => exact ⟨q + 1, by omega, by go_num, F1, Lib.hid E.out.drewN'⟩
            · have NP := Lib.hid (NH.out q hlq (by rw [← hy, ← hz]; exact he))
              have b1 : ((y : Int) == (z : Int)) = false := by simpa using (show ¬ ((y : Int) = (z : Int)) by omega)
              clear hy hz F0 he
              go_upto_region 8 with fail
              go_quiet (fail)
              go_wp2
              go_roundg (6 - (j + 1))
              case measure => omega
              case rel => exact ⟨j + 1, by omega, by go_num, NP, Lib.hid (BB.out.trans (E.out.drewN'.below.mono BB.out.size))⟩
          · obtain rfl : q = H.size := by omega
            obtain ⟨M, hM⟩ : ∃ M, M = H.size + m := ⟨_, rfl⟩
            have S : (n : Int) - (T.size : Int) = (M : Int) := by have := HM.out; omega
            have hMn : M + T.size = n := by have := HM.out; omega
            rw [← hM] at NT
            have HMM := Lib.hid hM
            clear hM NH
            go_wp2_with (first
              | (refine mem_load_cell E 9 rfl (.tmp 44) rfl rfl List.mem_cons_self Tryd.underlying9 rfl rfl ?_)
              | (refine mem_load_cell E 9 rfl (.tmp 48) rfl rfl List.mem_cons_self Tryd.underlying9 rfl rfl ?_))
            clear S
            have T0 := Lib.hid (show ∀ q' : Nat, q' < 0 → x (M + q') = byt T q' from fun q' h => absurd h (by omega))
            go_loopg [51] T.size (fun k i wr => ∃ q : Nat, q + k = T.size ∧ i = .int .i64 (q : Int) ∧ Hid (∀ q' : Nat, q' < q → x (M + q') = byt T q') ∧ Hid (Mem wo [(b5, 44, #[.int .i64 K, .string H, .int .i64 C, .string T])] wr))
            case atStart => exact ⟨0, by omega, rfl, T0, E⟩
            case round =>
              clear T0 E
              obtain ⟨q, hq, rfl, T0, E⟩ := hrel
              obtain ⟨k3, rfl⟩ : ∃ k3 : Nat, k3 = gk := ⟨_, rfl⟩
              by_cases hlq : q < T.size
              · have hnq : M + q < n := by omega
                obtain rfl := R.out.head (by omega)
                have c1 := (R.out.below (BB.out.trans (E.out.below.mono BB.out.size))).cell (M + q) hnq
                have c2 := cell_of_here (E.out.get List.mem_cons_self) 3 (v := .string T) rfl
                obtain ⟨y, hy⟩ : ∃ y, y = x (M + q) := ⟨_, rfl⟩
                obtain ⟨z, hz⟩ : ∃ z, z = byt T q := ⟨_, rfl⟩
                have G : ((T[q]'hlq).toNat : Int) = ((z : Nat) : Int) := by rw [hz, byt_get]
                rw [← hy] at c1
                by_cases he : y = z
                · subst he
                  have T1 := Lib.hid (show ∀ q' : Nat, q' < q + 1 → x (M + q') = byt T q' from fun q' h => by
                    rcases Nat.lt_or_ge q' q with r | r
                    · exact T0.out q' r
                    · obtain rfl : q' = q := by omega
                      rw [← hy, hz])
                  clear hy hz T0
                  go_upto_region 14 with fail
                  go_quiet (fail)
                  go_wp2
                  go_roundg (T.size - (q + 1))
                  case measure => omega
                  case rel => exact ⟨q + 1, by omega, by go_num, T1, Lib.hid E.out.drewN'⟩
                · have NP := Lib.hid (NT.out q hlq (by rw [← hy, ← hz]; exact he))
                  have b1 : ((y : Int) == (z : Int)) = false := by simpa using (show ¬ ((y : Int) = (z : Int)) by omega)
                  clear hy hz T0 he
                  go_upto_region 14 with fail
                  go_quiet (fail)
                  go_wp2
                  go_roundg (6 - (j + 1))
                  case measure => omega
                  case rel => exact ⟨j + 1, by omega, by go_num, NP, Lib.hid (BB.out.trans (E.out.drewN'.below.mono BB.out.size))⟩
              · obtain rfl : q = T.size := by omega
                have FIN := Lib.hid (OFM2.out F0.out (by rw [← HMM.out]; exact T0.out))
                have hle := R.out.le
                obtain ⟨p1, hp1, RS0⟩ := R.out.slice (l := H.size) (h := M) (m := c) (by have := HMM.out; omega) (by omega) (by omega) (Nat.le_refl _)
                have RS := Lib.hid (RS0.below BB.out)
                have hm2 : m ≤ 140737488355328 := by have := HM.out; omega
                have SL := Lib.hid (fun W : World => run_sl (w := W) (p := p) (bounds_lh (w := W) (n := n) (c := c) (l := H.size) (h := M) (by have := HMM.out; omega) (by omega)))
                rw [hp1] at SL
                rw [show M - H.size = m by have := HMM.out; omega] at SL RS
                clear hp1 RS0 T0 F0
                go_upto_region 16 with fail
                refine wp_region_memS (S := fun W' => W'.heap[b5]? = some (.cells #[.int .i64 K, .string H, .int .i64 C, .string T] 44 (0, 0))) E (by kernel_rfl) ?_
                intro wx E0
                have S0 := Lib.hid (E0.out.get List.mem_cons_self)
                clear E
                refine hm_run 0 66 (.pointer (some ⟨b5, 0, none⟩)) rfl rfl (by kernel_rfl) (by kernel_rfl) (by kernel_rfl) (fun _ _ _ h => h) rfl (fun W' hW => rfl) S0.out ?_
                try simp only [Act.put, List.getElem_toArray, List.getElem_cons_succ, List.getElem_cons_zero, List.setIfInBounds_toArray, List.set_cons_zero, List.set_cons_succ]
                refine hm_run 1 67 (.int .i64 K) rfl rfl (by kernel_rfl) (by kernel_rfl) (by kernel_rfl) (fun _ _ _ h => h) rfl (fun W' hW => exec_load rfl (run_load_one Tryd.underlying3 rfl (cell_of_here hW 0 rfl))) S0.out ?_
                try simp only [Act.put, List.getElem_toArray, List.getElem_cons_succ, List.getElem_cons_zero, List.setIfInBounds_toArray, List.set_cons_zero, List.set_cons_succ]
                refine hm_run 2 68 (.slice p n c) rfl rfl (by kernel_rfl) (by kernel_rfl) (by kernel_rfl) (fun _ _ _ h => h) rfl (fun W' hW => rfl) S0.out ?_
                try simp only [Act.put, List.getElem_toArray, List.getElem_cons_succ, List.getElem_cons_zero, List.setIfInBounds_toArray, List.set_cons_zero, List.set_cons_succ]
                refine hm_run 3 69 (.pointer (some ⟨b5, 1, none⟩)) rfl rfl (by kernel_rfl) (by kernel_rfl) (by kernel_rfl) (fun _ _ _ h => h) rfl (fun W' hW => rfl) S0.out ?_
                try simp only [Act.put, List.getElem_toArray, List.getElem_cons_succ, List.getElem_cons_zero, List.setIfInBounds_toArray, List.set_cons_zero, List.set_cons_succ]
                refine hm_run 4 70 (.string H) rfl rfl (by kernel_rfl) (by kernel_rfl) (by kernel_rfl) (fun _ _ _ h => h) rfl (fun W' hW => exec_load rfl (run_load_one Tryd.underlying9 rfl (cell_of_here hW 1 rfl))) S0.out ?_
                try simp only [Act.put, List.getElem_toArray, List.getElem_cons_succ, List.getElem_cons_zero, List.setIfInBounds_toArray, List.set_cons_zero, List.set_cons_succ]
                refine hm_run 5 71 (.int .i64 (H.size : Int)) rfl rfl (by kernel_rfl) (by kernel_rfl) (by kernel_rfl) (fun _ _ _ h => h) rfl (fun W' hW => exec_lenS rfl rfl) S0.out ?_
                try simp only [Act.put, List.getElem_toArray, List.getElem_cons_succ, List.getElem_cons_zero, List.setIfInBounds_toArray, List.set_cons_zero, List.set_cons_succ]
                refine hm_run 6 72 (.int .i64 (M : Int)) rfl rfl (by kernel_rfl) (by kernel_rfl) (by kernel_rfl) (fun _ _ _ h => h) rfl (fun W' hW => rfl) S0.out ?_
                try simp only [Act.put, List.getElem_toArray, List.getElem_cons_succ, List.getElem_cons_zero, List.setIfInBounds_toArray, List.set_cons_zero, List.set_cons_succ]
                refine hm_run 7 73 (.slice p1 m (c - H.size)) rfl rfl (by kernel_rfl) (by kernel_rfl) (by kernel_rfl) (fun _ _ _ h => h) rfl (fun W' hW => exec_sl rfl (SL.out _)) S0.out ?_
                try simp only [Act.put, List.getElem_toArray, List.getElem_cons_succ, List.getElem_cons_zero, List.setIfInBounds_toArray, List.set_cons_zero, List.set_cons_succ]
                refine hm_one (i := 8) (by kernel_rfl) ?_
                refine hm_step 8 rfl (by kernel_rfl) fun K hK => ?_
                try simp only [Act.put, List.getElem_toArray, List.getElem_cons_succ, List.getElem_cons_zero, List.setIfInBounds_toArray, List.set_cons_zero, List.set_cons_succ]
                go_simp
                go_at_call 12
                refine (clone_any (Lib.hid (RS.out.below E0.out.below)) hm2).mono ?_
                rintro e w9 ⟨p9, g9, c9, rfl, N9, hb9⟩
                have E9 := Lib.hid (E0.out.call hb9)
                have NN9 := Lib.hid N9
                clear N9 hb9
                refine hK _ _ (E9.out.get List.mem_cons_self) ?_
                clear hK K
                try simp only [Act.put, List.getElem_toArray, List.getElem_cons_succ, List.getElem_cons_zero, List.setIfInBounds_toArray, List.set_cons_zero, List.set_cons_succ]
                refine hm_run 9 2 (.int .i64 K) rfl rfl (by kernel_rfl) (by kernel_rfl) (by kernel_rfl) (fun _ _ _ h => h) rfl (fun W' hW => rfl) (E9.out.get List.mem_cons_self) ?_
                try simp only [Act.put, List.getElem_toArray, List.getElem_cons_succ, List.getElem_cons_zero, List.setIfInBounds_toArray, List.set_cons_zero, List.set_cons_succ]
                refine hm_run 10 3 (.slice p9 m c9) rfl rfl (by kernel_rfl) (by kernel_rfl) (by kernel_rfl) (fun _ _ _ h => h) rfl (fun W' hW => rfl) (E9.out.get List.mem_cons_self) ?_
                try simp only [Act.put, List.getElem_toArray, List.getElem_cons_succ, List.getElem_cons_zero, List.setIfInBounds_toArray, List.set_cons_zero, List.set_cons_succ]
                refine wpAnyH_done (by kernel_rfl) ?_ _
                go_wp2
                try rw [Exit.noGoto_ret]
                go_ret2
                refine ⟨j + 1, tl (fun i => x (H.size + i)) m, p9, g9, c9, ?_, FIN.out, ?_, BB.out.trans (E9.out.below.mono BB.out.size)⟩
                · show Ending.returned (.tuple #[.int .i64 K, .slice p9 m c9]) = _
                  rw [HK.out, tl_length]
                · have := (NN9.out.mono (Nat.le_trans BB.out.size E0.out.below.size)).tl
                  exact this
    · obtain rfl : j = 6 := by omega
      go_wp2
      try rw [Exit.noGoto_ret]
      go_ret2
      exact ⟨0, [], none, 0, 0, rfl, cls_other fun j' h' => SOF.out j' h', own_nothing _ _ _ (lf_lt isB_nil) BB.out.size, BB.out⟩
end Go.Proofs.YtofmleiblcafiaaDoor
