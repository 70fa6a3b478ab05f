/- For every list of slices of bytes (nil too) that is of bulk at most 1048576: fed one by one to the program's reader and to the document's, both tell the same frames and the same fault, and as many bytes wait; the slices that were fed to the program's are written over behind each call; the call returns true. The tables that the row lists (those of package sha, and two of the library's on UTF-8, one of them pinned) are laid as the card ties them. The second form: what comes in is of bulk at most 1048576. -/
import Derived.Test.YtkjcljobcidhfaaDoorFy
import Derived.Test.YtkjcljobcidhfaaDoorLu
import Derived.Test.YtkjcljobcidhfaaDoorSFLaid
import Derived.Test.YtkjcljobcidhfaaDoorTie
import Derived.Test.YtkjcljobcidhfaaDoorCards
import Derived.ProofKit
import Derived.OpenShut
import Derived.LaidMore
import Derived.Lay
import Derived.Stop.Joined
import Derived.Deep.DeepHandedRow
import Derived.BigQuiet
import Derived.Deep.LoopGhost
import Derived.ShutString
import Derived.ChangeOld
import Derived.Below
import Derived.SevenTiedAt
set_option linter.unusedVariables false
set_option linter.unusedSimpArgs false
namespace Go.Proofs.YtkjcljobcidhfaaDoor.frameLives
open Go.ChangeShapes Go.WideShapes Go.ChangeAt Go.RowKit Go.Lib Go.Sort Go.Proofs.YtkjcljobcidhfaaDoor

set_option maxRecDepth 100000
theorem own : ownKnob Tryd.prog.godebug = none := by kernel_rfl
theorem exec_neqi {o : Oper} {ev : Operand → Value} {W : World} {x y : Operand} {a b : Int} {q : Bool} (ho : o.op = .binOp .neq 3 x y 3) (hx : ev x = .int .i64 a) (hy : ev y = .int .i64 b) (hq : decide (a = b) = !q) : (execOp ev o).run Tryd.prog W = .ok (.value (.bool q)) W := by
  obtain rfl : q = !decide (a = b) := by rw [hq]; simp
  unfold execOp
  by_cases h : a = b
  · subst h
    simp [ho, hx, hy, go_sem, Tryd.underlying3]
  · simp [ho, hx, hy, go_sem, Tryd.underlying3, h]
theorem wp_region_T {P : Program} {ops : Array Oper} {Q : Exit → Act → World → Prop} {Φ S : World → Prop} {w : World} {id : Nat} {a : Act} (hT : Hid (Φ w)) (hd : ∀ w, Φ w → Φ w.drew) (hS : ∀ w, Φ w → S w) (hm : P.follows .mixedOrders = true)
    (h : ∀ w', Hid (Φ w') → Hid (S w') → wpAnyH P .any ops Q S ops.size (Array.replicate ops.size false) a w') : (Code.region id ops true).wp P Q a w :=
  wp_region_held hm (h _ (hd _ hT.out) (hS _ (hd _ hT.out)))
theorem row_of {B m : Nat} {w : World} {p : Option Addr} {g c : Nat} {tj : List Nat} (N : Own B w p g m c (lf tj)) (h : m = tj.length) : Row w p g 0 tj.length c (lf tj) := by
  rw [← h]
  exact N.row
theorem own_lt {B n g c : Nat} {w : World} {p : Option Addr} {x : Nat → Nat} (N : Own B w p g n c x) : ∀ j, ob p = some j → j < w.heap.size := fun j e => (World.ownsRow.lt N.own j (by rw [ob_own]; exact e)).2
theorem built_rd0 : Tryd.prog.built 29 (#[] : Array (Nat × Value)).toList = some #[.slice none 0 0, .int .i64 0] := by kernel_rfl
set_option maxHeartbeats 32000000 in
theorem walk (W : World) (hL : laidMetH Tryd.prog S.frLaid W) (v0 : Value) (ts : List (List Nat)) (A0 : TextsAt W v0 ts) (m0 : ∀ i (h : i < ts.length), ts[i].length ≤ 60000000000000) :
    Calls Tryd.prog 3 #[v0] W fun e w' => e = .returned (.bool true) ∧ Below W.heap.size W w' := by
  have KL := Lib.hid (show S.Both W from S.of_fr hL)
  clear hL
  obtain ⟨pt, gt, ot, ct, VT, rfl, bt, RT0, AT0⟩ := A0
  have RT := Lib.hid RT0
  have AT := Lib.hid AT0
  have M0 := Lib.hid m0
  obtain ⟨n, hn⟩ : ∃ n, n = ts.length := ⟨_, rfl⟩
  have HN := Lib.hid hn
  rw [← hn] at RT bt
  rw [← hn]
  have bn : n ≤ 140737488355328 := by omega
  have NEW := Lib.hid (frnew_any W)
  clear hn bt m0 RT0 AT0
  go_enter Tryd.func3, Tryd.ntmps3
  go_upto_region 2 with (first
    | (go_at_call 7; refine NEW.out.mono ?_; rintro e w1 ⟨br, bu, rfl, T1x⟩; have T1 := Lib.hid T1x; have E := Lib.hid (Mem.nil w1); clear T1x)
    | ((with_reducible refine wpList_at 13 rfl ?_); refine wpList_bld 29 _ rfl rfl (ps := #[]) (by kernel_rfl) built_rd0 ?_)
    | ((with_reducible refine wpList_at 14 rfl ?_); refine mem_box (c := #[.slice none 0 0, .int .i64 0]) E 29 rfl _ rfl rfl rfl ?_; clear E; intro bx w2 E; have Z := Lib.hid (show Two W br bu bx 0 [] none 0 0 none 0 0 w2 from ⟨T1.out.call E.out.below, ⟨⟨T1.out.under0.trans (E.out.below.mono T1.out.under0.size), E.out.has, E.out.nd, fun q hq => Nat.le_trans T1.out.under0.size (E.out.ge q hq)⟩, own_nothing _ _ _ (lf_lt isB_nil) (Nat.le_trans T1.out.under0.size E.out.below.size), fun q hq => by obtain rfl := List.mem_singleton.1 hq; show 29 ≠ 5; decide⟩, .inl ⟨rfl, by decide⟩, fun j e => by cases e⟩)))
  clear NEW
  go_wp2_with fail
  go_loopg [17] n (fun k0 i wr => ∃ (j : Nat) (er : Int) (r : List Nat) (p : Option Addr) (g c : Nat) (q : Option Addr) (h d : Nat), j + k0 = n ∧ i = .int .i64 (j : Int) ∧ Hid (Two W br bu bx er r p g c q h d wr))
  case atStart => exact ⟨0, 0, [], none, 0, 0, none, 0, 0, by omega, rfl, Z⟩
  case round =>
    clear Z
    obtain ⟨j, er, r, p, g, c, q, h, d, hj, rfl, Z⟩ := hrel
    obtain ⟨kk, hkk⟩ : ∃ kk : Nat, kk = gk := ⟨_, rfl⟩
    rw [← hkk] at hj
    have BW := Lib.hid Z.out.T.under0
    by_cases hlt : j < n
    · have hjt : j < ts.length := by rw [← HN.out]; exact hlt
      obtain ⟨q0, h0, o0, d0, hv, bl, R0⟩ := AT.out j hjt
      obtain rfl := RT.out.head (by omega)
      have HV := Lib.hid (show wr.cell? ⟨gt, ot + j * 1, none⟩ = some (.slice q0 ts[j].length d0) by
        rw [Nat.mul_one, ← hv]
        exact (RT.out.below BW.out).cell j (by omega))
      have MJ := Lib.hid (M0.out j hjt)
      have R := Lib.hid R0
      generalize ts[j] = tj at HV MJ R
      obtain ⟨m, hm⟩ : ∃ m, m = tj.length := ⟨_, rfl⟩
      have HM := Lib.hid hm
      have MB := Lib.hid (show m ≤ 140737488355328 by have := MJ.out; omega)
      have C := Lib.hid (clone_any (Lib.hid (R.out.below BW.out)) (by have := MJ.out; omega))
      have KD := KL
      rw [← hm] at HV C
      clear hv bl R0 hm hjt
      go_upto_region 9 with (first
    | ((with_reducible refine wpList_at 19 rfl ?_); refine wpList_ix (k := 1) (j := j) Tryd.underlying22 (by kernel_rfl) (.tmp 15) (.tmp 17) rfl rfl rfl rfl hlt rfl ?_)
    | ((with_reducible refine wpList_at 20 rfl ?_); refine wpList_ld1 26 (.tmp 19) rfl rfl rfl Tryd.underlying26 rfl HV.out ?_)
    | (go_at_call 8; refine C.out.mono ?_; rintro e w1 ⟨p3, g3, c3, rfl, N1x, hb1⟩; have N1 := Lib.hid N1x; have HB1 := Lib.hid hb1; have Z1 := Lib.hid (Z.out.call hb1); have FE := Lib.hid (feedD_any Z1.out.T Z1.out.A (row_of N1.out HM.out) MJ.out KD); rw [← HM.out] at FE; clear N1x hb1 C)
    | (go_at_call 9; refine FE.out.mono ?_; rintro e w2 ⟨fs, r5, er5, pf, gf, cf, V, hF, rfl, hA, p5, g5, c5, T2x, F2x, L2x⟩; have HF := Lib.hid hF; have FA2 := Lib.hid hA; have T2 := Lib.hid T2x; have F2 := Lib.hid F2x; have L2 := Lib.hid L2x; have K2 := Lib.hid (Z1.out.left T2x F2x); have N2 := Lib.hid (Z.out.given Z1.out N1.out F2x); have RE := Lib.hid (rfeedD_any K2.out Z1.out.A (R.out.below T2x.under0) MJ.out); rw [← HM.out] at RE; clear hF hA T2x F2x L2x FE)
    | (go_at_call 10; refine RE.out.mono ?_; rintro e w3 ⟨fs2, r2, er2, pf2, gf2, cf2, V2, hF2, rfl, hA2, q5, h5, d5, K3x, F3x, L3x⟩; obtain ⟨e1, e2, e3⟩ := HF.out.one hF2; subst e1 e2 e3; have F3 := Lib.hid F3x; have L3 := Lib.hid L3x; have Z3 := Lib.hid (Z1.out.next T2.out L2.out K2.out F2.out.size K3x F3x L3x HF.out.live); have FA3 := Lib.hid (FA2.out.keep (KeepT.of_fr K2.out.cX F3x) (by decide) (by decide)); have FB3 := Lib.hid hA2; have N3 := Lib.hid (N2.out.same F3x.size fun k e hk => F3x.block k hk (fun e2 => N2.out.ne K2.out.cX (by decide) (by rw [e, e2])) (by intro e; cases e)); clear hF2 hA2 K3x F3x L3x RE)
    | ((with_reducible refine wpList_at 36 rfl ?_); refine wpList_vbs 22 26 1 1 rfl _ rfl (fun _ => .slice p3 m c3) (fun _ _ => rfl) (by unfold maxLen; omega) (ps := #[(0, .slice p3 m c3)]) (by kernel_rfl) (fun W => run_bs1v Tryd.underlying22 infoText3 _ rfl W) rfl ?_; intro p13 g13 w4 N13 hb4; have HB4 := Lib.hid hb4.out; have Z4 := Lib.hid (Z3.out.call hb4.out); have FA4 := Lib.hid (FA3.out.below hb4.out); have FB4 := Lib.hid (FB3.out.below hb4.out); have N4 := Lib.hid (N3.out.below hb4.out); have SP := Lib.hid (spoil1_end N13 N4 MB.out); clear hb4)
    | (go_at_call 11; refine SP.out.mono ?_; rintro e w5 ⟨rfl, b, F5, hb5⟩; have AF := Lib.hid (Z4.out.after N4.out Z.out.T.under0.size (by have h1 := HB1.out.size; have h2 := F2.out.size; have h3 := F3.out.size; have h4 := HB4.out.size; omega) hb5 (fun k e => own_lt N1.out k e) (fun k e => (L2.out k e).imp (fun h => (Z.out.T.lies k h).2) id) (fun k e => (L3.out k e).imp (fun h => (Z.out.K.lies k h).2) (fun h => Nat.le_trans F2.out.size h)) F5); clear F5 hb5))
      have Z5 := Lib.hid AF.out.1
      have FA5 := Lib.hid (FA4.out.up AF.out.2 (Nat.le_refl _))
      have FB5 := Lib.hid (FB4.out.up AF.out.2 F2.out.size)
      have HE2 := Lib.hid (show decide (er5 = er5) = !false from decide_eq_true rfl)
      have FL := Lib.hid (show fs.length ≤ 3000000000000 by
        have h1 := HF.out.many
        have h2 := MJ.out
        have h3 : r.length < 200024 := by
          rcases Z.out.A with ⟨_, h⟩ | ⟨_, h⟩
          · exact h
          · rw [h]; decide
        rw [List.length_append] at h1
        omega)
      have SF := Lib.hid (fun X (hX : Below _ _ X) => same_frs (w := X) (Lib.hid ((FA5.out.below hX).isIn FL.out)) (Lib.hid ((FB5.out.below hX).isIn FL.out)))
      clear AF Z1 Z3 Z4 T2 K2 N1 N2 N3 N4 N13 FA2 FA3 FA4 FB3 FB4 SP HV F2 F3 L2 L3 HB1 HB4
      obtain ⟨rl, hrl⟩ : ∃ rl, r5.length = rl := ⟨_, rfl⟩
      have RL := Lib.hid hrl
      have CX := Lib.hid (show w5.heap[bx]? = some (Obj.cells #[.slice q5 rl d5, .int .i64 er5] 29 (0, 0)) from by have := Z5.out.K.cX; rw [hrl] at this; exact this)
      clear hrl
      refine wp_region_T (Φ := fun X => Below w5.heap.size w5 X) (S := fun X => X.heap[bx]? = some (.cells #[.slice q5 rl d5, .int .i64 er5] 29 (0, 0))) (Lib.hid (Below.refl _ _)) (fun _ h => h.drew) (fun X h => (h.block bx (heap_lt CX.out)).trans CX.out) (by kernel_rfl) ?_
      intro wx TT S0
      clear CX
      refine hm_run 0 38 (.int .i64 er5) rfl rfl (by kernel_rfl) (by kernel_rfl) (by kernel_rfl) (fun _ _ _ h => h) rfl (fun _ _ => rfl) S0.out ?_
      try simp only [Act.put, List.getElem_toArray, List.getElem_cons_succ, List.getElem_cons_zero, List.setIfInBounds_toArray, List.set_cons_zero, List.set_cons_succ]
      refine hm_run 1 39 (.int .i64 er5) rfl rfl (by kernel_rfl) (by kernel_rfl) (by kernel_rfl) (fun _ _ _ h => h) rfl (fun _ _ => rfl) S0.out ?_
      try simp only [Act.put, List.getElem_toArray, List.getElem_cons_succ, List.getElem_cons_zero, List.setIfInBounds_toArray, List.set_cons_zero, List.set_cons_succ]
      refine hm_run 2 40 (.bool false) rfl rfl (by kernel_rfl) (by kernel_rfl) (by kernel_rfl) (fun _ _ _ h => h) rfl (fun _ _ => exec_neqE rfl rfl rfl HE2.out) S0.out ?_
      try simp only [Act.put, List.getElem_toArray, List.getElem_cons_succ, List.getElem_cons_zero, List.setIfInBounds_toArray, List.set_cons_zero, List.set_cons_succ]
      refine hm_run 3 41 (.bool false) rfl rfl (by kernel_rfl) (by kernel_rfl) (by kernel_rfl) (fun _ _ _ h => h) rfl (fun _ _ => rfl) S0.out ?_
      try simp only [Act.put, List.getElem_toArray, List.getElem_cons_succ, List.getElem_cons_zero, List.setIfInBounds_toArray, List.set_cons_zero, List.set_cons_succ]
      refine hm_run 4 42 (.slice pf fs.length cf) rfl rfl (by kernel_rfl) (by kernel_rfl) (by kernel_rfl) (fun _ _ _ h => h) rfl (fun _ _ => rfl) S0.out ?_
      try simp only [Act.put, List.getElem_toArray, List.getElem_cons_succ, List.getElem_cons_zero, List.setIfInBounds_toArray, List.set_cons_zero, List.set_cons_succ]
      refine hm_run 5 43 (.slice pf2 fs.length cf2) rfl rfl (by kernel_rfl) (by kernel_rfl) (by kernel_rfl) (fun _ _ _ h => h) rfl (fun _ _ => rfl) S0.out ?_
      try simp only [Act.put, List.getElem_toArray, List.getElem_cons_succ, List.getElem_cons_zero, List.setIfInBounds_toArray, List.set_cons_zero, List.set_cons_succ]
      refine hm_one (i := 6) (by kernel_rfl) ?_
      refine hm_step 6 rfl (by kernel_rfl) fun K hK => ?_
      try simp only [Act.put, List.getElem_toArray, List.getElem_cons_succ, List.getElem_cons_zero, List.setIfInBounds_toArray, List.set_cons_zero, List.set_cons_succ]
      go_simp
      go_at_call 12
      refine (SF.out _ TT.out).mono ?_
      rintro e w7 ⟨rfl, hb7⟩
      have Z7 := Lib.hid ((Z5.out.call TT.out).call hb7)
      have S6_6 := Lib.hid (show w7.heap[bx]? = _ from (hb7.block bx (heap_lt S0.out)).trans S0.out)
      clear hb7
      refine hK _ _ S6_6.out ?_
      clear hK K
      try simp only [Act.put, List.getElem_toArray, List.getElem_cons_succ, List.getElem_cons_zero, List.setIfInBounds_toArray, List.set_cons_zero, List.set_cons_succ]
      refine hm_run 7 45 (.bool false) rfl rfl (by kernel_rfl) (by kernel_rfl) (by kernel_rfl) (fun _ _ _ h => h) rfl (fun _ _ => rfl) S6_6.out ?_
      try simp only [Act.put, List.getElem_toArray, List.getElem_cons_succ, List.getElem_cons_zero, List.setIfInBounds_toArray, List.set_cons_zero, List.set_cons_succ]
      refine hm_run 8 46 (.bool false) rfl rfl (by kernel_rfl) (by kernel_rfl) (by kernel_rfl) (fun _ _ _ h => h) rfl (fun _ _ => rfl) S6_6.out ?_
      try simp only [Act.put, List.getElem_toArray, List.getElem_cons_succ, List.getElem_cons_zero, List.setIfInBounds_toArray, List.set_cons_zero, List.set_cons_succ]
      refine hm_run 9 47 (.bool false) rfl rfl (by kernel_rfl) (by kernel_rfl) (by kernel_rfl) (fun _ _ _ h => h) rfl (fun _ _ => rfl) S6_6.out ?_
      try simp only [Act.put, List.getElem_toArray, List.getElem_cons_succ, List.getElem_cons_zero, List.setIfInBounds_toArray, List.set_cons_zero, List.set_cons_succ]
      refine hm_run 10 48 (.pointer (some ⟨br, 0, none⟩)) rfl rfl (by kernel_rfl) (by kernel_rfl) (by kernel_rfl) (fun _ _ _ h => h) rfl (fun _ _ => rfl) S6_6.out ?_
      try simp only [Act.put, List.getElem_toArray, List.getElem_cons_succ, List.getElem_cons_zero, List.setIfInBounds_toArray, List.set_cons_zero, List.set_cons_succ]
      refine hm_run 12 50 (.pointer (some ⟨bx, 0, none⟩)) rfl rfl (by kernel_rfl) (by kernel_rfl) (by kernel_rfl) (fun _ _ _ h => h) rfl (fun _ _ => rfl) S6_6.out ?_
      try simp only [Act.put, List.getElem_toArray, List.getElem_cons_succ, List.getElem_cons_zero, List.setIfInBounds_toArray, List.set_cons_zero, List.set_cons_succ]
      refine hm_run 13 51 (.pointer (some ⟨bx, 0, none⟩)) rfl rfl (by kernel_rfl) (by kernel_rfl) (by kernel_rfl) (fun _ _ _ h => h) rfl (fun _ _ => rfl) S6_6.out ?_
      try simp only [Act.put, List.getElem_toArray, List.getElem_cons_succ, List.getElem_cons_zero, List.setIfInBounds_toArray, List.set_cons_zero, List.set_cons_succ]
      refine hm_run 14 52 (.pointer (some ⟨bx, 0, none⟩)) rfl rfl (by kernel_rfl) (by kernel_rfl) (by kernel_rfl) (fun _ _ _ h => h) rfl (fun _ _ => rfl) S6_6.out ?_
      try simp only [Act.put, List.getElem_toArray, List.getElem_cons_succ, List.getElem_cons_zero, List.setIfInBounds_toArray, List.set_cons_zero, List.set_cons_succ]
      refine hm_run 15 53 (.slice q5 rl d5) rfl rfl (by kernel_rfl) (by kernel_rfl) (by kernel_rfl) (fun _ _ _ h => h) rfl (fun W hW => exec_load rfl (run_load_one Tryd.underlying26 rfl (cell_of_here hW 0 rfl))) S6_6.out ?_
      try simp only [Act.put, List.getElem_toArray, List.getElem_cons_succ, List.getElem_cons_zero, List.setIfInBounds_toArray, List.set_cons_zero, List.set_cons_succ]
      refine hm_run 16 54 (.int .i64 ((rl : Nat) : Int)) rfl rfl (by kernel_rfl) (by kernel_rfl) (by kernel_rfl) (fun _ _ _ h => h) rfl (fun _ _ => exec_len Tryd.underlying26 rfl rfl) S6_6.out ?_
      try simp only [Act.put, List.getElem_toArray, List.getElem_cons_succ, List.getElem_cons_zero, List.setIfInBounds_toArray, List.set_cons_zero, List.set_cons_succ]
      refine hm_one (i := 11) (by kernel_rfl) ?_
      refine hm_step 11 rfl (by kernel_rfl) fun K hK => ?_
      try simp only [Act.put, List.getElem_toArray, List.getElem_cons_succ, List.getElem_cons_zero, List.setIfInBounds_toArray, List.set_cons_zero, List.set_cons_succ]
      go_simp
      go_at_call 13
      refine (show Calls Tryd.prog 13 _ w7 fun e w' => e = .returned (.int .i64 (rl : Int)) ∧ w7 = w' from by have := left_any Z7.out.T; rw [RL.out] at this; exact this).mono ?_
      rintro e w8 ⟨rfl, rfl⟩
      have S11_16 := S6_6
      refine hK _ _ S11_16.out ?_
      clear hK K
      try simp only [Act.put, List.getElem_toArray, List.getElem_cons_succ, List.getElem_cons_zero, List.setIfInBounds_toArray, List.set_cons_zero, List.set_cons_succ]
      refine hm_run 17 55 (.bool false) rfl rfl (by kernel_rfl) (by kernel_rfl) (by kernel_rfl) (fun _ _ _ h => h) rfl (fun _ _ => exec_neqi rfl rfl rfl (decide_eq_true rfl)) S11_16.out ?_
      try simp only [Act.put, List.getElem_toArray, List.getElem_cons_succ, List.getElem_cons_zero, List.setIfInBounds_toArray, List.set_cons_zero, List.set_cons_succ]
      refine hm_run 18 56 (.bool false) rfl rfl (by kernel_rfl) (by kernel_rfl) (by kernel_rfl) (fun _ _ _ h => h) rfl (fun _ _ => rfl) S11_16.out ?_
      try simp only [Act.put, List.getElem_toArray, List.getElem_cons_succ, List.getElem_cons_zero, List.setIfInBounds_toArray, List.set_cons_zero, List.set_cons_succ]
      refine wpAnyH_done (by kernel_rfl) ?_ _
      go_wp2_with fail
      go_roundg (kk - 1)
      case measure => omega
      case rel => exact ⟨j + 1, er5, r5, p5, g5, c5, q5, h5, d5, by omega, by go_num, Z7⟩
    · obtain rfl : j = n := by omega
      obtain ⟨rl, hrl⟩ : ∃ rl, r.length = rl := ⟨_, rfl⟩
      have RL := Lib.hid hrl
      have CX := Lib.hid (show wr.heap[bx]? = some (Obj.cells #[.slice q rl d, .int .i64 er] 29 (0, 0)) from by have := Z.out.K.cX; rw [hrl] at this; exact this)
      clear hrl
      go_upto_region 12 with fail
      refine wp_region_T (Φ := fun X => Below wr.heap.size wr X) (S := fun X => X.heap[bx]? = some (.cells #[.slice q rl d, .int .i64 er] 29 (0, 0))) (Lib.hid (Below.refl _ _)) (fun _ h => h.drew) (fun X h => (h.block bx (heap_lt CX.out)).trans CX.out) (by kernel_rfl) ?_
      intro wx TT S0
      clear CX
      refine hm_run 0 58 (.pointer (some ⟨br, 0, none⟩)) rfl rfl (by kernel_rfl) (by kernel_rfl) (by kernel_rfl) (fun _ _ _ h => h) rfl (fun _ _ => rfl) S0.out ?_
      try simp only [Act.put, List.getElem_toArray, List.getElem_cons_succ, List.getElem_cons_zero, List.setIfInBounds_toArray, List.set_cons_zero, List.set_cons_succ]
      refine hm_run 2 60 (.pointer (some ⟨bx, 0, none⟩)) rfl rfl (by kernel_rfl) (by kernel_rfl) (by kernel_rfl) (fun _ _ _ h => h) rfl (fun _ _ => rfl) S0.out ?_
      try simp only [Act.put, List.getElem_toArray, List.getElem_cons_succ, List.getElem_cons_zero, List.setIfInBounds_toArray, List.set_cons_zero, List.set_cons_succ]
      refine hm_run 3 61 (.pointer (some ⟨bx, 0, none⟩)) rfl rfl (by kernel_rfl) (by kernel_rfl) (by kernel_rfl) (fun _ _ _ h => h) rfl (fun _ _ => rfl) S0.out ?_
      try simp only [Act.put, List.getElem_toArray, List.getElem_cons_succ, List.getElem_cons_zero, List.setIfInBounds_toArray, List.set_cons_zero, List.set_cons_succ]
      refine hm_run 4 62 (.pointer (some ⟨bx, 0, none⟩)) rfl rfl (by kernel_rfl) (by kernel_rfl) (by kernel_rfl) (fun _ _ _ h => h) rfl (fun _ _ => rfl) S0.out ?_
      try simp only [Act.put, List.getElem_toArray, List.getElem_cons_succ, List.getElem_cons_zero, List.setIfInBounds_toArray, List.set_cons_zero, List.set_cons_succ]
      refine hm_run 5 63 (.slice q rl d) rfl rfl (by kernel_rfl) (by kernel_rfl) (by kernel_rfl) (fun _ _ _ h => h) rfl (fun W hW => exec_load rfl (run_load_one Tryd.underlying26 rfl (cell_of_here hW 0 rfl))) S0.out ?_
      try simp only [Act.put, List.getElem_toArray, List.getElem_cons_succ, List.getElem_cons_zero, List.setIfInBounds_toArray, List.set_cons_zero, List.set_cons_succ]
      refine hm_run 6 64 (.int .i64 ((rl : Nat) : Int)) rfl rfl (by kernel_rfl) (by kernel_rfl) (by kernel_rfl) (fun _ _ _ h => h) rfl (fun _ _ => exec_len Tryd.underlying26 rfl rfl) S0.out ?_
      try simp only [Act.put, List.getElem_toArray, List.getElem_cons_succ, List.getElem_cons_zero, List.setIfInBounds_toArray, List.set_cons_zero, List.set_cons_succ]
      refine hm_one (i := 1) (by kernel_rfl) ?_
      refine hm_step 1 rfl (by kernel_rfl) fun K hK => ?_
      try simp only [Act.put, List.getElem_toArray, List.getElem_cons_succ, List.getElem_cons_zero, List.setIfInBounds_toArray, List.set_cons_zero, List.set_cons_succ]
      go_simp
      go_at_call 13
      refine (show Calls Tryd.prog 13 _ _ fun e w' => e = .returned (.int .i64 (rl : Int)) ∧ wx = w' from by have := left_any (Z.out.call TT.out).T; rw [RL.out] at this; exact this).mono ?_
      rintro e w8 ⟨rfl, rfl⟩
      have S1_6 := S0
      refine hK _ _ S1_6.out ?_
      clear hK K
      try simp only [Act.put, List.getElem_toArray, List.getElem_cons_succ, List.getElem_cons_zero, List.setIfInBounds_toArray, List.set_cons_zero, List.set_cons_succ]
      refine hm_run 7 65 (.bool true) rfl rfl (by kernel_rfl) (by kernel_rfl) (by kernel_rfl) (fun _ _ _ h => h) rfl (fun _ _ => exec_eqli rfl rfl rfl (decide_eq_true rfl)) S1_6.out ?_
      try simp only [Act.put, List.getElem_toArray, List.getElem_cons_succ, List.getElem_cons_zero, List.setIfInBounds_toArray, List.set_cons_zero, List.set_cons_succ]
      refine hm_run 8 66 (.bool true) rfl rfl (by kernel_rfl) (by kernel_rfl) (by kernel_rfl) (fun _ _ _ h => h) rfl (fun _ _ => rfl) S1_6.out ?_
      try simp only [Act.put, List.getElem_toArray, List.getElem_cons_succ, List.getElem_cons_zero, List.setIfInBounds_toArray, List.set_cons_zero, List.set_cons_succ]
      refine hm_one (i := 9) (by kernel_rfl) ?_
      refine hm_step 9 rfl (by kernel_rfl) fun K hK => ?_
      try simp only [Act.put, List.getElem_toArray, List.getElem_cons_succ, List.getElem_cons_zero, List.setIfInBounds_toArray, List.set_cons_zero, List.set_cons_succ]
      go_simp
      go_at_call 14
      refine (awake9_any _ (Lib.hid (KL.out.below (BW.out.trans (TT.out.mono BW.out.size))))).mono ?_
      rintro e w9 ⟨rfl, hb9⟩
      have FIN := Lib.hid (BW.out.trans ((TT.out.trans (hb9.mono TT.out.size)).mono BW.out.size))
      have S9_9 := Lib.hid (show w9.heap[bx]? = _ from (hb9.block bx (heap_lt S1_6.out)).trans S1_6.out)
      clear hb9
      refine hK _ _ S9_9.out ?_
      clear hK K
      try simp only [Act.put, List.getElem_toArray, List.getElem_cons_succ, List.getElem_cons_zero, List.setIfInBounds_toArray, List.set_cons_zero, List.set_cons_succ]
      refine hm_run 10 68 (.bool true) rfl rfl (by kernel_rfl) (by kernel_rfl) (by kernel_rfl) (fun _ _ _ h => h) rfl (fun _ _ => rfl) S9_9.out ?_
      try simp only [Act.put, List.getElem_toArray, List.getElem_cons_succ, List.getElem_cons_zero, List.setIfInBounds_toArray, List.set_cons_zero, List.set_cons_succ]
      refine hm_run 11 2 (.bool true) rfl rfl (by kernel_rfl) (by kernel_rfl) (by kernel_rfl) (fun _ _ _ h => h) rfl (fun _ _ => rfl) S9_9.out ?_
      try simp only [Act.put, List.getElem_toArray, List.getElem_cons_succ, List.getElem_cons_zero, List.setIfInBounds_toArray, List.set_cons_zero, List.set_cons_succ]
      refine wpAnyH_done (by kernel_rfl) ?_ _
      go_wp2_with fail
      go_ret
      exact ⟨rfl, FIN.out⟩

theorem contract (H : Type) (enc : TypeId × Value → H) (W : World) (base : Nat) (args : Array Value) (ds gs : List (DataW H)) (before : List MemPlace)
    (hval0 : ∀ (j : Nat) t v, Tryd.f3.params[j]? = some t → args[j]? = some v → Value.okWide Tryd.prog W .any base t v)
    (hW : DataW.Whole enc Tryd.prog Tryd.f3.params.toList Rows.frameLivesSpec.vars false W args.toList ds gs before) (hk : Rows.uptoSmall H (ds ++ gs) = true) (hL : laidMetH Tryd.prog S.frLaid W) :
    Calls Tryd.prog 3 args W fun e W' => ∃ v, e = .returned v ∧ Rows.frameLivesSpec.post enc Tryd.prog Tryd.f3 false true false false W args v W' := by
  have hval : ∀ (j : Nat) t v, Tryd.f3.params[j]? = some t → args[j]? = some v → Value.okWide Tryd.prog W .any base t v := hval0
  have hW' := hW
  obtain ⟨p, q, hA0, hV, rfl, hfz, hnd⟩ := hW
  have hA : DataW.TrodAll enc Tryd.prog W 0 (fun _ => true) true Tryd.f3.params.toList args.toList ds p := hA0
  rw [Tryd.params3] at hA hval
  obtain ⟨v0, vs0, d0, ds0, p0, q0, hargs, rfl, rfl, h0, r0⟩ := trodAll_cons hA
  obtain ⟨rfl, rfl, rfl⟩ := trodAll_nil r0
  obtain rfl : args = #[v0] := by cases args; simp_all
  obtain ⟨rfl, rfl⟩ := trodVars_none hV
  have hb : Rows.uptoBulkAll ([d0] ++ []) ≤ 1048576 := by simpa [Rows.uptoSmall] using hk
  have hb0 : Rows.uptoBulk d0 ≤ 1048576 := Nat.le_trans (bulk_part (by simp)) hb
  have k0 := h0
  have lt0 : ∀ x ∈ p0, x.block < W.heap.size := by obtain ⟨m, hm⟩ := k0; exact DataW.trod_lt m _ _ _ hm
  obtain ⟨t0, w0, m0⟩ := open_texts_arg6 (hval 0 22 v0 rfl rfl) h0 hb0
  clear hA0 hval0
  simp only [List.append_nil] at hW'
  refine (walk W hL v0 t0 w0 m0).mono fun e W' ⟨he, bel⟩ => ?_
  subst he
  exact ⟨_, rfl, _, _, _, [], _, [], hW', trodAll_mk1 (shut_bool Tryd.underlying4 _), (trodAll_cons_mk (Below.trod laidOut (by kernel_rfl) (of_decide_eq_true (by kernel_rfl)) k0 bel lt0) trodAll_mk0), rfl, bel.frame _, fun h => by cases h⟩

theorem witness_row_sh {H : Type} {enc : TypeId × Value → H} {C : Checked} {os : Os} {f : FuncId} {fn : Func} {s : OpenSpec} {conds : List PathCond} {apart : Bool} {laid : List (String × DataW Unit)} (modest : Bool) (w0 : World) (args : Array Value) (hos : w0.os = os)
    (hsh : (w0.forCall (fun _ _ => 0) ⟨#[], args, []⟩).Shaped C.prog) (hok : Input.okWideB C.prog (w0.forCall (fun _ _ => 0) ⟨#[], args, []⟩) f ⟨#[], args, []⟩ = true)
    (hrow : s.preRow enc C.prog fn conds apart laid (w0.forCall (fun _ _ => 0) ⟨#[], args, []⟩).memory args) :
    ∃ (w : World) (tape : Tape) (i : Input), w.os = os ∧ (w.forCall tape i).Shaped C.prog ∧ i.vars = [] ∧ Input.okWide C.prog (w.forCall tape i) .any w.heap.size f i ∧
      s.preRow enc C.prog fn conds apart laid (w.forCall tape i).memory i.args ∧ ({ modest := modest } : Assume).holds C.prog (lone (Frame.enter C.prog f i.args .normal) [] (w.forCall tape i)) :=
  ⟨w0, fun _ _ => 0, ⟨#[], args, []⟩, hos, hsh, (Input.okWide_of_okWideB (base := 0) hok).1, (Input.okWide_of_okWideB hok).2, hrow, by
    simp only [Assume.holds]
    exact ⟨by simp, by simp, fun _ => Modest.zero, by simp, by simp⟩⟩

theorem reads (os : Os) {H : Type} (enc : TypeId × Value → H) : ∃ places, DataW.whole enc Tryd.prog ((World.laidAll Tryd.prog os S.frLaid).forCall (fun _ _ => 0) ⟨#[], #[.slice none 0 0], []⟩).memory Tryd.f3.params.toList Rows.frameLivesSpec.vars false #[.slice none 0 0].toList 8 = some ([.nil], [], places) :=
  ⟨[], by kernel_rfl⟩

set_option maxRecDepth 100000 in
theorem lifted (os : Os) (started : os.Started) (H : Type) (enc : TypeId × Value → H) (F : Stop.Interp) :
    ReturnsInHanded {} Tryd.checked os 3 .any ((Rows.OpenSpec.upto Rows.frameLivesSpec).preRow enc Tryd.prog Tryd.f3 Rows.frameLivesUptoRow.domain false Rows.frameLivesUptoRow.laid) (((Rows.OpenSpec.upto Rows.frameLivesSpec).at F).post enc Tryd.prog Tryd.f3 false true false false) := by
  obtain ⟨places, hx⟩ := reads os enc
  refine returnsInHanded_of_row (C := Tryd.checked) (s := Rows.OpenSpec.upto Rows.frameLivesSpec) own started (by kernel_rfl) Tryd.func3
    (witness_row_sh (enc := enc) (C := Tryd.checked) false (World.laidAll Tryd.prog os S.frLaid) #[.slice none 0 0] (World.laidAll_os _ _ _) (World.shaped_of_ZipB (by kernel_rfl) (by kernel_rfl)) (by kernel_rfl)
      (OpenSpec.preRow_of_cond 8 hx (by kernel_rfl) (fun k hk => by cases hk; kernel_rfl) (by kernel_rfl) (by rw [MakeChecks.laidMetH_plain _ _ _ (by kernel_rfl)]; exact laidMet_laidAll _ (by kernel_rfl) (by kernel_rfl)))) ?_
  intro W base args ds gs before hval hW _ hcond _ hL _ _
  exact contract H enc W base args ds gs before hval hW (hcond _ rfl) hL

theorem over : Rows.FrameLivesUptoSaid :=
  OpenClaim.holds_of_cond 3 Tryd.f3 rfl rfl rfl rfl rfl rfl rfl ⟨rfl, rfl, rfl, rfl, rfl⟩ rfl rfl rfl rfl rfl (by kernel_rfl) Tryd.func3 (by kernel_rfl)
    (of_decide_eq_true (by kernel_rfl)) (by unfold Func.isWrapper; first | (rw [if_pos (by decide +kernel)]; kernel_rfl) | (rw [if_neg (by decide +kernel)]; exact ⟨rfl, rfl⟩))
    (fun os started H enc _ F => by rw [OpenClaim.pre_eq_preRow]; exact lifted os started H enc F)

/-- The tied card. -/
theorem card_holds : Rows.FrameLivesUptoCardSaid :=
  Claim7.holds_tied_plain_at .later [] [.data, .data, .data, .pinned] true (true, "f1b211d4871ea25ac7ccf62d4e8af954ae9a36901d175eac343dbf70e8321f11") false
    over (fun _ h => by cases h) (by kernel_rfl) (fun _ h => by cases h) frameLivesUpto_row_tie rfl ⟨rfl, rfl⟩ (by kernel_rfl) rfl
    (fun f fn hf hfn => by
      obtain rfl : f = 3 := Option.some.inj ((show Tryd.prog.funcNamed "sporran/sporranlaw09.FrameLives" = some 3 by kernel_rfl).symm.trans hf) |>.symm
      obtain rfl : fn = Tryd.f3 := (Option.some.inj (Tryd.func3.symm.trans hfn)).symm
      exact ⟨by kernel_rfl, fun j t ht => by
        rw [Tryd.params3] at ht
        have hm : t ∈ [22] := by simpa using Array.mem_of_getElem? ht
        have hall : ([22].all fun u => !Tryd.prog.wantsStandIn u) = true := by kernel_rfl
        exact (show Tryd.prog.wantsStandIn t = false by simpa using List.all_eq_true.1 hall t hm)⟩)
    (by kernel_rfl)
#print axioms card_holds
end Go.Proofs.YtkjcljobcidhfaaDoor.frameLives
