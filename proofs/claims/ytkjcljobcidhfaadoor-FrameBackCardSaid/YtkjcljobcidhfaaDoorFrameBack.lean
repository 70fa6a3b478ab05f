/- For every list of slices of bytes (nil too) and every list of numbers: of the first nine slices, each cut to 300 bytes, the program writes frames, whose bytes, one behind the other, and fed to a reader in pieces of any sizes below 60 and then the rest, give these frames, one by one, no fault, and nothing is left; the call returns true. The tables that the row lists (those of package sha, and two of the library's on UTF-8, one of them pinned) are laid as the card ties them. No other condition. -/
import Derived.Test.YtkjcljobcidhfaaDoorGu
import Derived.Test.YtkjcljobcidhfaaDoorTv
import Derived.Test.YtkjcljobcidhfaaDoorSFLaid
import Derived.Test.YtkjcljobcidhfaaDoorTie
import Derived.Test.YtkjcljobcidhfaaDoorCards
import Derived.Lay
import Derived.Deep.MidRow
import Derived.Deep.LoopGhost
import Derived.ShutString
import Derived.ChangeOld
import Derived.Below
import Derived.SevenTiedAt
set_option linter.unusedVariables false
set_option linter.unusedSimpArgs false
namespace Go.Proofs.YtkjcljobcidhfaaDoor.frameBack
open Go.ChangeShapes Go.WideShapes Go.ChangeAt Go.RowKit Go.Lib Go.Sort Go.Proofs.YtkjcljobcidhfaaDoor

set_option maxRecDepth 100000
theorem own : ownKnob Tryd.prog.godebug = none := by kernel_rfl
theorem exec_cvU {o : Oper} {ev : Operand → Value} {W : World} {x : Operand} {a r : Int} (ho : o.op = .convert 3 45 x) (hx : ev x = .int .i64 a) (hr : IntKind.u64.wrap a = r) : (execOp ev o).run Tryd.prog W = .ok (.value (.int .u64 r)) W := by
  subst hr
  unfold execOp
  simp [ho, hx, go_sem, convert, Tryd.underlying45, Tryd.underlying3]
theorem exec_cvI {o : Oper} {ev : Operand → Value} {W : World} {x : Operand} {a r : Int} (ho : o.op = .convert 45 3 x) (hx : ev x = .int .u64 a) (hr : IntKind.i64.wrap a = r) : (execOp ev o).run Tryd.prog W = .ok (.value (.int .i64 r)) W := by
  subst hr
  unfold execOp
  simp [ho, hx, go_sem, convert, Tryd.underlying45, Tryd.underlying3]
theorem exec_remU {o : Oper} {ev : Operand → Value} {W : World} {x y : Operand} {a b : Nat} (ho : o.op = .binOp .rem 45 x y 45) (hx : ev x = .int .u64 (a : Int)) (hy : ev y = .int .u64 (b : Int)) (hb : 0 < b) (ha : a < 18446744073709551616) : (execOp ev o).run Tryd.prog W = .ok (.value (.int .u64 ((a % b : Nat) : Int))) W := by
  have h1 : ¬ (b : Int) = 0 := by omega
  have h2 : a % b < 18446744073709551616 := Nat.lt_of_le_of_lt (Nat.mod_le _ _) ha
  have h3 : IntKind.u64.wrap (((a % b : Nat) : Nat) : Int) = ((a % b : Nat) : Int) := by rw [IntKind.wrap_u64]; omega
  have h4 : ((a : Int)).tmod (b : Int) = ((a % b : Nat) : Int) := by rw [Int.tmod_eq_emod_of_nonneg (by omega)]; omega
  unfold execOp
  simp [ho, hx, hy, go_sem, Tryd.underlying45, h1, h4, h3]
  omega
theorem exec_neqi {o : Oper} {ev : Operand → Value} {W : World} {x y : Operand} {a b : Int} {q : Bool} (ho : o.op = .binOp .neq 3 x y 3) (hx : ev x = .int .i64 a) (hy : ev y = .int .i64 b) (hq : decide (a = b) = !q) : (execOp ev o).run Tryd.prog W = .ok (.value (.bool q)) W := by
  obtain rfl : q = !decide (a = b) := by rw [hq]; simp
  unfold execOp
  by_cases h : a = b
  · subst h
    simp [ho, hx, hy, go_sem, Tryd.underlying3]
  · simp [ho, hx, hy, go_sem, Tryd.underlying3, h]
theorem exec_eqE {o : Oper} {ev : Operand → Value} {W : World} {x y : Operand} {a : Int} (ho : o.op = .binOp .eql 27 x y 27) (hx : ev x = .int .i64 a) (hy : ev y = .int .i64 a) : (execOp ev o).run Tryd.prog W = .ok (.value (.bool true)) W := by
  unfold execOp
  simp [ho, hx, hy, go_sem, Tryd.underlying27]

theorem exec_remI {o : Oper} {ev : Operand → Value} {W : World} {x y : Operand} {a b : Nat} (ho : o.op = .binOp .rem 3 x y 3) (hx : ev x = .int .i64 (a : Int)) (hy : ev y = .int .i64 (b : Int)) (hb : 0 < b) (ha : a < 9223372036854775808) : (execOp ev o).run Tryd.prog W = .ok (.value (.int .i64 ((a % b : Nat) : Int))) W := by
  have h1 : ¬ (b : Int) = 0 := by omega
  have h2 : a % b < 9223372036854775808 := Nat.lt_of_le_of_lt (Nat.mod_le _ _) ha
  have h3 : IntKind.i64.wrap (((a % b : Nat) : Nat) : Int) = ((a % b : Nat) : Int) := by rw [IntKind.wrap_i64]; omega
  have h4 : ((a : Int)).tmod (b : Int) = ((a % b : Nat) : Int) := by rw [Int.tmod_eq_emod_of_nonneg (by omega)]; omega
  unfold execOp
  simp [ho, hx, hy, go_sem, Tryd.underlying3, h1, h4, h3]
  try omega
theorem wp_region_T {P : Program} {ops : Array Oper} {Q : Exit → Act → World → Prop} {Φ S : World → Prop} {w : World} {id : Nat} {a : Act} (hT : Hid (Φ w)) (hd : ∀ w, Φ w → Φ w.drew) (hS : ∀ w, Φ w → S w) (hm : P.follows .mixedOrders = true)
    (h : ∀ w', Hid (Φ w') → Hid (S w') → wpAnyH P .any ops Q S ops.size (Array.replicate ops.size false) a w') : (Code.region id ops true).wp P Q a w :=
  wp_region_held hm (h _ (hd _ hT.out) (hS _ (hd _ hT.out)))
def comA : Array Value := #[.string txS, .string vkS, .string abS]
theorem com_cell {m : Nat} (hm : m < 3) : comA[0 + m * 1]? = some (.string (comOf m)) := by
  have : m = 0 ∨ m = 1 ∨ m = 2 := by omega
  rcases this with rfl | rfl | rfl <;> rfl
theorem bs_three (W : World) : (Instr.buildSlice 40 3 #[(0, .string txS), (1, .string vkS), (2, .string abS)]).run Tryd.prog W = .ok (.slice (some ⟨W.heap.size, 0, none⟩) 3 3) (W.alloc (.cells comA 9)) := by kernel_rfl
theorem exec_bsl {o : Oper} {ev : Operand → Value} {W W' : World} {T : TypeId} {m : Nat} {parts : Array (Nat × Operand)} (ho : o.op = .buildSlice T m parts) {ps : Array (Nat × Value)} (hp : (parts.map fun (i, y) => (i, ev y)) = ps) {v : Value} (h : (Instr.buildSlice T m ps).run Tryd.prog W = .ok v W') : (execOp ev o).run Tryd.prog W = .ok (.value v) W' := by
  unfold execOp
  simp only [ho, hp, Sem.run_bind, h, Result.andThen_ok]
  rfl
theorem mo_bs3 {op : Oper} {a : Act} {w w0 : World} {l : List (Nat × TypeId × Array Value)} {K : Act → World → Prop} {Q : Exit → Act → World → Prop} {parts : Array (Nat × Operand)} (E : Hid (Mem w0 l w)) (ho : op.op = .buildSlice 40 3 parts) (hp : (parts.map fun (i, y) => (i, a.eval y)) = #[(0, .string txS), (1, .string vkS), (2, .string abS)])
    (k : ∀ b w', Hid (Mem w0 ((b, 9, comA) :: l) w') → K (a.put op.dst (.slice (some ⟨b, 0, none⟩) 3 3)) w') : op.wp Tryd.prog a w K Q := mo_known _ _ (exec_bsl ho hp (bs_three w)) (k _ _ (Lib.hid (E.out.new 9 comA)))
theorem Mem.base {w0 w1 w : World} {l : List (Nat × TypeId × Array Value)} (E : Mem w1 l w) (hb : Below w0.heap.size w0 w1) : Mem w0 l w := ⟨hb.trans (E.below.mono hb.size), E.has, E.nd, fun p hp => Nat.le_trans hb.size (E.ge p hp)⟩
theorem Mem.nilB {w0 w : World} (hb : Below w0.heap.size w0 w) : Mem w0 [] w := ⟨hb, fun _ h => (by cases h), List.nodup_nil, fun _ h => by cases h⟩
theorem open_ints_arg {H : Type} {enc : TypeId × Value → H} {W : World} {base : Nat} {v : Value} {d : DataW H} {p : List MemPlace} {ts : List TypeId} {ds : List (DataW H)} {j : Nat}
    (hv : Value.okWide Tryd.prog W .any base 39 v) (hd : DataW.Trod enc Tryd.prog W 0 (fun _ => true) true 39 v d p)
    (hsz : (DataW.weightsEach Tryd.prog ts ds).all (· ≤ reachBytes) = true) (hts : ts[j]? = some 39) (hds : ds[j]? = some d) : ∃ a g o n c, ∃ x : Nat → Int, v = .slice a n c ∧ VRow 1 W a g o n c (fun i => .int .i64 (x i)) ∧ c * 8 ≤ 140737488351232 := by
  have b64 : Tryd.prog.bytesOf 3 = 8 := by kernel_rfl
  obtain ⟨a, len, cap, rfl⟩ := okWide_slice Tryd.underlying39 hv
  obtain ⟨fuel, hf⟩ := hd
  rcases open_ints Tryd.underlying39 Tryd.underlying3 (by kernel_rfl) hf with ⟨hcs, _⟩ | ⟨q, l, c, zs, hcs, _, hl, hm, hz, hx, hcell, hwz⟩
  · simp [Value.cells] at hcs
    obtain ⟨rfl, rfl, rfl⟩ := hcs
    exact ⟨none, 0, 0, 0, 0, fun _ => 0, rfl, VRow.nothing _ _ _, by omega⟩
  · simp [Value.cells] at hcs
    obtain ⟨rfl, rfl, rfl⟩ := hcs
    have hz' : zs.length = cap := by simpa using hz
    have hd' : d = .slice (lits .i64 (zs.take len)) (lits .i64 (zs.drop len)) := by simpa using congrArg Prod.fst hx
    rw [hd'] at hds
    have hs := sized_slice hsz hts hds Tryd.underlying39
    rw [b64] at hs
    simp only [lits, List.length_map, List.length_take, List.length_drop, reachBytes] at hs
    refine ⟨some q, q.block, q.off, len, cap, fun i => zs[i]?.getD 0, rfl, ⟨hl, by unfold maxLen; omega, fun h => (by cases h), ?_, ?_, fun i _ => rfl⟩, by omega⟩
    · intro h0
      have h1 := hcell 0 (by omega)
      obtain ⟨b, o, s⟩ := q
      have hsp : s = none := by simpa [Addr.add] using World.cell?_spot h1
      subst hsp
      rfl
    · intro i hi
      rw [Nat.mul_one] at hi
      have h1 := hcell i (by omega)
      have h0 := hcell 0 (by omega)
      obtain ⟨b, o, s⟩ := q
      have hsp : s = none := by simpa [Addr.add] using World.cell?_spot h0
      subst hsp
      rw [row_add] at h1
      simpa using h1

/-- What was wanted, in a later world. -/
theorem wants_in {W D w : World} {pw : Option Addr} {gw cw : Nat} {V : Nat → Value} {ws : List (ByteArray × List Nat)} (R : VRow 2 D pw gw 0 ws.length cw V) (T : ∀ i (h : i < ws.length), V (i * 2 + 0) = .string ws[i].1 ∧ TextAt W (V (i * 2 + 1)) ws[i].2) (b1 : Below W.heap.size W D) (b2 : Below D.heap.size D w) (hl : ws.length ≤ 3000000000000) : FrsIn w (.slice pw ws.length cw) ws :=
  ⟨pw, gw, 0, cw, V, rfl, hl, R.below b2, fun i hi => ⟨(T i hi).1, ((T i hi).2.below b1).below b2⟩⟩
theorem frs_end {B : Nat} {w : World} {p4 pw : Option Addr} {g4 c4 cw : Nat} {V4 : Nat → Value} {gs rem ws : List (ByteArray × List Nat)} (h : FrsAt B w p4 g4 c4 V4 (gs ++ rem)) (e : ws = gs ++ rem) (hl : ws.length ≤ 3000000000000) (k : FrsIn w (.slice pw ws.length cw) ws) :
    Calls Tryd.prog 12 #[.slice p4 (gs.length + rem.length) c4, .slice pw ws.length cw] w fun e w' => e = .returned (.bool true) ∧ Below w.heap.size w w' := by
  refine same_frs (ts := ws) (Lib.hid ?_) (Lib.hid k)
  have := h.isIn (by rw [← e]; exact hl)
  rw [List.length_append] at this
  rw [e]
  exact this
theorem wants_more {W : World} {V : Nat → Value} {ws : List (ByteArray × List Nat)} {s : ByteArray} {v : Value} {t : List Nat} (T : ∀ i (h : i < ws.length), V (i * 2 + 0) = .string ws[i].1 ∧ TextAt W (V (i * 2 + 1)) ws[i].2) (A : TextAt W v t) : ∀ i (h : i < (ws ++ [(s, t)]).length), vcat V (ws.length * 2) (fU s v) (i * 2 + 0) = .string (ws ++ [(s, t)])[i].1 ∧ TextAt W (vcat V (ws.length * 2) (fU s v) (i * 2 + 1)) (ws ++ [(s, t)])[i].2 := fun i hi => by
  rw [List.length_append, List.length_singleton] at hi
  by_cases e : i = ws.length
  · subst e
    have e2 : (ws ++ [(s, t)])[ws.length]'(by simp) = (s, t) := by simp
    rw [e2, vcat_hi, vcat_hi]
    exact ⟨rfl, A⟩
  · have hi2 : i < ws.length := by omega
    have e2 : (ws ++ [(s, t)])[i]'(by rw [List.length_append, List.length_singleton]; omega) = ws[i] := List.getElem_append_left hi2
    rw [e2, vcat_lo hi2 (by omega), vcat_lo hi2 (by omega)]
    exact T i hi2
theorem xs_len {xs ys : List Nat} {z : Nat} (h : ys.length = z) : (xs ++ ys).length = xs.length + z := by rw [List.length_append, h]
theorem own_more {B : Nat} {w : World} {p : Option Addr} {g c z : Nat} {xs ys : List Nat} (N : Own B w p g (xs.length + z) c (cat (lf xs) xs.length (lf ys))) (h : ys.length = z) : Own B w p g (xs ++ ys).length c (lf (xs ++ ys)) := (own_cat N rfl h.symm rfl).2
theorem ownK2 {B T : Nat} {w w' : World} {p : Option Addr} {g n c : Nat} {x : Nat → Nat} (N : Own B w p g n c x) (k : KeepT T w w') (h : (5 : TypeId) ≠ T) : Own B w' p g n c x := ⟨ownsRow_keep N.own k h, N.spot, N.byte, Nat.le_trans N.low k.size⟩
set_option maxHeartbeats 32000000 in
theorem walk (W : World) (hL : laidMetH Tryd.prog S.frLaid W) (v0 : Value) (ts : List (List Nat)) (A0 : TextsAt W v0 ts) (a1 : Option Addr) (g1 o1 n1 c1 : Nat) (x1 : Nat → Int) (w1 : VRow 1 W a1 g1 o1 n1 c1 (fun i => .int .i64 (x1 i))) (m1 : c1 * 8 ≤ 140737488351232) :
    Calls Tryd.prog 4 #[v0, .slice a1 n1 c1] W fun e w' => e = .returned (.bool true) ∧ Below W.heap.size W w' := by
  have KL := Lib.hid (show S.Both W from S.of_fr hL)
  clear hL
  obtain ⟨pt, gt, ot, ct, VT, rfl, bt, RT, AT⟩ := A0
  have RT := Lib.hid RT
  have AT := Lib.hid AT
  have W1 := Lib.hid w1
  obtain ⟨n, hn⟩ : ∃ n, n = ts.length := ⟨_, rfl⟩
  have HN := Lib.hid hn
  rw [← hn] at RT bt
  rw [← hn]
  have bn : n ≤ 140737488355328 := by omega
  have bn1 : n1 ≤ 140737488355328 := by have := w1.le; omega
  clear hn bt w1 m1
  have A1 := Lib.hid (own_nothing W W.heap.size (lf []) (lf_lt isB_nil) (Nat.le_refl _))
  go_enter Tryd.func4, Tryd.ntmps4
  go_wp2_with fail
  go_loopg [5, 6, 23] n (fun k0 all want i wr => ∃ (j : Nat) (xs : List Nat) (ws : List (ByteArray × List Nat)) (pa : Option Addr) (ga ca : Nat) (pw : Option Addr) (gw cw : Nat) (V : Nat → Value), j + k0 = n ∧ i = .int .i64 (j : Int) ∧ all = .slice pa xs.length ca ∧ want = .slice pw ws.length cw ∧ Hid (Own W.heap.size wr pa ga xs.length ca (lf xs)) ∧ Hid (VOwn 42 2 W.heap.size wr pw gw ws.length cw V) ∧ Hid (∀ i (h : i < ws.length), V (i * 2 + 0) = .string ws[i].1 ∧ TextAt W (V (i * 2 + 1)) ws[i].2) ∧ Hid (Feeds xs ws [] 0) ∧ Hid (ws.length = j ∧ j ≤ 9 ∧ xs.length ≤ j * 324) ∧ Hid (Below W.heap.size W wr))
  case atStart => exact ⟨0, [], [], none, 0, 0, none, 0, 0, fun _ => undef, by omega, rfl, rfl, rfl, A1, Lib.hid (vown_nothing _ _ _ _ _ (Nat.le_refl _)), Lib.hid (fun i hi => absurd hi (by simp)), Lib.hid feeds_nil, Lib.hid (by simp), Lib.hid (Below.refl _ _)⟩
  case round =>
    clear A1
    obtain ⟨j, xs, ws, pa, ga, ca, pw, gw, cw, V, hj, rfl, rfl, rfl, A1, A2, WT, FD, LB, BW⟩ := hrel
    obtain ⟨kk, hkk⟩ : ∃ kk : Nat, kk = gk := ⟨_, rfl⟩
    rw [← hkk] at hj
    by_cases hlt : j < n
    · have hjt : j < ts.length := by rw [← HN.out]; exact hlt
      obtain ⟨q, h, o, d, hv, bl, R⟩ := AT.out j hjt
      obtain rfl := RT.out.head (by omega)
      have HV := Lib.hid (show wr.cell? ⟨gt, ot + j * 1, none⟩ = some (.slice q ts[j].length d) by
        rw [Nat.mul_one, ← hv]
        exact (RT.out.below BW.out).cell j (by omega))
      obtain ⟨tl0, htl⟩ : ∃ tl0, tl0 = ts[j].length := ⟨_, rfl⟩
      rw [← htl] at HV
      by_cases h8 : 8 < j
      · have H8 := Lib.hid (show decide ((8 : Int) < (j : Int)) = true from decide_eq_true (by omega))
        clear h8 hv bl R htl
        go_upto_region 13 with (first
    | ((with_reducible refine wpList_at 26 rfl ?_); refine wpList_ix (k := 1) (j := j) Tryd.underlying22 (by kernel_rfl) (.tmp 21) (.tmp 23) rfl rfl rfl rfl hlt rfl ?_)
    | ((with_reducible refine wpList_at 27 rfl ?_); refine wpList_ld1 26 (.tmp 26) rfl rfl rfl Tryd.underlying26 rfl HV.out ?_)
          | ((with_reducible refine wpList_at 29 rfl ?_); refine wpList_kn rfl (.bool true) (by exact exec_gtri rfl rfl rfl H8.out) ?_))
        obtain ⟨D, hDw⟩ : ∃ D, D = wr := ⟨_, rfl⟩
        subst hDw
        have NEW := Lib.hid (frnew_any D)
        have RA := Lib.hid A1.out.row
        have KD := Lib.hid (KL.out.below BW.out)
        have WLEN := Lib.hid (show ws.length ≤ 9 ∧ xs.length ≤ 3000 by have := LB.out; omega)
        go_upto_region 14 with (go_at_call 7; refine NEW.out.mono ?_; rintro e w1 ⟨br, bu, rfl, T1x⟩; have T1 := Lib.hid T1x; clear T1x)
        clear NEW
        go_wp2_with fail
        go_loopg [5, 13, 68] n1 (fun k2 all got i2 w2 => ∃ (j2 : Nat) (q2 : Option Addr) (o2 d2 : Nat) (ys : List Nat) (p : Option Addr) (g c : Nat) (rs : List Nat) (pg : Option Addr) (gg cg : Nat) (V2 : Nat → Value) (gs rem : List (ByteArray × List Nat)), j2 + k2 = n1 ∧ i2 = .int .i64 (j2 : Int) ∧ all = .slice q2 ys.length d2 ∧ got = .slice pg gs.length cg ∧ Hid (Row D q2 ga o2 ys.length d2 (lf ys)) ∧ Hid (Fp D br bu 0 p g c rs w2) ∧ Hid (FrsAt D.heap.size w2 pg gg cg V2 gs) ∧ Hid (Apart V2 gs p) ∧ Hid (Feeds (rs ++ ys) rem [] 0) ∧ Hid (ws = gs ++ rem) ∧ Hid (rs.length + ys.length ≤ 3000))
        case atStart => exact ⟨0, pa, 0, ca, xs, none, 0, 0, [], none, 0, 0, fun _ => undef, [], ws, by omega, rfl, rfl, rfl, RA, T1, Lib.hid (FrsAt.none T1.out.under0.size _), Lib.hid (fun i hi => absurd hi (by simp)), FD, Lib.hid rfl, Lib.hid (by have := WLEN.out; simp only [List.length_nil]; omega)⟩
        case round =>
          clear T1 RA
          obtain ⟨j2, q2, o2, d2, ys, p, g, c, rs, pg, gg, cg, V2, gs, rem, hj2, rfl, rfl, rfl, RY, T2, FSG, AP, FDR, HWS, LEN⟩ := hrel
          obtain ⟨k3, hk3⟩ : ∃ k3 : Nat, k3 = gk := ⟨_, rfl⟩
          rw [← hk3] at hj2
          have GL := Lib.hid (show gs.length + rem.length ≤ 9 by have := WLEN.out; rw [HWS.out, List.length_append] at this; omega)
          have R2 := Lib.hid (RY.out.below T2.out.under0)
          have KW := Lib.hid (KD.out.below T2.out.under0)
          by_cases hlt2 : j2 < n1
          · obtain rfl := W1.out.head (by omega)
            have C1 := Lib.hid (((W1.out.below BW.out).below T2.out.under0).cell j2 (by omega))
            obtain ⟨u, hu⟩ : ∃ u : Nat, u = (IntKind.u64.wrap (x1 j2)).toNat := ⟨_, rfl⟩
            have hu2 : IntKind.u64.wrap (x1 j2) = ((u : Nat) : Int) ∧ u < 18446744073709551616 := by
              rw [hu, IntKind.wrap_u64]
              omega
            have HU := Lib.hid hu2.1
            have HU2 := Lib.hid hu2.2
            obtain ⟨tt, htt⟩ : ∃ tt, tt = u % 60 := ⟨_, rfl⟩
            have HTT := Lib.hid htt
            have HT3 := Lib.hid (show IntKind.i64.wrap (tt : Int) = (tt : Int) by rw [IntKind.wrap_i64]; omega)
            obtain ⟨mm, hmm⟩ : ∃ mm, mm = min tt ys.length := ⟨_, rfl⟩
            have HMM := Lib.hid (show min ((tt : Nat) : Int) ((ys.length : Nat) : Int) = ((mm : Nat) : Int) by omega)
            have mle : mm ≤ ys.length := by omega
            obtain ⟨q3, S3, R3⟩ := sl_of0 RY.out mm mle
            have yl : (ys.take mm).length = mm := by rw [List.length_take]; omega
            have R3' : Row wr q3 ga o2 (ys.take mm).length d2 (lf (ys.take mm)) := by
              rw [yl]
              exact (R3.below T2.out.under0).to (fun i hi => by
                unfold lf
                simp only [List.getD_eq_getElem?_getD, List.getElem?_take, if_pos hi]) (lf_lt fun x hx => isB_row RY.out x (List.mem_of_mem_take hx))
            obtain ⟨q4, S4, R4⟩ := (show ∃ q4, (∀ W', (Instr.sliceAt 26 (.slice q2 ys.length d2) (some (.int .i64 (mm : Int))) none none).run Tryd.prog W' = .ok (.slice q4 (ys.drop mm).length (d2 - mm)) W') ∧ Row D q4 ga (o2 + mm) (ys.drop mm).length (d2 - mm) (lf (ys.drop mm)) from by
              have le := RY.out.le
              obtain ⟨q4, e, R4⟩ := RY.out.slice mle (Nat.le_refl _) le (Nat.le_refl d2)
              refine ⟨q4, fun W' => by rw [run_sl (bounds_l mle), e, List.length_drop], ?_⟩
              rw [List.length_drop]
              exact R4.to (fun i hi => lf_drop _ _ _) (lf_lt fun x hx => isB_row RY.out x (List.mem_of_mem_drop hx)))
            have S3 := Lib.hid S3
            have S4 := Lib.hid S4
            have R4 := Lib.hid R4
            have FE := Lib.hid (feed_any T2 (Lib.hid R3') (by have := LEN.out; omega) KD)
            rw [yl] at FE
            have FDS := Lib.hid (show Feeds ((rs ++ ys.take mm) ++ ys.drop mm) rem [] 0 by rw [List.append_assoc, List.take_append_drop]; exact FDR.out)
            have YD := Lib.hid (show (ys.drop mm).length = ys.length - mm ∧ (rs ++ ys.take mm).length = rs.length + mm ∧ mm ≤ ys.length by rw [List.length_drop, List.length_append, yl]; exact ⟨rfl, rfl, mle⟩)
            have NG := Lib.hid T2.out.under0.size
            clear hu hu2 htt hmm mle R3 R3' yl
            go_wp2_with (first
            | ((with_reducible refine wpList_at 70 rfl ?_); refine wpList_ix (k := 1) (j := j2) Tryd.underlying39 (by kernel_rfl) (.tmp 66) (.tmp 68) rfl rfl rfl rfl hlt2 rfl ?_)
            | ((with_reducible refine wpList_at 71 rfl ?_); refine wpList_ld1 3 (.tmp 70) rfl rfl rfl Tryd.underlying3 rfl (by rw [Nat.mul_one]; exact C1.out) ?_)
            | ((with_reducible refine wpList_at 73 rfl ?_); refine wpList_kn rfl (.int .u64 (u : Int)) (by exact exec_cvU rfl rfl HU.out) ?_)
            | ((with_reducible refine wpList_at 74 rfl ?_); refine wpList_kn rfl (.int .u64 (tt : Int)) (by rw [HTT.out]; exact exec_remU (b := 60) rfl rfl rfl (by omega) HU2.out) ?_)
            | ((with_reducible refine wpList_at 75 rfl ?_); refine wpList_kn rfl (.int .i64 (tt : Int)) (by exact exec_cvI rfl rfl HT3.out) ?_)
            | ((with_reducible refine wpList_at 78 rfl ?_); refine wpList_kn rfl (.int .i64 (mm : Int)) (by exact exec_min rfl rfl rfl rfl HMM.out) ?_)
            | ((with_reducible refine wpList_at 83 rfl ?_); refine wpList_kn rfl (.slice q3 mm d2) (by exact exec_sl rfl (S3.out _)) ?_)
            | (go_at_call 9; refine FE.out.mono ?_; rintro e w3 ⟨fs, r, er, pf, gf, cf, V3, hF, rfl, FS3x, ⟨p3, g3, c3, T3x, F3, L3, A3x⟩⟩; obtain ⟨e0, rem2, hrem, HF3x⟩ := Feeds.split (b := ys.drop mm) hF FDS.out; subst e0; have HF3 := Lib.hid HF3x; have HREM := Lib.hid hrem; have FSg := Lib.hid (FSG.out.feed T2.out F3 AP.out); have AP3 := Lib.hid (AP.out.feed FSG.out L3); have FS3 := Lib.hid FS3x; have A3 := Lib.hid A3x; have T3 := Lib.hid T3x; have RLE := Lib.hid (feeds_rest hF); clear hF hrem HF3x FS3x A3x T3x F3 L3 FE)
            | ((with_reducible refine wpList_at 91 rfl ?_); refine wpList_vapp 31 42 2 40 Tryd.underlying31 infoFr3 rfl (by omega) rfl (.tmp 89) (.tmp 90) rfl rfl (Lib.hid FSg.out.1) rfl (Lib.hid FS3.out.1.row) (by have := GL.out; rw [HREM.out, List.length_append] at this; unfold maxLen; omega) (by have := GL.out; rw [HREM.out, List.length_append] at this; omega) ?_; intro p4 g4 c4 w4 N4 hg4; have KT := Lib.hid (KeepT.of_grown FSg.out.1 hg4.out); have T4 := Lib.hid (T3.out.keep (FSg.out.1.under hg4.out (Nat.le_refl _) T3.out.under0.size) KT.out (by decide) (by decide) (by decide)); have FS4 := Lib.hid (FSg.out.app (FS3.out.mono NG.out) KT.out N4.out); have AP4 := Lib.hid (AP3.out.app A3.out))
            | ((with_reducible refine wpList_at 94 rfl ?_); refine wpList_kn rfl (.slice q4 (ys.drop mm).length (d2 - mm)) (by exact exec_sl rfl (S4.out _)) ?_))
            go_roundg (k3 - 1)
            case measure => omega
            case rel => exact ⟨j2 + 1, q4, o2 + mm, d2 - mm, ys.drop mm, p3, g3, c3, r, p4, g4, c4, _, gs ++ fs, rem2, by omega, by go_num, by rw [List.length_drop], by rw [List.length_append], R4, T4, FS4, AP4, HF3, Lib.hid (by rw [HWS.out, HREM.out, List.append_assoc]), Lib.hid (by have := LEN.out; have := YD.out; have := RLE.out; omega)⟩
          · obtain rfl : j2 = n1 := by omega
            have FE := Lib.hid (feed_any T2 R2 (by have := LEN.out; omega) KD)
            have WR := Lib.hid (show VRow 2 D pw gw 0 ws.length cw V from A2.out.row)
            have NG := Lib.hid T2.out.under0.size
            go_wp2_with (first
            | (go_at_call 9; refine FE.out.mono ?_; rintro e w3 ⟨fs, r, er, pf, gf, cf, V3, hF, rfl, FS3x, ⟨p3, g3, c3, T3x, F3, L3, A3x⟩⟩; obtain ⟨e1, e2, e3⟩ := hF.one FDR.out; subst e1 e2 e3; have FSg := Lib.hid (FSG.out.feed T2.out F3 AP.out); have FS3 := Lib.hid FS3x; have T3 := Lib.hid T3x; clear hF FS3x T3x A3x F3 L3 FE)
            | ((with_reducible refine wpList_at 103 rfl ?_); refine wpList_kn rfl (.bool true) (by exact exec_eqE rfl rfl rfl) ?_)
            | ((with_reducible refine wpList_at 107 rfl ?_); refine wpList_vapp 31 42 2 40 Tryd.underlying31 infoFr3 rfl (by omega) rfl (.tmp 105) (.tmp 106) rfl rfl (Lib.hid FSg.out.1) rfl (Lib.hid FS3.out.1.row) (by have := GL.out; unfold maxLen; omega) (by have := GL.out; omega) ?_; intro p4 g4 c4 w4 N4 hg4; have KT := Lib.hid (KeepT.of_grown FSg.out.1 hg4.out); have T4 := Lib.hid (T3.out.keep (FSg.out.1.under hg4.out (Nat.le_refl _) T3.out.under0.size) KT.out (by decide) (by decide) (by decide)); have FS4 := Lib.hid (FSg.out.app (FS3.out.mono NG.out) KT.out N4.out); have SF := Lib.hid (frs_end FS4.out HWS.out (by have := WLEN.out; omega) (wants_in WR.out WT.out BW.out T4.out.under0 (by have := WLEN.out; omega))))
            | (go_at_call 12; refine SF.out.mono ?_; rintro e w5 ⟨rfl, hb5⟩; have T5 := Lib.hid (T4.out.call hb5); have FIN := Lib.hid (BW.out.trans ((T4.out.under0.trans (hb5.mono T4.out.under0.size)).mono BW.out.size)); clear hb5)
            | (go_at_call 13; refine (left_any T5.out).mono ?_; rintro e w6 ⟨rfl, rfl⟩)
            | ((with_reducible refine wpList_at 114 rfl ?_); refine wpList_kn rfl (.bool true) (by exact exec_eqli rfl rfl rfl (decide_eq_true rfl)) ?_))
            go_ret
            exact ⟨rfl, FIN.out⟩
      · have H8 := Lib.hid (show decide ((8 : Int) < (j : Int)) = false from decide_eq_false (by omega))
        have J8 := Lib.hid (show j ≤ 8 by omega)
        have HJ63 := Lib.hid (show j < 9223372036854775808 by omega)
        obtain ⟨m, hm⟩ : ∃ m, m = j % 3 := ⟨_, rfl⟩
        have HMJ := Lib.hid hm
        have HM3 := Lib.hid (show m < 3 by omega)
        obtain ⟨k, hk⟩ : ∃ k, k = min tl0 300 := ⟨_, rfl⟩
        have HK := Lib.hid (show min ((tl0 : Nat) : Int) 300 = ((k : Nat) : Int) by omega)
        have kle : k ≤ ts[j].length := by omega
        obtain ⟨p1, S1, R1⟩ := sl_of0 R k kle
        rw [← htl] at S1
        have S1 := Lib.hid S1
        obtain ⟨pay, hpay⟩ : ∃ pay, pay = ts[j].take k := ⟨_, rfl⟩
        have pl : pay.length = k := by rw [hpay, List.length_take]; omega
        have HPL := Lib.hid (show pay.length ≤ 300 by omega)
        have HPL2 := Lib.hid pl
        obtain ⟨z, hz⟩ : ∃ z, z = 24 + k := ⟨_, rfl⟩
        have HZ := Lib.hid hz
        have HPK := Lib.hid (show k ≤ 300 by omega)
        have HZL := Lib.hid (show (frB (stB (comOf m)) pay).length = z by rw [frB_length (by rw [stB_length]; exact com_size m), pl, hz])
        have HP1 := Lib.hid (show IntKind.i64.wrap ((24 : Int) + (k : Int)) = ((z : Nat) : Int) by rw [IntKind.wrap_i64]; omega)
        have TAP := Lib.hid (show TextAt W (.slice p1 k d) pay from ⟨p1, h, o, d, by rw [pl], by omega, by
          rw [pl, hpay]
          exact R1.to (fun i hi => by
            unfold lf
            simp only [List.getD_eq_getElem?_getD, List.getElem?_take, if_pos hi]) (lf_lt fun x hx => isB_row R x (List.mem_of_mem_take hx))⟩)
        have C9 := Lib.hid (show (arr 2 (fU (comOf m) (.slice p1 k d)))[1]? = some (.slice p1 k d) from rfl)
        clear h8 hv bl R R1 htl hm hk kle hpay pl hz
        go_upto_region 7 with (first
    | ((with_reducible refine wpList_at 26 rfl ?_); refine wpList_ix (k := 1) (j := j) Tryd.underlying22 (by kernel_rfl) (.tmp 21) (.tmp 23) rfl rfl rfl rfl hlt rfl ?_)
    | ((with_reducible refine wpList_at 27 rfl ?_); refine wpList_ld1 26 (.tmp 26) rfl rfl rfl Tryd.underlying26 rfl HV.out ?_)
          | ((with_reducible refine wpList_at 29 rfl ?_); refine wpList_kn rfl (.bool false) (by exact exec_gtri rfl rfl rfl H8.out) ?_))
        try simp only [Act.put, List.getElem_toArray, List.getElem_cons_succ, List.getElem_cons_zero, List.setIfInBounds_toArray, List.set_cons_zero, List.set_cons_succ]
        go_cut [9, 23] from 23 to 64 (fun v9 v23 wc => v23 = .int .i64 ((j : Nat) : Int) ∧ ∃ b9, v9 = .pointer (some ⟨b9, 0, none⟩) ∧ Hid (Mem wr [(b9, 42, (arr 2 (fU (comOf m) (.slice p1 k d))))] wc))
        case first =>
          have E0 := Lib.hid (Mem.nil wr)
          refine wp_region_mem E0 (by kernel_rfl) ?_
          clear E0
          intro wx S0
          have M7 := S0
          refine hm_run 1 31 (.int .i64 (j : Int)) rfl rfl (by kernel_rfl) (by kernel_rfl) (by kernel_rfl) (fun _ _ _ h => h) rfl (fun _ _ => rfl) S0.out ?_
          try simp only [Act.put, List.getElem_toArray, List.getElem_cons_succ, List.getElem_cons_zero, List.setIfInBounds_toArray, List.set_cons_zero, List.set_cons_succ]
          refine hm_run 2 32 (.int .i64 (m : Int)) rfl rfl (by kernel_rfl) (by kernel_rfl) (by kernel_rfl) (fun _ _ _ h => h) rfl (fun _ _ => by rw [HMJ.out]; exact exec_remI (b := 3) rfl rfl rfl (by omega) HJ63.out) S0.out ?_
          try simp only [Act.put, List.getElem_toArray, List.getElem_cons_succ, List.getElem_cons_zero, List.setIfInBounds_toArray, List.set_cons_zero, List.set_cons_succ]
          refine hm_run 5 35 (.slice q tl0 d) rfl rfl (by kernel_rfl) (by kernel_rfl) (by kernel_rfl) (fun _ _ _ h => h) rfl (fun _ _ => rfl) S0.out ?_
          try simp only [Act.put, List.getElem_toArray, List.getElem_cons_succ, List.getElem_cons_zero, List.setIfInBounds_toArray, List.set_cons_zero, List.set_cons_succ]
          refine hm_run 6 36 (.slice q tl0 d) rfl rfl (by kernel_rfl) (by kernel_rfl) (by kernel_rfl) (fun _ _ _ h => h) rfl (fun _ _ => rfl) S0.out ?_
          try simp only [Act.put, List.getElem_toArray, List.getElem_cons_succ, List.getElem_cons_zero, List.setIfInBounds_toArray, List.set_cons_zero, List.set_cons_succ]
          refine hm_run 7 37 (.int .i64 ((tl0 : Nat) : Int)) rfl rfl (by kernel_rfl) (by kernel_rfl) (by kernel_rfl) (fun _ _ _ h => h) rfl (fun _ _ => exec_len Tryd.underlying26 rfl rfl) S0.out ?_
          try simp only [Act.put, List.getElem_toArray, List.getElem_cons_succ, List.getElem_cons_zero, List.setIfInBounds_toArray, List.set_cons_zero, List.set_cons_succ]
          refine hm_run 8 38 (.int .i64 (k : Int)) rfl rfl (by kernel_rfl) (by kernel_rfl) (by kernel_rfl) (fun _ _ _ h => h) rfl (fun _ _ => exec_min rfl rfl rfl rfl HK.out) S0.out ?_
          try simp only [Act.put, List.getElem_toArray, List.getElem_cons_succ, List.getElem_cons_zero, List.setIfInBounds_toArray, List.set_cons_zero, List.set_cons_succ]
          refine hm_run 9 39 (.slice p1 k d) rfl rfl (by kernel_rfl) (by kernel_rfl) (by kernel_rfl) (fun _ _ _ h => h) rfl (fun _ _ => exec_sl rfl (S1.out _)) S0.out ?_
          try simp only [Act.put, List.getElem_toArray, List.getElem_cons_succ, List.getElem_cons_zero, List.setIfInBounds_toArray, List.set_cons_zero, List.set_cons_succ]
          refine hm_two (i := 0) (j := 11) (by kernel_rfl) ?_ ?_
          · refine hm_step 0 rfl (by kernel_rfl) fun K hK => ?_
            try simp only [Act.put, List.getElem_toArray, List.getElem_cons_succ, List.getElem_cons_zero, List.setIfInBounds_toArray, List.set_cons_zero, List.set_cons_succ]
            refine mo_bs3 M7 rfl (by kernel_rfl) ?_
            clear M7
            intro b0 w0x M7
            have S0_7 := Lib.hid (Mem.nilB M7.out.below)
            refine hK _ _ S0_7.out ?_
            clear hK K
            try simp only [Act.put, List.getElem_toArray, List.getElem_cons_succ, List.getElem_cons_zero, List.setIfInBounds_toArray, List.set_cons_zero, List.set_cons_succ]
            refine hm_run 3 33 (.pointer (some ⟨b0, 0 + m * 1, none⟩)) rfl rfl (by kernel_rfl) (by kernel_rfl) (by kernel_rfl) (fun _ _ _ h => h) rfl (fun W _ => exec_ix rfl (by exact run_ix Tryd.underlying40 (by kernel_rfl) HM3.out rfl W)) S0_7.out ?_
            try simp only [Act.put, List.getElem_toArray, List.getElem_cons_succ, List.getElem_cons_zero, List.setIfInBounds_toArray, List.set_cons_zero, List.set_cons_succ]
            refine hm_two (i := 4) (j := 11) (by kernel_rfl) ?_ ?_
            · refine hm_step 4 rfl (by kernel_rfl) fun K hK => ?_
              try simp only [Act.put, List.getElem_toArray, List.getElem_cons_succ, List.getElem_cons_zero, List.setIfInBounds_toArray, List.set_cons_zero, List.set_cons_succ]
              refine mo_load_cell M7 9 (.tmp 33) rfl rfl (by first | exact List.mem_cons_self | exact List.mem_cons_of_mem _ List.mem_cons_self) Tryd.underlying9 rfl (com_cell HM3.out) ?_
              have S4_9 := S0_7
              refine hK _ _ S4_9.out ?_
              clear hK K
              try simp only [Act.put, List.getElem_toArray, List.getElem_cons_succ, List.getElem_cons_zero, List.setIfInBounds_toArray, List.set_cons_zero, List.set_cons_succ]
              refine hm_run 10 40 (.agg (frV (comOf m) (.slice p1 k d))) rfl rfl (by kernel_rfl) (by kernel_rfl) (by kernel_rfl) (fun _ _ _ h => h) rfl (fun _ _ => exec_build rfl (ps := #[(0, .string (comOf m)), (1, .slice p1 k d)]) (by kernel_rfl) (built_frv _ _ _ _)) S4_9.out ?_
              try simp only [Act.put, List.getElem_toArray, List.getElem_cons_succ, List.getElem_cons_zero, List.setIfInBounds_toArray, List.set_cons_zero, List.set_cons_succ]
              refine hm_one (i := 11) (by kernel_rfl) ?_
              refine hm_step 11 rfl (by kernel_rfl) fun K hK => ?_
              try simp only [Act.put, List.getElem_toArray, List.getElem_cons_succ, List.getElem_cons_zero, List.setIfInBounds_toArray, List.set_cons_zero, List.set_cons_succ]
              refine mo_alloc M7 42 rfl infoFr ?_
              clear M7
              intro b9 w9x M7
              have S11_11 := Lib.hid (Mem.nilB M7.out.below)
              refine hK _ _ S11_11.out ?_
              clear hK K
              try simp only [Act.put, List.getElem_toArray, List.getElem_cons_succ, List.getElem_cons_zero, List.setIfInBounds_toArray, List.set_cons_zero, List.set_cons_succ]
              refine hm_one (i := 12) (by kernel_rfl) ?_
              refine hm_step 12 rfl (by kernel_rfl) fun K hK => ?_
              try simp only [Act.put, List.getElem_toArray, List.getElem_cons_succ, List.getElem_cons_zero, List.setIfInBounds_toArray, List.set_cons_zero, List.set_cons_succ]
              first | refine mo_store_row 0 M7 42 (.tmp 9) (.tmp 40) rfl rfl rfl rfl (by kernel_rfl) rfl (frV_one _ _ _ _) ?_ | refine mo_store_row 1 M7 42 (.tmp 9) (.tmp 40) rfl rfl rfl rfl (by kernel_rfl) rfl (frV_one _ _ _ _) ?_
              clear M7
              intro w12x M7
              have S12_12 := Lib.hid (Mem.nilB M7.out.below)
              refine hK _ _ S12_12.out ?_
              clear hK K
              try simp only [Act.put, List.getElem_toArray, List.getElem_cons_succ, List.getElem_cons_zero, List.setIfInBounds_toArray, List.set_cons_zero, List.set_cons_succ]
              refine wpAnyH_done (by kernel_rfl) ?_ _
              have E7 := Lib.hid (show Mem wr [(b9, 42, (arr 2 (fU (comOf m) (.slice p1 k d))))] _ from M7.out.sub (by first | exact List.Sublist.cons_cons _ (List.nil_sublist _) | exact List.Sublist.cons _ (List.Sublist.refl _)))
              go_wp2_with fail
              go_meet
              case rel => exact ⟨rfl, b9, rfl, E7⟩
            · refine hm_step 11 rfl (by kernel_rfl) fun K hK => ?_
              try simp only [Act.put, List.getElem_toArray, List.getElem_cons_succ, List.getElem_cons_zero, List.setIfInBounds_toArray, List.set_cons_zero, List.set_cons_succ]
              refine mo_alloc M7 42 rfl infoFr ?_
              clear M7
              intro b9 w9x M7
              have S11_9 := Lib.hid (Mem.nilB M7.out.below)
              refine hK _ _ S11_9.out ?_
              clear hK K
              try simp only [Act.put, List.getElem_toArray, List.getElem_cons_succ, List.getElem_cons_zero, List.setIfInBounds_toArray, List.set_cons_zero, List.set_cons_succ]
              refine hm_one (i := 4) (by kernel_rfl) ?_
              refine hm_step 4 rfl (by kernel_rfl) fun K hK => ?_
              try simp only [Act.put, List.getElem_toArray, List.getElem_cons_succ, List.getElem_cons_zero, List.setIfInBounds_toArray, List.set_cons_zero, List.set_cons_succ]
              refine mo_load_cell M7 9 (.tmp 33) rfl rfl (by first | exact List.mem_cons_self | exact List.mem_cons_of_mem _ List.mem_cons_self) Tryd.underlying9 rfl (com_cell HM3.out) ?_
              have S4_10 := S11_9
              refine hK _ _ S4_10.out ?_
              clear hK K
              try simp only [Act.put, List.getElem_toArray, List.getElem_cons_succ, List.getElem_cons_zero, List.setIfInBounds_toArray, List.set_cons_zero, List.set_cons_succ]
              refine hm_run 10 40 (.agg (frV (comOf m) (.slice p1 k d))) rfl rfl (by kernel_rfl) (by kernel_rfl) (by kernel_rfl) (fun _ _ _ h => h) rfl (fun _ _ => exec_build rfl (ps := #[(0, .string (comOf m)), (1, .slice p1 k d)]) (by kernel_rfl) (built_frv _ _ _ _)) S4_10.out ?_
              try simp only [Act.put, List.getElem_toArray, List.getElem_cons_succ, List.getElem_cons_zero, List.setIfInBounds_toArray, List.set_cons_zero, List.set_cons_succ]
              refine hm_one (i := 12) (by kernel_rfl) ?_
              refine hm_step 12 rfl (by kernel_rfl) fun K hK => ?_
              try simp only [Act.put, List.getElem_toArray, List.getElem_cons_succ, List.getElem_cons_zero, List.setIfInBounds_toArray, List.set_cons_zero, List.set_cons_succ]
              first | refine mo_store_row 0 M7 42 (.tmp 9) (.tmp 40) rfl rfl rfl rfl (by kernel_rfl) rfl (frV_one _ _ _ _) ?_ | refine mo_store_row 1 M7 42 (.tmp 9) (.tmp 40) rfl rfl rfl rfl (by kernel_rfl) rfl (frV_one _ _ _ _) ?_
              clear M7
              intro w12x M7
              have S12_12 := Lib.hid (Mem.nilB M7.out.below)
              refine hK _ _ S12_12.out ?_
              clear hK K
              try simp only [Act.put, List.getElem_toArray, List.getElem_cons_succ, List.getElem_cons_zero, List.setIfInBounds_toArray, List.set_cons_zero, List.set_cons_succ]
              refine wpAnyH_done (by kernel_rfl) ?_ _
              have E7 := Lib.hid (show Mem wr [(b9, 42, (arr 2 (fU (comOf m) (.slice p1 k d))))] _ from M7.out.sub (by first | exact List.Sublist.cons_cons _ (List.nil_sublist _) | exact List.Sublist.cons _ (List.Sublist.refl _)))
              go_wp2_with fail
              go_meet
              case rel => exact ⟨rfl, b9, rfl, E7⟩
          · refine hm_step 11 rfl (by kernel_rfl) fun K hK => ?_
            try simp only [Act.put, List.getElem_toArray, List.getElem_cons_succ, List.getElem_cons_zero, List.setIfInBounds_toArray, List.set_cons_zero, List.set_cons_succ]
            refine mo_alloc M7 42 rfl infoFr ?_
            clear M7
            intro b9 w9x M7
            have S11_7 := Lib.hid (Mem.nilB M7.out.below)
            refine hK _ _ S11_7.out ?_
            clear hK K
            try simp only [Act.put, List.getElem_toArray, List.getElem_cons_succ, List.getElem_cons_zero, List.setIfInBounds_toArray, List.set_cons_zero, List.set_cons_succ]
            refine hm_one (i := 0) (by kernel_rfl) ?_
            refine hm_step 0 rfl (by kernel_rfl) fun K hK => ?_
            try simp only [Act.put, List.getElem_toArray, List.getElem_cons_succ, List.getElem_cons_zero, List.setIfInBounds_toArray, List.set_cons_zero, List.set_cons_succ]
            refine mo_bs3 M7 rfl (by kernel_rfl) ?_
            clear M7
            intro b0 w0x M7
            have S0_8 := Lib.hid (Mem.nilB M7.out.below)
            refine hK _ _ S0_8.out ?_
            clear hK K
            try simp only [Act.put, List.getElem_toArray, List.getElem_cons_succ, List.getElem_cons_zero, List.setIfInBounds_toArray, List.set_cons_zero, List.set_cons_succ]
            refine hm_run 3 33 (.pointer (some ⟨b0, 0 + m * 1, none⟩)) rfl rfl (by kernel_rfl) (by kernel_rfl) (by kernel_rfl) (fun _ _ _ h => h) rfl (fun W _ => exec_ix rfl (by exact run_ix Tryd.underlying40 (by kernel_rfl) HM3.out rfl W)) S0_8.out ?_
            try simp only [Act.put, List.getElem_toArray, List.getElem_cons_succ, List.getElem_cons_zero, List.setIfInBounds_toArray, List.set_cons_zero, List.set_cons_succ]
            refine hm_one (i := 4) (by kernel_rfl) ?_
            refine hm_step 4 rfl (by kernel_rfl) fun K hK => ?_
            try simp only [Act.put, List.getElem_toArray, List.getElem_cons_succ, List.getElem_cons_zero, List.setIfInBounds_toArray, List.set_cons_zero, List.set_cons_succ]
            refine mo_load_cell M7 9 (.tmp 33) rfl rfl (by first | exact List.mem_cons_self | exact List.mem_cons_of_mem _ List.mem_cons_self) Tryd.underlying9 rfl (com_cell HM3.out) ?_
            have S4_10 := S0_8
            refine hK _ _ S4_10.out ?_
            clear hK K
            try simp only [Act.put, List.getElem_toArray, List.getElem_cons_succ, List.getElem_cons_zero, List.setIfInBounds_toArray, List.set_cons_zero, List.set_cons_succ]
            refine hm_run 10 40 (.agg (frV (comOf m) (.slice p1 k d))) rfl rfl (by kernel_rfl) (by kernel_rfl) (by kernel_rfl) (fun _ _ _ h => h) rfl (fun _ _ => exec_build rfl (ps := #[(0, .string (comOf m)), (1, .slice p1 k d)]) (by kernel_rfl) (built_frv _ _ _ _)) S4_10.out ?_
            try simp only [Act.put, List.getElem_toArray, List.getElem_cons_succ, List.getElem_cons_zero, List.setIfInBounds_toArray, List.set_cons_zero, List.set_cons_succ]
            refine hm_one (i := 12) (by kernel_rfl) ?_
            refine hm_step 12 rfl (by kernel_rfl) fun K hK => ?_
            try simp only [Act.put, List.getElem_toArray, List.getElem_cons_succ, List.getElem_cons_zero, List.setIfInBounds_toArray, List.set_cons_zero, List.set_cons_succ]
            first | refine mo_store_row 0 M7 42 (.tmp 9) (.tmp 40) rfl rfl rfl rfl (by kernel_rfl) rfl (frV_one _ _ _ _) ?_ | refine mo_store_row 1 M7 42 (.tmp 9) (.tmp 40) rfl rfl rfl rfl (by kernel_rfl) rfl (frV_one _ _ _ _) ?_
            clear M7
            intro w12x M7
            have S12_12 := Lib.hid (Mem.nilB M7.out.below)
            refine hK _ _ S12_12.out ?_
            clear hK K
            try simp only [Act.put, List.getElem_toArray, List.getElem_cons_succ, List.getElem_cons_zero, List.setIfInBounds_toArray, List.set_cons_zero, List.set_cons_succ]
            refine wpAnyH_done (by kernel_rfl) ?_ _
            have E7 := Lib.hid (show Mem wr [(b9, 42, (arr 2 (fU (comOf m) (.slice p1 k d))))] _ from M7.out.sub (by first | exact List.Sublist.cons_cons _ (List.nil_sublist _) | exact List.Sublist.cons _ (List.Sublist.refl _)))
            go_wp2_with fail
            go_meet
            case rel => exact ⟨rfl, b9, rfl, E7⟩
        case rest =>
          obtain ⟨rfl, b9, rfl, E7⟩ := hcut
          clear HJ63 HMJ HK S1 HV H8
          have TAP9 := Lib.hid (TAP.out.below BW.out)
          have FR := Lib.hid (fun w (h : Below wr.heap.size wr w) => frenc_com (W := w) (m := m) (v := .slice p1 k d) (t := pay) (Lib.hid (TAP9.out.below h)) (by have := HPL.out; omega) (Lib.hid ((KL.out.below BW.out).below h)))
          rw [HPL2.out, HZ.out.symm] at FR
          go_upto_region 11 with (first
    | ((with_reducible refine wpList_at 42 rfl ?_); refine mem_load_row E7 42 rfl (.tmp 9) rfl rfl List.mem_cons_self Tryd.underlying42 rfl (by rw [arr_size]; kernel_rfl) ?_)
    | (go_at_call 15; refine (FR.out _ E7.out.below).mono ?_; rintro e w12 ⟨p10, g10, c10, rfl, N10x, hb10⟩; have N10 := Lib.hid N10x; have E8 := Lib.hid (E7.out.call hb10); clear N10x hb10 E7)
    | ((with_reducible refine wpList_at 52 rfl ?_); refine mem_load_cell E8 26 rfl (.tmp 51) rfl rfl List.mem_cons_self Tryd.underlying26 rfl C9.out ?_)
    | ((with_reducible refine wpList_at 54 rfl ?_); refine wpList_kn rfl (.int .i64 (z : Int)) (by exact exec_add rfl rfl rfl HP1.out) ?_)
    | ((with_reducible refine wpList_at 55 rfl ?_); refine wpList_kn rfl (.bool false) (by exact exec_neqi rfl rfl rfl (decide_eq_true rfl)) ?_))
          have E9 := Lib.hid (Mem.base E8.out BW.out)
          have BWE := Lib.hid E9.out.below
          replace A1 := Lib.hid (A1.out.below E8.out.below)
          replace A2 := Lib.hid (A2.out.below E8.out.below)
          clear E8 FR C9 TAP9 HP1
          refine wp_region_T (Φ := fun X => Below w12.heap.size w12 X) (S := fun X => Mem W [] X) (Lib.hid (Below.refl _ _)) (fun _ h => h.drew) (fun _ h => Mem.nilB (BWE.out.trans (h.mono BWE.out.size))) (by kernel_rfl) ?_
          intro wx bx S0
          replace A1 := Lib.hid (A1.out.below bx.out)
          replace A2 := Lib.hid (A2.out.below bx.out)
          replace N10 := Lib.hid (N10.out.below bx.out)
          replace E9 := Lib.hid (E9.out.call bx.out)
          clear bx
          refine hm_run 0 57 (.slice pa xs.length ca) rfl rfl (by kernel_rfl) (by kernel_rfl) (by kernel_rfl) (fun _ _ _ h => h) rfl (fun _ _ => rfl) S0.out ?_
          try simp only [Act.put, List.getElem_toArray, List.getElem_cons_succ, List.getElem_cons_zero, List.setIfInBounds_toArray, List.set_cons_zero, List.set_cons_succ]
          refine hm_run 1 58 (.slice p10 z c10) rfl rfl (by kernel_rfl) (by kernel_rfl) (by kernel_rfl) (fun _ _ _ h => h) rfl (fun _ _ => rfl) S0.out ?_
          try simp only [Act.put, List.getElem_toArray, List.getElem_cons_succ, List.getElem_cons_zero, List.setIfInBounds_toArray, List.set_cons_zero, List.set_cons_succ]
          refine hm_run 3 60 (.slice pw ws.length cw) rfl rfl (by kernel_rfl) (by kernel_rfl) (by kernel_rfl) (fun _ _ _ h => h) rfl (fun _ _ => rfl) S0.out ?_
          try simp only [Act.put, List.getElem_toArray, List.getElem_cons_succ, List.getElem_cons_zero, List.setIfInBounds_toArray, List.set_cons_zero, List.set_cons_succ]
          refine hm_two (i := 2) (j := 4) (by kernel_rfl) ?_ ?_
          · refine hm_step 2 rfl (by kernel_rfl) fun K hK => ?_
            try simp only [Act.put, List.getElem_toArray, List.getElem_cons_succ, List.getElem_cons_zero, List.setIfInBounds_toArray, List.set_cons_zero, List.set_cons_succ]
            refine mo_appk (.tmp 57) (.tmp 58) rfl rfl A1 rfl (Lib.hid N10.out.row) (by have := LB.out; have := HZ.out; have := HPK.out; omega) ?_
            intro p11 g11 c11 w11 A3 hb11 kp11
            replace A2 := Lib.hid (A2.out.keep ⟨fun q cc T' hT hq => kp11.out q cc T' hT hq, hb11.out.size⟩ (by decide))
            try replace N13 := Lib.hid (N13.out.keep ⟨fun q cc T' hT hq => kp11.out q cc T' hT hq, hb11.out.size⟩ (by decide))
            replace E9 := Lib.hid (E9.out.keeps (fun q hq => by obtain rfl := List.mem_singleton.1 hq; show 42 ≠ 5; decide) hb11.out kp11.out)
            have S2_3 := Lib.hid (Mem.nilB (S0.out.below.trans hb11.out))
            refine hK _ _ S2_3.out ?_
            clear hK K
            try simp only [Act.put, List.getElem_toArray, List.getElem_cons_succ, List.getElem_cons_zero, List.setIfInBounds_toArray, List.set_cons_zero, List.set_cons_succ]
            refine hm_one (i := 4) (by kernel_rfl) ?_
            refine hm_step 4 rfl (by kernel_rfl) fun K hK => ?_
            try simp only [Act.put, List.getElem_toArray, List.getElem_cons_succ, List.getElem_cons_zero, List.setIfInBounds_toArray, List.set_cons_zero, List.set_cons_succ]
            refine mo_load_row E9 42 (.tmp 9) rfl rfl List.mem_cons_self Tryd.underlying42 rfl (by rw [arr_size]; kernel_rfl) ?_
            have S4_4 := S2_3
            refine hK _ _ S4_4.out ?_
            clear hK K
            try simp only [Act.put, List.getElem_toArray, List.getElem_cons_succ, List.getElem_cons_zero, List.setIfInBounds_toArray, List.set_cons_zero, List.set_cons_succ]
            refine hm_one (i := 5) (by kernel_rfl) ?_
            refine hm_step 5 rfl (by kernel_rfl) fun K hK => ?_
            try simp only [Act.put, List.getElem_toArray, List.getElem_cons_succ, List.getElem_cons_zero, List.setIfInBounds_toArray, List.set_cons_zero, List.set_cons_succ]
            refine mo_vbs 31 42 2 1 _ rfl (fU (comOf m) (.slice p1 k d)) (one_arr (fU_one _ _ _ _)) (by unfold maxLen; omega) (ps := #[(0, .agg (arr 2 (fU (comOf m) (.slice p1 k d))))]) (by kernel_rfl) (fun W => run_bs1 Tryd.underlying31 infoFr3 (by omega) (by omega) _ (arr_size _ _) W) (arr_vs _ _) ?_
            intro p13 g13 w13 N13 hb13
            try replace A1 := Lib.hid (A1.out.below hb13.out)
            try replace A3 := Lib.hid (A3.out.below hb13.out)
            replace A2 := Lib.hid (A2.out.below hb13.out)
            try replace N10 := Lib.hid (N10.out.below hb13.out)
            replace E9 := Lib.hid (E9.out.call hb13.out)
            have S5_5 := Lib.hid (Mem.nilB (S4_4.out.below.trans (hb13.out.mono S4_4.out.below.size)))
            refine hK _ _ S5_5.out ?_
            clear hK K
            try simp only [Act.put, List.getElem_toArray, List.getElem_cons_succ, List.getElem_cons_zero, List.setIfInBounds_toArray, List.set_cons_zero, List.set_cons_succ]
            refine hm_one (i := 6) (by kernel_rfl) ?_
            refine hm_step 6 rfl (by kernel_rfl) fun K hK => ?_
            try simp only [Act.put, List.getElem_toArray, List.getElem_cons_succ, List.getElem_cons_zero, List.setIfInBounds_toArray, List.set_cons_zero, List.set_cons_succ]
            refine mo_vapp 31 42 2 40 Tryd.underlying31 infoFr3 rfl (by omega) (.tmp 60) (.tmp 62) rfl rfl A2 rfl (Lib.hid N13.out.row) (by have := LB.out; unfold maxLen; omega) (by have := LB.out; omega) ?_
            intro p14 g14 c14 w14 N14 hg14
            have KT := Lib.hid (KeepT.of_grown A2.out hg14.out)
            replace A3 := Lib.hid (ownK2 A3.out KT.out (by decide))
            have BW2 := Lib.hid (S5_5.out.below.trans (A2.out.under hg14.out (Nat.le_refl _) S5_5.out.below.size))
            have S6_6 := Lib.hid (Mem.nilB BW2.out)
            refine hK _ _ S6_6.out ?_
            clear hK K
            try simp only [Act.put, List.getElem_toArray, List.getElem_cons_succ, List.getElem_cons_zero, List.setIfInBounds_toArray, List.set_cons_zero, List.set_cons_succ]
            refine hm_run 7 5 (.slice p11 (xs.length + z) c11) rfl rfl (by kernel_rfl) (by kernel_rfl) (by kernel_rfl) (fun _ _ _ h => h) rfl (fun _ _ => rfl) S6_6.out ?_
            try simp only [Act.put, List.getElem_toArray, List.getElem_cons_succ, List.getElem_cons_zero, List.setIfInBounds_toArray, List.set_cons_zero, List.set_cons_succ]
            refine hm_run 8 6 (.slice p14 (ws.length + 1) c14) rfl rfl (by kernel_rfl) (by kernel_rfl) (by kernel_rfl) (fun _ _ _ h => h) rfl (fun _ _ => rfl) S6_6.out ?_
            try simp only [Act.put, List.getElem_toArray, List.getElem_cons_succ, List.getElem_cons_zero, List.setIfInBounds_toArray, List.set_cons_zero, List.set_cons_succ]
            refine wpAnyH_done (by kernel_rfl) ?_ _
            go_wp2_with fail
            go_roundg (kk - 1)
            case measure => omega
            case rel => exact ⟨j + 1, xs ++ frB (stB (comOf m)) pay, ws ++ [(comOf m, pay)], p11, g11, c11, p14, g14, c14, _, by omega, by go_num, by rw [(xs_len HZL.out).symm], by rw [List.length_append, List.length_singleton], Lib.hid (own_more A3.out HZL.out), Lib.hid (by rw [List.length_append, List.length_singleton]; exact N14.out), Lib.hid (wants_more WT.out TAP.out), Lib.hid (FD.out.snoc m (by have := HPL.out; omega)), Lib.hid (by have := LB.out; have := J8.out; have := HPK.out; have := HZL.out; have := HZ.out; rw [List.length_append, List.length_append, List.length_singleton]; omega), BW2⟩
          · refine hm_step 4 rfl (by kernel_rfl) fun K hK => ?_
            try simp only [Act.put, List.getElem_toArray, List.getElem_cons_succ, List.getElem_cons_zero, List.setIfInBounds_toArray, List.set_cons_zero, List.set_cons_succ]
            refine mo_load_row E9 42 (.tmp 9) rfl rfl List.mem_cons_self Tryd.underlying42 rfl (by rw [arr_size]; kernel_rfl) ?_
            have S4_3 := S0
            refine hK _ _ S4_3.out ?_
            clear hK K
            try simp only [Act.put, List.getElem_toArray, List.getElem_cons_succ, List.getElem_cons_zero, List.setIfInBounds_toArray, List.set_cons_zero, List.set_cons_succ]
            refine hm_two (i := 2) (j := 5) (by kernel_rfl) ?_ ?_
            · refine hm_step 2 rfl (by kernel_rfl) fun K hK => ?_
              try simp only [Act.put, List.getElem_toArray, List.getElem_cons_succ, List.getElem_cons_zero, List.setIfInBounds_toArray, List.set_cons_zero, List.set_cons_succ]
              refine mo_appk (.tmp 57) (.tmp 58) rfl rfl A1 rfl (Lib.hid N10.out.row) (by have := LB.out; have := HZ.out; have := HPK.out; omega) ?_
              intro p11 g11 c11 w11 A3 hb11 kp11
              replace A2 := Lib.hid (A2.out.keep ⟨fun q cc T' hT hq => kp11.out q cc T' hT hq, hb11.out.size⟩ (by decide))
              try replace N13 := Lib.hid (N13.out.keep ⟨fun q cc T' hT hq => kp11.out q cc T' hT hq, hb11.out.size⟩ (by decide))
              replace E9 := Lib.hid (E9.out.keeps (fun q hq => by obtain rfl := List.mem_singleton.1 hq; show 42 ≠ 5; decide) hb11.out kp11.out)
              have S2_4 := Lib.hid (Mem.nilB (S4_3.out.below.trans hb11.out))
              refine hK _ _ S2_4.out ?_
              clear hK K
              try simp only [Act.put, List.getElem_toArray, List.getElem_cons_succ, List.getElem_cons_zero, List.setIfInBounds_toArray, List.set_cons_zero, List.set_cons_succ]
              refine hm_one (i := 5) (by kernel_rfl) ?_
              refine hm_step 5 rfl (by kernel_rfl) fun K hK => ?_
              try simp only [Act.put, List.getElem_toArray, List.getElem_cons_succ, List.getElem_cons_zero, List.setIfInBounds_toArray, List.set_cons_zero, List.set_cons_succ]
              refine mo_vbs 31 42 2 1 _ rfl (fU (comOf m) (.slice p1 k d)) (one_arr (fU_one _ _ _ _)) (by unfold maxLen; omega) (ps := #[(0, .agg (arr 2 (fU (comOf m) (.slice p1 k d))))]) (by kernel_rfl) (fun W => run_bs1 Tryd.underlying31 infoFr3 (by omega) (by omega) _ (arr_size _ _) W) (arr_vs _ _) ?_
              intro p13 g13 w13 N13 hb13
              try replace A1 := Lib.hid (A1.out.below hb13.out)
              try replace A3 := Lib.hid (A3.out.below hb13.out)
              replace A2 := Lib.hid (A2.out.below hb13.out)
              try replace N10 := Lib.hid (N10.out.below hb13.out)
              replace E9 := Lib.hid (E9.out.call hb13.out)
              have S5_5 := Lib.hid (Mem.nilB (S2_4.out.below.trans (hb13.out.mono S2_4.out.below.size)))
              refine hK _ _ S5_5.out ?_
              clear hK K
              try simp only [Act.put, List.getElem_toArray, List.getElem_cons_succ, List.getElem_cons_zero, List.setIfInBounds_toArray, List.set_cons_zero, List.set_cons_succ]
              refine hm_one (i := 6) (by kernel_rfl) ?_
              refine hm_step 6 rfl (by kernel_rfl) fun K hK => ?_
              try simp only [Act.put, List.getElem_toArray, List.getElem_cons_succ, List.getElem_cons_zero, List.setIfInBounds_toArray, List.set_cons_zero, List.set_cons_succ]
              refine mo_vapp 31 42 2 40 Tryd.underlying31 infoFr3 rfl (by omega) (.tmp 60) (.tmp 62) rfl rfl A2 rfl (Lib.hid N13.out.row) (by have := LB.out; unfold maxLen; omega) (by have := LB.out; omega) ?_
              intro p14 g14 c14 w14 N14 hg14
              have KT := Lib.hid (KeepT.of_grown A2.out hg14.out)
              replace A3 := Lib.hid (ownK2 A3.out KT.out (by decide))
              have BW2 := Lib.hid (S5_5.out.below.trans (A2.out.under hg14.out (Nat.le_refl _) S5_5.out.below.size))
              have S6_6 := Lib.hid (Mem.nilB BW2.out)
              refine hK _ _ S6_6.out ?_
              clear hK K
              try simp only [Act.put, List.getElem_toArray, List.getElem_cons_succ, List.getElem_cons_zero, List.setIfInBounds_toArray, List.set_cons_zero, List.set_cons_succ]
              refine hm_run 7 5 (.slice p11 (xs.length + z) c11) rfl rfl (by kernel_rfl) (by kernel_rfl) (by kernel_rfl) (fun _ _ _ h => h) rfl (fun _ _ => rfl) S6_6.out ?_
              try simp only [Act.put, List.getElem_toArray, List.getElem_cons_succ, List.getElem_cons_zero, List.setIfInBounds_toArray, List.set_cons_zero, List.set_cons_succ]
              refine hm_run 8 6 (.slice p14 (ws.length + 1) c14) rfl rfl (by kernel_rfl) (by kernel_rfl) (by kernel_rfl) (fun _ _ _ h => h) rfl (fun _ _ => rfl) S6_6.out ?_
              try simp only [Act.put, List.getElem_toArray, List.getElem_cons_succ, List.getElem_cons_zero, List.setIfInBounds_toArray, List.set_cons_zero, List.set_cons_succ]
              refine wpAnyH_done (by kernel_rfl) ?_ _
              go_wp2_with fail
              go_roundg (kk - 1)
              case measure => omega
              case rel => exact ⟨j + 1, xs ++ frB (stB (comOf m)) pay, ws ++ [(comOf m, pay)], p11, g11, c11, p14, g14, c14, _, by omega, by go_num, by rw [(xs_len HZL.out).symm], by rw [List.length_append, List.length_singleton], Lib.hid (own_more A3.out HZL.out), Lib.hid (by rw [List.length_append, List.length_singleton]; exact N14.out), Lib.hid (wants_more WT.out TAP.out), Lib.hid (FD.out.snoc m (by have := HPL.out; omega)), Lib.hid (by have := LB.out; have := J8.out; have := HPK.out; have := HZL.out; have := HZ.out; rw [List.length_append, List.length_append, List.length_singleton]; omega), BW2⟩
            · refine hm_step 5 rfl (by kernel_rfl) fun K hK => ?_
              try simp only [Act.put, List.getElem_toArray, List.getElem_cons_succ, List.getElem_cons_zero, List.setIfInBounds_toArray, List.set_cons_zero, List.set_cons_succ]
              refine mo_vbs 31 42 2 1 _ rfl (fU (comOf m) (.slice p1 k d)) (one_arr (fU_one _ _ _ _)) (by unfold maxLen; omega) (ps := #[(0, .agg (arr 2 (fU (comOf m) (.slice p1 k d))))]) (by kernel_rfl) (fun W => run_bs1 Tryd.underlying31 infoFr3 (by omega) (by omega) _ (arr_size _ _) W) (arr_vs _ _) ?_
              intro p13 g13 w13 N13 hb13
              try replace A1 := Lib.hid (A1.out.below hb13.out)
              try replace A3 := Lib.hid (A3.out.below hb13.out)
              replace A2 := Lib.hid (A2.out.below hb13.out)
              try replace N10 := Lib.hid (N10.out.below hb13.out)
              replace E9 := Lib.hid (E9.out.call hb13.out)
              have S5_4 := Lib.hid (Mem.nilB (S4_3.out.below.trans (hb13.out.mono S4_3.out.below.size)))
              refine hK _ _ S5_4.out ?_
              clear hK K
              try simp only [Act.put, List.getElem_toArray, List.getElem_cons_succ, List.getElem_cons_zero, List.setIfInBounds_toArray, List.set_cons_zero, List.set_cons_succ]
              refine hm_one (i := 2) (by kernel_rfl) ?_
              refine hm_step 2 rfl (by kernel_rfl) fun K hK => ?_
              try simp only [Act.put, List.getElem_toArray, List.getElem_cons_succ, List.getElem_cons_zero, List.setIfInBounds_toArray, List.set_cons_zero, List.set_cons_succ]
              refine mo_appk (.tmp 57) (.tmp 58) rfl rfl A1 rfl (Lib.hid N10.out.row) (by have := LB.out; have := HZ.out; have := HPK.out; omega) ?_
              intro p11 g11 c11 w11 A3 hb11 kp11
              replace A2 := Lib.hid (A2.out.keep ⟨fun q cc T' hT hq => kp11.out q cc T' hT hq, hb11.out.size⟩ (by decide))
              try replace N13 := Lib.hid (N13.out.keep ⟨fun q cc T' hT hq => kp11.out q cc T' hT hq, hb11.out.size⟩ (by decide))
              replace E9 := Lib.hid (E9.out.keeps (fun q hq => by obtain rfl := List.mem_singleton.1 hq; show 42 ≠ 5; decide) hb11.out kp11.out)
              have S2_5 := Lib.hid (Mem.nilB (S5_4.out.below.trans hb11.out))
              refine hK _ _ S2_5.out ?_
              clear hK K
              try simp only [Act.put, List.getElem_toArray, List.getElem_cons_succ, List.getElem_cons_zero, List.setIfInBounds_toArray, List.set_cons_zero, List.set_cons_succ]
              refine hm_one (i := 6) (by kernel_rfl) ?_
              refine hm_step 6 rfl (by kernel_rfl) fun K hK => ?_
              try simp only [Act.put, List.getElem_toArray, List.getElem_cons_succ, List.getElem_cons_zero, List.setIfInBounds_toArray, List.set_cons_zero, List.set_cons_succ]
              refine mo_vapp 31 42 2 40 Tryd.underlying31 infoFr3 rfl (by omega) (.tmp 60) (.tmp 62) rfl rfl A2 rfl (Lib.hid N13.out.row) (by have := LB.out; unfold maxLen; omega) (by have := LB.out; omega) ?_
              intro p14 g14 c14 w14 N14 hg14
              have KT := Lib.hid (KeepT.of_grown A2.out hg14.out)
              replace A3 := Lib.hid (ownK2 A3.out KT.out (by decide))
              have BW2 := Lib.hid (S2_5.out.below.trans (A2.out.under hg14.out (Nat.le_refl _) S2_5.out.below.size))
              have S6_6 := Lib.hid (Mem.nilB BW2.out)
              refine hK _ _ S6_6.out ?_
              clear hK K
              try simp only [Act.put, List.getElem_toArray, List.getElem_cons_succ, List.getElem_cons_zero, List.setIfInBounds_toArray, List.set_cons_zero, List.set_cons_succ]
              refine hm_run 7 5 (.slice p11 (xs.length + z) c11) rfl rfl (by kernel_rfl) (by kernel_rfl) (by kernel_rfl) (fun _ _ _ h => h) rfl (fun _ _ => rfl) S6_6.out ?_
              try simp only [Act.put, List.getElem_toArray, List.getElem_cons_succ, List.getElem_cons_zero, List.setIfInBounds_toArray, List.set_cons_zero, List.set_cons_succ]
              refine hm_run 8 6 (.slice p14 (ws.length + 1) c14) rfl rfl (by kernel_rfl) (by kernel_rfl) (by kernel_rfl) (fun _ _ _ h => h) rfl (fun _ _ => rfl) S6_6.out ?_
              try simp only [Act.put, List.getElem_toArray, List.getElem_cons_succ, List.getElem_cons_zero, List.setIfInBounds_toArray, List.set_cons_zero, List.set_cons_succ]
              refine wpAnyH_done (by kernel_rfl) ?_ _
              go_wp2_with fail
              go_roundg (kk - 1)
              case measure => omega
              case rel => exact ⟨j + 1, xs ++ frB (stB (comOf m)) pay, ws ++ [(comOf m, pay)], p11, g11, c11, p14, g14, c14, _, by omega, by go_num, by rw [(xs_len HZL.out).symm], by rw [List.length_append, List.length_singleton], Lib.hid (own_more A3.out HZL.out), Lib.hid (by rw [List.length_append, List.length_singleton]; exact N14.out), Lib.hid (wants_more WT.out TAP.out), Lib.hid (FD.out.snoc m (by have := HPL.out; omega)), Lib.hid (by have := LB.out; have := J8.out; have := HPK.out; have := HZL.out; have := HZ.out; rw [List.length_append, List.length_append, List.length_singleton]; omega), BW2⟩
    · obtain rfl : j = n := by omega
      go_upto_region 13 with fail
      obtain ⟨D, hDw⟩ : ∃ D, D = wr := ⟨_, rfl⟩
      subst hDw
      have NEW := Lib.hid (frnew_any D)
      have RA := Lib.hid A1.out.row
      have KD := Lib.hid (KL.out.below BW.out)
      have WLEN := Lib.hid (show ws.length ≤ 9 ∧ xs.length ≤ 3000 by have := LB.out; omega)
      go_upto_region 14 with (go_at_call 7; refine NEW.out.mono ?_; rintro e w1 ⟨br, bu, rfl, T1x⟩; have T1 := Lib.hid T1x; clear T1x)
      clear NEW
      go_wp2_with fail
      go_loopg [5, 13, 68] n1 (fun k2 all got i2 w2 => ∃ (j2 : Nat) (q2 : Option Addr) (o2 d2 : Nat) (ys : List Nat) (p : Option Addr) (g c : Nat) (rs : List Nat) (pg : Option Addr) (gg cg : Nat) (V2 : Nat → Value) (gs rem : List (ByteArray × List Nat)), j2 + k2 = n1 ∧ i2 = .int .i64 (j2 : Int) ∧ all = .slice q2 ys.length d2 ∧ got = .slice pg gs.length cg ∧ Hid (Row D q2 ga o2 ys.length d2 (lf ys)) ∧ Hid (Fp D br bu 0 p g c rs w2) ∧ Hid (FrsAt D.heap.size w2 pg gg cg V2 gs) ∧ Hid (Apart V2 gs p) ∧ Hid (Feeds (rs ++ ys) rem [] 0) ∧ Hid (ws = gs ++ rem) ∧ Hid (rs.length + ys.length ≤ 3000))
      case atStart => exact ⟨0, pa, 0, ca, xs, none, 0, 0, [], none, 0, 0, fun _ => undef, [], ws, by omega, rfl, rfl, rfl, RA, T1, Lib.hid (FrsAt.none T1.out.under0.size _), Lib.hid (fun i hi => absurd hi (by simp)), FD, Lib.hid rfl, Lib.hid (by have := WLEN.out; simp only [List.length_nil]; omega)⟩
      case round =>
        clear T1 RA
        obtain ⟨j2, q2, o2, d2, ys, p, g, c, rs, pg, gg, cg, V2, gs, rem, hj2, rfl, rfl, rfl, RY, T2, FSG, AP, FDR, HWS, LEN⟩ := hrel
        obtain ⟨k3, hk3⟩ : ∃ k3 : Nat, k3 = gk := ⟨_, rfl⟩
        rw [← hk3] at hj2
        have GL := Lib.hid (show gs.length + rem.length ≤ 9 by have := WLEN.out; rw [HWS.out, List.length_append] at this; omega)
        have R2 := Lib.hid (RY.out.below T2.out.under0)
        have KW := Lib.hid (KD.out.below T2.out.under0)
        by_cases hlt2 : j2 < n1
        · obtain rfl := W1.out.head (by omega)
          have C1 := Lib.hid (((W1.out.below BW.out).below T2.out.under0).cell j2 (by omega))
          obtain ⟨u, hu⟩ : ∃ u : Nat, u = (IntKind.u64.wrap (x1 j2)).toNat := ⟨_, rfl⟩
          have hu2 : IntKind.u64.wrap (x1 j2) = ((u : Nat) : Int) ∧ u < 18446744073709551616 := by
            rw [hu, IntKind.wrap_u64]
            omega
          have HU := Lib.hid hu2.1
          have HU2 := Lib.hid hu2.2
          obtain ⟨tt, htt⟩ : ∃ tt, tt = u % 60 := ⟨_, rfl⟩
          have HTT := Lib.hid htt
          have HT3 := Lib.hid (show IntKind.i64.wrap (tt : Int) = (tt : Int) by rw [IntKind.wrap_i64]; omega)
          obtain ⟨mm, hmm⟩ : ∃ mm, mm = min tt ys.length := ⟨_, rfl⟩
          have HMM := Lib.hid (show min ((tt : Nat) : Int) ((ys.length : Nat) : Int) = ((mm : Nat) : Int) by omega)
          have mle : mm ≤ ys.length := by omega
          obtain ⟨q3, S3, R3⟩ := sl_of0 RY.out mm mle
          have yl : (ys.take mm).length = mm := by rw [List.length_take]; omega
          have R3' : Row wr q3 ga o2 (ys.take mm).length d2 (lf (ys.take mm)) := by
            rw [yl]
            exact (R3.below T2.out.under0).to (fun i hi => by
              unfold lf
              simp only [List.getD_eq_getElem?_getD, List.getElem?_take, if_pos hi]) (lf_lt fun x hx => isB_row RY.out x (List.mem_of_mem_take hx))
          obtain ⟨q4, S4, R4⟩ := (show ∃ q4, (∀ W', (Instr.sliceAt 26 (.slice q2 ys.length d2) (some (.int .i64 (mm : Int))) none none).run Tryd.prog W' = .ok (.slice q4 (ys.drop mm).length (d2 - mm)) W') ∧ Row D q4 ga (o2 + mm) (ys.drop mm).length (d2 - mm) (lf (ys.drop mm)) from by
            have le := RY.out.le
            obtain ⟨q4, e, R4⟩ := RY.out.slice mle (Nat.le_refl _) le (Nat.le_refl d2)
            refine ⟨q4, fun W' => by rw [run_sl (bounds_l mle), e, List.length_drop], ?_⟩
            rw [List.length_drop]
            exact R4.to (fun i hi => lf_drop _ _ _) (lf_lt fun x hx => isB_row RY.out x (List.mem_of_mem_drop hx)))
          have S3 := Lib.hid S3
          have S4 := Lib.hid S4
          have R4 := Lib.hid R4
          have FE := Lib.hid (feed_any T2 (Lib.hid R3') (by have := LEN.out; omega) KD)
          rw [yl] at FE
          have FDS := Lib.hid (show Feeds ((rs ++ ys.take mm) ++ ys.drop mm) rem [] 0 by rw [List.append_assoc, List.take_append_drop]; exact FDR.out)
          have YD := Lib.hid (show (ys.drop mm).length = ys.length - mm ∧ (rs ++ ys.take mm).length = rs.length + mm ∧ mm ≤ ys.length by rw [List.length_drop, List.length_append, yl]; exact ⟨rfl, rfl, mle⟩)
          have NG := Lib.hid T2.out.under0.size
          clear hu hu2 htt hmm mle R3 R3' yl
          go_wp2_with (first
          | ((with_reducible refine wpList_at 70 rfl ?_); refine wpList_ix (k := 1) (j := j2) Tryd.underlying39 (by kernel_rfl) (.tmp 66) (.tmp 68) rfl rfl rfl rfl hlt2 rfl ?_)
          | ((with_reducible refine wpList_at 71 rfl ?_); refine wpList_ld1 3 (.tmp 70) rfl rfl rfl Tryd.underlying3 rfl (by rw [Nat.mul_one]; exact C1.out) ?_)
          | ((with_reducible refine wpList_at 73 rfl ?_); refine wpList_kn rfl (.int .u64 (u : Int)) (by exact exec_cvU rfl rfl HU.out) ?_)
          | ((with_reducible refine wpList_at 74 rfl ?_); refine wpList_kn rfl (.int .u64 (tt : Int)) (by rw [HTT.out]; exact exec_remU (b := 60) rfl rfl rfl (by omega) HU2.out) ?_)
          | ((with_reducible refine wpList_at 75 rfl ?_); refine wpList_kn rfl (.int .i64 (tt : Int)) (by exact exec_cvI rfl rfl HT3.out) ?_)
          | ((with_reducible refine wpList_at 78 rfl ?_); refine wpList_kn rfl (.int .i64 (mm : Int)) (by exact exec_min rfl rfl rfl rfl HMM.out) ?_)
          | ((with_reducible refine wpList_at 83 rfl ?_); refine wpList_kn rfl (.slice q3 mm d2) (by exact exec_sl rfl (S3.out _)) ?_)
          | (go_at_call 9; refine FE.out.mono ?_; rintro e w3 ⟨fs, r, er, pf, gf, cf, V3, hF, rfl, FS3x, ⟨p3, g3, c3, T3x, F3, L3, A3x⟩⟩; obtain ⟨e0, rem2, hrem, HF3x⟩ := Feeds.split (b := ys.drop mm) hF FDS.out; subst e0; have HF3 := Lib.hid HF3x; have HREM := Lib.hid hrem; have FSg := Lib.hid (FSG.out.feed T2.out F3 AP.out); have AP3 := Lib.hid (AP.out.feed FSG.out L3); have FS3 := Lib.hid FS3x; have A3 := Lib.hid A3x; have T3 := Lib.hid T3x; have RLE := Lib.hid (feeds_rest hF); clear hF hrem HF3x FS3x A3x T3x F3 L3 FE)
          | ((with_reducible refine wpList_at 91 rfl ?_); refine wpList_vapp 31 42 2 40 Tryd.underlying31 infoFr3 rfl (by omega) rfl (.tmp 89) (.tmp 90) rfl rfl (Lib.hid FSg.out.1) rfl (Lib.hid FS3.out.1.row) (by have := GL.out; rw [HREM.out, List.length_append] at this; unfold maxLen; omega) (by have := GL.out; rw [HREM.out, List.length_append] at this; omega) ?_; intro p4 g4 c4 w4 N4 hg4; have KT := Lib.hid (KeepT.of_grown FSg.out.1 hg4.out); have T4 := Lib.hid (T3.out.keep (FSg.out.1.under hg4.out (Nat.le_refl _) T3.out.under0.size) KT.out (by decide) (by decide) (by decide)); have FS4 := Lib.hid (FSg.out.app (FS3.out.mono NG.out) KT.out N4.out); have AP4 := Lib.hid (AP3.out.app A3.out))
          | ((with_reducible refine wpList_at 94 rfl ?_); refine wpList_kn rfl (.slice q4 (ys.drop mm).length (d2 - mm)) (by exact exec_sl rfl (S4.out _)) ?_))
          go_roundg (k3 - 1)
          case measure => omega
          case rel => exact ⟨j2 + 1, q4, o2 + mm, d2 - mm, ys.drop mm, p3, g3, c3, r, p4, g4, c4, _, gs ++ fs, rem2, by omega, by go_num, by rw [List.length_drop], by rw [List.length_append], R4, T4, FS4, AP4, HF3, Lib.hid (by rw [HWS.out, HREM.out, List.append_assoc]), Lib.hid (by have := LEN.out; have := YD.out; have := RLE.out; omega)⟩
        · obtain rfl : j2 = n1 := by omega
          have FE := Lib.hid (feed_any T2 R2 (by have := LEN.out; omega) KD)
          have WR := Lib.hid (show VRow 2 D pw gw 0 ws.length cw V from A2.out.row)
          have NG := Lib.hid T2.out.under0.size
          go_wp2_with (first
          | (go_at_call 9; refine FE.out.mono ?_; rintro e w3 ⟨fs, r, er, pf, gf, cf, V3, hF, rfl, FS3x, ⟨p3, g3, c3, T3x, F3, L3, A3x⟩⟩; obtain ⟨e1, e2, e3⟩ := hF.one FDR.out; subst e1 e2 e3; have FSg := Lib.hid (FSG.out.feed T2.out F3 AP.out); have FS3 := Lib.hid FS3x; have T3 := Lib.hid T3x; clear hF FS3x T3x A3x F3 L3 FE)
          | ((with_reducible refine wpList_at 103 rfl ?_); refine wpList_kn rfl (.bool true) (by exact exec_eqE rfl rfl rfl) ?_)
          | ((with_reducible refine wpList_at 107 rfl ?_); refine wpList_vapp 31 42 2 40 Tryd.underlying31 infoFr3 rfl (by omega) rfl (.tmp 105) (.tmp 106) rfl rfl (Lib.hid FSg.out.1) rfl (Lib.hid FS3.out.1.row) (by have := GL.out; unfold maxLen; omega) (by have := GL.out; omega) ?_; intro p4 g4 c4 w4 N4 hg4; have KT := Lib.hid (KeepT.of_grown FSg.out.1 hg4.out); have T4 := Lib.hid (T3.out.keep (FSg.out.1.under hg4.out (Nat.le_refl _) T3.out.under0.size) KT.out (by decide) (by decide) (by decide)); have FS4 := Lib.hid (FSg.out.app (FS3.out.mono NG.out) KT.out N4.out); have SF := Lib.hid (frs_end FS4.out HWS.out (by have := WLEN.out; omega) (wants_in WR.out WT.out BW.out T4.out.under0 (by have := WLEN.out; omega))))
          | (go_at_call 12; refine SF.out.mono ?_; rintro e w5 ⟨rfl, hb5⟩; have T5 := Lib.hid (T4.out.call hb5); have FIN := Lib.hid (BW.out.trans ((T4.out.under0.trans (hb5.mono T4.out.under0.size)).mono BW.out.size)); clear hb5)
          | (go_at_call 13; refine (left_any T5.out).mono ?_; rintro e w6 ⟨rfl, rfl⟩)
          | ((with_reducible refine wpList_at 114 rfl ?_); refine wpList_kn rfl (.bool true) (by exact exec_eqli rfl rfl rfl (decide_eq_true rfl)) ?_))
          go_ret
          exact ⟨rfl, FIN.out⟩

set_option maxRecDepth 100000 in
theorem lifted (os : Os) (started : os.Started) (H : Type) (enc : TypeId × Value → H) :
    ReturnsInHanded {} Tryd.checked os 4 .any (fun w args => (Rows.frameBackSpec.pre enc Tryd.prog Tryd.f4 [] false w args ∧ laidMetH Tryd.prog S.frLaid w) ∧ sizedMet enc Tryd.prog Tryd.f4 (OpenSpec.ofChange Rows.frameBackSpec) false w args)
      (Rows.frameBackSpec.post enc Tryd.prog Tryd.f4 false true false false) := by
  refine returnsInHanded_of_change_and (C := Tryd.checked) (X := fun w _ => laidMetH Tryd.prog S.frLaid w) (fun _ _ _ hh h => h.of_heap hh) own started (by kernel_rfl) Tryd.func4
    (ChangeSpec.witness_shaped (enc := enc) (C := Tryd.checked) (os := os) (X := fun w _ => laidMetH Tryd.prog S.frLaid w) false (World.laidAll Tryd.prog os S.frLaid) #[.slice none 0 0, .slice none 0 0] 8 (World.laidAll_os _ _ _)
      (World.shaped_of_ZipB (by kernel_rfl) (by kernel_rfl)) (by kernel_rfl) (by kernel_rfl) (by kernel_rfl)
      (by rw [MakeChecks.laidMetH_plain _ _ _ (by kernel_rfl)]; exact laidMet_laidAll _ (by kernel_rfl) (by kernel_rfl))) ?_
  intro W base args ds gs before hval0 hW _ hsz0 hL _
  have hval : ∀ (j : Nat) t v, Tryd.f4.params[j]? = some t → args[j]? = some v → Value.okWide Tryd.prog W .any base t v := hval0
  have hsz : (DataW.weightsEach Tryd.prog (Tryd.f4.params.toList ++ Rows.frameBackSpec.plain.varTypes Tryd.prog) (ds ++ gs)).all (· ≤ reachBytes) = true := hsz0
  have hW' := hW
  obtain ⟨p, q, hA0, hV, rfl, hfz, hnd⟩ := hW
  have hA : DataW.TrodAll enc Tryd.prog W 0 (fun _ => true) true Tryd.f4.params.toList args.toList ds p := hA0
  rw [Tryd.params4] at hA hval hsz
  obtain ⟨v0, vs0, d0, ds0, p0, q0, hargs, rfl, rfl, h0, r0⟩ := trodAll_cons hA
  obtain ⟨v1, vs1, d1, ds1, p1, q1, rfl, rfl, rfl, h1, r1⟩ := trodAll_cons r0
  obtain ⟨rfl, rfl, rfl⟩ := trodAll_nil r1
  obtain rfl : args = #[v0, v1] := by cases args; simp_all
  obtain ⟨rfl, rfl⟩ := trodVars_none hV
  have k0 := h0
  have lt0 : ∀ x ∈ p0, x.block < W.heap.size := by obtain ⟨m, hm⟩ := k0; exact DataW.trod_lt m _ _ _ hm
  obtain ⟨t0, w0⟩ := open_texts_arg (j := 0) (hval 0 22 v0 rfl rfl) h0 hsz rfl rfl
  have k1 := h1
  have lt1 : ∀ x ∈ p1, x.block < W.heap.size := by obtain ⟨m, hm⟩ := k1; exact DataW.trod_lt m _ _ _ hm
  obtain ⟨a1, g1, o1, n1, c1, x1, rfl, w1, m1⟩ := open_ints_arg (j := 1) (hval 1 39 v1 rfl rfl) h1 hsz rfl rfl
  clear hA0 hval0 hsz0
  simp only [List.append_nil] at hW'
  refine (walk W hL v0 t0 w0 a1 g1 o1 n1 c1 x1 w1 m1).mono fun e W' ⟨he, bel⟩ => ?_
  subst he
  exact ⟨_, rfl, _, _, _, [], _, [], hW', trodAll_mk1 (shut_bool Tryd.underlying4 _), (trodAll_cons_mk (Below.trod laidOut (by kernel_rfl) (of_decide_eq_true (by kernel_rfl)) k0 bel lt0) (trodAll_cons_mk (Below.trod laidOut (by kernel_rfl) (of_decide_eq_true (by kernel_rfl)) k1 bel lt1) trodAll_mk0)), rfl, bel.frame _, fun h => by cases h⟩

theorem over : Rows.FrameBackSaid :=
  OpenClaim.holds_of_wide 4 Tryd.f4 rfl rfl rfl rfl rfl rfl rfl ⟨rfl, rfl, rfl, rfl, rfl⟩ rfl rfl rfl rfl rfl (by kernel_rfl) Tryd.func4 (by kernel_rfl)
    (of_decide_eq_true (by kernel_rfl)) (by unfold Func.isWrapper; first | (rw [if_pos (by decide +kernel)]; kernel_rfl) | (rw [if_neg (by decide +kernel)]; exact ⟨rfl, rfl⟩))
    (fun os started H enc _ => lifted os started H enc)

/-- The tied card. -/
theorem card_holds : Rows.FrameBackCardSaid :=
  Claim7.holds_tied_plain_at .later [] [.data, .data, .data, .pinned] true (true, "f1b211d4871ea25ac7ccf62d4e8af954ae9a36901d175eac343dbf70e8321f11") false
    over (fun _ h => by cases h) (by kernel_rfl) (fun _ h => by cases h) frameBack_row_tie rfl ⟨rfl, rfl⟩ (by kernel_rfl) rfl
    (fun f fn hf hfn => by
      obtain rfl : f = 4 := Option.some.inj ((show Tryd.prog.funcNamed "sporran/sporranlaw09.FrameBack" = some 4 by kernel_rfl).symm.trans hf) |>.symm
      obtain rfl : fn = Tryd.f4 := (Option.some.inj (Tryd.func4.symm.trans hfn)).symm
      exact ⟨by kernel_rfl, fun j t ht => by
        rw [Tryd.params4] at ht
        have hm : t ∈ [22, 39] := by simpa using Array.mem_of_getElem? ht
        have hall : ([22, 39].all fun u => !Tryd.prog.wantsStandIn u) = true := by kernel_rfl
        exact (show Tryd.prog.wantsStandIn t = false by simpa using List.all_eq_true.1 hall t hm)⟩)
    (by kernel_rfl)
#print axioms card_holds
end Go.Proofs.YtkjcljobcidhfaaDoor.frameBack
