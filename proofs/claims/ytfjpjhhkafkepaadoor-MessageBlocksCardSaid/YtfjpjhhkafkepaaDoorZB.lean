/- Texts of ours, merged: Sa, Sb, Sc, Sd, Se, Lo. -/
import Derived.Test.YtfjpjhhkafkepaaDoorZA
import Derived.Deep.LoopGhost
section
set_option linter.unusedSimpArgs false
set_option maxRecDepth 100000
namespace Go.Proofs.YtfjpjhhkafkepaaDoor
open Go.RowKit Go.Lib

theorem int_of {k : IntKind} {a b : Int} (h : a = b) : Ending.returned (.int k a) = .returned (.int k b) := by rw [h]

set_option maxHeartbeats 1000000 in
theorem width_any (b : Nat) (hb : b < 256) (w : World) : Calls Tryd.prog 53 #[.int .u8 ((b : Nat) : Int)] w fun e w' => e = .returned (.int .i64 ((wOf b : Nat) : Int)) ∧ w = w' := by
  by_cases h1 : b = 253
  · subst h1
    go_enter Tryd.func53, Tryd.ntmps53
    go_wp2
    go_ret
    exact ⟨rfl, rfl⟩
  · by_cases h2 : b = 254
    · subst h2
      go_enter Tryd.func53, Tryd.ntmps53
      go_wp2
      go_ret
      exact ⟨rfl, rfl⟩
    · by_cases h3 : b = 255
      · subst h3
        go_enter Tryd.func53, Tryd.ntmps53
        go_wp2
        go_ret
        exact ⟨rfl, rfl⟩
      · have t1 : ((b : Int) == 253) = false := by simp; omega
        have t2 : ((b : Int) == 254) = false := by simp; omega
        have t3 : ((b : Int) == 255) = false := by simp; omega
        have e : wOf b = 1 := by unfold wOf; rw [if_neg h1, if_neg h2, if_neg h3]
        clear h1 h2 h3
        go_enter Tryd.func53, Tryd.ntmps53
        go_wp2
        go_ret
        exact ⟨by rw [e]; rfl, rfl⟩

set_option maxHeartbeats 1000000 in
theorem mark_any (n : Nat) (w : World) : Calls Tryd.prog 52 #[.int .u64 ((n : Nat) : Int)] w fun e w' => e = .returned (.int .u8 ((mk n : Nat) : Int)) ∧ w = w' := by
  by_cases h1 : n < 253
  · have e : mk n = n := by unfold mk; rw [if_pos h1]
    have h1' : (n : Int) < 253 := by omega
    go_enter Tryd.func52, Tryd.ntmps52
    go_wp2
    go_ret
    exact ⟨int_of (by rw [e]), rfl⟩
  · have t1 : decide ((n : Int) < 253) = false := by simp; omega
    by_cases h2 : n ≤ 65535
    · have e : mk n = 253 := by unfold mk; rw [if_neg h1, if_pos h2]
      have t2 : decide ((n : Int) ≤ 65535) = true := by simp; omega
      have E := Lib.hid e
      clear e h1 h2
      go_enter Tryd.func52, Tryd.ntmps52
      go_wp2
      go_ret
      exact ⟨int_of (by rw [E.out]; rfl), rfl⟩
    · have t2 : decide ((n : Int) ≤ 65535) = false := by simp; omega
      by_cases h3 : n ≤ 4294967295
      · have e : mk n = 254 := by unfold mk; rw [if_neg h1, if_neg h2, if_pos h3]
        have t3 : decide ((n : Int) ≤ 4294967295) = true := by simp; omega
        have E := Lib.hid e
        clear e h1 h2 h3
        go_enter Tryd.func52, Tryd.ntmps52
        go_wp2
        go_ret
        exact ⟨int_of (by rw [E.out]; rfl), rfl⟩
      · have e : mk n = 255 := by unfold mk; rw [if_neg h1, if_neg h2, if_neg h3]
        have t3 : decide ((n : Int) ≤ 4294967295) = false := by simp; omega
        have E := Lib.hid e
        clear e h1 h2 h3
        go_enter Tryd.func52, Tryd.ntmps52
        go_wp2
        go_ret
        exact ⟨int_of (by rw [E.out]; rfl), rfl⟩
end Go.Proofs.YtfjpjhhkafkepaaDoor
end
section
set_option linter.unusedSimpArgs false
set_option maxRecDepth 100000
namespace Go.Proofs.YtfjpjhhkafkepaaDoor
open Go.RowKit Go.Lib

theorem ret_of {k : IntKind} {a b : Int} (h : a = b) : Ending.returned (.int k a) = .returned (.int k b) := by rw [h]

set_option maxHeartbeats 2000000 in
theorem number_any {w : World} {p : Option Addr} {g o n c : Nat} {x : Nat → Nat} (R : Hid (Row w p g o n c x)) (h0 : 0 < n) (hn : n ≤ 4) : Calls Tryd.prog 75 #[.slice p n c] w fun e w' => e = .returned (.int .u32 ((ofBytes x n : Nat) : Int)) ∧ w = w' := by
  obtain rfl := R.out.head h0
  go_enter Tryd.func75, Tryd.ntmps75
  go_wp2
  go_loop [3, 8] (fun s i => ∃ k : Nat, k ≤ n ∧ i = .int .i64 (k : Int) ∧ s = .int .u32 ((ofBytes x k : Nat) : Int)) (fun _ i => n - (intOf i).toNat)
  case atStart => exact ⟨0, by omega, rfl, rfl⟩
  case round =>
    obtain ⟨k, hk, rfl, rfl⟩ := hrel
    by_cases hlt : k < n
    · have c0 := R.out.cell k hlt
      have fl := R.out.byte k
      have OR0 := or_byte32 (a := ofBytes x k) (f := x k) (k := k) (by omega) (ofBytes_lt fun i _ => R.out.byte i) fl
      rw [IntKind.wrap_u32] at OR0
      have OR := Lib.hid OR0
      clear OR0
      have t8 : (8 * (k : Int)).toNat = 8 * k := by omega
      have ol : ofBytes x k < 4294967296 := by
        have h1 := ofBytes_lt (f := x) (m := k) fun i _ => R.out.byte i
        have h2 : 2 ^ (8 * k) ≤ 2 ^ 32 := Nat.pow_le_pow_right (by decide) (by omega)
        omega
      go_wp2
      go_round
      case rel => exact ⟨k + 1, by omega, by go_num, by rw [OR.out, ofBytes]⟩
      case measure => simp [intOf]; omega
    · obtain rfl : k = n := by omega
      go_wp2
      go_ret
      exact ⟨rfl, rfl⟩
end Go.Proofs.YtfjpjhhkafkepaaDoor
end
section
set_option linter.unusedSimpArgs false
set_option maxRecDepth 100000
namespace Go.Proofs.YtfjpjhhkafkepaaDoor
open Go.RowKit Go.Lib

abbrev frm (n : Nat) : Nat → Nat := cut (enc n) (wid n)
theorem infoF : (Tryd.prog.info? 86).map (fun i => (i.zero, i.size)) = some (some (.agg (arr 9 (bv fun _ => 0))), 9) := by kernel_rfl
theorem builtF (m : Nat) : Tryd.prog.built 86 (#[(0, .int .u8 (m : Int))] : Array (Nat × Value)).toList = some (arr 9 (bv fun i => if i = 0 then m else 0)) := by kernel_rfl
theorem cut_one (n : Nat) : arr 9 (bv fun i => if i = 0 then mk n else 0) = arr 9 (bv (cut (enc n) 1)) := arr_congr fun i _ => by
  have e : (if i = 0 then mk n else 0) = cut (enc n) 1 i := by
    unfold cut enc
    by_cases h : i = 0
    · rw [if_pos h, if_pos (by omega), if_pos h]
    · rw [if_neg h, if_neg (by omega)]
  unfold bv
  rw [← e]
theorem arr_cells (n : Nat) (f : Nat → Value) : (Value.agg (arr n f)).cells = arr n f := rfl
theorem cut_more (n k : Nat) : (arr 9 (bv (cut (enc n) (k + 1)))).setIfInBounds (1 + k) (.int .u8 ((byteAt n k : Nat) : Int)) = arr 9 (bv (cut (enc n) (k + 1 + 1))) := by
  rw [arr_set]
  refine arr_congr fun i _ => ?_
  unfold upd bv cut
  by_cases h : i = 1 + k
  · rw [if_pos h, if_pos (by omega)]
    unfold enc
    rw [if_neg (by omega)]
    subst h
    congr 3
    omega
  · rw [if_neg h]
    by_cases h2 : i < k + 1
    · rw [if_pos h2, if_pos (by omega)]
    · rw [if_neg h2, if_neg (by omega)]
set_option maxRecDepth 100000 in
set_option maxHeartbeats 2000000 in
theorem shortest_any (n : Nat) (w : World) : Calls Tryd.prog 33 #[.int .u64 ((n : Nat) : Int)] w fun e w' => e = .returned (.tuple #[.agg (arr 9 (bv (frm n))), .int .i64 ((wid n : Nat) : Int)]) ∧ Below w.heap.size w w' := by
  have E := Lib.hid (Mem.nil w)
  have hw := wid_bd n
  have bb := builtF (mk n)
  rw [cut_one] at bb
  have BB := Lib.hid bb
  have ml := mk_lt n
  have WM : Hid (∀ W : World, Calls Tryd.prog 53 #[.int .u8 ((mk n : Nat) : Int)] W fun e w' => e = .returned (.int .i64 ((wid n : Nat) : Int)) ∧ W = w') := Lib.hid (width_any (mk n) ml)
  clear bb
  go_enter Tryd.func33, Tryd.ntmps33
  go_wp2_with (first
    | (with_reducible refine mem_alloc E 86 rfl rfl infoF ?_; clear E; intro b w2 E; simp only [arr_cells] at E)
    | (go_at_call 52; refine (mark_any n _).mono ?_; rintro e w1 ⟨rfl, rfl⟩)
    | (go_at_call 53; refine (WM.out _).mono ?_; rintro e w1 ⟨rfl, rfl⟩)
    | (refine wpList_build_to rfl 86 _ rfl #[(0, .int .u8 ((mk n : Nat) : Int))] (by first | kernel_rfl | (simp; rfl)) _ BB.out ?_)
    | (refine mem_store_row 0 E 86 rfl _ _ rfl rfl rfl rfl (by kernel_rfl) (by rw [arr_size, arr_size]) (bv_one _ _) ?_; clear E; intro w2 E; simp only [List.set_cons_zero, List.set_cons_succ] at E)
    | (with_reducible refine mem_load_cell E 5 (by kernel_rfl) _ rfl rfl List.mem_cons_self Tryd.underlying5 rfl rfl ?_))
  rename_i b2 _ _ _ _
  clear BB WM
  go_loopg [15] (wid n - 1) (fun k i wr => ∃ j : Nat, j + k = wid n - 1 ∧ i = .int .i64 (j : Int) ∧ Hid (Mem w [(b, 86, arr 9 (bv (cut (enc n) (j + 1)))), (b2, 86, arr 9 (bv fun _ => 0))] wr))
  case atStart => exact ⟨0, by omega, rfl, E⟩
  case round =>
    clear E
    obtain ⟨j, hj, rfl, E⟩ := hrel
    obtain ⟨kk, rfl⟩ : ∃ kk : Nat, kk = gk := ⟨_, rfl⟩
    by_cases hlt : j < wid n - 1
    · have hlt' : (j : Int) < ((wid n : Nat) : Int) - 1 := by omega
      have BI := byte_int n j
      have t8 : (8 * (j : Int)).toNat = 8 * j := by omega
      have cm := Lib.hid (cut_more n j)
      go_wp2_with (refine mem_store_cell 0 E 5 rfl _ _ rfl rfl rfl rfl (by kernel_rfl) rfl rfl (arr_get 9 _ (1 + j) (by omega)) cm.out ?_; clear E; intro w3 E; simp only [List.set_cons_zero, List.set_cons_succ] at E)
      go_roundg (kk - 1)
      case measure => omega
      case rel => exact ⟨j + 1, by omega, by go_num, E⟩
    · have e : j + 1 = wid n := by omega
      rw [e] at E
      have hlt' : ¬ (j : Int) < ((wid n : Nat) : Int) - 1 := by omega
      clear e hj
      go_wp2_with (first
        | (with_reducible refine mem_load_row E 86 (by kernel_rfl) _ rfl rfl List.mem_cons_self Tryd.underlying86 rfl (by rw [arr_size]; kernel_rfl) ?_)
        | (refine mem_store_row 1 E 86 rfl _ _ rfl rfl rfl rfl (by kernel_rfl) (by rw [arr_size, arr_size]) (bv_one _ _) ?_; clear E; intro w2 E; simp only [List.set_cons_zero, List.set_cons_succ] at E))
      exact bodyPost_ret (res_row_tmp (fn := Tryd.f33) rfl _ _ b2 9 86 _ _ rfl (E.out.get (List.mem_cons_of_mem _ List.mem_cons_self)) Tryd.underlying86 rfl (by kernel_rfl)) rfl ⟨rfl, E.out.below⟩

set_option maxRecDepth 100000 in
set_option maxHeartbeats 2000000 in
theorem form_number_any (f : Nat → Nat) (hf : Hid (∀ i, f i < 256)) (w : World) : Calls Tryd.prog 86 #[.agg (arr 9 (bv f))] w fun e w' => e = .returned (.int .u64 ((num f : Nat) : Int)) ∧ Below w.heap.size w w' := by
  have E := Lib.hid (Mem.nil w)
  by_cases h0 : f 0 < 253
  · have t0 : decide ((f 0 : Int) < 253) = true := by simp; omega
    have en : num f = f 0 := by unfold num; rw [if_pos h0]
    have EN := Lib.hid en
    clear en
    go_enter Tryd.func86, Tryd.ntmps86
    go_wp2_with (first
      | (refine mem_box E 86 rfl _ rfl rfl (arr_cells 9 (bv f)) ?_; clear E; intro b w2 E)
      | (refine mem_load_cell E 5 (by kernel_rfl) _ rfl rfl List.mem_cons_self Tryd.underlying5 rfl (arr_get 9 _ 0 (by decide)) ?_; simp only [bv]))

    go_ret
    exact ⟨ret_of (by rw [EN.out]), E.out.below⟩
  · have t0 : decide ((f 0 : Int) < 253) = false := by simp; omega
    have en : num f = ofBytes (fun i => f (1 + i)) 8 := by unfold num; rw [if_neg h0]
    have EN := Lib.hid en
    clear en h0
    go_enter Tryd.func86, Tryd.ntmps86
    go_wp2_with (first
      | (refine mem_box E 86 rfl _ rfl rfl (arr_cells 9 (bv f)) ?_; clear E; intro b w2 E)
      | (refine mem_load_cell E 5 (by kernel_rfl) _ rfl rfl List.mem_cons_self Tryd.underlying5 rfl (arr_get 9 _ 0 (by decide)) ?_; simp only [bv]))
    go_loop [3, 14] (fun s i => ∃ k : Nat, k ≤ 8 ∧ i = .int .i64 (k : Int) ∧ s = .int .u64 ((ofBytes (fun i => f (1 + i)) k : Nat) : Int)) (fun _ i => 8 - (intOf i).toNat)
    case atStart => exact ⟨0, by omega, rfl, rfl⟩
    case round =>
      obtain ⟨k, hk, rfl, rfl⟩ := hrel
      by_cases hlt : k < 8
      · have c0 := cell_of_here (E.out.get List.mem_cons_self) (1 + k) (arr_get 9 (bv f) (1 + k) (by omega))
        simp only [bv] at c0
        have fl := hf.out (1 + k)
        have ob := ofBytes_lt (f := fun i => f (1 + i)) (m := k) fun i _ => hf.out (1 + i)
        have OR := Lib.hid (or_byte64 (a := ofBytes (fun i => f (1 + i)) k) (f := f (1 + k)) (k := k) (by omega) ob fl)
        have t8 : (8 * (k : Int)).toNat = 8 * k := by omega
        have ol : ofBytes (fun i => f (1 + i)) k < 18446744073709551616 := by
          have h2 : 2 ^ (8 * k) ≤ 2 ^ 64 := Nat.pow_le_pow_right (by decide) (by omega)
          omega
        clear ob
        go_wp2
        go_round
        case rel => exact ⟨k + 1, by omega, by go_num, by rw [OR.out, ofBytes]⟩
        case measure => simp [intOf]; omega
      · obtain rfl : k = 8 := by omega
        go_wp2
        go_ret
        exact ⟨ret_of (by rw [EN.out]), E.out.below⟩
end Go.Proofs.YtfjpjhhkafkepaaDoor
end
section
set_option linter.unusedSimpArgs false
set_option maxRecDepth 100000
namespace Go.Proofs.YtfjpjhhkafkepaaDoor
open Go.RowKit Go.Lib

theorem Mem.row {w0 w : World} {l : List (Nat × TypeId × Array Value)} (E : Mem w0 l w) {b T N : Nat} {f : Nat → Nat} (hm : (b, T, arr N (bv f)) ∈ l) (o n c : Nat) (h : o + n ≤ N) (hn : n ≤ c) (hc : c ≤ maxLen) (hf : ∀ i, f i < 256) :
    Row w (some ⟨b, o, none⟩) b o n c (fun i => f (o + i)) :=
  ⟨hn, hc, fun h => (by cases h), fun _ => rfl, fun i hi => cell_of_here (E.get hm) (o + i) (arr_get N (bv f) (o + i) (by omega)), fun i => hf _⟩
theorem run_formF (m : Nat) (hm : m ≤ 9) (b : Nat) (w : World) : (Instr.sliceAt 86 (.pointer (some ⟨b, 0, none⟩)) none (some (.int .i64 ((m : Nat) : Int))) (some (.int .i64 ((m : Nat) : Int)))).run Tryd.prog w = .ok (.slice (some ⟨b, 0, none⟩) m m) w := by
  have hl : Tryd.prog.arrayLen 86 = 9 := by kernel_rfl
  have he : Tryd.prog.elem 86 = 5 := by kernel_rfl
  have ht : Tryd.prog.underlying 86 = some (.array (Tryd.prog.arrayLen 86) (Tryd.prog.elem 86)) := by rw [hl, he]; exact Tryd.underlying86
  have hs : ∀ w, (Go.sizeOf 5).run Tryd.prog w = .ok 1 w := fun w => by kernel_rfl
  rw [run_sliceAt_array_hm w 86 ⟨b, 0, none⟩ ht .i64 .i64 m m (by omega) (by omega) (by rw [hl]; omega), he, hs]
  simp only [Result.andThen_ok, slicedAt, Int.toNat_natCast, Nat.zero_mul, Nat.sub_zero]
  congr 2
  split
  · rfl
  · rw [row_add]
theorem row_one (w : World) (v : Nat) (hv : v < 256) : Row (w.alloc (.cells #[.int .u8 ((v : Nat) : Int)] 5)) (some ⟨w.heap.size, 0, none⟩) w.heap.size 0 1 1 (fun _ => v) := (own_new w (fun _ => v) 1 (by unfold maxLen; omega) (fun _ => hv)).row

set_option maxRecDepth 100000 in
set_option maxHeartbeats 2000000 in
theorem low_any (n m : Nat) (hm : m ≤ 8) (w : World) : Calls Tryd.prog 22 #[.int .u64 ((n : Nat) : Int), .int .i64 ((m : Nat) : Int)] w (Gets w m (byteAt n)) := by
  go_enter Tryd.func22, Tryd.ntmps22
  go_wp2
  go_loopg [5, 8] m (fun k s i wr => ∃ (j : Nat) (p : Option Addr) (g c : Nat), j + k = m ∧ i = .int .i64 (j : Int) ∧ s = .slice p j c ∧ Hid (Own w.heap.size wr p g j c (byteAt n)) ∧ Hid (Below w.heap.size w wr))
  case atStart => exact ⟨0, none, 0, 0, by omega, rfl, rfl, Lib.hid (own_nothing _ _ _ (byteAt_lt n) (Nat.le_refl _)), Lib.hid (Below.refl _ _)⟩
  case round =>
    obtain ⟨j, p, g, c, hj, rfl, rfl, N, B⟩ := hrel
    obtain ⟨kk, rfl⟩ : ∃ kk : Nat, kk = gk := ⟨_, rfl⟩
    by_cases hlt : j < m
    · have BI := byte_int n j
      have t8 : (8 * (j : Int)).toNat = 8 * j := by omega
      have R := Lib.hid (row_one wr (byteAt n j) (byteAt_lt n j))
      have ba := below_new wr (.cells #[.int .u8 ((byteAt n j : Nat) : Int)] 5)
      have N1 := Lib.hid (N.out.below ba)
      have B1 := Lib.hid (B.out.trans (ba.mono B.out.size))
      clear ba N B
      go_wp2_with (at_builtin; refine wpList_app (.inl rfl) (.tmp 11) (.tmp 17) rfl rfl N1 rfl R (by omega) ?_)
      intro p' g' c' w' N' hb
      have B2 := Lib.hid (B1.out.trans hb.out)
      have N2 := Lib.hid (N'.out.to (y := byteAt n) (fun i hi => by
        unfold cat
        split
        · rfl
        · rw [show i = j by omega]) (byteAt_lt n))
      clear hb N' N1 B1 R
      go_wp2
      go_roundg (kk - 1)
      case measure => omega
      case rel => exact ⟨j + 1, p', g', c', by omega, by go_num, rfl, N2, B2⟩
    · obtain rfl : j = m := by omega
      go_wp2
      go_ret
      exact ⟨p, g, c, rfl, N.out, B.out⟩

set_option maxRecDepth 100000 in
set_option maxHeartbeats 2000000 in
theorem encode_any (n : Nat) (w : World) : Calls Tryd.prog 31 #[.int .u64 ((n : Nat) : Int)] w (Gets w (wid n) (enc n)) := by
  have E := Lib.hid (Mem.nil w)
  have hw := wid_bd n
  have sl := run_formF (wid n) (by omega)
  go_enter Tryd.func31, Tryd.ntmps31
  go_wp2_with (first
    | (go_at_call 33; refine (shortest_any n _).mono ?_; rintro e w1 ⟨rfl, hb⟩; replace E := Lib.hid (E.out.call hb); clear hb)
    | (refine mem_alloc E 86 rfl rfl infoF ?_; clear E; intro b w2 E; simp only [arr_cells] at E)
    | (refine mem_store_row 0 E 86 rfl _ _ rfl rfl rfl rfl (by kernel_rfl) (by rw [arr_size, arr_size]) (bv_one _ _) ?_; clear E; intro w2 E; simp only [List.set_cons_zero, List.set_cons_succ] at E)
    | (go_at_call 38; refine (clone_any (Lib.hid (E.out.row List.mem_cons_self 0 (wid n) (wid n) (by omega) (Nat.le_refl _) (by unfold maxLen; omega) (cut_lt (enc_lt n) (wid n)))) (by omega)).mono ?_; rintro e w1 ⟨p1, g1, c1, rfl, N1, hb⟩; have N := Lib.hid (N1.mono E.out.below.size); replace E := Lib.hid (E.out.call hb); clear hb N1))
  go_ret
  exact ⟨p1, g1, c1, rfl, N.out.to (fun i hi => by show cut (enc n) (wid n) (0 + i) = enc n i; unfold cut; rw [if_pos (by omega), Nat.zero_add]) (enc_lt n), E.out.below⟩
end Go.Proofs.YtfjpjhhkafkepaaDoor
end
section
set_option linter.unusedSimpArgs false
set_option maxRecDepth 100000
namespace Go.Proofs.YtfjpjhhkafkepaaDoor
open Go.RowKit Go.Lib

theorem enc_small {n : Nat} (h : n < 253) (i : Nat) (hi : i < 1) : (fun _ => n) i = enc n i := by
  obtain rfl : i = 0 := by omega
  show n = enc n 0
  unfold enc mk
  rw [if_pos rfl, if_pos h]
theorem enc_cat {n m : Nat} (h : mk n = m) (k : Nat) (i : Nat) (_ : i < 1 + k) : cat (fun _ => m) 1 (byteAt n) i = enc n i := by
  unfold cat enc
  by_cases h0 : i = 0
  · rw [if_pos (by omega), if_pos h0, h]
  · rw [if_neg (by omega), if_neg h0]

set_option maxRecDepth 100000 in
set_option maxHeartbeats 2000000 in
theorem ref_encode_any (n : Nat) (w : World) : Calls Tryd.prog 11 #[.int .u64 ((n : Nat) : Int)] w (Gets w (wid n) (enc n)) := by
  have E := Lib.hid (Mem.nil w)
  have hwd := wid_of (n := n)
  by_cases h1 : n < 253
  · have t1 : decide ((n : Int) < 253) = true := by simp; omega
    rw [if_pos h1] at hwd
    have hc : (n : Int) % 256 = (n : Int) := by omega
    have HW := Lib.hid hwd
    have EC := Lib.hid (fun i hi => enc_small h1 i hi)
    clear hwd
    go_enter Tryd.func11, Tryd.ntmps11
    go_wp2
    go_ret
    rw [Gets, HW.out]
    exact ⟨_, _, 1, rfl, (own_new w (fun _ => n) 1 (by unfold maxLen; omega) (fun _ => by omega)).to EC.out (enc_lt n), below_new w _⟩
  · have t1 : decide ((n : Int) < 253) = false := by simp; omega
    rw [if_neg h1] at hwd
    by_cases h2 : n ≤ 65535
    · have t2 : decide ((n : Int) ≤ 65535) = true := by simp; omega
      rw [if_pos h2] at hwd
      have em : mk n = 253 := by unfold mk; rw [if_neg h1, if_pos h2]
      have HW := Lib.hid hwd
      have EC := Lib.hid (fun i hi => enc_cat em 2 i hi)
      have K : Hid (Work w [] w.heap.size _ w.heap.size 1 1 (fun _ => 253) (w.alloc (.cells #[.int .u8 253] 5))) := Lib.hid (Work.start E.out (own_new w (fun _ => 253) 1 (by unfold maxLen; omega) (fun _ => by omega)) (below_new w _))
      clear hwd em h1 h2
      go_enter Tryd.func11, Tryd.ntmps11
      go_wp2_with (first
        | (go_at_call 22; refine (low_any n 2 (by omega) _).mono ?_; rintro e w1 ⟨p1, g1, c1, rfl, N1, hb⟩; have N := Lib.hid N1; replace K := Lib.hid (K.out.call hb); clear hb N1)
        | (at_builtin; refine wpList_wapp (.inl rfl) (.tmp 12) (.tmp 14) rfl K rfl rfl (Lib.hid N.out.row) (by omega) ?_; clear K; intro p3 g3 c3 w3 K))
      go_ret
      rw [Gets, HW.out]
      exact ⟨p3, g3, c3, rfl, (K.out.to EC.out (enc_lt n)).gets.1, K.out.gets.2⟩
    · have t2 : decide ((n : Int) ≤ 65535) = false := by simp; omega
      rw [if_neg h2] at hwd
      by_cases h3 : n ≤ 4294967295
      · have t3 : decide ((n : Int) ≤ 4294967295) = true := by simp; omega
        rw [if_pos h3] at hwd
        have em : mk n = 254 := by unfold mk; rw [if_neg h1, if_neg h2, if_pos h3]
        have HW := Lib.hid hwd
        have EC := Lib.hid (fun i hi => enc_cat em 4 i hi)
        have K : Hid (Work w [] w.heap.size _ w.heap.size 1 1 (fun _ => 254) (w.alloc (.cells #[.int .u8 254] 5))) := Lib.hid (Work.start E.out (own_new w (fun _ => 254) 1 (by unfold maxLen; omega) (fun _ => by omega)) (below_new w _))
        clear hwd em h1 h2 h3
        go_enter Tryd.func11, Tryd.ntmps11
        go_wp2_with (first
          | (go_at_call 22; refine (low_any n 4 (by omega) _).mono ?_; rintro e w1 ⟨p1, g1, c1, rfl, N1, hb⟩; have N := Lib.hid N1; replace K := Lib.hid (K.out.call hb); clear hb N1)
          | (at_builtin; refine wpList_wapp (.inl rfl) (.tmp 19) (.tmp 21) rfl K rfl rfl (Lib.hid N.out.row) (by omega) ?_; clear K; intro p3 g3 c3 w3 K))
        go_ret
        rw [Gets, HW.out]
        exact ⟨p3, g3, c3, rfl, (K.out.to EC.out (enc_lt n)).gets.1, K.out.gets.2⟩
      · have t3 : decide ((n : Int) ≤ 4294967295) = false := by simp; omega
        rw [if_neg h3] at hwd
        have em : mk n = 255 := by unfold mk; rw [if_neg h1, if_neg h2, if_neg h3]
        have HW := Lib.hid hwd
        have EC := Lib.hid (fun i hi => enc_cat em 8 i hi)
        have K : Hid (Work w [] w.heap.size _ w.heap.size 1 1 (fun _ => 255) (w.alloc (.cells #[.int .u8 255] 5))) := Lib.hid (Work.start E.out (own_new w (fun _ => 255) 1 (by unfold maxLen; omega) (fun _ => by omega)) (below_new w _))
        clear hwd em h1 h2 h3
        go_enter Tryd.func11, Tryd.ntmps11
        go_wp2_with (first
          | (go_at_call 22; refine (low_any n 8 (by omega) _).mono ?_; rintro e w1 ⟨p1, g1, c1, rfl, N1, hb⟩; have N := Lib.hid N1; replace K := Lib.hid (K.out.call hb); clear hb N1)
          | (at_builtin; refine wpList_wapp (.inl rfl) (.tmp 23) (.tmp 25) rfl K rfl rfl (Lib.hid N.out.row) (by omega) ?_; clear K; intro p3 g3 c3 w3 K))
        go_ret
        rw [Gets, HW.out]
        exact ⟨p3, g3, c3, rfl, (K.out.to EC.out (enc_lt n)).gets.1, K.out.gets.2⟩

/-- A text: its count, and its bytes. -/
def txt (x : Nat → Nat) (n : Nat) : Nat → Nat := cat (enc n) (wid n) x
theorem txt_lt {x : Nat → Nat} (hx : ∀ i, x i < 256) (n i : Nat) : txt x n i < 256 := cat_byte _ (enc_lt n) hx i

set_option maxRecDepth 100000 in
set_option maxHeartbeats 2000000 in
theorem ref_text_any {w : World} {p : Option Addr} {g o n c : Nat} {x : Nat → Nat} (R : Hid (Row w p g o n c x)) (hn : n ≤ 140737488351232) : Calls Tryd.prog 25 #[.slice p n c] w (Gets w (wid n + n) (txt x n)) := by
  have E := Lib.hid (Mem.nil w)
  have hw := wid_bd n
  have HN := Lib.hid hn
  have hn2 : (n : Int) ≤ 140737488351232 := by omega
  clear hn
  go_enter Tryd.func25, Tryd.ntmps25
  go_wp2_with (first
    | (go_at_call 11; refine (ref_encode_any n _).mono ?_; rintro e w1 ⟨p1, g1, c1, rfl, N1, hb⟩; have K := Lib.hid (Work.start E.out N1 hb); clear hb N1 E)
    | (at_builtin; refine wpList_wapp (.inl rfl) (.tmp 6) (.tmp 7) rfl K rfl rfl (Lib.hid (R.out.below K.out.mem.below)) (by have := HN.out; omega) ?_; clear K; intro p3 g3 c3 w3 K))
  go_ret
  exact ⟨p3, g3, c3, rfl, K.out.gets.1, K.out.gets.2⟩

set_option maxRecDepth 100000 in
set_option maxHeartbeats 2000000 in
theorem text_any {w : World} {p : Option Addr} {g o n c : Nat} {x : Nat → Nat} (R : Hid (Row w p g o n c x)) (hn : n ≤ 140737488351232) : Calls Tryd.prog 20 #[.slice p n c] w (Gets w (wid n + n) (txt x n)) := by
  have E := Lib.hid (Mem.nil w)
  have hw := wid_bd n
  have sl := run_formF (wid n) (by omega)
  have HN := Lib.hid hn
  have hn2 : (n : Int) ≤ 140737488351232 := by omega
  clear hn
  go_enter Tryd.func20, Tryd.ntmps20
  go_wp2_with (first
    | (go_at_call 33; refine (shortest_any n _).mono ?_; rintro e w1 ⟨rfl, hb⟩; replace E := Lib.hid (E.out.call hb); clear hb)
    | (refine mem_alloc E 86 rfl rfl infoF ?_; clear E; intro b w2 E; simp only [arr_cells] at E)
    | (refine mem_store_row 0 E 86 rfl _ _ rfl rfl rfl rfl (by kernel_rfl) (by rw [arr_size, arr_size]) (bv_one _ _) ?_; clear E; intro w2 E; simp only [List.set_cons_zero, List.set_cons_succ] at E)
    | (at_make; refine wpList_mk rfl _ _ rfl E (wid n + n) (((wid n : Nat) : Int) + ((n : Nat) : Int)) rfl rfl (by rw [Int.natCast_add]) (by have := HN.out; omega) ?_; clear E; intro B p1 g1 w2 K)
    | (at_builtin; refine wpList_wapp (.inl rfl) (.tmp 18) (.tmp 21) rfl K rfl rfl (Lib.hid (K.out.mem.row List.mem_cons_self 0 (wid n) (wid n) (by omega) (Nat.le_refl _) (by unfold maxLen; omega) (cut_lt (enc_lt n) (wid n)))) (by omega) ?_; clear K; intro p3 g3 c3 w3 K; rw [Nat.zero_add] at K)
    | (at_builtin; refine wpList_wapp (.inl rfl) (.tmp 23) (.tmp 24) rfl K rfl rfl (Lib.hid (R.out.below K.out.mem.below)) (by have := HN.out; omega) ?_; clear K; intro p3 g3 c3 w3 K))
  go_ret
  exact ⟨p3, g3, c3, rfl, (K.out.to (y := txt x n) (fun i hi => by
    unfold txt cat
    split
    · rename_i h
      rw [if_neg (by omega)]
      show cut (enc n) (wid n) (0 + (i - 0)) = _
      unfold cut
      rw [if_pos (by omega)]
      congr 1; omega
    · rfl) (txt_lt R.out.byte n)).gets.1, K.out.gets.2⟩
end Go.Proofs.YtfjpjhhkafkepaaDoor
end
section
namespace Go.Proofs.YtfjpjhhkafkepaaDoor
end Go.Proofs.YtfjpjhhkafkepaaDoor
end

