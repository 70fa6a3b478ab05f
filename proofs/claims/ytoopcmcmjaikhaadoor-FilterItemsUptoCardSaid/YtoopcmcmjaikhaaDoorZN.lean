/- Texts of ours, merged: Nm, Sa, Sb, Sc, Sd, Se. -/
import Derived.Test.YtoopcmcmjaikhaaDoorZA
import Derived.Laws.BitsAll
import Derived.Deep.LoopGhost
section
namespace Go.Proofs.YtoopcmcmjaikhaaDoor
open Go.RowKit Go.Lib

/-- Byte i of a number. -/
def byteAt (n i : Nat) : Nat := n / 2 ^ (8 * i) % 256
theorem byteAt_lt (n i : Nat) : byteAt n i < 256 := Nat.mod_lt _ (by decide)
theorem mod_byte (n k : Nat) : n % 2 ^ (8 * (k + 1)) = n % 2 ^ (8 * k) + byteAt n k * 2 ^ (8 * k) := by
  unfold byteAt
  rw [Nat.mul_add, Nat.pow_add, Nat.mod_mul, Nat.mul_comm (2 ^ (8 * k))]
theorem byteAt_add {n f m : Nat} (hn : n < 2 ^ (8 * m)) (hf : f < 256) (i : Nat) : byteAt (n + f * 2 ^ (8 * m)) i = if i = m then f else byteAt n i := by
  unfold byteAt
  rcases Nat.lt_trichotomy i m with h | h | h
  · rw [if_neg (by omega)]
    have e : f * 2 ^ (8 * m) = 2 ^ (8 * i) * (256 * (f * 2 ^ (8 * (m - i - 1)))) := by
      have : 8 * m = 8 * i + (8 + 8 * (m - i - 1)) := by omega
      rw [this, Nat.pow_add, Nat.pow_add, show (2 : Nat) ^ 8 = 256 from rfl]
      ac_rfl
    rw [e, Nat.add_mul_div_left _ _ (Nat.two_pow_pos _), Nat.add_mul_mod_self_left]
  · subst h
    rw [if_pos rfl, Nat.add_mul_div_right _ _ (Nat.two_pow_pos _), Nat.div_eq_of_lt hn, Nat.zero_add, Nat.mod_eq_of_lt hf]
  · rw [if_neg (by omega)]
    have h1 : n + f * 2 ^ (8 * m) < 2 ^ (8 * i) := by
      have e : 2 ^ (8 * (m + 1)) ≤ 2 ^ (8 * i) := Nat.pow_le_pow_right (by decide) (by omega)
      refine Nat.lt_of_lt_of_le ?_ e
      rw [Nat.mul_add, Nat.pow_add]
      have h3 : f * 2 ^ (8 * m) ≤ 255 * 2 ^ (8 * m) := Nat.mul_le_mul_right _ (by omega)
      omega
    have h2 : n < 2 ^ (8 * i) := by omega
    rw [Nat.div_eq_of_lt h1, Nat.div_eq_of_lt h2]
/-- The number whose bytes are told. -/
def ofBytes (f : Nat → Nat) : Nat → Nat
  | 0 => 0
  | k + 1 => ofBytes f k + f k * 2 ^ (8 * k)
theorem ofBytes_lt {f : Nat → Nat} : ∀ {m : Nat}, (∀ i, i < m → f i < 256) → ofBytes f m < 2 ^ (8 * m)
  | 0, _ => by simp [ofBytes]
  | m + 1, h => by
    have h1 := ofBytes_lt (m := m) fun i hi => h i (by omega)
    have h2 := h m (by omega)
    rw [ofBytes, Nat.mul_add, Nat.pow_add]
    have h3 : f m * 2 ^ (8 * m) ≤ 255 * 2 ^ (8 * m) := Nat.mul_le_mul_right _ (by omega)
    omega
theorem byteAt_ofBytes {f : Nat → Nat} : ∀ {m : Nat}, (∀ i, i < m → f i < 256) → ∀ i, i < m → byteAt (ofBytes f m) i = f i
  | 0, _, i, hi => absurd hi (by omega)
  | m + 1, h, i, hi => by
    rw [ofBytes, byteAt_add (ofBytes_lt fun i hi => h i (by omega)) (h m (by omega))]
    rcases Nat.lt_or_ge i m with q | q
    · rw [if_neg (by omega), byteAt_ofBytes (fun i hi => h i (by omega)) i q]
    · obtain rfl : i = m := by omega
      rw [if_pos rfl]
theorem ofBytes_byteAt (n : Nat) : ∀ k, ofBytes (byteAt n) k = n % 2 ^ (8 * k)
  | 0 => by rw [ofBytes, Nat.mul_zero, Nat.pow_zero, Nat.mod_one]
  | k + 1 => by rw [ofBytes, ofBytes_byteAt n k, mod_byte]
theorem ofBytes_congr {f g : Nat → Nat} : ∀ {k : Nat}, (∀ i, i < k → f i = g i) → ofBytes f k = ofBytes g k
  | 0, _ => rfl
  | k + 1, h => by rw [ofBytes, ofBytes, ofBytes_congr (fun i hi => h i (by omega)), h k (by omega)]
theorem ofBytes_noughts {f : Nat → Nat} {k : Nat} : ∀ {m : Nat}, (∀ i, k ≤ i → f i = 0) → k ≤ m → ofBytes f m = ofBytes f k
  | 0, _, h => by obtain rfl : k = 0 := by omega
                  rfl
  | m + 1, hz, h => by
    rcases Nat.lt_or_ge m k with q | q
    · obtain rfl : k = m + 1 := by omega
      rfl
    · rw [ofBytes, ofBytes_noughts hz q, hz m q, Nat.zero_mul, Nat.add_zero]
theorem or_add {a f k : Nat} (ha : a < 2 ^ k) : a ||| f * 2 ^ k = a + f * 2 ^ k := by
  have := Nat.two_pow_add_eq_or_of_lt ha f
  rw [Nat.mul_comm f, Nat.or_comm, ← this, Nat.add_comm]
theorem or_byte64 {a f k : Nat} (hk : k < 8) (ha : a < 2 ^ (8 * k)) (hf : f < 256) : bits .or .u64 (a : Int) (IntKind.u64.wrap ((f : Int) * 2 ^ (8 * k))) = ((a + f * 2 ^ (8 * k) : Nat) : Int) := by
  have h1 : 2 ^ (8 * k) ≤ 2 ^ 56 := Nat.pow_le_pow_right (by decide) (by omega)
  have h2 : f * 2 ^ (8 * k) ≤ 255 * 2 ^ 56 := Nat.mul_le_mul (by omega) h1
  have e : ((f : Int) * 2 ^ (8 * k)) = ((f * 2 ^ (8 * k) : Nat) : Int) := by simp
  rw [e, IntKind.wrap_u64, Int.emod_eq_of_lt (by omega) (by omega), u64_or_nat _ _ (by omega) (by omega), or_add ha]
theorem or_byte32 {a f k : Nat} (hk : k < 4) (ha : a < 2 ^ (8 * k)) (hf : f < 256) : bits .or .u32 (a : Int) (IntKind.u32.wrap ((f : Int) * 2 ^ (8 * k))) = ((a + f * 2 ^ (8 * k) : Nat) : Int) := by
  have h1 : 2 ^ (8 * k) ≤ 2 ^ 24 := Nat.pow_le_pow_right (by decide) (by omega)
  have h2 : f * 2 ^ (8 * k) ≤ 255 * 2 ^ 24 := Nat.mul_le_mul (by omega) h1
  have e : ((f : Int) * 2 ^ (8 * k)) = ((f * 2 ^ (8 * k) : Nat) : Int) := by simp
  rw [e, IntKind.wrap_u32, Int.emod_eq_of_lt (by omega) (by omega), u32_or_nat _ _ (by omega) (by omega), or_add ha]
theorem byte_int (n k : Nat) : ((n : Int) / 2 ^ (8 * k)) % 256 = ((byteAt n k : Nat) : Int) := by
  unfold byteAt
  have e : ((n : Int) / 2 ^ (8 * k)) = ((n / 2 ^ (8 * k) : Nat) : Int) := by simp
  rw [e]
  omega

/-- How many bytes a count has that begins with b. -/
def wOf (b : Nat) : Nat := if b = 253 then 3 else if b = 254 then 5 else if b = 255 then 9 else 1
/-- A count's first byte. -/
def mk (n : Nat) : Nat := if n < 253 then n else if n ≤ 65535 then 253 else if n ≤ 4294967295 then 254 else 255
def wid (n : Nat) : Nat := wOf (mk n)
/-- A count's bytes. -/
def enc (n : Nat) : Nat → Nat := fun i => if i = 0 then mk n else byteAt n (i - 1)
/-- The first k of x, noughts behind. -/
def cut (x : Nat → Nat) (k : Nat) : Nat → Nat := fun i => if i < k then x i else 0
/-- What a form says. -/
def num (f : Nat → Nat) : Nat := if f 0 < 253 then f 0 else ofBytes (fun i => f (1 + i)) 8
/-- What bytes say as a count. -/
def val (x : Nat → Nat) : Nat := if x 0 < 253 then x 0 else ofBytes (fun i => x (1 + i)) (wOf (x 0) - 1)
theorem wOf_cases (b : Nat) : wOf b = 1 ∨ wOf b = 3 ∨ wOf b = 5 ∨ wOf b = 9 := by
  unfold wOf
  split
  · exact .inr (.inl rfl)
  · split
    · exact .inr (.inr (.inl rfl))
    · split
      · exact .inr (.inr (.inr rfl))
      · exact .inl rfl
theorem wOf_bd (b : Nat) : 1 ≤ wOf b ∧ wOf b ≤ 9 := by rcases wOf_cases b with h | h | h | h <;> omega
theorem wid_bd (n : Nat) : 1 ≤ wid n ∧ wid n ≤ 9 := wOf_bd _
theorem mk_lt (n : Nat) : mk n < 256 := by
  unfold mk
  split
  · omega
  · split
    · omega
    · split <;> omega
theorem enc_lt (n i : Nat) : enc n i < 256 := by
  unfold enc
  split
  · exact mk_lt n
  · exact byteAt_lt _ _
theorem cut_lt {x : Nat → Nat} (hx : ∀ i, x i < 256) (k i : Nat) : cut x k i < 256 := by
  unfold cut
  split
  · exact hx i
  · omega
theorem num_cut (x : Nat → Nat) : num (cut x (wOf (x 0))) = val x := by
  have h0 : cut x (wOf (x 0)) 0 = x 0 := by unfold cut; rw [if_pos (by have := wOf_bd (x 0); omega)]
  unfold num val
  rw [h0]
  split
  · rfl
  · have hw := wOf_bd (x 0)
    rw [ofBytes_noughts (k := wOf (x 0) - 1) (fun i hi => by unfold cut; rw [if_neg (by omega)]) (by omega)]
    exact ofBytes_congr fun i hi => by unfold cut; rw [if_pos (by omega)]
theorem val_lt {x : Nat → Nat} (hx : ∀ i, x i < 256) : val x < 18446744073709551616 := by
  unfold val
  split
  · have := hx 0; omega
  · have h := ofBytes_lt (f := fun i => x (1 + i)) (m := wOf (x 0) - 1) fun i _ => hx _
    have h2 : 2 ^ (8 * (wOf (x 0) - 1)) ≤ 2 ^ 64 := Nat.pow_le_pow_right (by decide) (by have := wOf_bd (x 0); omega)
    omega
theorem mk_of_wid {n b : Nat} (hb : b < 256) (h253 : 253 ≤ b) (h : wid n = wOf b) : mk n = b := by
  have h1 := mk_lt n
  unfold wid wOf at h
  repeat' split at h
  all_goals omega
/-- The shortest form of what bytes say is these bytes just where it has as many. -/
theorem form_same {x : Nat → Nat} (hx : ∀ i, x i < 256) (h : wid (val x) = wOf (x 0)) (i : Nat) : cut (enc (val x)) (wid (val x)) i = cut x (wOf (x 0)) i := by
  unfold cut
  rw [h]
  split
  · rename_i hi
    unfold enc
    by_cases h0 : x 0 < 253
    · have e : wOf (x 0) = 1 := by unfold wOf; rw [if_neg (by omega), if_neg (by omega), if_neg (by omega)]
      obtain rfl : i = 0 := by omega
      rw [if_pos rfl]
      unfold val mk
      rw [if_pos h0, if_pos h0]
    · split
      · subst i; exact mk_of_wid (hx 0) (by omega) h
      · unfold val
        rw [if_neg h0, byteAt_ofBytes (fun i _ => hx _) (i - 1) (by omega)]
        congr 1; omega
  · rfl
theorem form_other {x : Nat → Nat} (h : cut (enc (val x)) (wid (val x)) 0 = cut x (wOf (x 0)) 0) : wid (val x) = wOf (x 0) := by
  have h1 := wid_bd (val x)
  have h2 := wOf_bd (x 0)
  unfold cut at h
  rw [if_pos (by omega), if_pos (by omega)] at h
  unfold enc at h
  rw [if_pos rfl] at h
  unfold wid
  rw [h]
/-- A count's bytes say it. -/
theorem val_enc {n : Nat} {x : Nat → Nat} (hn : n < 18446744073709551616) (hx : ∀ i, i < wid n → x i = enc n i) : x 0 = mk n ∧ wOf (x 0) = wid n ∧ val x = n := by
  have hw := wid_bd n
  have h0 : x 0 = mk n := by rw [hx 0 (by omega)]; unfold enc; rw [if_pos rfl]
  have h1 : wOf (x 0) = wid n := by rw [h0]; rfl
  refine ⟨h0, h1, ?_⟩
  unfold val
  rw [h1]
  by_cases h253 : n < 253
  · have e : mk n = n := by unfold mk; rw [if_pos h253]
    rw [h0, e, if_pos h253]
  · have e : ¬ mk n < 253 := by
      unfold mk; rw [if_neg h253]; split
      · omega
      · split <;> omega
    rw [h0, if_neg e, ofBytes_congr (g := byteAt n) (fun i hi => by rw [hx (1 + i) (by omega)]; unfold enc; rw [if_neg (by omega)]; congr 1; omega), ofBytes_byteAt]
    refine Nat.mod_eq_of_lt ?_
    unfold wid mk wOf
    rw [if_neg h253]
    split
    · simp; omega
    · split
      · simp; omega
      · simp; omega
theorem wid_of {n : Nat} : wid n = if n < 253 then 1 else if n ≤ 65535 then 3 else if n ≤ 4294967295 then 5 else 9 := by
  unfold wid mk
  split
  · rename_i h
    unfold wOf
    rw [if_neg (by omega), if_neg (by omega), if_neg (by omega)]
  · split
    · rfl
    · split <;> rfl
/-- How a count's bytes are read. -/
def dec (n : Nat) (x : Nat → Nat) : Nat := if n < wOf (x 0) ∨ n = 0 then 50 else if wid (val x) = wOf (x 0) then 0 else 51
end Go.Proofs.YtoopcmcmjaikhaaDoor
end
section
set_option linter.unusedSimpArgs false
set_option maxRecDepth 100000
namespace Go.Proofs.YtoopcmcmjaikhaaDoor
open Go.RowKit Go.Lib

theorem int_of {k : IntKind} {a b : Int} (h : a = b) : Ending.returned (.int k a) = .returned (.int k b) := by rw [h]

set_option maxHeartbeats 1000000 in
theorem width_any (b : Nat) (hb : b < 256) (w : World) : Calls Tryd.prog 110 #[.int .u8 ((b : Nat) : Int)] w fun e w' => e = .returned (.int .i64 ((wOf b : Nat) : Int)) ∧ w = w' := by
  by_cases h1 : b = 253
  · subst h1
    go_enter Tryd.func110, Tryd.ntmps110
    go_wp2
    go_ret
    exact ⟨rfl, rfl⟩
  · by_cases h2 : b = 254
    · subst h2
      go_enter Tryd.func110, Tryd.ntmps110
      go_wp2
      go_ret
      exact ⟨rfl, rfl⟩
    · by_cases h3 : b = 255
      · subst h3
        go_enter Tryd.func110, Tryd.ntmps110
        go_wp2
        go_ret
        exact ⟨rfl, rfl⟩
      · have t1 : ((b : Int) == 253) = false := by simp; omega
        have t2 : ((b : Int) == 254) = false := by simp; omega
        have t3 : ((b : Int) == 255) = false := by simp; omega
        have e : wOf b = 1 := by unfold wOf; rw [if_neg h1, if_neg h2, if_neg h3]
        clear h1 h2 h3
        go_enter Tryd.func110, Tryd.ntmps110
        go_wp2
        go_ret
        exact ⟨by rw [e]; rfl, rfl⟩

set_option maxHeartbeats 1000000 in
theorem mark_any (n : Nat) (w : World) : Calls Tryd.prog 109 #[.int .u64 ((n : Nat) : Int)] w fun e w' => e = .returned (.int .u8 ((mk n : Nat) : Int)) ∧ w = w' := by
  by_cases h1 : n < 253
  · have e : mk n = n := by unfold mk; rw [if_pos h1]
    have h1' : (n : Int) < 253 := by omega
    go_enter Tryd.func109, Tryd.ntmps109
    go_wp2
    go_ret
    exact ⟨int_of (by rw [e]), rfl⟩
  · have t1 : decide ((n : Int) < 253) = false := by simp; omega
    by_cases h2 : n ≤ 65535
    · have e : mk n = 253 := by unfold mk; rw [if_neg h1, if_pos h2]
      have t2 : decide ((n : Int) ≤ 65535) = true := by simp; omega
      have E := Lib.hid e
      clear e h1 h2
      go_enter Tryd.func109, Tryd.ntmps109
      go_wp2
      go_ret
      exact ⟨int_of (by rw [E.out]; rfl), rfl⟩
    · have t2 : decide ((n : Int) ≤ 65535) = false := by simp; omega
      by_cases h3 : n ≤ 4294967295
      · have e : mk n = 254 := by unfold mk; rw [if_neg h1, if_neg h2, if_pos h3]
        have t3 : decide ((n : Int) ≤ 4294967295) = true := by simp; omega
        have E := Lib.hid e
        clear e h1 h2 h3
        go_enter Tryd.func109, Tryd.ntmps109
        go_wp2
        go_ret
        exact ⟨int_of (by rw [E.out]; rfl), rfl⟩
      · have e : mk n = 255 := by unfold mk; rw [if_neg h1, if_neg h2, if_neg h3]
        have t3 : decide ((n : Int) ≤ 4294967295) = false := by simp; omega
        have E := Lib.hid e
        clear e h1 h2 h3
        go_enter Tryd.func109, Tryd.ntmps109
        go_wp2
        go_ret
        exact ⟨int_of (by rw [E.out]; rfl), rfl⟩
end Go.Proofs.YtoopcmcmjaikhaaDoor
end
section
set_option linter.unusedSimpArgs false
set_option maxRecDepth 100000
namespace Go.Proofs.YtoopcmcmjaikhaaDoor
open Go.RowKit Go.Lib

theorem ret_of {k : IntKind} {a b : Int} (h : a = b) : Ending.returned (.int k a) = .returned (.int k b) := by rw [h]

set_option maxHeartbeats 2000000 in
theorem ref_number_any {w : World} {p : Option Addr} {g o n c : Nat} {x : Nat → Nat} (R : Hid (Row w p g o n c x)) (hn : n ≤ 8) : Calls Tryd.prog 75 #[.slice p n c] w fun e w' => e = .returned (.int .u64 ((ofBytes x n : Nat) : Int)) ∧ w = w' := by
  rcases Nat.eq_zero_or_pos n with h0 | h0
  · subst h0
    go_enter Tryd.func75, Tryd.ntmps75
    go_wp2
    go_loop [3, 8] (fun s i => s = .int .u64 0 ∧ i = .int .i64 0) (fun _ _ => 0)
    case atStart => exact ⟨rfl, rfl⟩
    case round =>
      obtain ⟨rfl, rfl⟩ := hrel
      go_wp2
      go_ret
      exact ⟨rfl, rfl⟩
  · obtain rfl := R.out.head h0
    go_enter Tryd.func75, Tryd.ntmps75
    go_wp2
    go_loop [3, 8] (fun s i => ∃ k : Nat, k ≤ n ∧ i = .int .i64 (k : Int) ∧ s = .int .u64 ((ofBytes x k : Nat) : Int)) (fun _ i => n - (intOf i).toNat)
    case atStart => exact ⟨0, by omega, rfl, rfl⟩
    case round =>
      obtain ⟨k, hk, rfl, rfl⟩ := hrel
      by_cases hlt : k < n
      · have c0 := R.out.cell k hlt
        have fl := R.out.byte k
        have OR := Lib.hid (or_byte64 (a := ofBytes x k) (f := x k) (k := k) (by omega) (ofBytes_lt fun i _ => R.out.byte i) fl)
        have t8 : (8 * (k : Int)).toNat = 8 * k := by omega
        have ol : ofBytes x k < 18446744073709551616 := by
          have h1 := ofBytes_lt (f := x) (m := k) fun i _ => R.out.byte i
          have h2 : 2 ^ (8 * k) ≤ 2 ^ 64 := Nat.pow_le_pow_right (by decide) (by omega)
          omega
        go_wp2
        go_round
        case rel => exact ⟨k + 1, by omega, by go_num, by rw [OR.out, ofBytes]⟩
        case measure => simp [intOf]; omega
      · obtain rfl : k = n := by omega
        go_wp2
        go_ret
        exact ⟨rfl, rfl⟩

end Go.Proofs.YtoopcmcmjaikhaaDoor
end
section
set_option linter.unusedSimpArgs false
set_option maxRecDepth 100000
namespace Go.Proofs.YtoopcmcmjaikhaaDoor
open Go.RowKit Go.Lib

abbrev frm (n : Nat) : Nat → Nat := cut (enc n) (wid n)
theorem infoF : (Tryd.prog.info? 115).map (fun i => (i.zero, i.size)) = some (some (.agg (arr 9 (bv fun _ => 0))), 9) := by kernel_rfl
theorem builtF (m : Nat) : Tryd.prog.built 115 (#[(0, .int .u8 (m : Int))] : Array (Nat × Value)).toList = some (arr 9 (bv fun i => if i = 0 then m else 0)) := by kernel_rfl
theorem cut_one (n : Nat) : arr 9 (bv fun i => if i = 0 then mk n else 0) = arr 9 (bv (cut (enc n) 1)) := arr_congr fun i _ => by
  have e : (if i = 0 then mk n else 0) = cut (enc n) 1 i := by
    unfold cut enc
    by_cases h : i = 0
    · rw [if_pos h, if_pos (by omega), if_pos h]
    · rw [if_neg h, if_neg (by omega)]
  unfold bv
  rw [← e]
theorem arr_cells (n : Nat) (f : Nat → Value) : (Value.agg (arr n f)).cells = arr n f := rfl
theorem cut_more (n k : Nat) : (arr 9 (bv (cut (enc n) (k + 1)))).setIfInBounds (1 + k) (.int .u8 ((byteAt n k : Nat) : Int)) = arr 9 (bv (cut (enc n) (k + 1 + 1))) := by
  rw [arr_set]
  refine arr_congr fun i _ => ?_
  unfold upd bv cut
  by_cases h : i = 1 + k
  · rw [if_pos h, if_pos (by omega)]
    unfold enc
    rw [if_neg (by omega)]
    subst h
    congr 3
    omega
  · rw [if_neg h]
    by_cases h2 : i < k + 1
    · rw [if_pos h2, if_pos (by omega)]
    · rw [if_neg h2, if_neg (by omega)]
set_option maxRecDepth 100000 in
set_option maxHeartbeats 2000000 in
theorem shortest_any (n : Nat) (w : World) : Calls Tryd.prog 74 #[.int .u64 ((n : Nat) : Int)] w fun e w' => e = .returned (.tuple #[.agg (arr 9 (bv (frm n))), .int .i64 ((wid n : Nat) : Int)]) ∧ Below w.heap.size w w' := by
  have E := Lib.hid (Mem.nil w)
  have hw := wid_bd n
  have bb := builtF (mk n)
  rw [cut_one] at bb
  have BB := Lib.hid bb
  have ml := mk_lt n
  have WM : Hid (∀ W : World, Calls Tryd.prog 110 #[.int .u8 ((mk n : Nat) : Int)] W fun e w' => e = .returned (.int .i64 ((wid n : Nat) : Int)) ∧ W = w') := Lib.hid (width_any (mk n) ml)
  clear bb
  go_enter Tryd.func74, Tryd.ntmps74
  go_wp2_with (first
    | (with_reducible refine mem_alloc E 115 rfl rfl infoF ?_; clear E; intro b w2 E; simp only [arr_cells] at E)
    | (go_at_call 109; refine (mark_any n _).mono ?_; rintro e w1 ⟨rfl, rfl⟩)
    | (go_at_call 110; refine (WM.out _).mono ?_; rintro e w1 ⟨rfl, rfl⟩)
    | (refine wpList_build_to rfl 115 _ rfl #[(0, .int .u8 ((mk n : Nat) : Int))] (by first | kernel_rfl | (simp; rfl)) _ BB.out ?_)
    | (refine mem_store_row 0 E 115 rfl _ _ rfl rfl rfl rfl (by kernel_rfl) (by rw [arr_size, arr_size]) (bv_one _ _) ?_; clear E; intro w2 E; simp only [List.set_cons_zero, List.set_cons_succ] at E)
    | (with_reducible refine mem_load_cell E 5 (by kernel_rfl) _ rfl rfl List.mem_cons_self Tryd.underlying5 rfl rfl ?_))
  rename_i b2 _ _ _ _
  clear BB WM
  go_loopg [15] (wid n - 1) (fun k i wr => ∃ j : Nat, j + k = wid n - 1 ∧ i = .int .i64 (j : Int) ∧ Hid (Mem w [(b, 115, arr 9 (bv (cut (enc n) (j + 1)))), (b2, 115, arr 9 (bv fun _ => 0))] wr))
  case atStart => exact ⟨0, by omega, rfl, E⟩
  case round =>
    clear E
    obtain ⟨j, hj, rfl, E⟩ := hrel
    obtain ⟨kk, rfl⟩ : ∃ kk : Nat, kk = gk := ⟨_, rfl⟩
    by_cases hlt : j < wid n - 1
    · have hlt' : (j : Int) < ((wid n : Nat) : Int) - 1 := by omega
      have BI := byte_int n j
      have t8 : (8 * (j : Int)).toNat = 8 * j := by omega
      have cm := Lib.hid (cut_more n j)
      go_wp2_with (refine mem_store_cell 0 E 5 rfl _ _ rfl rfl rfl rfl (by kernel_rfl) rfl rfl (arr_get 9 _ (1 + j) (by omega)) cm.out ?_; clear E; intro w3 E; simp only [List.set_cons_zero, List.set_cons_succ] at E)
      go_roundg (kk - 1)
      case measure => omega
      case rel => exact ⟨j + 1, by omega, by go_num, E⟩
    · have e : j + 1 = wid n := by omega
      rw [e] at E
      have hlt' : ¬ (j : Int) < ((wid n : Nat) : Int) - 1 := by omega
      clear e hj
      go_wp2_with (first
        | (with_reducible refine mem_load_row E 115 (by kernel_rfl) _ rfl rfl List.mem_cons_self Tryd.underlying115 rfl (by rw [arr_size]; kernel_rfl) ?_)
        | (refine mem_store_row 1 E 115 rfl _ _ rfl rfl rfl rfl (by kernel_rfl) (by rw [arr_size, arr_size]) (bv_one _ _) ?_; clear E; intro w2 E; simp only [List.set_cons_zero, List.set_cons_succ] at E))
      exact bodyPost_ret (res_row_tmp (fn := Tryd.f74) rfl _ _ b2 9 115 _ _ rfl (E.out.get (List.mem_cons_of_mem _ List.mem_cons_self)) Tryd.underlying115 rfl (by kernel_rfl)) rfl ⟨rfl, E.out.below⟩

set_option maxRecDepth 100000 in
set_option maxHeartbeats 2000000 in
theorem form_number_any (f : Nat → Nat) (hf : Hid (∀ i, f i < 256)) (w : World) : Calls Tryd.prog 113 #[.agg (arr 9 (bv f))] w fun e w' => e = .returned (.int .u64 ((num f : Nat) : Int)) ∧ Below w.heap.size w w' := by
  have E := Lib.hid (Mem.nil w)
  by_cases h0 : f 0 < 253
  · have t0 : decide ((f 0 : Int) < 253) = true := by simp; omega
    have en : num f = f 0 := by unfold num; rw [if_pos h0]
    have EN := Lib.hid en
    clear en
    go_enter Tryd.func113, Tryd.ntmps113
    go_wp2_with (first
      | (refine mem_box E 115 rfl _ rfl rfl (arr_cells 9 (bv f)) ?_; clear E; intro b w2 E)
      | (refine mem_load_cell E 5 (by kernel_rfl) _ rfl rfl List.mem_cons_self Tryd.underlying5 rfl (arr_get 9 _ 0 (by decide)) ?_; simp only [bv]))

    go_ret
    exact ⟨ret_of (by rw [EN.out]), E.out.below⟩
  · have t0 : decide ((f 0 : Int) < 253) = false := by simp; omega
    have en : num f = ofBytes (fun i => f (1 + i)) 8 := by unfold num; rw [if_neg h0]
    have EN := Lib.hid en
    clear en h0
    go_enter Tryd.func113, Tryd.ntmps113
    go_wp2_with (first
      | (refine mem_box E 115 rfl _ rfl rfl (arr_cells 9 (bv f)) ?_; clear E; intro b w2 E)
      | (refine mem_load_cell E 5 (by kernel_rfl) _ rfl rfl List.mem_cons_self Tryd.underlying5 rfl (arr_get 9 _ 0 (by decide)) ?_; simp only [bv]))
    go_loop [3, 14] (fun s i => ∃ k : Nat, k ≤ 8 ∧ i = .int .i64 (k : Int) ∧ s = .int .u64 ((ofBytes (fun i => f (1 + i)) k : Nat) : Int)) (fun _ i => 8 - (intOf i).toNat)
    case atStart => exact ⟨0, by omega, rfl, rfl⟩
    case round =>
      obtain ⟨k, hk, rfl, rfl⟩ := hrel
      by_cases hlt : k < 8
      · have c0 := cell_of_here (E.out.get List.mem_cons_self) (1 + k) (arr_get 9 (bv f) (1 + k) (by omega))
        simp only [bv] at c0
        have fl := hf.out (1 + k)
        have ob := ofBytes_lt (f := fun i => f (1 + i)) (m := k) fun i _ => hf.out (1 + i)
        have OR := Lib.hid (or_byte64 (a := ofBytes (fun i => f (1 + i)) k) (f := f (1 + k)) (k := k) (by omega) ob fl)
        have t8 : (8 * (k : Int)).toNat = 8 * k := by omega
        have ol : ofBytes (fun i => f (1 + i)) k < 18446744073709551616 := by
          have h2 : 2 ^ (8 * k) ≤ 2 ^ 64 := Nat.pow_le_pow_right (by decide) (by omega)
          omega
        clear ob
        go_wp2
        go_round
        case rel => exact ⟨k + 1, by omega, by go_num, by rw [OR.out, ofBytes]⟩
        case measure => simp [intOf]; omega
      · obtain rfl : k = 8 := by omega
        go_wp2
        go_ret
        exact ⟨ret_of (by rw [EN.out]), E.out.below⟩
end Go.Proofs.YtoopcmcmjaikhaaDoor
end
section
set_option linter.unusedSimpArgs false
set_option maxRecDepth 100000
namespace Go.Proofs.YtoopcmcmjaikhaaDoor
open Go.RowKit Go.Lib

theorem Mem.row {w0 w : World} {l : List (Nat × TypeId × Array Value)} (E : Mem w0 l w) {b T N : Nat} {f : Nat → Nat} (hm : (b, T, arr N (bv f)) ∈ l) (o n c : Nat) (h : o + n ≤ N) (hn : n ≤ c) (hc : c ≤ maxLen) (hf : ∀ i, f i < 256) :
    Row w (some ⟨b, o, none⟩) b o n c (fun i => f (o + i)) :=
  ⟨hn, hc, fun h => (by cases h), fun _ => rfl, fun i hi => cell_of_here (E.get hm) (o + i) (arr_get N (bv f) (o + i) (by omega)), fun i => hf _⟩
theorem run_formF (m : Nat) (hm : m ≤ 9) (b : Nat) (w : World) : (Instr.sliceAt 115 (.pointer (some ⟨b, 0, none⟩)) none (some (.int .i64 ((m : Nat) : Int))) (some (.int .i64 ((m : Nat) : Int)))).run Tryd.prog w = .ok (.slice (some ⟨b, 0, none⟩) m m) w := by
  have hl : Tryd.prog.arrayLen 115 = 9 := by kernel_rfl
  have he : Tryd.prog.elem 115 = 5 := by kernel_rfl
  have ht : Tryd.prog.underlying 115 = some (.array (Tryd.prog.arrayLen 115) (Tryd.prog.elem 115)) := by rw [hl, he]; exact Tryd.underlying115
  have hs : ∀ w, (Go.sizeOf 5).run Tryd.prog w = .ok 1 w := fun w => by kernel_rfl
  rw [run_sliceAt_array_hm w 115 ⟨b, 0, none⟩ ht .i64 .i64 m m (by omega) (by omega) (by rw [hl]; omega), he, hs]
  simp only [Result.andThen_ok, slicedAt, Int.toNat_natCast, Nat.zero_mul, Nat.sub_zero]
  congr 2
  split
  · rfl
  · rw [row_add]
theorem row_one (w : World) (v : Nat) (hv : v < 256) : Row (w.alloc (.cells #[.int .u8 ((v : Nat) : Int)] 5)) (some ⟨w.heap.size, 0, none⟩) w.heap.size 0 1 1 (fun _ => v) := (own_new w (fun _ => v) 1 (by unfold maxLen; omega) (fun _ => hv)).row

set_option maxRecDepth 100000 in
set_option maxHeartbeats 2000000 in
theorem low_any (n m : Nat) (hm : m ≤ 8) (w : World) : Calls Tryd.prog 60 #[.int .u64 ((n : Nat) : Int), .int .i64 ((m : Nat) : Int)] w (Gets w m (byteAt n)) := by
  go_enter Tryd.func60, Tryd.ntmps60
  go_wp2
  go_loopg [5, 8] m (fun k s i wr => ∃ (j : Nat) (p : Option Addr) (g c : Nat), j + k = m ∧ i = .int .i64 (j : Int) ∧ s = .slice p j c ∧ Hid (Own w.heap.size wr p g j c (byteAt n)) ∧ Hid (Below w.heap.size w wr))
  case atStart => exact ⟨0, none, 0, 0, by omega, rfl, rfl, Lib.hid (own_nothing _ _ _ (byteAt_lt n) (Nat.le_refl _)), Lib.hid (Below.refl _ _)⟩
  case round =>
    obtain ⟨j, p, g, c, hj, rfl, rfl, N, B⟩ := hrel
    obtain ⟨kk, rfl⟩ : ∃ kk : Nat, kk = gk := ⟨_, rfl⟩
    by_cases hlt : j < m
    · have BI := byte_int n j
      have t8 : (8 * (j : Int)).toNat = 8 * j := by omega
      have R := Lib.hid (row_one wr (byteAt n j) (byteAt_lt n j))
      have ba := below_new wr (.cells #[.int .u8 ((byteAt n j : Nat) : Int)] 5)
      have N1 := Lib.hid (N.out.below ba)
      have B1 := Lib.hid (B.out.trans (ba.mono B.out.size))
      clear ba N B
      go_wp2_with (at_builtin; refine wpList_app (.inl rfl) (.tmp 11) (.tmp 17) rfl rfl N1 rfl R (by omega) ?_)
      intro p' g' c' w' N' hb
      have B2 := Lib.hid (B1.out.trans hb.out)
      have N2 := Lib.hid (N'.out.to (y := byteAt n) (fun i hi => by
        unfold cat
        split
        · rfl
        · rw [show i = j by omega]) (byteAt_lt n))
      clear hb N' N1 B1 R
      go_wp2
      go_roundg (kk - 1)
      case measure => omega
      case rel => exact ⟨j + 1, p', g', c', by omega, by go_num, rfl, N2, B2⟩
    · obtain rfl : j = m := by omega
      go_wp2
      go_ret
      exact ⟨p, g, c, rfl, N.out, B.out⟩

set_option maxRecDepth 100000 in
set_option maxHeartbeats 2000000 in
theorem encode_any (n : Nat) (w : World) : Calls Tryd.prog 38 #[.int .u64 ((n : Nat) : Int)] w (Gets w (wid n) (enc n)) := by
  have E := Lib.hid (Mem.nil w)
  have hw := wid_bd n
  have sl := run_formF (wid n) (by omega)
  go_enter Tryd.func38, Tryd.ntmps38
  go_wp2_with (first
    | (go_at_call 74; refine (shortest_any n _).mono ?_; rintro e w1 ⟨rfl, hb⟩; replace E := Lib.hid (E.out.call hb); clear hb)
    | (refine mem_alloc E 115 rfl rfl infoF ?_; clear E; intro b w2 E; simp only [arr_cells] at E)
    | (refine mem_store_row 0 E 115 rfl _ _ rfl rfl rfl rfl (by kernel_rfl) (by rw [arr_size, arr_size]) (bv_one _ _) ?_; clear E; intro w2 E; simp only [List.set_cons_zero, List.set_cons_succ] at E)
    | (go_at_call 32; refine (clone_any (Lib.hid (E.out.row List.mem_cons_self 0 (wid n) (wid n) (by omega) (Nat.le_refl _) (by unfold maxLen; omega) (cut_lt (enc_lt n) (wid n)))) (by omega)).mono ?_; rintro e w1 ⟨p1, g1, c1, rfl, N1, hb⟩; have N := Lib.hid (N1.mono E.out.below.size); replace E := Lib.hid (E.out.call hb); clear hb N1))
  go_ret
  exact ⟨p1, g1, c1, rfl, N.out.to (fun i hi => by show cut (enc n) (wid n) (0 + i) = enc n i; unfold cut; rw [if_pos (by omega), Nat.zero_add]) (enc_lt n), E.out.below⟩
end Go.Proofs.YtoopcmcmjaikhaaDoor
end
section
set_option linter.unusedSimpArgs false
set_option maxRecDepth 100000
namespace Go.Proofs.YtoopcmcmjaikhaaDoor
open Go.RowKit Go.Lib

theorem enc_small {n : Nat} (h : n < 253) (i : Nat) (hi : i < 1) : (fun _ => n) i = enc n i := by
  obtain rfl : i = 0 := by omega
  show n = enc n 0
  unfold enc mk
  rw [if_pos rfl, if_pos h]
theorem enc_cat {n m : Nat} (h : mk n = m) (k : Nat) (i : Nat) (_ : i < 1 + k) : cat (fun _ => m) 1 (byteAt n) i = enc n i := by
  unfold cat enc
  by_cases h0 : i = 0
  · rw [if_pos (by omega), if_pos h0, h]
  · rw [if_neg (by omega), if_neg h0]

set_option maxRecDepth 100000 in
set_option maxHeartbeats 2000000 in
theorem ref_encode_any (n : Nat) (w : World) : Calls Tryd.prog 43 #[.int .u64 ((n : Nat) : Int)] w (Gets w (wid n) (enc n)) := by
  have E := Lib.hid (Mem.nil w)
  have hwd := wid_of (n := n)
  by_cases h1 : n < 253
  · have t1 : decide ((n : Int) < 253) = true := by simp; omega
    rw [if_pos h1] at hwd
    have hc : (n : Int) % 256 = (n : Int) := by omega
    have HW := Lib.hid hwd
    have EC := Lib.hid (fun i hi => enc_small h1 i hi)
    clear hwd
    go_enter Tryd.func43, Tryd.ntmps43
    go_wp2
    go_ret
    rw [Gets, HW.out]
    exact ⟨_, _, 1, rfl, (own_new w (fun _ => n) 1 (by unfold maxLen; omega) (fun _ => by omega)).to EC.out (enc_lt n), below_new w _⟩
  · have t1 : decide ((n : Int) < 253) = false := by simp; omega
    rw [if_neg h1] at hwd
    by_cases h2 : n ≤ 65535
    · have t2 : decide ((n : Int) ≤ 65535) = true := by simp; omega
      rw [if_pos h2] at hwd
      have em : mk n = 253 := by unfold mk; rw [if_neg h1, if_pos h2]
      have HW := Lib.hid hwd
      have EC := Lib.hid (fun i hi => enc_cat em 2 i hi)
      have K : Hid (Work w [] w.heap.size _ w.heap.size 1 1 (fun _ => 253) (w.alloc (.cells #[.int .u8 253] 5))) := Lib.hid (Work.start E.out (own_new w (fun _ => 253) 1 (by unfold maxLen; omega) (fun _ => by omega)) (below_new w _))
      clear hwd em h1 h2
      go_enter Tryd.func43, Tryd.ntmps43
      go_wp2_with (first
        | (go_at_call 60; refine (low_any n 2 (by omega) _).mono ?_; rintro e w1 ⟨p1, g1, c1, rfl, N1, hb⟩; have N := Lib.hid N1; replace K := Lib.hid (K.out.call hb); clear hb N1)
        | (at_builtin; refine wpList_wapp (.inl rfl) (.tmp 12) (.tmp 14) rfl K rfl rfl (Lib.hid N.out.row) (by omega) ?_; clear K; intro p3 g3 c3 w3 K))
      go_ret
      rw [Gets, HW.out]
      exact ⟨p3, g3, c3, rfl, (K.out.to EC.out (enc_lt n)).gets.1, K.out.gets.2⟩
    · have t2 : decide ((n : Int) ≤ 65535) = false := by simp; omega
      rw [if_neg h2] at hwd
      by_cases h3 : n ≤ 4294967295
      · have t3 : decide ((n : Int) ≤ 4294967295) = true := by simp; omega
        rw [if_pos h3] at hwd
        have em : mk n = 254 := by unfold mk; rw [if_neg h1, if_neg h2, if_pos h3]
        have HW := Lib.hid hwd
        have EC := Lib.hid (fun i hi => enc_cat em 4 i hi)
        have K : Hid (Work w [] w.heap.size _ w.heap.size 1 1 (fun _ => 254) (w.alloc (.cells #[.int .u8 254] 5))) := Lib.hid (Work.start E.out (own_new w (fun _ => 254) 1 (by unfold maxLen; omega) (fun _ => by omega)) (below_new w _))
        clear hwd em h1 h2 h3
        go_enter Tryd.func43, Tryd.ntmps43
        go_wp2_with (first
          | (go_at_call 60; refine (low_any n 4 (by omega) _).mono ?_; rintro e w1 ⟨p1, g1, c1, rfl, N1, hb⟩; have N := Lib.hid N1; replace K := Lib.hid (K.out.call hb); clear hb N1)
          | (at_builtin; refine wpList_wapp (.inl rfl) (.tmp 19) (.tmp 21) rfl K rfl rfl (Lib.hid N.out.row) (by omega) ?_; clear K; intro p3 g3 c3 w3 K))
        go_ret
        rw [Gets, HW.out]
        exact ⟨p3, g3, c3, rfl, (K.out.to EC.out (enc_lt n)).gets.1, K.out.gets.2⟩
      · have t3 : decide ((n : Int) ≤ 4294967295) = false := by simp; omega
        rw [if_neg h3] at hwd
        have em : mk n = 255 := by unfold mk; rw [if_neg h1, if_neg h2, if_neg h3]
        have HW := Lib.hid hwd
        have EC := Lib.hid (fun i hi => enc_cat em 8 i hi)
        have K : Hid (Work w [] w.heap.size _ w.heap.size 1 1 (fun _ => 255) (w.alloc (.cells #[.int .u8 255] 5))) := Lib.hid (Work.start E.out (own_new w (fun _ => 255) 1 (by unfold maxLen; omega) (fun _ => by omega)) (below_new w _))
        clear hwd em h1 h2 h3
        go_enter Tryd.func43, Tryd.ntmps43
        go_wp2_with (first
          | (go_at_call 60; refine (low_any n 8 (by omega) _).mono ?_; rintro e w1 ⟨p1, g1, c1, rfl, N1, hb⟩; have N := Lib.hid N1; replace K := Lib.hid (K.out.call hb); clear hb N1)
          | (at_builtin; refine wpList_wapp (.inl rfl) (.tmp 23) (.tmp 25) rfl K rfl rfl (Lib.hid N.out.row) (by omega) ?_; clear K; intro p3 g3 c3 w3 K))
        go_ret
        rw [Gets, HW.out]
        exact ⟨p3, g3, c3, rfl, (K.out.to EC.out (enc_lt n)).gets.1, K.out.gets.2⟩

/-- A text: its count, and its bytes. -/
def txt (x : Nat → Nat) (n : Nat) : Nat → Nat := cat (enc n) (wid n) x
theorem txt_lt {x : Nat → Nat} (hx : ∀ i, x i < 256) (n i : Nat) : txt x n i < 256 := cat_byte _ (enc_lt n) hx i

end Go.Proofs.YtoopcmcmjaikhaaDoor
end
