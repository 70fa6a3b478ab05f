/- A header's cells and its bytes, as plain functions; what the program's table says of its type. -/
import Derived.Test.YtoopcmcmjaikhaaDoorLo
import Derived.Test.YtoopcmcmjaikhaaDoorZA
import Derived.Test.YtoopcmcmjaikhaaDoorZN
set_option linter.unusedSimpArgs false
set_option maxRecDepth 100000
namespace Go.Proofs.YtoopcmcmjaikhaaDoor
open Go.RowKit Go.Lib

structure Hd where
  v : Nat
  prev : Nat → Nat
  merkle : Nat → Nat
  t : Nat
  b : Nat
  n : Nat
structure Hd.Ok (h : Hd) : Prop where
  v : h.v < 4294967296
  t : h.t < 4294967296
  b : h.b < 4294967296
  n : h.n < 4294967296
  prev : ∀ i, h.prev i < 256
  merkle : ∀ i, h.merkle i < 256
/-- The cells of a header. -/
def hc (h : Hd) : Nat → Value := fun i =>
  if i = 0 then .int .u32 ((h.v : Nat) : Int) else if i ≤ 32 then .int .u8 ((h.prev (i - 1) : Nat) : Int) else if i ≤ 64 then .int .u8 ((h.merkle (i - 33) : Nat) : Int)
  else if i = 65 then .int .u32 ((h.t : Nat) : Int) else if i = 66 then .int .u32 ((h.b : Nat) : Int) else .int .u32 ((h.n : Nat) : Int)
/-- Its bytes. -/
def hb (h : Hd) : Nat → Nat := fun i =>
  if i < 4 then byteAt h.v i else if i < 36 then h.prev (i - 4) else if i < 68 then h.merkle (i - 36) else if i < 72 then byteAt h.t (i - 68) else if i < 76 then byteAt h.b (i - 72) else byteAt h.n (i - 76)
/-- The header of bytes. -/
def hdOf (x : Nat → Nat) : Hd := ⟨ofBytes x 4, fun i => x (4 + i), fun i => x (36 + i), ofBytes (fun i => x (68 + i)) 4, ofBytes (fun i => x (72 + i)) 4, ofBytes (fun i => x (76 + i)) 4⟩
def h0 : Hd := ⟨0, fun _ => 0, fun _ => 0, 0, 0, 0⟩
theorem hb_lt {h : Hd} (ok : h.Ok) (i : Nat) : hb h i < 256 := by
  unfold hb
  repeat' split
  all_goals first | exact byteAt_lt _ _ | exact ok.prev _ | exact ok.merkle _
theorem hdOf_ok {x : Nat → Nat} (hx : ∀ i, x i < 256) : (hdOf x).Ok := by
  have h4 : ∀ f : Nat → Nat, (∀ i, f i < 256) → ofBytes f 4 < 4294967296 := fun f hf => by
    have := ofBytes_lt (f := f) (m := 4) fun i _ => hf i
    simpa using this
  exact ⟨h4 _ hx, h4 _ (fun i => hx _), h4 _ (fun i => hx _), h4 _ (fun i => hx _), fun i => hx _, fun i => hx _⟩
theorem hb_hdOf {x : Nat → Nat} (hx : ∀ i, x i < 256) (i : Nat) (hi : i < 80) : hb (hdOf x) i = x i := by
  unfold hb hdOf
  simp only
  split
  · exact byteAt_ofBytes (fun i _ => hx i) i (by omega)
  · split
    · congr 1; omega
    · split
      · congr 1; omega
      · split
        · rw [byteAt_ofBytes (fun i _ => hx _) _ (by omega)]; congr 1; omega
        · split
          · rw [byteAt_ofBytes (fun i _ => hx _) _ (by omega)]; congr 1; omega
          · rw [byteAt_ofBytes (fun i _ => hx _) _ (by omega)]; congr 1; omega
/-- A header read from its bytes: its cells are the same. -/
theorem hc_back {h : Hd} (ok : h.Ok) {x : Nat → Nat} (hx : ∀ i, i < 80 → x i = hb h i) : arr 68 (hc (hdOf x)) = arr 68 (hc h) := by
  have h4 : ∀ n, n < 4294967296 → ofBytes (byteAt n) 4 = n := fun n hn => by
    rw [ofBytes_byteAt]; exact Nat.mod_eq_of_lt (by simpa using hn)
  have e1 : (hdOf x).v = h.v := by
    show ofBytes x 4 = _
    rw [ofBytes_congr (g := byteAt h.v) (fun i hi => by rw [hx i (by omega)]; unfold hb; rw [if_pos (by omega)])]
    exact h4 _ ok.v
  have e2 : (hdOf x).t = h.t := by
    show ofBytes (fun i => x (68 + i)) 4 = _
    rw [ofBytes_congr (g := byteAt h.t) (fun i hi => by rw [hx _ (by omega)]; unfold hb; rw [if_neg (by omega), if_neg (by omega), if_neg (by omega), if_pos (by omega)]; congr 1; omega)]
    exact h4 _ ok.t
  have e3 : (hdOf x).b = h.b := by
    show ofBytes (fun i => x (72 + i)) 4 = _
    rw [ofBytes_congr (g := byteAt h.b) (fun i hi => by rw [hx _ (by omega)]; unfold hb; rw [if_neg (by omega), if_neg (by omega), if_neg (by omega), if_neg (by omega), if_pos (by omega)]; congr 1; omega)]
    exact h4 _ ok.b
  have e4 : (hdOf x).n = h.n := by
    show ofBytes (fun i => x (76 + i)) 4 = _
    rw [ofBytes_congr (g := byteAt h.n) (fun i hi => by rw [hx _ (by omega)]; unfold hb; rw [if_neg (by omega), if_neg (by omega), if_neg (by omega), if_neg (by omega), if_neg (by omega)]; congr 1; omega)]
    exact h4 _ ok.n
  refine arr_congr fun i hi => ?_
  unfold hc
  rw [e1, e2, e3, e4]
  by_cases c0 : i = 0
  · rw [if_pos c0, if_pos c0]
  · rw [if_neg c0, if_neg c0]
    by_cases c1 : i ≤ 32
    · rw [if_pos c1, if_pos c1]
      show Value.int .u8 ((x (4 + (i - 1)) : Nat) : Int) = _
      rw [hx _ (by omega)]
      unfold hb
      rw [if_neg (by omega), if_pos (by omega)]
      congr 3; omega
    · rw [if_neg c1, if_neg c1]
      by_cases c2 : i ≤ 64
      · rw [if_pos c2, if_pos c2]
        show Value.int .u8 ((x (36 + (i - 33)) : Nat) : Int) = _
        rw [hx _ (by omega)]
        unfold hb
        rw [if_neg (by omega), if_neg (by omega), if_pos (by omega)]
        congr 3; omega
      · rw [if_neg c2, if_neg c2]
theorem hc_v (h : Hd) : (arr 68 (hc h))[0]? = some (.int .u32 ((h.v : Nat) : Int)) := arr_get 68 _ 0 (by decide)
theorem hc_t (h : Hd) : (arr 68 (hc h))[65]? = some (.int .u32 ((h.t : Nat) : Int)) := arr_get 68 _ 65 (by decide)
theorem hc_b (h : Hd) : (arr 68 (hc h))[66]? = some (.int .u32 ((h.b : Nat) : Int)) := arr_get 68 _ 66 (by decide)
theorem hc_n (h : Hd) : (arr 68 (hc h))[67]? = some (.int .u32 ((h.n : Nat) : Int)) := arr_get 68 _ 67 (by decide)
theorem hc_one (h : Hd) : (arr 68 (hc h)).all (·.oneCell') = true := Array.all_eq_true_iff_forall_mem.2 fun v hv => by
  unfold arr at hv
  simp at hv
  obtain ⟨i, _, rfl⟩ := hv
  unfold hc
  repeat' split
  all_goals rfl
theorem infoH : (Tryd.prog.info? 28).map (fun i => (i.zero, i.size)) = some (some (.agg (arr 68 (hc h0))), 68) := by kernel_rfl
theorem built_h0 : Tryd.prog.built 28 (#[] : Array (Nat × Value)).toList = some (arr 68 (hc h0)) := by kernel_rfl
section
variable {w w0 : World} {l : List (Nat × TypeId × Array Value)} {b : Nat} {h : Hd}
theorem Mem.prev (E : Mem w0 l w) (hm : (b, 28, arr 68 (hc h)) ∈ l) (ok : h.Ok) : Row w (some ⟨b, 1, none⟩) b 1 32 32 h.prev :=
  ⟨Nat.le_refl _, by unfold maxLen; omega, fun e => (by cases e), fun _ => rfl, fun i hi => by
    rw [cell_of_here (E.get hm) (1 + i) (arr_get 68 (hc h) (1 + i) (by omega))]
    unfold hc
    rw [if_neg (by omega), if_pos (by omega)]
    congr 4; omega, ok.prev⟩
theorem Mem.merkle (E : Mem w0 l w) (hm : (b, 28, arr 68 (hc h)) ∈ l) (ok : h.Ok) : Row w (some ⟨b, 33, none⟩) b 33 32 32 h.merkle :=
  ⟨Nat.le_refl _, by unfold maxLen; omega, fun e => (by cases e), fun _ => rfl, fun i hi => by
    rw [cell_of_here (E.get hm) (33 + i) (arr_get 68 (hc h) (33 + i) (by omega))]
    unfold hc
    rw [if_neg (by omega), if_neg (by omega), if_pos (by omega)]
    congr 4; omega, ok.merkle⟩
end
/-- A header's bytes, part by part. -/
theorem enc_parts (h : Hd) (i : Nat) (hi : i < 80) : cat (cat (cat (cat (cat (cat (fun _ => 0) 0 (byteAt h.v)) 4 h.prev) 36 h.merkle) 68 (byteAt h.t)) 72 (byteAt h.b)) 76 (byteAt h.n) i = hb h i := by
  unfold cat hb
  repeat' split
  all_goals first | rfl | omega
end Go.Proofs.YtoopcmcmjaikhaaDoor

