/- A text's bytes, and a count's, read again: what they say. -/
import Derived.Test.YthnddiimkgahgaaSo
namespace Go.Proofs.Ythnddiimkgahgaa
open Go.RowKit Go.Lib

theorem Row.take {w : World} {p : Option Addr} {g o n c q : Nat} {x : Nat → Nat} (h : Row w p g o n c x) (hq : q ≤ n) : Row w p g o q c x :=
  ⟨Nat.le_trans hq h.le, h.cap, fun e => ⟨by have := (h.nil e).1; omega, (h.nil e).2⟩, fun e => h.head (by omega), fun i hi => h.cell i (by omega), h.byte⟩
theorem work_one {w0 w w' : World} (B : Below w0.heap.size w0 w) (v : Nat) (hv : v < 256) (hb : Below (w.alloc (.cells #[.int .u8 ((v : Nat) : Int)] 5)).heap.size (w.alloc (.cells #[.int .u8 ((v : Nat) : Int)] 5)) w') :
    Work w0 [] w.heap.size (some ⟨w.heap.size, 0, none⟩) w.heap.size 1 1 (fun _ => v) w' :=
  (Work.start (l := []) ⟨B, fun _ h => (by cases h), List.nodup_nil, fun _ h => (by cases h)⟩ (own_new w (fun _ => v) 1 (by unfold maxLen; omega) (fun _ => hv)) (below_new w _)).call hb
theorem enc_said {n m : Nat} {x : Nat → Nat} (hn : n < 18446744073709551616) (hx : ∀ i, i < wid n → x i = enc n i) (hm : wid n ≤ m) : dec m x = 0 ∧ wOf (x 0) = wid n ∧ val x = n := by
  obtain ⟨_, h1, h2⟩ := val_enc hn hx
  have hw := wid_bd n
  refine ⟨?_, h1, h2⟩
  unfold dec
  rw [h1, h2, if_neg (by omega), if_pos rfl]
theorem txt_said {n m : Nat} (x : Nat → Nat) (hn : n < 18446744073709551616) (hm : wid n ≤ m) : dec m (txt x n) = 0 ∧ wOf (txt x n 0) = wid n ∧ val (txt x n) = n :=
  enc_said hn (fun i hi => by unfold txt cat; rw [if_pos hi]) hm
theorem enc_short {n q : Nat} (h : q < wid n) : dec q (enc n) = 50 := by
  have e : wOf (enc n 0) = wid n := by
    show wOf (if 0 = 0 then mk n else _) = _
    rw [if_pos rfl]; rfl
  unfold dec
  rw [e, if_pos (.inl h)]
/-- The widest form of a count. -/
def wide (n : Nat) : Nat → Nat := cat (fun _ => 255) 1 (byteAt n)
theorem wide_lt (n i : Nat) : wide n i < 256 := cat_byte 1 (fun _ => by omega) (byteAt_lt n) i
theorem wide_said {n : Nat} (hn : n < 18446744073709551616) : wOf (wide n 0) = 9 ∧ val (wide n) = n ∧ dec 9 (wide n) = if 4294967296 ≤ n then 0 else 51 := by
  have h0 : wide n 0 = 255 := rfl
  have h1 : wOf (wide n 0) = 9 := by rw [h0]; rfl
  have h2 : val (wide n) = n := by
    unfold val
    rw [h1, h0, if_neg (by omega), ofBytes_congr (g := byteAt n) (fun i _ => by unfold wide cat; rw [if_neg (by omega)]; congr 1; omega), ofBytes_byteAt]
    exact Nat.mod_eq_of_lt (by simp; omega)
  refine ⟨h1, h2, ?_⟩
  unfold dec
  have hw : wid n = 9 ↔ 4294967296 ≤ n := by
    rw [wid_of]
    split
    · omega
    · split
      · omega
      · split <;> omega
  rw [h1, h2, if_neg (by omega)]
  by_cases h : 4294967296 ≤ n
  · rw [if_pos h, if_pos (hw.2 h)]
  · rw [if_neg h, if_neg (fun e => h (hw.1 e))]
end Go.Proofs.Ythnddiimkgahgaa
