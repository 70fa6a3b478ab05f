/- A header written. -/
import Derived.Test.YtoopcmcmjaikhaaDoorHa
set_option linter.unusedSimpArgs false
namespace Go.Proofs.YtoopcmcmjaikhaaDoor
open Go.RowKit Go.Lib

theorem own_four (w : World) (v : Nat) : Own w.heap.size (w.alloc (.cells #[.int .u8 ((byteAt v 0 : Nat) : Int), .int .u8 ((byteAt v 1 : Nat) : Int), .int .u8 ((byteAt v 2 : Nat) : Int), .int .u8 ((byteAt v 3 : Nat) : Int)] 5)) (some ⟨w.heap.size, 0, none⟩) w.heap.size 4 4 (byteAt v) := own_new w (byteAt v) 4 (by unfold maxLen; omega) (byteAt_lt v)
set_option maxRecDepth 100000 in
set_option maxHeartbeats 2000000 in
theorem hput_any {B : Nat} {w : World} {p : Option Addr} {g n c v : Nat} {x : Nat → Nat} (N : Hid (Own B w p g n c x)) (hv : v < 4294967296) (hn : n ≤ 1048576) :
    Calls Tryd.prog 95 #[.slice p n c, .int .u32 ((v : Nat) : Int)] w fun e w' => ∃ p' g' c', e = .returned (.slice p' (n + 4) c') ∧ Own B w' p' g' (n + 4) c' (cat x n (byteAt v)) ∧ Below B w w' := by
  have e0 : ((v : Nat) : Int) % 256 = ((byteAt v 0 : Nat) : Int) := by unfold byteAt; simp
  have e1 : ((v : Nat) : Int) / 256 % 256 = ((byteAt v 1 : Nat) : Int) := by unfold byteAt; simp
  have e2 : ((v : Nat) : Int) / 65536 % 256 = ((byteAt v 2 : Nat) : Int) := by unfold byteAt; simp
  have e3 : ((v : Nat) : Int) / 16777216 = ((byteAt v 3 : Nat) : Int) := by unfold byteAt; simp; omega
  have N1 := Lib.hid (N.out.below (below_new w (.cells #[.int .u8 ((byteAt v 0 : Nat) : Int), .int .u8 ((byteAt v 1 : Nat) : Int), .int .u8 ((byteAt v 2 : Nat) : Int), .int .u8 ((byteAt v 3 : Nat) : Int)] 5)))
  have R := Lib.hid (own_four w v).row
  have B1 := Lib.hid (show Below B w (w.alloc (.cells #[.int .u8 ((byteAt v 0 : Nat) : Int), .int .u8 ((byteAt v 1 : Nat) : Int), .int .u8 ((byteAt v 2 : Nat) : Int), .int .u8 ((byteAt v 3 : Nat) : Int)] 5)) from (below_new w _).mono N.out.low)
  go_enter Tryd.func95, Tryd.ntmps95
  go_wp2_with (at_builtin; refine wpList_app (.inl rfl) (.tmp 5) (.tmp 17) rfl rfl N1 rfl R (by omega) ?_)
  intro p3 g3 c3 w3 N3 hb
  have B3 := Lib.hid (B1.out.trans hb.out)
  clear hb
  go_wp2
  go_ret
  exact ⟨p3, g3, c3, rfl, N3.out, B3.out⟩

set_option maxRecDepth 100000 in
set_option maxHeartbeats 4000000 in
theorem henc_any {h : Hd} (ok : Hid h.Ok) (w : World) : Calls Tryd.prog 62 #[.agg (arr 68 (hc h))] w (Gets w 80 (hb h)) := by
  have E := Lib.hid (Mem.nil w)
  have sl := run_hash
  go_enter Tryd.func62, Tryd.ntmps62
  go_wp2_with (first
    | (refine mem_box E 28 rfl _ rfl rfl (arr_cells' 68 (hc h)) ?_; clear E; intro b w2 E)
    | (at_make; refine wpList_mk rfl _ _ rfl E 80 80 rfl rfl rfl (by omega) ?_; clear E; intro B p1 g1 w2 K)
    | (refine mem_load_cell (Lib.hid K.out.mem) 26 (by kernel_rfl) (.tmp 6) rfl rfl List.mem_cons_self Tryd.underlying26 rfl (hc_v h) ?_)
    | (refine mem_load_cell (Lib.hid K.out.mem) 26 (by kernel_rfl) (.tmp 18) rfl rfl List.mem_cons_self Tryd.underlying26 rfl (hc_t h) ?_)
    | (refine mem_load_cell (Lib.hid K.out.mem) 26 (by kernel_rfl) (.tmp 22) rfl rfl List.mem_cons_self Tryd.underlying26 rfl (hc_b h) ?_)
    | (refine mem_load_cell (Lib.hid K.out.mem) 26 (by kernel_rfl) (.tmp 26) rfl rfl List.mem_cons_self Tryd.underlying26 rfl (hc_n h) ?_)
    | (go_at_call 95; refine (hput_any (Lib.hid K.out.own) (by first | exact ok.out.v | exact ok.out.t | exact ok.out.b | exact ok.out.n) (by omega)).mono ?_; rintro e w3 ⟨p2, g2, c2, rfl, N2, hb2⟩; replace K := Lib.hid (K.out.turn N2 hb2); simp only [Nat.reduceAdd] at K; clear N2 hb2)
    | (at_builtin; refine wpList_wapp (.inl rfl) (.tmp 9) (.tmp 11) rfl K rfl rfl (Lib.hid (K.out.mem.prev List.mem_cons_self ok.out)) (by omega) ?_; clear K; intro p4 g4 c4 w4 K; simp only [Nat.reduceAdd] at K)
    | (at_builtin; refine wpList_wapp (.inl rfl) (.tmp 13) (.tmp 15) rfl K rfl rfl (Lib.hid (K.out.mem.merkle List.mem_cons_self ok.out)) (by omega) ?_; clear K; intro p4 g4 c4 w4 K; simp only [Nat.reduceAdd] at K))
  go_ret
  exact ⟨_, _, _, rfl, (K.out.to (enc_parts h) (hb_lt ok.out)).gets.1, K.out.gets.2⟩
end Go.Proofs.YtoopcmcmjaikhaaDoor

