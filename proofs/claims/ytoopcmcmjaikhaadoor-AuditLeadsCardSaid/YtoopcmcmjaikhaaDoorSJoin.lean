/- The program's join: eight words as 32 bytes; what lay in memory stays. -/
import Derived.Test.YtoopcmcmjaikhaaDoorSHash
set_option maxRecDepth 100000
namespace Go.Proofs.YtoopcmcmjaikhaaDoor.S
open Go.RowKit Go.Lib
attribute [local go_sem ↓] Go.wp_at_zero Go.wp_at_succ

theorem digest_0 (s : R8) (i : Nat) : digest s (4 * i) = .int .u8 (s.nth i / 16777216 % 256) := by
  unfold digest
  have e1 : 4 * i / 4 = i := by omega
  have e2 : 4 * i % 4 = 0 := by omega
  have p : (2 : Int) ^ (24 - 8 * 0) = 16777216 := by decide
  rw [e1, e2, p]
theorem digest_1 (s : R8) (i : Nat) : digest s (4 * i + 1) = .int .u8 (s.nth i / 65536 % 256) := by
  unfold digest
  have e1 : (4 * i + 1) / 4 = i := by omega
  have e2 : (4 * i + 1) % 4 = 1 := by omega
  have p : (2 : Int) ^ (24 - 8 * 1) = 65536 := by decide
  rw [e1, e2, p]
theorem digest_2 (s : R8) (i : Nat) : digest s (4 * i + 2) = .int .u8 (s.nth i / 256 % 256) := by
  unfold digest
  have e1 : (4 * i + 2) / 4 = i := by omega
  have e2 : (4 * i + 2) % 4 = 2 := by omega
  have p : (2 : Int) ^ (24 - 8 * 2) = 256 := by decide
  rw [e1, e2, p]
theorem digest_3 (s : R8) (i : Nat) : digest s (4 * i + 3) = .int .u8 (s.nth i % 256) := by
  unfold digest
  have e1 : (4 * i + 3) / 4 = i := by omega
  have e2 : (4 * i + 3) % 4 = 3 := by omega
  rw [e1, e2]
  simp
/-- The first t bytes of a digest, noughts behind them. -/
def digTo (s : R8) (t : Nat) : Nat → Value := fun i => if i < t then digest s i else .int .u8 0
theorem digTo_step (s : R8) (t : Nat) (v : Value) (hv : v = digest s t) (i : Nat) : upd (digTo s t) t v i = digTo s (t + 1) i := by
  unfold upd digTo
  by_cases e : i = t
  · subst e; rw [if_pos rfl, if_pos (by omega), hv]
  · rw [if_neg e]
    by_cases e2 : i < t
    · rw [if_pos e2, if_pos (by omega)]
    · rw [if_neg e2, if_neg (by omega)]

set_option maxRecDepth 100000 in
set_option maxHeartbeats 2000000 in
theorem join_any (s : R8) (hs : s.In) (w : World) : Calls Tryd.prog 129 #[.agg (arr 8 (rv s))] w fun e w' => e = .returned (.agg (arr 32 (digest s))) ∧ Below w.heap.size w w' := by
  have ix := run_index40 s.a s.b s.c s.d s.e s.f s.g s.h
  have hn : ∀ q, In32 (s.nth q) := fun q => by
    unfold R8.nth
    split
    · exact hs.a
    · split
      · exact hs.b
      · split
        · exact hs.c
        · split
          · exact hs.d
          · split
            · exact hs.e
            · split
              · exact hs.f
              · split
                · exact hs.g
                · exact hs.h
  have HN := Lib.hid hn
  clear hs hn
  rw [lit8_eq]
  unfold lit8
  go_enter Tryd.func129, Tryd.ntmps129
  go_wp2
  go_loopg [7] 8 (fun k i wr => ∃ q : Nat, q + k = 8 ∧ i = .int .i64 (q : Int) ∧ Below w.heap.size w wr ∧ HasAt (w.heap.size + 1) 23 32 zb wr ∧ HasAt (w.heap.size + 1 + 1) 23 32 (digTo s (4 * q)) wr)
  case atStart =>
    refine ⟨0, by omega, rfl, ?_, ?_, ?_⟩
    · exact ((below_new w _).trans ((below_new _ _).mono (by simp))).trans ((below_new _ _).mono (by simp; omega))
    · have h := HasAt.new (w.alloc (.cells (arr 8 (rv s)) 133)) zb 32 23
      have e : (w.alloc (.cells (arr 8 (rv s)) 133)).heap.size = w.heap.size + 1 := by simp
      rw [e] at h
      exact h.alloc _
    · have h := HasAt.new ((w.alloc (.cells (arr 8 (rv s)) 133)).alloc (.cells (arr 32 zb) 23)) zb 32 23
      have e : ((w.alloc (.cells (arr 8 (rv s)) 133)).alloc (.cells (arr 32 zb) 23)).heap.size = w.heap.size + 1 + 1 := by simp
      rw [e] at h
      exact h.to (fun i _ => by unfold digTo; rw [if_neg (by omega)]; rfl)
  case round =>
    obtain ⟨q, hq, rfl, hb, hA, hB⟩ := hrel
    by_cases hl : q < 8
    · have ix := ix q hl
      have c0 : wr.cell? ⟨w.heap.size + 1 + 1, 4 * q, none⟩ = some (digTo s (4 * q) (4 * q)) := hB.cell _ (by omega)
      have c1 : wr.cell? ⟨w.heap.size + 1 + 1, 4 * q + 1, none⟩ = some (digTo s (4 * q) (4 * q + 1)) := hB.cell _ (by omega)
      have c2 : wr.cell? ⟨w.heap.size + 1 + 1, 4 * q + 2, none⟩ = some (digTo s (4 * q) (4 * q + 2)) := hB.cell _ (by omega)
      have c3 : wr.cell? ⟨w.heap.size + 1 + 1, 4 * q + 3, none⟩ = some (digTo s (4 * q) (4 * q + 3)) := hB.cell _ (by omega)
      have f0 := hB.free (4 * q)
      have f1 := hB.free (4 * q + 1)
      have f2 := hB.free (4 * q + 2)
      have f3 := hB.free (4 * q + 3)
      obtain ⟨n0, n1⟩ := HN.out q
      have nn : s.nth q = R8.nth ⟨s.a, s.b, s.c, s.d, s.e, s.f, s.g, s.h⟩ q := rfl
      rw [← nn] at ix
      have H := Lib.hid (And.intro hb (And.intro hA hB))
      clear hb hA hB nn
      go_wp2
      go_roundg (gk - 1)
      case measure => omega
      case rel =>
        refine ⟨q + 1, by omega, by go_num, ?_, ?_, ?_⟩
        · exact (((H.out.1.setCell (by simp; omega) _).setCell (by simp; omega) _).setCell (by simp; omega) _).setCell (by simp; omega) _
        · exact (((H.out.2.1.other _ _ (by simp)).other _ _ (by simp)).other _ _ (by simp)).other _ _ (by simp)
        · have e : 4 * (q + 1) = 4 * q + 1 + 1 + 1 + 1 := by omega
          rw [e]
          refine (((H.out.2.2.set (4 * q) _ (fun i _ => digTo_step s (4 * q) _ ?_ i)).set (4 * q + 1) _ (fun i _ => digTo_step s (4 * q + 1) _ ?_ i)).set (4 * q + 2) _ (fun i _ => digTo_step s (4 * q + 1 + 1) _ ?_ i)).set (4 * q + 3) _ (fun i _ => digTo_step s (4 * q + 1 + 1 + 1) _ ?_ i)
          · rw [digest_0]
          · rw [digest_1]
          · rw [digest_2]
          · rw [digest_3]
    · obtain rfl : q = 8 := by omega
      have hB' : HasAt (w.heap.size + 1 + 1) 23 32 (digest s) wr := hB.to (fun t ht => by unfold digTo; rw [if_pos (by omega)])
      have H := Lib.hid (And.intro hb (And.intro hA hB'))
      clear hb hA hB hB'
      go_wp2_with (first
        | (with_reducible refine wpList_load_all rfl 23 (.tmp 3) rfl (w.heap.size + 1 + 1) 32 rfl 23 (digest s) H.out.2.2 _ Tryd.underlying23 rfl (by kernel_rfl) ?_)
        | (with_reducible refine wpList_store_all rfl 23 (.tmp 2) (.tmp 38) rfl (w.heap.size + 1) 32 rfl 23 zb (digest s) H.out.2.1 rfl (by kernel_rfl) (fun _ => rfl) ?_; intro w2 hh ho))
      refine bodyPost_ret (v := .agg (arr 32 (digest s))) (results_cell_row (fn := Tryd.f129) rfl _ _ (w.heap.size + 1) 23 _ (0, 0) _ rfl hh Tryd.underlying23 rfl (by rw [arr_size]; kernel_rfl)) rfl ⟨rfl, ?_⟩
      exact H.out.1.trans (ho.below (by omega) H.out.1.size)
end Go.Proofs.YtoopcmcmjaikhaaDoor.S

