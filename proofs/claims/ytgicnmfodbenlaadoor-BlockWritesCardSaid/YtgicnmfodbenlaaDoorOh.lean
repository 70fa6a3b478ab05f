/- What an argument of type []Hash is, in a law over plain data. -/
import Derived.Test.YtgicnmfodbenlaaDoorRm
import Derived.Test.YtgicnmfodbenlaaDoorOp
import Derived.Deep.Slices
set_option linter.unusedSimpArgs false
set_option maxRecDepth 100000
namespace Go.Proofs.YtgicnmfodbenlaaDoor
open Go.ChangeShapes Go.WideShapes Go.ChangeAt Go.RowKit Go.Lib Go.Deep

section
variable {H : Type} {enc : TypeId × Value → H} {w : World} {base : Nat} {spare : Nat → Bool} {held : Bool}
theorem open_u8 {fuel : Nat} {cs : List Value} {x : DataW H × List MemPlace} (h : DataW.trod enc Tryd.prog w base spare held fuel 5 cs = some x) : ∃ z : Nat, z < 256 ∧ cs = [.int .u8 (z : Int)] := by
  obtain ⟨n, rfl, _, hw⟩ := DataW.trod_int Tryd.underlying5 h
  simp [Lit.wf, IntKind.min, IntKind.max, IntKind.bits, IntKind.signed] at hw
  exact ⟨n.toNat, by omega, by congr 2; omega⟩
/-- 32 bytes. -/
theorem open_hash {fuel : Nat} {cs : List Value} {x : DataW H × List MemPlace} (h : DataW.trod enc Tryd.prog w base spare held fuel 24 cs = some x) : cs.length = 32 ∧ ∃ a, IsH a ∧ ∀ j, j < 32 → cs[j]? = some (.int .u8 ((lf a j : Nat) : Int)) := by
  obtain ⟨xs, m, _, _, hl, hx, hi⟩ := DataW.trod_array Tryd.underlying24 h
  have hC : Tryd.prog.cellsOf 24 = 32 := by kernel_rfl
  rw [hC] at hl
  have key : ∀ i : Nat, ∃ z : Nat, z < 256 ∧ (i < 32 → cs[i]? = some (.int .u8 (z : Int))) := fun i => by
    by_cases h32 : i < 32
    · have h1 := hi i h32
      rw [cellsB, Nat.mul_one, List.getElem?_eq_getElem (by omega)] at h1
      obtain ⟨z, hz, e⟩ := open_u8 h1
      refine ⟨z, hz, fun _ => ?_⟩
      rw [List.drop_eq_getElem_cons (by omega)] at e
      simp only [List.take_succ_cons, List.take_zero, List.cons.injEq, and_true] at e
      rw [List.getElem?_eq_getElem (by omega), e]
    · exact ⟨0, by omega, fun h => absurd h h32⟩
  obtain ⟨f, hf⟩ := Classical.axiomOfChoice key
  refine ⟨hl, tl f 32, ⟨tl_length _ _, isB_tl (fun i => (hf i).1) 32⟩, fun j hj => ?_⟩
  rw [lf_tl f hj]
  exact (hf j).2 hj
end
theorem open_hashes {H : Type} {enc : TypeId × Value → H} {W : World} {base : Nat} {v : Value} {d : DataW H} {p : List MemPlace} {ts : List TypeId} {ds : List (DataW H)} {j : Nat}
    (hv : Value.okWide Tryd.prog W .any base 40 v) (hd : DataW.Trod enc Tryd.prog W 0 (fun _ => true) true 40 v d p)
    (hsz : (DataW.weightsEach Tryd.prog ts ds).all (· ≤ reachBytes) = true) (hts : ts[j]? = some 40) (hds : ds[j]? = some d) : ∃ a g o n c h, v = .slice a n c ∧ HRow W a g o n c h ∧ c * 32 ≤ 140737488351232 := by
  have h0 : IsH (tl (fun _ => 0) 32) := ⟨tl_length _ _, isB_tl (fun _ => by omega) 32⟩
  obtain ⟨a, len, cap, rfl⟩ := okWide_slice Tryd.underlying40 hv
  obtain ⟨fuel, hf⟩ := hd
  rcases open_slice Tryd.underlying40 hf with ⟨hcs, _⟩ | ⟨q, l, c, m, n, D, Pl, hcs, _, hl, hm, hmm, hx, hi⟩
  · simp [Value.cells] at hcs
    obtain ⟨rfl, rfl, rfl⟩ := hcs
    exact ⟨none, 0, 0, 0, 0, fun _ => tl (fun _ => 0) 32, rfl, ⟨VRow.nothing _ _ _, fun _ => h0⟩, by omega⟩
  · simp [Value.cells] at hcs
    obtain ⟨rfl, rfl, rfl⟩ := hcs
    have hC : Tryd.prog.cellsOf 24 = 32 := by kernel_rfl
    have hd' : d = .slice ((List.range len).map D) ((List.range (m - len)).map fun j => D (len + j)) := by simpa using congrArg Prod.fst hx
    rw [hd'] at hds
    have hs := sized_slice hsz hts hds Tryd.underlying40
    have hb : Tryd.prog.bytesOf 24 = 32 := by kernel_rfl
    rw [hb] at hs
    simp only [if_pos] at hmm
    subst hmm
    simp only [List.length_map, List.length_range, reachBytes] at hs
    have key : ∀ i : Nat, ∃ a : List Nat, IsH a ∧ (i < len → ∀ j, j < 32 → W.cell? ((q.add (i * 32)).add j) = some (.int .u8 ((lf a j : Nat) : Int))) := fun i => by
      by_cases hlt : i < len
      · obtain ⟨cs', hc, ht⟩ := hi i (by omega)
        obtain ⟨hl', a, ha, hj⟩ := open_hash ht
        refine ⟨a, ha, fun _ j hj32 => ?_⟩
        obtain ⟨_, hcl, hat⟩ := World.cells?_some hc
        rw [hC] at hat
        rw [hat j hj32, hj j hj32]
      · exact ⟨_, h0, fun h => absurd h hlt⟩
    obtain ⟨h, hh⟩ := Classical.axiomOfChoice key
    have hq : 0 < len → q = ⟨q.block, q.off, none⟩ := fun h0 => by
      have h1 := (hh 0).2 h0 0 (by omega)
      obtain ⟨b, o, s⟩ := q
      have hsp : s = none := by simpa [Addr.add] using World.cell?_spot h1
      subst hsp
      rfl
    refine ⟨some q, q.block, q.off, len, m, h, rfl, ⟨⟨hl, hm, fun h => (by cases h), fun h0 => congrArg some (hq h0), fun i hi => ?_, fun i _ => rfl⟩, fun i => (hh i).1⟩, by omega⟩
    have h1 := (hh (i / 32)).2 (by omega) (i % 32) (by omega)
    rw [hq (by omega), row_add, row_add] at h1
    rw [show q.off + i = q.off + i / 32 * 32 + i % 32 by omega, h1]
    rfl
end Go.Proofs.YtgicnmfodbenlaaDoor
