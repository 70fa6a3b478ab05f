/- What an argument of type []uint64 is; a slice cut short. -/
import Derived.Test.YtoopcmcmjaikhaaDoorZW
import Derived.Test.YtoopcmcmjaikhaaDoorZA
set_option linter.unusedSimpArgs false
set_option linter.unusedVariables false
set_option maxRecDepth 100000
namespace Go.Proofs.YtoopcmcmjaikhaaDoor
open Go.ChangeShapes Go.WideShapes Go.ChangeAt Go.RowKit Go.Lib

def wv (x : Nat → Nat) : Nat → Value := fun i => .int .u64 ((x i : Nat) : Int)
theorem b64 : Tryd.prog.bytesOf 59 = 8 := by kernel_rfl
theorem open_u64s {H : Type} {enc : TypeId × Value → H} {W : World} {base : Nat} {v : Value} {d : DataW H} {p : List MemPlace} {ts : List TypeId} {ds : List (DataW H)} {j : Nat}
    (hv : Value.okWide Tryd.prog W .any base 54 v) (hd : DataW.Trod enc Tryd.prog W 0 (fun _ => true) true 54 v d p)
    (hsz : (DataW.weightsEach Tryd.prog ts ds).all (· ≤ reachBytes) = true) (hts : ts[j]? = some 54) (hds : ds[j]? = some d) : ∃ a g o n c x, v = .slice a n c ∧ (VRow 1 W a g o n c (wv x) ∧ ∀ i, x i < 18446744073709551616) ∧ c * 8 ≤ 140737488351232 := by
  obtain ⟨a, len, cap, rfl⟩ := okWide_slice Tryd.underlying54 hv
  obtain ⟨fuel, hf⟩ := hd
  rcases open_ints Tryd.underlying54 Tryd.underlying59 (by kernel_rfl) hf with ⟨hcs, _⟩ | ⟨q, l, c, zs, hcs, _, hl, hm, hz, hx, hcell, hwz⟩
  · simp [Value.cells] at hcs
    obtain ⟨rfl, rfl, rfl⟩ := hcs
    exact ⟨none, 0, 0, 0, 0, fun _ => 0, rfl, ⟨VRow.nothing _ _ _, fun _ => by show 0 < 18446744073709551616; omega⟩, by omega⟩
  · simp [Value.cells] at hcs
    obtain ⟨rfl, rfl, rfl⟩ := hcs
    have hz' : zs.length = cap := by simpa using hz
    have hd' : d = .slice (lits .u64 (zs.take len)) (lits .u64 (zs.drop len)) := by simpa using congrArg Prod.fst hx
    rw [hd'] at hds
    have hs := sized_slice hsz hts hds Tryd.underlying54
    rw [b64] at hs
    simp only [lits, List.length_map, List.length_take, List.length_drop, reachBytes] at hs
    have hr : ∀ i : Nat, (0 : Int) ≤ zs[i]?.getD 0 ∧ zs[i]?.getD 0 ≤ (18446744073709551615 : Int) := fun j => by
      by_cases hj : j < zs.length
      · have := word_range (hwz zs[j] (List.getElem_mem hj))
        simp [hj]; omega
      · simp [List.getElem?_eq_none (by omega : zs.length ≤ j)]
    refine ⟨some q, q.block, q.off, len, cap, fun i => (zs[i]?.getD 0).toNat, rfl, ⟨⟨hl, by unfold maxLen; omega, fun h => (by cases h), ?_, ?_, fun i _ => rfl⟩, fun i => by have := hr i; show (zs[i]?.getD 0).toNat < 18446744073709551616; omega⟩, by omega⟩
    · intro h0
      have h1 := hcell 0 (by omega)
      obtain ⟨b, o, s⟩ := q
      have hsp : s = none := by simpa [Addr.add] using World.cell?_spot h1
      subst hsp
      rfl
    · intro i hi
      rw [Nat.mul_one] at hi
      have h1 := hcell i (by omega)
      have h0 := hcell 0 (by omega)
      have hri := hr i
      obtain ⟨b, o, s⟩ := q
      have hsp : s = none := by simpa [Addr.add] using World.cell?_spot h0
      subst hsp
      rw [row_add] at h1
      unfold wv
      rw [Int.toNat_of_nonneg hri.1]
      simpa using h1
theorem run_cut {S T k : Nat} (hS : Tryd.prog.underlying S = some (.slice T)) (hk : ∀ w, (sizeOf T).run Tryd.prog w = .ok k w) {p q : Option Addr} {n c h : Nat} (hs : sliced p 0 h c k = .slice q h c) (h2 : h ≤ c) (w : World) : (Instr.sliceAt S (.slice p n c) none (some (.int .i64 ((h : Nat) : Int))) none).run Tryd.prog w = .ok (.slice q h c) w := by
  have he : Tryd.prog.elem S = T := by simp [Program.elem, hS]
  have ht : Tryd.prog.underlying S = some (.slice (Tryd.prog.elem S)) := by rw [he]; exact hS
  have hb : (Instr.sliceBounds true n c none (some (.int .i64 (h : Int))) none).run Tryd.prog w = .ok (0, h, c) w := by simp [Instr.sliceBounds, run_sliceBound, h2]
  rw [run_sliceAt_slice w S _ _ _ _ ht, run_slice_any w S p n c ht, hb]
  simp only [Result.andThen_ok, he, hk, hs]
end Go.Proofs.YtoopcmcmjaikhaaDoor

