/- The two sums of SipHash at slices that are known cell by cell, in the words that a law's walk uses: both return sipSum, and what lay in memory stays. -/
import Derived.Test.YtbiobejfjhmccaaDoorSipSum
import Derived.Test.YtbiobejfjhmccaaDoorRefSip
import Derived.Test.YtbiobejfjhmccaaDoorBytes
import Derived.Test.YtbiobejfjhmccaaDoorScale
import Derived.Test.YtbiobejfjhmccaaDoorLaid
import Derived.SizedLaws
namespace Go.Proofs.YtbiobejfjhmccaaDoor
open Go.ChangeShapes Go.WideShapes Go.ChangeAt Go.RowKit Go.Lib

/-- The four words of sip lie where they are laid. -/
def SipLaid (w : World) : Prop := ∀ (i : Nat) (z : Int), sipWords[i]? = some z → w.cell? ⟨1, i, none⟩ = some (.int .u64 z)
theorem SipLaid.below {w w' : World} (h : SipLaid w) (hb : Below w.heap.size w w') : SipLaid w' := fun i z hz => by
  have := h i z hz
  rw [hb.cell (cell_lt this), this]

theorem sip_lies (k0 k1 : Int) (p : Option Addr) (g o n c : Nat) (x : Nat → Int) (hm : c ≤ maxLen) (hnc : n ≤ c) (hr : ∀ i, 0 ≤ x i ∧ x i ≤ 255) (w : World) (h : Lies w p g o n x) (hs : SipLaid w) :
    Calls Tryd.prog 20 #[.int .u64 k0, .int .u64 k1, .slice p n c] w fun e w' => e = .returned (.int .u64 (sipSum k0 k1 x n)) ∧ Below w.heap.size w w' :=
  sip_any k0 k1 p g o n c x (by unfold maxLen at hm; omega) hnc hr w h.1 h.2 (hs 0 _ rfl) (hs 1 _ rfl) (hs 2 _ rfl) (hs 3 _ rfl)
theorem ref_sip_lies (k0 k1 : Int) (p : Option Addr) (g o n c : Nat) (x : Nat → Int) (hm : c ≤ maxLen) (hnc : n ≤ c) (hr : ∀ i, 0 ≤ x i ∧ x i ≤ 255) (w : World) (h : Lies w p g o n x) :
    Calls Tryd.prog 21 #[.int .u64 k0, .int .u64 k1, .slice p n c] w fun e w' => e = .returned (.int .u64 (sipSum k0 k1 x n)) ∧ Below w.heap.size w w' :=
  ref_sip_any k0 k1 p g o n c x (by unfold maxLen at hm; omega) hr w h.1 h.2

/-- What an argument of type []byte is. -/
structure IsBytes (w : World) (v : Value) (a : Option Addr) (g o n c : Nat) (x : Nat → Int) : Prop where
  form : v = .slice a n c
  lies : Lies w a g o n x
  byte : ∀ i, 0 ≤ x i ∧ x i ≤ 255
  le : n ≤ c
  reach : c ≤ 140737488351232
  nil : a = none → n = 0 ∧ c = 0

theorem b5 : Tryd.prog.bytesOf 5 = 1 := by kernel_rfl
theorem open_bytes {H : Type} {enc : TypeId × Value → H} {W : World} {base : Nat} {v : Value} {d : DataW H} {p : List MemPlace} {ts : List TypeId} {ds : List (DataW H)} {j : Nat}
    (hv : Value.okWide Tryd.prog W .any base 22 v) (hd : DataW.Trod enc Tryd.prog W 0 (fun _ => true) true 22 v d p)
    (hsz : (DataW.weightsEach Tryd.prog ts ds).all (· ≤ reachBytes) = true) (hts : ts[j]? = some 22) (hds : ds[j]? = some d) : ∃ a g o n c x, IsBytes W v a g o n c x := by
  obtain ⟨a, len, cap, rfl⟩ := okWide_slice Tryd.underlying22 hv
  obtain ⟨fuel, hf⟩ := hd
  rcases open_ints Tryd.underlying22 Tryd.underlying5 (by kernel_rfl) hf with ⟨hcs, _⟩ | ⟨q, l, c, zs, hcs, _, hl, hm, hz, hx, hcell, hwz⟩
  · simp [Value.cells] at hcs
    obtain ⟨rfl, rfl, rfl⟩ := hcs
    exact ⟨none, 0, 0, 0, 0, fun _ => 0, rfl, ⟨fun h => absurd h (by omega), fun i hi => absurd hi (by omega)⟩, fun _ => by omega, Nat.le_refl _, by omega, fun _ => ⟨rfl, rfl⟩⟩
  · simp [Value.cells] at hcs
    obtain ⟨rfl, rfl, rfl⟩ := hcs
    have hz' : zs.length = cap := by simpa using hz
    have hd' : d = .slice (lits .u8 (zs.take len)) (lits .u8 (zs.drop len)) := by simpa using congrArg Prod.fst hx
    rw [hd'] at hds
    have hs := sized_slice hsz hts hds Tryd.underlying22
    rw [b5] at hs
    simp only [lits, List.length_map, List.length_take, List.length_drop, reachBytes] at hs
    have hr := range_u8 hwz
    refine ⟨some q, q.block, q.off, len, cap, fun i => zs[i]?.getD 0, rfl, ⟨?_, ?_⟩, hr, hl, by omega, fun h => by cases h⟩
    · intro h0
      have h1 := hcell 0 (by omega)
      obtain ⟨b, o, s⟩ := q
      have hsp : s = none := by simpa [Addr.add] using World.cell?_spot h1
      subst hsp
      rfl
    · intro i hi
      have h1 := hcell i (by omega)
      have h0 := hcell 0 (by omega)
      obtain ⟨b, o, s⟩ := q
      have hsp : s = none := by simpa [Addr.add] using World.cell?_spot h0
      subst hsp
      rw [add_at] at h1
      simpa using h1
end Go.Proofs.YtbiobejfjhmccaaDoor
