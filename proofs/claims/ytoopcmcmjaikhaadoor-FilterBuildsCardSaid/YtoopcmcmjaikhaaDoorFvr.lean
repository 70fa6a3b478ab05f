/- The numbers in a filter that was built: pure. -/
import Derived.Test.YtoopcmcmjaikhaaDoorFbd
set_option linter.unusedSimpArgs false
set_option linter.unusedVariables false
set_option maxRecDepth 100000
namespace Go.Proofs.YtoopcmcmjaikhaaDoor
open Go.RowKit Go.Lib

theorem pV_codes (B : List Bool) (E : Nat) (hE : E < 18446744073709551616) : ∀ (S : List Nat) (pre : List Bool) (a : Nat), pre ++ codesL a S = B → (∀ z, z ∈ S → a ≤ z ∧ z < E) → S.Pairwise (· ≤ ·) → pV (bitAt (pk B)) (8 * (pk B).length) E (E / 2 ^ 19) S.length pre.length a = some (S, B.length)
  | [], pre, a, hB, _, _ => by
    unfold codesL at hB
    rw [List.append_nil] at hB
    subst hB
    rfl
  | v :: S, pre, a, hB, hz, hs => by
    unfold codesL at hB
    have hv := hz v List.mem_cons_self
    have h := read_code pre (codesL v S) (v - a) 19 (E / 2 ^ 19) (by omega) (Nat.div_le_div_right (by omega)) (8 * (pk B).length) (by rw [hB])
    rw [hB] at h
    have ih := pV_codes B E hE S (pre ++ codeOf (v - a) 19) v (by rw [List.append_assoc]; exact hB) (fun z q => ⟨(List.pairwise_cons.1 hs).1 z q, (hz z (List.mem_cons_of_mem _ q)).2⟩) (List.pairwise_cons.1 hs).2
    rw [List.length_cons]
    unfold pV
    rw [h]
    simp only
    rw [if_neg (by rintro (q | q); exact q rfl; omega), show a + (v - a) = v by omega, ih]
    rfl
theorem vbody_codes {n : Nat} {S : List Nat} (hn : n ≤ 20000) (hl : S.length = n) (hz : ∀ z, z ∈ S → z < n * 784931) (hs : S.Pairwise (· ≤ ·)) : vbody n (pk (codesL 0 S)) = some S := by
  unfold vbody aV
  have h := pV_codes (codesL 0 S) (n * 784931) (by omega) S [] 0 rfl (fun z q => ⟨Nat.zero_le _, hz z q⟩) hs
  rw [hl, List.length_nil] at h
  rw [h]
  simp only [Option.map, List.nil_append]
  rw [pk_length, if_pos ⟨by unfold nB; omega, read_end _⟩]
theorem vres_fB {k0 k1 : Nat} {L : List (List Nat)} (hL : L.length ≤ 20000) : vres (fB k0 k1 L).length (lf (fB k0 k1 L)) = some (sortN (fnumsL k0 k1 L)) := by
  obtain ⟨n, hn⟩ : ∃ n, n = L.length := ⟨_, rfl⟩
  obtain ⟨S, hS⟩ : ∃ S, S = sortN (fnumsL k0 k1 L) := ⟨_, rfl⟩
  have hF : fB k0 k1 L = tl (enc n) (wid n) ++ pk (codesL 0 S) := by unfold fB; rw [← hn, ← hS]
  rw [hF, ← hS]
  have hx : ∀ i, i < wid n → lf (tl (enc n) (wid n) ++ pk (codesL 0 S)) i = enc n i := fun i hi => by
    rw [← lf_cat, tl_length]
    unfold cat
    rw [if_pos hi, lf_tl _ hi]
  obtain ⟨h0, hw, hv⟩ := val_enc (by omega) hx
  obtain ⟨x, hX⟩ : ∃ x, x = lf (tl (enc n) (wid n) ++ pk (codesL 0 S)) := ⟨_, rfl⟩
  have hlen : (tl (enc n) (wid n) ++ pk (codesL 0 S)).length = wid n + (pk (codesL 0 S)).length := by rw [List.length_append, tl_length]
  have hwb := wid_bd n
  rw [← hX] at h0 hw hv ⊢
  rw [hlen]
  unfold vres
  have hd : dec (wid n + (pk (codesL 0 S)).length) x = 0 := by
    unfold dec
    rw [hw, hv, if_neg (by omega), if_pos rfl]
  rw [hd, hv, if_neg (by rintro (q | q); exact q rfl; omega), hw, Nat.add_sub_cancel_left]
  have e : tl (fun i => x (wid n + i)) (pk (codesL 0 S)).length = pk (codesL 0 S) := by
    refine lf_inj (tl_length _ _) fun i hi => ?_
    rw [tl_length] at hi
    rw [lf_tl _ hi, hX, ← lf_cat, tl_length]
    unfold cat
    rw [if_neg (by omega), Nat.add_sub_cancel_left]
  rw [e]
  exact vbody_codes (by omega) (by rw [hS, sortN_len, fnums_len, hn]) (fun z q => by
    rw [hS] at q
    rw [hn]
    exact fnums_lt ((sortN_perm _).mem_iff.1 q)) (by rw [hS]; exact sortN_sorted _)
end Go.Proofs.YtoopcmcmjaikhaaDoor
