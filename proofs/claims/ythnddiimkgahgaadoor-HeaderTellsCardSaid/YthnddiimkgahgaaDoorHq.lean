/- A header is equal to itself; a header read from its own bytes. -/
import Derived.Test.YthnddiimkgahgaaDoorHp
set_option linter.unusedSimpArgs false
namespace Go.Proofs.YthnddiimkgahgaaDoor
open Go.RowKit Go.Lib

theorem same_bytes_at {d T N : Nat} (hT : Tryd.prog.underlying T = some (.array N 5)) (f : Nat → Nat) (w : World) : (Op.equalIn (d + 2) T (.agg (arr N (bv f))) (.agg (arr N (bv f)))).run Tryd.prog w = .ok true w := by
  obtain ⟨i, hi, _⟩ := info_parts infoB
  rw [run_equalIn_array w (d + 1) _ _ hT hi]
  refine (run_eqItems_all (P := Tryd.prog) d Tryd.underlying5 cellsB N (fun i => ((f i : Nat) : Int)) (fun i => ((f i : Nat) : Int)) w (List.range N) (fun i hi => by simpa using hi)).trans ?_
  congr 1
  simp
theorem eqFields_all {P : Program} {d : Nat} {xs : Array Value} {w : World} : ∀ (fs : List Field), (∀ f, f ∈ fs → ∃ a, (part f.type xs f.offset).run P w = .ok a w ∧ (Op.equalIn d f.type a a).run P w = .ok true w) → (Op.eqFields d xs xs fs).run P w = .ok true w
  | [], _ => by simp [Op.eqFields]
  | f :: fs, h => by
    obtain ⟨a, h1, h2⟩ := h f (by simp)
    have h3 := eqFields_all fs fun g hg => h g (by simp [hg])
    by_cases hn : f.name = "_"
    · simp only [Op.eqFields, hn, ne_eq, not_true_eq_false, if_false]; exact h3
    · simp only [Op.eqFields, hn, ne_eq, not_false_eq_true, if_true, Sem.run_bind, h1, h2, Result.andThen_ok, Bool.not_true, Bool.false_eq_true, if_false]
      exact h3
theorem hdr_fields : (Tryd.prog.fieldsOf 26).toList.map (fun f => (f.type, f.offset)) = [(22, 0), (24, 1), (24, 33), (22, 65), (22, 66), (22, 67)] := by kernel_rfl
theorem hdr_is : Tryd.prog.underlying 26 = some (.struct (Tryd.prog.fieldsOf 26)) := by kernel_rfl
theorem part_v (h : Hd) (w : World) : (part 22 (arr 68 (hc h)) 0).run Tryd.prog w = .ok (.int .u32 ((h.v : Nat) : Int)) w := by kernel_rfl
theorem part_p (h : Hd) (w : World) : (part 24 (arr 68 (hc h)) 1).run Tryd.prog w = .ok (.agg (arr 32 (bv h.prev))) w := by kernel_rfl
theorem part_m (h : Hd) (w : World) : (part 24 (arr 68 (hc h)) 33).run Tryd.prog w = .ok (.agg (arr 32 (bv h.merkle))) w := by kernel_rfl
theorem part_t (h : Hd) (w : World) : (part 22 (arr 68 (hc h)) 65).run Tryd.prog w = .ok (.int .u32 ((h.t : Nat) : Int)) w := by kernel_rfl
theorem part_b (h : Hd) (w : World) : (part 22 (arr 68 (hc h)) 66).run Tryd.prog w = .ok (.int .u32 ((h.b : Nat) : Int)) w := by kernel_rfl
theorem part_n (h : Hd) (w : World) : (part 22 (arr 68 (hc h)) 67).run Tryd.prog w = .ok (.int .u32 ((h.n : Nat) : Int)) w := by kernel_rfl
theorem same_hdr (h : Hd) (w : World) : (Op.equalIn 10000 26 (.agg (arr 68 (hc h))) (.agg (arr 68 (hc h)))).run Tryd.prog w = .ok true w := by
  rw [run_equalIn_struct w 9999 26 _ _ hdr_is (by kernel_rfl)]
  refine eqFields_all _ fun f hf => ?_
  have hm : (f.type, f.offset) ∈ [(22, 0), (24, 1), (24, 33), (22, 65), (22, 66), (22, 67)] := by
    rw [← hdr_fields]
    exact List.mem_map.2 ⟨f, hf, rfl⟩
  have num : ∀ (n : Nat), (Op.equalIn 9999 22 (.int .u32 ((n : Nat) : Int)) (.int .u32 ((n : Nat) : Int))).run Tryd.prog w = .ok true w := fun n => by
    rw [run_equalIn_int w 9998 22 .u32 .u32 _ _ Tryd.underlying22]
    simp
  simp only [List.mem_cons, List.not_mem_nil, or_false, Prod.mk.injEq] at hm
  rcases hm with ⟨e1, e2⟩ | ⟨e1, e2⟩ | ⟨e1, e2⟩ | ⟨e1, e2⟩ | ⟨e1, e2⟩ | ⟨e1, e2⟩
  · rw [e1, e2]; exact ⟨_, part_v h w, num _⟩
  · rw [e1, e2]; exact ⟨_, part_p h w, same_bytes_at (d := 9997) Tryd.underlying24 _ w⟩
  · rw [e1, e2]; exact ⟨_, part_m h w, same_bytes_at (d := 9997) Tryd.underlying24 _ w⟩
  · rw [e1, e2]; exact ⟨_, part_t h w, num _⟩
  · rw [e1, e2]; exact ⟨_, part_b h w, num _⟩
  · rw [e1, e2]; exact ⟨_, part_n h w, num _⟩
theorem hdec_back {w : World} {g o n c : Nat} {x : Nat → Nat} {h : Hd} (ok : h.Ok) (R : Hid (Row w (some ⟨g, o, none⟩) g o n c x)) (hx : Hid (∀ i, i < 80 → x i = hb h i)) (hn : 80 ≤ n) (hm : n ≤ 140737488355328) :
    Calls Tryd.prog 5 #[.slice (some ⟨g, o, none⟩) n c] w fun e w' => ∃ p g c, e = .returned (.tuple #[.agg (arr 68 (hc h)), .slice p (n - 80) c, .int .i64 0]) ∧ Row w' p g 0 (n - 80) c (fun i => x (80 + i)) ∧ Below w.heap.size w w' := by
  have := hdec_long R hn hm
  unfold HdGood at this
  rw [hc_back ok hx.out] at this
  exact this
end Go.Proofs.YthnddiimkgahgaaDoor
