/- A header is equal to itself; a header read from its own bytes. -/
import Derived.Test.YtoopcmcmjaikhaaDoorHp
set_option linter.unusedSimpArgs false
set_option maxRecDepth 100000
namespace Go.Proofs.YtoopcmcmjaikhaaDoor
open Go.RowKit Go.Lib

theorem hdr_fields : (Tryd.prog.fieldsOf 28).toList.map (fun f => (f.type, f.offset)) = [(26, 0), (23, 1), (23, 33), (26, 65), (26, 66), (26, 67)] := by kernel_rfl
theorem hdr_is : Tryd.prog.underlying 28 = some (.struct (Tryd.prog.fieldsOf 28)) := by kernel_rfl
theorem part_v (h : Hd) (w : World) : (part 26 (arr 68 (hc h)) 0).run Tryd.prog w = .ok (.int .u32 ((h.v : Nat) : Int)) w := by kernel_rfl
theorem part_p (h : Hd) (w : World) : (part 23 (arr 68 (hc h)) 1).run Tryd.prog w = .ok (.agg (arr 32 (bv h.prev))) w := by kernel_rfl
theorem part_m (h : Hd) (w : World) : (part 23 (arr 68 (hc h)) 33).run Tryd.prog w = .ok (.agg (arr 32 (bv h.merkle))) w := by kernel_rfl
theorem part_t (h : Hd) (w : World) : (part 26 (arr 68 (hc h)) 65).run Tryd.prog w = .ok (.int .u32 ((h.t : Nat) : Int)) w := by kernel_rfl
theorem part_b (h : Hd) (w : World) : (part 26 (arr 68 (hc h)) 66).run Tryd.prog w = .ok (.int .u32 ((h.b : Nat) : Int)) w := by kernel_rfl
theorem part_n (h : Hd) (w : World) : (part 26 (arr 68 (hc h)) 67).run Tryd.prog w = .ok (.int .u32 ((h.n : Nat) : Int)) w := by kernel_rfl
theorem same_hdr (h : Hd) (w : World) : (Op.equalIn 10000 28 (.agg (arr 68 (hc h))) (.agg (arr 68 (hc h)))).run Tryd.prog w = .ok true w := by
  rw [run_equalIn_struct w 9999 28 _ _ hdr_is (by kernel_rfl)]
  refine eqFields_all _ fun f hf => ?_
  have hm : (f.type, f.offset) ∈ [(26, 0), (23, 1), (23, 33), (26, 65), (26, 66), (26, 67)] := by
    rw [← hdr_fields]
    exact List.mem_map.2 ⟨f, hf, rfl⟩
  have num : ∀ (n : Nat), (Op.equalIn 9999 26 (.int .u32 ((n : Nat) : Int)) (.int .u32 ((n : Nat) : Int))).run Tryd.prog w = .ok true w := fun n => by
    rw [run_equalIn_int w 9998 26 .u32 .u32 _ _ Tryd.underlying26]
    simp
  simp only [List.mem_cons, List.not_mem_nil, or_false, Prod.mk.injEq] at hm
  rcases hm with ⟨e1, e2⟩ | ⟨e1, e2⟩ | ⟨e1, e2⟩ | ⟨e1, e2⟩ | ⟨e1, e2⟩ | ⟨e1, e2⟩
  · rw [e1, e2]; exact ⟨_, part_v h w, num _⟩
  · rw [e1, e2]; exact ⟨_, part_p h w, same_bytes_at (d := 9997) Tryd.underlying23 _ w⟩
  · rw [e1, e2]; exact ⟨_, part_m h w, same_bytes_at (d := 9997) Tryd.underlying23 _ w⟩
  · rw [e1, e2]; exact ⟨_, part_t h w, num _⟩
  · rw [e1, e2]; exact ⟨_, part_b h w, num _⟩
  · rw [e1, e2]; exact ⟨_, part_n h w, num _⟩
end Go.Proofs.YtoopcmcmjaikhaaDoor

