/- The two closures of the law of rings: a sum and a product without the word whether they go over; what lay in memory stays. -/
import Derived.Test.YtboffheklkhnkaaSub
import Derived.Test.YtboffheklkhnkaaMul
import Derived.Test.YtboffheklkhnkaaTwo
namespace Go.Proofs.Ytboffheklkhnkaa
open Go.RowKit Go.Lib

set_option maxRecDepth 100000 in
set_option maxHeartbeats 2000000 in
theorem clo_add (x y : Nat) (hx : x < P256) (hy : y < P256) (w : World) :
    Calls Try.prog 41 #[wide x, wide y] w fun e w' => e = .returned (wide (x + y)) ∧ Below w.heap.size w w' := by
  have c := add_any x y hx hy
  obtain ⟨o, ho⟩ : ∃ o, o = decide (P256 ≤ x + y) := ⟨_, rfl⟩
  obtain ⟨s, hs⟩ : ∃ s, s = x + y := ⟨_, rfl⟩
  rw [← ho, ← hs] at c
  rw [← hs]
  have C := Lib.hid c
  have E := Lib.hid (env_two w x y)
  clear c hs ho hx hy
  go_enter Try.func41, Try.ntmps41
  go_wp2_with (first
    | (go_at_call 20; refine (C.out _).mono ?_; rintro e w1 ⟨rfl, hb⟩; replace E := Lib.hid (E.out.call hb); clear hb)
    | (with_reducible refine env_store_new E _ _ rfl rfl rfl rfl ?_; clear E; intro w2 E)
    | (with_reducible refine env_load E _ (by kernel_rfl) rfl rfl (by first | exact List.mem_cons_self | exact (List.mem_cons_of_mem _ List.mem_cons_self) | exact (List.mem_cons_of_mem _ (List.mem_cons_of_mem _ List.mem_cons_self)) | exact (List.mem_cons_of_mem _ (List.mem_cons_of_mem _ (List.mem_cons_of_mem _ List.mem_cons_self)))) ?_)
    | (refine wpList_store_all rfl 24 (.tmp 4) (.tmp 13) rfl (w.heap.size + 1 + 1) 4 rfl 24 (wl 0) (wl s) (E.out.get (List.mem_cons_of_mem _ List.mem_cons_self)) rfl (by kernel_rfl) (fun _ => rfl) ?_; intro w4 hh ho))
  exact bodyPost_ret (res_row (fn := Try.f41) rfl _ _ (w.heap.size + 1 + 1) 4 24 _ _ rfl hh Try.underlying24 rfl (by kernel_rfl)) rfl ⟨rfl, E.out.below.trans (ho.below (by omega) E.out.below.size)⟩

set_option maxRecDepth 100000 in
set_option maxHeartbeats 2000000 in
theorem clo_mul (x y : Nat) (hx : x < P256) (hy : y < P256) (w : World) :
    Calls Try.prog 42 #[wide x, wide y] w fun e w' => e = .returned (wide (x * y)) ∧ Below w.heap.size w w' := by
  have c := mul_any x y hx hy
  obtain ⟨o, ho⟩ : ∃ o, o = decide (P256 ≤ x * y) := ⟨_, rfl⟩
  obtain ⟨s, hs⟩ : ∃ s, s = x * y := ⟨_, rfl⟩
  rw [← ho, ← hs] at c
  rw [← hs]
  have C := Lib.hid c
  have E := Lib.hid (env_two w x y)
  clear c hs ho hx hy
  go_enter Try.func42, Try.ntmps42
  go_wp2_with (first
    | (go_at_call 25; refine (C.out _).mono ?_; rintro e w1 ⟨rfl, hb⟩; replace E := Lib.hid (E.out.call hb); clear hb)
    | (with_reducible refine env_store_new E _ _ rfl rfl rfl rfl ?_; clear E; intro w2 E)
    | (with_reducible refine env_load E _ (by kernel_rfl) rfl rfl (by first | exact List.mem_cons_self | exact (List.mem_cons_of_mem _ List.mem_cons_self) | exact (List.mem_cons_of_mem _ (List.mem_cons_of_mem _ List.mem_cons_self)) | exact (List.mem_cons_of_mem _ (List.mem_cons_of_mem _ (List.mem_cons_of_mem _ List.mem_cons_self)))) ?_)
    | (refine wpList_store_all rfl 24 (.tmp 4) (.tmp 13) rfl (w.heap.size + 1 + 1) 4 rfl 24 (wl 0) (wl s) (E.out.get (List.mem_cons_of_mem _ List.mem_cons_self)) rfl (by kernel_rfl) (fun _ => rfl) ?_; intro w4 hh ho))
  exact bodyPost_ret (res_row (fn := Try.f42) rfl _ _ (w.heap.size + 1 + 1) 4 24 _ _ rfl hh Try.underlying24 rfl (by kernel_rfl)) rfl ⟨rfl, E.out.below.trans (ho.below (by omega) E.out.below.size)⟩
end Go.Proofs.Ytboffheklkhnkaa
