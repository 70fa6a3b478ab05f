/- The sort of uint64: median and medianAdjacent. -/
import Derived.Test.YtoopcmcmjaikhaaDoorSor
set_option linter.unusedSimpArgs false
set_option linter.unusedVariables false
set_option maxRecDepth 100000
namespace Go.Proofs.YtoopcmcmjaikhaaDoor
open Go.RowKit Go.Lib

theorem ord_bd {d : Array Nat} {a b k x y z : Nat} (h : Go.Sort.order2 ltN d a b k = (x, y, z)) : (x = a ∧ y = b ∨ x = b ∧ y = a) ∧ z ≤ k + 1 := by
  unfold Go.Sort.order2 at h
  split at h
  · cases h; exact ⟨.inr ⟨rfl, rfl⟩, Nat.le_refl _⟩
  · cases h; exact ⟨.inl ⟨rfl, rfl⟩, Nat.le_succ _⟩
theorem med_bd {d : Array Nat} {a b c k n : Nat} (ha : a < n) (hb : b < n) (hc : c < n) : (Go.Sort.median ltN d a b c k).1 < n ∧ (Go.Sort.median ltN d a b c k).2 ≤ k + 3 := by
  obtain ⟨a1, b1, k1, h1⟩ : ∃ x y z, Go.Sort.order2 ltN d a b k = (x, y, z) := ⟨_, _, _, rfl⟩
  obtain ⟨b2, c2, k2, h2⟩ : ∃ x y z, Go.Sort.order2 ltN d b1 c k1 = (x, y, z) := ⟨_, _, _, rfl⟩
  obtain ⟨a3, b3, k3, h3⟩ : ∃ x y z, Go.Sort.order2 ltN d a1 b2 k2 = (x, y, z) := ⟨_, _, _, rfl⟩
  have e1 := ord_bd h1
  have e2 := ord_bd h2
  have e3 := ord_bd h3
  have e : Go.Sort.median ltN d a b c k = (b3, k3) := by simp only [Go.Sort.median, h1, h2, h3]
  rw [e]
  exact ⟨by show b3 < n; omega, by show k3 ≤ k + 3; omega⟩
set_option maxHeartbeats 8000000 in
theorem med64_any {w : World} {B g n c sb k a b m : Nat} {d : Array Nat} (N : Hid (NRow B w g n c d ∧ d.size = n)) (X : Hid (VOwn 3 1 sb w (some ⟨sb, 0, none⟩) sb 1 1 (fun _ => .int .i64 ((k : Nat) : Int)))) (hne : some sb ≠ some g) (ha : a < n) (hb : b < n) (hm : m < n) (hn : n ≤ 20000) (hk : k ≤ 900000) : Calls Tryd.prog 126 #[.slice (some ⟨g, 0, none⟩) n c, .int .i64 (a : Int), .int .i64 (b : Int), .int .i64 (m : Int), .pointer (some ⟨sb, 0, none⟩)] w fun e w' => e = .returned (.int .i64 (((Go.Sort.median ltN d a b m k).1 : Nat) : Int)) ∧ (VOwn 3 1 sb w' (some ⟨sb, 0, none⟩) sb 1 1 (fun _ => .int .i64 (((Go.Sort.median ltN d a b m k).2 : Nat) : Int))) ∧ w.grownBy w' (some sb) := by
  obtain ⟨a1, b1, k1, h1⟩ : ∃ x y z, Go.Sort.order2 ltN d a b k = (x, y, z) := ⟨_, _, _, rfl⟩
  have e1 := ord_bd h1
  have C1 := Lib.hid (show ∀ W, (NRow B W g n c d ∧ d.size = n) → (VOwn 3 1 sb W (some ⟨sb, 0, none⟩) sb 1 1 (fun _ => .int .i64 ((k : Nat) : Int))) → Calls Tryd.prog 130 #[.slice (some ⟨g, 0, none⟩) n c, .int .i64 (a : Int), .int .i64 (b : Int), .pointer (some ⟨sb, 0, none⟩)] W fun e w' => e = .returned (.tuple #[.int .i64 (a1 : Int), .int .i64 (b1 : Int)]) ∧ (VOwn 3 1 sb w' (some ⟨sb, 0, none⟩) sb 1 1 (fun _ => .int .i64 ((k1 : Nat) : Int))) ∧ W.grownBy w' (some sb) from fun W hN hX => by
    have h := ord64_any (a := a) (b := b) (Lib.hid hN) (Lib.hid hX) (by omega) (by omega) hn (by omega)
    rw [h1] at h
    exact h)
  obtain ⟨b2, c2, k2, h2⟩ : ∃ x y z, Go.Sort.order2 ltN d b1 m k1 = (x, y, z) := ⟨_, _, _, rfl⟩
  have e2 := ord_bd h2
  have C2 := Lib.hid (show ∀ W, (NRow B W g n c d ∧ d.size = n) → (VOwn 3 1 sb W (some ⟨sb, 0, none⟩) sb 1 1 (fun _ => .int .i64 ((k1 : Nat) : Int))) → Calls Tryd.prog 130 #[.slice (some ⟨g, 0, none⟩) n c, .int .i64 (b1 : Int), .int .i64 (m : Int), .pointer (some ⟨sb, 0, none⟩)] W fun e w' => e = .returned (.tuple #[.int .i64 (b2 : Int), .int .i64 (c2 : Int)]) ∧ (VOwn 3 1 sb w' (some ⟨sb, 0, none⟩) sb 1 1 (fun _ => .int .i64 ((k2 : Nat) : Int))) ∧ W.grownBy w' (some sb) from fun W hN hX => by
    have h := ord64_any (a := b1) (b := m) (Lib.hid hN) (Lib.hid hX) (by omega) (by omega) hn (by omega)
    rw [h2] at h
    exact h)
  obtain ⟨a3, b3, k3, h3⟩ : ∃ x y z, Go.Sort.order2 ltN d a1 b2 k2 = (x, y, z) := ⟨_, _, _, rfl⟩
  have e3 := ord_bd h3
  have C3 := Lib.hid (show ∀ W, (NRow B W g n c d ∧ d.size = n) → (VOwn 3 1 sb W (some ⟨sb, 0, none⟩) sb 1 1 (fun _ => .int .i64 ((k2 : Nat) : Int))) → Calls Tryd.prog 130 #[.slice (some ⟨g, 0, none⟩) n c, .int .i64 (a1 : Int), .int .i64 (b2 : Int), .pointer (some ⟨sb, 0, none⟩)] W fun e w' => e = .returned (.tuple #[.int .i64 (a3 : Int), .int .i64 (b3 : Int)]) ∧ (VOwn 3 1 sb w' (some ⟨sb, 0, none⟩) sb 1 1 (fun _ => .int .i64 ((k3 : Nat) : Int))) ∧ W.grownBy w' (some sb) from fun W hN hX => by
    have h := ord64_any (a := a1) (b := b2) (Lib.hid hN) (Lib.hid hX) (by omega) (by omega) hn (by omega)
    rw [h3] at h
    exact h)
  have RX : Go.Sort.median ltN d a b m k = (b3, k3) := by simp only [Go.Sort.median, h1, h2, h3]
  rw [RX]
  have HNE := Lib.hid hne
  have GW := Lib.hid (grown_of_below (Below.refl w.heap.size w) (some sb))
  clear h1 h2 h3 e1 e2 e3 RX ha hb hm hn hk hne
  go_enter Tryd.func126, Tryd.ntmps126
  go_wp2_with (first | (go_at_call 130; with_reducible refine (C1.out _ N.out X.out).mono ?_; rintro e w7 ⟨rfl, hX, hg⟩; replace N := Lib.hid (And.intro (N.out.1.kept hg (.inr HNE.out)) N.out.2); replace GW := Lib.hid (GW.out.trans hg); clear X hg; have X := Lib.hid hX; clear hX) | (go_at_call 130; with_reducible refine (C2.out _ N.out X.out).mono ?_; rintro e w7 ⟨rfl, hX, hg⟩; replace N := Lib.hid (And.intro (N.out.1.kept hg (.inr HNE.out)) N.out.2); replace GW := Lib.hid (GW.out.trans hg); clear X hg; have X := Lib.hid hX; clear hX) | (go_at_call 130; with_reducible refine (C3.out _ N.out X.out).mono ?_; rintro e w7 ⟨rfl, hX, hg⟩; replace N := Lib.hid (And.intro (N.out.1.kept hg (.inr HNE.out)) N.out.2); replace GW := Lib.hid (GW.out.trans hg); clear X hg; have X := Lib.hid hX; clear hX))
  ((try simp only [Exit.inBlock, Exit.then]); refine bodyPost_ret (results_tmp rfl _ _ _) rfl ?_)
  exact ⟨rfl, X.out, GW.out⟩
set_option maxHeartbeats 8000000 in
theorem madj64_any {w : World} {B g n c sb k a : Nat} {d : Array Nat} (N : Hid (NRow B w g n c d ∧ d.size = n)) (X : Hid (VOwn 3 1 sb w (some ⟨sb, 0, none⟩) sb 1 1 (fun _ => .int .i64 ((k : Nat) : Int)))) (hne : some sb ≠ some g) (h1 : 1 ≤ a) (ha : a + 1 < n) (hn : n ≤ 20000) (hk : k ≤ 900000) : Calls Tryd.prog 125 #[.slice (some ⟨g, 0, none⟩) n c, .int .i64 (a : Int), .pointer (some ⟨sb, 0, none⟩)] w fun e w' => e = .returned (.int .i64 (((Go.Sort.medianAdjacent ltN d a k).1 : Nat) : Int)) ∧ (VOwn 3 1 sb w' (some ⟨sb, 0, none⟩) sb 1 1 (fun _ => .int .i64 (((Go.Sort.medianAdjacent ltN d a k).2 : Nat) : Int))) ∧ w.grownBy w' (some sb) := by
  obtain ⟨p, hp⟩ : ∃ p, p = a - 1 := ⟨_, rfl⟩
  obtain ⟨q, hq⟩ : ∃ q, q = a + 1 := ⟨_, rfl⟩
  rw [Go.Sort.medianAdjacent, ← hp, ← hq]
  obtain ⟨r, k1, hr⟩ : ∃ x y, Go.Sort.median ltN d p a q k = (x, y) := ⟨_, _, rfl⟩
  have C := Lib.hid (med64_any (a := p) (b := a) (m := q) N X hne (by omega) (by omega) (by omega) hn hk)
  rw [hr] at C ⊢
  have BI := Lib.hid (show p = a - 1 ∧ q = a + 1 ∧ 1 ≤ a ∧ a + 1 < n ∧ n ≤ 20000 from ⟨hp, hq, h1, ha, hn⟩)
  clear hp hq hr h1 ha hn hk hne
  go_enter Tryd.func125, Tryd.ntmps125
  go_wp2_with (first | ((with_reducible refine wpList_at 9 rfl ?_); refine wpList_kn rfl (.int .i64 (p : Int)) (by exact exec_sub rfl rfl rfl (by have := BI.out; rw [IntKind.wrap_i64]; omega)) ?_) | ((with_reducible refine wpList_at 12 rfl ?_); refine wpList_kn rfl (.int .i64 (q : Int)) (by exact exec_add rfl rfl rfl (by have := BI.out; rw [IntKind.wrap_i64]; omega)) ?_) | (go_at_call 126; with_reducible refine C.out.mono ?_; rintro e w7 ⟨rfl, hX, hg⟩; have X1 := Lib.hid hX; have GW := Lib.hid hg; clear hX hg))
  ((try simp only [Exit.inBlock, Exit.then]); refine bodyPost_ret (results_tmp rfl _ _ _) rfl ?_)
  exact ⟨rfl, X1.out, GW.out⟩
end Go.Proofs.YtoopcmcmjaikhaaDoor
