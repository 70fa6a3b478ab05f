/- Both sides' readers fed with the same bytes, whatever they told before; what Spoil leaves of them. -/
import Derived.Test.YtkjcljobcidhfaaDoorFx
import Derived.Deep.LoopGhost
set_option linter.unusedSimpArgs false
set_option linter.unusedVariables false
set_option maxRecDepth 100000
namespace Go.Proofs.YtkjcljobcidhfaaDoor
open Go.RowKit Go.Lib Go.Sort

theorem feeds_end {zs r : List Nat} {fs : List (ByteArray × List Nat)} {e : Int} (h : Feeds zs fs r e) : (e = 0 ∧ r.length < 200024) ∨ (e ≠ 0 ∧ r = []) := by
  induction h with
  | @wait zs h =>
    refine .inl ⟨rfl, ?_⟩
    unfold pFirst at h
    repeat' split at h
    all_goals first | (cases h; done) | omega
  | bad h => exact .inr ⟨pFirst_err h, rfl⟩
  | frame h t ih => exact ih
set_option maxHeartbeats 4000000 in
theorem feed_dead {D w : World} {br bu : Nat} {v u : Value} {er : Int} {p : Option Addr} {g c : Nat} {xs : List Nat} (T : Fq D br bu v er p g c xs w) (he : er ≠ 0) : Calls Tryd.prog 9 #[.pointer (some ⟨br, 0, none⟩), u] w fun e w' => e = .returned (.tuple #[.slice none 0 0, .int .i64 er]) ∧ Below w.heap.size w w' := by
  have M := Lib.hid (made_any T.cR)
  have HE := Lib.hid (show decide (er = 0) = !true from decide_eq_false he)
  have c0 := cell_of_here T.cR 0 (v := .pointer (some ⟨bu, 0, none⟩)) rfl
  have c1 := cell_of_here T.cU 1 (v := .int .i64 er) rfl
  clear T he
  go_enter Tryd.func9, Tryd.ntmps9
  go_upto_region 4 with (first
    | (go_at_call 16; refine M.out.mono ?_; rintro e w2 ⟨rfl, rfl⟩)
    | ((with_reducible refine wpList_at 20 rfl ?_); refine wpList_kn rfl (.bool true) (by exact exec_neqE rfl rfl rfl HE.out) ?_))
  go_quiet (fail)
  go_wp2_with fail
  go_ret2
  exact ⟨rfl, rfl, rfl, rfl, Nat.le_refl _, fun _ _ => rfl⟩
set_option maxHeartbeats 4000000 in
theorem rfeed_dead {D w : World} {bx : Nat} {v u : Value} {er : Int} {p : Option Addr} {g c : Nat} {xs : List Nat} (K : Rq D bx v er p g c xs w) (he : er ≠ 0) : Calls Tryd.prog 10 #[.pointer (some ⟨bx, 0, none⟩), u] w fun e w' => e = .returned (.tuple #[.slice none 0 0, .int .i64 er]) ∧ Below w.heap.size w w' := by
  have HE := Lib.hid (show decide (er = 0) = !true from decide_eq_false he)
  have c1 := cell_of_here K.cX 1 (v := .int .i64 er) rfl
  clear K he
  go_enter Tryd.func10, Tryd.ntmps10
  go_upto_region 2 with (first
    | ((with_reducible refine wpList_at 13 rfl ?_); refine wpList_kn rfl (.bool true) (by exact exec_neqE rfl rfl rfl HE.out) ?_))
  go_quiet (fail)
  go_wp2_with fail
  go_ret2
  exact ⟨rfl, rfl, rfl, rfl, Nat.le_refl _, fun _ _ => rfl⟩
/-- What feeding gives, behind a fault too. -/
def FeedsD (er : Int) (zs : List Nat) (fs : List (ByteArray × List Nat)) (r : List Nat) (er' : Int) : Prop := (er = 0 ∧ Feeds zs fs r er') ∨ (er ≠ 0 ∧ fs = [] ∧ r = [] ∧ er' = er)
theorem FeedsD.one {er : Int} {zs : List Nat} {fs fs' : List (ByteArray × List Nat)} {r r' : List Nat} {e e' : Int} (h : FeedsD er zs fs r e) (h' : FeedsD er zs fs' r' e') : fs = fs' ∧ r = r' ∧ e = e' := by
  rcases h with ⟨h0, h⟩ | ⟨h0, rfl, rfl, rfl⟩ <;> rcases h' with ⟨k0, k⟩ | ⟨k0, rfl, rfl, rfl⟩
  · exact h.one k
  · exact absurd h0 k0
  · exact absurd k0 h0
  · exact ⟨rfl, rfl, rfl⟩
theorem FeedsD.live {er : Int} {zs : List Nat} {fs : List (ByteArray × List Nat)} {r : List Nat} {e : Int} (h : FeedsD er zs fs r e) : (e = 0 ∧ r.length < 200024) ∨ (e ≠ 0 ∧ r = []) := by
  rcases h with ⟨_, h⟩ | ⟨h0, _, rfl, rfl⟩
  · exact feeds_end h
  · exact .inr ⟨h0, rfl⟩
theorem feeds_many {zs r : List Nat} {fs : List (ByteArray × List Nat)} {e : Int} (h : Feeds zs fs r e) : 24 * fs.length ≤ zs.length := by
  induction h with
  | wait q => simp
  | bad q => simp
  | frame q t ih =>
    have := (pFirst_frame q).1
    rw [List.length_drop] at ih
    rw [List.length_cons]
    omega
theorem FeedsD.many {er : Int} {zs : List Nat} {fs : List (ByteArray × List Nat)} {r : List Nat} {e : Int} (h : FeedsD er zs fs r e) : 24 * fs.length ≤ zs.length := by
  rcases h with ⟨_, h⟩ | ⟨h0, rfl, rfl, rfl⟩
  · exact feeds_many h
  · simp
/-- A reader's state: what waits, or a fault. -/
def Alive (er : Int) (r : List Nat) : Prop := (er = 0 ∧ r.length < 200024) ∨ (er ≠ 0 ∧ r = [])
theorem feedD_any {D W : World} {br bu : Nat} {er : Int} {p q0 : Option Addr} {g c h0 o0 d0 : Nat} {xs ys : List Nat} (T : Fp D br bu er p g c xs W) (A : Alive er xs) (R : Row W q0 h0 o0 ys.length d0 (lf ys)) (hl : ys.length ≤ 60000000000000) (LD : Hid (S.Both D)) :
    Calls Tryd.prog 9 #[.pointer (some ⟨br, 0, none⟩), .slice q0 ys.length d0] W fun e w' => ∃ fs r er' pf gf cf V, FeedsD er (xs ++ ys) fs r er' ∧ e = .returned (.tuple #[.slice pf fs.length cf, .int .i64 er']) ∧ FrsAt W.heap.size w' pf gf cf V fs ∧ ∃ p' g' c', Fp D br bu er' p' g' c' r w' ∧ Fr bu (ob p) W w' ∧ Lies W (ob p) (ob p') := by
  rcases A with ⟨rfl, hx⟩ | ⟨he, rfl⟩
  · refine (feed_any (Lib.hid T) (Lib.hid R) (by omega) LD).mono ?_
    rintro e w' ⟨fs, r, er, pf, gf, cf, V, hF, rfl, hA, p', g', c', T', F, L, _⟩
    exact ⟨fs, r, er, pf, gf, cf, V, .inl ⟨rfl, hF⟩, rfl, hA, p', g', c', T', F, L⟩
  · refine (feed_dead T he).mono ?_
    rintro e w' ⟨rfl, hb⟩
    exact ⟨[], [], er, none, 0, 0, fun _ => undef, .inr ⟨he, rfl, rfl, rfl⟩, rfl, FrsAt.none hb.size _, p, g, c, T.call hb, Fr.below hb, Lies.refl _ _⟩
theorem rfeedD_any {D W : World} {bx : Nat} {er : Int} {p q0 : Option Addr} {g c h0 o0 d0 : Nat} {xs ys : List Nat} (K : Rq D bx (.slice p xs.length c) er p g c xs W) (A : Alive er xs) (R : Row W q0 h0 o0 ys.length d0 (lf ys)) (hl : ys.length ≤ 60000000000000) :
    Calls Tryd.prog 10 #[.pointer (some ⟨bx, 0, none⟩), .slice q0 ys.length d0] W fun e w' => ∃ fs r er' pf gf cf V, FeedsD er (xs ++ ys) fs r er' ∧ e = .returned (.tuple #[.slice pf fs.length cf, .int .i64 er']) ∧ FrsAt W.heap.size w' pf gf cf V fs ∧ ∃ p' g' c', Rq D bx (.slice p' r.length c') er' p' g' c' r w' ∧ Fr bx none W w' ∧ Lies W (ob p) (ob p') := by
  rcases A with ⟨rfl, hx⟩ | ⟨he, rfl⟩
  · refine (rfeed_any (Lib.hid K) (Lib.hid R) (by omega)).mono ?_
    rintro e w' ⟨fs, r, er, pf, gf, cf, V, hF, rfl, hA, hb, F, p', g', c', K', L⟩
    exact ⟨fs, r, er, pf, gf, cf, V, .inl ⟨rfl, hF⟩, rfl, hA, p', g', c', K', F, fun j e => .inr (L j e)⟩
  · refine (rfeed_dead K he).mono ?_
    rintro e w' ⟨rfl, hb⟩
    exact ⟨[], [], er, none, 0, 0, fun _ => undef, .inr ⟨he, rfl, rfl, rfl⟩, rfl, FrsAt.none hb.size _, p, g, c, K.call hb, Fr.below hb, Lies.refl _ _⟩
/-- Spoil of one text: one block alone turns, a new one's or that of the text. -/
theorem spoil1_end {B B2 : Nat} {W : World} {p p5 : Option Addr} {g g5 m c5 : Nat} {x0 : Nat → Nat} (NW : Hid (VOwn 26 1 B2 W p g 1 1 (fun _ => .slice p5 m c5))) (N0 : Hid (Own B W p5 g5 m c5 x0)) (m3 : m ≤ 140737488355328) : Calls Tryd.prog 11 #[.slice p 1 1] W fun e w' => e = .returned (.tuple #[]) ∧ ∃ b, Fr b none W w' ∧ (W.heap.size ≤ b ∨ ob p5 = some b) := by
  rcases N0.out.spot with h | h
  · subst h
    have hm : m = 0 := by
      rcases N0.out.own.2 with hn | ⟨g', cap, cur, e, _⟩
      · have := hn.1
        injection this
      · injection e with e _ _
        cases e
    refine (spoil1_any (g5 := W.heap.size) NW (Lib.hid (show Own B W none W.heap.size m c5 x0 from ⟨N0.out.own, .inl rfl, N0.out.byte, N0.out.low⟩)) m3).mono ?_
    rintro e w' ⟨he, F⟩
    exact ⟨he, _, F, .inl (Nat.le_refl _)⟩
  · subst h
    refine (spoil1_any NW N0 m3).mono ?_
    rintro e w' ⟨he, F⟩
    exact ⟨he, _, F, .inr rfl⟩
/-- Both readers between two calls. -/
structure Two (W : World) (br bu bx : Nat) (er : Int) (r : List Nat) (p : Option Addr) (g c : Nat) (q : Option Addr) (h d : Nat) (w : World) : Prop where
  T : Fp W br bu er p g c r w
  K : Rq W bx (.slice q r.length d) er q h d r w
  A : Alive er r
  ap : ∀ j, ob p = some j → ob q ≠ some j
section
variable {W w w' : World} {br bu bx : Nat} {er er' : Int} {r r' : List Nat} {p p' q q' : Option Addr} {g c h d g' c' h' d' : Nat}
theorem Rq.lies {D w : World} {bx : Nat} {v : Value} {er : Int} {q : Option Addr} {h d : Nat} {xs : List Nat} (K : Rq D bx v er q h d xs w) : ∀ j, ob q = some j → D.heap.size ≤ j ∧ j < w.heap.size := fun j e => World.ownsRow.lt K.own.own j (by rw [ob_own]; exact e)
theorem Two.call (Z : Two W br bu bx er r p g c q h d w) (hb : Below w.heap.size w w') : Two W br bu bx er r p g c q h d w' := ⟨Z.T.call hb, Z.K.call hb, Z.A, Z.ap⟩
/-- The document's reader, when the program's turns. -/
theorem Two.left (Z : Two W br bu bx er r p g c q h d w) (T' : Fp W br bu er' p' g' c' r' w') (F : Fr bu (ob p) w w') : Rq W bx (.slice q r.length d) er q h d r w' :=
  Z.K.fr F T'.under0 (other_kind Z.K.cX Z.T.cU (by decide)) (Z.T.own.ne Z.K.cX (by decide)) (Z.K.own.ne Z.T.cU (by decide)) Z.ap
/-- Both, when the document's has turned, too. -/
theorem Two.next {w2 : World} (Z : Two W br bu bx er r p g c q h d w) (T' : Fp W br bu er' p' g' c' r' w2) (L : Lies w (ob p) (ob p')) (K2 : Rq W bx (.slice q r.length d) er q h d r w2) (hs : w.heap.size ≤ w2.heap.size) (K' : Rq W bx (.slice q' r'.length d') er' q' h' d' r' w') (F : Fr bx none w2 w') (L' : Lies w2 (ob q) (ob q')) (A' : Alive er' r') : Two W br bu bx er' r' p' g' c' q' h' d' w' where
  T := T'.fr F K'.under0 (other_kind T'.cR K2.cX (by decide)) (other_kind T'.cU K2.cX (by decide)) (T'.own.ne K2.cX (by decide))
  K := K'
  A := A'
  ap := fun j e e2 => by
    have hj := (T'.lies j e).2
    rcases L' j e2 with h1 | h1
    · rcases L j e with h2 | h2
      · exact Z.ap j h2 h1
      · have := (Z.K.lies j h1).2
        omega
    · omega
/-- Both, when another block turns. -/
theorem Two.spoil {b : Nat} (Z : Two W br bu bx er r p g c q h d w) (F : Fr b none w w') (hB : W.heap.size ≤ b) (h1 : w.heap.size ≤ b ∨ ((∃ cur, w.heap[b]? = some (.cells cur 5 (0, 0))) ∧ ob p ≠ some b ∧ ob q ≠ some b)) : Two W br bu bx er r p g c q h d w' := by
  have hD : Below W.heap.size W w' := Z.T.under0.trans (F.under hB (fun k e => by cases e) Z.T.under0.size)
  rcases h1 with h1 | ⟨⟨cur, hc⟩, h2, h3⟩
  · have l1 := heap_lt Z.T.cR
    have l2 := heap_lt Z.T.cU
    have l3 := heap_lt Z.K.cX
    exact ⟨Z.T.fr F hD (by omega) (by omega) (fun e => by have := (Z.T.lies _ e).2; omega), Z.K.fr F hD (by omega) (by intro e; cases e) (fun e => by have := (Z.K.lies _ e).2; omega) (by intro j e; cases e), Z.A, Z.ap⟩
  · exact ⟨Z.T.fr F hD (other_kind Z.T.cR hc (by decide)) (other_kind Z.T.cU hc (by decide)) h2, Z.K.fr F hD (other_kind Z.K.cX hc (by decide)) (by intro e; cases e) h3 (by intro j e; cases e), Z.A, Z.ap⟩
theorem up_spoil {b B : Nat} (F : Fr b none w w') (h : w.heap.size ≤ b ∨ b < B) : Up B w w' := ⟨fun k hk hs => F.block k hs (by omega) (by intro e; cases e), F.size⟩
theorem Two.given {w0 w1 : World} {p3 : Option Addr} {g3 m c3 : Nat} {x : Nat → Nat} (Z : Two W br bu bx er r p g c q h d w0) (Z1 : Two W br bu bx er r p g c q h d w1) (N : Own w0.heap.size w1 p3 g3 m c3 x) (F : Fr bu (ob p) w1 w) : Own w0.heap.size w p3 g3 m c3 x :=
  N.same F.size fun j e hj => F.block j hj (fun e2 => N.ne Z1.T.cU (by decide) (by rw [e, e2])) fun e2 => by
    have h1 := N.lies j e
    have h2 := (Z.T.lies j e2.symm).2
    omega
theorem Two.after {L M b m g3 c3 : Nat} {p3 : Option Addr} {x : Nat → Nat} (Z : Two W br bu bx er r p g c q h d w) (N : Own L w p3 g3 m c3 x) (hW : W.heap.size ≤ L) (hL : L ≤ w.heap.size) (hb : w.heap.size ≤ b ∨ ob p3 = some b) (hM : ∀ j, ob p3 = some j → j < M) (hp : ∀ j, ob p = some j → j < L ∨ M ≤ j) (hq : ∀ j, ob q = some j → j < L ∨ M ≤ j) (F : Fr b none w w') : Two W br bu bx er r p g c q h d w' ∧ Up M w w' := by
  rcases hb with hb | hb
  · exact ⟨Z.spoil F (by omega) (.inl hb), up_spoil F (.inl hb)⟩
  · have h1 := N.lies b hb
    have h2 := hM b hb
    exact ⟨Z.spoil F (by omega) (.inr ⟨N.kind hb, fun e => by have := hp b e; omega, fun e => by have := hq b e; omega⟩), up_spoil F (.inr h2)⟩
end
end Go.Proofs.YtkjcljobcidhfaaDoor
