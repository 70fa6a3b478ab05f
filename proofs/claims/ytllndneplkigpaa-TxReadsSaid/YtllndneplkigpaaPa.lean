/- What bytes say, part by part: the answers of parsers, as plain functions. Nothing of the program stands here. -/
import Derived.Test.YtllndneplkigpaaTg
import Derived.Test.YtllndneplkigpaaSg
set_option linter.unusedSimpArgs false
set_option maxRecDepth 100000
set_option linter.unusedVariables false
namespace Go.Proofs.Ytllndneplkigpaa
open Go.RowKit Go.Lib

/-- What a part says, and what stands behind; or how it gives up. -/
inductive Res (α : Type) where
  | bad (e : Int)
  | good (a : α) (r : List Nat)
def Res.bind {α β : Type} : Res α → (α → List Nat → Res β) → Res β
  | .bad e, _ => .bad e
  | .good a r, f => f a r
theorem Res.bind_good {α β : Type} {x : Res α} {f : α → List Nat → Res β} {b : β} {s : List Nat} (h : x.bind f = .good b s) : ∃ a r, x = .good a r ∧ f a r = .good b s := by
  cases x with
  | bad e => cases h
  | good a r => exact ⟨a, r, rfl, h⟩
theorem Res.bg {α β : Type} {x : Res α} {f : α → List Nat → Res β} {a : α} {r : List Nat} (h : x = .good a r) : x.bind f = f a r := by subst h; rfl
theorem Res.bb {α β : Type} {x : Res α} {f : α → List Nat → Res β} {e : Int} (h : x = .bad e) : x.bind f = .bad e := by subst h; rfl
theorem Res.bind_assoc {α β γ : Type} (x : Res α) (f : α → List Nat → Res β) (g : β → List Nat → Res γ) : (x.bind f).bind g = x.bind fun a r => (f a r).bind g := by
  cases x <;> rfl
def pTake (n : Nat) (xs : List Nat) : Res (List Nat) := if n ≤ xs.length then .good (xs.take n) (xs.drop n) else .bad 50
def pNum (m : Nat) (xs : List Nat) : Res Nat := (pTake m xs).bind fun t r => .good (ofBytes (lf t) m) r
/-- A count. -/
def pVal (xs : List Nat) : Res Nat := if dec xs.length (lf xs) = 0 then .good (val (lf xs)) (xs.drop (wOf (lf xs 0))) else .bad ((dec xs.length (lf xs) : Nat) : Int)
/-- A count, M at most. -/
def pCnt (M : Nat) (xs : List Nat) : Res Nat := (pVal xs).bind fun n r => if n ≤ M then .good n r else .bad 4
def pText (M : Nat) (xs : List Nat) : Res (List Nat) := (pCnt M xs).bind fun n r => pTake n r
def pRep {α : Type} (p : List Nat → Res α) : Nat → List Nat → Res (List α)
  | 0, xs => .good [] xs
  | k + 1, xs => (p xs).bind fun a r => (pRep p k r).bind fun l s => .good (a :: l) s
def pList {α : Type} (M : Nat) (p : List Nat → Res α) (xs : List Nat) : Res (List α) := (pCnt M xs).bind fun n r => pRep p n r
def pIn (xs : List Nat) : Res TIn :=
  (pTake 32 xs).bind fun id r => (pNum 4 r).bind fun idx r => (pText 10000 r).bind fun sc r => (pNum 4 r).bind fun sq r => .good ⟨id, idx, sc, sq, []⟩ r
def pOut (xs : List Nat) : Res TOut :=
  (pNum 8 xs).bind fun v r => if v ≤ 9223372036854775807 then (pText 10000 r).bind fun sc r => .good ⟨(v : Int), sc⟩ r else .bad 51
/-- Whether the form with witnesses begins. -/
def pMark (xs : List Nat) : Res Bool :=
  if 0 < xs.length ∧ lf xs 0 = 0 then (pTake 1 xs).bind fun _ r => (pNum 1 r).bind fun x s => if x = 1 then .good true s else .bad 51 else .good false xs
/-- The witnesses of inputs, one list for each. -/
def pWits : List TIn → List Nat → Res (List TIn)
  | [], xs => .good [] xs
  | x :: l, xs => (pList 100 (pText 10000) xs).bind fun ws r => (pWits l r).bind fun l' s => .good ({ x with wit := ws } :: l') s
def pIns (m : Bool) (ins : List TIn) (xs : List Nat) : Res (List TIn) :=
  if m then (pWits ins xs).bind fun l r => if l.any hasB then .good l r else .bad 51 else .good ins xs
def pTx (xs : List Nat) : Res TTx :=
  (pNum 4 xs).bind fun v r => (pMark r).bind fun m r => (pList 2000 pIn r).bind fun ins r => if ins.length = 0 then .bad 51 else
    (pList 2000 pOut r).bind fun outs r => (pIns m ins r).bind fun ins r => (pNum 4 r).bind fun lock r => .good ⟨v, ins, outs, lock⟩ r
/-- Some items read, some left. -/
theorem pRep_step {α β : Type} {p : List Nat → Res α} {k : Nat} {xs r : List Nat} {a : α} (h : p xs = .good a r) (f : List α → List Nat → Res β) : (pRep p (k + 1) xs).bind f = (pRep p k r).bind fun l s => f (a :: l) s := by
  rw [pRep, h, Res.bind, Res.bind_assoc]
  rfl
theorem pRep_bad {α β : Type} {p : List Nat → Res α} {k : Nat} {xs : List Nat} {e : Int} (h : p xs = .bad e) (f : List α → List Nat → Res β) : (pRep p (k + 1) xs).bind f = .bad e := by
  rw [pRep, h]
  rfl
end Go.Proofs.Ytllndneplkigpaa
