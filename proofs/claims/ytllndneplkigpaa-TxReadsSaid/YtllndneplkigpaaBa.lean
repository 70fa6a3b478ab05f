/- What a block's bytes say, part by part: plain functions; there and back, cut short, with a byte behind. -/
import Derived.Test.YtllndneplkigpaaPb
import Derived.Test.YtllndneplkigpaaBe
set_option linter.unusedSimpArgs false
set_option linter.unusedVariables false
set_option maxRecDepth 100000
namespace Go.Proofs.Ytllndneplkigpaa
open Go.RowKit Go.Lib Go.Sort

def pHd (xs : List Nat) : Res Hd := (pTake 80 xs).bind fun t r => .good (hdOf (lf t)) r
def pTxs (xs : List Nat) : Res (List TTx) := pList 2000 pTx xs
/-- A block without its end. -/
def pBlk0 (xs : List Nat) : Res TBlk := (pHd xs).bind fun h r => (pTxs r).bind fun l s => .good ⟨h, l⟩ s
def pEnd (xs : List Nat) : Res Unit := if xs.length = 0 then .good () xs else .bad 70
def pBlk (xs : List Nat) : Res TBlk := (pHd xs).bind fun h r => (pTxs r).bind fun l s => (pEnd s).bind fun _ s => .good ⟨h, l⟩ s
theorem pBlk_of (xs : List Nat) : pBlk xs = (pBlk0 xs).bind fun t s => (pEnd s).bind fun _ s => .good t s := by
  unfold pBlk pBlk0
  rw [Res.bind_assoc]
  congr 1
  funext h r
  rw [Res.bind_assoc]
  rfl
theorem eats_hd : Eats pHd := (eats_take 80).bind fun _ => Eats.pure _
theorem eats_txs : Eats pTxs := eats_list 2000 eats_tx
theorem eats_blk0 : Eats pBlk0 := eats_hd.bind fun _ => eats_txs.bind fun _ => Eats.pure _
/-- What a parser leaves is no longer than what it began with. -/
theorem Eats.le {α : Type} {p : List Nat → Res α} (hp : Eats p) {xs r : List Nat} {a : α} (h : p xs = .good a r) : r.length ≤ xs.length := by
  obtain ⟨c, _, rfl, _⟩ := hp xs a r h
  rw [List.length_drop]
  omega
theorem Eats.isDrop {α : Type} {p : List Nat → Res α} (hp : Eats p) {xs r : List Nat} {a : α} (h : p xs = .good a r) : r = xs.drop (xs.length - r.length) := by
  obtain ⟨c, hc, rfl, _⟩ := hp xs a r h
  rw [List.length_drop]
  congr 1
  omega
/-- A transaction as its block can have it. -/
def OkTxs (l : List TTx) : Prop := l.length ≤ 2000 ∧ ∀ x, x ∈ l → OkTx x
theorem blkB_list (t : TBlk) : blkB t = tl (hb t.hd) 80 ++ listB fB t.txs := by
  unfold blkB listB
  rw [List.append_assoc]
theorem pTxs_back {l : List TTx} (h : OkTxs l) (r : List Nat) : pTxs (listB fB l ++ r) = .good l r := by
  have := pList_app (p := pTx) (f := fB) (g := id) l r h.1 (by omega) fun x hx s => pTx_back (h.2 x hx) s
  rwa [List.map_id] at this
/-- The header as its bytes say it. -/
def hdB (h : Hd) : Hd := hdOf (lf (tl (hb h) 80))
theorem pBlk0_back {t : TBlk} (h : OkTxs t.txs) (r : List Nat) : pBlk0 (blkB t ++ r) = .good ⟨hdB t.hd, t.txs⟩ r := by
  rw [blkB_list, List.append_assoc]
  have e1 : pHd (tl (hb t.hd) 80 ++ (listB fB t.txs ++ r)) = .good (hdB t.hd) (listB fB t.txs ++ r) := Res.bg (pTake_len (tl_length _ _) _)
  unfold pBlk0
  rw [Res.bg e1, Res.bg (pTxs_back h r)]
theorem pBlk_back {t : TBlk} (h : OkTxs t.txs) : pBlk (blkB t) = .good ⟨hdB t.hd, t.txs⟩ [] := by
  have := pBlk0_back h []
  rw [List.append_nil] at this
  rw [pBlk_of, Res.bg this]
  rfl
theorem pBlk_trail {t : TBlk} (h : OkTxs t.txs) (x : Nat) : pBlk (blkB t ++ [x]) = .bad 70 := by
  rw [pBlk_of, Res.bg (pBlk0_back h [x])]
  rfl
theorem pBlk_short {t : TBlk} (h : OkTxs t.txs) {k : Nat} (hk : k < (blkB t).length) : pBlk ((blkB t).take k) = .bad 50 := by
  have hb := pBlk0_back h []
  rw [List.append_nil] at hb
  obtain ⟨c, hc, hr, _, hs⟩ := eats_blk0 _ _ _ hb
  have := congrArg List.length hr
  rw [List.length_drop, List.length_nil] at this
  rw [pBlk_of, Res.bb (hs k (by omega))]
theorem okTxs_of {W : World} {V : Nat → Value} {t : TBlk} (A : BlkCells W V t) (h : ¬ (2000 < t.txs.length ∨ t.txs.any (fun x => !canB x) = true)) : OkTxs t.txs := by
  obtain ⟨p, g, o, c, U, _, _, _, hi⟩ := A.txs
  refine ⟨by omega, fun x hx => ?_⟩
  obtain ⟨i, hi2, rfl⟩ := List.getElem_of_mem hx
  exact okTx_of (hi i hi2) (any_can (by simpa using fun q => h (.inr q)) hi2)
theorem hdB_cells {h : Hd} (ok : h.Ok) : arr 68 (hc (hdB h)) = arr 68 (hc h) := hc_back ok fun i hi => lf_tl _ hi
theorem hdB_ok {h : Hd} (ok : h.Ok) : (hdB h).Ok := hdOf_ok (lf_lt (isB_tl (hb_lt ok) 80))
end Go.Proofs.Ytllndneplkigpaa
