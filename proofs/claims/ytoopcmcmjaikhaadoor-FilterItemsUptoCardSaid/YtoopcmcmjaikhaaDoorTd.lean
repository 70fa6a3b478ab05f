/- Transactions in memory: inputs, outputs, lists of them. -/
import Derived.Test.YtoopcmcmjaikhaaDoorLt2
import Derived.Test.YtoopcmcmjaikhaaDoorZA
set_option linter.unusedSimpArgs false
set_option maxRecDepth 100000
namespace Go.Proofs.YtoopcmcmjaikhaaDoor
open Go.RowKit Go.Lib

/-- An input: where it spends, its script, its number, its witnesses. -/
structure TIn where
  id : List Nat
  idx : Nat
  sc : List Nat
  sq : Nat
  wit : List (List Nat)
/-- An output. -/
structure TOut where
  val : Int
  sc : List Nat
structure TTx where
  ver : Nat
  ins : List TIn
  outs : List TOut
  lock : Nat
def w32 (x : Nat) : Value := .int .u32 ((x : Nat) : Int)
/-- The 36 cells of an input. -/
structure InCells (w : World) (V : Nat → Value) (t : TIn) : Prop where
  len : t.id.length = 32
  idB : IsB t.id
  id : ∀ j, j < 32 → V j = byv (lf t.id j)
  idx : V 32 = w32 t.idx
  idxB : t.idx < 4294967296
  sc : TextAt w (V 33) t.sc
  sq : V 34 = w32 t.sq
  sqB : t.sq < 4294967296
  wit : TextsAt w (V 35) t.wit
/-- The two cells of an output. -/
structure OutCells (w : World) (V : Nat → Value) (t : TOut) : Prop where
  val : V 0 = .int .i64 t.val
  valB : -9223372036854775808 ≤ t.val ∧ t.val ≤ 9223372036854775807
  sc : TextAt w (V 1) t.sc
def InsAt (w : World) (v : Value) (ts : List TIn) : Prop :=
  ∃ p g o c V, v = .slice p ts.length c ∧ ts.length * 96 ≤ 140737488351232 ∧ VRow 36 w p g o ts.length c V ∧ ∀ i (h : i < ts.length), InCells w (fun j => V (i * 36 + j)) ts[i]
def OutsAt (w : World) (v : Value) (ts : List TOut) : Prop :=
  ∃ p g o c V, v = .slice p ts.length c ∧ ts.length * 32 ≤ 140737488351232 ∧ VRow 2 w p g o ts.length c V ∧ ∀ i (h : i < ts.length), OutCells w (fun j => V (i * 2 + j)) ts[i]
/-- The four cells of a transaction. -/
structure TxCells (w : World) (V : Nat → Value) (t : TTx) : Prop where
  ver : V 0 = w32 t.ver
  verB : t.ver < 4294967296
  ins : InsAt w (V 1) t.ins
  outs : OutsAt w (V 2) t.outs
  lock : V 3 = w32 t.lock
  lockB : t.lock < 4294967296
/-- A value that is the transaction. -/
def TxAt (w : World) (v : Value) (t : TTx) : Prop := ∃ V, v = .agg (arr 4 V) ∧ TxCells w V t
section
variable {w w' : World} {V : Nat → Value} {v : Value}
theorem InCells.below {t : TIn} (h : InCells w V t) (hb : Below w.heap.size w w') : InCells w' V t := ⟨h.len, h.idB, h.id, h.idx, h.idxB, h.sc.below hb, h.sq, h.sqB, h.wit.below hb⟩
theorem OutCells.below {t : TOut} (h : OutCells w V t) (hb : Below w.heap.size w w') : OutCells w' V t := ⟨h.val, h.valB, h.sc.below hb⟩
theorem InsAt.below {ts : List TIn} (h : InsAt w v ts) (hb : Below w.heap.size w w') : InsAt w' v ts := by
  obtain ⟨p, g, o, c, V, rfl, hc, R, hi⟩ := h
  exact ⟨p, g, o, c, V, rfl, hc, R.below hb, fun i h => (hi i h).below hb⟩
theorem OutsAt.below {ts : List TOut} (h : OutsAt w v ts) (hb : Below w.heap.size w w') : OutsAt w' v ts := by
  obtain ⟨p, g, o, c, V, rfl, hc, R, hi⟩ := h
  exact ⟨p, g, o, c, V, rfl, hc, R.below hb, fun i h => (hi i h).below hb⟩
theorem TxCells.below {t : TTx} (h : TxCells w V t) (hb : Below w.heap.size w w') : TxCells w' V t := ⟨h.ver, h.verB, h.ins.below hb, h.outs.below hb, h.lock, h.lockB⟩
theorem TxAt.below {t : TTx} (h : TxAt w v t) (hb : Below w.heap.size w w') : TxAt w' v t := by
  obtain ⟨V, rfl, hc⟩ := h
  exact ⟨V, rfl, hc.below hb⟩
theorem TextsAt.one {ts : List (List Nat)} (h : TextsAt w v ts) : v.oneCell' = true := by
  obtain ⟨p, g, o, c, V, rfl, _⟩ := h
  rfl
theorem TextsAt.len {ts : List (List Nat)} (h : TextsAt w v ts) : ts.length * 24 ≤ 140737488351232 := by
  obtain ⟨p, g, o, c, V, rfl, hc, R, _⟩ := h
  exact hc
theorem InsAt.len {ts : List TIn} (h : InsAt w v ts) : ts.length * 96 ≤ 140737488351232 := by
  obtain ⟨p, g, o, c, V, rfl, hc, R, _⟩ := h
  exact hc
theorem OutsAt.len {ts : List TOut} (h : OutsAt w v ts) : ts.length * 32 ≤ 140737488351232 := by
  obtain ⟨p, g, o, c, V, rfl, hc, R, _⟩ := h
  exact hc
theorem InCells.one {t : TIn} (h : InCells w V t) : ∀ j, j < 36 → (V j).oneCell' = true := fun j hj => by
  by_cases h1 : j < 32
  · rw [h.id j h1]; rfl
  · have : j = 32 ∨ j = 33 ∨ j = 34 ∨ j = 35 := by omega
    rcases this with rfl | rfl | rfl | rfl
    · rw [h.idx]; rfl
    · exact h.sc.one
    · rw [h.sq]; rfl
    · exact h.wit.one
end
/-- The cells of an input of noughts. -/
def inz : Nat → Value := fun i => if i < 32 then .int .u8 0 else if i = 33 ∨ i = 35 then .slice none 0 0 else .int .u32 0
theorem infoIn : (Tryd.prog.info? 121).map (fun i => (i.zero, i.size)) = some (some (.agg (arr 36 inz)), 36) := by kernel_rfl
theorem infoOut : (Tryd.prog.info? 83).map (fun i => (i.zero, i.size)) = some (some (.agg #[.int .i64 0, .slice none 0 0]), 2) := by kernel_rfl
theorem infoTx : (Tryd.prog.info? 80).map (fun i => (i.zero, i.size)) = some (some (.agg #[.int .u32 0, .slice none 0 0, .slice none 0 0, .int .u32 0]), 4) := by kernel_rfl
theorem infoIn3 : (Tryd.prog.info? 121).map (fun i => (i.zero, i.size, i.bytes)) = some (some (.agg (arr 36 inz)), 36, 96) := by kernel_rfl
theorem infoOut3 : (Tryd.prog.info? 83).map (fun i => (i.zero, i.size, i.bytes)) = some (some (.agg #[.int .i64 0, .slice none 0 0]), 2, 32) := by kernel_rfl
theorem infoTx3 : (Tryd.prog.info? 80).map (fun i => (i.zero, i.size, i.bytes)) = some (some (.agg #[.int .u32 0, .slice none 0 0, .slice none 0 0, .int .u32 0]), 4, 64) := by kernel_rfl
end Go.Proofs.YtoopcmcmjaikhaaDoor

