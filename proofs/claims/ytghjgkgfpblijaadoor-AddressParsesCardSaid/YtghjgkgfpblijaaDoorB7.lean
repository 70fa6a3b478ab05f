/- bytes.ToUpper of a text below 128, from the shelf; an address of bits in great letters, and in mixed ones; the seven tables that the row lists. -/
import Derived.Test.YtghjgkgfpblijaaDoorB6
import Derived.Shelf.Lay
import Derived.Shelf.Bytes.SlCase
import Derived.Ground.SlbNamesProg
import Derived.Lay
set_option linter.unusedSimpArgs false
set_option linter.unusedVariables false
set_option maxRecDepth 100000
namespace Go.Proofs
open Go.Shelf
shelf_lay SlLaysU.n9 Slb 9 at Tryd as YtghjgkgfpblijaaDoor.lays9
end Go.Proofs
namespace Go.Proofs.YtghjgkgfpblijaaDoor.S
open Go.ChangeShapes Go.WideShapes Go.ChangeAt Go.RowKit

/-- What the row lists. -/
def grLaid : List (String × DataW Unit) := [("unicode/utf8.acceptRanges", Rows.laid_unicode_utf8_acceptRanges), ("sporran/sha.startWords", Rows.laid_sporran_sha_startWords), ("sporran/sha.roundWords", Rows.laid_sporran_sha_roundWords), ("sporran/script.patterns", Rows.laid_sporran_script_patterns), ("sporran/address.checkWords", Rows.laid_sporran_address_checkWords), ("unicode.CaseRanges", Rows.laid_unicode_CaseRanges), ("unicode/utf8.first", Rows.laid_unicode_utf8_first)]
theorem of_gr {W : World} (h : laidMetH Tryd.prog grLaid W) : Both W ∧ PLaid W ∧ CLaid W := by
  rw [MakeChecks.laidMetH_plain _ _ _ (by kernel_rfl)] at h
  obtain ⟨ps, ⟨_, _, _, _, _, _, _, _, _, _, ⟨g0, t0, cs0, f0, p0, q0, hg0, ht0, hv0, hd0, ⟨g1, t1, cs1, f1, p1, q1, hg1, ht1, hv1, hd1, ⟨g2, t2, cs2, f2, p2, q2, hg2, ht2, hv2, hd2, ⟨g3, t3, cs3, f3, p3, q3, hg3, ht3, hv3, hd3, _, _⟩, _⟩, _⟩, _⟩, _⟩, _, _⟩ := h
  obtain rfl := Option.some.inj (gStart.symm.trans hg0)
  obtain rfl := Option.some.inj (tStart.symm.trans ht0)
  obtain rfl := Option.some.inj (gRound.symm.trans hg1)
  obtain rfl := Option.some.inj (tRound.symm.trans ht1)
  obtain rfl := Option.some.inj (gPat.symm.trans hg2)
  obtain rfl := Option.some.inj (tPat.symm.trans ht2)
  obtain rfl := Option.some.inj (gChkw.symm.trans hg3)
  obtain rfl := Option.some.inj (tChkw.symm.trans ht3)
  refine ⟨⟨?_, ?_⟩, ?_, ?_⟩
  · intro i hi
    have hd : DataW.trod _ Tryd.prog W 0 _ _ f0 77 cs0.toList = some (.agg (startList.map fun z => .lit (.int .u32 z)), p0) := hd0
    have hz : startList[i]? = some (startList.getD i 0) := by
      rw [List.getD_eq_getElem?_getD, List.getElem?_eq_getElem (by show i < 8; exact hi)]; rfl
    have h1 := ints_of_trod Tryd.underlying77 Tryd.underlying59 cU32 hd i _ hz
    rw [World.var?_cell hg0 hv0 i]
    have e : rv H0 i = .int .u32 (startList.getD i 0) := by
      match i, hi with
      | 0, _ => rfl
      | 1, _ => rfl
      | 2, _ => rfl
      | 3, _ => rfl
      | 4, _ => rfl
      | 5, _ => rfl
      | 6, _ => rfl
      | 7, _ => rfl
    rw [e]
    simpa using h1
  · intro i hi
    rw [roundList] at hd1
    have hz : kList[i]? = some (kWord i) := by
      unfold kWord
      rw [List.getD_eq_getElem?_getD, List.getElem?_eq_getElem (by show i < 64; exact hi)]; rfl
    have h1 := ints_of_trod Tryd.underlying87 Tryd.underlying59 cU32 hd1 i _ hz
    rw [World.var?_cell hg1 hv1 i]
    simpa using h1
  · intro i hi
    rw [World.var?_cell hg2 hv2 i]
    have := patsOf hd2 i hi
    simpa using this
  · intro i hi
    have hd : DataW.trod _ Tryd.prog W 0 _ _ f3 76 cs3.toList = some (.agg (chkList.map fun z => .lit (.int .u32 z)), p3) := hd3
    have hz : chkList[i]? = some (chkList.getD i 0) := by
      rw [List.getD_eq_getElem?_getD, List.getElem?_eq_getElem (by show i < 5; exact hi)]; rfl
    have h1 := ints_of_trod Tryd.underlying76 Tryd.underlying59 cU32 hd i _ hz
    rw [World.var?_cell hg3 hv3 i]
    have e : (.int .u32 ((gw i : Nat) : Int) : Value) = .int .u32 (chkList.getD i 0) := by
      match i, hi with
      | 0, _ => rfl
      | 1, _ => rfl
      | 2, _ => rfl
      | 3, _ => rfl
      | 4, _ => rfl
    rw [e]
    simpa using h1
end Go.Proofs.YtghjgkgfpblijaaDoor.S
namespace Go.Proofs.YtghjgkgfpblijaaDoor
open Go.ChangeShapes Go.WideShapes Go.RowKit Go.Lib Go.Sort

/-- A letter in great. -/
def upN (x : Nat) : Nat := if 97 ≤ x ∧ x ≤ 122 then x - 32 else x
theorem upN_of (b : UInt8) : (Lib.upperB b).toNat = upN b.toNat := by
  have h : ∀ i : Fin 256, (Lib.upperB (UInt8.ofNat i.1)).toNat = upN i.1 := by decide +kernel
  have h2 := h ⟨b.toNat, UInt8.toNat_lt b⟩
  simp only at h2
  rwa [UInt8.ofNat_toNat] at h2
theorem upN_lt {x : Nat} (h : x < 256) : upN x < 256 := by unfold upN; split <;> omega
/-- bytes.ToUpper. -/
theorem upper_any {w : World} {g o c : Nat} {s : ByteArray} (R : Row w (some ⟨g, o, none⟩) g o s.size c (byt s)) (h0 : 0 < s.size) (hs : s.size ≤ 140737488355328) (ha : ∀ i, i < s.size → byt s i < 128) :
    Calls Tryd.prog 16 #[.slice (some ⟨g, o, none⟩) s.size c] w fun e w' => ∃ g' c', e = .returned (.slice (some ⟨g', 0, none⟩) s.size c') ∧ w.heap.size ≤ g' ∧ Row w' (some ⟨g', 0, none⟩) g' 0 s.size c' (fun i => upN (byt s i)) ∧ w'.frozen? ⟨g', 0, none⟩ = false ∧ Below w.heap.size w w' := by
  refine (Any.bytes_ToUpper_ascii lays9 g o c s w (fun i hi => ?_) h0 hs (fun j x hj => ?_)).mono ?_
  · rw [byt_get s i hi]
    exact R.cell i hi
  · have hj2 : j < s.data.toList.length := (List.getElem?_eq_some_iff.1 hj).1
    have hj3 : j < s.size := by rw [Array.length_toList] at hj2; exact hj2
    have := ha j hj3
    rw [← byt_get s j hj3] at this
    have e := (List.getElem?_eq_some_iff.1 hj).2
    rw [Array.getElem_toList] at e
    rw [← e]
    exact this
  · rintro e w' ⟨v', rfl, ⟨g', cap, zs, hv, hg, hle, hmax, hzl, hzr, hzb, hcell, hfz⟩, hb⟩
    have hl : (Lib.toUpperA s.data.toList).length = s.size := by
      unfold Lib.toUpperA
      rw [List.length_map, Array.length_toList]
      rfl
    rw [hl] at hv hle hzb
    subst hv
    refine ⟨g', cap, rfl, hg, ⟨hle, hmax, fun h => (by cases h), fun _ => rfl, fun i hi => ?_, fun i => upN_lt (byt_lt s i)⟩, hfz 0 (by omega), hb⟩
    rw [Nat.zero_add, hcell i (by omega)]
    have hi2 : i < zs.length := by omega
    have e1 : zs.getD i 0 = zs[i] := by rw [List.getD_eq_getElem?_getD, List.getElem?_eq_getElem hi2]; rfl
    have e2 : (Lib.bytesOf (zs.take s.size))[i]? = (Lib.toUpperA s.data.toList)[i]? := by rw [hzb]
    unfold Lib.bytesOf Lib.toUpperA at e2
    rw [List.getElem?_map, List.getElem?_map, List.getElem?_take_of_lt hi, List.getElem?_eq_getElem hi2] at e2
    have hd : s.data.toList[i]? = some (s.data[i]'hi) := by rw [Array.getElem?_toList]; exact Array.getElem?_eq_getElem hi
    rw [hd] at e2
    simp only [Option.map_some, Option.some.injEq] at e2
    have e3 := congrArg UInt8.toNat e2
    rw [upN_of] at e3
    have e4 : (s.data[i]'hi).toNat = byt s i := byt_get s i hi
    rw [e4] at e3
    have hr := hzr _ (List.getElem_mem hi2)
    have e5 : (UInt8.ofNat zs[i].toNat).toNat = zs[i].toNat := by
      simp [UInt8.toNat_ofNat]
      omega
    rw [e5] at e3
    have e6 : zs[i] = ((upN (byt s i) : Nat) : Int) := by rw [← e3, Int.toNat_of_nonneg hr.1]
    rw [e1, e6]
/-- The first byte of a row, turned. -/
theorem row_put0 {w : World} {g n c v : Nat} {x : Nat → Nat} (R : Row w (some ⟨g, 0, none⟩) g 0 n c x) (hn : 0 < n) (hv : v < 256) : Row (w.setCell ⟨g, 0, none⟩ (.int .u8 (v : Int))) (some ⟨g, 0, none⟩) g 0 n c (fun i => if i = 0 then v else x i) := by
  refine ⟨R.le, R.cap, R.nil, R.head, fun i hi => ?_, fun i => by split; exact hv; exact R.byte i⟩
  by_cases h : i = 0
  · subst h
    rw [if_pos rfl]
    have := R.cell 0 hn
    rw [Nat.zero_add] at this
    exact World.cell?_setCell_same _ _ _ this
  · rw [if_neg h, World.cell?_setCell_other (h := by rw [Nat.zero_add]; intro e; injection e with _ e _; exact h e.symm)]
    exact R.cell i hi
theorem Row.only {w w' : World} {p : Option Addr} {g o n c b : Nat} {x : Nat → Nat} (R : Row w p g o n c x) (h : Only b w w') (hb : g ≠ b) : Row w' p g o n c x :=
  ⟨R.le, R.cap, R.nil, R.head, fun i hi => h.cell hb (R.cell i hi), R.byte⟩
theorem wpList_rput0 {ops : Array Oper} {rest : List Oper} {Q : Exit → Act → World → Prop} {op : Oper} {a : Act} {w : World} (hg : op.guard = none) (x y : Operand) (ho : op.op = .store 5 x y) {g n c v : Nat} {f : Nat → Nat} (R : Hid (Row w (some ⟨g, 0, none⟩) g 0 n c f)) (hx : a.eval x = .pointer (some ⟨g, 0, none⟩)) (hy : a.eval y = .int .u8 (v : Int)) (hn : 0 < n) (hv : v < 256) (hf : w.frozen? ⟨g, 0, none⟩ = false)
    (k : ∀ w', Hid (Row w' (some ⟨g, 0, none⟩) g 0 n c (fun i => if i = 0 then v else f i)) → Hid (Only g w w') → wpList Tryd.prog ops Q rest (a.put op.dst undef) w') : wpList Tryd.prog ops Q (op :: rest) a w := by
  have hc := R.out.cell 0 hn
  rw [Nat.zero_add] at hc
  refine wpList_plain hg fun K hK => ?_
  unfold Oper.wp execOp
  simp only [ho, hx, hy, Sem.run_bind, Sem.run_pure, run_store_one (P := Tryd.prog) (ty := 5) (v := .int .u8 (v : Int)) (by kernel_rfl) rfl rfl hc hf, Result.andThen_ok]
  exact hK _ _ (k _ (Lib.hid (row_put0 R.out hn hv)) (Lib.hid ((Only.refl g w).setCell ⟨g, 0, none⟩ rfl _)))
theorem SL_up : ∀ i : Fin 32, upN (byt SL i.1) = byt GL i.1 := by decide +kernel
theorem SB_up : ∀ i : Fin 3, upN (byt SB i.1) = byt GB i.1 := by decide +kernel
theorem SL_l : ∀ i : Fin 32, byt SL i.1 < 128 := by decide +kernel
theorem SB_l : ∀ i : Fin 3, byt SB i.1 < 128 := by decide +kernel
theorem nT_low {l : List Nat} (h : ∀ x, x ∈ l → x < 32) {i : Nat} (hi : i < (nT l).size) : byt (nT l) i < 128 := by
  rw [nT_size] at hi
  by_cases h3 : i < 3
  · have := SB_l ⟨i, h3⟩
    unfold nT
    rw [byt_catl h3]
    exact this
  · obtain ⟨q, rfl⟩ : ∃ q, i = 3 + q := ⟨i - 3, by omega⟩
    rw [nT_byte (by omega)]
    exact SL_l ⟨lf l q, by rw [lf_get (by omega)]; exact h _ (List.getElem_mem _)⟩
/-- The same in great letters. -/
theorem nT_up {l : List Nat} (h : ∀ x, x ∈ l → x < 32) {sz : Nat} (hz : sz = l.length + 3) : strX (fun i => upN (byt (nT l) i)) sz = GB ++ ltS GL l := by
  refine ba_ext (by rw [strX_size, ByteArray.size_append, ltS_size, hz]; show _ = 3 + _; omega) fun k hk => ?_
  rw [strX_size] at hk
  rw [strX_byt (fun i => upN_lt (byt_lt _ _)) hk]
  by_cases h3 : k < 3
  · have := SB_up ⟨k, h3⟩
    rw [byt_catl h3]
    unfold nT
    rw [byt_catl h3]
    exact this
  · obtain ⟨q, rfl⟩ : ∃ q, k = 3 + q := ⟨k - 3, by omega⟩
    have hq : q < l.length := by omega
    rw [nT_byte hq, byt_catr (by show 3 ≤ _; omega) (by rw [ltS_size]; show 3 + q < 3 + _; omega), show 3 + q - GB.size = q by show 3 + q - 3 = q; omega, ltS_byt hq]
    exact SL_up ⟨lf l q, by rw [lf_get hq]; exact h _ (List.getElem_mem _)⟩
theorem not_hasP {s P : ByteArray} {i : Nat} (hi : i < P.size) (h : byt s i ≠ byt P i) : hasP s P = false := by
  cases e : hasP s P with
  | false => rfl
  | true =>
    have h1 := hasP_some e
    exact absurd (by rw [h1]; exact byt_catl hi) h
theorem pA_up {v : Nat} (hv : v < 32) {b : List Nat} (hb : ∀ x, x ∈ b → x < 256) (hl : b.length = 32) : pA (GB ++ ltS GL (nsB v b)) = mkOf (kOf v b.length) b := by
  obtain ⟨h1, h2⟩ := hasP_app GB (ltS GL (nsB v b))
  obtain ⟨h3, h4⟩ := ltS_places GL_size GL_ix (nsB_lt hv b)
  have hz : (GB ++ ltS GL (nsB v b)).size = 62 := by rw [ByteArray.size_append, ltS_size, nsB_len, grp_len32 hl]; rfl
  have h0 : byt (GB ++ ltS GL (nsB v b)) 0 = 66 := by rw [byt_catl (by decide)]; rfl
  have hn : hasP (GB ++ ltS GL (nsB v b)) SB = false := not_hasP (i := 0) (by decide) (by rw [h0]; decide +kernel)
  unfold pA
  rw [long_none (by omega) (.inr h0)]
  show pB _ = _
  unfold pB numS
  rw [if_neg (by omega), if_neg (by rw [hn]; simp), if_pos h1, h2, if_pos h3, h4]
  exact pbits_nsB hv hb
/-- Mixed letters say nothing. -/
theorem pA_mixed {s : ByteArray} (hz : 42 ≤ s.size) (h0 : byt s 0 = 98) (h1 : byt s 1 = 67) : pA s = none := by
  have hn : hasP s SB = false := not_hasP (i := 1) (by decide) (by rw [h1]; decide +kernel)
  have hn2 : hasP s GB = false := not_hasP (i := 0) (by decide) (by rw [h0]; decide +kernel)
  unfold pA
  rw [long_none hz (.inl h0)]
  show pB _ = _
  unfold pB numS
  rw [hn, hn2]
  split <;> rfl
end Go.Proofs.YtghjgkgfpblijaaDoor
