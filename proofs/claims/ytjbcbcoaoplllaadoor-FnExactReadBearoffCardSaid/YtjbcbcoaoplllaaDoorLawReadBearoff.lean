/- The exact law of chapter 10 on reading a position holds: for every input the law returns true and its arguments read behind the call as they read before. No conditions but those of the card: the listed variables of the library hold what their initialisers lay. -/
import Derived.Test.YtjbcbcoaoplllaaDoor10p
import Derived.Test.YtjbcbcoaoplllaaDoorShelf
import Derived.Stop.LaidErr
import Derived.MakeChecks
import Derived.Shelf.Abstract
import Derived.Test.YtjbcbcoaoplllaaDoorCards
import Derived.Test.YtjbcbcoaoplllaaDoorTie
import Derived.Deep.DeepHandedRow
import Derived.Lib.LaidTab
import Derived.Test.YtjbcbcoaoplllaaDoorOpen
import Derived.ChangeOld
namespace Go.Proofs.YtjbcbcoaoplllaaDoor.readBearoffLaw
open Go.ChangeMaps (open_string shut_string)
open Go.ChangeShapes Go.WideShapes Go.ChangeAt Go.RowKit
set_option linter.unusedVariables false
set_option linter.unusedSimpArgs false

def lay (vs : Array Value) : Obj → Obj
  | .cells _ t frozen => .cells vs t frozen
  | o => o
/-- A world for the witness: the settled one, each listed table holding what its initialiser lays. -/
noncomputable def lowBlock : Nat := (World.holding Tryd.prog default ⟨#[], #[], []⟩).heap.size
noncomputable def laidWorld (os : Os) : World :=
  { World.holding Tryd.prog os ⟨#[.cells #[.string ⟨#[118, 97, 108, 117, 101, 32, 111, 117, 116, 32, 111, 102, 32, 114, 97, 110, 103, 101]⟩] 158, .cells #[.string ⟨#[105, 110, 118, 97, 108, 105, 100, 32, 115, 121, 110, 116, 97, 120]⟩] 158], #[], []⟩ with heap := ((((((((World.holding Tryd.prog os ⟨#[.cells #[.string ⟨#[118, 97, 108, 117, 101, 32, 111, 117, 116, 32, 111, 102, 32, 114, 97, 110, 103, 101]⟩] 158, .cells #[.string ⟨#[105, 110, 118, 97, 108, 105, 100, 32, 115, 121, 110, 116, 97, 120]⟩] 158], #[], []⟩).heap.modify 8 (lay #[.int .u8 0, .int .u8 1, .int .u8 28, .int .u8 2, .int .u8 29, .int .u8 14, .int .u8 24, .int .u8 3, .int .u8 30, .int .u8 22, .int .u8 20, .int .u8 15, .int .u8 25, .int .u8 17, .int .u8 4, .int .u8 8, .int .u8 31, .int .u8 27, .int .u8 13, .int .u8 23, .int .u8 21, .int .u8 19, .int .u8 16, .int .u8 7, .int .u8 26, .int .u8 12, .int .u8 18, .int .u8 6, .int .u8 11, .int .u8 5, .int .u8 10, .int .u8 9])).modify 9 (lay #[.int .u8 0, .int .u8 1, .int .u8 56, .int .u8 2, .int .u8 57, .int .u8 49, .int .u8 28, .int .u8 3, .int .u8 61, .int .u8 58, .int .u8 42, .int .u8 50, .int .u8 38, .int .u8 29, .int .u8 17, .int .u8 4, .int .u8 62, .int .u8 47, .int .u8 59, .int .u8 36, .int .u8 45, .int .u8 43, .int .u8 51, .int .u8 22, .int .u8 53, .int .u8 39, .int .u8 33, .int .u8 30, .int .u8 24, .int .u8 18, .int .u8 12, .int .u8 5, .int .u8 63, .int .u8 55, .int .u8 48, .int .u8 27, .int .u8 60, .int .u8 41, .int .u8 37, .int .u8 16, .int .u8 46, .int .u8 35, .int .u8 44, .int .u8 21, .int .u8 52, .int .u8 32, .int .u8 23, .int .u8 11, .int .u8 54, .int .u8 26, .int .u8 40, .int .u8 15, .int .u8 34, .int .u8 20, .int .u8 31, .int .u8 10, .int .u8 25, .int .u8 14, .int .u8 19, .int .u8 9, .int .u8 13, .int .u8 8, .int .u8 7, .int .u8 6])).modify 4 (lay #[.int .u64 1, .int .u64 10, .int .u64 100, .int .u64 1000, .int .u64 10000, .int .u64 100000, .int .u64 1000000, .int .u64 10000000, .int .u64 100000000, .int .u64 1000000000, .int .u64 10000000000, .int .u64 100000000000, .int .u64 1000000000000, .int .u64 10000000000000, .int .u64 100000000000000, .int .u64 1000000000000000, .int .u64 10000000000000000, .int .u64 100000000000000000, .int .u64 1000000000000000000, .int .u64 10000000000000000000])).modify 7 (lay #[.int .u8 128, .int .u8 191, .int .u8 160, .int .u8 191, .int .u8 128, .int .u8 159, .int .u8 144, .int .u8 191, .int .u8 128, .int .u8 143, .int .u8 0, .int .u8 0, .int .u8 0, .int .u8 0, .int .u8 0, .int .u8 0, .int .u8 0, .int .u8 0, .int .u8 0, .int .u8 0, .int .u8 0, .int .u8 0, .int .u8 0, .int .u8 0, .int .u8 0, .int .u8 0, .int .u8 0, .int .u8 0, .int .u8 0, .int .u8 0, .int .u8 0, .int .u8 0])).modify 1 (lay #[.iface 156 (.pointer (some ⟨lowBlock + 0, 0, none⟩))])).modify 0 (lay #[.iface 156 (.pointer (some ⟨lowBlock + 1, 0, none⟩))])).modify 6 (lay (Pinned.utf8FirstZ.map (fun (n : Nat) => Value.int .u8 (n : Int))).toArray)) }
theorem errRow (u : TypeId) (h : Tryd.prog.typeName? 3 u = some "*errors.errorString") : u = 156 :=
  typeName_ptr_named (nm := "errors.errorString") (by rw [show "*" ++ "errors.errorString" = "*errors.errorString" by decide]; kernel_rfl) (by kernel_rfl) (by decide) u (by rw [show "*" ++ "errors.errorString" = "*errors.errorString" by decide]; exact h)
theorem errGS : Tryd.prog.globalNamed "strconv.ErrSyntax" = some 0 := by kernel_rfl
theorem errCellS {W : World} (hL : laidMetH Tryd.prog Rows.fnExactReadBearoffRow.laid W) : ErrC W 0 := by
  have hL1 : laidMet Tryd.prog Rows.fnExactReadBearoffRow.laid W := by
    rw [← Go.MakeChecks.laidMetH_plain _ _ _ (by kernel_rfl)]
    exact hL
  have hL2 : laidMet Tryd.prog [("math/bits.deBruijn32tab", Rows.laid_math_bits_deBruijn32tab), ("math/bits.deBruijn64tab", Rows.laid_math_bits_deBruijn64tab), ("internal/strconv.uint64pow10", Rows.laid_internal_strconv_uint64pow10), ("unicode/utf8.acceptRanges", Rows.laid_unicode_utf8_acceptRanges), ("strconv.ErrRange", Rows.laid_strconv_ErrRange), ("strconv.ErrSyntax", Rows.laid_strconv_ErrSyntax), ("unicode/utf8.first", Rows.laid_unicode_utf8_first)] W := hL1
  obtain ⟨a0, s0, hv0, -, -, -⟩ := laid_sentinel (((((hL2.tail).tail).tail).tail).tail) errGS (show (Tryd.prog.globals[0]?).map (·.type) = some 63 by kernel_rfl) Tryd.underlying63 errRow Tryd.underlying156 Tryd.underlying158 rfl rfl Tryd.underlying9 (by kernel_rfl) (by kernel_rfl)
  exact ⟨_, by have h0 := World.var?_cell errGS hv0 0; simpa using h0, Or.inr ⟨_, _, rfl⟩⟩
theorem errGR : Tryd.prog.globalNamed "strconv.ErrRange" = some 1 := by kernel_rfl
theorem errCellR {W : World} (hL : laidMetH Tryd.prog Rows.fnExactReadBearoffRow.laid W) : ErrC W 1 := by
  have hL1 : laidMet Tryd.prog Rows.fnExactReadBearoffRow.laid W := by
    rw [← Go.MakeChecks.laidMetH_plain _ _ _ (by kernel_rfl)]
    exact hL
  have hL2 : laidMet Tryd.prog [("math/bits.deBruijn32tab", Rows.laid_math_bits_deBruijn32tab), ("math/bits.deBruijn64tab", Rows.laid_math_bits_deBruijn64tab), ("internal/strconv.uint64pow10", Rows.laid_internal_strconv_uint64pow10), ("unicode/utf8.acceptRanges", Rows.laid_unicode_utf8_acceptRanges), ("strconv.ErrRange", Rows.laid_strconv_ErrRange), ("strconv.ErrSyntax", Rows.laid_strconv_ErrSyntax), ("unicode/utf8.first", Rows.laid_unicode_utf8_first)] W := hL1
  obtain ⟨a0, s0, hv0, -, -, -⟩ := laid_sentinel ((((hL2.tail).tail).tail).tail) errGR (show (Tryd.prog.globals[1]?).map (·.type) = some 63 by kernel_rfl) Tryd.underlying63 errRow Tryd.underlying156 Tryd.underlying158 rfl rfl Tryd.underlying9 (by kernel_rfl) (by kernel_rfl)
  exact ⟨_, by have h0 := World.var?_cell errGR hv0 0; simpa using h0, Or.inr ⟨_, _, rfl⟩⟩
theorem lenCell_of {W : World} (hsh : W.ShapedOpen Tryd.prog) : MaxCell W := let ⟨m, hm⟩ := Tryd.laysM146.s1_3 W hsh; ⟨m, hm⟩
theorem rbL_length (p c h s : Int) (t : List UInt8) : (rbL p c h s t).length ≤ 1048576 := by
  unfold rbL
  split
  · rename_i q
    simp only [accB, Bool.and_eq_true] at q
    have := okP_parts q.1
    omega
  · simp
theorem fnExactReadBearoff_both (p c h s : Int) (t : ByteArray) (ht : t.size ≤ 1048576) : ∃ (xs : List Int) (r : Bool), xs.length ≤ 1048576 ∧
    (∀ w : World, Calls Tryd.prog 14 #[.agg #[.int .i64 p, .int .i64 c, .int .i64 h, .int .i64 s], .string t] w (SliceGotB xs r w)) ∧ (∀ w : World, MaxCell w → ErrC w 0 → ErrC w 1 → Calls Tryd.prog 15 #[.agg #[.int .i64 p, .int .i64 c, .int .i64 h, .int .i64 s], .string t] w (SliceGotB xs r w)) :=
  ⟨_, _, rbL_length p c h s t.data.toList, fun w => specReadBearoff_any p c h s t w ht, fun w q1 q2 q3 => readBearoff_any p c h s t w ht q1 q2 q3⟩
set_option maxRecDepth 8000 in
set_option maxHeartbeats 2000000 in
theorem fnExactReadBearoff_walk (p c h s : Int) (t : ByteArray) (w : World) (hM : MaxCell w) (hE1 : ErrC w 0) (hE2 : ErrC w 1) :
    Calls Tryd.prog 4 #[.agg #[.int .i64 p, .int .i64 c, .int .i64 h, .int .i64 s], .string t] w fun e w' => e = .returned (.bool true) ∧ Below w.heap.size w w' := by
  have BV := Blk.new w #[.int .i64 p, .int .i64 c, .int .i64 h, .int .i64 s] 23
  have hb : Below w.heap.size w (w.alloc (.cells #[.int .i64 p, .int .i64 c, .int .i64 h, .int .i64 s] 23)) := (Below.refl _ _).alloc (Nat.le_refl _) _
  have hl0 := BV.lt
  by_cases hbig : 1048576 < t.size
  · have e1 : decide (1048576 < (t.size : Int)) = true := by simp; omega
    have e2 : decide (1048576 < t.size) = true := by simp; omega
    go_enter Tryd.func4, Tryd.ntmps4
    go_wp2
    go_ret
    exact ⟨rfl, hb⟩
  · have e1 : decide (1048576 < (t.size : Int)) = false := by simp; omega
    have e2 : decide (1048576 < t.size) = false := by simp; omega
    obtain ⟨xs, r, hle, hsp, him⟩ := fnExactReadBearoff_both p c h s t (by omega)
    have HSP := Lib.hid hsp
    have HIM := Lib.hid him
    clear hsp him hbig
    go_enter Tryd.func4, Tryd.ntmps4
    obtain ⟨x0, x1, x2, x3, xf, xl⟩ := BV.four
    go_wp2_with fail
    clear e1 e2
    generalize (w.alloc (.cells #[.int .i64 p, .int .i64 c, .int .i64 h, .int .i64 s] 23)) = v0 at *
    go_wp2_with fail
    refine (toVariant_any _ _ _ _ _).mono ?_
    rintro e w1 ⟨rfl, hb1⟩
    clear x0 x1 x2 x3 xf xl
    replace BV := BV.below hb1
    have hz1 := hb1.size
    replace hb := chain hb hb1
    clear hb1
    obtain ⟨x0, x1, x2, x3, xf, xl⟩ := BV.four
    go_wp2_with fail
    refine (HSP.out _).mono ?_
    rintro e w2 ⟨a1, k1, rfl, O1, hb2⟩
    clear x0 x1 x2 x3 xf xl
    replace BV := BV.below hb2
    have hz2 := hb2.size
    replace hb := chain hb hb2
    clear hb2
    obtain ⟨x0, x1, x2, x3, xf, xl⟩ := BV.four
    go_wp2_with fail
    refine (toVariant_any _ _ _ _ _).mono ?_
    rintro e w3 ⟨rfl, hb3⟩
    clear x0 x1 x2 x3 xf xl
    replace BV := BV.below hb3
    replace O1 := O1.below hb3
    have hz3 := hb3.size
    replace hb := chain hb hb3
    clear hb3
    obtain ⟨x0, x1, x2, x3, xf, xl⟩ := BV.four
    go_wp2_with fail
    refine (HIM.out _ (hM.below hb) (hE1.below hb) (hE2.below hb)).mono ?_
    rintro e w4 ⟨a2, k2, rfl, O2, hb4⟩
    clear x0 x1 x2 x3 xf xl
    replace BV := BV.below hb4
    replace O1 := O1.below hb4
    have hz4 := hb4.size
    replace hb := chain hb hb4
    clear hb4
    obtain ⟨x0, x1, x2, x3, xf, xl⟩ := BV.four
    go_wp2_with fail
    refine (eqInt64S_same _ _ _ _ _ xs _ rfl hle O2.irow O1.irow).mono ?_
    rintro e w5 ⟨rfl, hb5⟩
    clear x0 x1 x2 x3 xf xl
    replace BV := BV.below hb5
    replace O1 := O1.below hb5
    replace O2 := O2.below hb5
    have hz5 := hb5.size
    replace hb := chain hb hb5
    clear hb5
    obtain ⟨x0, x1, x2, x3, xf, xl⟩ := BV.four
    go_wp2_with fail
    refine (markS_own _ _ _ _ _ xs 1 _ rfl hle (by omega) (by omega) O2).mono ?_
    rintro e w6 ⟨rfl, O2, hs6⟩
    clear x0 x1 x2 x3 xf xl
    replace BV := BV.same hs6 (by omega)
    replace O1 := O1.same hs6 (by omega)
    replace hb := below_same hb hs6 (by omega) (by omega)
    clear hs6
    obtain ⟨x0, x1, x2, x3, xf, xl⟩ := BV.four
    have hq : ¬ ((1 : Int) + (xs.length : Int) < 0) := by omega
    go_wp2_with fail
    refine (heldInt64S_any _ xs.length _ 1 _ hle (by omega) (by omega) O2.irow).mono ?_
    rintro e w7 ⟨rfl, rfl⟩
    go_wp2_with fail
    refine (toVariant_any _ _ _ _ _).mono ?_
    rintro e w8 ⟨rfl, hb8⟩
    clear x0 x1 x2 x3 xf xl
    replace BV := BV.below hb8
    replace O1 := O1.below hb8
    replace O2 := O2.below hb8
    have hz8 := hb8.size
    replace hb := chain hb hb8
    clear hb8
    obtain ⟨x0, x1, x2, x3, xf, xl⟩ := BV.four
    go_wp2_with fail
    refine (HIM.out _ (hM.below hb) (hE1.below hb) (hE2.below hb)).mono ?_
    rintro e w9 ⟨a3, k3, rfl, O3, hb9⟩
    clear x0 x1 x2 x3 xf xl
    replace BV := BV.below hb9
    replace O1 := O1.below hb9
    replace O2 := O2.below hb9
    have hz9 := hb9.size
    replace hb := chain hb hb9
    clear hb9
    obtain ⟨x0, x1, x2, x3, xf, xl⟩ := BV.four
    go_wp2_with fail
    refine (eqInt64S_same _ _ _ _ _ xs _ rfl hle O3.irow O1.irow).mono ?_
    rintro e w10 ⟨rfl, hb10⟩
    clear x0 x1 x2 x3 xf xl
    replace BV := BV.below hb10
    replace O1 := O1.below hb10
    replace O2 := O2.below hb10
    replace O3 := O3.below hb10
    have hz10 := hb10.size
    replace hb := chain hb hb10
    clear hb10
    obtain ⟨x0, x1, x2, x3, xf, xl⟩ := BV.four
    go_wp2_with fail
    refine (heldInt64S_any _ xs.length _ 1 _ hle (by omega) (by omega) O2.irow).mono ?_
    rintro e w11 ⟨rfl, rfl⟩
    go_wp2_with fail
    go_ret
    exact ⟨rfl, hb⟩
set_option maxRecDepth 100000 in
theorem fnExactReadBearoff_contract (H : Type) (enc : TypeId × Value → H) (W : World) (base : Nat) (args : Array Value) (ds gs : List (DataW H)) (before : List MemPlace)
    (hval : ∀ (j : Nat) t v, Tryd.f4.params[j]? = some t → args[j]? = some v → Value.okWide Tryd.prog W .any base t v)
    (hW : DataW.Whole enc Tryd.prog Tryd.f4.params.toList Rows.fnExactReadBearoffSpec.vars false W args.toList ds gs before) (hL : laidMetH Tryd.prog Rows.fnExactReadBearoffRow.laid W) (hsh : W.ShapedOpen Tryd.prog) :
    Calls Tryd.prog 4 args W fun e W' => ∃ v, e = .returned v ∧ Rows.fnExactReadBearoffSpec.post enc Tryd.prog Tryd.f4 false true false false W args v W' := by
  have hE1 := errCellS hL
  have hE2 := errCellR hL
  have hM := lenCell_of hsh
  have hW' := hW
  obtain ⟨p, q, hA0, hV, rfl, hfz, hnd⟩ := hW
  have hA : DataW.TrodAll enc Tryd.prog W 0 (fun _ => true) true Tryd.f4.params.toList args.toList ds p := hA0
  rw [Tryd.params4] at hA hval
  obtain ⟨v0, vs0, d0, ds0, p0, q0, hargs, rfl, rfl, h0, r0⟩ := trodAll_cons hA
  obtain ⟨v1, vs1, d1, ds1, p1, q1, rfl, rfl, rfl, h1, r1⟩ := trodAll_cons r0
  obtain ⟨rfl, rfl, rfl⟩ := trodAll_nil r1
  obtain rfl : args = #[v0, v1] := by cases args; simp_all
  obtain ⟨rfl, rfl⟩ := trodVars_none hV
  have k0 := h0
  have lt0 : ∀ x ∈ p0, x.block < W.heap.size := by obtain ⟨m, hm⟩ := k0; exact DataW.trod_lt m _ _ _ hm
  have k1 := h1
  have lt1 : ∀ x ∈ p1, x.block < W.heap.size := by obtain ⟨m, hm⟩ := k1; exact DataW.trod_lt m _ _ _ hm
  obtain ⟨x0_0, x1_0, x2_0, x3_0, y0_0, y1_0, y2_0, y3_0, m_0, rfl, _, _, hy0_0, hy1_0, hy2_0, hy3_0⟩ := Joins.open_agg4 Tryd.underlying23 (by kernel_rfl) (show Tryd.prog.cellsOf 23 = 4 by kernel_rfl) (hval 0 23 v0 rfl rfl) h0
  obtain ⟨a0_0, e0_0, _, wa0_0⟩ := DataW.trod_int Tryd.underlying2 hy0_0
  obtain ⟨a1_0, e1_0, _, wa1_0⟩ := DataW.trod_int Tryd.underlying2 hy1_0
  obtain ⟨a2_0, e2_0, _, wa2_0⟩ := DataW.trod_int Tryd.underlying2 hy2_0
  obtain ⟨a3_0, e3_0, _, wa3_0⟩ := DataW.trod_int Tryd.underlying2 hy3_0
  simp at e0_0 e1_0 e2_0 e3_0
  subst e0_0 e1_0 e2_0 e3_0
  obtain ⟨s_1, rfl, _, _, ws_1⟩ := open_string Tryd.underlying9 (hval 1 9 v1 rfl rfl) h1
  clear hA0
  refine (fnExactReadBearoff_walk a0_0 a1_0 a2_0 a3_0 s_1 W hM hE1 hE2).mono fun e W' ⟨he, bel⟩ => ?_
  subst he
  exact ⟨_, rfl, _, _, _, [], _, [], hW', trodAll_mk1 (shut_bool Tryd.underlying4 _), (trodAll_cons_mk (Below.trod laidOut (by kernel_rfl) (of_decide_eq_true (by kernel_rfl)) k0 bel lt0) (trodAll_cons_mk (Below.trod laidOut (by kernel_rfl) (of_decide_eq_true (by kernel_rfl)) k1 bel lt1) trodAll_mk0)), rfl, bel.frame _, fun h => by cases h⟩
theorem fnExactReadBearoff_laid (os : Os) : laidMet Tryd.prog Rows.fnExactReadBearoffRow.laid ((laidWorld os).forCall (fun _ _ => 0) ⟨#[], #[.agg #[.int .i64 0, .int .i64 0, .int .i64 0, .int .i64 0], .string (ByteArray.mk #[])], []⟩).memory :=
  laidMet_of_run' 8 (by kernel_rfl) (by kernel_rfl)
theorem fnExactReadBearoff_reads (os : Os) {H : Type} (enc : TypeId × Value → H) : ∃ places, DataW.whole enc Tryd.prog ((laidWorld os).forCall (fun _ _ => 0) ⟨#[], #[.agg #[.int .i64 0, .int .i64 0, .int .i64 0, .int .i64 0], .string (ByteArray.mk #[])], []⟩).memory Tryd.f4.params.toList Rows.fnExactReadBearoffSpec.vars false (#[.agg #[.int .i64 0, .int .i64 0, .int .i64 0, .int .i64 0], .string (ByteArray.mk #[])] : Array Value).toList 8 = some ([.agg [.lit (.int .i64 0), .lit (.int .i64 0), .lit (.int .i64 0), .lit (.int .i64 0)], .lit (.string [])], [], places) :=
  ⟨[], by kernel_rfl⟩
set_option maxRecDepth 100000 in
theorem fnExactReadBearoff_lifted (os : Os) (started : os.Started) (H : Type) (enc : TypeId × Value → H) (F : Stop.Interp) :
    ReturnsInHanded {} Tryd.checked os 4 .any ((OpenSpec.ofChange Rows.fnExactReadBearoffSpec).preRow enc Tryd.prog Tryd.f4 Rows.fnExactReadBearoffRow.domain false Rows.fnExactReadBearoffRow.laid) (((OpenSpec.ofChange Rows.fnExactReadBearoffSpec).at F).post enc Tryd.prog Tryd.f4 false true false false) := by
  obtain ⟨places, hx⟩ := fnExactReadBearoff_reads os enc
  refine returnsInHanded_of_row (C := Tryd.checked) (s := OpenSpec.ofChange Rows.fnExactReadBearoffSpec) own started (by kernel_rfl) Tryd.func4
    (witness_row_at (enc := enc) (C := Tryd.checked) false (laidWorld os) #[.agg #[.int .i64 0, .int .i64 0, .int .i64 0, .int .i64 0], .string (ByteArray.mk #[])] rfl (by kernel_rfl) (by kernel_rfl) (by kernel_rfl)
      (OpenSpec.preRow_of_cond 8 hx (by kernel_rfl) (fun k hk => by cases hk) (by kernel_rfl) (fnExactReadBearoff_laid os))) ?_
  intro W base args ds gs before hval hW _ _ _ hL hsh _
  exact fnExactReadBearoff_contract H enc W base args ds gs before hval hW hL hsh
theorem fnExactReadBearoff_said : Rows.FnExactReadBearoffSaid :=
  OpenClaim.holds_of_cond 4 Tryd.f4 rfl rfl rfl rfl rfl rfl rfl ⟨rfl, rfl, rfl, rfl, rfl⟩ rfl rfl rfl rfl rfl (by kernel_rfl) Tryd.func4 (by kernel_rfl)
    (of_decide_eq_true (by kernel_rfl)) (by unfold Func.isWrapper; first | (rw [if_pos (by decide +kernel)]; kernel_rfl) | (rw [if_neg (by decide +kernel)]; exact ⟨rfl, rfl⟩))
    (fun os started H enc _ F => by rw [OpenClaim.pre_eq_preRow]; exact fnExactReadBearoff_lifted os started H enc F)
/-- No parameter wants a stand-in; the program's own looks are off: what the card asks. -/
theorem fnExactReadBearoff_plain (f : FuncId) (fn : Func) (hf : Tryd.pinned.checked.prog.funcNamed "loop.example/g00885/laws.FnExactReadBearoff" = some f) (hfn : Tryd.pinned.checked.prog.funcs[f]? = some fn) :
    true = Tryd.pinned.checked.prog.looks [] ∧ ∀ (j : Nat) t, fn.params[j]? = some t → Tryd.pinned.checked.prog.wantsStandIn t = false := by
  obtain rfl : f = 4 := Option.some.inj ((show Tryd.prog.funcNamed "loop.example/g00885/laws.FnExactReadBearoff" = some 4 by kernel_rfl).symm.trans hf) |>.symm
  obtain rfl : fn = Tryd.f4 := (Option.some.inj (Tryd.func4.symm.trans hfn)).symm
  refine ⟨by kernel_rfl, fun j t ht => ?_⟩
  rw [Tryd.params4] at ht
  have hm := Array.mem_of_getElem? ht
  simp at hm
  rcases hm with rfl | rfl
  · exact (show Tryd.prog.wantsStandIn 23 = false by kernel_rfl)
  · exact (show Tryd.prog.wantsStandIn 9 = false by kernel_rfl)
theorem fnExactReadBearoff_card : Rows.FnExactReadBearoffCardSaid :=
  Claim7.holds_tied_plain_at .later [] _ _ _ _ fnExactReadBearoff_said (fun _ h => by cases h) (by kernel_rfl) (fun _ h => by cases h) fnExactReadBearoff_row_tie rfl ⟨rfl, rfl⟩ (by kernel_rfl) rfl fnExactReadBearoff_plain (by kernel_rfl)
end Go.Proofs.YtjbcbcoaoplllaaDoor.readBearoffLaw
