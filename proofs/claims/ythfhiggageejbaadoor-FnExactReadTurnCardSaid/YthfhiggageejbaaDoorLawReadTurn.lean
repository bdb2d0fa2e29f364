/- The exact law of chapter 6 on reading a turn holds: for every input the law returns true and its arguments read behind the call as they read before. No conditions but those of the card: the listed variables of the library hold what their initialisers lay. -/
import Derived.Test.YthfhiggageejbaaDoor06v
import Derived.Test.YthfhiggageejbaaDoor06g
import Derived.Test.YthfhiggageejbaaDoorStpL
import Derived.Test.YthfhiggageejbaaDoorCards
import Derived.Test.YthfhiggageejbaaDoorTie
import Derived.Test.YthfhiggageejbaaDoorShelf
import Derived.ChangeOld
import Derived.Deep.DeepHandedRow
import Derived.Lib.LaidTab
import Derived.Stop.LaidErr
import Derived.MakeChecks
import Derived.Shelf.Abstract
namespace Go.Proofs.YthfhiggageejbaaDoor.readTurnLaw
open Go.ChangeMaps (open_string shut_string)
open Go.ChangeShapes Go.WideShapes Go.ChangeAt Go.RowKit
set_option linter.unusedVariables false
set_option linter.unusedSimpArgs false

def lay (vs : Array Value) : Obj → Obj
  | .cells _ t frozen => .cells vs t frozen
  | o => o
/-- A world for the witness: the settled one, each listed table holding what its initialiser lays. -/
noncomputable def lowBlock : Nat := (World.holding Tryd.prog default ⟨#[], #[], []⟩).heap.size
noncomputable def laidWorld (os : Os) : World :=
  { World.holding Tryd.prog os ⟨#[.cells #[.string ⟨#[118, 97, 108, 117, 101, 32, 111, 117, 116, 32, 111, 102, 32, 114, 97, 110, 103, 101]⟩] 169, .cells #[.string ⟨#[105, 110, 118, 97, 108, 105, 100, 32, 115, 121, 110, 116, 97, 120]⟩] 169], #[], []⟩ with heap := ((((((((World.holding Tryd.prog os ⟨#[.cells #[.string ⟨#[118, 97, 108, 117, 101, 32, 111, 117, 116, 32, 111, 102, 32, 114, 97, 110, 103, 101]⟩] 169, .cells #[.string ⟨#[105, 110, 118, 97, 108, 105, 100, 32, 115, 121, 110, 116, 97, 120]⟩] 169], #[], []⟩).heap.modify 6 (lay #[.int .u8 0, .int .u8 1, .int .u8 28, .int .u8 2, .int .u8 29, .int .u8 14, .int .u8 24, .int .u8 3, .int .u8 30, .int .u8 22, .int .u8 20, .int .u8 15, .int .u8 25, .int .u8 17, .int .u8 4, .int .u8 8, .int .u8 31, .int .u8 27, .int .u8 13, .int .u8 23, .int .u8 21, .int .u8 19, .int .u8 16, .int .u8 7, .int .u8 26, .int .u8 12, .int .u8 18, .int .u8 6, .int .u8 11, .int .u8 5, .int .u8 10, .int .u8 9])).modify 7 (lay #[.int .u8 0, .int .u8 1, .int .u8 56, .int .u8 2, .int .u8 57, .int .u8 49, .int .u8 28, .int .u8 3, .int .u8 61, .int .u8 58, .int .u8 42, .int .u8 50, .int .u8 38, .int .u8 29, .int .u8 17, .int .u8 4, .int .u8 62, .int .u8 47, .int .u8 59, .int .u8 36, .int .u8 45, .int .u8 43, .int .u8 51, .int .u8 22, .int .u8 53, .int .u8 39, .int .u8 33, .int .u8 30, .int .u8 24, .int .u8 18, .int .u8 12, .int .u8 5, .int .u8 63, .int .u8 55, .int .u8 48, .int .u8 27, .int .u8 60, .int .u8 41, .int .u8 37, .int .u8 16, .int .u8 46, .int .u8 35, .int .u8 44, .int .u8 21, .int .u8 52, .int .u8 32, .int .u8 23, .int .u8 11, .int .u8 54, .int .u8 26, .int .u8 40, .int .u8 15, .int .u8 34, .int .u8 20, .int .u8 31, .int .u8 10, .int .u8 25, .int .u8 14, .int .u8 19, .int .u8 9, .int .u8 13, .int .u8 8, .int .u8 7, .int .u8 6])).modify 1 (lay #[.int .u64 1, .int .u64 10, .int .u64 100, .int .u64 1000, .int .u64 10000, .int .u64 100000, .int .u64 1000000, .int .u64 10000000, .int .u64 100000000, .int .u64 1000000000, .int .u64 10000000000, .int .u64 100000000000, .int .u64 1000000000000, .int .u64 10000000000000, .int .u64 100000000000000, .int .u64 1000000000000000, .int .u64 10000000000000000, .int .u64 100000000000000000, .int .u64 1000000000000000000, .int .u64 10000000000000000000])).modify 5 (lay #[.int .u8 128, .int .u8 191, .int .u8 160, .int .u8 191, .int .u8 128, .int .u8 159, .int .u8 144, .int .u8 191, .int .u8 128, .int .u8 143, .int .u8 0, .int .u8 0, .int .u8 0, .int .u8 0, .int .u8 0, .int .u8 0, .int .u8 0, .int .u8 0, .int .u8 0, .int .u8 0, .int .u8 0, .int .u8 0, .int .u8 0, .int .u8 0, .int .u8 0, .int .u8 0, .int .u8 0, .int .u8 0, .int .u8 0, .int .u8 0, .int .u8 0, .int .u8 0])).modify 3 (lay #[.iface 167 (.pointer (some ⟨lowBlock + 0, 0, none⟩))])).modify 2 (lay #[.iface 167 (.pointer (some ⟨lowBlock + 1, 0, none⟩))])).modify 4 (lay (Pinned.utf8FirstZ.map (fun (n : Nat) => Value.int .u8 (n : Int))).toArray)) }
theorem errRow (u : TypeId) (h : Tryd.prog.typeName? 3 u = some "*errors.errorString") : u = 167 :=
  typeName_ptr_named (nm := "errors.errorString") (by rw [show "*" ++ "errors.errorString" = "*errors.errorString" by decide]; kernel_rfl) (by kernel_rfl) (by decide) u (by rw [show "*" ++ "errors.errorString" = "*errors.errorString" by decide]; exact h)
theorem errG : Tryd.prog.globalNamed "strconv.ErrSyntax" = some 2 := by kernel_rfl
theorem errCell_of {W : World} (hL : laidMetH Tryd.prog Rows.fnExactReadTurnRow.laid W) : ErrCell W 2 := by
  have hL1 : laidMet Tryd.prog Rows.fnExactReadTurnRow.laid W := by
    rw [← Go.MakeChecks.laidMetH_plain _ _ _ (by kernel_rfl)]
    exact hL
  have hL2 : laidMet Tryd.prog [("math/bits.deBruijn32tab", Rows.laid_math_bits_deBruijn32tab), ("math/bits.deBruijn64tab", Rows.laid_math_bits_deBruijn64tab), ("internal/strconv.uint64pow10", Rows.laid_internal_strconv_uint64pow10), ("unicode/utf8.acceptRanges", Rows.laid_unicode_utf8_acceptRanges), ("strconv.ErrRange", Rows.laid_strconv_ErrRange), ("strconv.ErrSyntax", Rows.laid_strconv_ErrSyntax), ("unicode/utf8.first", Rows.laid_unicode_utf8_first)] W := hL1
  obtain ⟨a0, s0, hv0, -, -, -⟩ := laid_sentinel (((((hL2.tail).tail).tail).tail).tail) errG (show (Tryd.prog.globals[2]?).map (·.type) = some 109 by kernel_rfl) Tryd.underlying109 errRow Tryd.underlying167 Tryd.underlying169 rfl rfl Tryd.underlying9 (by kernel_rfl) (by kernel_rfl)
  exact ⟨_, by have h0 := World.var?_cell errG hv0 0; simpa using h0, Or.inr ⟨_, _, rfl⟩⟩
theorem lenCell_of {W : World} (hsh : W.ShapedOpen Tryd.prog) : IntCell W 0 := let ⟨m, hm⟩ := Tryd.laysM145.s1_3 W hsh; ⟨m, hm⟩
theorem tn_name (p c h s : Int) (t : ByteArray) (ht : t.size ≤ 1048576) : ∃ (ra rb code : Int) (zs : List Stp), zs.length ≤ 1048576 ∧
    (∀ w, IntCell w 0 → ErrCell w 2 → Calls Tryd.prog 9 #[.agg #[.int .i64 p, .int .i64 c, .int .i64 h, .int .i64 s], .string t] w fun e w' => ∃ a k, e = .returned (.tuple #[.agg #[.int .i64 ra, .int .i64 rb], .slice a zs.length k, .int .i64 code]) ∧ OSt w.heap.size w'.heap.size w' a zs ∧ Below w.heap.size w w') ∧
    (∀ w, Calls Tryd.prog 7 #[.agg #[.int .i64 p, .int .i64 c, .int .i64 h, .int .i64 s], .string t] w fun e w' => ∃ a k, e = .returned (.tuple #[.agg #[.int .i64 ra, .int .i64 rb], .slice a zs.length k, .int .i64 code]) ∧ OSt w.heap.size w'.heap.size w' a zs ∧ Below w.heap.size w w') := by
  refine ⟨_, _, _, (tnA p c h s t.data.toList).2.2, ?_, fun w q1 q2 => readTurn_any p c h s t w ht q1 q2, fun w => specReadTurn_any p c h s t w ht⟩
  unfold tnA
  split
  · split
    · simp
    · cases q : rdT p s t.data.toList with
      | none => simp
      | some x =>
        show x.2.length ≤ 1048576
        unfold rdT at q
        split at q
        · cases q1 : rdR s (t.data.toList.take 2) with
          | none => rw [q1, both_none_left] at q; cases q
          | some y =>
            cases q2 : rds p s (t.data.toList.drop 4) with
            | none => rw [q2, both_none_right] at q; cases q
            | some D =>
              rw [q1, q2] at q
              have := rds_len q2
              obtain rfl : (y, D) = x := by simpa [both] using q
              show D.length ≤ 1048576
              omega
        · cases q
  · simp
set_option maxRecDepth 8000 in
set_option maxHeartbeats 4000000 in
theorem fnExactReadTurn_walk (p c h s : Int) (t : ByteArray) (w : World) (hM : IntCell w 0) (hE : ErrCell w 2) :
    Calls Tryd.prog 3 #[.agg #[.int .i64 p, .int .i64 c, .int .i64 h, .int .i64 s], .string t] w fun e w' => e = .returned (.bool true) ∧ Below w.heap.size w w' := by
  have BV := Blk.new w #[.int .i64 p, .int .i64 c, .int .i64 h, .int .i64 s] 23
  have hb : Below w.heap.size w (w.alloc (.cells #[.int .i64 p, .int .i64 c, .int .i64 h, .int .i64 s] 23)) := (Below.refl _ _).alloc (Nat.le_refl _) _
  have hz0 : w.heap.size < (w.alloc (.cells #[.int .i64 p, .int .i64 c, .int .i64 h, .int .i64 s] 23)).heap.size := by simp
  by_cases hbig : 1048576 < t.size
  · have e1 : decide (1048576 < (t.size : Int)) = true := by simp; omega
    have e2 : decide (1048576 < t.size) = true := by simp; omega
    go_enter Tryd.func3, Tryd.ntmps3
    go_wp2
    go_ret
    exact ⟨rfl, hb⟩
  · have e1 : decide (1048576 < (t.size : Int)) = false := by simp; omega
    have e2 : decide (1048576 < t.size) = false := by simp; omega
    obtain ⟨ra, rb, code, zs, hlz, hi, hs⟩ := tn_name p c h s t (by omega)
    have HI := Lib.hid hi
    have HS := Lib.hid hs
    have hq0 : ¬ ((1 : Int) + 4 * (zs.length : Int) < 0) := by omega
    clear hi hs hbig
    go_enter Tryd.func3, Tryd.ntmps3
    obtain ⟨x0, x1, x2, x3, xf, xl⟩ := BV.four
    go_wp2_with fail
    generalize w.alloc (.cells #[.int .i64 p, .int .i64 c, .int .i64 h, .int .i64 s] 23) = ww0 at *
    refine (toVariant_any _ _ _ _ _).mono ?_
    rintro e w1 ⟨rfl, hb1⟩
    clear x0 x1 x2 x3 xf xl
    replace BV := BV.below hb1
    have hz1 := hb1.size
    replace hb := chain hb hb1
    clear hb1
    obtain ⟨x0, x1, x2, x3, xf, xl⟩ := BV.four
    go_wp2_with fail
    refine (HS.out _).mono ?_
    rintro e w2 ⟨a0, k0, rfl, O0, hb2⟩
    clear x0 x1 x2 x3 xf xl
    replace BV := BV.below hb2
    have hz2 := hb2.size
    replace hb := chain hb hb2
    clear hb2
    obtain ⟨x0, x1, x2, x3, xf, xl⟩ := BV.four
    clear x0 x1 x2 x3 xf xl
    have B0 := Blk.new w2 #[.int .i64 ra, .int .i64 rb] 25
    have hal2 : Below w2.heap.size w2 (w2.alloc (.cells #[.int .i64 ra, .int .i64 rb] 25)) := (Below.refl _ _).alloc (Nat.le_refl _) _
    have hza2 : (w2.alloc (.cells #[.int .i64 ra, .int .i64 rb] 25)).heap.size = w2.heap.size + 1 := by simp
    replace BV := BV.below hal2
    replace O0 := O0.below hal2
    replace hb := chain hb hal2
    clear hal2
    obtain ⟨x0, x1, x2, x3, xf, xl⟩ := BV.four
    obtain ⟨y0_B0, y1_B0, yf_B0, yl_B0⟩ := B0.two
    go_wp2_with fail
    generalize w2.alloc (.cells #[.int .i64 ra, .int .i64 rb] 25) = wa2 at *
    refine (toVariant_any _ _ _ _ _).mono ?_
    rintro e w3 ⟨rfl, hb3⟩
    clear x0 x1 x2 x3 xf xl
    clear y0_B0 y1_B0 yf_B0 yl_B0
    replace BV := BV.below hb3
    replace O0 := O0.below hb3
    replace B0 := B0.below hb3
    have hz3 := hb3.size
    replace hb := chain hb hb3
    clear hb3
    obtain ⟨x0, x1, x2, x3, xf, xl⟩ := BV.four
    obtain ⟨y0_B0, y1_B0, yf_B0, yl_B0⟩ := B0.two
    go_wp2_with fail
    refine (HI.out _ (hM.below hb) (hE.below hb)).mono ?_
    rintro e w4 ⟨a1, k1, rfl, O1, hb4⟩
    clear x0 x1 x2 x3 xf xl
    clear y0_B0 y1_B0 yf_B0 yl_B0
    replace BV := BV.below hb4
    replace O0 := O0.below hb4
    replace B0 := B0.below hb4
    have hz4 := hb4.size
    replace hb := chain hb hb4
    clear hb4
    obtain ⟨x0, x1, x2, x3, xf, xl⟩ := BV.four
    obtain ⟨y0_B0, y1_B0, yf_B0, yl_B0⟩ := B0.two
    clear x0 x1 x2 x3 xf xl
    clear y0_B0 y1_B0 yf_B0 yl_B0
    have B1 := Blk.new w4 #[.int .i64 ra, .int .i64 rb] 25
    have hal4 : Below w4.heap.size w4 (w4.alloc (.cells #[.int .i64 ra, .int .i64 rb] 25)) := (Below.refl _ _).alloc (Nat.le_refl _) _
    have hza4 : (w4.alloc (.cells #[.int .i64 ra, .int .i64 rb] 25)).heap.size = w4.heap.size + 1 := by simp
    replace BV := BV.below hal4
    replace O0 := O0.below hal4
    replace B0 := B0.below hal4
    replace O1 := O1.below hal4
    replace hb := chain hb hal4
    clear hal4
    obtain ⟨x0, x1, x2, x3, xf, xl⟩ := BV.four
    obtain ⟨y0_B0, y1_B0, yf_B0, yl_B0⟩ := B0.two
    obtain ⟨y0_B1, y1_B1, yf_B1, yl_B1⟩ := B1.two
    go_wp2_with fail
    generalize w4.alloc (.cells #[.int .i64 ra, .int .i64 rb] 25) = wa4 at *
    refine (eqRoll_same ra rb _).mono ?_
    rintro e w5 ⟨rfl, hb5⟩
    clear x0 x1 x2 x3 xf xl
    clear y0_B0 y1_B0 yf_B0 yl_B0
    clear y0_B1 y1_B1 yf_B1 yl_B1
    replace BV := BV.below hb5
    replace O0 := O0.below hb5
    replace B0 := B0.below hb5
    replace O1 := O1.below hb5
    replace B1 := B1.below hb5
    have hz5 := hb5.size
    replace hb := chain hb hb5
    clear hb5
    obtain ⟨x0, x1, x2, x3, xf, xl⟩ := BV.four
    obtain ⟨y0_B0, y1_B0, yf_B0, yl_B0⟩ := B0.two
    obtain ⟨y0_B1, y1_B1, yf_B1, yl_B1⟩ := B1.two
    go_wp2_with fail
    refine (eqStepS_same _ _ _ _ _ _ zs.length _ _ zs _ rfl hlz O1 O0).mono ?_
    rintro e w6 ⟨rfl, hb6⟩
    clear x0 x1 x2 x3 xf xl
    clear y0_B0 y1_B0 yf_B0 yl_B0
    clear y0_B1 y1_B1 yf_B1 yl_B1
    replace BV := BV.below hb6
    replace O0 := O0.below hb6
    replace B0 := B0.below hb6
    replace O1 := O1.below hb6
    replace B1 := B1.below hb6
    have hz6 := hb6.size
    replace hb := chain hb hb6
    clear hb6
    obtain ⟨x0, x1, x2, x3, xf, xl⟩ := BV.four
    obtain ⟨y0_B0, y1_B0, yf_B0, yl_B0⟩ := B0.two
    obtain ⟨y0_B1, y1_B1, yf_B1, yl_B1⟩ := B1.two
    go_wp2_with fail
    refine (markSt_own _ _ _ _ _ zs 1 _ rfl hlz (by omega) (by omega) O1).mono ?_
    rintro e w7 ⟨rfl, O1, hs7⟩
    clear x0 x1 x2 x3 xf xl
    clear y0_B0 y1_B0 yf_B0 yl_B0
    clear y0_B1 y1_B1 yf_B1 yl_B1
    replace BV := BV.same hs7 (by omega)
    replace O0 := O0.same hs7 (by omega)
    replace B0 := B0.same hs7 (by omega)
    replace B1 := B1.same hs7 (by omega)
    replace hb := below_same hb hs7 (by omega) (by omega)
    clear hs7
    obtain ⟨x0, x1, x2, x3, xf, xl⟩ := BV.four
    obtain ⟨y0_B0, y1_B0, yf_B0, yl_B0⟩ := B0.two
    obtain ⟨y0_B1, y1_B1, yf_B1, yl_B1⟩ := B1.two
    go_wp2_with fail
    refine (heldStepS_any _ _ _ zs.length _ 1 _ hlz (by omega) (by omega) O1).mono ?_
    rintro e w8 ⟨rfl, rfl⟩
    go_wp2_with fail
    refine (toVariant_any _ _ _ _ _).mono ?_
    rintro e w9 ⟨rfl, hb9⟩
    clear x0 x1 x2 x3 xf xl
    clear y0_B0 y1_B0 yf_B0 yl_B0
    clear y0_B1 y1_B1 yf_B1 yl_B1
    replace BV := BV.below hb9
    replace O0 := O0.below hb9
    replace B0 := B0.below hb9
    replace O1 := O1.below hb9
    replace B1 := B1.below hb9
    have hz9 := hb9.size
    replace hb := chain hb hb9
    clear hb9
    obtain ⟨x0, x1, x2, x3, xf, xl⟩ := BV.four
    obtain ⟨y0_B0, y1_B0, yf_B0, yl_B0⟩ := B0.two
    obtain ⟨y0_B1, y1_B1, yf_B1, yl_B1⟩ := B1.two
    go_wp2_with fail
    refine (HI.out _ (hM.below hb) (hE.below hb)).mono ?_
    rintro e w10 ⟨a2, k2, rfl, O2, hb10⟩
    clear x0 x1 x2 x3 xf xl
    clear y0_B0 y1_B0 yf_B0 yl_B0
    clear y0_B1 y1_B1 yf_B1 yl_B1
    replace BV := BV.below hb10
    replace O0 := O0.below hb10
    replace B0 := B0.below hb10
    replace O1 := O1.below hb10
    replace B1 := B1.below hb10
    have hz10 := hb10.size
    replace hb := chain hb hb10
    clear hb10
    obtain ⟨x0, x1, x2, x3, xf, xl⟩ := BV.four
    obtain ⟨y0_B0, y1_B0, yf_B0, yl_B0⟩ := B0.two
    obtain ⟨y0_B1, y1_B1, yf_B1, yl_B1⟩ := B1.two
    clear x0 x1 x2 x3 xf xl
    clear y0_B0 y1_B0 yf_B0 yl_B0
    clear y0_B1 y1_B1 yf_B1 yl_B1
    have B2 := Blk.new w10 #[.int .i64 ra, .int .i64 rb] 25
    have hal10 : Below w10.heap.size w10 (w10.alloc (.cells #[.int .i64 ra, .int .i64 rb] 25)) := (Below.refl _ _).alloc (Nat.le_refl _) _
    have hza10 : (w10.alloc (.cells #[.int .i64 ra, .int .i64 rb] 25)).heap.size = w10.heap.size + 1 := by simp
    replace BV := BV.below hal10
    replace O0 := O0.below hal10
    replace B0 := B0.below hal10
    replace O1 := O1.below hal10
    replace B1 := B1.below hal10
    replace O2 := O2.below hal10
    replace hb := chain hb hal10
    clear hal10
    obtain ⟨x0, x1, x2, x3, xf, xl⟩ := BV.four
    obtain ⟨y0_B0, y1_B0, yf_B0, yl_B0⟩ := B0.two
    obtain ⟨y0_B1, y1_B1, yf_B1, yl_B1⟩ := B1.two
    obtain ⟨y0_B2, y1_B2, yf_B2, yl_B2⟩ := B2.two
    go_wp2_with fail
    generalize w10.alloc (.cells #[.int .i64 ra, .int .i64 rb] 25) = wa10 at *
    refine (eqRoll_same ra rb _).mono ?_
    rintro e w11 ⟨rfl, hb11⟩
    clear x0 x1 x2 x3 xf xl
    clear y0_B0 y1_B0 yf_B0 yl_B0
    clear y0_B1 y1_B1 yf_B1 yl_B1
    clear y0_B2 y1_B2 yf_B2 yl_B2
    replace BV := BV.below hb11
    replace O0 := O0.below hb11
    replace B0 := B0.below hb11
    replace O1 := O1.below hb11
    replace B1 := B1.below hb11
    replace O2 := O2.below hb11
    replace B2 := B2.below hb11
    have hz11 := hb11.size
    replace hb := chain hb hb11
    clear hb11
    obtain ⟨x0, x1, x2, x3, xf, xl⟩ := BV.four
    obtain ⟨y0_B0, y1_B0, yf_B0, yl_B0⟩ := B0.two
    obtain ⟨y0_B1, y1_B1, yf_B1, yl_B1⟩ := B1.two
    obtain ⟨y0_B2, y1_B2, yf_B2, yl_B2⟩ := B2.two
    go_wp2_with fail
    refine (eqStepS_same _ _ _ _ _ _ zs.length _ _ zs _ rfl hlz O2 O0).mono ?_
    rintro e w12 ⟨rfl, hb12⟩
    clear x0 x1 x2 x3 xf xl
    clear y0_B0 y1_B0 yf_B0 yl_B0
    clear y0_B1 y1_B1 yf_B1 yl_B1
    clear y0_B2 y1_B2 yf_B2 yl_B2
    replace BV := BV.below hb12
    replace O0 := O0.below hb12
    replace B0 := B0.below hb12
    replace O1 := O1.below hb12
    replace B1 := B1.below hb12
    replace O2 := O2.below hb12
    replace B2 := B2.below hb12
    have hz12 := hb12.size
    replace hb := chain hb hb12
    clear hb12
    obtain ⟨x0, x1, x2, x3, xf, xl⟩ := BV.four
    obtain ⟨y0_B0, y1_B0, yf_B0, yl_B0⟩ := B0.two
    obtain ⟨y0_B1, y1_B1, yf_B1, yl_B1⟩ := B1.two
    obtain ⟨y0_B2, y1_B2, yf_B2, yl_B2⟩ := B2.two
    go_wp2_with fail
    refine (heldStepS_any _ _ _ zs.length _ 1 _ hlz (by omega) (by omega) O1).mono ?_
    rintro e w13 ⟨rfl, rfl⟩
    go_wp2_with fail
    go_ret
    exact ⟨rfl, hb⟩
set_option maxRecDepth 100000 in
theorem fnExactReadTurn_contract (H : Type) (enc : TypeId × Value → H) (W : World) (base : Nat) (args : Array Value) (ds gs : List (DataW H)) (before : List MemPlace)
    (hval : ∀ (j : Nat) t v, Tryd.f3.params[j]? = some t → args[j]? = some v → Value.okWide Tryd.prog W .any base t v)
    (hW : DataW.Whole enc Tryd.prog Tryd.f3.params.toList Rows.fnExactReadTurnSpec.vars false W args.toList ds gs before) (hL : laidMetH Tryd.prog Rows.fnExactReadTurnRow.laid W) (hsh : W.ShapedOpen Tryd.prog) :
    Calls Tryd.prog 3 args W fun e W' => ∃ v, e = .returned v ∧ Rows.fnExactReadTurnSpec.post enc Tryd.prog Tryd.f3 false true false false W args v W' := by
  have hE := errCell_of hL
  have hM := lenCell_of hsh
  have hW' := hW
  obtain ⟨p, q, hA0, hV, rfl, hfz, hnd⟩ := hW
  have hA : DataW.TrodAll enc Tryd.prog W 0 (fun _ => true) true Tryd.f3.params.toList args.toList ds p := hA0
  rw [Tryd.params3] at hA hval
  obtain ⟨v0, vs0, d0, ds0, p0, q0, hargs, rfl, rfl, h0, r0⟩ := trodAll_cons hA
  obtain ⟨v1, vs1, d1, ds1, p1, q1, rfl, rfl, rfl, h1, r1⟩ := trodAll_cons r0
  obtain ⟨rfl, rfl, rfl⟩ := trodAll_nil r1
  obtain rfl : args = #[v0, v1] := by cases args; simp_all
  obtain ⟨rfl, rfl⟩ := trodVars_none hV
  have k0 := h0
  have lt0 : ∀ x ∈ p0, x.block < W.heap.size := by obtain ⟨m, hm⟩ := k0; exact DataW.trod_lt m _ _ _ hm
  have k1 := h1
  have lt1 : ∀ x ∈ p1, x.block < W.heap.size := by obtain ⟨m, hm⟩ := k1; exact DataW.trod_lt m _ _ _ hm
  obtain ⟨x0_0, x1_0, x2_0, x3_0, y0_0, y1_0, y2_0, y3_0, m_0, rfl, _, _, hy0_0, hy1_0, hy2_0, hy3_0⟩ := Joins.open_agg4 Tryd.underlying23 (by kernel_rfl) (show Tryd.prog.cellsOf 23 = 4 by kernel_rfl) (hval 0 23 v0 rfl rfl) h0
  obtain ⟨a0_0, e0_0, _, wa0_0⟩ := DataW.trod_int Tryd.underlying2 hy0_0
  obtain ⟨a1_0, e1_0, _, wa1_0⟩ := DataW.trod_int Tryd.underlying2 hy1_0
  obtain ⟨a2_0, e2_0, _, wa2_0⟩ := DataW.trod_int Tryd.underlying2 hy2_0
  obtain ⟨a3_0, e3_0, _, wa3_0⟩ := DataW.trod_int Tryd.underlying2 hy3_0
  simp at e0_0 e1_0 e2_0 e3_0
  subst e0_0 e1_0 e2_0 e3_0
  obtain ⟨s_1, rfl, _, _, ws_1⟩ := open_string Tryd.underlying9 (hval 1 9 v1 rfl rfl) h1
  clear hA0
  refine (fnExactReadTurn_walk a0_0 a1_0 a2_0 a3_0 s_1 W hM hE).mono fun e W' ⟨he, bel⟩ => ?_
  subst he
  exact ⟨_, rfl, _, _, _, [], _, [], hW', trodAll_mk1 (shut_bool Tryd.underlying4 _), (trodAll_cons_mk (Below.trod laidOut (by kernel_rfl) (of_decide_eq_true (by kernel_rfl)) k0 bel lt0) (trodAll_cons_mk (Below.trod laidOut (by kernel_rfl) (of_decide_eq_true (by kernel_rfl)) k1 bel lt1) trodAll_mk0)), rfl, bel.frame _, fun h => by cases h⟩
theorem fnExactReadTurn_laid (os : Os) : laidMet Tryd.prog Rows.fnExactReadTurnRow.laid ((laidWorld os).forCall (fun _ _ => 0) ⟨#[], #[.agg #[.int .i64 0, .int .i64 0, .int .i64 0, .int .i64 0], .string (ByteArray.mk #[])], []⟩).memory :=
  laidMet_of_run' 8 (by kernel_rfl) (by kernel_rfl)
theorem fnExactReadTurn_reads (os : Os) {H : Type} (enc : TypeId × Value → H) : ∃ places, DataW.whole enc Tryd.prog ((laidWorld os).forCall (fun _ _ => 0) ⟨#[], #[.agg #[.int .i64 0, .int .i64 0, .int .i64 0, .int .i64 0], .string (ByteArray.mk #[])], []⟩).memory Tryd.f3.params.toList Rows.fnExactReadTurnSpec.vars false (#[.agg #[.int .i64 0, .int .i64 0, .int .i64 0, .int .i64 0], .string (ByteArray.mk #[])] : Array Value).toList 8 = some ([.agg [.lit (.int .i64 0), .lit (.int .i64 0), .lit (.int .i64 0), .lit (.int .i64 0)], .lit (.string [])], [], places) :=
  ⟨[], by kernel_rfl⟩
set_option maxRecDepth 100000 in
theorem fnExactReadTurn_lifted (os : Os) (started : os.Started) (H : Type) (enc : TypeId × Value → H) (F : Stop.Interp) :
    ReturnsInHanded {} Tryd.checked os 3 .any ((OpenSpec.ofChange Rows.fnExactReadTurnSpec).preRow enc Tryd.prog Tryd.f3 Rows.fnExactReadTurnRow.domain false Rows.fnExactReadTurnRow.laid) (((OpenSpec.ofChange Rows.fnExactReadTurnSpec).at F).post enc Tryd.prog Tryd.f3 false true false false) := by
  obtain ⟨places, hx⟩ := fnExactReadTurn_reads os enc
  refine returnsInHanded_of_row (C := Tryd.checked) (s := OpenSpec.ofChange Rows.fnExactReadTurnSpec) own started (by kernel_rfl) Tryd.func3
    (witness_row_at (enc := enc) (C := Tryd.checked) false (laidWorld os) #[.agg #[.int .i64 0, .int .i64 0, .int .i64 0, .int .i64 0], .string (ByteArray.mk #[])] rfl (by kernel_rfl) (by kernel_rfl) (by kernel_rfl)
      (OpenSpec.preRow_of_cond 8 hx (by kernel_rfl) (fun k hk => by cases hk) (by kernel_rfl) (fnExactReadTurn_laid os))) ?_
  intro W base args ds gs before hval hW _ _ _ hL hsh _
  exact fnExactReadTurn_contract H enc W base args ds gs before hval hW hL hsh
theorem fnExactReadTurn_said : Rows.FnExactReadTurnSaid :=
  OpenClaim.holds_of_cond 3 Tryd.f3 rfl rfl rfl rfl rfl rfl rfl ⟨rfl, rfl, rfl, rfl, rfl⟩ rfl rfl rfl rfl rfl (by kernel_rfl) Tryd.func3 (by kernel_rfl)
    (of_decide_eq_true (by kernel_rfl)) (by unfold Func.isWrapper; first | (rw [if_pos (by decide +kernel)]; kernel_rfl) | (rw [if_neg (by decide +kernel)]; exact ⟨rfl, rfl⟩))
    (fun os started H enc _ F => by rw [OpenClaim.pre_eq_preRow]; exact fnExactReadTurn_lifted os started H enc F)
/-- No parameter wants a stand-in; the program's own looks are off: what the card asks. -/
theorem fnExactReadTurn_plain (f : FuncId) (fn : Func) (hf : Tryd.pinned.checked.prog.funcNamed "loop.example/g00885/laws.FnExactReadTurn" = some f) (hfn : Tryd.pinned.checked.prog.funcs[f]? = some fn) :
    true = Tryd.pinned.checked.prog.looks [] ∧ ∀ (j : Nat) t, fn.params[j]? = some t → Tryd.pinned.checked.prog.wantsStandIn t = false := by
  obtain rfl : f = 3 := Option.some.inj ((show Tryd.prog.funcNamed "loop.example/g00885/laws.FnExactReadTurn" = some 3 by kernel_rfl).symm.trans hf) |>.symm
  obtain rfl : fn = Tryd.f3 := (Option.some.inj (Tryd.func3.symm.trans hfn)).symm
  refine ⟨by kernel_rfl, fun j t ht => ?_⟩
  rw [Tryd.params3] at ht
  have hm := Array.mem_of_getElem? ht
  simp at hm
  rcases hm with rfl | rfl
  · exact (show Tryd.prog.wantsStandIn 23 = false by kernel_rfl)
  · exact (show Tryd.prog.wantsStandIn 9 = false by kernel_rfl)
theorem fnExactReadTurn_card : Rows.FnExactReadTurnCardSaid :=
  Claim7.holds_tied_plain_at .later [] _ _ _ _ fnExactReadTurn_said (fun _ h => by cases h) (by kernel_rfl) (fun _ h => by cases h) fnExactReadTurn_row_tie rfl ⟨rfl, rfl⟩ (by kernel_rfl) rfl fnExactReadTurn_plain (by kernel_rfl)
end Go.Proofs.YthfhiggageejbaaDoor.readTurnLaw
