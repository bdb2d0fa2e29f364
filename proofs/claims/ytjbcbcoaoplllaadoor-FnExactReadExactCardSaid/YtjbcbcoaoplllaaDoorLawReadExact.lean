/- The exact law of chapter 9 on reading an exact number holds: for every input the law returns true and its arguments read behind the call as they read before. No conditions but those of the card: the listed variables of the library hold what their initialisers lay. -/
import Derived.Test.YtjbcbcoaoplllaaDoor09zi
import Derived.Test.YtjbcbcoaoplllaaDoor09g
import Derived.Test.YtjbcbcoaoplllaaDoorExL
import Derived.Test.YtjbcbcoaoplllaaDoorL01a
import Derived.Test.YtjbcbcoaoplllaaDoorShelf
import Derived.Stop.LaidErr
import Derived.MakeChecks
import Derived.Shelf.Abstract
import Derived.Test.YtjbcbcoaoplllaaDoorCards
import Derived.Test.YtjbcbcoaoplllaaDoorTie
import Derived.Deep.DeepHandedRow
import Derived.Lib.LaidTab
import Derived.Test.YtjbcbcoaoplllaaDoorOpen
import Derived.ChangeOld
namespace Go.Proofs.YtjbcbcoaoplllaaDoor.readExactLaw
open Go.ChangeMaps (open_string shut_string)
open Go.ChangeShapes Go.WideShapes Go.ChangeAt Go.RowKit
set_option linter.unusedVariables false
set_option linter.unusedSimpArgs false

def lay (vs : Array Value) : Obj → Obj
  | .cells _ t frozen => .cells vs t frozen
  | o => o
/-- A world for the witness: the settled one, each listed table holding what its initialiser lays. -/
noncomputable def lowBlock : Nat := (World.holding Tryd.prog default ⟨#[], #[], []⟩).heap.size
noncomputable def laidWorld (os : Os) : World :=
  { World.holding Tryd.prog os ⟨#[.cells #[.string ⟨#[118, 97, 108, 117, 101, 32, 111, 117, 116, 32, 111, 102, 32, 114, 97, 110, 103, 101]⟩] 158, .cells #[.string ⟨#[105, 110, 118, 97, 108, 105, 100, 32, 115, 121, 110, 116, 97, 120]⟩] 158], #[], []⟩ with heap := ((((((World.holding Tryd.prog os ⟨#[.cells #[.string ⟨#[118, 97, 108, 117, 101, 32, 111, 117, 116, 32, 111, 102, 32, 114, 97, 110, 103, 101]⟩] 158, .cells #[.string ⟨#[105, 110, 118, 97, 108, 105, 100, 32, 115, 121, 110, 116, 97, 120]⟩] 158], #[], []⟩).heap.modify 8 (lay #[.int .u8 0, .int .u8 1, .int .u8 28, .int .u8 2, .int .u8 29, .int .u8 14, .int .u8 24, .int .u8 3, .int .u8 30, .int .u8 22, .int .u8 20, .int .u8 15, .int .u8 25, .int .u8 17, .int .u8 4, .int .u8 8, .int .u8 31, .int .u8 27, .int .u8 13, .int .u8 23, .int .u8 21, .int .u8 19, .int .u8 16, .int .u8 7, .int .u8 26, .int .u8 12, .int .u8 18, .int .u8 6, .int .u8 11, .int .u8 5, .int .u8 10, .int .u8 9])).modify 9 (lay #[.int .u8 0, .int .u8 1, .int .u8 56, .int .u8 2, .int .u8 57, .int .u8 49, .int .u8 28, .int .u8 3, .int .u8 61, .int .u8 58, .int .u8 42, .int .u8 50, .int .u8 38, .int .u8 29, .int .u8 17, .int .u8 4, .int .u8 62, .int .u8 47, .int .u8 59, .int .u8 36, .int .u8 45, .int .u8 43, .int .u8 51, .int .u8 22, .int .u8 53, .int .u8 39, .int .u8 33, .int .u8 30, .int .u8 24, .int .u8 18, .int .u8 12, .int .u8 5, .int .u8 63, .int .u8 55, .int .u8 48, .int .u8 27, .int .u8 60, .int .u8 41, .int .u8 37, .int .u8 16, .int .u8 46, .int .u8 35, .int .u8 44, .int .u8 21, .int .u8 52, .int .u8 32, .int .u8 23, .int .u8 11, .int .u8 54, .int .u8 26, .int .u8 40, .int .u8 15, .int .u8 34, .int .u8 20, .int .u8 31, .int .u8 10, .int .u8 25, .int .u8 14, .int .u8 19, .int .u8 9, .int .u8 13, .int .u8 8, .int .u8 7, .int .u8 6])).modify 4 (lay #[.int .u64 1, .int .u64 10, .int .u64 100, .int .u64 1000, .int .u64 10000, .int .u64 100000, .int .u64 1000000, .int .u64 10000000, .int .u64 100000000, .int .u64 1000000000, .int .u64 10000000000, .int .u64 100000000000, .int .u64 1000000000000, .int .u64 10000000000000, .int .u64 100000000000000, .int .u64 1000000000000000, .int .u64 10000000000000000, .int .u64 100000000000000000, .int .u64 1000000000000000000, .int .u64 10000000000000000000])).modify 1 (lay #[.iface 156 (.pointer (some ⟨lowBlock + 0, 0, none⟩))])).modify 0 (lay #[.iface 156 (.pointer (some ⟨lowBlock + 1, 0, none⟩))])) }
theorem errRow (u : TypeId) (h : Tryd.prog.typeName? 3 u = some "*errors.errorString") : u = 156 :=
  typeName_ptr_named (nm := "errors.errorString") (by rw [show "*" ++ "errors.errorString" = "*errors.errorString" by decide]; kernel_rfl) (by kernel_rfl) (by decide) u (by rw [show "*" ++ "errors.errorString" = "*errors.errorString" by decide]; exact h)
theorem errGS : Tryd.prog.globalNamed "strconv.ErrSyntax" = some 0 := by kernel_rfl
theorem errCellS {W : World} (hL : laidMetH Tryd.prog Rows.fnExactReadExactRow.laid W) : ErrC W 0 := by
  have hL1 : laidMet Tryd.prog Rows.fnExactReadExactRow.laid W := by
    rw [← Go.MakeChecks.laidMetH_plain _ _ _ (by kernel_rfl)]
    exact hL
  have hL2 : laidMet Tryd.prog [("math/bits.deBruijn32tab", Rows.laid_math_bits_deBruijn32tab), ("math/bits.deBruijn64tab", Rows.laid_math_bits_deBruijn64tab), ("internal/strconv.uint64pow10", Rows.laid_internal_strconv_uint64pow10), ("strconv.ErrRange", Rows.laid_strconv_ErrRange), ("strconv.ErrSyntax", Rows.laid_strconv_ErrSyntax)] W := hL1
  obtain ⟨a0, s0, hv0, -, -, -⟩ := laid_sentinel ((((hL2.tail).tail).tail).tail) errGS (show (Tryd.prog.globals[0]?).map (·.type) = some 63 by kernel_rfl) Tryd.underlying63 errRow Tryd.underlying156 Tryd.underlying158 rfl rfl Tryd.underlying9 (by kernel_rfl) (by kernel_rfl)
  exact ⟨_, by have h0 := World.var?_cell errGS hv0 0; simpa using h0, Or.inr ⟨_, _, rfl⟩⟩
theorem errGR : Tryd.prog.globalNamed "strconv.ErrRange" = some 1 := by kernel_rfl
theorem errCellR {W : World} (hL : laidMetH Tryd.prog Rows.fnExactReadExactRow.laid W) : ErrC W 1 := by
  have hL1 : laidMet Tryd.prog Rows.fnExactReadExactRow.laid W := by
    rw [← Go.MakeChecks.laidMetH_plain _ _ _ (by kernel_rfl)]
    exact hL
  have hL2 : laidMet Tryd.prog [("math/bits.deBruijn32tab", Rows.laid_math_bits_deBruijn32tab), ("math/bits.deBruijn64tab", Rows.laid_math_bits_deBruijn64tab), ("internal/strconv.uint64pow10", Rows.laid_internal_strconv_uint64pow10), ("strconv.ErrRange", Rows.laid_strconv_ErrRange), ("strconv.ErrSyntax", Rows.laid_strconv_ErrSyntax)] W := hL1
  obtain ⟨a0, s0, hv0, -, -, -⟩ := laid_sentinel (((hL2.tail).tail).tail) errGR (show (Tryd.prog.globals[1]?).map (·.type) = some 63 by kernel_rfl) Tryd.underlying63 errRow Tryd.underlying156 Tryd.underlying158 rfl rfl Tryd.underlying9 (by kernel_rfl) (by kernel_rfl)
  exact ⟨_, by have h0 := World.var?_cell errGR hv0 0; simpa using h0, Or.inr ⟨_, _, rfl⟩⟩
theorem lenCell_of {W : World} (hsh : W.ShapedOpen Tryd.prog) : MaxCell W := let ⟨m, hm⟩ := Tryd.laysM146.s1_3 W hsh; ⟨m, hm⟩
theorem t10_of {W : World} (hL : laidMetH Tryd.prog Rows.fnExactReadExactRow.laid W) : T10 W := by
  have hL1 : laidMet Tryd.prog Rows.fnExactReadExactRow.laid W := by
    rw [← Go.MakeChecks.laidMetH_plain _ _ _ (by kernel_rfl)]
    exact hL
  exact Lib.tabIs_of_head (by kernel_rfl) (show (Tryd.prog.globals[4]?).map (·.type) = some 148 by kernel_rfl) Tryd.underlying148 Tryd.underlying77 (by kernel_rfl) (by kernel_rfl) (rest := _) ((hL1.tail).tail)
theorem chain_al {w w1 : World} (h : Below w.heap.size w w1) (o : Obj) : Below w.heap.size w (w1.alloc o) := chain h ((Below.refl _ _).alloc (Nat.le_refl _) o)
set_option maxRecDepth 8000 in
set_option maxHeartbeats 1000000 in
theorem readExact_any (p c h s : Int) (t : ByteArray) (w : World) (ht : t.size ≤ 1048576) (ht10 : T10 w) (hM : MaxCell w) (hE1 : ErrC w 0) (hE2 : ErrC w 1) :
    Calls Tryd.prog 26 #[.agg #[.int .i64 p, .int .i64 c, .int .i64 h, .int .i64 s], .string t] w fun e w' => e = .returned (.tuple #[.agg #[.int .i64 (rxV p c h s t.data.toList).1.1, .int .i64 (rxV p c h s t.data.toList).1.2], .bool (rxV p c h s t.data.toList).2]) ∧ Below w.heap.size w w' := by
  obtain ⟨BV, R0, hb, hz⟩ := two_new w #[.int .i64 p, .int .i64 c, .int .i64 h, .int .i64 s] #[.int .i64 0, .int .i64 0] 26 43
  have hsf := fun W => scalesFor_any p c h s none [] 0 W (by simp) (OX.nil W) (by simp)
  unfold ScGot at hsf
  cases hv : vB p c h s with
  | false =>
    have hr : rxV p c h s t.data.toList = ((0, 0), false) := rx_no (fun n d g e => by have := ex_v g; rw [hv] at this; exact absurd this (by decide))
    rw [hr]
    rw [show sfC p c h s [] = 1 by simp [sfC, hv]] at hsf
    have HS := Lib.hid hsf
    clear hsf hr hv
    obtain ⟨x0, x1, x2, x3, xf, xl⟩ := BV.four; obtain ⟨y0, y1, yf, yl⟩ := R0.two
    go_enter Tryd.func26, Tryd.ntmps26
    go_wp2_with fail
    refine (HS.out _).mono ?_
    rintro e w1 ⟨mv, rfl, -, -, hb1⟩
    clear x0 x1 x2 x3 xf xl y0 y1 yf yl
    replace R0 := R0.below hb1
    replace hb := chain hb hb1
    obtain ⟨y0, y1, yf, yl⟩ := R0.two
    go_wp2_with fail
    have BRn := R0.set2 (.int .i64 0) (.int .i64 0)
    obtain ⟨t0, t1, tf, tl⟩ := BRn.two
    refine bodyPost_ret (v := .tuple #[.agg #[.int .i64 0, .int .i64 0], .bool false]) (by simp [results, Tryd.results26, go_sem, t0, t1]) rfl ?_
    exact ⟨rfl, (hb.setCell (p := ⟨w.heap.size + 1, 0, none⟩) (by simp) _).setCell (p := ⟨w.heap.size + 1, 1, none⟩) (by simp) _⟩
  | true =>
    obtain ⟨S, rfl, hS⟩ := vB_sd hv
    have hrd := fun W b (k1 : ScM W b S (nn S)) (k2 : T10 W) (k3 : MaxCell W) k4 k5 => scRead_any p c h b S hv hS t W k1 ht k2 k3 k4 k5
    rw [show sfC p c h S [] = 0 by simp [sfC, hv]] at hsf
    rw [Int.toNat_natCast] at hsf
    obtain ⟨⟨⟨n, d⟩, q⟩, hq⟩ : ∃ r, rxV p c h S t.data.toList = r := ⟨_, rfl⟩
    rw [hq] at hrd ⊢
    have HS := Lib.hid hsf
    have HR := Lib.hid hrd
    clear hsf hrd hq hv
    obtain ⟨x0, x1, x2, x3, xf, xl⟩ := BV.four; obtain ⟨y0, y1, yf, yl⟩ := R0.two
    go_enter Tryd.func26, Tryd.ntmps26
    go_wp2_with fail
    refine (HS.out _).mono ?_
    rintro e w1 ⟨mv, rfl, hm, -, hb1⟩
    obtain ⟨b, rfl, HSM⟩ := hm (by first | trivial | rfl)
    clear x0 x1 x2 x3 xf xl y0 y1 yf yl
    replace R0 := R0.below hb1
    replace hb := chain hb hb1
    go_wp2_with fail
    refine (HR.out _ b HSM (ht10.below hb) (hM.below hb) (hE1.below hb) (hE2.below hb)).mono ?_
    rintro e w2 ⟨rfl, hb2⟩
    replace R0 := R0.below hb2
    replace hb := chain hb hb2
    obtain ⟨y0, y1, yf, yl⟩ := R0.two
    go_wp2_with fail
    have BRn := R0.set2 (.int .i64 n) (.int .i64 d)
    obtain ⟨t0, t1, tf, tl⟩ := BRn.two
    refine bodyPost_ret (v := .tuple #[.agg #[.int .i64 n, .int .i64 d], .bool q]) (by simp [results, Tryd.results26, go_sem, t0, t1]) rfl ?_
    exact ⟨rfl, (hb.setCell (p := ⟨w.heap.size + 1, 0, none⟩) (by simp) _).setCell (p := ⟨w.heap.size + 1, 1, none⟩) (by simp) _⟩
theorem fnExactReadExact_both (p c h s : Int) (t : ByteArray) (ht : t.size ≤ 1048576) : ∃ (n d : Int) (q : Bool),
    (∀ w : World, Calls Tryd.prog 25 #[.agg #[.int .i64 p, .int .i64 c, .int .i64 h, .int .i64 s], .string t] w fun e w' => e = .returned (.tuple #[.agg #[.int .i64 n, .int .i64 d], .bool q]) ∧ Below w.heap.size w w') ∧
    (∀ w : World, T10 w → MaxCell w → ErrC w 0 → ErrC w 1 → Calls Tryd.prog 26 #[.agg #[.int .i64 p, .int .i64 c, .int .i64 h, .int .i64 s], .string t] w fun e w' => e = .returned (.tuple #[.agg #[.int .i64 n, .int .i64 d], .bool q]) ∧ Below w.heap.size w w') :=
  ⟨_, _, _, fun w => specReadExact_any p c h s t w ht, fun w k0 k1 k2 k3 => readExact_any p c h s t w ht k0 k1 k2 k3⟩
set_option maxRecDepth 8000 in
set_option maxHeartbeats 2000000 in
theorem fnExactReadExact_walk (p c h s : Int) (t : ByteArray) (w : World) (hT : T10 w) (hM : MaxCell w) (hE1 : ErrC w 0) (hE2 : ErrC w 1) :
    Calls Tryd.prog 7 #[.agg #[.int .i64 p, .int .i64 c, .int .i64 h, .int .i64 s], .string t] w fun e w' => e = .returned (.bool true) ∧ Below w.heap.size w w' := by
  have BV := Blk.new w #[.int .i64 p, .int .i64 c, .int .i64 h, .int .i64 s] 23
  have hb : Below w.heap.size w (w.alloc (.cells #[.int .i64 p, .int .i64 c, .int .i64 h, .int .i64 s] 23)) := (Below.refl _ _).alloc (Nat.le_refl _) _
  by_cases hbig : 1048576 < t.size
  · have e1 : decide (1048576 < (t.size : Int)) = true := by simp; omega
    have e2 : decide (1048576 < t.size) = true := by simp; omega
    go_enter Tryd.func7, Tryd.ntmps7
    go_wp2
    go_ret
    exact ⟨rfl, hb⟩
  · have e1 : decide (1048576 < (t.size : Int)) = false := by simp; omega
    have e2 : decide (1048576 < t.size) = false := by simp; omega
    have hbig' : ¬ (1048576 : Int) < (t.size : Int) := by omega
    obtain ⟨n, d, q, hsp, him⟩ := fnExactReadExact_both p c h s t (by omega)
    have HSP := Lib.hid hsp
    have HIM := Lib.hid him
    clear hsp him
    obtain ⟨x0, x1, x2, x3, xf, xl⟩ := BV.four
    go_enter Tryd.func7, Tryd.ntmps7
    go_wp2_with (first | (go_at_call 10; refine (toVariant_any _ _ _ _ _).mono ?_; rintro e uv ⟨rfl, hv_⟩; clear x0 x1 x2 x3 xf xl; replace BV := BV.below hv_; (try replace R1 := R1.below hv_); replace hb := chain hb hv_; clear hv_; obtain ⟨x0, x1, x2, x3, xf, xl⟩ := BV.four) | (go_at_call 25; refine (HSP.out _).mono ?_; clear HSP; rintro e u1 ⟨rfl, h1⟩; clear x0 x1 x2 x3 xf xl; replace BV := (BV.below h1).alloc (.cells #[.int .i64 n, .int .i64 d] 43); have R1 := Blk.new u1 #[.int .i64 n, .int .i64 d] 43; replace hb := chain_al (chain hb h1) (.cells #[.int .i64 n, .int .i64 d] 43); clear h1; obtain ⟨x0, x1, x2, x3, xf, xl⟩ := BV.four; obtain ⟨z0R1, z1R1, zfR1, zlR1⟩ := R1.two) | (go_at_call 26; refine (HIM.out _ (hT.below hb) (hM.below hb) (hE1.below hb) (hE2.below hb)).mono ?_; clear HIM; rintro e u2 ⟨rfl, h2⟩; clear x0 x1 x2 x3 xf xl; replace BV := (BV.below h2).alloc (.cells #[.int .i64 n, .int .i64 d] 43); replace R1 := (R1.below h2).alloc (.cells #[.int .i64 n, .int .i64 d] 43); have R2 := Blk.new u2 #[.int .i64 n, .int .i64 d] 43; replace hb := chain_al (chain hb h2) (.cells #[.int .i64 n, .int .i64 d] 43); clear h2; obtain ⟨x0, x1, x2, x3, xf, xl⟩ := BV.four; obtain ⟨z0R2, z1R2, zfR2, zlR2⟩ := R2.two; obtain ⟨z0R1, z1R1, zfR1, zlR1⟩ := R1.two) | (go_at_call 27; refine (eqExact_same _ _ _).mono ?_; rintro e ue ⟨rfl, he_⟩; replace hb := chain hb he_; clear he_))
    all_goals
      go_ret
      exact ⟨by simp, hb⟩
set_option maxRecDepth 100000 in
theorem fnExactReadExact_contract (H : Type) (enc : TypeId × Value → H) (W : World) (base : Nat) (args : Array Value) (ds gs : List (DataW H)) (before : List MemPlace)
    (hval : ∀ (j : Nat) t v, Tryd.f7.params[j]? = some t → args[j]? = some v → Value.okWide Tryd.prog W .any base t v)
    (hW : DataW.Whole enc Tryd.prog Tryd.f7.params.toList Rows.fnExactReadExactSpec.vars false W args.toList ds gs before) (hL : laidMetH Tryd.prog Rows.fnExactReadExactRow.laid W) (hsh : W.ShapedOpen Tryd.prog) :
    Calls Tryd.prog 7 args W fun e W' => ∃ v, e = .returned v ∧ Rows.fnExactReadExactSpec.post enc Tryd.prog Tryd.f7 false true false false W args v W' := by
  have hE1 := errCellS hL
  have hE2 := errCellR hL
  have hM := lenCell_of hsh
  have hT := t10_of hL
  have hW' := hW
  obtain ⟨p, q, hA0, hV, rfl, hfz, hnd⟩ := hW
  have hA : DataW.TrodAll enc Tryd.prog W 0 (fun _ => true) true Tryd.f7.params.toList args.toList ds p := hA0
  rw [Tryd.params7] at hA hval
  obtain ⟨v0, vs0, d0, ds0, p0, q0, hargs, rfl, rfl, h0, r0⟩ := trodAll_cons hA
  obtain ⟨v1, vs1, d1, ds1, p1, q1, rfl, rfl, rfl, h1, r1⟩ := trodAll_cons r0
  obtain ⟨rfl, rfl, rfl⟩ := trodAll_nil r1
  obtain rfl : args = #[v0, v1] := by cases args; simp_all
  obtain ⟨rfl, rfl⟩ := trodVars_none hV
  have k0 := h0
  have lt0 : ∀ x ∈ p0, x.block < W.heap.size := by obtain ⟨m, hm⟩ := k0; exact DataW.trod_lt m _ _ _ hm
  have k1 := h1
  have lt1 : ∀ x ∈ p1, x.block < W.heap.size := by obtain ⟨m, hm⟩ := k1; exact DataW.trod_lt m _ _ _ hm
  obtain ⟨x0_0, x1_0, x2_0, x3_0, y0_0, y1_0, y2_0, y3_0, m_0, rfl, _, _, hy0_0, hy1_0, hy2_0, hy3_0⟩ := Joins.open_agg4 Tryd.underlying23 (by kernel_rfl) (show Tryd.prog.cellsOf 23 = 4 by kernel_rfl) (hval 0 23 v0 rfl rfl) h0
  obtain ⟨a0_0, e0_0, _, wa0_0⟩ := DataW.trod_int Tryd.underlying2 hy0_0
  obtain ⟨a1_0, e1_0, _, wa1_0⟩ := DataW.trod_int Tryd.underlying2 hy1_0
  obtain ⟨a2_0, e2_0, _, wa2_0⟩ := DataW.trod_int Tryd.underlying2 hy2_0
  obtain ⟨a3_0, e3_0, _, wa3_0⟩ := DataW.trod_int Tryd.underlying2 hy3_0
  simp at e0_0 e1_0 e2_0 e3_0
  subst e0_0 e1_0 e2_0 e3_0
  obtain ⟨s_1, rfl, _, _, ws_1⟩ := open_string Tryd.underlying9 (hval 1 9 v1 rfl rfl) h1
  clear hA0
  refine (fnExactReadExact_walk a0_0 a1_0 a2_0 a3_0 s_1 W hT hM hE1 hE2).mono fun e W' ⟨he, bel⟩ => ?_
  subst he
  exact ⟨_, rfl, _, _, _, [], _, [], hW', trodAll_mk1 (shut_bool Tryd.underlying4 _), (trodAll_cons_mk (Below.trod laidOut (by kernel_rfl) (of_decide_eq_true (by kernel_rfl)) k0 bel lt0) (trodAll_cons_mk (Below.trod laidOut (by kernel_rfl) (of_decide_eq_true (by kernel_rfl)) k1 bel lt1) trodAll_mk0)), rfl, bel.frame _, fun h => by cases h⟩
theorem fnExactReadExact_laid (os : Os) : laidMet Tryd.prog Rows.fnExactReadExactRow.laid ((laidWorld os).forCall (fun _ _ => 0) ⟨#[], #[.agg #[.int .i64 0, .int .i64 0, .int .i64 0, .int .i64 0], .string (ByteArray.mk #[])], []⟩).memory :=
  laidMet_of_run' 8 (by kernel_rfl) (by kernel_rfl)
theorem fnExactReadExact_reads (os : Os) {H : Type} (enc : TypeId × Value → H) : ∃ places, DataW.whole enc Tryd.prog ((laidWorld os).forCall (fun _ _ => 0) ⟨#[], #[.agg #[.int .i64 0, .int .i64 0, .int .i64 0, .int .i64 0], .string (ByteArray.mk #[])], []⟩).memory Tryd.f7.params.toList Rows.fnExactReadExactSpec.vars false (#[.agg #[.int .i64 0, .int .i64 0, .int .i64 0, .int .i64 0], .string (ByteArray.mk #[])] : Array Value).toList 8 = some ([.agg [.lit (.int .i64 0), .lit (.int .i64 0), .lit (.int .i64 0), .lit (.int .i64 0)], .lit (.string [])], [], places) :=
  ⟨[], by kernel_rfl⟩
set_option maxRecDepth 100000 in
theorem fnExactReadExact_lifted (os : Os) (started : os.Started) (H : Type) (enc : TypeId × Value → H) (F : Stop.Interp) :
    ReturnsInHanded {} Tryd.checked os 7 .any ((OpenSpec.ofChange Rows.fnExactReadExactSpec).preRow enc Tryd.prog Tryd.f7 Rows.fnExactReadExactRow.domain false Rows.fnExactReadExactRow.laid) (((OpenSpec.ofChange Rows.fnExactReadExactSpec).at F).post enc Tryd.prog Tryd.f7 false true false false) := by
  obtain ⟨places, hx⟩ := fnExactReadExact_reads os enc
  refine returnsInHanded_of_row (C := Tryd.checked) (s := OpenSpec.ofChange Rows.fnExactReadExactSpec) own started (by kernel_rfl) Tryd.func7
    (witness_row_at (enc := enc) (C := Tryd.checked) false (laidWorld os) #[.agg #[.int .i64 0, .int .i64 0, .int .i64 0, .int .i64 0], .string (ByteArray.mk #[])] rfl (by kernel_rfl) (by kernel_rfl) (by kernel_rfl)
      (OpenSpec.preRow_of_cond 8 hx (by kernel_rfl) (fun k hk => by cases hk) (by kernel_rfl) (fnExactReadExact_laid os))) ?_
  intro W base args ds gs before hval hW _ _ _ hL hsh _
  exact fnExactReadExact_contract H enc W base args ds gs before hval hW hL hsh
theorem fnExactReadExact_said : Rows.FnExactReadExactSaid :=
  OpenClaim.holds_of_cond 7 Tryd.f7 rfl rfl rfl rfl rfl rfl rfl ⟨rfl, rfl, rfl, rfl, rfl⟩ rfl rfl rfl rfl rfl (by kernel_rfl) Tryd.func7 (by kernel_rfl)
    (of_decide_eq_true (by kernel_rfl)) (by unfold Func.isWrapper; first | (rw [if_pos (by decide +kernel)]; kernel_rfl) | (rw [if_neg (by decide +kernel)]; exact ⟨rfl, rfl⟩))
    (fun os started H enc _ F => by rw [OpenClaim.pre_eq_preRow]; exact fnExactReadExact_lifted os started H enc F)
/-- No parameter wants a stand-in; the program's own looks are off: what the card asks. -/
theorem fnExactReadExact_plain (f : FuncId) (fn : Func) (hf : Tryd.pinned.checked.prog.funcNamed "loop.example/g00885/laws.FnExactReadExact" = some f) (hfn : Tryd.pinned.checked.prog.funcs[f]? = some fn) :
    true = Tryd.pinned.checked.prog.looks [] ∧ ∀ (j : Nat) t, fn.params[j]? = some t → Tryd.pinned.checked.prog.wantsStandIn t = false := by
  obtain rfl : f = 7 := Option.some.inj ((show Tryd.prog.funcNamed "loop.example/g00885/laws.FnExactReadExact" = some 7 by kernel_rfl).symm.trans hf) |>.symm
  obtain rfl : fn = Tryd.f7 := (Option.some.inj (Tryd.func7.symm.trans hfn)).symm
  refine ⟨by kernel_rfl, fun j t ht => ?_⟩
  rw [Tryd.params7] at ht
  have hm := Array.mem_of_getElem? ht
  simp at hm
  rcases hm with rfl | rfl
  · exact (show Tryd.prog.wantsStandIn 23 = false by kernel_rfl)
  · exact (show Tryd.prog.wantsStandIn 9 = false by kernel_rfl)
theorem fnExactReadExact_card : Rows.FnExactReadExactCardSaid :=
  Claim7.holds_tied_plain_at .later [] _ _ _ _ fnExactReadExact_said (fun _ h => by cases h) (by kernel_rfl) (fun _ h => by cases h) fnExactReadExact_row_tie rfl ⟨rfl, rfl⟩ (by kernel_rfl) rfl fnExactReadExact_plain (by kernel_rfl)
end Go.Proofs.YtjbcbcoaoplllaaDoor.readExactLaw
