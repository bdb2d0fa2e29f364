/- The law of chapter 6 on the texts of steps holds: for every code the law returns true and the code reads behind the call as it read before. No conditions but those of the card: the listed variables of the library hold what their initialisers lay. -/
import Derived.Test.YthfhiggageejbaaDoor06p
import Derived.Test.YthfhiggageejbaaDoorDraw06
import Derived.Test.YthfhiggageejbaaDoorOther7
import Derived.Test.YthfhiggageejbaaDoorStpL
import Derived.Test.YthfhiggageejbaaDoorCards
import Derived.Test.YthfhiggageejbaaDoorTie
import Derived.Test.YthfhiggageejbaaDoorShelf
import Derived.ChangeOld
import Derived.Deep.DeepHandedRow
import Derived.Lib.LaidTab
import Derived.Stop.LaidErr
import Derived.MakeChecks
import Derived.Shelf.Abstract
namespace Go.Proofs.YthfhiggageejbaaDoor.stepTextsLaw
open Go.ChangeMaps (open_string shut_string)
open Go.ChangeShapes Go.WideShapes Go.ChangeAt Go.RowKit
set_option linter.unusedVariables false
set_option linter.unusedSimpArgs false

def lay (vs : Array Value) : Obj → Obj
  | .cells _ t frozen => .cells vs t frozen
  | o => o
/-- A world for the witness: the settled one, each listed table holding what its initialiser lays. -/
noncomputable def lowBlock : Nat := (World.holding Tryd.prog default ⟨#[], #[], []⟩).heap.size
noncomputable def laidWorld (os : Os) : World :=
  { World.holding Tryd.prog os ⟨#[.cells #[.string ⟨#[118, 97, 108, 117, 101, 32, 111, 117, 116, 32, 111, 102, 32, 114, 97, 110, 103, 101]⟩] 169, .cells #[.string ⟨#[105, 110, 118, 97, 108, 105, 100, 32, 115, 121, 110, 116, 97, 120]⟩] 169], #[], []⟩ with heap := ((((((World.holding Tryd.prog os ⟨#[.cells #[.string ⟨#[118, 97, 108, 117, 101, 32, 111, 117, 116, 32, 111, 102, 32, 114, 97, 110, 103, 101]⟩] 169, .cells #[.string ⟨#[105, 110, 118, 97, 108, 105, 100, 32, 115, 121, 110, 116, 97, 120]⟩] 169], #[], []⟩).heap.modify 6 (lay #[.int .u8 0, .int .u8 1, .int .u8 28, .int .u8 2, .int .u8 29, .int .u8 14, .int .u8 24, .int .u8 3, .int .u8 30, .int .u8 22, .int .u8 20, .int .u8 15, .int .u8 25, .int .u8 17, .int .u8 4, .int .u8 8, .int .u8 31, .int .u8 27, .int .u8 13, .int .u8 23, .int .u8 21, .int .u8 19, .int .u8 16, .int .u8 7, .int .u8 26, .int .u8 12, .int .u8 18, .int .u8 6, .int .u8 11, .int .u8 5, .int .u8 10, .int .u8 9])).modify 7 (lay #[.int .u8 0, .int .u8 1, .int .u8 56, .int .u8 2, .int .u8 57, .int .u8 49, .int .u8 28, .int .u8 3, .int .u8 61, .int .u8 58, .int .u8 42, .int .u8 50, .int .u8 38, .int .u8 29, .int .u8 17, .int .u8 4, .int .u8 62, .int .u8 47, .int .u8 59, .int .u8 36, .int .u8 45, .int .u8 43, .int .u8 51, .int .u8 22, .int .u8 53, .int .u8 39, .int .u8 33, .int .u8 30, .int .u8 24, .int .u8 18, .int .u8 12, .int .u8 5, .int .u8 63, .int .u8 55, .int .u8 48, .int .u8 27, .int .u8 60, .int .u8 41, .int .u8 37, .int .u8 16, .int .u8 46, .int .u8 35, .int .u8 44, .int .u8 21, .int .u8 52, .int .u8 32, .int .u8 23, .int .u8 11, .int .u8 54, .int .u8 26, .int .u8 40, .int .u8 15, .int .u8 34, .int .u8 20, .int .u8 31, .int .u8 10, .int .u8 25, .int .u8 14, .int .u8 19, .int .u8 9, .int .u8 13, .int .u8 8, .int .u8 7, .int .u8 6])).modify 1 (lay #[.int .u64 1, .int .u64 10, .int .u64 100, .int .u64 1000, .int .u64 10000, .int .u64 100000, .int .u64 1000000, .int .u64 10000000, .int .u64 100000000, .int .u64 1000000000, .int .u64 10000000000, .int .u64 100000000000, .int .u64 1000000000000, .int .u64 10000000000000, .int .u64 100000000000000, .int .u64 1000000000000000, .int .u64 10000000000000000, .int .u64 100000000000000000, .int .u64 1000000000000000000, .int .u64 10000000000000000000])).modify 3 (lay #[.iface 167 (.pointer (some ⟨lowBlock + 0, 0, none⟩))])).modify 2 (lay #[.iface 167 (.pointer (some ⟨lowBlock + 1, 0, none⟩))])) }
theorem errRow (u : TypeId) (h : Tryd.prog.typeName? 3 u = some "*errors.errorString") : u = 167 :=
  typeName_ptr_named (nm := "errors.errorString") (by rw [show "*" ++ "errors.errorString" = "*errors.errorString" by decide]; kernel_rfl) (by kernel_rfl) (by decide) u (by rw [show "*" ++ "errors.errorString" = "*errors.errorString" by decide]; exact h)
theorem errG : Tryd.prog.globalNamed "strconv.ErrSyntax" = some 2 := by kernel_rfl
theorem errCell_of {W : World} (hL : laidMetH Tryd.prog Rows.fnStepTextsRow.laid W) : ErrCell W 2 := by
  have hL1 : laidMet Tryd.prog Rows.fnStepTextsRow.laid W := by
    rw [← Go.MakeChecks.laidMetH_plain _ _ _ (by kernel_rfl)]
    exact hL
  have hL2 : laidMet Tryd.prog [("math/bits.deBruijn32tab", Rows.laid_math_bits_deBruijn32tab), ("math/bits.deBruijn64tab", Rows.laid_math_bits_deBruijn64tab), ("internal/strconv.uint64pow10", Rows.laid_internal_strconv_uint64pow10), ("strconv.ErrRange", Rows.laid_strconv_ErrRange), ("strconv.ErrSyntax", Rows.laid_strconv_ErrSyntax)] W := hL1
  obtain ⟨a0, s0, hv0, -, -, -⟩ := laid_sentinel ((((hL2.tail).tail).tail).tail) errG (show (Tryd.prog.globals[2]?).map (·.type) = some 109 by kernel_rfl) Tryd.underlying109 errRow Tryd.underlying167 Tryd.underlying169 rfl rfl Tryd.underlying9 (by kernel_rfl) (by kernel_rfl)
  exact ⟨_, by have h0 := World.var?_cell errG hv0 0; simpa using h0, Or.inr ⟨_, _, rfl⟩⟩
theorem lenCell_of {W : World} (hsh : W.ShapedOpen Tryd.prog) : IntCell W 0 := let ⟨m, hm⟩ := Tryd.laysM145.s1_3 W hsh; ⟨m, hm⟩
theorem code_of_ints {w : World} {x : Addr} {len : Nat} {zs : List Int} (hl : len ≤ zs.length) (_hz : True) (hcell : ∀ i, i < zs.length → w.cell? (x.add i) = some (.int .u8 (zs.getD i 0))) (hwz : ∀ n ∈ zs, (Lit.int .u8 n).wf = true) : CodeIn w.heap.size w (some x) len := by
  intro i hi
  obtain ⟨b, o, spot⟩ := x
  have hc := hcell i (by omega)
  have hspot : spot = none := by
    have hc0 := hcell 0 (by omega)
    simpa [Addr.add] using World.cell?_spot hc0
  subst hspot
  rw [show (⟨b, o, none⟩ : Addr).add i = ⟨b, o + i, none⟩ from by unfold Addr.add; split <;> simp_all] at hc
  have hm : zs.getD i 0 ∈ zs := by
    have : i < zs.length := by omega
    simp [List.getD, this]
  have hw := hwz _ hm
  have hr : 0 ≤ zs.getD i 0 ∧ zs.getD i 0 ≤ 255 := by simpa [Lit.wf, IntKind.min, IntKind.max, IntKind.signed, IntKind.bits] using hw
  exact ⟨b, o, zs.getD i 0, rfl, World.block_lt_of_cell? w _ hc, hc, hr.1, hr.2⟩
theorem big6_any (a : Option Addr) (len cap : Nat) (w : World) :
    Calls Tryd.prog 14 #[.slice a len cap] w fun e w' => e = .returned (.bool (decide (4096 < (len : Int)))) ∧ w = w' := by
  go_enter Tryd.func14, Tryd.ntmps14
  go_wp2
  go_ret
  exact ⟨rfl, rfl⟩
/-- What reading a text gives, and the text of what was read. -/
theorem st_name (p c h s : Int) (t : ByteArray) (ht : t.size ≤ 1048576) : ∃ (F TT D : Int) (H ok : Bool),
    (∀ w, IntCell w 0 → ErrCell w 2 → Calls Tryd.prog 18 #[.agg #[.int .i64 p, .int .i64 c, .int .i64 h, .int .i64 s], .string t] w fun e w' => e = .returned (.tuple #[.agg #[.int .i64 F, .int .i64 TT, .int .i64 D, .bool H], .bool ok]) ∧ Below w.heap.size w w') ∧
    ((ok = false → F = 0 ∧ TT = 0 ∧ D = 0 ∧ H = false) ∧ (ok = true → ∀ w, Calls Tryd.prog 16 #[.agg #[.int .i64 p, .int .i64 c, .int .i64 h, .int .i64 s], .agg #[.int .i64 F, .int .i64 TT, .int .i64 D, .bool H]] w fun e w' => e = .returned (.string t) ∧ Below w.heap.size w w')) := by
  have hi := fun w q1 q2 => readStepP_any p c h s t w ht q1 q2
  cases q : (if vB p c h s = true then rd p s t.data.toList else none) with
  | none => rw [q] at hi; exact ⟨0, 0, 0, false, false, hi, fun _ => ⟨rfl, rfl, rfl, rfl⟩, fun e => by simp at e⟩
  | some x =>
    rw [q] at hi
    obtain ⟨F, TT, D, H⟩ := x
    refine ⟨F, TT, D, H, true, hi, fun e => by simp at e, fun _ w => ?_⟩
    by_cases g : vB p c h s = true
    · rw [if_pos g] at q
      obtain ⟨g0, e0⟩ := rd_some q
      have hst := stepText_any p c h s F TT D H w
      have e1 : stt p c h s F TT D H = t.data.toList := by
        unfold stt
        rw [if_pos g, if_pos g0]
        exact e0
      rw [e1] at hst
      have e2 : (⟨t.data.toList.toArray⟩ : ByteArray) = t := by
        apply ByteArray.ext
        simp
      rw [e2] at hst
      exact hst
    · rw [if_neg g] at q
      simp at q
set_option maxRecDepth 8000 in
set_option maxHeartbeats 4000000 in
theorem fnStepTexts_walk (a : Option Addr) (len cap : Nat) (w : World) (hcode : CodeIn w.heap.size w a len) (hM : IntCell w 0) (hE : ErrCell w 2) :
    Calls Tryd.prog 4 #[.slice a len cap] w fun e w' => e = .returned (.bool true) ∧ Below w.heap.size w w' := by
  by_cases hbig : 4096 < len
  · have f0 : decide (4096 < (len : Int)) = true := by simp; omega
    go_enter Tryd.func4, Tryd.ntmps4
    go_wp2_with fail
    refine (big6_any _ _ _ _).mono ?_
    rintro e w1 ⟨rfl, rfl⟩
    go_wp2
    go_ret
    exact ⟨rfl, Below.refl _ _⟩
  · have f0 : decide (4096 < (len : Int)) = false := by simp; omega
    go_enter Tryd.func4, Tryd.ntmps4
    go_wp2_with fail
    refine (big6_any _ _ _ _).mono ?_
    rintro e w0 ⟨rfl, rfl⟩
    go_wp2_with fail
    refine (drawStepText_any w.heap.size a len cap w (Nat.le_refl _) (by omega) hcode).mono ?_
    rintro e w1 ⟨p, c, h, s, ⟨ta, tb, td, tq⟩, rfl, hb⟩
    clear f0
    obtain ⟨BV, BS, hb2, hz2⟩ := two_new w1 #[.int .i64 p, .int .i64 c, .int .i64 h, .int .i64 s] #[.int .i64 ta, .int .i64 tb, .int .i64 td, .bool tq] 29 38
    replace hb := chain hb hb2
    clear hb2 hz2
    have hi := fun W => stepText_any p c h s ta tb td tq W
    have hs := fun W => specStepText_any p c h s ta tb td tq W
    have hlT := stt_len p c h s ta tb td tq
    obtain ⟨T, hT⟩ : ∃ T : ByteArray, T = ⟨(stt p c h s ta tb td tq).toArray⟩ := ⟨_, rfl⟩
    have hT8 : T.size ≤ 8 := by rw [hT]; simpa [ByteArray.size] using hlT
    rw [← hT] at hi hs
    have HI := Lib.hid hi
    have HS := Lib.hid hs
    have HTT := Lib.hid hT
    clear hi hs hlT hT
    obtain ⟨x0, x1, x2, x3, xf, xl⟩ := BV.four
    obtain ⟨z0, z1, z2, z3, zf, zl⟩ := BS.four
    go_wp2_with fail
    clear x0 x1 x2 x3 xf xl
    clear z0 z1 z2 z3 zf zl
    generalize ((w1.alloc (.cells #[.int .i64 p, .int .i64 c, .int .i64 h, .int .i64 s] 29)).alloc (.cells #[.int .i64 ta, .int .i64 tb, .int .i64 td, .bool tq] 38)) = v0 at *
    refine (HI.out _).mono ?_
    rintro e w2 ⟨rfl, hq⟩
    replace BV := BV.below hq
    replace BS := BS.below hq
    replace hb := chain hb hq
    clear hq
    obtain ⟨x0, x1, x2, x3, xf, xl⟩ := BV.four
    obtain ⟨z0, z1, z2, z3, zf, zl⟩ := BS.four
    go_wp2_with fail
    clear x0 x1 x2 x3 xf xl
    clear z0 z1 z2 z3 zf zl
    refine (HS.out _).mono ?_
    rintro e w3 ⟨rfl, hq⟩
    replace BV := BV.below hq
    replace BS := BS.below hq
    replace hb := chain hb hq
    clear hq HI HS
    by_cases g : vB p c h s = true ∧ plB p s ta tb td tq = true
    · have e1 : stt p c h s ta tb td tq = stT p ta tb td tq := by unfold stt; rw [if_pos g.1, if_pos g.2]
      have hv := vB_iff.1 g.1
      have hl3 := (stT_len (by omega) (by omega) g.2).2
      have hTl : T.data.toList = stT p ta tb td tq := by rw [HTT.out, e1]
      have hTn : T.toList.isEmpty = false := by
        rw [ByteArray.toList_eq, hTl]
        cases hh : stT p ta tb td tq with
        | nil => rw [hh] at hl3; simp at hl3
        | cons x l => rfl
      have hrd := fun W q1 q2 => readStepP_any p c h s T W (by omega) q1 q2
      rw [if_pos g.1, hTl, rd_good (by omega) (by omega) g.2] at hrd
      have hrd : ∀ W, IntCell W 0 → ErrCell W 2 → Calls Tryd.prog 18 #[.agg #[.int .i64 p, .int .i64 c, .int .i64 h, .int .i64 s], .string T] W fun e w' => e = .returned (.tuple #[.agg #[.int .i64 ta, .int .i64 tb, .int .i64 td, .bool tq], .bool true]) ∧ Below W.heap.size W w' := hrd
      have HR := Lib.hid hrd
      clear hrd hTl e1 hv hl3 g hT8
      obtain ⟨x0, x1, x2, x3, xf, xl⟩ := BV.four
      go_wp2_with fail
      clear x0 x1 x2 x3 xf xl
      refine (HR.out _ (hM.below hb) (hE.below hb)).mono ?_
      rintro e w4 ⟨rfl, hq⟩
      have BQ := Blk.new w4 #[.int .i64 ta, .int .i64 tb, .int .i64 td, .bool tq] 38
      have hal : Below w4.heap.size w4 (w4.alloc (.cells #[.int .i64 ta, .int .i64 tb, .int .i64 td, .bool tq] 38)) := (Below.refl _ _).alloc (Nat.le_refl _) _
      replace hq := chain hq hal
      replace BS := BS.below hq
      replace hb := chain hb hq
      clear hq hal BV HR
      obtain ⟨z0, z1, z2, z3, zf, zl⟩ := BS.four
      obtain ⟨y0, y1, y2, y3, yf, yl⟩ := BQ.four
      go_wp2_with fail
      refine (other_any w.heap.size a len cap _ hb.size (by omega) (hcode.below hb)).mono ?_
      rintro e wo ⟨go, co, rfl, hgo, hco, hbo⟩
      replace hb := chain hb hbo
      clear hbo
      go_wp2_with fail
      refine (drawReadStep_any _ (some ⟨go, 0, none⟩) (3 + len) co wo (Nat.le_refl _) (by omega) hco).mono ?_
      rintro e wd ⟨p2, c2, h2, s2, u, rfl, hu, hbd⟩
      replace hb := chain hb hbd
      clear hbd hco
      have BV := Blk.new wd #[.int .i64 p2, .int .i64 c2, .int .i64 h2, .int .i64 s2] 29
      replace hb := chain_alloc hb (.cells #[.int .i64 p2, .int .i64 c2, .int .i64 h2, .int .i64 s2] 29)
      obtain ⟨F, TT, D, H, ok, hrd, hst⟩ := st_name p2 c2 h2 s2 u (by omega)
      have HRD := Lib.hid hrd
      have HST := Lib.hid hst
      clear hrd hst
      obtain ⟨x0, x1, x2, x3, xf, xl⟩ := BV.four
      go_wp2_with fail
      clear x0 x1 x2 x3 xf xl
      generalize (wd.alloc (.cells #[.int .i64 p2, .int .i64 c2, .int .i64 h2, .int .i64 s2] 29)) = wv at *
      refine (HRD.out _ (hM.below hb) (hE.below hb)).mono ?_
      rintro e wr ⟨rfl, hbr⟩
      have BS := Blk.new wr #[.int .i64 F, .int .i64 TT, .int .i64 D, .bool H] 38
      have hal : Below wr.heap.size wr (wr.alloc (.cells #[.int .i64 F, .int .i64 TT, .int .i64 D, .bool H] 38)) := (Below.refl _ _).alloc (Nat.le_refl _) _
      replace hbr := chain hbr hal
      replace BV := BV.below hbr
      replace hb := chain hb hbr
      clear hbr hal
      obtain ⟨x0, x1, x2, x3, xf, xl⟩ := BV.four
      obtain ⟨z0, z1, z2, z3, zf, zl⟩ := BS.four
      cases ok with
      | false =>
        obtain ⟨rfl, rfl, rfl, rfl⟩ := (HST.out).1 rfl
        go_wp2
        go_ret
        exact ⟨by simp, hb⟩
      | true =>
        have hs2 := (HST.out).2 rfl
        have HS2 := Lib.hid hs2
        clear hs2
        go_wp2_with fail
        clear x0 x1 x2 x3 xf xl
        clear z0 z1 z2 z3 zf zl
        generalize (wr.alloc (.cells #[.int .i64 F, .int .i64 TT, .int .i64 D, .bool H] 38)) = ws at *
        refine (HS2.out _).mono ?_
        rintro e wt ⟨rfl, hbt⟩
        go_wp2
        go_ret
        exact ⟨by simp, chain hb hbt⟩
    · have e1 : stt p c h s ta tb td tq = [] := by
        unfold stt
        split
        · rename_i g1
          split
          · rename_i g2
            exact absurd ⟨g1, g2⟩ g
          · rfl
        · rfl
      have hTe : T.toList.isEmpty = true := by rw [ByteArray.toList_eq, HTT.out, e1]; rfl
      clear e1 g hT8 BV BS
      go_wp2_with fail
      refine (other_any w.heap.size a len cap _ hb.size (by omega) (hcode.below hb)).mono ?_
      rintro e wo ⟨go, co, rfl, hgo, hco, hbo⟩
      replace hb := chain hb hbo
      clear hbo
      go_wp2_with fail
      refine (drawReadStep_any _ (some ⟨go, 0, none⟩) (3 + len) co wo (Nat.le_refl _) (by omega) hco).mono ?_
      rintro e wd ⟨p2, c2, h2, s2, u, rfl, hu, hbd⟩
      replace hb := chain hb hbd
      clear hbd hco
      have BV := Blk.new wd #[.int .i64 p2, .int .i64 c2, .int .i64 h2, .int .i64 s2] 29
      replace hb := chain_alloc hb (.cells #[.int .i64 p2, .int .i64 c2, .int .i64 h2, .int .i64 s2] 29)
      obtain ⟨F, TT, D, H, ok, hrd, hst⟩ := st_name p2 c2 h2 s2 u (by omega)
      have HRD := Lib.hid hrd
      have HST := Lib.hid hst
      clear hrd hst
      obtain ⟨x0, x1, x2, x3, xf, xl⟩ := BV.four
      go_wp2_with fail
      clear x0 x1 x2 x3 xf xl
      generalize (wd.alloc (.cells #[.int .i64 p2, .int .i64 c2, .int .i64 h2, .int .i64 s2] 29)) = wv at *
      refine (HRD.out _ (hM.below hb) (hE.below hb)).mono ?_
      rintro e wr ⟨rfl, hbr⟩
      have BS := Blk.new wr #[.int .i64 F, .int .i64 TT, .int .i64 D, .bool H] 38
      have hal : Below wr.heap.size wr (wr.alloc (.cells #[.int .i64 F, .int .i64 TT, .int .i64 D, .bool H] 38)) := (Below.refl _ _).alloc (Nat.le_refl _) _
      replace hbr := chain hbr hal
      replace BV := BV.below hbr
      replace hb := chain hb hbr
      clear hbr hal
      obtain ⟨x0, x1, x2, x3, xf, xl⟩ := BV.four
      obtain ⟨z0, z1, z2, z3, zf, zl⟩ := BS.four
      cases ok with
      | false =>
        obtain ⟨rfl, rfl, rfl, rfl⟩ := (HST.out).1 rfl
        go_wp2
        go_ret
        exact ⟨by simp, hb⟩
      | true =>
        have hs2 := (HST.out).2 rfl
        have HS2 := Lib.hid hs2
        clear hs2
        go_wp2_with fail
        clear x0 x1 x2 x3 xf xl
        clear z0 z1 z2 z3 zf zl
        generalize (wr.alloc (.cells #[.int .i64 F, .int .i64 TT, .int .i64 D, .bool H] 38)) = ws at *
        refine (HS2.out _).mono ?_
        rintro e wt ⟨rfl, hbt⟩
        go_wp2
        go_ret
        exact ⟨by simp, chain hb hbt⟩
set_option maxRecDepth 100000 in
theorem fnStepTexts_contract (H : Type) (enc : TypeId × Value → H) (W : World) (base : Nat) (args : Array Value) (ds gs : List (DataW H)) (before : List MemPlace)
    (hval : ∀ (j : Nat) t v, Tryd.f4.params[j]? = some t → args[j]? = some v → Value.okWide Tryd.prog W .any base t v)
    (hW : DataW.Whole enc Tryd.prog Tryd.f4.params.toList Rows.fnStepTextsSpec.vars false W args.toList ds gs before) (hL : laidMetH Tryd.prog Rows.fnStepTextsRow.laid W) (hsh : W.ShapedOpen Tryd.prog) :
    Calls Tryd.prog 4 args W fun e W' => ∃ v, e = .returned v ∧ Rows.fnStepTextsSpec.post enc Tryd.prog Tryd.f4 false true false false W args v W' := by
  have hE := errCell_of hL
  have hM := lenCell_of hsh
  have hW' := hW
  obtain ⟨p, q, hA0, hV, rfl, hfz, hnd⟩ := hW
  have hA : DataW.TrodAll enc Tryd.prog W 0 (fun _ => true) true Tryd.f4.params.toList args.toList ds p := hA0
  rw [Tryd.params4] at hA hval
  obtain ⟨v0, vs0, d0, ds0, p0, q0, hargs, rfl, rfl, h0, r0⟩ := trodAll_cons hA
  obtain ⟨rfl, rfl, rfl⟩ := trodAll_nil r0
  obtain rfl : args = #[v0] := by cases args; simp_all
  obtain ⟨rfl, rfl⟩ := trodVars_none hV
  have k0 := h0
  have lt0 : ∀ x ∈ p0, x.block < W.heap.size := by obtain ⟨m, hm⟩ := k0; exact DataW.trod_lt m _ _ _ hm
  obtain ⟨sa_0, sl_0, sc_0, rfl⟩ := okWide_slice Tryd.underlying35 (hval 0 35 v0 rfl rfl)
  have hcode_0 : CodeIn W.heap.size W sa_0 sl_0 := by
    obtain ⟨fuel, hf⟩ := h0
    rcases open_ints Tryd.underlying35 Tryd.underlying5 (by kernel_rfl) hf with ⟨hcs, _⟩ | ⟨x, l, c, zs, hcs, _, hl, hm, hz, _, hcell, hwz⟩
    · simp [Value.cells] at hcs
      obtain ⟨rfl, rfl, rfl⟩ := hcs
      intro i hi
      omega
    · simp [Value.cells] at hcs
      obtain ⟨rfl, rfl, rfl⟩ := hcs
      exact code_of_ints (by have hz2 := hz; simp at hz2; omega) trivial hcell hwz
  clear hA0
  refine (fnStepTexts_walk sa_0 sl_0 sc_0 W hcode_0 hM hE).mono fun e W' ⟨he, bel⟩ => ?_
  subst he
  exact ⟨_, rfl, _, _, _, [], _, [], hW', trodAll_mk1 (shut_bool Tryd.underlying4 _), (trodAll_cons_mk (Below.trod laidOut (by kernel_rfl) (of_decide_eq_true (by kernel_rfl)) k0 bel lt0) trodAll_mk0), rfl, bel.frame _, fun h => by cases h⟩
theorem fnStepTexts_laid (os : Os) : laidMet Tryd.prog Rows.fnStepTextsRow.laid ((laidWorld os).forCall (fun _ _ => 0) ⟨#[], #[.slice none 0 0], []⟩).memory :=
  laidMet_of_run' 8 (by kernel_rfl) (by kernel_rfl)
theorem fnStepTexts_reads (os : Os) {H : Type} (enc : TypeId × Value → H) : ∃ places, DataW.whole enc Tryd.prog ((laidWorld os).forCall (fun _ _ => 0) ⟨#[], #[.slice none 0 0], []⟩).memory Tryd.f4.params.toList Rows.fnStepTextsSpec.vars false (#[.slice none 0 0] : Array Value).toList 8 = some ([.nil], [], places) :=
  ⟨[], by kernel_rfl⟩
set_option maxRecDepth 100000 in
theorem fnStepTexts_lifted (os : Os) (started : os.Started) (H : Type) (enc : TypeId × Value → H) (F : Stop.Interp) :
    ReturnsInHanded {} Tryd.checked os 4 .any ((OpenSpec.ofChange Rows.fnStepTextsSpec).preRow enc Tryd.prog Tryd.f4 Rows.fnStepTextsRow.domain false Rows.fnStepTextsRow.laid) (((OpenSpec.ofChange Rows.fnStepTextsSpec).at F).post enc Tryd.prog Tryd.f4 false true false false) := by
  obtain ⟨places, hx⟩ := fnStepTexts_reads os enc
  refine returnsInHanded_of_row (C := Tryd.checked) (s := OpenSpec.ofChange Rows.fnStepTextsSpec) own started (by kernel_rfl) Tryd.func4
    (witness_row_at (enc := enc) (C := Tryd.checked) false (laidWorld os) #[.slice none 0 0] rfl (by kernel_rfl) (by kernel_rfl) (by kernel_rfl)
      (OpenSpec.preRow_of_cond 8 hx (by kernel_rfl) (fun k hk => by cases hk) (by kernel_rfl) (fnStepTexts_laid os))) ?_
  intro W base args ds gs before hval hW _ _ _ hL hsh _
  exact fnStepTexts_contract H enc W base args ds gs before hval hW hL hsh
theorem fnStepTexts_said : Rows.FnStepTextsSaid :=
  OpenClaim.holds_of_cond 4 Tryd.f4 rfl rfl rfl rfl rfl rfl rfl ⟨rfl, rfl, rfl, rfl, rfl⟩ rfl rfl rfl rfl rfl (by kernel_rfl) Tryd.func4 (by kernel_rfl)
    (of_decide_eq_true (by kernel_rfl)) (by unfold Func.isWrapper; first | (rw [if_pos (by decide +kernel)]; kernel_rfl) | (rw [if_neg (by decide +kernel)]; exact ⟨rfl, rfl⟩))
    (fun os started H enc _ F => by rw [OpenClaim.pre_eq_preRow]; exact fnStepTexts_lifted os started H enc F)
/-- No parameter wants a stand-in; the program's own looks are off: what the card asks. -/
theorem fnStepTexts_plain (f : FuncId) (fn : Func) (hf : Tryd.pinned.checked.prog.funcNamed "loop.example/g00885/laws.FnStepTexts" = some f) (hfn : Tryd.pinned.checked.prog.funcs[f]? = some fn) :
    true = Tryd.pinned.checked.prog.looks [] ∧ ∀ (j : Nat) t, fn.params[j]? = some t → Tryd.pinned.checked.prog.wantsStandIn t = false := by
  obtain rfl : f = 4 := Option.some.inj ((show Tryd.prog.funcNamed "loop.example/g00885/laws.FnStepTexts" = some 4 by kernel_rfl).symm.trans hf) |>.symm
  obtain rfl : fn = Tryd.f4 := (Option.some.inj (Tryd.func4.symm.trans hfn)).symm
  refine ⟨by kernel_rfl, fun j t ht => ?_⟩
  rw [Tryd.params4] at ht
  have hm := Array.mem_of_getElem? ht
  simp at hm
  subst hm
  exact (show Tryd.prog.wantsStandIn 35 = false by kernel_rfl)
theorem fnStepTexts_card : Rows.FnStepTextsCardSaid :=
  Claim7.holds_tied_plain_at .later [] _ _ _ _ fnStepTexts_said (fun _ h => by cases h) (by kernel_rfl) (fun _ h => by cases h) fnStepTexts_row_tie rfl ⟨rfl, rfl⟩ (by kernel_rfl) rfl fnStepTexts_plain (by kernel_rfl)
end Go.Proofs.YthfhiggageejbaaDoor.stepTextsLaw
