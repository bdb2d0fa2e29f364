/- The law of chapter 1 that a variant is recovered from its text holds: for every input the law returns true and its argument reads behind the call as it read before. No conditions but those of the card: the listed tables of the library hold what their initialisers lay. -/
import Derived.Test.YtlbmknmihofloaaDoorSrc7
import Derived.Test.YtlbmknmihofloaaDoorL01v
import Derived.Test.YtlbmknmihofloaaDoorCards
import Derived.Test.YtlbmknmihofloaaDoorTie
import Derived.ChangeOld
import Derived.Deep.DeepHandedRow
import Derived.Lib.LaidTab
namespace Go.Proofs.YtlbmknmihofloaaDoor.drawLaw
open Go.ChangeShapes Go.WideShapes Go.ChangeAt Go.RowKit
open Go.ChangeMaps (open_string shut_string)
set_option linter.unusedVariables false
set_option linter.unusedSimpArgs false
def lay (vs : Array Value) : Obj → Obj
  | .cells _ t frozen => .cells vs t frozen
  | o => o
/-- A world for the witness: the settled one, each listed table holding what its initialiser lays. -/
noncomputable def laidWorld (os : Os) : World :=
  { World.holding Tryd.prog os ⟨#[], #[], []⟩ with heap := ((((World.holding Tryd.prog os ⟨#[], #[], []⟩).heap.modify 1 (lay #[.int .u8 0, .int .u8 1, .int .u8 28, .int .u8 2, .int .u8 29, .int .u8 14, .int .u8 24, .int .u8 3, .int .u8 30, .int .u8 22, .int .u8 20, .int .u8 15, .int .u8 25, .int .u8 17, .int .u8 4, .int .u8 8, .int .u8 31, .int .u8 27, .int .u8 13, .int .u8 23, .int .u8 21, .int .u8 19, .int .u8 16, .int .u8 7, .int .u8 26, .int .u8 12, .int .u8 18, .int .u8 6, .int .u8 11, .int .u8 5, .int .u8 10, .int .u8 9])).modify 2 (lay #[.int .u8 0, .int .u8 1, .int .u8 56, .int .u8 2, .int .u8 57, .int .u8 49, .int .u8 28, .int .u8 3, .int .u8 61, .int .u8 58, .int .u8 42, .int .u8 50, .int .u8 38, .int .u8 29, .int .u8 17, .int .u8 4, .int .u8 62, .int .u8 47, .int .u8 59, .int .u8 36, .int .u8 45, .int .u8 43, .int .u8 51, .int .u8 22, .int .u8 53, .int .u8 39, .int .u8 33, .int .u8 30, .int .u8 24, .int .u8 18, .int .u8 12, .int .u8 5, .int .u8 63, .int .u8 55, .int .u8 48, .int .u8 27, .int .u8 60, .int .u8 41, .int .u8 37, .int .u8 16, .int .u8 46, .int .u8 35, .int .u8 44, .int .u8 21, .int .u8 52, .int .u8 32, .int .u8 23, .int .u8 11, .int .u8 54, .int .u8 26, .int .u8 40, .int .u8 15, .int .u8 34, .int .u8 20, .int .u8 31, .int .u8 10, .int .u8 25, .int .u8 14, .int .u8 19, .int .u8 9, .int .u8 13, .int .u8 8, .int .u8 7, .int .u8 6])).modify 0 (lay #[.int .u64 1, .int .u64 10, .int .u64 100, .int .u64 1000, .int .u64 10000, .int .u64 100000, .int .u64 1000000, .int .u64 10000000, .int .u64 100000000, .int .u64 1000000000, .int .u64 10000000000, .int .u64 100000000000, .int .u64 1000000000000, .int .u64 10000000000000, .int .u64 100000000000000, .int .u64 1000000000000000, .int .u64 10000000000000000, .int .u64 100000000000000000, .int .u64 1000000000000000000, .int .u64 10000000000000000000])) }
theorem code_of_ints {w : World} {x : Addr} {len : Nat} {zs : List Int} (hl : len ≤ zs.length) (_hz : True) (hcell : ∀ i, i < zs.length → w.cell? (x.add i) = some (.int .u8 (zs.getD i 0))) (hwz : ∀ n ∈ zs, (Lit.int .u8 n).wf = true) : CodeIn w.heap.size w (some x) len := by
  intro i hi
  obtain ⟨b, o, spot⟩ := x
  have hc := hcell i (by omega)
  have hspot : spot = none := by
    have hc0 := hcell 0 (by omega)
    simpa [Addr.add] using World.cell?_spot hc0
  subst hspot
  rw [show (⟨b, o, none⟩ : Addr).add i = ⟨b, o + i, none⟩ from by unfold Addr.add; split <;> simp_all] at hc
  have hm : zs.getD i 0 ∈ zs := by
    have : i < zs.length := by omega
    simp [List.getD, this]
  have hw := hwz _ hm
  have hr : 0 ≤ zs.getD i 0 ∧ zs.getD i 0 ≤ 255 := by simpa [Lit.wf, IntKind.min, IntKind.max, IntKind.signed, IntKind.bits] using hw
  exact ⟨b, o, zs.getD i 0, rfl, World.block_lt_of_cell? w _ hc, hc, hr.1, hr.2⟩
theorem vtI_name (p c h s : Int) : ∃ T : ByteArray, T.data.toList = vt p c h s ∧ T.size ≤ 11 ∧
    (∀ w, Calls Tryd.prog 8 #[.agg #[.int .i64 p, .int .i64 c, .int .i64 h, .int .i64 s]] w fun e w' => e = .returned (.string T) ∧ Below w.heap.size w w') ∧
    (∀ w, Calls Tryd.prog 9 #[.agg #[.int .i64 p, .int .i64 c, .int .i64 h, .int .i64 s]] w fun e w' => e = .returned (.string T) ∧ Below w.heap.size w w') :=
  ⟨⟨(vt p c h s).toArray⟩, rfl, by have := vt_len p c h s; simpa [ByteArray.size] using this, fun w => variantText_any p c h s w, fun w => specVariantText_any p c h s w⟩
theorem vtext_ne (p c h s : Int) : vtext p c h s ≠ [] := by simp [vtext]

set_option maxHeartbeats 2000000 in
theorem fnVariantText_walk (a : Option Addr) (len cap : Nat) (w : World) (hcode : CodeIn w.heap.size w a len) :
    Calls Tryd.prog 3 #[.slice a len cap] w fun e w' => e = .returned (.bool true) ∧ Below w.heap.size w w' := by
  by_cases hbig : 4096 < len
  · have f0 : decide (4096 < (len : Int)) = true := by simp; omega
    go_enter Tryd.func3, Tryd.ntmps3
    go_wp2_with fail
    refine (big_any _ _ _ _).mono ?_
    rintro e w1 ⟨rfl, rfl⟩
    go_wp2
    go_ret
    exact ⟨rfl, Below.refl _ _⟩
  · have f0 : decide (4096 < (len : Int)) = false := by simp; omega
    go_enter Tryd.func3, Tryd.ntmps3
    go_wp2_with fail
    refine (big_any _ _ _ _).mono ?_
    rintro e w0 ⟨rfl, rfl⟩
    go_wp2_with fail
    refine (drawVariant_any w.heap.size a len cap w (Nat.le_refl _) (by omega) hcode).mono ?_
    rintro e w1 ⟨p, c, h, s, rfl, hb⟩
    have Bv := Blk.new w1 #[.int .i64 p, .int .i64 c, .int .i64 h, .int .i64 s] 25
    obtain ⟨T, hT, hz, hi, hs⟩ := vtI_name p c h s
    have HI := Lib.hid hi
    have HS := Lib.hid hs
    clear hi hs
    by_cases g : vB p c h s = true
    · have hTn : T.toList.isEmpty = false := by rw [ByteArray.toList_eq, hT]; simp [vt, g, vtext_ne]
      have hr : rvI T.data.toList = some (p, c, h, s) := (rvI_iff _ _ _ _ _).2 ⟨g, by rw [hT]; simp [vt, g]⟩
      have hrv := fun w => readVariant_any T w (by unfold maxLen; omega)
      rw [hr] at hrv
      simp only [rvVal] at hrv
      have HR := Lib.hid hrv
      clear hrv hr hT
      go_wp2_with fail
      refine (HI.out _).mono ?_
      rintro e w2 ⟨rfl, hb2⟩
      replace Bv := Bv.below hb2
      replace hb := chain (hb.alloc hb.size _) hb2
      clear hb2
      obtain ⟨x0, x1, x2, x3, xf, xl⟩ := Bv.four
      go_wp2_with fail
      clear x0 x1 x2 x3 xf xl
      refine (HS.out _).mono ?_
      rintro e w3 ⟨rfl, hb3⟩
      replace Bv := Bv.below hb3
      replace hb := chain hb hb3
      clear hb3
      obtain ⟨x0, x1, x2, x3, xf, xl⟩ := Bv.four
      go_wp2_with fail
      clear x0 x1 x2 x3 xf xl
      refine (isVariant_any _ _ _ _ _).mono ?_
      rintro e w4 ⟨rfl, hb4⟩
      replace Bv := Bv.below hb4
      replace hb := chain hb hb4
      clear hb4
      obtain ⟨x0, x1, x2, x3, xf, xl⟩ := Bv.four
      go_wp2_with fail
      refine (HR.out _).mono ?_
      rintro e w5 ⟨rfl, hb5⟩
      replace Bv := (Bv.below hb5).alloc (.cells #[.int .i64 p, .int .i64 c, .int .i64 h, .int .i64 s] 25)
      replace hb := chain_alloc (chain hb hb5) (.cells #[.int .i64 p, .int .i64 c, .int .i64 h, .int .i64 s] 25)
      clear hb5 x0 x1 x2 x3 xf xl
      obtain ⟨x0, x1, x2, x3, xf, xl⟩ := Bv.four
      go_wp2_with fail
      refine (other_any w.heap.size a len cap _ hb.size (by omega) (hcode.below hb)).mono ?_
      rintro e w6 ⟨g6, cap6, rfl, hl6, hcode6, hb6⟩
      replace hb := chain hb hb6
      clear hb6
      go_wp2_with fail
      refine (drawText_any w6.heap.size _ _ _ _ (Nat.le_refl _) (by omega) hcode6).mono ?_
      rintro e w7 ⟨u, rfl, hu, hb7⟩
      replace hb := chain hb hb7
      clear hb7 hcode6 hl6
      have hrv2 := fun w => readVariant_any u w (by unfold maxLen; omega)
      cases hq : rvI u.data.toList with
      | none =>
        rw [hq] at hrv2
        simp only [rvVal] at hrv2
        have HR2 := Lib.hid hrv2
        clear hrv2 hq
        go_wp2_with fail
        refine (HR2.out _).mono ?_
        rintro e w8 ⟨rfl, hb8⟩
        replace hb := chain_alloc (chain hb hb8) (.cells #[.int .i64 0, .int .i64 0, .int .i64 0, .int .i64 0] 25)
        have Bx := Blk.new w8 #[.int .i64 0, .int .i64 0, .int .i64 0, .int .i64 0] 25
        clear hb8
        obtain ⟨z0, z1, z2, z3, zf, zl⟩ := Bx.four
        go_wp2_with fail
        go_ret
        exact ⟨rfl, hb⟩
      | some v =>
        obtain ⟨p2, c2, h2, s2⟩ := v
        obtain ⟨g2, e2⟩ := (rvI_iff _ _ _ _ _).1 hq
        rw [hq] at hrv2
        simp only [rvVal] at hrv2
        have hvt := fun w => variantText_any p2 c2 h2 s2 w
        have eu : (⟨(vt p2 c2 h2 s2).toArray⟩ : ByteArray) = u := by
          apply ByteArray.ext
          apply Array.toList_inj.1
          simp only [vt, if_pos g2]
          exact e2
        rw [eu] at hvt
        have HR2 := Lib.hid hrv2
        have HV2 := Lib.hid hvt
        clear hrv2 hvt eu hq e2 g2
        go_wp2_with fail
        refine (HR2.out _).mono ?_
        rintro e w8 ⟨rfl, hb8⟩
        replace hb := chain_alloc (chain hb hb8) (.cells #[.int .i64 p2, .int .i64 c2, .int .i64 h2, .int .i64 s2] 25)
        have Bx := Blk.new w8 #[.int .i64 p2, .int .i64 c2, .int .i64 h2, .int .i64 s2] 25
        clear hb8
        obtain ⟨z0, z1, z2, z3, zf, zl⟩ := Bx.four
        go_wp2_with fail
        refine (HV2.out _).mono ?_
        rintro e w9 ⟨rfl, hb9⟩
        replace hb := chain hb hb9
        clear hb9
        go_wp2_with fail
        go_ret
        exact ⟨rfl, hb⟩
    · have hTn : T.toList = [] := by rw [ByteArray.toList_eq, hT]; simp [vt, g]
      have hTe : T.toList.isEmpty = true := by rw [hTn]; rfl
      clear hT
      go_wp2_with fail
      refine (HI.out _).mono ?_
      rintro e w2 ⟨rfl, hb2⟩
      replace Bv := Bv.below hb2
      replace hb := chain (hb.alloc hb.size _) hb2
      clear hb2
      obtain ⟨x0, x1, x2, x3, xf, xl⟩ := Bv.four
      go_wp2_with fail
      clear x0 x1 x2 x3 xf xl
      refine (HS.out _).mono ?_
      rintro e w3 ⟨rfl, hb3⟩
      replace Bv := Bv.below hb3
      replace hb := chain hb hb3
      clear hb3
      obtain ⟨x0, x1, x2, x3, xf, xl⟩ := Bv.four
      go_wp2_with fail
      clear x0 x1 x2 x3 xf xl
      refine (isVariant_any _ _ _ _ _).mono ?_
      rintro e w4 ⟨rfl, hb4⟩
      replace Bv := Bv.below hb4
      replace hb := chain hb hb4
      clear hb4
      go_wp2_with fail
      refine (other_any w.heap.size a len cap _ hb.size (by omega) (hcode.below hb)).mono ?_
      rintro e w6 ⟨g6, cap6, rfl, hl6, hcode6, hb6⟩
      replace hb := chain hb hb6
      clear hb6
      go_wp2_with fail
      refine (drawText_any w6.heap.size _ _ _ _ (Nat.le_refl _) (by omega) hcode6).mono ?_
      rintro e w7 ⟨u, rfl, hu, hb7⟩
      replace hb := chain hb hb7
      clear hb7 hcode6 hl6
      have hrv2 := fun w => readVariant_any u w (by unfold maxLen; omega)
      cases hq : rvI u.data.toList with
      | none =>
        rw [hq] at hrv2
        simp only [rvVal] at hrv2
        have HR2 := Lib.hid hrv2
        clear hrv2 hq
        go_wp2_with fail
        refine (HR2.out _).mono ?_
        rintro e w8 ⟨rfl, hb8⟩
        replace hb := chain_alloc (chain hb hb8) (.cells #[.int .i64 0, .int .i64 0, .int .i64 0, .int .i64 0] 25)
        have Bx := Blk.new w8 #[.int .i64 0, .int .i64 0, .int .i64 0, .int .i64 0] 25
        clear hb8
        obtain ⟨z0, z1, z2, z3, zf, zl⟩ := Bx.four
        go_wp2_with fail
        go_ret
        exact ⟨rfl, hb⟩
      | some v =>
        obtain ⟨p2, c2, h2, s2⟩ := v
        obtain ⟨g2, e2⟩ := (rvI_iff _ _ _ _ _).1 hq
        rw [hq] at hrv2
        simp only [rvVal] at hrv2
        have hvt := fun w => variantText_any p2 c2 h2 s2 w
        have eu : (⟨(vt p2 c2 h2 s2).toArray⟩ : ByteArray) = u := by
          apply ByteArray.ext
          apply Array.toList_inj.1
          simp only [vt, if_pos g2]
          exact e2
        rw [eu] at hvt
        have HR2 := Lib.hid hrv2
        have HV2 := Lib.hid hvt
        clear hrv2 hvt eu hq e2 g2
        go_wp2_with fail
        refine (HR2.out _).mono ?_
        rintro e w8 ⟨rfl, hb8⟩
        replace hb := chain_alloc (chain hb hb8) (.cells #[.int .i64 p2, .int .i64 c2, .int .i64 h2, .int .i64 s2] 25)
        have Bx := Blk.new w8 #[.int .i64 p2, .int .i64 c2, .int .i64 h2, .int .i64 s2] 25
        clear hb8
        obtain ⟨z0, z1, z2, z3, zf, zl⟩ := Bx.four
        go_wp2_with fail
        refine (HV2.out _).mono ?_
        rintro e w9 ⟨rfl, hb9⟩
        replace hb := chain hb hb9
        clear hb9
        go_wp2_with fail
        go_ret
        exact ⟨rfl, hb⟩
theorem fnVariantText_contract (H : Type) (enc : TypeId × Value → H) (W : World) (base : Nat) (args : Array Value) (ds gs : List (DataW H)) (before : List MemPlace)
    (hval : ∀ (j : Nat) t v, Tryd.f3.params[j]? = some t → args[j]? = some v → Value.okWide Tryd.prog W .any base t v)
    (hW : DataW.Whole enc Tryd.prog Tryd.f3.params.toList Rows.fnVariantTextSpec.vars false W args.toList ds gs before) (hL : laidMetH Tryd.prog Rows.fnVariantTextRow.laid W) :
    Calls Tryd.prog 3 args W fun e W' => ∃ v, e = .returned v ∧ Rows.fnVariantTextSpec.post enc Tryd.prog Tryd.f3 false true false false W args v W' := by
  have hW' := hW
  obtain ⟨p, q, hA0, hV, rfl, hfz, hnd⟩ := hW
  have hA : DataW.TrodAll enc Tryd.prog W 0 (fun _ => true) true Tryd.f3.params.toList args.toList ds p := hA0
  rw [Tryd.params3] at hA hval
  obtain ⟨v0, vs0, d0, ds0, p0, q0, hargs, rfl, rfl, h0, r0⟩ := trodAll_cons hA
  obtain ⟨rfl, rfl, rfl⟩ := trodAll_nil r0
  obtain rfl : args = #[v0] := by cases args; simp_all
  obtain ⟨rfl, rfl⟩ := trodVars_none hV
  have k0 := h0
  have lt0 : ∀ x ∈ p0, x.block < W.heap.size := by obtain ⟨m, hm⟩ := k0; exact DataW.trod_lt m _ _ _ hm
  obtain ⟨sa_0, sl_0, sc_0, rfl⟩ := okWide_slice Tryd.underlying22 (hval 0 22 v0 rfl rfl)
  have hcode_0 : CodeIn W.heap.size W sa_0 sl_0 := by
    obtain ⟨fuel, hf⟩ := h0
    rcases open_ints Tryd.underlying22 Tryd.underlying5 (by kernel_rfl) hf with ⟨hcs, _⟩ | ⟨x, l, c, zs, hcs, _, hl, hm, hz, _, hcell, hwz⟩
    · simp [Value.cells] at hcs
      obtain ⟨rfl, rfl, rfl⟩ := hcs
      intro i hi
      omega
    · simp [Value.cells] at hcs
      obtain ⟨rfl, rfl, rfl⟩ := hcs
      exact code_of_ints (by have hz2 := hz; simp at hz2; omega) trivial hcell hwz
  clear hA0
  refine (fnVariantText_walk sa_0 sl_0 sc_0 W hcode_0).mono fun e W' ⟨he, bel⟩ => ?_
  subst he
  exact ⟨_, rfl, _, _, _, [], _, [], hW', trodAll_mk1 (shut_bool Tryd.underlying4 _), (trodAll_cons_mk (Below.trod laidOut (by kernel_rfl) (of_decide_eq_true (by kernel_rfl)) k0 bel lt0) trodAll_mk0), rfl, bel.frame _, fun h => by cases h⟩
theorem fnVariantText_laid (os : Os) : laidMet Tryd.prog Rows.fnVariantTextRow.laid ((laidWorld os).forCall (fun _ _ => 0) ⟨#[], #[.slice none 0 0], []⟩).memory :=
  laidMet_of_run' 8 (by kernel_rfl) (by kernel_rfl)
theorem fnVariantText_reads (os : Os) {H : Type} (enc : TypeId × Value → H) : ∃ places, DataW.whole enc Tryd.prog ((laidWorld os).forCall (fun _ _ => 0) ⟨#[], #[.slice none 0 0], []⟩).memory Tryd.f3.params.toList Rows.fnVariantTextSpec.vars false (#[.slice none 0 0] : Array Value).toList 8 = some ([.nil], [], places) :=
  ⟨[], by kernel_rfl⟩
set_option maxRecDepth 100000 in
theorem fnVariantText_lifted (os : Os) (started : os.Started) (H : Type) (enc : TypeId × Value → H) (F : Stop.Interp) :
    ReturnsInHanded {} Tryd.checked os 3 .any ((OpenSpec.ofChange Rows.fnVariantTextSpec).preRow enc Tryd.prog Tryd.f3 Rows.fnVariantTextRow.domain false Rows.fnVariantTextRow.laid) (((OpenSpec.ofChange Rows.fnVariantTextSpec).at F).post enc Tryd.prog Tryd.f3 false true false false) := by
  obtain ⟨places, hx⟩ := fnVariantText_reads os enc
  refine returnsInHanded_of_row (C := Tryd.checked) (s := OpenSpec.ofChange Rows.fnVariantTextSpec) own started (by kernel_rfl) Tryd.func3
    (witness_row_at (enc := enc) (C := Tryd.checked) false (laidWorld os) #[.slice none 0 0] rfl (by kernel_rfl) (by kernel_rfl) (by kernel_rfl)
      (OpenSpec.preRow_of_cond 8 hx (by kernel_rfl) (fun k hk => by cases hk) (by kernel_rfl) (fnVariantText_laid os))) ?_
  intro W base args ds gs before hval hW _ _ _ hL _ _
  exact fnVariantText_contract H enc W base args ds gs before hval hW hL
theorem fnVariantText_said : Rows.FnVariantTextSaid :=
  OpenClaim.holds_of_cond 3 Tryd.f3 rfl rfl rfl rfl rfl rfl rfl ⟨rfl, rfl, rfl, rfl, rfl⟩ rfl rfl rfl rfl rfl (by kernel_rfl) Tryd.func3 (by kernel_rfl)
    (of_decide_eq_true (by kernel_rfl)) (by unfold Func.isWrapper; first | (rw [if_pos (by decide +kernel)]; kernel_rfl) | (rw [if_neg (by decide +kernel)]; exact ⟨rfl, rfl⟩))
    (fun os started H enc _ F => by rw [OpenClaim.pre_eq_preRow]; exact fnVariantText_lifted os started H enc F)
/-- No parameter wants a stand-in; the program's own looks are off: what the card asks. -/
theorem fnVariantText_plain (f : FuncId) (fn : Func) (hf : Tryd.pinned.checked.prog.funcNamed "loop.example/g00885/laws.FnVariantText" = some f) (hfn : Tryd.pinned.checked.prog.funcs[f]? = some fn) :
    false = Tryd.pinned.checked.prog.looks [] ∧ ∀ (j : Nat) t, fn.params[j]? = some t → Tryd.pinned.checked.prog.wantsStandIn t = false := by
  obtain rfl : f = 3 := Option.some.inj ((show Tryd.prog.funcNamed "loop.example/g00885/laws.FnVariantText" = some 3 by kernel_rfl).symm.trans hf) |>.symm
  obtain rfl : fn = Tryd.f3 := (Option.some.inj (Tryd.func3.symm.trans hfn)).symm
  refine ⟨by kernel_rfl, fun j t ht => ?_⟩
  rw [Tryd.params3] at ht
  have hm := Array.mem_of_getElem? ht
  simp at hm
  subst hm
  exact (show Tryd.prog.wantsStandIn 22 = false by kernel_rfl)
theorem fnVariantText_card : Rows.FnVariantTextCardSaid :=
  Claim7.holds_tied_plain_at .later [] _ _ _ _ fnVariantText_said (fun _ h => by cases h) (by kernel_rfl) (fun _ h => by cases h) fnVariantText_row_tie rfl ⟨rfl, rfl⟩ (by kernel_rfl) rfl fnVariantText_plain (by kernel_rfl)
end Go.Proofs.YtlbmknmihofloaaDoor.drawLaw
