/- Contracts of the functions of chapter 1 that write a variant as a text: the whole text. -/
import Derived.Test.YtlbmknmihofloaaDoorL01s
import Derived.Test.YtlbmknmihofloaaDoorL01a
import Derived.Deep.RegionHeld3
namespace Go.Proofs.YtlbmknmihofloaaDoor
open Go.ChangeShapes Go.WideShapes Go.ChangeAt Go.RowKit
set_option linter.unusedVariables false
set_option linter.unusedSimpArgs false

theorem l01Number_any (n : Int) (w : World) (h0 : 0 ≤ n) (h1 : n < 100) :
    Calls Tryd.prog 22 #[.int .i64 n] w fun e w' => e = .returned (.string ⟨(num2 n).toArray⟩) ∧ Below w.heap.size w w' := by
  by_cases h : n < 10
  · exact l01Number_lt10 n w h0 h
  · exact l01Number_lt100 n w (by omega) h1

/-- The text of a valid variant. -/
def vtext (p c h s : Int) : List UInt8 := num2 p ++ [47] ++ num2 c ++ [47] ++ num2 h ++ [47] ++ num2 s
/-- The text of a variant: empty where it is not valid. -/
def vt (p c h s : Int) : List UInt8 := if vB p c h s = true then vtext p c h s else []

theorem held4 {w W w2 : World} {g : Nat} {v0 v1 v2 v3 : Value} (hS : W.cell? ⟨g, 0, none⟩ = some v0 ∧ W.cell? ⟨g, 1, none⟩ = some v1 ∧ W.cell? ⟨g, 2, none⟩ = some v2 ∧ W.cell? ⟨g, 3, none⟩ = some v3 ∧ Below w.heap.size w W ∧ g < W.heap.size)
    (hb : Below W.heap.size W w2) : w2.cell? ⟨g, 0, none⟩ = some v0 ∧ w2.cell? ⟨g, 1, none⟩ = some v1 ∧ w2.cell? ⟨g, 2, none⟩ = some v2 ∧ w2.cell? ⟨g, 3, none⟩ = some v3 ∧ Below w.heap.size w w2 ∧ g < w2.heap.size := by
  obtain ⟨a, b, c, d, e, f⟩ := hS
  obtain ⟨hc, _⟩ := bcell hb
  exact ⟨by rw [hc _ _ f]; exact a, by rw [hc _ _ f]; exact b, by rw [hc _ _ f]; exact c, by rw [hc _ _ f]; exact d, chain e hb, Nat.lt_of_lt_of_le f hb.size⟩

theorem num2_len (n : Int) : (num2 n).length ≤ 2 := by unfold num2; split <;> simp
theorem vtext_spec (p c h s : Int) : (⟨(vtext p c h s).toArray⟩ : ByteArray) = ⟨(num2 p).toArray⟩ ++ ⟨#[47]⟩ ++ ⟨(num2 c).toArray⟩ ++ ⟨#[47]⟩ ++ ⟨(num2 h).toArray⟩ ++ ⟨#[47]⟩ ++ ⟨(num2 s).toArray⟩ := by
  apply ByteArray.ext
  simp [vtext, ByteArray.data_append]

theorem cat_run {a b : ByteArray} {m n : Nat} (ha : a.size ≤ m) (hb : b.size ≤ n) (h : m + n ≤ 1000000) :
    ∃ T : ByteArray, T = a ++ b ∧ T.size ≤ m + n ∧ ∀ W : World, (Op.stringOp .add a b).run Tryd.prog W = .ok (.string T) W :=
  ⟨a ++ b, rfl, by simp [ByteArray.size_append]; omega, fun W => run_string_add_sum W a b (by omega)⟩
theorem num2_str (n : Int) (h0 : 0 ≤ n) (h1 : n < 100) : ∃ T : ByteArray, T = ⟨(num2 n).toArray⟩ ∧ T.size ≤ 2 ∧ (∀ w : World, Calls Tryd.prog 22 #[.int .i64 n] w fun e w' => e = .returned (.string T) ∧ Below w.heap.size w w') :=
  ⟨_, rfl, num2_len n, fun w => l01Number_any n w h0 h1⟩

set_option maxHeartbeats 400000 in
theorem specVariantText_any (p c h s : Int) (w : World) :
    Calls Tryd.prog 9 #[.agg #[.int .i64 p, .int .i64 c, .int .i64 h, .int .i64 s]] w fun e w' => e = .returned (.string ⟨(vt p c h s).toArray⟩) ∧ Below w.heap.size w w' := by
  by_cases g : vB p c h s = true
  · have hv := vB_iff.1 g
    obtain ⟨tp, ep, zp, kp⟩ := num2_str p (by omega) (by omega)
    obtain ⟨tc, ec, zc, kc⟩ := num2_str c (by omega) (by omega)
    obtain ⟨th, eh, zh, kh⟩ := num2_str h (by omega) (by omega)
    obtain ⟨ts, es, zs, ks⟩ := num2_str s (by omega) (by omega)
    have z1 : (⟨#[47]⟩ : ByteArray).size ≤ 1 := by decide
    obtain ⟨t1, e1, y1, k1⟩ := cat_run zp z1 (by omega)
    obtain ⟨t2, e2, y2, k2⟩ := cat_run y1 zc (by omega)
    obtain ⟨t3, e3, y3, k3⟩ := cat_run y2 z1 (by omega)
    obtain ⟨t4, e4, y4, k4⟩ := cat_run y3 zh (by omega)
    obtain ⟨t5, e5, y5, k5⟩ := cat_run y4 z1 (by omega)
    obtain ⟨t6, e6, y6, k6⟩ := cat_run y5 zs (by omega)
    have e0 : (⟨(vt p c h s).toArray⟩ : ByteArray) = t6 := by rw [show vt p c h s = vtext p c h s by simp [vt, g], vtext_spec, e6, e5, e4, e3, e2, e1, ep, ec, eh, es]
    rw [e0]
    clear e0 e1 e2 e3 e4 e5 e6 ep ec eh es
    have KP := Lib.hid kp
    have KC := Lib.hid kc
    have KH := Lib.hid kh
    have KS := Lib.hid ks
    clear kp kc kh ks zp zc zh zs z1 y1 y2 y3 y4 y5 y6 hv
    go_enter Tryd.func9, Tryd.ntmps9
    go_wp2_with fail
    refine (specIsVariant_any _ _ _ _ _).mono ?_
    rintro e w1 ⟨rfl, hb1⟩
    obtain ⟨hc1, hf1⟩ := bcell hb1
    have c0 : w1.cell? ⟨w.heap.size, 0, none⟩ = some (.int .i64 p) := by rw [hc1 _ _ (by simp)]; simp [go_sem]
    have c1 : w1.cell? ⟨w.heap.size, 1, none⟩ = some (.int .i64 c) := by rw [hc1 _ _ (by simp)]; simp [go_sem]
    have c2 : w1.cell? ⟨w.heap.size, 2, none⟩ = some (.int .i64 h) := by rw [hc1 _ _ (by simp)]; simp [go_sem]
    have c3 : w1.cell? ⟨w.heap.size, 3, none⟩ = some (.int .i64 s) := by rw [hc1 _ _ (by simp)]; simp [go_sem]
    replace hb1 := from_alloc hb1
    have hz : w.heap.size < w1.heap.size := World.block_lt_of_cell? w1 _ c0
    clear hc1 hf1
    go_wp2_with fail
    go_region_held3 (fun w' => w'.cell? ⟨w.heap.size, 0, none⟩ = some (.int .i64 p) ∧ w'.cell? ⟨w.heap.size, 1, none⟩ = some (.int .i64 c) ∧ w'.cell? ⟨w.heap.size, 2, none⟩ = some (.int .i64 h) ∧ w'.cell? ⟨w.heap.size, 3, none⟩ = some (.int .i64 s) ∧ Below w.heap.size w w' ∧ w.heap.size < w'.heap.size)
      (first | exact ⟨c0, c1, c2, c3, hb1.drew, hz⟩ | exact hS | go_keep)
      (first | (go_at_call 22; (with_reducible first | refine (KP.out _).mono ?_ | refine (KC.out _).mono ?_ | refine (KH.out _).mono ?_ | refine (KS.out _).mono ?_); rintro e w2 ⟨rfl, hb2⟩; have hS := held4 (by assumption) hb2))
    go_wp2
    go_ret
    exact ⟨rfl, hS.2.2.2.2.1⟩
  · have e0 : vt p c h s = [] := by simp [vt, g]
    rw [e0]
    clear e0
    go_enter Tryd.func9, Tryd.ntmps9
    go_wp2_with fail
    refine (specIsVariant_any _ _ _ _ _).mono ?_
    rintro e w1 ⟨rfl, hb1⟩
    go_wp2_with fail
    go_ret
    exact ⟨rfl, from_alloc hb1⟩
end Go.Proofs.YtlbmknmihofloaaDoor
