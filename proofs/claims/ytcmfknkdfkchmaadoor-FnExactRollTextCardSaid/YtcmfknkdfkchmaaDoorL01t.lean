/- Contracts of the functions of chapter 1 that write a variant as a text: the whole text. -/
import Derived.Test.YtcmfknkdfkchmaaDoorL01s
import Derived.Test.YtcmfknkdfkchmaaDoorL01a
import Derived.Deep.RegionHeld3
namespace Go.Proofs.YtcmfknkdfkchmaaDoor
open Go.ChangeShapes Go.WideShapes Go.ChangeAt Go.RowKit
set_option linter.unusedVariables false
set_option linter.unusedSimpArgs false

theorem l01Number_any (n : Int) (w : World) (h0 : 0 ≤ n) (h1 : n < 100) :
    Calls Tryd.prog 9 #[.int .i64 n] w fun e w' => e = .returned (.string ⟨(num2 n).toArray⟩) ∧ Below w.heap.size w w' := by
  by_cases h : n < 10
  · exact l01Number_lt10 n w h0 h
  · exact l01Number_lt100 n w (by omega) h1

/-- The text of a valid variant. -/
def vtext (p c h s : Int) : List UInt8 := num2 p ++ [47] ++ num2 c ++ [47] ++ num2 h ++ [47] ++ num2 s
/-- The text of a variant: empty where it is not valid. -/
def vt (p c h s : Int) : List UInt8 := if vB p c h s = true then vtext p c h s else []

theorem held4 {w W w2 : World} {g : Nat} {v0 v1 v2 v3 : Value} (hS : W.cell? ⟨g, 0, none⟩ = some v0 ∧ W.cell? ⟨g, 1, none⟩ = some v1 ∧ W.cell? ⟨g, 2, none⟩ = some v2 ∧ W.cell? ⟨g, 3, none⟩ = some v3 ∧ Below w.heap.size w W ∧ g < W.heap.size)
    (hb : Below W.heap.size W w2) : w2.cell? ⟨g, 0, none⟩ = some v0 ∧ w2.cell? ⟨g, 1, none⟩ = some v1 ∧ w2.cell? ⟨g, 2, none⟩ = some v2 ∧ w2.cell? ⟨g, 3, none⟩ = some v3 ∧ Below w.heap.size w w2 ∧ g < w2.heap.size := by
  obtain ⟨a, b, c, d, e, f⟩ := hS
  obtain ⟨hc, _⟩ := bcell hb
  exact ⟨by rw [hc _ _ f]; exact a, by rw [hc _ _ f]; exact b, by rw [hc _ _ f]; exact c, by rw [hc _ _ f]; exact d, chain e hb, Nat.lt_of_lt_of_le f hb.size⟩

theorem num2_len (n : Int) : (num2 n).length ≤ 2 := by unfold num2; split <;> simp
theorem vtext_spec (p c h s : Int) : (⟨(vtext p c h s).toArray⟩ : ByteArray) = ⟨(num2 p).toArray⟩ ++ ⟨#[47]⟩ ++ ⟨(num2 c).toArray⟩ ++ ⟨#[47]⟩ ++ ⟨(num2 h).toArray⟩ ++ ⟨#[47]⟩ ++ ⟨(num2 s).toArray⟩ := by
  apply ByteArray.ext
  simp [vtext, ByteArray.data_append]

theorem cat_run {a b : ByteArray} {m n : Nat} (ha : a.size ≤ m) (hb : b.size ≤ n) (h : m + n ≤ 1000000) :
    ∃ T : ByteArray, T = a ++ b ∧ T.size ≤ m + n ∧ ∀ W : World, (Op.stringOp .add a b).run Tryd.prog W = .ok (.string T) W :=
  ⟨a ++ b, rfl, by simp [ByteArray.size_append]; omega, fun W => run_string_add_sum W a b (by omega)⟩
theorem num2_str (n : Int) (h0 : 0 ≤ n) (h1 : n < 100) : ∃ T : ByteArray, T = ⟨(num2 n).toArray⟩ ∧ T.size ≤ 2 ∧ (∀ w : World, Calls Tryd.prog 9 #[.int .i64 n] w fun e w' => e = .returned (.string T) ∧ Below w.heap.size w w') :=
  ⟨_, rfl, num2_len n, fun w => l01Number_any n w h0 h1⟩

end Go.Proofs.YtcmfknkdfkchmaaDoor
