/- Contracts of the functions of chapter 1 that write a variant as a text: those of the program. -/
import Derived.Test.YtcmfknkdfkchmaaDoorL01t
import Derived.LoopN
import Derived.Test.YtcmfknkdfkchmaaDoorShelf
namespace Go.Proofs.YtcmfknkdfkchmaaDoor
open Go.ChangeShapes Go.WideShapes Go.ChangeAt Go.RowKit
set_option linter.unusedVariables false
set_option linter.unusedSimpArgs false

theorem num2_dec (k : Nat) (h : k < 100) : num2 (k : Int) = Lib.decDigits k := by
  rw [Lib.decDigits]
  by_cases g : k < 10
  · rw [dif_pos g, num2_lt (by omega)]
    congr 2
  · rw [dif_neg g, num2_ge (by omega), Lib.decDigits, dif_pos (by omega)]
    congr 2
theorem fmt_small (n : Int) (h0 : 0 ≤ n) (h1 : n < 100) (w : World) :
    Calls Tryd.prog 17 #[.int .i64 n, .int .i64 10] w fun e w' => e = .returned (.string ⟨(num2 n).toArray⟩) ∧ w = w' := by
  obtain ⟨k, rfl⟩ := Int.eq_ofNat_of_zero_le h0
  have hk : k < 100 := by omega
  refine (Tryd.strconv_FormatInt_10_small k hk w).mono ?_
  rintro e w' ⟨rfl, rfl⟩
  exact ⟨by rw [num2_dec k hk], rfl⟩
theorem fmt_str (n : Int) (h0 : 0 ≤ n) (h1 : n < 100) : ∃ T : ByteArray, T = ⟨(num2 n).toArray⟩ ∧ T.size ≤ 2 ∧ (∀ w : World, Calls Tryd.prog 17 #[.int .i64 n, .int .i64 10] w fun e w' => e = .returned (.string T) ∧ w = w') :=
  ⟨_, rfl, num2_len n, fun w => fmt_small n h0 h1 w⟩
theorem vtext_impl (p c h s : Int) : (⟨(vtext p c h s).toArray⟩ : ByteArray) = ⟨(num2 p).toArray⟩ ++ (⟨#[47]⟩ ++ ⟨(num2 c).toArray⟩) ++ (⟨#[47]⟩ ++ ⟨(num2 h).toArray⟩) ++ (⟨#[47]⟩ ++ ⟨(num2 s).toArray⟩) := by
  apply ByteArray.ext
  simp [vtext, ByteArray.data_append]

end Go.Proofs.YtcmfknkdfkchmaaDoor
