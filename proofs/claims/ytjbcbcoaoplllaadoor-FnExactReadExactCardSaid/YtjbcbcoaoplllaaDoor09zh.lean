/- Mathematics of chapter 9: what the program reads of a number's text. -/
import Derived.Test.YtjbcbcoaoplllaaDoor09zf
import Derived.Lib.AtoiAllCases
import Derived.Lib.CutLaws
namespace Go.Proofs.YtjbcbcoaoplllaaDoor
open Go.ChangeShapes Go.WideShapes Go.ChangeAt Go.RowKit
set_option linter.unusedVariables false
set_option linter.unusedSimpArgs false

theorem pu_dec : ∀ (g k : Nat), k < g → k ≤ 1000000000000000000 → ∀ r : List UInt8, Lib.parseUint10 0 (Lib.decDigits k ++ r) = Lib.parseUint10 k r
  | 0, k, h, _ => by omega
  | g + 1, k, h, hk => by
    intro r
    have hd : (UInt8.ofNat (48 + k % 10)).toNat = 48 + k % 10 := by simp [UInt8.toNat_ofNat]; omega
    rw [dec_step k, List.append_assoc]
    have hq : Lib.parseUint10 0 (dPre (k / 10) ++ ([UInt8.ofNat (48 + k % 10)] ++ r)) = Lib.parseUint10 (k / 10) ([UInt8.ofNat (48 + k % 10)] ++ r) := by
      unfold dPre
      split
      · rename_i h0
        rw [h0]
        rfl
      · exact pu_dec g (k / 10) (by omega) (by omega) _
    rw [hq, List.singleton_append, Lib.parseUint10, hd, if_pos ⟨by omega, by omega⟩, if_neg (by omega), if_neg (by omega), show k / 10 * 10 + (48 + k % 10 - 48) = k by omega]
theorem mag_dec (k : Nat) (h : k ≤ 1000000000000000000) : Lib.parseMag (Lib.decDigits k) = .ok k := by
  have := pu_dec (k + 1) k (by omega) h []
  rw [List.append_nil] at this
  rw [Lib.parseMag, if_neg (dec_ne k), this]
  rfl
theorem prV_itoa {x : Int} (h0 : -1000000000000000000 ≤ x) (h1 : x ≤ 1000000000000000000) : prV (Lib.itoa x) = x := by
  have hp : Lib.parseIntB 64 (Lib.itoa x) = .ok x := by
    rw [Lib.parseIntB_64]
    unfold Lib.itoa
    split
    · rw [Lib.atoiAll_minus, mag_dec _ (by omega), Lib.signed, if_neg (by omega), show -((x.natAbs : Nat) : Int) = x by omega]
    · have hm := mag_dec x.toNat (by omega)
      cases q : Lib.decDigits x.toNat with
      | nil => exact absurd q (dec_ne _)
      | cons b r =>
        have hb := dec_bytes (x.toNat + 1) x.toNat (by omega) b (by rw [q]; simp)
        rw [q] at hm
        rw [Lib.atoiAll_plain b r (by omega) (by omega), hm, Lib.signless, if_neg (by omega), show ((x.toNat : Nat) : Int) = x by omega]
  rw [prV, hp]
/-- What the program reads as the number's digits. -/
theorem cut_text (S : Nat) (n d : Int) : (Lib.cut (xtL S n d) [47]).1 = Lib.itoa n := by
  unfold xtL
  by_cases h : d = 0
  · rw [if_pos h, Lib.cut, index_no 47 _ (no47 n), if_neg (by omega)]
  · rw [if_neg h, List.singleton_append, Lib.cut, index_one 47 _ _ (no47 n), if_pos (by omega)]
    simp
end Go.Proofs.YtjbcbcoaoplllaaDoor
