/- Contracts of the model's functions of chapter 1 on words: the value of a word. -/
import Derived.Test.YthfhiggageejbaaDoorM01
import Derived.Outline
import Derived.WalkMore
import Derived.LoopTactic
namespace Go.Proofs.YthfhiggageejbaaDoor
open Go.ChangeShapes Go.WideShapes Go.ChangeAt Go.RowKit
set_option linter.unusedVariables false
set_option linter.unusedSimpArgs false

theorem digs_bound : ∀ (n : Nat) (l : List UInt8), l.length = n → l.all isDig = true → 0 ≤ digs l ∧ digs l < ((10 ^ n : Nat) : Int)
  | 0, l, h, _ => by
    obtain rfl := List.length_eq_zero_iff.1 h
    simp [digs]
  | n + 1, l, h, ha => by
    have hne : l ≠ [] := by rintro rfl; simp at h
    rw [← List.dropLast_concat_getLast hne] at ha ⊢
    rw [List.all_append, Bool.and_eq_true] at ha
    have hb := digs_bound n l.dropLast (by simp [h]) ha.1
    have hd : 48 ≤ (l.getLast hne).toNat ∧ (l.getLast hne).toNat ≤ 57 := by simpa [isDig] using ha.2
    rw [digs_snoc, Nat.pow_succ]
    omega
theorem digs_small {l : List UInt8} (h : l.length ≤ 14) (ha : l.all isDig = true) : 0 ≤ digs l ∧ digs l ≤ 99999999999999 := by
  have hb := digs_bound _ l rfl ha
  have hp : 10 ^ l.length ≤ 10 ^ 14 := Nat.pow_le_pow_right (by decide) h
  have : 10 ^ 14 = 100000000000000 := by decide
  omega
theorem take_snoc (t : ByteArray) (k : Nat) (h : k < t.size) : t.data.toList.take (k + 1) = t.data.toList.take k ++ [t[k]] := by
  rw [List.take_succ_eq_append_getElem (by simpa using h)]; rfl
theorem ret_two {k : IntKind} {a b : Int} {c : Bool} (h : a = b) : Ending.returned (.tuple #[.int k a, .bool c]) = .returned (.tuple #[.int k b, .bool c]) := by rw [h]

set_option maxHeartbeats 1000000 in
theorem value_any (t : ByteArray) (w : World) (ht : t.size ≤ maxLen) :
    Calls Tryd.prog 81 #[.string t] w fun e w' => e = .returned (.tuple #[.int .i64 (valL t.data.toList).1, .bool (valL t.data.toList).2]) ∧ w = w' := by
  unfold maxLen at ht
  have hlen : t.data.toList.length = t.size := by simp
  by_cases h0 : t.size = 0
  · have e0 : ((t.size : Int) == 0) = true := by simp [h0]
    have ev : valL t.data.toList = (0, false) := by rw [valL, if_pos (by omega)]
    rw [ev]
    clear ev h0
    go_enter Tryd.func81, Tryd.ntmps81
    go_wp2
    go_ret2
    exact ⟨rfl, rfl⟩
  · have e0 : ((t.size : Int) == 0) = false := by rw [beq_eq_false_iff_ne]; omega
    by_cases h15 : 15 < t.size
    · have ev : valL t.data.toList = (0, false) := by rw [valL, if_pos (by omega)]
      have e1 : decide (15 < (t.size : Int)) = true := by simp; omega
      rw [ev]
      clear ev
      go_enter Tryd.func81, Tryd.ntmps81
      go_wp2
      go_ret2
      exact ⟨rfl, rfl⟩
    · have e1 : decide (15 < (t.size : Int)) = false := by simp; omega
      have hp : 0 < t.size := by omega
      have hg : t.data.toList.getD 0 0 = t[0] := by
        rw [List.getD_eq_getElem?_getD, List.getElem?_eq_getElem (by omega)]
        rfl
      by_cases hz : 1 < t.size ∧ t[0].toNat = 48
      · obtain ⟨hz1, hz2⟩ := hz
        have ev : valL t.data.toList = (0, false) := by rw [valL, if_pos (by rw [hg]; omega)]
        have e2 : ((t[0].toNat : Int) == 48) = true := by simp [hz2]
        have e3 : decide (1 < (t.size : Int)) = true := by simp; omega
        rw [ev]
        clear ev hz2 hg
        go_enter Tryd.func81, Tryd.ntmps81
        go_wp2
        go_ret2
        exact ⟨rfl, rfl⟩
      · have ev : valL t.data.toList = if t.data.toList.all isDig then (digs t.data.toList, true) else (0, false) := by rw [valL, if_neg (by rw [hg]; omega)]
        rw [ev]
        clear ev
        obtain ⟨r, hr⟩ : ∃ r : Int × Bool, r = if t.data.toList.all isDig then (digs t.data.toList, true) else (0, false) := ⟨_, rfl⟩
        rw [← hr]
        have HR := Lib.hid hr
        clear hr
        obtain ⟨r1, r2⟩ := r
        have main : ∀ e3 : (decide (1 < (t.size : Int)) = false) ∨ ((decide (1 < (t.size : Int)) = true) ∧ ((t[0].toNat : Int) == 48) = false), Calls Tryd.prog 81 #[.string t] w fun e w' => e = .returned (.tuple #[.int .i64 r1, .bool r2]) ∧ w = w' := by
          clear hz hg
          intro e3
          have EH := Lib.hid hlen
          clear hlen
          rcases e3 with e3 | ⟨e3, e4⟩
          all_goals
            go_enter Tryd.func81, Tryd.ntmps81
            go_wp2
            go_loop [4, 5] (fun n i => ∃ k : Nat, k ≤ t.size ∧ i = .int .i64 k ∧ (t.data.toList.take k).all isDig = true ∧ n = .int .i64 (digs (t.data.toList.take k))) (fun _ i => t.size - (intOf i).toNat)
            case atStart => exact ⟨0, Nat.zero_le _, rfl, rfl, rfl⟩
            case round =>
              obtain ⟨k, hk, rfl, ha, rfl⟩ := hrel
              by_cases hlt : k < t.size
              · have hlt' : (k : Int) < (t.size : Int) := by omega
                have hb := digs_small (l := t.data.toList.take k) (by simp; omega) ha
                have hts := take_snoc t k hlt
                by_cases d1 : t[k].toNat < 48
                · have f1 : decide ((t[k].toNat : Int) < 48) = true := by simp; omega
                  have hno : t.data.toList.all isDig = false := by
                    rw [← List.take_append_drop (k + 1) t.data.toList, hts]
                    simp [isDig]
                    omega
                  have HN := Lib.hid hno
                  clear hts ha hno
                  go_wp2
                  go_ret2
                  have h := HR.out
                  rw [HN.out] at h
                  cases h
                  exact ⟨rfl, rfl⟩
                · have f1 : decide ((t[k].toNat : Int) < 48) = false := by simp; omega
                  by_cases d2 : 57 < t[k].toNat
                  · have f2 : decide (57 < (t[k].toNat : Int)) = true := by simp; omega
                    have hno : t.data.toList.all isDig = false := by
                      rw [← List.take_append_drop (k + 1) t.data.toList, hts]
                      simp [isDig]
                      omega
                    have HN := Lib.hid hno
                    clear hts ha hno
                    go_wp2
                    go_ret2
                    have h := HR.out
                    rw [HN.out] at h
                    cases h
                    exact ⟨rfl, rfl⟩
                  · have f2 : decide (57 < (t[k].toNat : Int)) = false := by simp; omega
                    have ha' : (t.data.toList.take (k + 1)).all isDig = true := by
                      rw [hts, List.all_append, ha]
                      simp [isDig]
                      omega
                    have hs : digs (t.data.toList.take (k + 1)) = 10 * digs (t.data.toList.take k) + ((t[k].toNat : Int) - 48) := by rw [hts, digs_snoc]
                    have g1 : (48 : Int) ≤ (t[k].toNat : Int) := by omega
                    have g2 : (t[k].toNat : Int) ≤ 57 := by omega
                    have HA := Lib.hid ha'
                    have HS := Lib.hid hs
                    clear hts ha ha' hs d1 d2
                    go_wp2
                    go_round
                    case rel => exact ⟨k + 1, by omega, by go_num, HA.out, by rw [HS.out]⟩
                    case measure => simp [intOf]; omega
              · have hall : t.data.toList.take k = t.data.toList := by rw [List.take_of_length_le]; have := EH.out; omega
                rw [hall] at ha ⊢
                have HA := Lib.hid ha
                clear hall ha
                go_wp2
                go_ret2
                have h := HR.out
                rw [HA.out] at h
                cases h
                exact ⟨rfl, rfl⟩
        by_cases h1 : 1 < t.size
        · exact main (.inr ⟨by simp; omega, by simp; omega⟩)
        · exact main (.inl (by simp; omega))
end Go.Proofs.YthfhiggageejbaaDoor
