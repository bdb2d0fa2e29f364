/- Contracts of the functions of chapter 1 that read a variant from a text: the program's scan. -/
import Derived.Test.YtlbmknmihofloaaDoorM01
import Derived.Test.YtlbmknmihofloaaDoorL01u
import Derived.Deep.LoopGhost
import Derived.Outline
import Derived.WalkMore
namespace Go.Proofs.YtlbmknmihofloaaDoor
open Go.ChangeShapes Go.WideShapes Go.ChangeAt Go.RowKit
set_option linter.unusedVariables false
set_option linter.unusedSimpArgs false

theorem scan_next47 {b : UInt8} {r : List UInt8} {c : Nat} {fs F : List Int} (h : scanL (b :: r) c fs = F) (hb : b.toNat = 47) (hc : c < 3) : scanL r (c + 1) fs = F := by
  rw [scanL, if_pos ⟨hb, hc⟩] at h; exact h
theorem scan_nextd {b : UInt8} {r : List UInt8} {c : Nat} {fs F : List Int} (h : scanL (b :: r) c fs = F) (h1 : 48 ≤ b.toNat) (h2 : b.toNat ≤ 57) (hf : fs.getD c 0 ≤ 24) : scanL r c (fs.set c (10 * fs.getD c 0 + (b.toNat - 48 : Int))) = F := by
  rw [scanL, if_neg (by omega), if_pos ⟨h1, h2, hf⟩] at h; exact h
theorem scan_stop {b : UInt8} {r : List UInt8} {c : Nat} {fs F : List Int} (h : scanL (b :: r) c fs = F) (h1 : ¬ (b.toNat = 47 ∧ c < 3)) (h2 : ¬ (48 ≤ b.toNat ∧ b.toNat ≤ 57 ∧ fs.getD c 0 ≤ 24)) : fs = F := by
  rw [scanL, if_neg h1, if_neg h2] at h; exact h
theorem drop_get (t : ByteArray) (k : Nat) (h : k < t.size) : t.data.toList.drop k = t[k] :: t.data.toList.drop (k + 1) := by
  rw [List.drop_eq_getElem_cons (by simpa using h)]; rfl

/-- The state of the scan: what stands at a round's head. -/
def scanAt (t : ByteArray) (F : List Int) (w : World) (g : Nat) (cur i : Value) (wr : World) : Prop :=
  ∃ (k c : Nat) (a0 a1 a2 a3 : Int), k ≤ t.size ∧ g = t.size - k ∧ i = .int .i64 k ∧ cur = .int .i64 c ∧ c ≤ 3 ∧ (0 ≤ a0 ∧ a0 ≤ 249) ∧ (0 ≤ a1 ∧ a1 ≤ 249) ∧ (0 ≤ a2 ∧ a2 ≤ 249) ∧ (0 ≤ a3 ∧ a3 ≤ 249) ∧
    wr = (w.alloc (.cells #[.int .i64 0, .int .i64 0, .int .i64 0, .int .i64 0] 25)).alloc (.cells #[.int .i64 a0, .int .i64 a1, .int .i64 a2, .int .i64 a3] 57) ∧
    scanL (t.data.toList.drop k) c [a0, a1, a2, a3] = F

set_option maxHeartbeats 2000000 in
theorem scan_any (t : ByteArray) (w : World) (ht : t.size ≤ maxLen) (F : List Int) (hF : scanL t.data.toList 0 [0, 0, 0, 0] = F) :
    Calls Tryd.prog 23 #[.string t] w fun e w' => e = .returned (.agg #[.int .i64 (F.getD 0 0), .int .i64 (F.getD 1 0), .int .i64 (F.getD 2 0), .int .i64 (F.getD 3 0)]) ∧ Below w.heap.size w w' := by
  unfold maxLen at ht
  have HF := Lib.hid hF
  clear hF
  go_enter Tryd.func23, Tryd.ntmps23
  go_wp2
  go_step3
  go_wp2
  go_step3
  go_wp2
  go_loopg [4, 9] t.size (fun g cur i wr => scanAt t F w g cur i wr)
  case atStart => exact ⟨0, 0, 0, 0, 0, 0, Nat.zero_le _, by omega, rfl, rfl, by omega, by omega, by omega, by omega, by omega, rfl, HF.out⟩
  case round =>
    clear HF
    obtain ⟨k, c, a0, a1, a2, a3, hk, hg, rfl, rfl, hc, b0, b1, b2, b3, rfl, hS⟩ := hrel
    by_cases hlt : k < t.size
    · rw [drop_get t k hlt] at hS
      have hlt' : (k : Int) < (t.size : Int) := by omega
      rcases (by omega : c = 0 ∨ c = 1 ∨ c = 2 ∨ c = 3) with rfl | rfl | rfl | rfl
      · by_cases e47 : t[k].toNat = 47
        · have f1 : ((t[k].toNat : Int) == 47) = true := by simp [e47]
          have HS := Lib.hid (scan_next47 hS e47 (by omega))
          clear hS e47
          go_wp2
          go_roundg (t.size - (k + 1))
          case measure => omega
          case rel => exact ⟨k + 1, 1, a0, a1, a2, a3, by omega, by omega, by go_num, rfl, by omega, b0, b1, b2, b3, rfl, HS.out⟩
        · have f1 : ((t[k].toNat : Int) == 47) = false := by simp; omega
          by_cases h48 : 48 ≤ t[k].toNat
          · have f2 : decide ((48 : Int) ≤ (t[k].toNat : Int)) = true := by simp; omega
            have g2 : (48 : Int) ≤ (t[k].toNat : Int) := by omega
            by_cases h57 : t[k].toNat ≤ 57
            · have f3 : decide ((t[k].toNat : Int) ≤ 57) = true := by simp; omega
              have g3 : (t[k].toNat : Int) ≤ 57 := by omega
              by_cases h24 : a0 ≤ 24
              · have HS := Lib.hid (scan_nextd hS h48 h57 (by simpa using h24))
                clear hS e47 h48 h57
                go_wp2
                go_roundg (t.size - (k + 1))
                case measure => omega
                case rel => exact ⟨k + 1, 0, 10 * a0 + ((t[k].toNat : Int) - 48), a1, a2, a3, by omega, by omega, by go_num, rfl, by omega, by omega, by omega, by omega, by omega, rfl, HS.out⟩
              · have HF := scan_stop hS (by omega) (by simp; omega)
                have f4 : decide (a0 ≤ 24) = false := by simp; omega
                clear hS e47 h48 h57
                go_wp2
                subst HF
                (try rw [Exit.noGoto_ret])
                refine bodyPost_ret (v := .agg #[.int .i64 a0, .int .i64 a1, .int .i64 a2, .int .i64 a3]) (by simp [results, Tryd.results23, go_sem]) rfl ⟨rfl, ?_⟩
                exact ((Below.refl _ _).alloc (Nat.le_refl _) _).alloc (by simp) _
            · have f3 : decide ((t[k].toNat : Int) ≤ 57) = false := by simp; omega
              have HF := scan_stop hS (by omega) (by omega)
              clear hS e47 h48 h57
              go_wp2
              subst HF
              (try rw [Exit.noGoto_ret])
              refine bodyPost_ret (v := .agg #[.int .i64 a0, .int .i64 a1, .int .i64 a2, .int .i64 a3]) (by simp [results, Tryd.results23, go_sem]) rfl ⟨rfl, ?_⟩
              exact ((Below.refl _ _).alloc (Nat.le_refl _) _).alloc (by simp) _
          · have f2 : decide ((48 : Int) ≤ (t[k].toNat : Int)) = false := by simp; omega
            have HF := scan_stop hS (by omega) (by omega)
            clear hS e47 h48
            go_wp2
            subst HF
            (try rw [Exit.noGoto_ret])
            refine bodyPost_ret (v := .agg #[.int .i64 a0, .int .i64 a1, .int .i64 a2, .int .i64 a3]) (by simp [results, Tryd.results23, go_sem]) rfl ⟨rfl, ?_⟩
            exact ((Below.refl _ _).alloc (Nat.le_refl _) _).alloc (by simp) _
      · by_cases e47 : t[k].toNat = 47
        · have f1 : ((t[k].toNat : Int) == 47) = true := by simp [e47]
          have HS := Lib.hid (scan_next47 hS e47 (by omega))
          clear hS e47
          go_wp2
          go_roundg (t.size - (k + 1))
          case measure => omega
          case rel => exact ⟨k + 1, 2, a0, a1, a2, a3, by omega, by omega, by go_num, rfl, by omega, b0, b1, b2, b3, rfl, HS.out⟩
        · have f1 : ((t[k].toNat : Int) == 47) = false := by simp; omega
          by_cases h48 : 48 ≤ t[k].toNat
          · have f2 : decide ((48 : Int) ≤ (t[k].toNat : Int)) = true := by simp; omega
            have g2 : (48 : Int) ≤ (t[k].toNat : Int) := by omega
            by_cases h57 : t[k].toNat ≤ 57
            · have f3 : decide ((t[k].toNat : Int) ≤ 57) = true := by simp; omega
              have g3 : (t[k].toNat : Int) ≤ 57 := by omega
              by_cases h24 : a1 ≤ 24
              · have HS := Lib.hid (scan_nextd hS h48 h57 (by simpa using h24))
                clear hS e47 h48 h57
                go_wp2
                go_roundg (t.size - (k + 1))
                case measure => omega
                case rel => exact ⟨k + 1, 1, a0, 10 * a1 + ((t[k].toNat : Int) - 48), a2, a3, by omega, by omega, by go_num, rfl, by omega, by omega, by omega, by omega, by omega, rfl, HS.out⟩
              · have HF := scan_stop hS (by omega) (by simp; omega)
                have f4 : decide (a1 ≤ 24) = false := by simp; omega
                clear hS e47 h48 h57
                go_wp2
                subst HF
                (try rw [Exit.noGoto_ret])
                refine bodyPost_ret (v := .agg #[.int .i64 a0, .int .i64 a1, .int .i64 a2, .int .i64 a3]) (by simp [results, Tryd.results23, go_sem]) rfl ⟨rfl, ?_⟩
                exact ((Below.refl _ _).alloc (Nat.le_refl _) _).alloc (by simp) _
            · have f3 : decide ((t[k].toNat : Int) ≤ 57) = false := by simp; omega
              have HF := scan_stop hS (by omega) (by omega)
              clear hS e47 h48 h57
              go_wp2
              subst HF
              (try rw [Exit.noGoto_ret])
              refine bodyPost_ret (v := .agg #[.int .i64 a0, .int .i64 a1, .int .i64 a2, .int .i64 a3]) (by simp [results, Tryd.results23, go_sem]) rfl ⟨rfl, ?_⟩
              exact ((Below.refl _ _).alloc (Nat.le_refl _) _).alloc (by simp) _
          · have f2 : decide ((48 : Int) ≤ (t[k].toNat : Int)) = false := by simp; omega
            have HF := scan_stop hS (by omega) (by omega)
            clear hS e47 h48
            go_wp2
            subst HF
            (try rw [Exit.noGoto_ret])
            refine bodyPost_ret (v := .agg #[.int .i64 a0, .int .i64 a1, .int .i64 a2, .int .i64 a3]) (by simp [results, Tryd.results23, go_sem]) rfl ⟨rfl, ?_⟩
            exact ((Below.refl _ _).alloc (Nat.le_refl _) _).alloc (by simp) _
      · by_cases e47 : t[k].toNat = 47
        · have f1 : ((t[k].toNat : Int) == 47) = true := by simp [e47]
          have HS := Lib.hid (scan_next47 hS e47 (by omega))
          clear hS e47
          go_wp2
          go_roundg (t.size - (k + 1))
          case measure => omega
          case rel => exact ⟨k + 1, 3, a0, a1, a2, a3, by omega, by omega, by go_num, rfl, by omega, b0, b1, b2, b3, rfl, HS.out⟩
        · have f1 : ((t[k].toNat : Int) == 47) = false := by simp; omega
          by_cases h48 : 48 ≤ t[k].toNat
          · have f2 : decide ((48 : Int) ≤ (t[k].toNat : Int)) = true := by simp; omega
            have g2 : (48 : Int) ≤ (t[k].toNat : Int) := by omega
            by_cases h57 : t[k].toNat ≤ 57
            · have f3 : decide ((t[k].toNat : Int) ≤ 57) = true := by simp; omega
              have g3 : (t[k].toNat : Int) ≤ 57 := by omega
              by_cases h24 : a2 ≤ 24
              · have HS := Lib.hid (scan_nextd hS h48 h57 (by simpa using h24))
                clear hS e47 h48 h57
                go_wp2
                go_roundg (t.size - (k + 1))
                case measure => omega
                case rel => exact ⟨k + 1, 2, a0, a1, 10 * a2 + ((t[k].toNat : Int) - 48), a3, by omega, by omega, by go_num, rfl, by omega, by omega, by omega, by omega, by omega, rfl, HS.out⟩
              · have HF := scan_stop hS (by omega) (by simp; omega)
                have f4 : decide (a2 ≤ 24) = false := by simp; omega
                clear hS e47 h48 h57
                go_wp2
                subst HF
                (try rw [Exit.noGoto_ret])
                refine bodyPost_ret (v := .agg #[.int .i64 a0, .int .i64 a1, .int .i64 a2, .int .i64 a3]) (by simp [results, Tryd.results23, go_sem]) rfl ⟨rfl, ?_⟩
                exact ((Below.refl _ _).alloc (Nat.le_refl _) _).alloc (by simp) _
            · have f3 : decide ((t[k].toNat : Int) ≤ 57) = false := by simp; omega
              have HF := scan_stop hS (by omega) (by omega)
              clear hS e47 h48 h57
              go_wp2
              subst HF
              (try rw [Exit.noGoto_ret])
              refine bodyPost_ret (v := .agg #[.int .i64 a0, .int .i64 a1, .int .i64 a2, .int .i64 a3]) (by simp [results, Tryd.results23, go_sem]) rfl ⟨rfl, ?_⟩
              exact ((Below.refl _ _).alloc (Nat.le_refl _) _).alloc (by simp) _
          · have f2 : decide ((48 : Int) ≤ (t[k].toNat : Int)) = false := by simp; omega
            have HF := scan_stop hS (by omega) (by omega)
            clear hS e47 h48
            go_wp2
            subst HF
            (try rw [Exit.noGoto_ret])
            refine bodyPost_ret (v := .agg #[.int .i64 a0, .int .i64 a1, .int .i64 a2, .int .i64 a3]) (by simp [results, Tryd.results23, go_sem]) rfl ⟨rfl, ?_⟩
            exact ((Below.refl _ _).alloc (Nat.le_refl _) _).alloc (by simp) _
      · by_cases e47 : t[k].toNat = 47
        · have f1 : ((t[k].toNat : Int) == 47) = true := by simp [e47]
          have f2 : decide ((48 : Int) ≤ (t[k].toNat : Int)) = false := by simp; omega
          have HF := scan_stop hS (by omega) (by omega)
          clear hS e47
          go_wp2
          subst HF
          (try rw [Exit.noGoto_ret])
          refine bodyPost_ret (v := .agg #[.int .i64 a0, .int .i64 a1, .int .i64 a2, .int .i64 a3]) (by simp [results, Tryd.results23, go_sem]) rfl ⟨rfl, ?_⟩
          exact ((Below.refl _ _).alloc (Nat.le_refl _) _).alloc (by simp) _
        · have f1 : ((t[k].toNat : Int) == 47) = false := by simp; omega
          by_cases h48 : 48 ≤ t[k].toNat
          · have f2 : decide ((48 : Int) ≤ (t[k].toNat : Int)) = true := by simp; omega
            have g2 : (48 : Int) ≤ (t[k].toNat : Int) := by omega
            by_cases h57 : t[k].toNat ≤ 57
            · have f3 : decide ((t[k].toNat : Int) ≤ 57) = true := by simp; omega
              have g3 : (t[k].toNat : Int) ≤ 57 := by omega
              by_cases h24 : a3 ≤ 24
              · have HS := Lib.hid (scan_nextd hS h48 h57 (by simpa using h24))
                clear hS e47 h48 h57
                go_wp2
                go_roundg (t.size - (k + 1))
                case measure => omega
                case rel => exact ⟨k + 1, 3, a0, a1, a2, 10 * a3 + ((t[k].toNat : Int) - 48), by omega, by omega, by go_num, rfl, by omega, by omega, by omega, by omega, by omega, rfl, HS.out⟩
              · have HF := scan_stop hS (by omega) (by simp; omega)
                have f4 : decide (a3 ≤ 24) = false := by simp; omega
                clear hS e47 h48 h57
                go_wp2
                subst HF
                (try rw [Exit.noGoto_ret])
                refine bodyPost_ret (v := .agg #[.int .i64 a0, .int .i64 a1, .int .i64 a2, .int .i64 a3]) (by simp [results, Tryd.results23, go_sem]) rfl ⟨rfl, ?_⟩
                exact ((Below.refl _ _).alloc (Nat.le_refl _) _).alloc (by simp) _
            · have f3 : decide ((t[k].toNat : Int) ≤ 57) = false := by simp; omega
              have HF := scan_stop hS (by omega) (by omega)
              clear hS e47 h48 h57
              go_wp2
              subst HF
              (try rw [Exit.noGoto_ret])
              refine bodyPost_ret (v := .agg #[.int .i64 a0, .int .i64 a1, .int .i64 a2, .int .i64 a3]) (by simp [results, Tryd.results23, go_sem]) rfl ⟨rfl, ?_⟩
              exact ((Below.refl _ _).alloc (Nat.le_refl _) _).alloc (by simp) _
          · have f2 : decide ((48 : Int) ≤ (t[k].toNat : Int)) = false := by simp; omega
            have HF := scan_stop hS (by omega) (by omega)
            clear hS e47 h48
            go_wp2
            subst HF
            (try rw [Exit.noGoto_ret])
            refine bodyPost_ret (v := .agg #[.int .i64 a0, .int .i64 a1, .int .i64 a2, .int .i64 a3]) (by simp [results, Tryd.results23, go_sem]) rfl ⟨rfl, ?_⟩
            exact ((Below.refl _ _).alloc (Nat.le_refl _) _).alloc (by simp) _
    · have hk' : k = t.size := by omega
      have HF : [a0, a1, a2, a3] = F := by
        rw [hk', List.drop_of_length_le (by simp)] at hS
        simpa [scanL] using hS
      clear hS hk'
      go_wp2
      subst HF
      (try rw [Exit.noGoto_ret])
      refine bodyPost_ret (v := .agg #[.int .i64 a0, .int .i64 a1, .int .i64 a2, .int .i64 a3]) (by simp [results, Tryd.results23, go_sem]) rfl ⟨rfl, ?_⟩
      exact ((Below.refl _ _).alloc (Nat.le_refl _) _).alloc (by simp) _
end Go.Proofs.YtlbmknmihofloaaDoor
