/- Contract of chapter 9: the number that the model reads. -/
import Derived.Test.YtjbcbcoaoplllaaDoorSpl
import Derived.Test.YtjbcbcoaoplllaaDoorM02
import Derived.Deep.LoopGhost
namespace Go.Proofs.YtjbcbcoaoplllaaDoor
open Go.ChangeShapes Go.WideShapes Go.ChangeAt Go.RowKit
set_option linter.unusedVariables false
set_option linter.unusedSimpArgs false

theorem drop_get0 (t : ByteArray) (k : Nat) (h : k < t.size) : t.data.toList.drop k = t[k] :: t.data.toList.drop (k + 1) := by
  rw [List.drop_eq_getElem_cons (by simpa using h)]; rfl
set_option maxRecDepth 8000 in
set_option maxHeartbeats 2000000 in
theorem l09Read_any (t : ByteArray) (w : World) (ht : t.size ≤ 1048576) :
    Calls Tryd.prog 38 #[.string t] w fun e w' => e = .returned (.int .i64 (rdV t.data.toList)) ∧ w = w' := by
  have hts : (t.size : Int) ≤ 1048576 := by omega
  obtain ⟨X, hX⟩ : ∃ X, rdV t.data.toList = X := ⟨_, rfl⟩
  rw [hX]
  by_cases h0 : 0 < t.size
  · have h0' : (0 : Int) < (t.size : Int) := by omega
    have hd0 := drop_get0 t 0 h0
    rw [List.drop_zero] at hd0
    by_cases hneg : t[0].toNat = 45
    · have e1 : ((t[0].toNat : Int) == 45) = true := by rw [beq_iff_eq]; omega
      have hv : rdV t.data.toList = -((rdGo 19 0 (t.data.toList.drop 1)).getD 0) := by
        rw [rdV, hd0, if_pos (by rw [List.head?_cons, show t[0] = 45 from UInt8.toNat_inj.1 hneg])]
        rfl
      rw [hv] at hX
      have HX := Lib.hid hX
      clear hX hv hd0
      go_enter Tryd.func38, Tryd.ntmps38
      go_wp2_with fail
      go_loopg [3, 5] 19 (fun m q i wr => w = wr ∧ ∃ (K : Nat) (N : Int), 1 ≤ K ∧ K ≤ 20 ∧ m = 20 - K ∧ i = .int .i64 K ∧ q = .int .i64 N ∧ 0 ≤ N ∧ N ≤ 1000000000000000009 ∧ rdGo (20 - K) N (t.data.toList.drop K) = rdGo 19 0 (t.data.toList.drop 1))
      case atStart => exact ⟨rfl, 1, 0, by omega, by omega, by omega, rfl, rfl, by omega, by omega, rfl⟩
      case round =>
        obtain ⟨rfl, K, N, hK0, hK1, hm, rfl, rfl, hN0, hN1, hgo⟩ := hrel
        have hKI : (0 : Int) ≤ (K : Int) := by omega
        by_cases hlt : K < t.size
        · have hlt' : (K : Int) < (t.size : Int) := by omega
          by_cases h19 : K < 20
          · have h19' : (K : Int) < 20 := by omega
            rw [drop_get0 t K hlt, show 20 - K = (20 - (K + 1)) + 1 by omega, rdGo] at hgo
            have hb255 : t[K].toNat ≤ 255 := by have := t[K].toNat_lt; omega
            have hI := fun W => l01In_any ((t[K].toNat : Int) - 48) 0 9 W
            have wz : IntKind.i64.wrap ((t[K].toNat : Int) - 48) = (t[K].toNat : Int) - 48 := IntWalk.i64_in _ (by omega)
            by_cases hd : 48 ≤ (t[K].toNat : Int) ∧ (t[K].toNat : Int) ≤ 57
            · rw [show inB ((t[K].toNat : Int) - 48) 0 9 = true from inB_iff.2 (by omega)] at hI
              by_cases hN : N ≤ 100000000000000000
              · rw [if_pos ⟨hd.1, hd.2, hN⟩] at hgo
                have hN' : ¬ 100000000000000000 < N := by omega
                have g1 := hd.1
                have g2 := hd.2
                have HI := Lib.hid hI
                have HGO := Lib.hid hgo
                clear hI hgo hd
                go_wp2_with (go_at_call 56; refine (HI.out _).mono ?_; rintro e wq ⟨rfl, rfl⟩)
                go_roundg (20 - (K + 1))
                case measure => omega
                case rel => exact ⟨rfl, K + 1, 10 * N + ((t[K].toNat : Int) - 48), by omega, by omega, rfl, by go_num, by go_num, by omega, by omega, HGO.out⟩
              · rw [if_neg (fun q => hN q.2.2)] at hgo
                have hN' : 100000000000000000 < N := by omega
                rw [← hgo] at HX
                have hX : X = 0 := by rw [← HX.out]; rfl
                subst hX
                have HI := Lib.hid hI
                clear hI hgo hd hN HX
                go_wp2_with (go_at_call 56; refine (HI.out _).mono ?_; rintro e wq ⟨rfl, rfl⟩)
                go_ret
                exact ⟨rfl, rfl⟩
            · rw [if_neg (fun q => hd ⟨q.1, q.2.1⟩)] at hgo
              rw [show inB ((t[K].toNat : Int) - 48) 0 9 = false by
                cases q : inB ((t[K].toNat : Int) - 48) 0 9 with
                | false => rfl
                | true => exact absurd (inB_iff.1 q) (by omega)] at hI
              rw [← hgo] at HX
              have hX : X = 0 := by rw [← HX.out]; rfl
              subst hX
              have HI := Lib.hid hI
              clear hI hgo hd HX
              go_wp2_with (go_at_call 56; refine (HI.out _).mono ?_; rintro e wq ⟨rfl, rfl⟩)
              go_ret
              exact ⟨rfl, rfl⟩
          · obtain rfl : K = 20 := by omega
            have hR : rdGo 19 0 (t.data.toList.drop 1) = some N := by
              rw [← hgo]
              rw [Nat.sub_self, rdGo]
            rw [hR] at HX
            have hX : X = -N := by rw [← HX.out]; rfl
            subst hX
            clear hgo HX hR
            go_wp2
            go_ret
            exact ⟨rfl, rfl⟩
        · have hlt' : ¬ (K : Int) < (t.size : Int) := by omega
          have hR : rdGo 19 0 (t.data.toList.drop 1) = some N := by
            rw [← hgo]
            rw [List.drop_of_length_le (by show t.size ≤ K; omega)]; cases 20 - K <;> rfl
          rw [hR] at HX
          have hX : X = -N := by rw [← HX.out]; rfl
          subst hX
          clear hgo HX hR
          go_wp2
          go_ret
          exact ⟨rfl, rfl⟩
    · have e1 : ((t[0].toNat : Int) == 45) = false := by rw [beq_eq_false_iff_ne]; omega
      have hv : rdV t.data.toList = (rdGo 19 0 (t.data.toList.drop 0)).getD 0 := by
        rw [rdV, if_neg, List.drop_zero]
        rw [hd0, List.head?_cons]
        intro q
        simp only [Option.some.injEq] at q
        rw [q] at hneg
        exact hneg rfl
      rw [hv] at hX
      have HX := Lib.hid hX
      clear hX hv hd0
      go_enter Tryd.func38, Tryd.ntmps38
      go_wp2_with fail
      go_loopg [3, 5] 19 (fun m q i wr => w = wr ∧ ∃ (K : Nat) (N : Int), 0 ≤ K ∧ K ≤ 19 ∧ m = 19 - K ∧ i = .int .i64 K ∧ q = .int .i64 N ∧ 0 ≤ N ∧ N ≤ 1000000000000000009 ∧ rdGo (19 - K) N (t.data.toList.drop K) = rdGo 19 0 (t.data.toList.drop 0))
      case atStart => exact ⟨rfl, 0, 0, by omega, by omega, by omega, rfl, rfl, by omega, by omega, rfl⟩
      case round =>
        obtain ⟨rfl, K, N, hK0, hK1, hm, rfl, rfl, hN0, hN1, hgo⟩ := hrel
        have hKI : (0 : Int) ≤ (K : Int) := by omega
        by_cases hlt : K < t.size
        · have hlt' : (K : Int) < (t.size : Int) := by omega
          by_cases h19 : K < 19
          · have h19' : (K : Int) < 19 := by omega
            rw [drop_get0 t K hlt, show 19 - K = (19 - (K + 1)) + 1 by omega, rdGo] at hgo
            have hb255 : t[K].toNat ≤ 255 := by have := t[K].toNat_lt; omega
            have hI := fun W => l01In_any ((t[K].toNat : Int) - 48) 0 9 W
            have wz : IntKind.i64.wrap ((t[K].toNat : Int) - 48) = (t[K].toNat : Int) - 48 := IntWalk.i64_in _ (by omega)
            by_cases hd : 48 ≤ (t[K].toNat : Int) ∧ (t[K].toNat : Int) ≤ 57
            · rw [show inB ((t[K].toNat : Int) - 48) 0 9 = true from inB_iff.2 (by omega)] at hI
              by_cases hN : N ≤ 100000000000000000
              · rw [if_pos ⟨hd.1, hd.2, hN⟩] at hgo
                have hN' : ¬ 100000000000000000 < N := by omega
                have g1 := hd.1
                have g2 := hd.2
                have HI := Lib.hid hI
                have HGO := Lib.hid hgo
                clear hI hgo hd
                go_wp2_with (go_at_call 56; refine (HI.out _).mono ?_; rintro e wq ⟨rfl, rfl⟩)
                go_roundg (19 - (K + 1))
                case measure => omega
                case rel => exact ⟨rfl, K + 1, 10 * N + ((t[K].toNat : Int) - 48), by omega, by omega, rfl, by go_num, by go_num, by omega, by omega, HGO.out⟩
              · rw [if_neg (fun q => hN q.2.2)] at hgo
                have hN' : 100000000000000000 < N := by omega
                rw [← hgo] at HX
                have hX : X = 0 := by rw [← HX.out]; rfl
                subst hX
                have HI := Lib.hid hI
                clear hI hgo hd hN HX
                go_wp2_with (go_at_call 56; refine (HI.out _).mono ?_; rintro e wq ⟨rfl, rfl⟩)
                go_ret
                exact ⟨rfl, rfl⟩
            · rw [if_neg (fun q => hd ⟨q.1, q.2.1⟩)] at hgo
              rw [show inB ((t[K].toNat : Int) - 48) 0 9 = false by
                cases q : inB ((t[K].toNat : Int) - 48) 0 9 with
                | false => rfl
                | true => exact absurd (inB_iff.1 q) (by omega)] at hI
              rw [← hgo] at HX
              have hX : X = 0 := by rw [← HX.out]; rfl
              subst hX
              have HI := Lib.hid hI
              clear hI hgo hd HX
              go_wp2_with (go_at_call 56; refine (HI.out _).mono ?_; rintro e wq ⟨rfl, rfl⟩)
              go_ret
              exact ⟨rfl, rfl⟩
          · obtain rfl : K = 19 := by omega
            have hR : rdGo 19 0 (t.data.toList.drop 0) = some N := by
              rw [← hgo]
              rw [Nat.sub_self, rdGo]
            rw [hR] at HX
            have hX : X = N := by rw [← HX.out]; rfl
            subst hX
            clear hgo HX hR
            go_wp2
            go_ret
            exact ⟨rfl, rfl⟩
        · have hlt' : ¬ (K : Int) < (t.size : Int) := by omega
          have hR : rdGo 19 0 (t.data.toList.drop 0) = some N := by
            rw [← hgo]
            rw [List.drop_of_length_le (by show t.size ≤ K; omega)]; cases 19 - K <;> rfl
          rw [hR] at HX
          have hX : X = N := by rw [← HX.out]; rfl
          subst hX
          clear hgo HX hR
          go_wp2
          go_ret
          exact ⟨rfl, rfl⟩
  · have h0' : ¬ (0 : Int) < (t.size : Int) := by omega
    have hz : t.data.toList = [] := List.eq_nil_of_length_eq_zero (by show t.size = 0; omega)
    have hv : rdV t.data.toList = (rdGo 19 0 (t.data.toList.drop 0)).getD 0 := by rw [hz]; rfl
    rw [hv] at hX
    have HX := Lib.hid hX
    clear hX hv hz
    go_enter Tryd.func38, Tryd.ntmps38
    go_wp2_with fail
    go_loopg [3, 5] 19 (fun m q i wr => w = wr ∧ ∃ (K : Nat) (N : Int), 0 ≤ K ∧ K ≤ 19 ∧ m = 19 - K ∧ i = .int .i64 K ∧ q = .int .i64 N ∧ 0 ≤ N ∧ N ≤ 1000000000000000009 ∧ rdGo (19 - K) N (t.data.toList.drop K) = rdGo 19 0 (t.data.toList.drop 0))
    case atStart => exact ⟨rfl, 0, 0, by omega, by omega, by omega, rfl, rfl, by omega, by omega, rfl⟩
    case round =>
      obtain ⟨rfl, K, N, hK0, hK1, hm, rfl, rfl, hN0, hN1, hgo⟩ := hrel
      have hKI : (0 : Int) ≤ (K : Int) := by omega
      by_cases hlt : K < t.size
      · exact absurd hlt (by omega)
      · have hlt' : ¬ (K : Int) < (t.size : Int) := by omega
        have hR : rdGo 19 0 (t.data.toList.drop 0) = some N := by
          rw [← hgo]
          rw [List.drop_of_length_le (by show t.size ≤ K; omega)]; cases 19 - K <;> rfl
        rw [hR] at HX
        have hX : X = N := by rw [← HX.out]; rfl
        subst hX
        clear hgo HX hR
        go_wp2 <;> (go_ret; exact ⟨rfl, rfl⟩)
end Go.Proofs.YtjbcbcoaoplllaaDoor
