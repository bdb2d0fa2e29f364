/- Contract of the model's comparison of boards. -/
import Derived.Test.YtokjkcnjmfbfiaaM02
import Derived.Test.YtokjkcnjmfbfiaaBoardLaws
import Derived.BigQuiet
namespace Go.Proofs.Ytokjkcnjmfbfiaa
open Go.ChangeShapes Go.WideShapes Go.ChangeAt Go.RowKit
set_option linter.unusedVariables false
set_option linter.unusedSimpArgs false
set_option maxRecDepth 4000

set_option maxRecDepth 8000 in
set_option maxHeartbeats 1000000 in
theorem l05Same_any (a1 a2 b1 b2 : Option Addr) (n1 n2 m1 m2 c1 c2 d1 d2 : Nat) (xs ys us vs : List Int) (w : World) (h1 : xs.length = n1) (h2 : ys.length = n2) (h3 : us.length = m1) (h4 : vs.length = m2) (l1 : n1 ≤ 1048576) (l2 : n2 ≤ 1048576) (l3 : m1 ≤ 1048576) (l4 : m2 ≤ 1048576)
    (r1 : IRow w a1 xs) (r2 : IRow w a2 ys) (s1 : IRow w b1 us) (s2 : IRow w b2 vs) :
    Calls Try.prog 116 #[.agg #[.slice a1 n1 c1, .slice a2 n2 c2], .agg #[.slice b1 m1 d1, .slice b2 m2 d2]] w fun e w' => e = .returned (.bool (decide (xs = us ∧ ys = vs))) ∧ Below w.heap.size w w' := by
  obtain ⟨Q, hQ⟩ : ∃ Q, decide (xs = us ∧ ys = vs) = Q := ⟨_, rfl⟩
  rw [hQ]
  have HQ := Lib.hid hQ
  clear hQ
  obtain ⟨BA, BB, hb, hz⟩ := two_new w #[.slice a1 n1 c1, .slice a2 n2 c2] #[.slice b1 m1 d1, .slice b2 m2 d2] 34 34
  clear hz
  obtain ⟨x0, x1, xf, xl⟩ := BA.two
  obtain ⟨y0, y1, yf, yl⟩ := BB.two
  by_cases e1 : m1 = n1
  · subst e1
    by_cases e2 : m2 = n2
    · subst e2
      go_enter Try.func116, Try.ntmps116
      go_wp2_with fail
      replace r1 := r1.below hb
      replace r2 := r2.below hb
      replace s1 := s1.below hb
      replace s2 := s2.below hb
      clear x0 x1 xf xl y0 y1 yf yl
      generalize ((w.alloc (.cells #[.slice a1 m1 c1, .slice a2 m2 c2] 34)).alloc (.cells #[.slice b1 m1 d1, .slice b2 m2 d2] 34)) = v0 at *
      go_loopg [5] m1 (fun m i wr => ∃ k : Nat, k ≤ m1 ∧ m = m1 - k ∧ i = .int .i64 k ∧ (∀ j, j < k → xs.getD j 0 = us.getD j 0) ∧ Below v0.heap.size v0 wr)
      case atStart => exact ⟨0, by omega, by omega, rfl, fun j hj => by omega, Below.refl _ _⟩
      case round =>
        obtain ⟨k, hk, hm, rfl, hsm, hbel⟩ := hrel
        obtain ⟨x0, x1, xf, xl⟩ := (BA.below hbel).two
        obtain ⟨y0, y1, yf, yl⟩ := (BB.below hbel).two
        by_cases hlt : k < m1
        · have hlt' : (k : Int) < (m1 : Int) := by omega
          have hk0 : (0 : Int) ≤ (k : Int) := by omega
          obtain ⟨p1, o1, rfl, hc1⟩ := (r1.below hbel) k (by omega)
          obtain ⟨p2, o2, rfl, hc2⟩ := (s1.below hbel) k (by omega)
          obtain ⟨v1, hv1⟩ : ∃ v, xs.getD k 0 = v := ⟨_, rfl⟩
          obtain ⟨v2, hv2⟩ : ∃ v, us.getD k 0 = v := ⟨_, rfl⟩
          rw [hv1] at hc1
          rw [hv2] at hc2
          by_cases e : v1 = v2
          · subst e
            have HSM := Lib.hid hsm
            have HV1 := Lib.hid hv1
            have HV2 := Lib.hid hv2
            clear hsm hv1 hv2
            go_wp2_with fail
            go_quiet (fail)
            go_wp2
            go_roundg (m1 - (k + 1))
            case measure => omega
            case rel => exact ⟨k + 1, by omega, rfl, by go_num, fun j hj => by
              by_cases h : j = k
              · subst h; exact HV1.out.trans HV2.out.symm
              · exact HSM.out j (by omega), below_drewN hbel _⟩
          · have fe : (v1 != v2) = true := by rw [bne_iff_ne]; exact e
            have fe2 : (v1 == v2) = false := by rw [beq_eq_false_iff_ne]; exact e
            have hQ : Q = false := by
              rw [← HQ.out, decide_eq_false_iff_not]
              rintro ⟨rfl, rfl⟩
              exact e (hv1.symm.trans hv2)
            subst hQ
            clear hsm hv1 hv2
            go_wp2_with fail
            go_quiet (fail)
            go_wp2
            go_ret
            exact ⟨rfl, chain hb (below_drewN hbel _)⟩
        · obtain rfl : k = m1 := by omega
          have heq : xs = us := ext_getD (by omega) (fun j => by
            by_cases hj : j < xs.length
            · exact hsm j (by omega)
            · rw [getD_out (by omega), getD_out (by omega)])
          clear hsm
          have HEQ := Lib.hid heq
          clear heq
          go_wp2_with fail
          go_loopg [6] m2 (fun m i wr => ∃ k : Nat, k ≤ m2 ∧ m = m2 - k ∧ i = .int .i64 k ∧ (∀ j, j < k → ys.getD j 0 = vs.getD j 0) ∧ Below v0.heap.size v0 wr)
          case atStart => exact ⟨0, by omega, by omega, rfl, fun j hj => by omega, hbel⟩
          case round =>
            obtain ⟨k, hk, hm, rfl, hsm, hbel⟩ := hrel
            obtain ⟨x0, x1, xf, xl⟩ := (BA.below hbel).two
            obtain ⟨y0, y1, yf, yl⟩ := (BB.below hbel).two
            by_cases hlt : k < m2
            · have hlt' : (k : Int) < (m2 : Int) := by omega
              have hk0 : (0 : Int) ≤ (k : Int) := by omega
              obtain ⟨p1, o1, rfl, hc1⟩ := (r2.below hbel) k (by omega)
              obtain ⟨p2, o2, rfl, hc2⟩ := (s2.below hbel) k (by omega)
              obtain ⟨v1, hv1⟩ : ∃ v, ys.getD k 0 = v := ⟨_, rfl⟩
              obtain ⟨v2, hv2⟩ : ∃ v, vs.getD k 0 = v := ⟨_, rfl⟩
              rw [hv1] at hc1
              rw [hv2] at hc2
              by_cases e : v1 = v2
              · subst e
                have HSM := Lib.hid hsm
                have HV1 := Lib.hid hv1
                have HV2 := Lib.hid hv2
                clear hsm hv1 hv2
                go_wp2_with fail
                go_quiet (fail)
                go_wp2
                go_roundg (m2 - (k + 1))
                case measure => omega
                case rel => exact ⟨k + 1, by omega, rfl, by go_num, fun j hj => by
                  by_cases h : j = k
                  · subst h; exact HV1.out.trans HV2.out.symm
                  · exact HSM.out j (by omega), below_drewN hbel _⟩
              · have fe : (v1 != v2) = true := by rw [bne_iff_ne]; exact e
                have fe2 : (v1 == v2) = false := by rw [beq_eq_false_iff_ne]; exact e
                have hQ : Q = false := by
                  rw [← HQ.out, decide_eq_false_iff_not]
                  rintro ⟨rfl, rfl⟩
                  exact e (hv1.symm.trans hv2)
                subst hQ
                clear hsm hv1 hv2
                go_wp2_with fail
                go_quiet (fail)
                go_wp2
                go_ret
                exact ⟨rfl, chain hb (below_drewN hbel _)⟩
            · obtain rfl : k = m2 := by omega
              have heq : ys = vs := ext_getD (by omega) (fun j => by
                by_cases hj : j < ys.length
                · exact hsm j (by omega)
                · rw [getD_out (by omega), getD_out (by omega)])
              clear hsm
              have hQ : Q = true := by
                rw [← HQ.out, decide_eq_true_eq]
                exact ⟨HEQ.out, heq⟩
              subst hQ
              clear heq
              go_wp2
              go_ret
              exact ⟨rfl, chain hb hbel⟩
    · have hQ : Q = false := by
        rw [← HQ.out, decide_eq_false_iff_not]
        rintro ⟨rfl, rfl⟩
        omega
      subst hQ
      have f1 : ((n2 : Int) != (m2 : Int)) = true := by rw [bne_iff_ne]; omega
      have f2 : ((n2 : Int) == (m2 : Int)) = false := by rw [beq_eq_false_iff_ne]; omega
      go_enter Try.func116, Try.ntmps116
      go_wp2
      go_ret
      exact ⟨rfl, hb⟩
  · have hQ : Q = false := by
      rw [← HQ.out, decide_eq_false_iff_not]
      rintro ⟨rfl, rfl⟩
      omega
    subst hQ
    have f1 : ((n1 : Int) != (m1 : Int)) = true := by rw [bne_iff_ne]; omega
    have f2 : ((n1 : Int) == (m1 : Int)) = false := by rw [beq_eq_false_iff_ne]; omega
    go_enter Try.func116, Try.ntmps116
    go_wp2
    go_ret
    exact ⟨rfl, hb⟩
end Go.Proofs.Ytokjkcnjmfbfiaa
