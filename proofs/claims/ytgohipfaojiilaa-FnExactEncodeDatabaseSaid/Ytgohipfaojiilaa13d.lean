/- Contracts of chapter 13: the model's compressed block. -/
import Derived.Test.Ytgohipfaojiilaa13b
import Derived.Deep.QuietTactic
namespace Go.Proofs.Ytgohipfaojiilaa
open Go.ChangeShapes Go.WideShapes Go.ChangeAt Go.RowKit
set_option linter.unusedVariables false
set_option linter.unusedSimpArgs false
set_option maxRecDepth 4000

theorem rnL_stop2 (ys : List Int) (n : Nat) (h : n ≤ 255) (h2 : ¬ (n < ys.length ∧ n < 255)) : rnL ys (255 - n) n = n := by
  by_cases g : n = 255
  · subst g; rfl
  · rw [show 255 - n = (254 - n) + 1 by omega, rnL, if_neg (fun q => h2 ⟨q.1, by omega⟩)]
/-- A slice of bytes of the call's own is handed back. -/
def B8.OwnGot (xs : List Int) (w : World) (e : Ending) (w' : World) : Prop :=
  ∃ v, e = .returned v ∧ B8.Own w' w.heap.size v xs ∧ Below w.heap.size w w'
/-- Two bytes appended: 'out = append(out, x, y)'. -/
theorem wp_push28 {ops : Array Oper} {rest : List Oper} {o : Oper} {a : Act} {Q : Exit → Act → World → Prop} (hgd : o.guard = none) (s x : Operand)
    (ho : o.op = .call { callee := .builtin .append, args := #[s, x], argTypes := #[28, 28] })
    (base : Nat) (v : Value) (D : List Int) (hs : a.eval s = v) {w0 : World} (hown : B8.Own w0 base v D) (u1 u2 : Int)
    (hx : a.eval x = .slice (some ⟨w0.heap.size, 0, none⟩) 2 2) (hl : D.length ≤ 10000000) (hbase : base ≤ w0.heap.size)
    (h : ∀ v' w', B8.Own w' base v' (D ++ [u1, u2]) → Below base w0 w' → wpList Try.prog ops Q rest (a.put o.dst v') w') : wpList Try.prog ops Q (o :: rest) a (w0.alloc (.cells #[.int .u8 u1, .int .u8 u2] 5)) := by
  refine wp_pushAll8 hgd s x ho base v D hs (hown.alloc _) w0.heap.size 0 [u1, u2] 2 2 hx rfl (B8.two_row w0 u1 u2) (by omega) (by simp; omega) ?_
  intro v' w' h1 h2 _
  exact h v' w' h1 (((Below.refl base w0).alloc hbase _).trans h2)
set_option maxRecDepth 8000 in
set_option maxHeartbeats 2000000 in
theorem l13Pack_any (a : Option Addr) (n cap : Nat) (bs : List Int) (w : World) (hn : bs.length = n) (hle : n ≤ 1048576) (h8 : Bys bs) (hr : B8.IRow w a bs) :
    Calls Try.prog 41 #[.slice a n cap] w (B8.OwnGot (pk bs) w) := by
  subst hn
  have HPL := Lib.hid (pk_len _ bs rfl)
  go_enter Try.func41, Try.ntmps41
  go_wp2
  go_loopg [3, 4] bs.length (fun m v i wr => ∃ (k : Nat) (D ys : List Int), bs.drop k = ys ∧ k ≤ bs.length ∧ m = bs.length - k ∧ i = .int .i64 k ∧ B8.Own wr w.heap.size v D ∧ D ++ pk ys = pk bs ∧ Below w.heap.size w wr)
  case atStart => exact ⟨0, [], bs, by simp, by omega, by omega, rfl, B8.Own.start w, by simp, (Below.refl _ _).alloc (Nat.le_refl _) _⟩
  case round =>
    obtain ⟨k, D, ys, hys, hk, hm, rfl, hO, hD, hbel⟩ := hrel
    have hyl : ys.length = bs.length - k := by rw [← hys, List.length_drop]
    by_cases hlt : k < bs.length
    · have hne : ys ≠ [] := by intro e; rw [e] at hyl; simp at hyl; omega
      have hD2 := hD
      rw [pk_step ys hne] at hD2
      have hr1 := rnA_bnd ys
      have hr2 := rnA_len ys hne
      have hR0 : rnL ys (255 - 1) 1 = rnA ys := rfl
      obtain ⟨R, hR⟩ : ∃ R, rnA ys = R := ⟨_, rfl⟩
      rw [hR] at hD2 hr1 hr2 hR0
      have hDl : D.length ≤ 10000000 := by
        have h1 := congrArg List.length hD2
        simp only [List.length_append, List.length_cons] at h1
        have := HPL.out
        omega
      have HDL := Lib.hid hDl
      have hg0 : ∀ j, ys.getD j 0 = bs.getD (k + j) 0 := fun j => by rw [← hys, getD_drop0]
      have HG := Lib.hid hg0
      have HYS := Lib.hid hys
      have hltI : (k : Int) < (bs.length : Int) := by omega
      have hleI : (bs.length : Int) ≤ 1048576 := by omega
      obtain ⟨X, hX⟩ : ∃ X, bs.getD k 0 = X := ⟨_, rfl⟩
      have HX := Lib.hid hX
      rw [show ys.getD 0 0 = X by rw [hg0, Nat.add_zero, hX]] at hD2
      have HD2 := Lib.hid hD2
      have hyl2 : ys.length ≤ bs.length - k ∧ bs.length - k ≤ ys.length := by omega
      have hkl := hlt
      clear hD hD2 hys hne hyl hDl hg0 hR hX
      obtain ⟨vA, vk, rfl⟩ := hO.form
      go_wp2_with fail
      go_loopg [5] 254 (fun m2 j wq => ∃ n : Nat, 1 ≤ n ∧ n ≤ ys.length ∧ n ≤ 255 ∧ m2 = 255 - n ∧ j = .int .i64 n ∧ rnL ys (255 - n) n = R ∧ Below wr.heap.size wr wq)
      case atStart => exact ⟨1, by omega, by omega, by omega, by omega, rfl, hR0, Below.refl _ _⟩
      case round =>
        obtain ⟨n, n1, n2, n3, hm2, rfl, hrn, hbq⟩ := hrel
        have hrq := (hr.below hbel).below hbq
        have n1I : (1 : Int) ≤ (n : Int) := by omega
        have n3I : (n : Int) ≤ 255 := by omega
        obtain ⟨b, o, rfl, hc0⟩ := hrq k hkl
        rw [HX.out] at hc0
        obtain ⟨K, hK⟩ : ∃ K : Nat, K = k + n := ⟨_, rfl⟩
        have wz : IntKind.i64.wrap ((k : Int) + (n : Int)) = (K : Int) := by rw [IntWalk.i64_in _ (by omega)]; omega
        have hKI : (0 : Int) ≤ (K : Int) := by omega
        by_cases c0 : K < bs.length
        · have c3 : (K : Int) < (bs.length : Int) := by omega
          obtain ⟨_, _, e, hcn⟩ := hrq K c0
          cases e
          obtain ⟨Y, hY⟩ : ∃ Y, bs.getD K 0 = Y := ⟨_, rfl⟩
          rw [hY] at hcn
          by_cases c1 : n < 255
          · have c5 : (n : Int) < 255 := by omega
            have hst : rnL ys (255 - n) n = if n < ys.length ∧ Y = X then rnL ys (255 - (n + 1)) (n + 1) else n := by
              rw [show 255 - n = (255 - (n + 1)) + 1 by omega, rnL, HG.out, HG.out, Nat.add_zero, HX.out, ← hK, hY]
            rw [hst] at hrn
            clear hst hY
            by_cases c4 : Y = X
            · subst c4
              rw [if_pos ⟨by omega, rfl⟩] at hrn
              have HRN := Lib.hid hrn
              have HK := Lib.hid hK
              clear hrn hK
              go_wp2_with fail
              go_quiet (fail)
              go_wp2
              go_roundg (255 - (n + 1))
              case measure => omega
              case rel => exact ⟨n + 1, by omega, by have := HK.out; omega, by omega, rfl, by go_num, HRN.out, below_drewN hbq _⟩
            · rw [if_neg (fun h => c4 h.2)] at hrn
              subst hrn
              have HK := Lib.hid hK
              clear hK
              go_wp2_with fail
              go_quiet (fail)
              have hbv := hbel.trans ((below_drewN hbq nq).mono hbel.size)
              have hOv := hO.kept (below_drewN hbq nq)
              clear hcn
              clear hbq hc0 hrq
              generalize wr.drewN nq = wv at *
              have hrv := hr.below hbv
              obtain ⟨_, _, e, hc0⟩ := hrv k hkl
              cases e
              rw [HX.out] at hc0
              have hsz := hbv.size
              have hwn : IntKind.u8.wrap (n : Int) = (n : Int) := IntWalk.u8_in _ (by omega)
              go_wp2_with (at_builtin; refine wp_push28 rfl (.tmp 36) (.tmp 43) rfl w.heap.size _ D rfl hOv (n : Int) X rfl HDL.out (by omega) ?_; intro v2 w6 hO6 hb6)
              go_roundg (bs.length - (k + n))
              case measure => omega
              case rel => exact ⟨k + n, D ++ [(n : Int), X], bs.drop (k + n), rfl, by omega, rfl, by rw [HK.out], hO6, by rw [← HD2.out, ← HYS.out, List.drop_drop]; simp, hbv.trans hb6⟩
          · have hst := rnL_stop2 ys n n3 (fun h => c1 h.2)
            rw [hst] at hrn
            subst hrn
            have c2 : decide ((n : Int) < 255) = false := decide_eq_false (by omega)
            clear hst hY
            have HK := Lib.hid hK
            clear hK
            go_wp2_with fail
            go_quiet (fail)
            have hbv := hbel.trans ((below_drewN hbq nq).mono hbel.size)
            have hOv := hO.kept (below_drewN hbq nq)
            clear hcn
            clear hbq hc0 hrq
            generalize wr.drewN nq = wv at *
            have hrv := hr.below hbv
            obtain ⟨_, _, e, hc0⟩ := hrv k hkl
            cases e
            rw [HX.out] at hc0
            have hsz := hbv.size
            have hwn : IntKind.u8.wrap (n : Int) = (n : Int) := IntWalk.u8_in _ (by omega)
            go_wp2_with (at_builtin; refine wp_push28 rfl (.tmp 36) (.tmp 43) rfl w.heap.size _ D rfl hOv (n : Int) X rfl HDL.out (by omega) ?_; intro v2 w6 hO6 hb6)
            go_roundg (bs.length - (k + n))
            case measure => omega
            case rel => exact ⟨k + n, D ++ [(n : Int), X], bs.drop (k + n), rfl, by omega, rfl, by rw [HK.out], hO6, by rw [← HD2.out, ← HYS.out, List.drop_drop]; simp, hbv.trans hb6⟩
        · have hst := rnL_stop2 ys n n3 (fun h => c0 (by omega))
          rw [hst] at hrn
          subst hrn
          have c2 : decide ((K : Int) < (bs.length : Int)) = false := decide_eq_false (by omega)
          clear hst
          have HK := Lib.hid hK
          clear hK
          go_wp2_with fail
          go_quiet (fail)
          have hbv := hbel.trans ((below_drewN hbq nq).mono hbel.size)
          have hOv := hO.kept (below_drewN hbq nq)
          clear hbq hc0 hrq
          generalize wr.drewN nq = wv at *
          have hrv := hr.below hbv
          obtain ⟨_, _, e, hc0⟩ := hrv k hkl
          cases e
          rw [HX.out] at hc0
          have hsz := hbv.size
          have hwn : IntKind.u8.wrap (n : Int) = (n : Int) := IntWalk.u8_in _ (by omega)
          go_wp2_with (at_builtin; refine wp_push28 rfl (.tmp 36) (.tmp 43) rfl w.heap.size _ D rfl hOv (n : Int) X rfl HDL.out (by omega) ?_; intro v2 w6 hO6 hb6)
          go_roundg (bs.length - (k + n))
          case measure => omega
          case rel => exact ⟨k + n, D ++ [(n : Int), X], bs.drop (k + n), rfl, by omega, rfl, by rw [HK.out], hO6, by rw [← HD2.out, ← HYS.out, List.drop_drop]; simp, hbv.trans hb6⟩
    · obtain rfl : k = bs.length := by omega
      have hys0 : ys = [] := List.eq_nil_of_length_eq_zero (by omega)
      subst hys0
      rw [pk_nil, List.append_nil] at hD
      subst hD
      obtain ⟨vA, vk, rfl⟩ := hO.form
      clear hyl
      go_wp2_with fail
      go_ret
      exact ⟨_, rfl, hO, hbel⟩
end Go.Proofs.Ytgohipfaojiilaa
