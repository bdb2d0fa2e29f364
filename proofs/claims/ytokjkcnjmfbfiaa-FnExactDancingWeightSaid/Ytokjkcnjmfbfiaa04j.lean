/- Contracts of the model's list of legal steps and of its test of a step. -/
import Derived.Test.Ytokjkcnjmfbfiaa04i
import Derived.Test.Ytokjkcnjmfbfiaa04e
import Derived.Test.Ytokjkcnjmfbfiaa04f
namespace Go.Proofs.Ytokjkcnjmfbfiaa
open Go.ChangeShapes Go.WideShapes Go.ChangeAt Go.RowKit
set_option linter.unusedVariables false
set_option linter.unusedSimpArgs false
set_option maxRecDepth 4000

/-- The model's legal steps from the places below k. -/
def legToS (P : Nat) (h : Int) (xs ys : List Int) (d : Int) : Nat → List Stp
  | 0 => []
  | k + 1 => (stepS P h xs ys k d).toList ++ legToS P h xs ys d k
theorem legToS_over {P : Nat} {h : Int} {xs ys : List Int} {d : Int} (g : overB xs ys = true) : ∀ k, legToS P h xs ys d k = []
  | 0 => rfl
  | k + 1 => by rw [legToS, legToS_over g k, stepS, if_pos g]; rfl
theorem legToS_not {P : Nat} {h : Int} {xs ys : List Int} {d : Int} (g : overB xs ys = false) : ∀ k, legToS P h xs ys d k = legTo P h xs ys d k
  | 0 => rfl
  | k + 1 => by rw [legToS, legToS_not g k, stepS, if_neg (by simp [g]), legTo]
theorem legToS_legL (P : Nat) (h : Int) (xs ys : List Int) (d : Int) : legToS P h xs ys d (P + 1) = legL P h xs ys d := by
  unfold legL
  cases g : overB xs ys with
  | true => rw [legToS_over g, if_pos rfl]
  | false => rw [legToS_not g, if_neg (by simp)]
theorem legB_S {P : Nat} {h s : Int} {xs ys : List Int} {t : Stp} : legB P h s xs ys t = (inB t.2.2.1 1 s && (inB t.1 0 (P : Int) && decide (stepS P h xs ys t.1.toNat t.2.2.1 = some t))) := by
  obtain ⟨a, b, d, q⟩ := t
  unfold legB
  dsimp only
  cases g1 : inB d 1 s with
  | false => simp
  | true =>
    have g1' : 1 ≤ d ∧ d ≤ s := by simpa [inB] using g1
    rw [Bool.true_and, Bool.true_and]
    by_cases ha : 0 ≤ a ∧ a ≤ (P : Int)
    · have ga : inB a 0 (P : Int) = true := by simpa [inB] using ha
      rw [ga, Bool.true_and]
      obtain ⟨k, rfl⟩ := Int.eq_ofNat_of_zero_le ha.1
      rw [show (k : Int).toNat = k by simp]
      unfold stepS
      cases g3 : overB xs ys with
      | true => simp
      | false =>
        rw [Bool.not_false, Bool.true_and, if_neg (by simp)]
        by_cases he : stepI P h xs ys k d = some ((k : Int), b, d, q)
        · have hp : placesB (P : Int) ((k : Int), b, d, q) = true := by
            unfold stepI at he
            split at he
            · simp at he
            · split at he
              · rename_i _ hal
                simp at he
                obtain ⟨rfl, _⟩ := he
                unfold placesB toI
                unfold alB openB at hal
                dsimp only
                by_cases hk : k = P
                · rw [if_pos (.inl hk)]
                  rw [if_pos hk] at hal
                  simp at hal ⊢
                  omega
                · rw [if_neg hk] at hal
                  by_cases hd : d ≤ (k : Int)
                  · rw [if_pos (.inr hd)]
                    simp
                    omega
                  · rw [if_neg (by omega)]
                    simp
                    omega
              · simp at he
          rw [hp, Bool.true_and]
        · rw [decide_eq_false he, Bool.and_false]
    · have ga : inB a 0 (P : Int) = false := by simpa [inB] using ha
      have hp : placesB (P : Int) (a, b, d, q) = false := by
        unfold placesB
        dsimp only
        by_cases h0 : 0 ≤ a
        · have : ¬ a ≤ (P : Int) := fun h1 => ha ⟨h0, h1⟩
          rw [decide_eq_false this]
          simp
        · rw [decide_eq_false h0, Bool.false_and]
      rw [ga, hp]
      simp
set_option maxRecDepth 8000 in
set_option maxHeartbeats 2000000 in
theorem l04Legal_any (P : Nat) (c h s : Int) (a1 a2 : Option Addr) (n1 n2 c1 c2 : Nat) (xs ys : List Int) (w : World) (h1 : xs.length = n1) (h2 : ys.length = n2) (p0 : 2 ≤ P) (p1 : P ≤ 24) (N1 : xs.length = P + 1) (N2 : ys.length = P + 1) (hh0 : 1 ≤ h) (hh : h ≤ (P : Int)) (hx : ∀ x ∈ xs, 0 ≤ x ∧ x ≤ 1000) (hy : ∀ y ∈ ys, 0 ≤ y ∧ y ≤ 1000) (r1 : IRow w a1 xs) (r2 : IRow w a2 ys) (d : Int) (d0 : 1 ≤ d) (d1 : d ≤ 1000) :
    Calls Try.prog 84 #[.agg #[.int .i64 (P : Int), .int .i64 c, .int .i64 h, .int .i64 s], .agg #[.slice a1 n1 c1, .slice a2 n2 c2], .int .i64 d] w (StepsGot (legL P h xs ys d) w) := by
  obtain ⟨BV, BB, hb, hz⟩ := two_new w #[.int .i64 (P : Int), .int .i64 c, .int .i64 h, .int .i64 s] #[.slice a1 n1 c1, .slice a2 n2 c2] 32 34
  obtain ⟨x0, x1, x2, x3, xf, xl⟩ := BV.four
  obtain ⟨y0, y1, yf, yl⟩ := BB.two
  have hs0 := fun (k : Nat) (kP : k ≤ P) W (hW : Below w.heap.size w W) => l04Step_any P c h s a1 a2 n1 n2 c1 c2 xs ys W h1 h2 p0 p1 N1 N2 hh0 hh hx hy (r1.below hW) (r2.below hW) k d kP d0 d1
  have hLl := legL_length P h xs ys d
  obtain ⟨L, hL⟩ : ∃ L, legL P h xs ys d = L := ⟨_, rfl⟩
  have hl0 : legToS P h xs ys d (P + 1) = L := by rw [legToS_legL, hL]
  rw [hL] at hLl ⊢
  have HS := Lib.hid hs0
  have HL := Lib.hid hl0
  clear hs0 hl0 hL
  go_enter Try.func84, Try.ntmps84
  go_wp2_with fail
  have hO0 : OwnT (((w.alloc (.cells #[.int .i64 (P : Int), .int .i64 c, .int .i64 h, .int .i64 s] 32)).alloc (.cells #[.slice a1 n1 c1, .slice a2 n2 c2] 34)).alloc (.cells #[] 112)) ((w.alloc (.cells #[.int .i64 (P : Int), .int .i64 c, .int .i64 h, .int .i64 s] 32)).alloc (.cells #[.slice a1 n1 c1, .slice a2 n2 c2] 34)).heap.size (.slice (some ⟨((w.alloc (.cells #[.int .i64 (P : Int), .int .i64 c, .int .i64 h, .int .i64 s] 32)).alloc (.cells #[.slice a1 n1 c1, .slice a2 n2 c2] 34)).heap.size, 0, none⟩) 0 0) [] := OwnT.start _
  have hbA : Below ((w.alloc (.cells #[.int .i64 (P : Int), .int .i64 c, .int .i64 h, .int .i64 s] 32)).alloc (.cells #[.slice a1 n1 c1, .slice a2 n2 c2] 34)).heap.size ((w.alloc (.cells #[.int .i64 (P : Int), .int .i64 c, .int .i64 h, .int .i64 s] 32)).alloc (.cells #[.slice a1 n1 c1, .slice a2 n2 c2] 34)) (((w.alloc (.cells #[.int .i64 (P : Int), .int .i64 c, .int .i64 h, .int .i64 s] 32)).alloc (.cells #[.slice a1 n1 c1, .slice a2 n2 c2] 34)).alloc (.cells #[] 112)) := (Below.refl _ _).alloc (Nat.le_refl _) _
  rw [hz] at hO0
  have hzN := Lib.hid hz
  clear hz x0 x1 x2 x3 xf xl y0 y1 yf yl
  generalize (((w.alloc (.cells #[.int .i64 (P : Int), .int .i64 c, .int .i64 h, .int .i64 s] 32)).alloc (.cells #[.slice a1 n1 c1, .slice a2 n2 c2] 34)).alloc (.cells #[] 112)) = v1 at *
  generalize ((w.alloc (.cells #[.int .i64 (P : Int), .int .i64 c, .int .i64 h, .int .i64 s] 32)).alloc (.cells #[.slice a1 n1 c1, .slice a2 n2 c2] 34)) = v0 at *
  have hz := hzN.out
  go_loopg [7, 8] (P + 1) (fun m q i wr => ∃ (k : Nat) (D : List Stp), k ≤ P + 1 ∧ m = k ∧ i = .int .i64 ((k : Int) - 1) ∧ D ++ legToS P h xs ys d k = L ∧ OwnT wr (w.heap.size + 1 + 1) q D ∧ Below v0.heap.size v0 wr)
  case atStart => exact ⟨P + 1, [], by omega, rfl, by congr 1; omega, HL.out, hO0, hbA⟩
  case round =>
    obtain ⟨k, D, hk, hm, rfl, hDL, hO, hbel⟩ := hrel
    have hDl : D.length ≤ P + 1 := by rw [← hDL, List.length_append] at hLl; omega
    have hbw := chain hb hbel
    have hszr := hbel.size
    rw [hz] at hszr
    obtain ⟨x0, x1, x2, x3, xf, xl⟩ := (BV.below hbel).four
    obtain ⟨y0, y1, yf, yl⟩ := (BB.below hbel).two
    cases k with
    | zero =>
      have hDL2 : D = L := by rw [← hDL]; simp [legToS]
      subst hDL2
      obtain ⟨a, cp, rfl⟩ := hO.form
      have hos := hO.ost
      have HDL := Lib.hid hDL
      clear hDL hDl hLl
      go_wp2
      go_ret
      exact ⟨a, cp, rfl, hos.mono (by omega) (Nat.le_refl _), hbw⟩
    | succ k =>
      have e1 : (((k + 1 : Nat) : Int) - 1) = (k : Int) := by omega
      rw [e1]
      have hsk := HS.out k (by omega) wr hbw
      rw [legToS] at hDL
      have hkP : (k : Int) ≤ (P : Int) := by omega
      clear e1
      cases hst : stepS P h xs ys k d with
      | none =>
        rw [hst] at hsk hDL
        have HC := Lib.hid hsk
        have HDL := Lib.hid hDL
        clear hsk hDL hst hLl hz
        go_wp2_with (go_at_call 128; refine HC.out.mono ?_; intro e w5 hg; obtain ⟨x, rfl, hb5⟩ := hg.none)
        go_roundg k
        case measure => omega
        case rel => exact ⟨k, D, by omega, rfl, by go_num, by simpa using HDL.out, (hO.kept hb5).alloc _, (chain hbel hb5).alloc (chain hbel hb5).size _⟩
      | some t =>
        obtain ⟨e1, e2, e3, e4⟩ := t
        rw [hst] at hsk hDL
        have hDl2 : D.length ≤ 1048576 := by omega
        have HC := Lib.hid hsk
        have HDL := Lib.hid hDL
        clear hsk hDL hst hLl hz
        have hpush : ∀ w5, Below wr.heap.size wr w5 → w.heap.size + 1 + 1 ≤ (w5.alloc (.cells #[.int .i64 e1, .int .i64 e2, .int .i64 e3, .bool e4] 112)).heap.size := fun w5 h5 => by
          have := h5.size
          simp
          omega
        go_wp2_with (first | (go_at_call 128; refine HC.out.mono ?_; intro e w5 hg; obtain ⟨rfl, hb5⟩ := hg.some) | (at_builtin; refine wp_pushT rfl _ _ rfl (w.heap.size + 1 + 1) _ D rfl ((hO.kept hb5).alloc _) (e1, e2, e3, e4) rfl (by simp) hDl2 (hpush _ hb5) ?_; intro v2 w6 hO2 hb6))
        go_roundg k
        case measure => omega
        case rel => exact ⟨k, D ++ [(e1, e2, e3, e4)], by omega, rfl, by go_num, by rw [← HDL.out]; simp, hO2, ((chain hbel hb5).alloc (chain hbel hb5).size _).trans (by rw [hzN.out]; exact hb6)⟩
end Go.Proofs.Ytokjkcnjmfbfiaa
