/- Contract of the program's list of legal steps. -/
import Derived.Test.Ytokjkcnjmfbfiaa04d
namespace Go.Proofs.Ytokjkcnjmfbfiaa
open Go.ChangeShapes Go.WideShapes Go.ChangeAt Go.RowKit
set_option linter.unusedVariables false
set_option linter.unusedSimpArgs false
set_option maxRecDepth 4000

theorem StepGot.none {w : World} {e : Ending} {w' : World} (h : StepGot none w e w') : ∃ x : Stp, e = .returned (.tuple #[stV x, .bool false]) ∧ Below w.heap.size w w' := by
  obtain ⟨x, ok, rfl, hr, hb⟩ := h
  cases ok with
  | false => exact ⟨x, rfl, hb⟩
  | true => simp at hr
theorem StepGot.some {t : Stp} {w : World} {e : Ending} {w' : World} (h : StepGot (some t) w e w') : e = .returned (.tuple #[stV t, .bool true]) ∧ Below w.heap.size w w' := by
  obtain ⟨x, ok, rfl, hr, hb⟩ := h
  cases ok with
  | false => simp at hr
  | true =>
    simp at hr
    subst hr
    exact ⟨rfl, hb⟩
/-- The legal steps from the places below k, the greatest first. -/
def legTo (P : Nat) (h : Int) (xs ys : List Int) (d : Int) : Nat → List Stp
  | 0 => []
  | k + 1 => (stepI P h xs ys k d).toList ++ legTo P h xs ys d k
theorem legTo_length (P : Nat) (h : Int) (xs ys : List Int) (d : Int) : ∀ k, (legTo P h xs ys d k).length ≤ k
  | 0 => by simp [legTo]
  | k + 1 => by
    have := legTo_length P h xs ys d k
    rw [legTo, List.length_append]
    have h1 : (stepI P h xs ys k d).toList.length ≤ 1 := by cases stepI P h xs ys k d <;> simp
    omega
theorem legTo_last (P : Nat) (h : Int) (xs ys : List Int) (d : Int) (hx : ∀ x ∈ xs, 0 ≤ x ∧ x ≤ 1000) : ∀ k, k ≤ xs.length → legTo P h xs ys d k = legTo P h xs ys d (lastL xs k + 1).toNat
  | 0, _ => by simp [lastL, legTo]
  | k + 1, hk => by
    have ih := legTo_last P h xs ys d hx k (by omega)
    have hg := (hx _ (getD_mem (xs := xs) (k := k) (by omega))).1
    by_cases h0 : 0 < xs.getD k 0
    · rw [lastL_pos h0]
      congr 1
    · have hz : xs.getD k 0 = 0 := by omega
      rw [lastL_not hz, ← ih, legTo, stepI, if_pos hz]
      rfl
/-- The legal steps with a die. -/
def legL (P : Nat) (h : Int) (xs ys : List Int) (d : Int) : List Stp := if overB xs ys = true then [] else legTo P h xs ys d (P + 1)
theorem legL_length (P : Nat) (h : Int) (xs ys : List Int) (d : Int) : (legL P h xs ys d).length ≤ P + 1 := by
  unfold legL
  split
  · simp
  · exact legTo_length _ _ _ _ _ _
set_option maxRecDepth 8000 in
set_option maxHeartbeats 2000000 in
theorem legalSteps_any (P : Nat) (c h s : Int) (f1 f2 B : Nat) (xs ys : List Int) (w : World) (p0 : 2 ≤ P) (p1 : P ≤ 24) (n1 : xs.length = P + 1) (n2 : ys.length = P + 1) (hx : ∀ x ∈ xs, 0 ≤ x ∧ x ≤ 1000) (hy : ∀ y ∈ ys, 0 ≤ y ∧ y ≤ 1000) (q1 : Pays f1 B xs w) (q2 : Pays f2 B ys w) (d : Int) (d0 : 1 ≤ d) (d1 : d ≤ 1000) :
    Calls Try.prog 126 #[.agg #[.int .i64 (P : Int), .int .i64 c, .int .i64 h, .int .i64 s], tv (P : Int) f1 f2 B, .int .i64 d] w (StepsGot (legL P h xs ys d) w) := by
  obtain ⟨BV, BT, hb, hz⟩ := two_new w #[.int .i64 (P : Int), .int .i64 c, .int .i64 h, .int .i64 s] #[.int .i64 (P : Int), fv f1 B, fv f2 B] 32 151
  have ho0 := fun W (hW : Below w.heap.size w W) => over_any (P : Int) f1 f2 B xs ys W (by omega) (by omega) (by omega) (by omega) hx hy (q1.below hW) (q2.below hW)
  obtain ⟨x0, x1, x2, x3, xf, xl⟩ := BV.four
  obtain ⟨z0, z1, z2, zf, zl⟩ := BT.tri
  unfold legL
  cases g3 : overB xs ys with
  | true =>
    rw [g3] at ho0
    rw [if_pos rfl]
    have HOV := Lib.hid ho0
    clear ho0 g3
    go_enter Try.func126, Try.ntmps126
    go_wp2_with (go_at_call 145; refine (HOV.out _ hb).mono ?_; rintro e w3 ⟨rfl, hb3⟩)
    go_ret
    exact ⟨none, 0, rfl, .inl ⟨rfl, rfl⟩, chain hb hb3⟩
  | false =>
    rw [g3] at ho0
    rw [if_neg (by simp)]
    have HOV := Lib.hid ho0
    have hf0 := fun W (hW : Below w.heap.size w W) => farthest_any (P : Int) f1 f2 B f1 B xs W (by omega) (by omega) (by omega) hx (q1.below hW)
    have hs0 := fun (k : Nat) (kP : k ≤ P) W (hW : Below w.heap.size w W) => stepFrom_any P c h s f1 f2 B xs ys W p0 p1 n1 n2 hx hy (q1.below hW) (q2.below hW) k d kP d0 d1
    have hl0 : legTo P h xs ys d (lastL xs xs.length + 1).toNat = legTo P h xs ys d (P + 1) := by rw [← legTo_last P h xs ys d hx xs.length (Nat.le_refl _), n1]
    have hll : ∀ k, (legTo P h xs ys d k).length ≤ k := legTo_length P h xs ys d
    obtain ⟨L, hL⟩ : ∃ L, legTo P h xs ys d (P + 1) = L := ⟨_, rfl⟩
    have hLl : L.length ≤ P + 1 := by rw [← hL]; exact hll _
    rw [hL] at hl0 ⊢
    have lb := lastL_bound xs xs.length
    obtain ⟨F, hF⟩ : ∃ F, lastL xs xs.length = F := ⟨_, rfl⟩
    rw [hF] at hf0 hl0 lb
    have F0 : -1 ≤ F := lb.1
    have F1 : F ≤ (P : Int) := by omega
    have HF := Lib.hid hf0
    have HS := Lib.hid hs0
    have HL := Lib.hid hl0
    clear ho0 g3 hf0 hs0 hl0 hL hF lb q1 q2 hll
    go_enter Try.func126, Try.ntmps126
    go_wp2_with (first | (go_at_call 145; refine (HOV.out _ hb).mono ?_; rintro e w3 ⟨rfl, hb3⟩; obtain ⟨x0, x1, x2, x3, xf, xl⟩ := (BV.below hb3).four; obtain ⟨z0, z1, z2, zf, zl⟩ := (BT.below hb3).tri) | (go_at_call 147; refine (HF.out _ (chain hb hb3)).mono ?_; rintro e w4 ⟨rfl, hb4⟩))
    have hb0 := chain hb3 hb4
    clear HOV HF hb3 hb4 x0 x1 x2 x3 xf xl z0 z1 z2 zf zl
    generalize ((w.alloc (.cells #[.int .i64 (P : Int), .int .i64 c, .int .i64 h, .int .i64 s] 32)).alloc (.cells #[.int .i64 (P : Int), fv f1 B, fv f2 B] 151)) = v0 at *
    go_loopg [7, 8] (F + 1).toNat (fun m q i wr => ∃ (k : Nat) (D : List Stp), k ≤ P + 1 ∧ m = k ∧ i = .int .i64 ((k : Int) - 1) ∧ D ++ legTo P h xs ys d k = L ∧ OwnT wr v0.heap.size q D ∧ Below v0.heap.size v0 wr)
    case atStart => exact ⟨(F + 1).toNat, [], by omega, rfl, by congr 1; omega, HL.out, OwnT.nil _ _, hb0⟩
    case round =>
      obtain ⟨k, D, hk, hm, rfl, hDL, hO, hbel⟩ := hrel
      have hDl : D.length ≤ P + 1 := by rw [← hDL, List.length_append] at hLl; omega
      have hbw := chain hb hbel
      obtain ⟨x0, x1, x2, x3, xf, xl⟩ := (BV.below hbel).four
      obtain ⟨z0, z1, z2, zf, zl⟩ := (BT.below hbel).tri
      cases k with
      | zero =>
        have hDL2 : D = L := by rw [← hDL]; simp [legTo]
        subst hDL2
        obtain ⟨a, cp, rfl⟩ := hO.form
        have hos := hO.ost
        have HDL := Lib.hid hDL
        clear hDL hDl hLl
        go_wp2
        go_ret
        exact ⟨a, cp, rfl, hos.mono hb.size (Nat.le_refl _), hbw⟩
      | succ k =>
        have e1 : (((k + 1 : Nat) : Int) - 1) = (k : Int) := by omega
        rw [e1]
        have hsk := HS.out k (by omega) wr hbw
        rw [legTo] at hDL
        have hkP : (k : Int) ≤ (P : Int) := by omega
        clear e1
        cases hst : stepI P h xs ys k d with
        | none =>
          rw [hst] at hsk hDL
          have HC := Lib.hid hsk
          have HDL := Lib.hid hDL
          clear hsk hDL hst hLl
          go_wp2_with (go_at_call 160; refine HC.out.mono ?_; intro e w5 hg; obtain ⟨x, rfl, hb5⟩ := hg.none)
          go_roundg k
          case measure => omega
          case rel => exact ⟨k, D, by omega, rfl, by go_num, by simpa using HDL.out, (hO.kept hb5).alloc _, (chain hbel hb5).alloc (chain hbel hb5).size _⟩
        | some t =>
          obtain ⟨e1, e2, e3, e4⟩ := t
          rw [hst] at hsk hDL
          have hDl2 : D.length ≤ 1048576 := by omega
          have HC := Lib.hid hsk
          have HDL := Lib.hid hDL
          clear hsk hDL hst hLl
          have hpush : ∀ w5, Below wr.heap.size wr w5 → v0.heap.size ≤ (w5.alloc (.cells #[.int .i64 e1, .int .i64 e2, .int .i64 e3, .bool e4] 112)).heap.size := fun w5 h5 => by
            have := (chain hbel h5).size
            simp
            omega
          go_wp2_with (first | (go_at_call 160; refine HC.out.mono ?_; intro e w5 hg; obtain ⟨rfl, hb5⟩ := hg.some) | (at_builtin; go_loud (refine wp_pushT rfl _ _ rfl v0.heap.size _ D rfl ((hO.kept hb5).alloc _) (e1, e2, e3, e4) rfl (by simp) hDl2 (hpush _ hb5) ?_; intro v2 w6 hO2 hb6)))
          go_roundg k
          case measure => omega
          case rel => exact ⟨k, D ++ [(e1, e2, e3, e4)], by omega, rfl, by go_num, by rw [← HDL.out]; simp, hO2, ((chain hbel hb5).alloc (chain hbel hb5).size _).trans hb6⟩
end Go.Proofs.Ytokjkcnjmfbfiaa
