/- The law's own helpers on steps: handed over, compared, marked. -/
import Derived.Test.YtjglempkmenacaaStp
import Derived.BigQuiet
namespace Go.Proofs.Ytjglempkmenacaa
open Go.ChangeShapes Go.WideShapes Go.ChangeAt Go.RowKit
set_option linter.unusedVariables false
set_option linter.unusedSimpArgs false
set_option maxRecDepth 4000

set_option maxHeartbeats 1000000 in
theorem eqStep_same (s : Stp) (w : World) :
    Calls Try.prog 87 #[stV s, stV s] w fun e w' => e = .returned (.bool true) ∧ Below w.heap.size w w' := by
  obtain ⟨a, b, c, d⟩ := s
  have hb : Below w.heap.size w ((w.alloc (.cells #[.int .i64 a, .int .i64 b, .int .i64 c, .bool d] 30)).alloc (.cells #[.int .i64 a, .int .i64 b, .int .i64 c, .bool d] 30)) := ((Below.refl _ _).alloc (Nat.le_refl _) _).alloc (by simp) _
  go_enter Try.func87, Try.ntmps87
  go_wp2
  go_ret
  exact ⟨rfl, hb⟩
set_option maxHeartbeats 1000000 in
theorem toStep_any (s : Stp) (w : World) :
    Calls Try.prog 46 #[stV s] w fun e w' => e = .returned (stV s) ∧ Below w.heap.size w w' := by
  obtain ⟨a, b, c, d⟩ := s
  go_enter Try.func46, Try.ntmps46
  go_wp2
  refine bodyPost_ret (v := stV (a, b, c, d)) (by simp [results, Try.results46, go_sem]) rfl ⟨rfl, ?_⟩
  exact (((Below.refl _ _).alloc (Nat.le_refl _) _).alloc (by simp) _).alloc (by simp; omega) _
set_option maxRecDepth 8000 in
set_option maxHeartbeats 1000000 in
theorem eqStepS_same (lo hi lo2 hi2 : Nat) (a1 a2 : Option Addr) (n c1 c2 : Nat) (l : List Stp) (w : World) (hn : l.length = n) (hle : n ≤ 1048576) (h1 : OSt lo hi w a1 l) (h2 : OSt lo2 hi2 w a2 l) :
    Calls Try.prog 41 #[.slice a1 n c1, .slice a2 n c2] w fun e w' => e = .returned (.bool true) ∧ Below w.heap.size w w' := by
  subst hn
  go_enter Try.func41, Try.ntmps41
  go_wp2
  go_loopg [5] l.length (fun m i wr => ∃ k : Nat, k ≤ l.length ∧ m = l.length - k ∧ i = .int .i64 k ∧ Below w.heap.size w wr)
  case atStart => exact ⟨0, by omega, by omega, rfl, Below.refl _ _⟩
  case round =>
    obtain ⟨k, hk, hm, rfl, hbel⟩ := hrel
    by_cases hlt : k < l.length
    · have hlt' : (k : Int) < (l.length : Int) := by omega
      have hk0 : (0 : Int) ≤ (k : Int) := by omega
      have h1w := h1.below hbel
      have h2w := h2.below hbel
      obtain ⟨g1, rfl, R1⟩ := h1w.row hlt
      obtain ⟨g2, rfl, R2⟩ := h2w.row hlt
      obtain ⟨s, hs⟩ : ∃ s, l[k]? = some s := ⟨_, List.getElem?_eq_getElem hlt⟩
      obtain ⟨u0, u1, u2, u3⟩ := R1.four k s hs
      obtain ⟨v0, v1, v2, v3⟩ := R2.four k s hs
      clear h1w h2w hs h1 h2
      obtain ⟨a, b, c, d⟩ := s
      dsimp only at u0 u1 u2 u3 v0 v1 v2 v3
      go_wp2_with fail
      have hb := hbel
      refine wp_region_held_drew (S := fun w' => w'.cell? ⟨g1, k * 4, none⟩ = some (.int .i64 a) ∧ w'.cell? ⟨g1, k * 4 + 1, none⟩ = some (.int .i64 b) ∧ w'.cell? ⟨g1, k * 4 + 2, none⟩ = some (.int .i64 c) ∧ w'.cell? ⟨g1, k * 4 + 3, none⟩ = some (.bool d) ∧ w'.cell? ⟨g2, k * 4, none⟩ = some (.int .i64 a) ∧ w'.cell? ⟨g2, k * 4 + 1, none⟩ = some (.int .i64 b) ∧ w'.cell? ⟨g2, k * 4 + 2, none⟩ = some (.int .i64 c) ∧ w'.cell? ⟨g2, k * 4 + 3, none⟩ = some (.bool d) ∧ Below w.heap.size w w') (by kernel_rfl) ⟨u0, u1, u2, u3, v0, v1, v2, v3, hb.drew⟩ (fun hHeld => ?_)
      refine wpAnyH_take (i := 0) (oi := { dst := some 17, op := _, type := _, pos := _, after := _, guard := _ }) (v := ?_) rfl (by kernel_rfl) (by kernel_rfl) (by kernel_rfl) (fun _ _ _ h => h) (Or.inl ⟨by rfl, ?_⟩) (by assumption) ?_
      rotate_left
      · intro w hSw
        (try dsimp only at hSw)
        go_simp
        (try (with_reducible rfl))
      try simp only [Act.put, List.setIfInBounds_toArray, List.set_cons_zero, List.set_cons_succ]
      refine wpAnyH_take (i := 1) (oi := { dst := some 18, op := _, type := _, pos := _, after := _, guard := _ }) (v := ?_) rfl (by kernel_rfl) (by kernel_rfl) (by kernel_rfl) (fun _ _ _ h => h) (Or.inl ⟨by rfl, ?_⟩) (by assumption) ?_
      rotate_left
      · intro w hSw
        (try dsimp only at hSw)
        go_simp
        (try (with_reducible rfl))
      try simp only [Act.put, List.setIfInBounds_toArray, List.set_cons_zero, List.set_cons_succ]
      refine wpAnyH_take (i := 2) (oi := { dst := some 19, op := _, type := _, pos := _, after := _, guard := _ }) (v := ?_) rfl (by kernel_rfl) (by kernel_rfl) (by kernel_rfl) (fun _ _ _ h => h) (Or.inl ⟨by rfl, ?_⟩) (by assumption) ?_
      rotate_left
      · intro w hSw
        (try dsimp only at hSw)
        go_simp
        (try (with_reducible rfl))
      try simp only [Act.put, List.setIfInBounds_toArray, List.set_cons_zero, List.set_cons_succ]
      refine wpAnyH_take (i := 3) (oi := { dst := some 20, op := _, type := _, pos := _, after := _, guard := _ }) (v := ?_) rfl (by kernel_rfl) (by kernel_rfl) (by kernel_rfl) (fun _ _ _ h => h) (Or.inl ⟨by rfl, ?_⟩) (by assumption) ?_
      rotate_left
      · intro w hSw
        (try dsimp only at hSw)
        go_simp
        (try (with_reducible rfl))
      try simp only [Act.put, List.setIfInBounds_toArray, List.set_cons_zero, List.set_cons_succ]
      refine wpAnyH_take (i := 4) (oi := { dst := some 21, op := _, type := _, pos := _, after := _, guard := _ }) (v := ?_) rfl (by kernel_rfl) (by kernel_rfl) (by kernel_rfl) (fun _ _ _ h => h) (Or.inl ⟨by rfl, ?_⟩) (by assumption) ?_
      rotate_left
      · intro w hSw
        (try dsimp only at hSw)
        go_simp
        (try (with_reducible rfl))
      try simp only [Act.put, List.setIfInBounds_toArray, List.set_cons_zero, List.set_cons_succ]
      refine wpAnyH_take (i := 5) (oi := { dst := some 22, op := _, type := _, pos := _, after := _, guard := _ }) (v := ?_) rfl (by kernel_rfl) (by kernel_rfl) (by kernel_rfl) (fun _ _ _ h => h) (Or.inl ⟨by rfl, ?_⟩) (by assumption) ?_
      rotate_left
      · intro w hSw
        (try dsimp only at hSw)
        go_simp
        (try (with_reducible rfl))
      try simp only [Act.put, List.setIfInBounds_toArray, List.set_cons_zero, List.set_cons_succ]
      refine wpAnyH_take (i := 6) (oi := { dst := some 23, op := _, type := _, pos := _, after := _, guard := _ }) (v := ?_) rfl (by kernel_rfl) (by kernel_rfl) (by kernel_rfl) (fun _ _ _ h => h) (Or.inl ⟨by rfl, ?_⟩) (by assumption) ?_
      rotate_left
      · intro w hSw
        (try dsimp only at hSw)
        go_simp
        (try (with_reducible rfl))
      try simp only [Act.put, List.setIfInBounds_toArray, List.set_cons_zero, List.set_cons_succ]
      refine wpAnyH_take (i := 7) (oi := { dst := some 24, op := _, type := _, pos := _, after := _, guard := _ }) (v := ?_) rfl (by kernel_rfl) (by kernel_rfl) (by kernel_rfl) (fun _ _ _ h => h) (Or.inl ⟨by rfl, ?_⟩) (by assumption) ?_
      rotate_left
      · intro w hSw
        (try dsimp only at hSw)
        go_simp
        (try (with_reducible rfl))
      try simp only [Act.put, List.setIfInBounds_toArray, List.set_cons_zero, List.set_cons_succ]
      refine wpAnyH_ready (rs := [8]) (by kernel_rfl) (by simp) ?_
      refine AllReadyH.cons (o := { dst := some 25, op := _, type := _, pos := _, after := _, guard := _ }) rfl (fun K hK => ?_) AllReadyH.nil
      go_simp
      refine (eqStep_same (a, b, c, d) _).mono ?_
      rintro e w5 ⟨rfl, hb5⟩
      have hbn := chain hHeld.2.2.2.2.2.2.2.2 hb5
      (try go_wp2_with fail)
      refine hK.out _ _ ⟨(CellIs.below hHeld.1 hb5), (CellIs.below hHeld.2.1 hb5), (CellIs.below hHeld.2.2.1 hb5), (CellIs.below hHeld.2.2.2.1 hb5), (CellIs.below hHeld.2.2.2.2.1 hb5), (CellIs.below hHeld.2.2.2.2.2.1 hb5), (CellIs.below hHeld.2.2.2.2.2.2.1 hb5), (CellIs.below hHeld.2.2.2.2.2.2.2.1 hb5), hbn⟩ (fun hHeld => ?_)
      clear hK K
      try simp only [Act.put, List.setIfInBounds_toArray, List.set_cons_zero, List.set_cons_succ]
      refine wpAnyH_take (i := 9) (oi := { dst := some 26, op := _, type := _, pos := _, after := _, guard := _ }) (v := ?_) rfl (by kernel_rfl) (by kernel_rfl) (by kernel_rfl) (fun _ _ _ h => h) (Or.inl ⟨by rfl, ?_⟩) (by assumption) ?_
      rotate_left
      · intro w hSw
        (try dsimp only at hSw)
        go_simp
        (try (with_reducible rfl))
      try simp only [Act.put, List.setIfInBounds_toArray, List.set_cons_zero, List.set_cons_succ]
      refine wpAnyH_done (by kernel_rfl) ?_ _
      go_wp2
      go_roundg (l.length - (k + 1))
      case measure => omega
      case rel => exact ⟨k + 1, by omega, rfl, by go_num, hHeld.2.2.2.2.2.2.2.2⟩
    · obtain rfl : k = l.length := by omega
      go_wp2
      go_ret
      exact ⟨rfl, hbel⟩
/-- The marks that the law writes into steps. -/
def mkS (k : Int) (n : Nat) : List Stp := (List.range n).map fun (j : Nat) => (k + 4 * (j : Int), k + 4 * (j : Int) + 1, k + 4 * (j : Int) + 1 + 1, (k + 4 * (j : Int) + 1 + 1 + 1) % 3 == 0)
theorem mkS_length (k : Int) (n : Nat) : (mkS k n).length = n := by simp [mkS]
theorem mkS_succ (k : Int) (n : Nat) : mkS k (n + 1) = mkS k n ++ [(k + 4 * (n : Int), k + 4 * (n : Int) + 1, k + 4 * (n : Int) + 1 + 1, (k + 4 * (n : Int) + 1 + 1 + 1) % 3 == 0)] := by simp [mkS, List.range_succ]
theorem mkS_get (k : Int) (n j : Nat) (h : j < n) : (mkS k n)[j]? = some (k + 4 * (j : Int), k + 4 * (j : Int) + 1, k + 4 * (j : Int) + 1 + 1, (k + 4 * (j : Int) + 1 + 1 + 1) % 3 == 0) := by simp [mkS, h]
theorem set4_app (A B : List Value) (v0 v1 v2 v3 x0 x1 x2 x3 : Value) (n : Nat) (hn : A.length = n) :
    (((((A ++ v0 :: v1 :: v2 :: v3 :: B).set n x0).set (n + 1) x1).set (n + 2) x2).set (n + 3) x3) = A ++ x0 :: x1 :: x2 :: x3 :: B := by
  subst hn
  simp [List.set_append, Nat.add_sub_cancel_left]
theorem stepsC_drop : ∀ (l : List Stp) (j : Nat) (s : Stp), l[j]? = some s → (stepsC l).drop (j * 4) = .int .i64 s.1 :: .int .i64 s.2.1 :: .int .i64 s.2.2.1 :: .bool s.2.2.2 :: (stepsC l).drop ((j + 1) * 4)
  | [], j, s, h => by simp at h
  | x :: l, 0, s, h => by
    simp at h
    subst h
    simp [stepsC, stC]
  | x :: l, j + 1, s, h => by
    have ih := stepsC_drop l j s (by simpa using h)
    have e1 : (j + 1) * 4 = j * 4 + 4 := by omega
    have e2 : (j + 1 + 1) * 4 = (j + 1) * 4 + 4 := by omega
    rw [e1, e2]
    exact ih
set_option maxRecDepth 8000 in
set_option maxHeartbeats 2000000 in
theorem markStepS_any (g : Nat) (n cap : Nat) (l : List Stp) (k : Int) (w : World) (hn : l.length = n) (hle : n ≤ 1048576) (hk0 : 0 ≤ k) (hk1 : k ≤ 1000000000) (hR : SRow w g l) :
    Calls Try.prog 43 #[.slice (some ⟨g, 0, none⟩) n cap, .int .i64 k] w fun e w' => e = .returned (.int .i64 (k + 4 * (n : Int))) ∧ SRow w' g (mkS k n) ∧ w.grownBy w' (some g) := by
  subst hn
  go_enter Try.func43, Try.ntmps43
  go_wp2
  go_loopg [1, 5] l.length (fun m q i wr => ∃ j : Nat, j ≤ l.length ∧ m = l.length - j ∧ i = .int .i64 j ∧ q = .int .i64 (k + 4 * (j : Int)) ∧ VRow wr g (stepsC (mkS k j) ++ (stepsC l).drop (j * 4)) 30 ∧ w.grownBy wr (some g))
  case atStart => exact ⟨0, by omega, by omega, rfl, by simp, by simpa [mkS, stepsC] using hR, grown_refl _ _⟩
  case round =>
    obtain ⟨j, hj, hm, rfl, rfl, hr, hG⟩ := hrel
    by_cases hlt : j < l.length
    · have hlt' : (j : Int) < (l.length : Int) := by omega
      obtain ⟨s, hs⟩ : ∃ s, l[j]? = some s := ⟨_, List.getElem?_eq_getElem hlt⟩
      have hA : (stepsC (mkS k j)).length = j * 4 := by rw [stepsC_length, mkS_length]
      rw [stepsC_drop l j s hs] at hr
      have f0 := fun i => hr.free i
      have c0 := hr.cell (j * 4) (.int .i64 s.1) (by rw [List.getElem?_append_right (by omega), hA]; simp)
      have c1 := hr.cell (j * 4 + 1) (.int .i64 s.2.1) (by rw [List.getElem?_append_right (by omega), hA]; simp)
      have c2 := hr.cell (j * 4 + 2) (.int .i64 s.2.2.1) (by rw [List.getElem?_append_right (by omega), hA]; simp)
      have c3 := hr.cell (j * 4 + 3) (.bool s.2.2.2) (by rw [List.getElem?_append_right (by omega), hA]; simp)
      have hR2 := ((((hr.set (j * 4) (.int .i64 (k + 4 * (j : Int)))).set (j * 4 + 1) (.int .i64 (k + 4 * (j : Int) + 1))).set (j * 4 + 2) (.int .i64 (k + 4 * (j : Int) + 1 + 1))).set (j * 4 + 3) (.bool ((k + 4 * (j : Int) + 1 + 1 + 1) % 3 == 0))).wf (set4_app _ _ _ _ _ _ _ _ _ _ _ hA)
      have hR3 := Lib.hid (hR2.wf (show _ = stepsC (mkS k (j + 1)) ++ (stepsC l).drop ((j + 1) * 4) by rw [mkS_succ, stepsC_append]; simp [stepsC, stC]))
      have hG3 := Lib.hid (grown_set (v := .bool ((k + 4 * (j : Int) + 1 + 1 + 1) % 3 == 0)) (o := j * 4 + 3) (grown_set (v := .int .i64 (k + 4 * (j : Int) + 1 + 1)) (o := j * 4 + 2) (grown_set (v := .int .i64 (k + 4 * (j : Int) + 1)) (o := j * 4 + 1) (grown_set (v := .int .i64 (k + 4 * (j : Int))) (o := j * 4) hG))))
      clear hR2 hr hs hA
      go_wp2
      go_roundg (l.length - (j + 1))
      case measure => omega
      case rel =>
        exact ⟨j + 1, by omega, rfl, by go_num, by go_num, hR3.out, hG3.out⟩
    · obtain rfl : j = l.length := by omega
      have hfin := Lib.hid hr
      clear hr
      go_wp2
      go_ret
      refine ⟨rfl, hfin.out.wf ?_, hG⟩
      rw [List.drop_eq_nil_of_le (by rw [stepsC_length]; omega), List.append_nil]
set_option maxHeartbeats 1000000 in
theorem markStepS_nil (cap : Nat) (k : Int) (w : World) :
    Calls Try.prog 43 #[.slice none 0 cap, .int .i64 k] w fun e w' => e = .returned (.int .i64 k) ∧ w = w' := by
  go_enter Try.func43, Try.ntmps43
  go_wp2
  refine wp_loop_rounds 1 ?_
  rw [rounds_succ]
  go_wp2
  go_ret
  exact ⟨rfl, rfl⟩
/-- Marking steps of the call's own: they alone change. -/
theorem markSt_own (lo hi : Nat) (a : Option Addr) (n cap : Nat) (l : List Stp) (k : Int) (w : World) (hn : l.length = n) (hle : n ≤ 1048576) (k0 : 0 ≤ k) (k1 : k ≤ 1000000000) (h : OSt lo hi w a l) :
    Calls Try.prog 43 #[.slice a n cap, .int .i64 k] w fun e w' => e = .returned (.int .i64 (k + 4 * (n : Int))) ∧ OSt lo hi w' a (mkS k n) ∧ Same lo hi w w' := by
  rcases h with ⟨rfl, rfl⟩ | ⟨g, rfl, h1, h2, r⟩
  · obtain rfl : 0 = n := hn
    refine (markStepS_nil cap k w).mono ?_
    rintro e w' ⟨rfl, rfl⟩
    exact ⟨by simp, .inl ⟨rfl, rfl⟩, rfl, rfl, rfl, Nat.le_refl _, fun i hi _ => rfl⟩
  · refine (markStepS_any g n cap l k w hn hle k0 k1 r).mono ?_
    rintro e w' ⟨rfl, q, hg⟩
    exact ⟨rfl, .inr ⟨g, rfl, h1, h2, q⟩, hg.os, hg.tape, hg.output, hg.size, fun i hi ho => hg.block i hi (fun e => by cases e; omega)⟩
set_option maxRecDepth 8000 in
set_option maxHeartbeats 2000000 in
theorem heldStepS_any (lo hi : Nat) (a : Option Addr) (n cap : Nat) (k : Int) (w : World) (hle : n ≤ 1048576) (hk0 : 0 ≤ k) (hk1 : k ≤ 1000000000) (hr : OSt lo hi w a (mkS k n)) :
    Calls Try.prog 44 #[.slice a n cap, .int .i64 k] w fun e w' => e = .returned (.int .i64 (k + 4 * (n : Int))) ∧ w = w' := by
  go_enter Try.func44, Try.ntmps44
  go_wp2
  go_loopg [1, 5] n (fun m q i wr => w = wr ∧ ∃ j : Nat, j ≤ n ∧ m = n - j ∧ i = .int .i64 j ∧ q = .int .i64 (k + 4 * (j : Int)))
  case atStart => exact ⟨rfl, 0, by omega, by omega, rfl, by simp⟩
  case round =>
    obtain ⟨rfl, j, hj, hm, rfl, rfl⟩ := hrel
    by_cases hlt : j < n
    · have hlt' : (j : Int) < (n : Int) := by omega
      obtain ⟨g, rfl, R⟩ := hr.row (k := j) (by rw [mkS_length]; exact hlt)
      obtain ⟨u0, u1, u2, u3⟩ := R.four j _ (mkS_get k n j hlt)
      dsimp only at u0 u1 u2 u3
      clear R hr
      go_wp2
      go_roundg (n - (j + 1))
      case measure => omega
      case rel => exact ⟨rfl, j + 1, by omega, rfl, by go_num, by go_num⟩
    · obtain rfl : j = n := by omega
      clear hr
      go_wp2
      go_ret
      exact ⟨rfl, rfl⟩
end Go.Proofs.Ytjglempkmenacaa
