/- The law's own helpers on rolls: handed over, compared, marked. -/
import Derived.Test.Ytcmfknkdfkchmaa05e
import Derived.BigQuiet
namespace Go.Proofs.Ytcmfknkdfkchmaa
open Go.ChangeShapes Go.WideShapes Go.ChangeAt Go.RowKit
set_option linter.unusedVariables false
set_option linter.unusedSimpArgs false

abbrev rlV (s : Rl) : Value := .agg #[.int .i64 s.1, .int .i64 s.2]
theorem eqRoll_same (a b : Int) (w : World) :
    Calls Try.prog 43 #[.agg #[.int .i64 a, .int .i64 b], .agg #[.int .i64 a, .int .i64 b]] w fun e w' => e = .returned (.bool true) ∧ Below w.heap.size w w' := by
  have hb : Below w.heap.size w ((w.alloc (.cells #[.int .i64 a, .int .i64 b] 33)).alloc (.cells #[.int .i64 a, .int .i64 b] 33)) := ((Below.refl _ _).alloc (Nat.le_refl _) _).alloc (by simp) _
  go_enter Try.func43, Try.ntmps43
  go_wp2
  go_ret
  exact ⟨rfl, hb⟩
theorem toRoll_same (a b : Int) (w : World) :
    Calls Try.prog 35 #[.agg #[.int .i64 a, .int .i64 b]] w fun e w' => e = .returned (.agg #[.int .i64 a, .int .i64 b]) ∧ Below w.heap.size w w' := by
  go_enter Try.func35, Try.ntmps35
  go_wp2
  refine bodyPost_ret (v := .agg #[.int .i64 a, .int .i64 b]) (by simp [results, Try.results35, go_sem]) rfl ⟨rfl, ?_⟩
  exact (((Below.refl _ _).alloc (Nat.le_refl _) _).alloc (by simp) _).alloc (by simp; omega) _
set_option maxRecDepth 8000 in
set_option maxHeartbeats 1000000 in
theorem eqRollS_same (lo hi lo2 hi2 : Nat) (a1 a2 : Option Addr) (n c1 c2 : Nat) (l : List Rl) (w : World) (hn : l.length = n) (hle : n ≤ 1048576) (h1 : ORl lo hi w a1 l) (h2 : ORl lo2 hi2 w a2 l) :
    Calls Try.prog 37 #[.slice a1 n c1, .slice a2 n c2] w fun e w' => e = .returned (.bool true) ∧ Below w.heap.size w w' := by
  subst hn
  go_enter Try.func37, Try.ntmps37
  go_wp2
  go_loopg [5] l.length (fun m i wr => ∃ k : Nat, k ≤ l.length ∧ m = l.length - k ∧ i = .int .i64 k ∧ Below w.heap.size w wr)
  case atStart => exact ⟨0, by omega, by omega, rfl, Below.refl _ _⟩
  case round =>
    obtain ⟨k, hk, hm, rfl, hbel⟩ := hrel
    by_cases hlt : k < l.length
    · have hlt' : (k : Int) < (l.length : Int) := by omega
      have hk0 : (0 : Int) ≤ (k : Int) := by omega
      have h1w := h1.below hbel
      have h2w := h2.below hbel
      obtain ⟨g1, rfl, R1⟩ := h1w.row hlt
      obtain ⟨g2, rfl, R2⟩ := h2w.row hlt
      obtain ⟨s, hs⟩ : ∃ s, l[k]? = some s := ⟨_, List.getElem?_eq_getElem hlt⟩
      obtain ⟨u0, u1⟩ := R1.two k s hs
      obtain ⟨v0, v1⟩ := R2.two k s hs
      clear h1w h2w hs h1 h2
      obtain ⟨a, b⟩ := s
      dsimp only at u0 u1 v0 v1
      go_wp2_with fail
      have hb := hbel
      refine wp_region_held_drew (S := fun w' => w'.cell? ⟨g1, k * 2, none⟩ = some (.int .i64 a) ∧ w'.cell? ⟨g1, k * 2 + 1, none⟩ = some (.int .i64 b) ∧ w'.cell? ⟨g2, k * 2, none⟩ = some (.int .i64 a) ∧ w'.cell? ⟨g2, k * 2 + 1, none⟩ = some (.int .i64 b) ∧ Below w.heap.size w w') (by kernel_rfl) ⟨u0, u1, v0, v1, hb.drew⟩ (fun hHeld => ?_)
      refine wpAnyH_take (i := 0) (oi := { dst := some 17, op := _, type := _, pos := _, after := _, guard := _ }) (v := ?_) rfl (by kernel_rfl) (by kernel_rfl) (by kernel_rfl) (fun _ _ _ h => h) (Or.inl ⟨by rfl, ?_⟩) (by assumption) ?_
      rotate_left
      · intro w hSw
        (try dsimp only at hSw)
        go_simp
        (try (with_reducible rfl))
      try simp only [Act.put, List.setIfInBounds_toArray, List.set_cons_zero, List.set_cons_succ]
      refine wpAnyH_take (i := 1) (oi := { dst := some 18, op := _, type := _, pos := _, after := _, guard := _ }) (v := ?_) rfl (by kernel_rfl) (by kernel_rfl) (by kernel_rfl) (fun _ _ _ h => h) (Or.inl ⟨by rfl, ?_⟩) (by assumption) ?_
      rotate_left
      · intro w hSw
        (try dsimp only at hSw)
        go_simp
        (try (with_reducible rfl))
      try simp only [Act.put, List.setIfInBounds_toArray, List.set_cons_zero, List.set_cons_succ]
      refine wpAnyH_take (i := 2) (oi := { dst := some 19, op := _, type := _, pos := _, after := _, guard := _ }) (v := ?_) rfl (by kernel_rfl) (by kernel_rfl) (by kernel_rfl) (fun _ _ _ h => h) (Or.inl ⟨by rfl, ?_⟩) (by assumption) ?_
      rotate_left
      · intro w hSw
        (try dsimp only at hSw)
        go_simp
        (try (with_reducible rfl))
      try simp only [Act.put, List.setIfInBounds_toArray, List.set_cons_zero, List.set_cons_succ]
      refine wpAnyH_take (i := 3) (oi := { dst := some 20, op := _, type := _, pos := _, after := _, guard := _ }) (v := ?_) rfl (by kernel_rfl) (by kernel_rfl) (by kernel_rfl) (fun _ _ _ h => h) (Or.inl ⟨by rfl, ?_⟩) (by assumption) ?_
      rotate_left
      · intro w hSw
        (try dsimp only at hSw)
        go_simp
        (try (with_reducible rfl))
      try simp only [Act.put, List.setIfInBounds_toArray, List.set_cons_zero, List.set_cons_succ]
      refine wpAnyH_take (i := 4) (oi := { dst := some 21, op := _, type := _, pos := _, after := _, guard := _ }) (v := ?_) rfl (by kernel_rfl) (by kernel_rfl) (by kernel_rfl) (fun _ _ _ h => h) (Or.inl ⟨by rfl, ?_⟩) (by assumption) ?_
      rotate_left
      · intro w hSw
        (try dsimp only at hSw)
        go_simp
        (try (with_reducible rfl))
      try simp only [Act.put, List.setIfInBounds_toArray, List.set_cons_zero, List.set_cons_succ]
      refine wpAnyH_take (i := 5) (oi := { dst := some 22, op := _, type := _, pos := _, after := _, guard := _ }) (v := ?_) rfl (by kernel_rfl) (by kernel_rfl) (by kernel_rfl) (fun _ _ _ h => h) (Or.inl ⟨by rfl, ?_⟩) (by assumption) ?_
      rotate_left
      · intro w hSw
        (try dsimp only at hSw)
        go_simp
        (try (with_reducible rfl))
      try simp only [Act.put, List.setIfInBounds_toArray, List.set_cons_zero, List.set_cons_succ]
      refine wpAnyH_take (i := 6) (oi := { dst := some 23, op := _, type := _, pos := _, after := _, guard := _ }) (v := ?_) rfl (by kernel_rfl) (by kernel_rfl) (by kernel_rfl) (fun _ _ _ h => h) (Or.inl ⟨by rfl, ?_⟩) (by assumption) ?_
      rotate_left
      · intro w hSw
        (try dsimp only at hSw)
        go_simp
        (try (with_reducible rfl))
      try simp only [Act.put, List.setIfInBounds_toArray, List.set_cons_zero, List.set_cons_succ]
      refine wpAnyH_take (i := 7) (oi := { dst := some 24, op := _, type := _, pos := _, after := _, guard := _ }) (v := ?_) rfl (by kernel_rfl) (by kernel_rfl) (by kernel_rfl) (fun _ _ _ h => h) (Or.inl ⟨by rfl, ?_⟩) (by assumption) ?_
      rotate_left
      · intro w hSw
        (try dsimp only at hSw)
        go_simp
        (try (with_reducible rfl))
      try simp only [Act.put, List.setIfInBounds_toArray, List.set_cons_zero, List.set_cons_succ]
      refine wpAnyH_ready (rs := [8]) (by kernel_rfl) (by simp) ?_
      refine AllReadyH.cons (o := { dst := some 25, op := _, type := _, pos := _, after := _, guard := _ }) rfl (fun K hK => ?_) AllReadyH.nil
      go_simp
      refine (eqRoll_same a b _).mono ?_
      rintro e w5 ⟨rfl, hb5⟩
      have hbn := chain hHeld.2.2.2.2 hb5
      (try go_wp2_with fail)
      refine hK.out _ _ ⟨(CellIs.below hHeld.1 hb5), (CellIs.below hHeld.2.1 hb5), (CellIs.below hHeld.2.2.1 hb5), (CellIs.below hHeld.2.2.2.1 hb5), hbn⟩ (fun hHeld => ?_)
      clear hK K
      try simp only [Act.put, List.setIfInBounds_toArray, List.set_cons_zero, List.set_cons_succ]
      refine wpAnyH_take (i := 9) (oi := { dst := some 26, op := _, type := _, pos := _, after := _, guard := _ }) (v := ?_) rfl (by kernel_rfl) (by kernel_rfl) (by kernel_rfl) (fun _ _ _ h => h) (Or.inl ⟨by rfl, ?_⟩) (by assumption) ?_
      rotate_left
      · intro w hSw
        (try dsimp only at hSw)
        go_simp
        (try (with_reducible rfl))
      try simp only [Act.put, List.setIfInBounds_toArray, List.set_cons_zero, List.set_cons_succ]
      refine wpAnyH_done (by kernel_rfl) ?_ _
      go_wp2
      go_roundg (l.length - (k + 1))
      case measure => omega
      case rel => exact ⟨k + 1, by omega, rfl, by go_num, hHeld.2.2.2.2⟩
    · obtain rfl : k = l.length := by omega
      go_wp2
      go_ret
      exact ⟨rfl, hbel⟩
/-- The marks that the law writes into rolls. -/
def mkR (k : Int) (n : Nat) : List Rl := (List.range n).map fun (j : Nat) => (k + 2 * (j : Int), k + 2 * (j : Int) + 1)
theorem mkR_length (k : Int) (n : Nat) : (mkR k n).length = n := by simp [mkR]
theorem mkR_succ (k : Int) (n : Nat) : mkR k (n + 1) = mkR k n ++ [(k + 2 * (n : Int), k + 2 * (n : Int) + 1)] := by simp [mkR, List.range_succ]
theorem mkR_get (k : Int) (n j : Nat) (h : j < n) : (mkR k n)[j]? = some (k + 2 * (j : Int), k + 2 * (j : Int) + 1) := by simp [mkR, h]
theorem set2_app (A B : List Value) (v0 v1 x0 x1 : Value) (n : Nat) (hn : A.length = n) :
    (((A ++ v0 :: v1 :: B).set n x0).set (n + 1) x1) = A ++ x0 :: x1 :: B := by
  subst hn
  simp [List.set_append, Nat.add_sub_cancel_left]
theorem rlsC_drop : ∀ (l : List Rl) (j : Nat) (s : Rl), l[j]? = some s → (rlsC l).drop (j * 2) = .int .i64 s.1 :: .int .i64 s.2 :: (rlsC l).drop ((j + 1) * 2)
  | [], j, s, h => by simp at h
  | x :: l, 0, s, h => by
    simp at h
    subst h
    simp [rlsC, rlC]
  | x :: l, j + 1, s, h => by
    have ih := rlsC_drop l j s (by simpa using h)
    have e1 : (j + 1) * 2 = j * 2 + 2 := by omega
    have e2 : (j + 1 + 1) * 2 = (j + 1) * 2 + 2 := by omega
    rw [e1, e2]
    exact ih
set_option maxRecDepth 8000 in
set_option maxHeartbeats 2000000 in
theorem markRollS_any (g : Nat) (n cap : Nat) (l : List Rl) (k : Int) (w : World) (hn : l.length = n) (hle : n ≤ 1048576) (hk0 : 0 ≤ k) (hk1 : k ≤ 1000000000) (hR : RRow w g l) :
    Calls Try.prog 38 #[.slice (some ⟨g, 0, none⟩) n cap, .int .i64 k] w fun e w' => e = .returned (.int .i64 (k + 2 * (n : Int))) ∧ RRow w' g (mkR k n) ∧ w.grownBy w' (some g) := by
  subst hn
  go_enter Try.func38, Try.ntmps38
  go_wp2
  go_loopg [1, 5] l.length (fun m q i wr => ∃ j : Nat, j ≤ l.length ∧ m = l.length - j ∧ i = .int .i64 j ∧ q = .int .i64 (k + 2 * (j : Int)) ∧ VRow wr g (rlsC (mkR k j) ++ (rlsC l).drop (j * 2)) 33 ∧ w.grownBy wr (some g))
  case atStart => exact ⟨0, by omega, by omega, rfl, by simp, by simpa [mkR, rlsC] using hR, grown_refl _ _⟩
  case round =>
    obtain ⟨j, hj, hm, rfl, rfl, hr, hG⟩ := hrel
    by_cases hlt : j < l.length
    · have hlt' : (j : Int) < (l.length : Int) := by omega
      obtain ⟨s, hs⟩ : ∃ s, l[j]? = some s := ⟨_, List.getElem?_eq_getElem hlt⟩
      have hA : (rlsC (mkR k j)).length = j * 2 := by rw [rlsC_length, mkR_length]
      rw [rlsC_drop l j s hs] at hr
      have f0 := fun i => hr.free i
      have c0 := hr.cell (j * 2) (.int .i64 s.1) (by rw [List.getElem?_append_right (by omega), hA]; simp)
      have c1 := hr.cell (j * 2 + 1) (.int .i64 s.2) (by rw [List.getElem?_append_right (by omega), hA]; simp)
      have hR2 := ((hr.set (j * 2) (.int .i64 (k + 2 * (j : Int)))).set (j * 2 + 1) (.int .i64 (k + 2 * (j : Int) + 1))).wf (set2_app _ _ _ _ _ _ _ hA)
      have hR3 := Lib.hid (hR2.wf (show _ = rlsC (mkR k (j + 1)) ++ (rlsC l).drop ((j + 1) * 2) by rw [mkR_succ, rlsC_append]; simp [rlsC, rlC]))
      have hG3 := Lib.hid (grown_set (v := .int .i64 (k + 2 * (j : Int) + 1)) (o := j * 2 + 1) (grown_set (v := .int .i64 (k + 2 * (j : Int))) (o := j * 2) hG))
      clear hR2 hr hs hA
      go_wp2
      go_roundg (l.length - (j + 1))
      case measure => omega
      case rel =>
        exact ⟨j + 1, by omega, rfl, by go_num, by go_num, hR3.out, hG3.out⟩
    · obtain rfl : j = l.length := by omega
      have hfin := Lib.hid hr
      clear hr
      go_wp2
      go_ret
      refine ⟨rfl, hfin.out.wf ?_, hG⟩
      rw [List.drop_eq_nil_of_le (by rw [rlsC_length]; omega), List.append_nil]
set_option maxHeartbeats 1000000 in
theorem markRollS_nil (cap : Nat) (k : Int) (w : World) :
    Calls Try.prog 38 #[.slice none 0 cap, .int .i64 k] w fun e w' => e = .returned (.int .i64 k) ∧ w = w' := by
  go_enter Try.func38, Try.ntmps38
  go_wp2
  refine wp_loop_rounds 1 ?_
  rw [rounds_succ]
  go_wp2
  go_ret
  exact ⟨rfl, rfl⟩
/-- Marking rolls of the call's own: they alone change. -/
theorem markRl_own (lo hi : Nat) (a : Option Addr) (n cap : Nat) (l : List Rl) (k : Int) (w : World) (hn : l.length = n) (hle : n ≤ 1048576) (k0 : 0 ≤ k) (k1 : k ≤ 1000000000) (h : ORl lo hi w a l) :
    Calls Try.prog 38 #[.slice a n cap, .int .i64 k] w fun e w' => e = .returned (.int .i64 (k + 2 * (n : Int))) ∧ ORl lo hi w' a (mkR k n) ∧ Same lo hi w w' := by
  rcases h with ⟨rfl, rfl⟩ | ⟨g, rfl, h1, h2, r⟩
  · obtain rfl : 0 = n := hn
    refine (markRollS_nil cap k w).mono ?_
    rintro e w' ⟨rfl, rfl⟩
    exact ⟨by simp, .inl ⟨rfl, rfl⟩, rfl, rfl, rfl, Nat.le_refl _, fun i hi _ => rfl⟩
  · refine (markRollS_any g n cap l k w hn hle k0 k1 r).mono ?_
    rintro e w' ⟨rfl, q, hg⟩
    exact ⟨rfl, .inr ⟨g, rfl, h1, h2, q⟩, hg.os, hg.tape, hg.output, hg.size, fun i hi ho => hg.block i hi (fun e => by cases e; omega)⟩
set_option maxRecDepth 8000 in
set_option maxHeartbeats 2000000 in
theorem heldRollS_any (lo hi : Nat) (a : Option Addr) (n cap : Nat) (k : Int) (w : World) (hle : n ≤ 1048576) (hk0 : 0 ≤ k) (hk1 : k ≤ 1000000000) (hr : ORl lo hi w a (mkR k n)) :
    Calls Try.prog 39 #[.slice a n cap, .int .i64 k] w fun e w' => e = .returned (.int .i64 (k + 2 * (n : Int))) ∧ w = w' := by
  go_enter Try.func39, Try.ntmps39
  go_wp2
  go_loopg [1, 5] n (fun m q i wr => w = wr ∧ ∃ j : Nat, j ≤ n ∧ m = n - j ∧ i = .int .i64 j ∧ q = .int .i64 (k + 2 * (j : Int)))
  case atStart => exact ⟨rfl, 0, by omega, by omega, rfl, by simp⟩
  case round =>
    obtain ⟨rfl, j, hj, hm, rfl, rfl⟩ := hrel
    by_cases hlt : j < n
    · have hlt' : (j : Int) < (n : Int) := by omega
      obtain ⟨g, rfl, R⟩ := hr.row (k := j) (by rw [mkR_length]; exact hlt)
      obtain ⟨u0, u1⟩ := R.two j _ (mkR_get k n j hlt)
      dsimp only at u0 u1
      clear R hr
      go_wp2
      go_roundg (n - (j + 1))
      case measure => omega
      case rel => exact ⟨rfl, j + 1, by omega, rfl, by go_num, by go_num⟩
    · obtain rfl : j = n := by omega
      clear hr
      go_wp2
      go_ret
      exact ⟨rfl, rfl⟩
end Go.Proofs.Ytcmfknkdfkchmaa
