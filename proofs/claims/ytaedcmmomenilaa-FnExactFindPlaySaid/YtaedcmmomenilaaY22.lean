/- Texts of a proof, laid together: The contract of the program on the number of dice that a roll uses. The law's own helpers on steps: handed over, compared, marked. How a board that came in is read: two rows of int64. -/
import Derived.Test.YtaedcmmomenilaaY20
import Derived.Test.YtaedcmmomenilaaY21
import Derived.Test.YtaedcmmomenilaaY04
import Derived.BigQuiet
import Derived.Test.YtaedcmmomenilaaY01
namespace Go.Proofs.Ytaedcmmomenilaa
open Go.ChangeShapes Go.WideShapes Go.ChangeAt Go.RowKit
set_option linter.unusedVariables false
set_option linter.unusedSimpArgs false

theorem usedL_levels (P : Nat) (h : Int) (xs ys : List Int) (OS : List (List Int)) (L : List LI) (hT : L.map (fun x => x.1.2) = OS) (hQ : ∀ x ∈ L, x.2.2.2.map (fun y => y.2.2.map (·.2)) = levels P h x.1.2 (startP xs ys)) :
    usedL L = (OS.map (fun o => longN P h o (startP xs ys))).foldl max 0 := by
  unfold usedL
  rw [← hT, List.map_map]
  congr 1
  refine List.map_congr_left fun x hx => ?_
  have := congrArg List.length (hQ x hx)
  rw [List.length_map, levels_length] at this
  show x.2.2.2.length - 1 = longN P h x.1.2 (startP xs ys)
  omega
theorem used_of {P : Nat} {h ra rb : Int} {xs ys : List Int} (g k : Nat) (L : List LI) (w : World) (hV : VRow w g (L.flatMap liC) 95) (hT : L.map (fun x => x.1.2) = ordersP ra rb) {F : LI → Prop} (hQ : ∀ x ∈ L, x.2.2.2.map (fun y => y.2.2.map (·.2)) = levels P h x.1.2 (startP xs ys) ∧ F x) :
    Calls Try.prog 44 #[.slice (some ⟨g, 0, none⟩) L.length k] w fun e w' => e = .returned (.int .i64 ((usedP P h xs ys ra rb : Nat) : Int)) ∧ Below w.heap.size w w' := by
  have hu : usedL L = usedP P h xs ys ra rb := usedL_levels P h xs ys _ L hT (fun x hx => (hQ x hx).1)
  have hlen : ∀ x ∈ L, x.2.2.2.length = longN P h x.1.2 (startP xs ys) + 1 := fun x hx => by
    have := congrArg List.length (hQ x hx).1
    rwa [List.length_map, levels_length] at this
  have ho4 : ∀ x ∈ L, x.1.2.length ≤ 4 := fun x hx => by
    have hm : x.1.2 ∈ ordersP ra rb := by rw [← hT]; exact List.mem_map.2 ⟨x, hx, rfl⟩
    unfold ordersP at hm
    split at hm
    · simp at hm; rw [hm]; simp
    · simp at hm; rcases hm with h | h <;> rw [h] <;> simp
  have hL2 : L.length ≤ 2 := by
    have := congrArg List.length hT
    rw [List.length_map] at this
    rw [this]
    exact ordersP_length ra rb
  have hto : ∀ i, usedLTo L i = usedTo P h xs ys (ordersP ra rb) i := fun i => by
    unfold usedLTo usedTo
    refine usedL_levels P h xs ys _ _ ?_ (fun x hx => (hQ x (List.mem_of_mem_take hx)).1)
    rw [← hT, List.map_take]
  have hle := usedTo_le P h xs ys ra rb
  rw [← hu]
  refine usedAll_any g k L w hV (fun x hx => ?_) (by omega) ?_ (fun i => ?_)
  · have h1 := hlen x hx
    have h2 := longN_le P h x.1.2 (startP xs ys)
    have h3 := ho4 x hx
    omega
  · have := hle (ordersP ra rb).length
    rw [usedTo_all] at this
    omega
  · rw [hto]
    have := hle i
    omega
set_option maxRecDepth 8000 in
set_option maxHeartbeats 1000000 in
theorem implDiceUsed_any (ra rb : Int) (p c h s : Int) (a1 a2 : Option Addr) (n1 n2 c1 c2 : Nat) (xs ys : List Int) (w : World) (h1 : xs.length = n1) (h2 : ys.length = n2) (l1 : n1 ≤ 1048576) (l2 : n2 ≤ 1048576) (r1 : IRow w a1 xs) (r2 : IRow w a2 ys) :
    Calls Try.prog 14 #[.agg #[.int .i64 p, .int .i64 c, .int .i64 h, .int .i64 s], .agg #[.slice a1 n1 c1, .slice a2 n2 c2], .agg #[.int .i64 ra, .int .i64 rb]] w fun e w' => e = .returned (duV p c h s xs ys ra rb) ∧ Below w.heap.size w w' := by
  have hC := fun W (q1 : IRow W a1 xs) (q2 : IRow W a2 ys) => rollCode_any ra rb p c h s a1 a2 n1 n2 c1 c2 xs ys W h1 h2 l1 l2 q1 q2
  unfold codeB at hC
  unfold duV
  by_cases g : isB p c h s xs ys = true
  · rw [if_pos g]
    rw [if_pos g] at hC
    obtain ⟨p0, p1, k0, k1, k2, k3, N1, N2, hx, hy, s0, s1, s2, s3⟩ := isB_parts g
    clear hx hy
    obtain ⟨P, rfl⟩ := Int.eq_ofNat_of_zero_le (by omega : 0 ≤ p)
    rw [show ((P : Int)).toNat = P by simp]
    obtain ⟨BV, BB, BR, hb, hz⟩ := three_new w #[.int .i64 (P : Int), .int .i64 c, .int .i64 h, .int .i64 s] #[.slice a1 n1 c1, .slice a2 n2 c2] #[.int .i64 ra, .int .i64 rb] 32 34 36
    clear hz
    obtain ⟨x0, x1, x2, x3, xf, xl⟩ := BV.four
    obtain ⟨y0, y1, yf, yl⟩ := BB.two
    obtain ⟨z0, z1, zf, zl⟩ := BR.two
    by_cases e : rlB s ra rb = true
    · rw [if_pos e] at hC
      rw [if_pos e]
      obtain ⟨e1, e2⟩ := rlB_two e
      have hU := fun W (q1 : IRow W a1 xs) (q2 : IRow W a2 ys) => listingsOf_any P c h s ra rb a1 a2 n1 n2 c1 c2 xs ys W h1 h2 q1 q2 g e1 e2
      have HU := Lib.hid hU
      have HC := Lib.hid hC
      clear hU hC e e1 e2 g
      go_enter Try.func14, Try.ntmps14
      go_wp2_with (first | (go_at_call 42; refine (HC.out _ (r1.below hb) (r2.below hb)).mono ?_; clear HC; rintro e w1 ⟨rfl, hb1⟩; obtain ⟨x0, x1, x2, x3, xf, xl⟩ := (BV.below hb1).four; obtain ⟨y0, y1, yf, yl⟩ := (BB.below hb1).two; obtain ⟨z0, z1, zf, zl⟩ := (BR.below hb1).two) | (go_at_call 43; refine (HU.out _ (r1.below (chain hb hb1)) (r2.below (chain hb hb1))).mono ?_; rintro e w2 ⟨gL, kL, L, rfl, -, -, hV, -, hT, hQ, hb2⟩; have HT := Lib.hid hT; have HQ := Lib.hid hQ; clear hT hQ) | (go_at_call 44; refine (used_of gL kL L w2 hV HT.out HQ.out).mono ?_; rintro e w3 ⟨rfl, hb3⟩))
      go_ret2
      exact ⟨rfl, chain (chain (chain hb hb1) hb2) hb3⟩
    · rw [if_neg e] at hC
      rw [if_neg e]
      have HC := Lib.hid hC
      clear hC e g
      go_enter Try.func14, Try.ntmps14
      go_wp2_with (first | (go_at_call 42; refine (HC.out _ (r1.below hb) (r2.below hb)).mono ?_; clear HC; rintro e w1 ⟨rfl, hb1⟩; obtain ⟨x0, x1, x2, x3, xf, xl⟩ := (BV.below hb1).four; obtain ⟨y0, y1, yf, yl⟩ := (BB.below hb1).two; obtain ⟨z0, z1, zf, zl⟩ := (BR.below hb1).two))
      go_ret2
      exact ⟨rfl, chain hb hb1⟩
  · rw [if_neg g]
    rw [if_neg g] at hC
    have HC := Lib.hid hC
    clear hC g
    obtain ⟨BV, BB, BR, hb, hz⟩ := three_new w #[.int .i64 p, .int .i64 c, .int .i64 h, .int .i64 s] #[.slice a1 n1 c1, .slice a2 n2 c2] #[.int .i64 ra, .int .i64 rb] 32 34 36
    clear hz
    obtain ⟨x0, x1, x2, x3, xf, xl⟩ := BV.four
    obtain ⟨y0, y1, yf, yl⟩ := BB.two
    obtain ⟨z0, z1, zf, zl⟩ := BR.two
    go_enter Try.func14, Try.ntmps14
    go_wp2_with (first | (go_at_call 42; refine (HC.out _ (r1.below hb) (r2.below hb)).mono ?_; clear HC; rintro e w1 ⟨rfl, hb1⟩; obtain ⟨x0, x1, x2, x3, xf, xl⟩ := (BV.below hb1).four; obtain ⟨y0, y1, yf, yl⟩ := (BB.below hb1).two; obtain ⟨z0, z1, zf, zl⟩ := (BR.below hb1).two))
    go_ret2
    exact ⟨rfl, chain hb hb1⟩
end Go.Proofs.Ytaedcmmomenilaa
namespace Go.Proofs.Ytaedcmmomenilaa
open Go.ChangeShapes Go.WideShapes Go.ChangeAt Go.RowKit
set_option linter.unusedVariables false
set_option linter.unusedSimpArgs false

set_option maxHeartbeats 1000000 in
theorem eqStep_same (s : Stp) (w : World) :
    Calls Try.prog 62 #[stV s, stV s] w fun e w' => e = .returned (.bool true) ∧ Below w.heap.size w w' := by
  obtain ⟨a, b, c, d⟩ := s
  have hb : Below w.heap.size w ((w.alloc (.cells #[.int .i64 a, .int .i64 b, .int .i64 c, .bool d] 89)).alloc (.cells #[.int .i64 a, .int .i64 b, .int .i64 c, .bool d] 89)) := ((Below.refl _ _).alloc (Nat.le_refl _) _).alloc (by simp) _
  go_enter Try.func62, Try.ntmps62
  go_wp2
  go_ret
  exact ⟨rfl, hb⟩
set_option maxHeartbeats 1000000 in
theorem toStep_any (s : Stp) (w : World) :
    Calls Try.prog 58 #[stV s] w fun e w' => e = .returned (stV s) ∧ Below w.heap.size w w' := by
  obtain ⟨a, b, c, d⟩ := s
  go_enter Try.func58, Try.ntmps58
  go_wp2
  refine bodyPost_ret (v := stV (a, b, c, d)) (by simp [results, Try.results58, go_sem]) rfl ⟨rfl, ?_⟩
  exact (((Below.refl _ _).alloc (Nat.le_refl _) _).alloc (by simp) _).alloc (by simp; omega) _
set_option maxRecDepth 8000 in
set_option maxHeartbeats 1000000 in
theorem eqStepS_same (lo hi lo2 hi2 : Nat) (a1 a2 : Option Addr) (n c1 c2 : Nat) (l : List Stp) (w : World) (hn : l.length = n) (hle : n ≤ 1048576) (h1 : OSt lo hi w a1 l) (h2 : OSt lo2 hi2 w a2 l) :
    Calls Try.prog 30 #[.slice a1 n c1, .slice a2 n c2] w fun e w' => e = .returned (.bool true) ∧ Below w.heap.size w w' := by
  subst hn
  go_enter Try.func30, Try.ntmps30
  go_wp2
  go_loopg [5] l.length (fun m i wr => ∃ k : Nat, k ≤ l.length ∧ m = l.length - k ∧ i = .int .i64 k ∧ Below w.heap.size w wr)
  case atStart => exact ⟨0, by omega, by omega, rfl, Below.refl _ _⟩
  case round =>
    obtain ⟨k, hk, hm, rfl, hbel⟩ := hrel
    by_cases hlt : k < l.length
    · have hlt' : (k : Int) < (l.length : Int) := by omega
      have hk0 : (0 : Int) ≤ (k : Int) := by omega
      have h1w := h1.below hbel
      have h2w := h2.below hbel
      obtain ⟨g1, rfl, R1⟩ := h1w.row hlt
      obtain ⟨g2, rfl, R2⟩ := h2w.row hlt
      obtain ⟨s, hs⟩ : ∃ s, l[k]? = some s := ⟨_, List.getElem?_eq_getElem hlt⟩
      obtain ⟨u0, u1, u2, u3⟩ := R1.four k s hs
      obtain ⟨v0, v1, v2, v3⟩ := R2.four k s hs
      clear h1w h2w hs h1 h2
      obtain ⟨a, b, c, d⟩ := s
      dsimp only at u0 u1 u2 u3 v0 v1 v2 v3
      go_wp2_with fail
      have hb := hbel
      refine wp_region_held_drew (S := fun w' => w'.cell? ⟨g1, k * 4, none⟩ = some (.int .i64 a) ∧ w'.cell? ⟨g1, k * 4 + 1, none⟩ = some (.int .i64 b) ∧ w'.cell? ⟨g1, k * 4 + 2, none⟩ = some (.int .i64 c) ∧ w'.cell? ⟨g1, k * 4 + 3, none⟩ = some (.bool d) ∧ w'.cell? ⟨g2, k * 4, none⟩ = some (.int .i64 a) ∧ w'.cell? ⟨g2, k * 4 + 1, none⟩ = some (.int .i64 b) ∧ w'.cell? ⟨g2, k * 4 + 2, none⟩ = some (.int .i64 c) ∧ w'.cell? ⟨g2, k * 4 + 3, none⟩ = some (.bool d) ∧ Below w.heap.size w w') (by kernel_rfl) ⟨u0, u1, u2, u3, v0, v1, v2, v3, hb.drew⟩ (fun hHeld => ?_)
      refine wpAnyH_take (i := 0) (oi := { dst := some 17, op := _, type := _, pos := _, after := _, guard := _ }) (v := ?_) rfl (by kernel_rfl) (by kernel_rfl) (by kernel_rfl) (fun _ _ _ h => h) (Or.inl ⟨by rfl, ?_⟩) (by assumption) ?_
      rotate_left
      · intro w hSw
        (try dsimp only at hSw)
        go_simp
        (try (with_reducible rfl))
      try simp only [Act.put, List.setIfInBounds_toArray, List.set_cons_zero, List.set_cons_succ]
      refine wpAnyH_take (i := 1) (oi := { dst := some 18, op := _, type := _, pos := _, after := _, guard := _ }) (v := ?_) rfl (by kernel_rfl) (by kernel_rfl) (by kernel_rfl) (fun _ _ _ h => h) (Or.inl ⟨by rfl, ?_⟩) (by assumption) ?_
      rotate_left
      · intro w hSw
        (try dsimp only at hSw)
        go_simp
        (try (with_reducible rfl))
      try simp only [Act.put, List.setIfInBounds_toArray, List.set_cons_zero, List.set_cons_succ]
      refine wpAnyH_take (i := 2) (oi := { dst := some 19, op := _, type := _, pos := _, after := _, guard := _ }) (v := ?_) rfl (by kernel_rfl) (by kernel_rfl) (by kernel_rfl) (fun _ _ _ h => h) (Or.inl ⟨by rfl, ?_⟩) (by assumption) ?_
      rotate_left
      · intro w hSw
        (try dsimp only at hSw)
        go_simp
        (try (with_reducible rfl))
      try simp only [Act.put, List.setIfInBounds_toArray, List.set_cons_zero, List.set_cons_succ]
      refine wpAnyH_take (i := 3) (oi := { dst := some 20, op := _, type := _, pos := _, after := _, guard := _ }) (v := ?_) rfl (by kernel_rfl) (by kernel_rfl) (by kernel_rfl) (fun _ _ _ h => h) (Or.inl ⟨by rfl, ?_⟩) (by assumption) ?_
      rotate_left
      · intro w hSw
        (try dsimp only at hSw)
        go_simp
        (try (with_reducible rfl))
      try simp only [Act.put, List.setIfInBounds_toArray, List.set_cons_zero, List.set_cons_succ]
      refine wpAnyH_take (i := 4) (oi := { dst := some 21, op := _, type := _, pos := _, after := _, guard := _ }) (v := ?_) rfl (by kernel_rfl) (by kernel_rfl) (by kernel_rfl) (fun _ _ _ h => h) (Or.inl ⟨by rfl, ?_⟩) (by assumption) ?_
      rotate_left
      · intro w hSw
        (try dsimp only at hSw)
        go_simp
        (try (with_reducible rfl))
      try simp only [Act.put, List.setIfInBounds_toArray, List.set_cons_zero, List.set_cons_succ]
      refine wpAnyH_take (i := 5) (oi := { dst := some 22, op := _, type := _, pos := _, after := _, guard := _ }) (v := ?_) rfl (by kernel_rfl) (by kernel_rfl) (by kernel_rfl) (fun _ _ _ h => h) (Or.inl ⟨by rfl, ?_⟩) (by assumption) ?_
      rotate_left
      · intro w hSw
        (try dsimp only at hSw)
        go_simp
        (try (with_reducible rfl))
      try simp only [Act.put, List.setIfInBounds_toArray, List.set_cons_zero, List.set_cons_succ]
      refine wpAnyH_take (i := 6) (oi := { dst := some 23, op := _, type := _, pos := _, after := _, guard := _ }) (v := ?_) rfl (by kernel_rfl) (by kernel_rfl) (by kernel_rfl) (fun _ _ _ h => h) (Or.inl ⟨by rfl, ?_⟩) (by assumption) ?_
      rotate_left
      · intro w hSw
        (try dsimp only at hSw)
        go_simp
        (try (with_reducible rfl))
      try simp only [Act.put, List.setIfInBounds_toArray, List.set_cons_zero, List.set_cons_succ]
      refine wpAnyH_take (i := 7) (oi := { dst := some 24, op := _, type := _, pos := _, after := _, guard := _ }) (v := ?_) rfl (by kernel_rfl) (by kernel_rfl) (by kernel_rfl) (fun _ _ _ h => h) (Or.inl ⟨by rfl, ?_⟩) (by assumption) ?_
      rotate_left
      · intro w hSw
        (try dsimp only at hSw)
        go_simp
        (try (with_reducible rfl))
      try simp only [Act.put, List.setIfInBounds_toArray, List.set_cons_zero, List.set_cons_succ]
      refine wpAnyH_ready (rs := [8]) (by kernel_rfl) (by simp) ?_
      refine AllReadyH.cons (o := { dst := some 25, op := _, type := _, pos := _, after := _, guard := _ }) rfl (fun K hK => ?_) AllReadyH.nil
      go_simp
      refine (eqStep_same (a, b, c, d) _).mono ?_
      rintro e w5 ⟨rfl, hb5⟩
      have hbn := chain hHeld.2.2.2.2.2.2.2.2 hb5
      (try go_wp2_with fail)
      refine hK.out _ _ ⟨(CellIs.below hHeld.1 hb5), (CellIs.below hHeld.2.1 hb5), (CellIs.below hHeld.2.2.1 hb5), (CellIs.below hHeld.2.2.2.1 hb5), (CellIs.below hHeld.2.2.2.2.1 hb5), (CellIs.below hHeld.2.2.2.2.2.1 hb5), (CellIs.below hHeld.2.2.2.2.2.2.1 hb5), (CellIs.below hHeld.2.2.2.2.2.2.2.1 hb5), hbn⟩ (fun hHeld => ?_)
      clear hK K
      try simp only [Act.put, List.setIfInBounds_toArray, List.set_cons_zero, List.set_cons_succ]
      refine wpAnyH_take (i := 9) (oi := { dst := some 26, op := _, type := _, pos := _, after := _, guard := _ }) (v := ?_) rfl (by kernel_rfl) (by kernel_rfl) (by kernel_rfl) (fun _ _ _ h => h) (Or.inl ⟨by rfl, ?_⟩) (by assumption) ?_
      rotate_left
      · intro w hSw
        (try dsimp only at hSw)
        go_simp
        (try (with_reducible rfl))
      try simp only [Act.put, List.setIfInBounds_toArray, List.set_cons_zero, List.set_cons_succ]
      refine wpAnyH_done (by kernel_rfl) ?_ _
      go_wp2
      go_roundg (l.length - (k + 1))
      case measure => omega
      case rel => exact ⟨k + 1, by omega, rfl, by go_num, hHeld.2.2.2.2.2.2.2.2⟩
    · obtain rfl : k = l.length := by omega
      go_wp2
      go_ret
      exact ⟨rfl, hbel⟩
/-- The marks that the law writes into steps. -/
def mkS (k : Int) (n : Nat) : List Stp := (List.range n).map fun (j : Nat) => (k + 4 * (j : Int), k + 4 * (j : Int) + 1, k + 4 * (j : Int) + 1 + 1, (k + 4 * (j : Int) + 1 + 1 + 1) % 3 == 0)
theorem mkS_length (k : Int) (n : Nat) : (mkS k n).length = n := by simp [mkS]
theorem mkS_succ (k : Int) (n : Nat) : mkS k (n + 1) = mkS k n ++ [(k + 4 * (n : Int), k + 4 * (n : Int) + 1, k + 4 * (n : Int) + 1 + 1, (k + 4 * (n : Int) + 1 + 1 + 1) % 3 == 0)] := by simp [mkS, List.range_succ]
theorem mkS_get (k : Int) (n j : Nat) (h : j < n) : (mkS k n)[j]? = some (k + 4 * (j : Int), k + 4 * (j : Int) + 1, k + 4 * (j : Int) + 1 + 1, (k + 4 * (j : Int) + 1 + 1 + 1) % 3 == 0) := by simp [mkS, h]
theorem set4_app (A B : List Value) (v0 v1 v2 v3 x0 x1 x2 x3 : Value) (n : Nat) (hn : A.length = n) :
    (((((A ++ v0 :: v1 :: v2 :: v3 :: B).set n x0).set (n + 1) x1).set (n + 2) x2).set (n + 3) x3) = A ++ x0 :: x1 :: x2 :: x3 :: B := by
  subst hn
  simp [List.set_append, Nat.add_sub_cancel_left]
theorem stepsC_drop : ∀ (l : List Stp) (j : Nat) (s : Stp), l[j]? = some s → (stepsC l).drop (j * 4) = .int .i64 s.1 :: .int .i64 s.2.1 :: .int .i64 s.2.2.1 :: .bool s.2.2.2 :: (stepsC l).drop ((j + 1) * 4)
  | [], j, s, h => by simp at h
  | x :: l, 0, s, h => by
    simp at h
    subst h
    simp [stepsC, stC]
  | x :: l, j + 1, s, h => by
    have ih := stepsC_drop l j s (by simpa using h)
    have e1 : (j + 1) * 4 = j * 4 + 4 := by omega
    have e2 : (j + 1 + 1) * 4 = (j + 1) * 4 + 4 := by omega
    rw [e1, e2]
    exact ih
set_option maxRecDepth 8000 in
set_option maxHeartbeats 2000000 in
theorem markStepS_any (g : Nat) (n cap : Nat) (l : List Stp) (k : Int) (w : World) (hn : l.length = n) (hle : n ≤ 1048576) (hk0 : 0 ≤ k) (hk1 : k ≤ 1000000000) (hR : SRow w g l) :
    Calls Try.prog 31 #[.slice (some ⟨g, 0, none⟩) n cap, .int .i64 k] w fun e w' => e = .returned (.int .i64 (k + 4 * (n : Int))) ∧ SRow w' g (mkS k n) ∧ w.grownBy w' (some g) := by
  subst hn
  go_enter Try.func31, Try.ntmps31
  go_wp2
  go_loopg [1, 5] l.length (fun m q i wr => ∃ j : Nat, j ≤ l.length ∧ m = l.length - j ∧ i = .int .i64 j ∧ q = .int .i64 (k + 4 * (j : Int)) ∧ VRow wr g (stepsC (mkS k j) ++ (stepsC l).drop (j * 4)) 89 ∧ w.grownBy wr (some g))
  case atStart => exact ⟨0, by omega, by omega, rfl, by simp, by simpa [mkS, stepsC] using hR, grown_refl _ _⟩
  case round =>
    obtain ⟨j, hj, hm, rfl, rfl, hr, hG⟩ := hrel
    by_cases hlt : j < l.length
    · have hlt' : (j : Int) < (l.length : Int) := by omega
      obtain ⟨s, hs⟩ : ∃ s, l[j]? = some s := ⟨_, List.getElem?_eq_getElem hlt⟩
      have hA : (stepsC (mkS k j)).length = j * 4 := by rw [stepsC_length, mkS_length]
      rw [stepsC_drop l j s hs] at hr
      have f0 := fun i => hr.free i
      have c0 := hr.cell (j * 4) (.int .i64 s.1) (by rw [List.getElem?_append_right (by omega), hA]; simp)
      have c1 := hr.cell (j * 4 + 1) (.int .i64 s.2.1) (by rw [List.getElem?_append_right (by omega), hA]; simp)
      have c2 := hr.cell (j * 4 + 2) (.int .i64 s.2.2.1) (by rw [List.getElem?_append_right (by omega), hA]; simp)
      have c3 := hr.cell (j * 4 + 3) (.bool s.2.2.2) (by rw [List.getElem?_append_right (by omega), hA]; simp)
      have hR2 := ((((hr.set (j * 4) (.int .i64 (k + 4 * (j : Int)))).set (j * 4 + 1) (.int .i64 (k + 4 * (j : Int) + 1))).set (j * 4 + 2) (.int .i64 (k + 4 * (j : Int) + 1 + 1))).set (j * 4 + 3) (.bool ((k + 4 * (j : Int) + 1 + 1 + 1) % 3 == 0))).wf (set4_app _ _ _ _ _ _ _ _ _ _ _ hA)
      have hR3 := Lib.hid (hR2.wf (show _ = stepsC (mkS k (j + 1)) ++ (stepsC l).drop ((j + 1) * 4) by rw [mkS_succ, stepsC_append]; simp [stepsC, stC]))
      have hG3 := Lib.hid (grown_set (v := .bool ((k + 4 * (j : Int) + 1 + 1 + 1) % 3 == 0)) (o := j * 4 + 3) (grown_set (v := .int .i64 (k + 4 * (j : Int) + 1 + 1)) (o := j * 4 + 2) (grown_set (v := .int .i64 (k + 4 * (j : Int) + 1)) (o := j * 4 + 1) (grown_set (v := .int .i64 (k + 4 * (j : Int))) (o := j * 4) hG))))
      clear hR2 hr hs hA
      go_wp2
      go_roundg (l.length - (j + 1))
      case measure => omega
      case rel =>
        exact ⟨j + 1, by omega, rfl, by go_num, by go_num, hR3.out, hG3.out⟩
    · obtain rfl : j = l.length := by omega
      have hfin := Lib.hid hr
      clear hr
      go_wp2
      go_ret
      refine ⟨rfl, hfin.out.wf ?_, hG⟩
      rw [List.drop_eq_nil_of_le (by rw [stepsC_length]; omega), List.append_nil]
set_option maxHeartbeats 1000000 in
theorem markStepS_nil (cap : Nat) (k : Int) (w : World) :
    Calls Try.prog 31 #[.slice none 0 cap, .int .i64 k] w fun e w' => e = .returned (.int .i64 k) ∧ w = w' := by
  go_enter Try.func31, Try.ntmps31
  go_wp2
  refine wp_loop_rounds 1 ?_
  rw [rounds_succ]
  go_wp2
  go_ret
  exact ⟨rfl, rfl⟩
/-- Marking steps of the call's own: they alone change. -/
theorem markSt_own (lo hi : Nat) (a : Option Addr) (n cap : Nat) (l : List Stp) (k : Int) (w : World) (hn : l.length = n) (hle : n ≤ 1048576) (k0 : 0 ≤ k) (k1 : k ≤ 1000000000) (h : OSt lo hi w a l) :
    Calls Try.prog 31 #[.slice a n cap, .int .i64 k] w fun e w' => e = .returned (.int .i64 (k + 4 * (n : Int))) ∧ OSt lo hi w' a (mkS k n) ∧ Same lo hi w w' := by
  rcases h with ⟨rfl, rfl⟩ | ⟨g, rfl, h1, h2, r⟩
  · obtain rfl : 0 = n := hn
    refine (markStepS_nil cap k w).mono ?_
    rintro e w' ⟨rfl, rfl⟩
    exact ⟨by simp, .inl ⟨rfl, rfl⟩, rfl, rfl, rfl, Nat.le_refl _, fun i hi _ => rfl⟩
  · refine (markStepS_any g n cap l k w hn hle k0 k1 r).mono ?_
    rintro e w' ⟨rfl, q, hg⟩
    exact ⟨rfl, .inr ⟨g, rfl, h1, h2, q⟩, hg.os, hg.tape, hg.output, hg.size, fun i hi ho => hg.block i hi (fun e => by cases e; omega)⟩
set_option maxRecDepth 8000 in
set_option maxHeartbeats 2000000 in
theorem heldStepS_any (lo hi : Nat) (a : Option Addr) (n cap : Nat) (k : Int) (w : World) (hle : n ≤ 1048576) (hk0 : 0 ≤ k) (hk1 : k ≤ 1000000000) (hr : OSt lo hi w a (mkS k n)) :
    Calls Try.prog 64 #[.slice a n cap, .int .i64 k] w fun e w' => e = .returned (.int .i64 (k + 4 * (n : Int))) ∧ w = w' := by
  go_enter Try.func64, Try.ntmps64
  go_wp2
  go_loopg [1, 5] n (fun m q i wr => w = wr ∧ ∃ j : Nat, j ≤ n ∧ m = n - j ∧ i = .int .i64 j ∧ q = .int .i64 (k + 4 * (j : Int)))
  case atStart => exact ⟨rfl, 0, by omega, by omega, rfl, by simp⟩
  case round =>
    obtain ⟨rfl, j, hj, hm, rfl, rfl⟩ := hrel
    by_cases hlt : j < n
    · have hlt' : (j : Int) < (n : Int) := by omega
      obtain ⟨g, rfl, R⟩ := hr.row (k := j) (by rw [mkS_length]; exact hlt)
      obtain ⟨u0, u1, u2, u3⟩ := R.four j _ (mkS_get k n j hlt)
      dsimp only at u0 u1 u2 u3
      clear R hr
      go_wp2
      go_roundg (n - (j + 1))
      case measure => omega
      case rel => exact ⟨rfl, j + 1, by omega, rfl, by go_num, by go_num⟩
    · obtain rfl : j = n := by omega
      clear hr
      go_wp2
      go_ret
      exact ⟨rfl, rfl⟩
end Go.Proofs.Ytaedcmmomenilaa
namespace Go.Proofs.Ytaedcmmomenilaa
open Go.ChangeShapes Go.WideShapes Go.ChangeAt Go.RowKit
set_option linter.unusedVariables false
set_option linter.unusedSimpArgs false

theorem open_row {H : Type} {enc : TypeId × Value → H} {w : World} {base : Nat} {spare : Nat → Bool} {held : Bool} {fuel : Nat} {v : Value} {x : DataW H × List MemPlace}
    (h : DataW.trod enc Try.prog w base spare held fuel 24 [v] = some x) :
    ∃ (a : Option Addr) (n cap : Nat) (xs : List Int), v = .slice a n cap ∧ xs.length = n ∧ n ≤ 9223372036854775807 ∧ IRow w a xs ∧ ∀ y ∈ xs, (Lit.int .i64 y).wf = true := by
  rcases open_ints Try.underlying24 Try.underlying2 (by kernel_rfl) h with ⟨hcs, _⟩ | ⟨x, l, c, zs, hcs, _, hl, hm, hz, _, hcell, hwz⟩
  · simp at hcs
    exact ⟨none, 0, 0, [], hcs, rfl, by omega, IRow.nil _ _, by simp⟩
  · simp at hcs
    have hlz : l ≤ zs.length := by rw [hz]; split <;> omega
    refine ⟨some x, l, c, zs.take l, hcs, by simp; omega, by unfold maxLen at hm; omega, ?_, fun y hy => hwz y (List.mem_of_mem_take hy)⟩
    intro i hi
    have hi2 : i < l := by simp at hi; omega
    have hc := hcell i (by omega)
    obtain ⟨b, o, spot⟩ := x
    have hspot : spot = none := by
      have hc0 := hcell 0 (by omega)
      simpa [Addr.add] using World.cell?_spot hc0
    subst hspot
    refine ⟨b, o, rfl, ?_⟩
    rw [show (⟨b, o, none⟩ : Addr).add i = ⟨b, o + i, none⟩ from by unfold Addr.add; split <;> simp_all] at hc
    rw [hc]
    simp [List.getD, hi2]
end Go.Proofs.Ytaedcmmomenilaa
