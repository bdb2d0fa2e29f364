/- Contract of the model's step from a place. -/
import Derived.Test.Ytokjkcnjmfbfiaa04h
namespace Go.Proofs.Ytokjkcnjmfbfiaa
open Go.ChangeShapes Go.WideShapes Go.ChangeAt Go.RowKit
set_option linter.unusedVariables false
set_option linter.unusedSimpArgs false
set_option maxRecDepth 4000

set_option maxRecDepth 8000 in
set_option maxHeartbeats 2000000 in
theorem l04Step_posP (P : Nat) (c h s : Int) (a1 a2 : Option Addr) (n1 n2 c1 c2 : Nat) (xs ys : List Int) (w : World) (h1 : xs.length = n1) (h2 : ys.length = n2) (p0 : 2 ≤ P) (p1 : P ≤ 24) (N1 : xs.length = P + 1) (N2 : ys.length = P + 1) (hh0 : 1 ≤ h) (hh : h ≤ (P : Int)) (hx : ∀ x ∈ xs, 0 ≤ x ∧ x ≤ 1000) (hy : ∀ y ∈ ys, 0 ≤ y ∧ y ≤ 1000) (r1 : IRow w a1 xs) (r2 : IRow w a2 ys) (d : Int) (d0 : 1 ≤ d) (d1 : d ≤ 1000) (g3 : overB xs ys = false) (gp : 0 < xs.getD P 0) (t : Nat) (ht : (P : Int) - d = (t : Int)) :
    Calls Try.prog 128 #[.agg #[.int .i64 (P : Int), .int .i64 c, .int .i64 h, .int .i64 s], .agg #[.slice a1 n1 c1, .slice a2 n2 c2], .int .i64 (P : Int), .int .i64 d] w (StepGot (if ys.getD (P - 1 - t) 0 ≤ 1 then some ((P : Int), (t : Int), d, decide (ys.getD (P - 1 - t) 0 = 1)) else none) w) := by
  have ho0 := fun W (hW : Below w.heap.size w W) => l02Over_any a1 a2 n1 n2 c1 c2 xs ys W h1 h2 (by omega) (by omega) hx hy (r1.below hW) (r2.below hW)
  have hop := fun W (hW : Below w.heap.size w W) => l04Open_any P c h s a1 a2 n1 n2 c1 c2 xs ys W h1 h2 p0 p1 N1 N2 hh0 hh hx hy (r1.below hW) (r2.below hW) t (by omega)
  rw [g3] at ho0
  have HOV := Lib.hid ho0
  obtain ⟨b, ob, rfl, -⟩ := r1 0 (by omega)
  have hck : ∀ W, Below w.heap.size w W → W.cell? ⟨b, ob + P, none⟩ = some (.int .i64 (xs.getD P 0)) := fun W hW => by
    obtain ⟨b', o', e, hc⟩ := r1.below hW P (by omega)
    simp at e
    obtain ⟨rfl, rfl⟩ := e
    exact hc
  have hcp : ∀ W, Below w.heap.size w W → W.cell? ⟨b, ob + P, none⟩ = some (.int .i64 (xs.getD P 0)) := fun W hW => by
    obtain ⟨b', o', e, hc⟩ := r1.below hW P (by omega)
    simp at e
    obtain ⟨rfl, rfl⟩ := e
    exact hc
  have hkn : P < n1 := by omega
  have hPn : P < n1 := by omega
  have hkI : (P : Int) < (n1 : Int) := by omega
  have hPI : (P : Int) < (n1 : Int) := by omega
  have hk0 : (0 : Int) ≤ (P : Int) := by omega
  obtain ⟨u, hu⟩ : ∃ u, xs.getD P 0 = u := ⟨_, rfl⟩
  obtain ⟨v, hv⟩ : ∃ v, xs.getD P 0 = v := ⟨_, rfl⟩
  have hv0 : 0 ≤ v := by rw [← hv]; exact (hx _ (getD_mem (show P < xs.length by omega))).1
  rw [hu] at hck
  rw [hv] at hcp
  have HC1 := Lib.hid hck
  have HC2 := Lib.hid hcp
  
  rw [hv] at gp
  have g0 : ¬ v = 0 := by omega
  have huv : u = v := by rw [← hu, hv]
  subst huv
  have ht0 : (0 : Int) ≤ (t : Int) := by omega
  have eu : (u == 0) = false := by simpa using g0
  have tP : t < P := by omega
  have tPI : (t : Int) < (P : Int) := by omega
  obtain ⟨b2, o2, rfl, -⟩ := r2 0 (by omega)
  have hcz : ∀ W, Below w.heap.size w W → W.cell? ⟨b2, o2 + (P - 1 - t), none⟩ = some (.int .i64 (ys.getD (P - 1 - t) 0)) := fun W hW => by
    obtain ⟨b', o', e, hc⟩ := r2.below hW (P - 1 - t) (by omega)
    simp at e
    obtain ⟨rfl, rfl⟩ := e
    exact hc
  have e1 : ((P : Int) - 1 - (t : Int)) = ((P - 1 - t : Nat) : Int) := by omega
  have hlt : P - 1 - t < n2 := by omega
  have hltI : ((P - 1 - t : Nat) : Int) < (n2 : Int) := by omega
  have hz0 : 0 ≤ ys.getD (P - 1 - t) 0 ∧ ys.getD (P - 1 - t) 0 ≤ 1000 := hy _ (getD_mem (show P - 1 - t < ys.length by omega))
  obtain ⟨z, hz⟩ : ∃ z, ys.getD (P - 1 - t) 0 = z := ⟨_, rfl⟩
  obtain ⟨K, hK⟩ : ∃ K, P - 1 - t = K := ⟨_, rfl⟩
  rw [hz] at hcz hop hz0 ⊢
  rw [hK] at hcz e1 hlt hltI
  have z0 : 0 ≤ z := hz0.1
  have z9 : z ≤ 1000 := hz0.2
  have wz1 : IntKind.i64.wrap (IntKind.i64.wrap ((P : Int) - 1) - (t : Int)) = (K : Int) := by rw [IntWalk.i64_in ((P : Int) - 1) (by omega), e1]; exact IntWalk.i64_in _ (by omega)
  have hk24 : (P : Int) ≤ 24 := by omega
  obtain ⟨RS, hRS⟩ : ∃ RS, (if z ≤ 1 then some ((P : Int), (t : Int), d, decide (z = 1)) else (none : Option Stp)) = RS := ⟨_, rfl⟩
  rw [hRS]
  have HRS := Lib.hid hRS
  clear hRS
  have hb2w : b2 < w.heap.size := World.block_lt_of_cell? w _ (hcz w (Below.refl _ _))
  have HCZ := Lib.hid hcz
  have HOP := Lib.hid hop
  clear ho0 g3 hck hcp hu hv hx hy r1 r2 hop hcz hz hK e1 hz0
  obtain ⟨BV, BB, BR, hb, hz⟩ := three_new w #[.int .i64 (P : Int), .int .i64 c, .int .i64 h, .int .i64 s] #[.slice (some ⟨b, ob, none⟩) n1 c1, .slice (some ⟨b2, o2, none⟩) n2 c2] #[.int .i64 0, .int .i64 0, .int .i64 0, .bool false] 32 34 112
  obtain ⟨x0, x1, x2, x3, xf, xl⟩ := BV.four
  obtain ⟨y0, y1, yf, yl⟩ := BB.two
  obtain ⟨s0, s1, s2, s3, sf, sl⟩ := BR.four
  go_enter Try.func128, Try.ntmps128
  go_wp2_with (go_at_call 135; refine (HOV.out _ hb).mono ?_; rintro e w1 ⟨rfl, hb1⟩; obtain ⟨x0, x1, x2, x3, xf, xl⟩ := (BV.below hb1).four; obtain ⟨y0, y1, yf, yl⟩ := (BB.below hb1).two; obtain ⟨s0, s1, s2, s3, sf, sl⟩ := (BR.below hb1).four; have ck := HC1.out w1 (chain hb hb1); have cp := HC2.out w1 (chain hb hb1))
  have CN : CellIs w1 b2 (o2 + K) (.int .i64 z) := HCZ.out w1 (chain hb hb1)
  replace BV := BV.below hb1
  replace BB := BB.below hb1
  replace BR : Res4 w1 (w.heap.size + 1 + 1) 112 := ⟨_, _, _, _, BR.below hb1⟩
  replace hb := chain hb hb1
  replace BV := BV.drew
  replace BB := BB.drew
  replace BR := BR.drew
  replace CN := CN.drew
  replace hb := hb.drew
  refine wp_region_held_drew (S := fun w' => w'.cell? ⟨w.heap.size, 0, none⟩ = some (.int .i64 (P : Int)) ∧ w'.cell? ⟨w.heap.size, 1, none⟩ = some (.int .i64 c) ∧ w'.cell? ⟨w.heap.size, 2, none⟩ = some (.int .i64 h) ∧ w'.cell? ⟨w.heap.size, 3, none⟩ = some (.int .i64 s) ∧ w'.cell? ⟨(w.heap.size + 1), 0, none⟩ = some (.slice (some ⟨b, ob, none⟩) n1 c1) ∧ w'.cell? ⟨(w.heap.size + 1), 1, none⟩ = some (.slice (some ⟨b2, o2, none⟩) n2 c2) ∧ w'.cell? ⟨b2, o2 + K, none⟩ = some (.int .i64 z) ∧ Blk w' w.heap.size #[.int .i64 (P : Int), .int .i64 c, .int .i64 h, .int .i64 s] 32 ∧ Blk w' ((w.heap.size + 1)) #[.slice (some ⟨b, ob, none⟩) n1 c1, .slice (some ⟨b2, o2, none⟩) n2 c2] 34 ∧ (Res4 w' (w.heap.size + 1 + 1) 112) ∧ (CellIs w' b2 (o2 + K) (.int .i64 z)) ∧ Below w.heap.size w w') (by kernel_rfl) ⟨BV.four.1, BV.four.2.1, BV.four.2.2.1, BV.four.2.2.2.1, BB.two.1, BB.two.2.1, CN, BV, BB, BR, CN, hb⟩ (fun hHeld => ?_)
  refine wpAnyH_take (i := 0) (oi := { dst := some 43, op := _, type := _, pos := _, after := _, guard := _ }) (v := ?_) rfl (by kernel_rfl) (by kernel_rfl) (by kernel_rfl) (fun _ _ _ h => h) (Or.inl ⟨by rfl, ?_⟩) (by assumption) ?_
  rotate_left
  · intro w hSw
    (try dsimp only at hSw)
    go_simp
    (try (with_reducible rfl))
  try simp only [Act.put, List.setIfInBounds_toArray, List.set_cons_zero, List.set_cons_succ]
  refine wpAnyH_take (i := 1) (oi := { dst := some 44, op := _, type := _, pos := _, after := _, guard := _ }) (v := ?_) rfl (by kernel_rfl) (by kernel_rfl) (by kernel_rfl) (fun _ _ _ h => h) (Or.inl ⟨by rfl, ?_⟩) (by assumption) ?_
  rotate_left
  · intro w hSw
    (try dsimp only at hSw)
    go_simp
    (try (with_reducible rfl))
  try simp only [Act.put, List.setIfInBounds_toArray, List.set_cons_zero, List.set_cons_succ]
  refine wpAnyH_take (i := 2) (oi := { dst := some 45, op := _, type := _, pos := _, after := _, guard := _ }) (v := ?_) rfl (by kernel_rfl) (by kernel_rfl) (by kernel_rfl) (fun _ _ _ h => h) (Or.inl ⟨by rfl, ?_⟩) (by assumption) ?_
  rotate_left
  · intro w hSw
    (try dsimp only at hSw)
    go_simp
    (try (with_reducible rfl))
  try simp only [Act.put, List.setIfInBounds_toArray, List.set_cons_zero, List.set_cons_succ]
  refine wpAnyH_take (i := 3) (oi := { dst := some 46, op := _, type := _, pos := _, after := _, guard := _ }) (v := ?_) rfl (by kernel_rfl) (by kernel_rfl) (by kernel_rfl) (fun _ _ _ h => h) (Or.inl ⟨by rfl, ?_⟩) (by assumption) ?_
  rotate_left
  · intro w hSw
    (try dsimp only at hSw)
    go_simp
    (try (with_reducible rfl))
  try simp only [Act.put, List.setIfInBounds_toArray, List.set_cons_zero, List.set_cons_succ]
  refine wpAnyH_take (i := 4) (oi := { dst := some 47, op := _, type := _, pos := _, after := _, guard := _ }) (v := ?_) rfl (by kernel_rfl) (by kernel_rfl) (by kernel_rfl) (fun _ _ _ h => h) (Or.inl ⟨by rfl, ?_⟩) (by assumption) ?_
  rotate_left
  · intro w hSw
    (try dsimp only at hSw)
    go_simp
    (try (with_reducible rfl))
  try simp only [Act.put, List.setIfInBounds_toArray, List.set_cons_zero, List.set_cons_succ]
  refine wpAnyH_take (i := 5) (oi := { dst := some 48, op := _, type := _, pos := _, after := _, guard := _ }) (v := ?_) rfl (by kernel_rfl) (by kernel_rfl) (by kernel_rfl) (fun _ _ _ h => h) (Or.inl ⟨by rfl, ?_⟩) (by assumption) ?_
  rotate_left
  · intro w hSw
    (try dsimp only at hSw)
    go_simp
    (try (with_reducible rfl))
  try simp only [Act.put, List.setIfInBounds_toArray, List.set_cons_zero, List.set_cons_succ]
  refine wpAnyH_take (i := 6) (oi := { dst := some 49, op := _, type := _, pos := _, after := _, guard := _ }) (v := ?_) rfl (by kernel_rfl) (by kernel_rfl) (by kernel_rfl) (fun _ _ _ h => h) (Or.inl ⟨by rfl, ?_⟩) (by assumption) ?_
  rotate_left
  · intro w hSw
    (try dsimp only at hSw)
    go_simp
    (try (with_reducible rfl))
  try simp only [Act.put, List.setIfInBounds_toArray, List.set_cons_zero, List.set_cons_succ]
  refine wpAnyH_take (i := 7) (oi := { dst := some 50, op := _, type := _, pos := _, after := _, guard := _ }) (v := ?_) rfl (by kernel_rfl) (by kernel_rfl) (by kernel_rfl) (fun _ _ _ h => h) (Or.inl ⟨by rfl, ?_⟩) (by assumption) ?_
  rotate_left
  · intro w hSw
    (try dsimp only at hSw)
    go_simp
    (try (with_reducible rfl))
  try simp only [Act.put, List.setIfInBounds_toArray, List.set_cons_zero, List.set_cons_succ]
  refine wpAnyH_take (i := 8) (oi := { dst := some 51, op := _, type := _, pos := _, after := _, guard := _ }) (v := ?_) rfl (by kernel_rfl) (by kernel_rfl) (by kernel_rfl) (fun _ _ _ h => h) (Or.inl ⟨by rfl, ?_⟩) (by assumption) ?_
  rotate_left
  · intro w hSw
    (try dsimp only at hSw)
    go_simp
    (try (with_reducible rfl))
  try simp only [Act.put, List.setIfInBounds_toArray, List.set_cons_zero, List.set_cons_succ]
  refine wpAnyH_take (i := 9) (oi := { dst := some 52, op := _, type := _, pos := _, after := _, guard := _ }) (v := ?_) rfl (by kernel_rfl) (by kernel_rfl) (by kernel_rfl) (fun _ _ _ h => h) (Or.inl ⟨by rfl, ?_⟩) (by assumption) ?_
  rotate_left
  · intro w hSw
    (try dsimp only at hSw)
    go_simp
    (try (with_reducible rfl))
  try simp only [Act.put, List.setIfInBounds_toArray, List.set_cons_zero, List.set_cons_succ]
  refine wpAnyH_take (i := 10) (oi := { dst := some 53, op := _, type := _, pos := _, after := _, guard := _ }) (v := ?_) rfl (by kernel_rfl) (by kernel_rfl) (by kernel_rfl) (fun _ _ _ h => h) (Or.inl ⟨by rfl, ?_⟩) (by assumption) ?_
  rotate_left
  · intro w hSw
    (try dsimp only at hSw)
    go_simp
    (try (with_reducible rfl))
  try simp only [Act.put, List.setIfInBounds_toArray, List.set_cons_zero, List.set_cons_succ]
  refine wpAnyH_take (i := 11) (oi := { dst := some 54, op := _, type := _, pos := _, after := _, guard := _ }) (v := ?_) rfl (by kernel_rfl) (by kernel_rfl) (by kernel_rfl) (fun _ _ _ h => h) (Or.inl ⟨by rfl, ?_⟩) (by assumption) ?_
  rotate_left
  · intro w hSw
    (try dsimp only at hSw)
    go_simp
    (try (with_reducible rfl))
  try simp only [Act.put, List.setIfInBounds_toArray, List.set_cons_zero, List.set_cons_succ]
  refine wpAnyH_take (i := 12) (oi := { dst := some 55, op := _, type := _, pos := _, after := _, guard := _ }) (v := ?_) rfl (by kernel_rfl) (by kernel_rfl) (by kernel_rfl) (fun _ _ _ h => h) (Or.inl ⟨by rfl, ?_⟩) (by assumption) ?_
  rotate_left
  · intro w hSw
    (try dsimp only at hSw)
    go_simp
    (try (with_reducible rfl))
  try simp only [Act.put, List.setIfInBounds_toArray, List.set_cons_zero, List.set_cons_succ]
  refine wpAnyH_take (i := 13) (oi := { dst := some 56, op := _, type := _, pos := _, after := _, guard := _ }) (v := ?_) rfl (by kernel_rfl) (by kernel_rfl) (by kernel_rfl) (fun _ _ _ h => h) (Or.inl ⟨by rfl, ?_⟩) (by assumption) ?_
  rotate_left
  · intro w hSw
    (try dsimp only at hSw)
    go_simp
    (try (with_reducible rfl))
  try simp only [Act.put, List.setIfInBounds_toArray, List.set_cons_zero, List.set_cons_succ]
  refine wpAnyH_take (i := 14) (oi := { dst := some 57, op := _, type := _, pos := _, after := _, guard := _ }) (v := ?_) rfl (by kernel_rfl) (by kernel_rfl) (by kernel_rfl) (fun _ _ _ h => h) (Or.inl ⟨by rfl, ?_⟩) (by assumption) ?_
  rotate_left
  · intro w hSw
    (try dsimp only at hSw)
    go_simp
    (try (with_reducible rfl))
  try simp only [Act.put, List.setIfInBounds_toArray, List.set_cons_zero, List.set_cons_succ]
  refine wpAnyH_take (i := 15) (oi := { dst := some 58, op := _, type := _, pos := _, after := _, guard := _ }) (v := ?_) rfl (by kernel_rfl) (by kernel_rfl) (by kernel_rfl) (fun _ _ _ h => h) (Or.inl ⟨by rfl, ?_⟩) (by assumption) ?_
  rotate_left
  · intro w hSw
    (try dsimp only at hSw)
    go_simp
    (try (with_reducible rfl))
  try simp only [Act.put, List.setIfInBounds_toArray, List.set_cons_zero, List.set_cons_succ]
  refine wpAnyH_take (i := 16) (oi := { dst := some 59, op := _, type := _, pos := _, after := _, guard := _ }) (v := ?_) rfl (by kernel_rfl) (by kernel_rfl) (by kernel_rfl) (fun _ _ _ h => h) (Or.inl ⟨by rfl, ?_⟩) (by assumption) ?_
  rotate_left
  · intro w hSw
    (try dsimp only at hSw)
    go_simp
    (try (with_reducible rfl))
  try simp only [Act.put, List.setIfInBounds_toArray, List.set_cons_zero, List.set_cons_succ]
  refine wpAnyH_ready (rs := [17]) (by kernel_rfl) (by simp) ?_
  refine AllReadyH.cons (o := { dst := some 60, op := _, type := _, pos := _, after := _, guard := _ }) rfl (fun K hK => ?_) AllReadyH.nil
  go_simp
  -- call
  have BV := hHeld.2.2.2.2.2.2.2.1
  have BB := hHeld.2.2.2.2.2.2.2.2.1
  have BR := hHeld.2.2.2.2.2.2.2.2.2.1
  have CN := hHeld.2.2.2.2.2.2.2.2.2.2.1
  have hb := hHeld.2.2.2.2.2.2.2.2.2.2.2
  clear hHeld
  refine (HOP.out _ hb).mono ?_
  rintro e wq1 ⟨rfl, hq1⟩
  replace BV := BV.below hq1
  replace BB := BB.below hq1
  replace BR := BR.below hq1
  replace CN := CN.below hq1
  replace hb := chain hb hq1
  (try go_wp2_with fail)
  refine hK.out _ _ ⟨BV.four.1, BV.four.2.1, BV.four.2.2.1, BV.four.2.2.2.1, BB.two.1, BB.two.2.1, CN, BV, BB, BR, CN, hb⟩ (fun hHeld => ?_)
  clear hK K
  try simp only [Act.put, List.setIfInBounds_toArray, List.set_cons_zero, List.set_cons_succ]
  refine wpAnyH_ready (rs := [18]) (by kernel_rfl) (by simp) ?_
  refine AllReadyH.cons (o := { dst := none, op := _, type := _, pos := _, after := _, guard := _ }) rfl (fun K hK => ?_) AllReadyH.nil
  -- store
  have BV := hHeld.2.2.2.2.2.2.2.1
  have BB := hHeld.2.2.2.2.2.2.2.2.1
  have BR := hHeld.2.2.2.2.2.2.2.2.2.1
  have CN := hHeld.2.2.2.2.2.2.2.2.2.2.1
  have hb := hHeld.2.2.2.2.2.2.2.2.2.2.2
  clear hHeld
  obtain ⟨q0, q1, q2, q3, BQ⟩ := BR
  obtain ⟨s0, s1, s2, s3, sf, sl⟩ := BQ.four
  have BR : Res4 _ (w.heap.size + 1 + 1) 112 := ⟨_, _, _, _, BQ⟩
  replace BV := BV.set4 (g := w.heap.size + 1 + 1) (by omega) (.int .i64 (P : Int)) (.int .i64 (t : Int)) (.int .i64 d) (.bool (z == 1))
  replace BB := BB.set4 (g := w.heap.size + 1 + 1) (by omega) (.int .i64 (P : Int)) (.int .i64 (t : Int)) (.int .i64 d) (.bool (z == 1))
  replace BR := BR.set4 (.int .i64 (P : Int)) (.int .i64 (t : Int)) (.int .i64 d) (.bool (z == 1))
  replace CN := CN.set4 (g := w.heap.size + 1 + 1) (by omega) (.int .i64 (P : Int)) (.int .i64 (t : Int)) (.int .i64 d) (.bool (z == 1))
  have hbq := hb
  replace hb := below_set4 (g := w.heap.size + 1 + 1) hb (by omega) (.int .i64 (P : Int)) (.int .i64 (t : Int)) (.int .i64 d) (.bool (z == 1))
  go_simp
  (try go_wp2_with fail)
  refine hK.out _ _ ⟨BV.four.1, BV.four.2.1, BV.four.2.2.1, BV.four.2.2.2.1, BB.two.1, BB.two.2.1, CN, BV, BB, BR, CN, hb⟩ (fun hHeld => ?_)
  clear hK K
  try simp only [Act.put, List.setIfInBounds_toArray, List.set_cons_zero, List.set_cons_succ]
  refine wpAnyH_take (i := 19) (oi := { dst := some 9, op := _, type := _, pos := _, after := _, guard := _ }) (v := ?_) rfl (by kernel_rfl) (by kernel_rfl) (by kernel_rfl) (fun _ _ _ h => h) (Or.inl ⟨by rfl, ?_⟩) (by assumption) ?_
  rotate_left
  · intro w hSw
    (try dsimp only at hSw)
    go_simp
    (try (with_reducible rfl))
  try simp only [Act.put, List.setIfInBounds_toArray, List.set_cons_zero, List.set_cons_succ]
  refine wpAnyH_done (by kernel_rfl) ?_ _
  have BV := hHeld.2.2.2.2.2.2.2.1
  have BB := hHeld.2.2.2.2.2.2.2.2.1
  have BR := hHeld.2.2.2.2.2.2.2.2.2.1
  have CN := hHeld.2.2.2.2.2.2.2.2.2.2.1
  have hb := hHeld.2.2.2.2.2.2.2.2.2.2.2
  clear hHeld
  go_wp2
  refine bodyPost_ret (v := .tuple #[stV ((P : Int), (t : Int), d, z == 1), .bool (decide (z ≤ 1))]) (by simp [results, Try.results128, go_sem, *]) rfl ⟨((P : Int), (t : Int), d, z == 1), decide (z ≤ 1), rfl, ?_, hb⟩
  rw [← HRS.out]
  by_cases hz1 : z ≤ 1
  · rw [if_pos hz1, if_pos (by simpa using hz1)]
    rfl
  · rw [if_neg hz1, if_neg (by simpa using hz1)]
set_option maxRecDepth 8000 in
set_option maxHeartbeats 2000000 in
theorem l04Step_posN (P : Nat) (c h s : Int) (a1 a2 : Option Addr) (n1 n2 c1 c2 : Nat) (xs ys : List Int) (w : World) (h1 : xs.length = n1) (h2 : ys.length = n2) (p0 : 2 ≤ P) (p1 : P ≤ 24) (N1 : xs.length = P + 1) (N2 : ys.length = P + 1) (hh0 : 1 ≤ h) (hh : h ≤ (P : Int)) (hx : ∀ x ∈ xs, 0 ≤ x ∧ x ≤ 1000) (hy : ∀ y ∈ ys, 0 ≤ y ∧ y ≤ 1000) (r1 : IRow w a1 xs) (r2 : IRow w a2 ys) (k : Nat) (d : Int) (k1 : k ≤ P) (d0 : 1 ≤ d) (d1 : d ≤ 1000) (g3 : overB xs ys = false) (gp : xs.getD P 0 = 0) (g0 : ¬ xs.getD k 0 = 0) (gk : ¬ (k : Int) = (P : Int)) (t : Nat) (ht : (k : Int) - d = (t : Int)) :
    Calls Try.prog 128 #[.agg #[.int .i64 (P : Int), .int .i64 c, .int .i64 h, .int .i64 s], .agg #[.slice a1 n1 c1, .slice a2 n2 c2], .int .i64 (k : Int), .int .i64 d] w (StepGot (if ys.getD (P - 1 - t) 0 ≤ 1 then some ((k : Int), (t : Int), d, decide (ys.getD (P - 1 - t) 0 = 1)) else none) w) := by
  have ho0 := fun W (hW : Below w.heap.size w W) => l02Over_any a1 a2 n1 n2 c1 c2 xs ys W h1 h2 (by omega) (by omega) hx hy (r1.below hW) (r2.below hW)
  have hop := fun W (hW : Below w.heap.size w W) => l04Open_any P c h s a1 a2 n1 n2 c1 c2 xs ys W h1 h2 p0 p1 N1 N2 hh0 hh hx hy (r1.below hW) (r2.below hW) t (by omega)
  rw [g3] at ho0
  have HOV := Lib.hid ho0
  obtain ⟨b, ob, rfl, -⟩ := r1 0 (by omega)
  have hck : ∀ W, Below w.heap.size w W → W.cell? ⟨b, ob + k, none⟩ = some (.int .i64 (xs.getD k 0)) := fun W hW => by
    obtain ⟨b', o', e, hc⟩ := r1.below hW k (by omega)
    simp at e
    obtain ⟨rfl, rfl⟩ := e
    exact hc
  have hcp : ∀ W, Below w.heap.size w W → W.cell? ⟨b, ob + P, none⟩ = some (.int .i64 (xs.getD P 0)) := fun W hW => by
    obtain ⟨b', o', e, hc⟩ := r1.below hW P (by omega)
    simp at e
    obtain ⟨rfl, rfl⟩ := e
    exact hc
  have hkn : k < n1 := by omega
  have hPn : P < n1 := by omega
  have hkI : (k : Int) < (n1 : Int) := by omega
  have hPI : (P : Int) < (n1 : Int) := by omega
  have hk0 : (0 : Int) ≤ (k : Int) := by omega
  obtain ⟨u, hu⟩ : ∃ u, xs.getD k 0 = u := ⟨_, rfl⟩
  obtain ⟨v, hv⟩ : ∃ v, xs.getD P 0 = v := ⟨_, rfl⟩
  have hv0 : 0 ≤ v := by rw [← hv]; exact (hx _ (getD_mem (show P < xs.length by omega))).1
  rw [hu] at hck
  rw [hv] at hcp
  have HC1 := Lib.hid hck
  have HC2 := Lib.hid hcp
  rw [hu] at g0
  rw [hv] at gp
  subst gp
  
  have ht0 : (0 : Int) ≤ (t : Int) := by omega
  have eu : (u == 0) = false := by simpa using g0
  have tP : t < P := by omega
  have tPI : (t : Int) < (P : Int) := by omega
  obtain ⟨b2, o2, rfl, -⟩ := r2 0 (by omega)
  have hcz : ∀ W, Below w.heap.size w W → W.cell? ⟨b2, o2 + (P - 1 - t), none⟩ = some (.int .i64 (ys.getD (P - 1 - t) 0)) := fun W hW => by
    obtain ⟨b', o', e, hc⟩ := r2.below hW (P - 1 - t) (by omega)
    simp at e
    obtain ⟨rfl, rfl⟩ := e
    exact hc
  have e1 : ((P : Int) - 1 - (t : Int)) = ((P - 1 - t : Nat) : Int) := by omega
  have hlt : P - 1 - t < n2 := by omega
  have hltI : ((P - 1 - t : Nat) : Int) < (n2 : Int) := by omega
  have hz0 : 0 ≤ ys.getD (P - 1 - t) 0 ∧ ys.getD (P - 1 - t) 0 ≤ 1000 := hy _ (getD_mem (show P - 1 - t < ys.length by omega))
  obtain ⟨z, hz⟩ : ∃ z, ys.getD (P - 1 - t) 0 = z := ⟨_, rfl⟩
  obtain ⟨K, hK⟩ : ∃ K, P - 1 - t = K := ⟨_, rfl⟩
  rw [hz] at hcz hop hz0 ⊢
  rw [hK] at hcz e1 hlt hltI
  have z0 : 0 ≤ z := hz0.1
  have z9 : z ≤ 1000 := hz0.2
  have wz1 : IntKind.i64.wrap (IntKind.i64.wrap ((P : Int) - 1) - (t : Int)) = (K : Int) := by rw [IntWalk.i64_in ((P : Int) - 1) (by omega), e1]; exact IntWalk.i64_in _ (by omega)
  have hk24 : (k : Int) ≤ 24 := by omega
  obtain ⟨RS, hRS⟩ : ∃ RS, (if z ≤ 1 then some ((k : Int), (t : Int), d, decide (z = 1)) else (none : Option Stp)) = RS := ⟨_, rfl⟩
  rw [hRS]
  have HRS := Lib.hid hRS
  clear hRS
  have hb2w : b2 < w.heap.size := World.block_lt_of_cell? w _ (hcz w (Below.refl _ _))
  have HCZ := Lib.hid hcz
  have HOP := Lib.hid hop
  clear ho0 g3 hck hcp hu hv hx hy r1 r2 hop hcz hz hK e1 hz0
  obtain ⟨BV, BB, BR, hb, hz⟩ := three_new w #[.int .i64 (P : Int), .int .i64 c, .int .i64 h, .int .i64 s] #[.slice (some ⟨b, ob, none⟩) n1 c1, .slice (some ⟨b2, o2, none⟩) n2 c2] #[.int .i64 0, .int .i64 0, .int .i64 0, .bool false] 32 34 112
  obtain ⟨x0, x1, x2, x3, xf, xl⟩ := BV.four
  obtain ⟨y0, y1, yf, yl⟩ := BB.two
  obtain ⟨s0, s1, s2, s3, sf, sl⟩ := BR.four
  go_enter Try.func128, Try.ntmps128
  go_wp2_with (go_at_call 135; refine (HOV.out _ hb).mono ?_; rintro e w1 ⟨rfl, hb1⟩; obtain ⟨x0, x1, x2, x3, xf, xl⟩ := (BV.below hb1).four; obtain ⟨y0, y1, yf, yl⟩ := (BB.below hb1).two; obtain ⟨s0, s1, s2, s3, sf, sl⟩ := (BR.below hb1).four; have ck := HC1.out w1 (chain hb hb1); have cp := HC2.out w1 (chain hb hb1))
  have CN : CellIs w1 b2 (o2 + K) (.int .i64 z) := HCZ.out w1 (chain hb hb1)
  replace BV := BV.below hb1
  replace BB := BB.below hb1
  replace BR : Res4 w1 (w.heap.size + 1 + 1) 112 := ⟨_, _, _, _, BR.below hb1⟩
  replace hb := chain hb hb1
  replace BV := BV.drew
  replace BB := BB.drew
  replace BR := BR.drew
  replace CN := CN.drew
  replace hb := hb.drew
  refine wp_region_held_drew (S := fun w' => w'.cell? ⟨w.heap.size, 0, none⟩ = some (.int .i64 (P : Int)) ∧ w'.cell? ⟨w.heap.size, 1, none⟩ = some (.int .i64 c) ∧ w'.cell? ⟨w.heap.size, 2, none⟩ = some (.int .i64 h) ∧ w'.cell? ⟨w.heap.size, 3, none⟩ = some (.int .i64 s) ∧ w'.cell? ⟨(w.heap.size + 1), 0, none⟩ = some (.slice (some ⟨b, ob, none⟩) n1 c1) ∧ w'.cell? ⟨(w.heap.size + 1), 1, none⟩ = some (.slice (some ⟨b2, o2, none⟩) n2 c2) ∧ w'.cell? ⟨b2, o2 + K, none⟩ = some (.int .i64 z) ∧ Blk w' w.heap.size #[.int .i64 (P : Int), .int .i64 c, .int .i64 h, .int .i64 s] 32 ∧ Blk w' ((w.heap.size + 1)) #[.slice (some ⟨b, ob, none⟩) n1 c1, .slice (some ⟨b2, o2, none⟩) n2 c2] 34 ∧ (Res4 w' (w.heap.size + 1 + 1) 112) ∧ (CellIs w' b2 (o2 + K) (.int .i64 z)) ∧ Below w.heap.size w w') (by kernel_rfl) ⟨BV.four.1, BV.four.2.1, BV.four.2.2.1, BV.four.2.2.2.1, BB.two.1, BB.two.2.1, CN, BV, BB, BR, CN, hb⟩ (fun hHeld => ?_)
  refine wpAnyH_take (i := 0) (oi := { dst := some 43, op := _, type := _, pos := _, after := _, guard := _ }) (v := ?_) rfl (by kernel_rfl) (by kernel_rfl) (by kernel_rfl) (fun _ _ _ h => h) (Or.inl ⟨by rfl, ?_⟩) (by assumption) ?_
  rotate_left
  · intro w hSw
    (try dsimp only at hSw)
    go_simp
    (try (with_reducible rfl))
  try simp only [Act.put, List.setIfInBounds_toArray, List.set_cons_zero, List.set_cons_succ]
  refine wpAnyH_take (i := 1) (oi := { dst := some 44, op := _, type := _, pos := _, after := _, guard := _ }) (v := ?_) rfl (by kernel_rfl) (by kernel_rfl) (by kernel_rfl) (fun _ _ _ h => h) (Or.inl ⟨by rfl, ?_⟩) (by assumption) ?_
  rotate_left
  · intro w hSw
    (try dsimp only at hSw)
    go_simp
    (try (with_reducible rfl))
  try simp only [Act.put, List.setIfInBounds_toArray, List.set_cons_zero, List.set_cons_succ]
  refine wpAnyH_take (i := 2) (oi := { dst := some 45, op := _, type := _, pos := _, after := _, guard := _ }) (v := ?_) rfl (by kernel_rfl) (by kernel_rfl) (by kernel_rfl) (fun _ _ _ h => h) (Or.inl ⟨by rfl, ?_⟩) (by assumption) ?_
  rotate_left
  · intro w hSw
    (try dsimp only at hSw)
    go_simp
    (try (with_reducible rfl))
  try simp only [Act.put, List.setIfInBounds_toArray, List.set_cons_zero, List.set_cons_succ]
  refine wpAnyH_take (i := 3) (oi := { dst := some 46, op := _, type := _, pos := _, after := _, guard := _ }) (v := ?_) rfl (by kernel_rfl) (by kernel_rfl) (by kernel_rfl) (fun _ _ _ h => h) (Or.inl ⟨by rfl, ?_⟩) (by assumption) ?_
  rotate_left
  · intro w hSw
    (try dsimp only at hSw)
    go_simp
    (try (with_reducible rfl))
  try simp only [Act.put, List.setIfInBounds_toArray, List.set_cons_zero, List.set_cons_succ]
  refine wpAnyH_take (i := 4) (oi := { dst := some 47, op := _, type := _, pos := _, after := _, guard := _ }) (v := ?_) rfl (by kernel_rfl) (by kernel_rfl) (by kernel_rfl) (fun _ _ _ h => h) (Or.inl ⟨by rfl, ?_⟩) (by assumption) ?_
  rotate_left
  · intro w hSw
    (try dsimp only at hSw)
    go_simp
    (try (with_reducible rfl))
  try simp only [Act.put, List.setIfInBounds_toArray, List.set_cons_zero, List.set_cons_succ]
  refine wpAnyH_take (i := 5) (oi := { dst := some 48, op := _, type := _, pos := _, after := _, guard := _ }) (v := ?_) rfl (by kernel_rfl) (by kernel_rfl) (by kernel_rfl) (fun _ _ _ h => h) (Or.inl ⟨by rfl, ?_⟩) (by assumption) ?_
  rotate_left
  · intro w hSw
    (try dsimp only at hSw)
    go_simp
    (try (with_reducible rfl))
  try simp only [Act.put, List.setIfInBounds_toArray, List.set_cons_zero, List.set_cons_succ]
  refine wpAnyH_take (i := 6) (oi := { dst := some 49, op := _, type := _, pos := _, after := _, guard := _ }) (v := ?_) rfl (by kernel_rfl) (by kernel_rfl) (by kernel_rfl) (fun _ _ _ h => h) (Or.inl ⟨by rfl, ?_⟩) (by assumption) ?_
  rotate_left
  · intro w hSw
    (try dsimp only at hSw)
    go_simp
    (try (with_reducible rfl))
  try simp only [Act.put, List.setIfInBounds_toArray, List.set_cons_zero, List.set_cons_succ]
  refine wpAnyH_take (i := 7) (oi := { dst := some 50, op := _, type := _, pos := _, after := _, guard := _ }) (v := ?_) rfl (by kernel_rfl) (by kernel_rfl) (by kernel_rfl) (fun _ _ _ h => h) (Or.inl ⟨by rfl, ?_⟩) (by assumption) ?_
  rotate_left
  · intro w hSw
    (try dsimp only at hSw)
    go_simp
    (try (with_reducible rfl))
  try simp only [Act.put, List.setIfInBounds_toArray, List.set_cons_zero, List.set_cons_succ]
  refine wpAnyH_take (i := 8) (oi := { dst := some 51, op := _, type := _, pos := _, after := _, guard := _ }) (v := ?_) rfl (by kernel_rfl) (by kernel_rfl) (by kernel_rfl) (fun _ _ _ h => h) (Or.inl ⟨by rfl, ?_⟩) (by assumption) ?_
  rotate_left
  · intro w hSw
    (try dsimp only at hSw)
    go_simp
    (try (with_reducible rfl))
  try simp only [Act.put, List.setIfInBounds_toArray, List.set_cons_zero, List.set_cons_succ]
  refine wpAnyH_take (i := 9) (oi := { dst := some 52, op := _, type := _, pos := _, after := _, guard := _ }) (v := ?_) rfl (by kernel_rfl) (by kernel_rfl) (by kernel_rfl) (fun _ _ _ h => h) (Or.inl ⟨by rfl, ?_⟩) (by assumption) ?_
  rotate_left
  · intro w hSw
    (try dsimp only at hSw)
    go_simp
    (try (with_reducible rfl))
  try simp only [Act.put, List.setIfInBounds_toArray, List.set_cons_zero, List.set_cons_succ]
  refine wpAnyH_take (i := 10) (oi := { dst := some 53, op := _, type := _, pos := _, after := _, guard := _ }) (v := ?_) rfl (by kernel_rfl) (by kernel_rfl) (by kernel_rfl) (fun _ _ _ h => h) (Or.inl ⟨by rfl, ?_⟩) (by assumption) ?_
  rotate_left
  · intro w hSw
    (try dsimp only at hSw)
    go_simp
    (try (with_reducible rfl))
  try simp only [Act.put, List.setIfInBounds_toArray, List.set_cons_zero, List.set_cons_succ]
  refine wpAnyH_take (i := 11) (oi := { dst := some 54, op := _, type := _, pos := _, after := _, guard := _ }) (v := ?_) rfl (by kernel_rfl) (by kernel_rfl) (by kernel_rfl) (fun _ _ _ h => h) (Or.inl ⟨by rfl, ?_⟩) (by assumption) ?_
  rotate_left
  · intro w hSw
    (try dsimp only at hSw)
    go_simp
    (try (with_reducible rfl))
  try simp only [Act.put, List.setIfInBounds_toArray, List.set_cons_zero, List.set_cons_succ]
  refine wpAnyH_take (i := 12) (oi := { dst := some 55, op := _, type := _, pos := _, after := _, guard := _ }) (v := ?_) rfl (by kernel_rfl) (by kernel_rfl) (by kernel_rfl) (fun _ _ _ h => h) (Or.inl ⟨by rfl, ?_⟩) (by assumption) ?_
  rotate_left
  · intro w hSw
    (try dsimp only at hSw)
    go_simp
    (try (with_reducible rfl))
  try simp only [Act.put, List.setIfInBounds_toArray, List.set_cons_zero, List.set_cons_succ]
  refine wpAnyH_take (i := 13) (oi := { dst := some 56, op := _, type := _, pos := _, after := _, guard := _ }) (v := ?_) rfl (by kernel_rfl) (by kernel_rfl) (by kernel_rfl) (fun _ _ _ h => h) (Or.inl ⟨by rfl, ?_⟩) (by assumption) ?_
  rotate_left
  · intro w hSw
    (try dsimp only at hSw)
    go_simp
    (try (with_reducible rfl))
  try simp only [Act.put, List.setIfInBounds_toArray, List.set_cons_zero, List.set_cons_succ]
  refine wpAnyH_take (i := 14) (oi := { dst := some 57, op := _, type := _, pos := _, after := _, guard := _ }) (v := ?_) rfl (by kernel_rfl) (by kernel_rfl) (by kernel_rfl) (fun _ _ _ h => h) (Or.inl ⟨by rfl, ?_⟩) (by assumption) ?_
  rotate_left
  · intro w hSw
    (try dsimp only at hSw)
    go_simp
    (try (with_reducible rfl))
  try simp only [Act.put, List.setIfInBounds_toArray, List.set_cons_zero, List.set_cons_succ]
  refine wpAnyH_take (i := 15) (oi := { dst := some 58, op := _, type := _, pos := _, after := _, guard := _ }) (v := ?_) rfl (by kernel_rfl) (by kernel_rfl) (by kernel_rfl) (fun _ _ _ h => h) (Or.inl ⟨by rfl, ?_⟩) (by assumption) ?_
  rotate_left
  · intro w hSw
    (try dsimp only at hSw)
    go_simp
    (try (with_reducible rfl))
  try simp only [Act.put, List.setIfInBounds_toArray, List.set_cons_zero, List.set_cons_succ]
  refine wpAnyH_take (i := 16) (oi := { dst := some 59, op := _, type := _, pos := _, after := _, guard := _ }) (v := ?_) rfl (by kernel_rfl) (by kernel_rfl) (by kernel_rfl) (fun _ _ _ h => h) (Or.inl ⟨by rfl, ?_⟩) (by assumption) ?_
  rotate_left
  · intro w hSw
    (try dsimp only at hSw)
    go_simp
    (try (with_reducible rfl))
  try simp only [Act.put, List.setIfInBounds_toArray, List.set_cons_zero, List.set_cons_succ]
  refine wpAnyH_ready (rs := [17]) (by kernel_rfl) (by simp) ?_
  refine AllReadyH.cons (o := { dst := some 60, op := _, type := _, pos := _, after := _, guard := _ }) rfl (fun K hK => ?_) AllReadyH.nil
  go_simp
  -- call
  have BV := hHeld.2.2.2.2.2.2.2.1
  have BB := hHeld.2.2.2.2.2.2.2.2.1
  have BR := hHeld.2.2.2.2.2.2.2.2.2.1
  have CN := hHeld.2.2.2.2.2.2.2.2.2.2.1
  have hb := hHeld.2.2.2.2.2.2.2.2.2.2.2
  clear hHeld
  refine (HOP.out _ hb).mono ?_
  rintro e wq1 ⟨rfl, hq1⟩
  replace BV := BV.below hq1
  replace BB := BB.below hq1
  replace BR := BR.below hq1
  replace CN := CN.below hq1
  replace hb := chain hb hq1
  (try go_wp2_with fail)
  refine hK.out _ _ ⟨BV.four.1, BV.four.2.1, BV.four.2.2.1, BV.four.2.2.2.1, BB.two.1, BB.two.2.1, CN, BV, BB, BR, CN, hb⟩ (fun hHeld => ?_)
  clear hK K
  try simp only [Act.put, List.setIfInBounds_toArray, List.set_cons_zero, List.set_cons_succ]
  refine wpAnyH_ready (rs := [18]) (by kernel_rfl) (by simp) ?_
  refine AllReadyH.cons (o := { dst := none, op := _, type := _, pos := _, after := _, guard := _ }) rfl (fun K hK => ?_) AllReadyH.nil
  -- store
  have BV := hHeld.2.2.2.2.2.2.2.1
  have BB := hHeld.2.2.2.2.2.2.2.2.1
  have BR := hHeld.2.2.2.2.2.2.2.2.2.1
  have CN := hHeld.2.2.2.2.2.2.2.2.2.2.1
  have hb := hHeld.2.2.2.2.2.2.2.2.2.2.2
  clear hHeld
  obtain ⟨q0, q1, q2, q3, BQ⟩ := BR
  obtain ⟨s0, s1, s2, s3, sf, sl⟩ := BQ.four
  have BR : Res4 _ (w.heap.size + 1 + 1) 112 := ⟨_, _, _, _, BQ⟩
  replace BV := BV.set4 (g := w.heap.size + 1 + 1) (by omega) (.int .i64 (k : Int)) (.int .i64 (t : Int)) (.int .i64 d) (.bool (z == 1))
  replace BB := BB.set4 (g := w.heap.size + 1 + 1) (by omega) (.int .i64 (k : Int)) (.int .i64 (t : Int)) (.int .i64 d) (.bool (z == 1))
  replace BR := BR.set4 (.int .i64 (k : Int)) (.int .i64 (t : Int)) (.int .i64 d) (.bool (z == 1))
  replace CN := CN.set4 (g := w.heap.size + 1 + 1) (by omega) (.int .i64 (k : Int)) (.int .i64 (t : Int)) (.int .i64 d) (.bool (z == 1))
  have hbq := hb
  replace hb := below_set4 (g := w.heap.size + 1 + 1) hb (by omega) (.int .i64 (k : Int)) (.int .i64 (t : Int)) (.int .i64 d) (.bool (z == 1))
  go_simp
  (try go_wp2_with fail)
  refine hK.out _ _ ⟨BV.four.1, BV.four.2.1, BV.four.2.2.1, BV.four.2.2.2.1, BB.two.1, BB.two.2.1, CN, BV, BB, BR, CN, hb⟩ (fun hHeld => ?_)
  clear hK K
  try simp only [Act.put, List.setIfInBounds_toArray, List.set_cons_zero, List.set_cons_succ]
  refine wpAnyH_take (i := 19) (oi := { dst := some 9, op := _, type := _, pos := _, after := _, guard := _ }) (v := ?_) rfl (by kernel_rfl) (by kernel_rfl) (by kernel_rfl) (fun _ _ _ h => h) (Or.inl ⟨by rfl, ?_⟩) (by assumption) ?_
  rotate_left
  · intro w hSw
    (try dsimp only at hSw)
    go_simp
    (try (with_reducible rfl))
  try simp only [Act.put, List.setIfInBounds_toArray, List.set_cons_zero, List.set_cons_succ]
  refine wpAnyH_done (by kernel_rfl) ?_ _
  have BV := hHeld.2.2.2.2.2.2.2.1
  have BB := hHeld.2.2.2.2.2.2.2.2.1
  have BR := hHeld.2.2.2.2.2.2.2.2.2.1
  have CN := hHeld.2.2.2.2.2.2.2.2.2.2.1
  have hb := hHeld.2.2.2.2.2.2.2.2.2.2.2
  clear hHeld
  go_wp2
  refine bodyPost_ret (v := .tuple #[stV ((k : Int), (t : Int), d, z == 1), .bool (decide (z ≤ 1))]) (by simp [results, Try.results128, go_sem, *]) rfl ⟨((k : Int), (t : Int), d, z == 1), decide (z ≤ 1), rfl, ?_, hb⟩
  rw [← HRS.out]
  by_cases hz1 : z ≤ 1
  · rw [if_pos hz1, if_pos (by simpa using hz1)]
    rfl
  · rw [if_neg hz1, if_neg (by simpa using hz1)]
theorem l04Step_any (P : Nat) (c h s : Int) (a1 a2 : Option Addr) (n1 n2 c1 c2 : Nat) (xs ys : List Int) (w : World) (h1 : xs.length = n1) (h2 : ys.length = n2) (p0 : 2 ≤ P) (p1 : P ≤ 24) (N1 : xs.length = P + 1) (N2 : ys.length = P + 1) (hh0 : 1 ≤ h) (hh : h ≤ (P : Int)) (hx : ∀ x ∈ xs, 0 ≤ x ∧ x ≤ 1000) (hy : ∀ y ∈ ys, 0 ≤ y ∧ y ≤ 1000) (r1 : IRow w a1 xs) (r2 : IRow w a2 ys) (k : Nat) (d : Int) (k1 : k ≤ P) (d0 : 1 ≤ d) (d1 : d ≤ 1000) :
    Calls Try.prog 128 #[.agg #[.int .i64 (P : Int), .int .i64 c, .int .i64 h, .int .i64 s], .agg #[.slice a1 n1 c1, .slice a2 n2 c2], .int .i64 (k : Int), .int .i64 d] w (StepGot (stepS P h xs ys k d) w) := by
  unfold stepS
  cases g3 : overB xs ys with
  | true =>
    rw [if_pos rfl]
    exact l04Step_over P c h s a1 a2 n1 n2 c1 c2 xs ys w h1 h2 p0 p1 N1 N2 hh0 hh hx hy r1 r2 k d k1 d0 d1 g3
  | false =>
    rw [if_neg (by simp)]
    by_cases g0 : xs.getD k 0 = 0
    · rw [stepI, if_pos g0]
      exact l04Step_none P c h s a1 a2 n1 n2 c1 c2 xs ys w h1 h2 p0 p1 N1 N2 hh0 hh hx hy r1 r2 k d k1 d0 d1 g3 (.inl g0)
    · by_cases g1 : 0 < xs.getD P 0 ∧ k ≠ P
      · rw [stepI_blocked N1 hh k1 d0 g1.2 g1.1]
        exact l04Step_none P c h s a1 a2 n1 n2 c1 c2 xs ys w h1 h2 p0 p1 N1 N2 hh0 hh hx hy r1 r2 k d k1 d0 d1 g3 (.inr g1)
      · have hP0 := (hx _ (getD_mem (show P < xs.length by omega))).1
        by_cases ht : (k : Int) - d < 0
        · rw [stepI_neg N1 hh k1 d0 g1 hx g0 ht]
          by_cases hk : k = P
          · subst hk
            have gp : 0 < xs.getD k 0 := by omega
            have hl : lastL xs xs.length = (k : Int) := by rw [N1]; exact lastL_pos gp
            rw [if_pos (.inl (by omega))]
            exact l04Step_negP k c h s a1 a2 n1 n2 c1 c2 xs ys w h1 h2 p0 p1 N1 N2 hh0 hh hx hy r1 r2 d d0 d1 g3 gp ht
          · have gp : xs.getD P 0 = 0 := by
              have : ¬ 0 < xs.getD P 0 := fun hp => g1 ⟨hp, hk⟩
              omega
            exact l04Step_negN P c h s a1 a2 n1 n2 c1 c2 xs ys w h1 h2 p0 p1 N1 N2 hh0 hh hx hy r1 r2 k d k1 d0 d1 g3 gp g0 (by omega) ht
        · obtain ⟨t, ht⟩ := Int.eq_ofNat_of_zero_le (by omega : 0 ≤ (k : Int) - d)
          rw [stepI_pos N1 N2 hy hx k1 d0 g1 g0 t ht]
          by_cases hk : k = P
          · subst hk
            exact l04Step_posP k c h s a1 a2 n1 n2 c1 c2 xs ys w h1 h2 p0 p1 N1 N2 hh0 hh hx hy r1 r2 d d0 d1 g3 (by omega) t ht
          · have gp : xs.getD P 0 = 0 := by
              have : ¬ 0 < xs.getD P 0 := fun hp => g1 ⟨hp, hk⟩
              omega
            exact l04Step_posN P c h s a1 a2 n1 n2 c1 c2 xs ys w h1 h2 p0 p1 N1 N2 hh0 hh hx hy r1 r2 k d k1 d0 d1 g3 gp g0 (by omega) t ht
end Go.Proofs.Ytokjkcnjmfbfiaa
