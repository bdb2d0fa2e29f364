/- Texts of a proof, laid together. -/
import Derived.Test.YtodlofabffenoaaV07
import Derived.Test.YtodlofabffenoaaV06
namespace Go.Proofs.Ytodlofabffenoaa
open Go.ChangeShapes Go.WideShapes Go.ChangeAt Go.RowKit
set_option linter.unusedVariables false
set_option linter.unusedSimpArgs false
set_option maxRecDepth 4000
set_option maxRecDepth 8000 in
set_option maxHeartbeats 2000000 in
theorem l04Step_posP (P : Nat) (c h s : Int) (a1 a2 : Option Addr) (n1 n2 c1 c2 : Nat) (xs ys : List Int) (w : World) (h1 : xs.length = n1) (h2 : ys.length = n2) (p0 : 2 ≤ P) (p1 : P ≤ 24) (N1 : xs.length = P + 1) (N2 : ys.length = P + 1) (hh0 : 1 ≤ h) (hh : h ≤ (P : Int)) (hx : ∀ x ∈ xs, 0 ≤ x ∧ x ≤ 1000) (hy : ∀ y ∈ ys, 0 ≤ y ∧ y ≤ 1000) (r1 : IRow w a1 xs) (r2 : IRow w a2 ys) (d : Int) (d0 : 1 ≤ d) (d1 : d ≤ 1000) (g3 : overB xs ys = false) (gp : 0 < xs.getD P 0) (t : Nat) (ht : (P : Int) - d = (t : Int)) :
    Calls Try.prog 37 #[.agg #[.int .i64 (P : Int), .int .i64 c, .int .i64 h, .int .i64 s], .agg #[.slice a1 n1 c1, .slice a2 n2 c2], .int .i64 (P : Int), .int .i64 d] w (StepGot (if ys.getD (P - 1 - t) 0 ≤ 1 then some ((P : Int), (t : Int), d, decide (ys.getD (P - 1 - t) 0 = 1)) else none) w) := by
  have ho0 := fun W (hW : Below w.heap.size w W) => l02Over_any a1 a2 n1 n2 c1 c2 xs ys W h1 h2 (by omega) (by omega) hx hy (r1.below hW) (r2.below hW)
  have hop := fun W (hW : Below w.heap.size w W) => l04Open_any P c h s a1 a2 n1 n2 c1 c2 xs ys W h1 h2 p0 p1 N1 N2 hh0 hh hx hy (r1.below hW) (r2.below hW) t (by omega)
  rw [g3] at ho0
  have HOV := Lib.hid ho0
  obtain ⟨b, ob, rfl, -⟩ := r1 0 (by omega)
  have hck : ∀ W, Below w.heap.size w W → W.cell? ⟨b, ob + P, none⟩ = some (.int .i64 (xs.getD P 0)) := fun W hW => by
    obtain ⟨b', o', e, hc⟩ := r1.below hW P (by omega)
    simp at e
    obtain ⟨rfl, rfl⟩ := e
    exact hc
  have hcp : ∀ W, Below w.heap.size w W → W.cell? ⟨b, ob + P, none⟩ = some (.int .i64 (xs.getD P 0)) := fun W hW => by
    obtain ⟨b', o', e, hc⟩ := r1.below hW P (by omega)
    simp at e
    obtain ⟨rfl, rfl⟩ := e
    exact hc
  have hkn : P < n1 := by omega
  have hPn : P < n1 := by omega
  have hkI : (P : Int) < (n1 : Int) := by omega
  have hPI : (P : Int) < (n1 : Int) := by omega
  have hk0 : (0 : Int) ≤ (P : Int) := by omega
  obtain ⟨u, hu⟩ : ∃ u, xs.getD P 0 = u := ⟨_, rfl⟩
  obtain ⟨v, hv⟩ : ∃ v, xs.getD P 0 = v := ⟨_, rfl⟩
  have hv0 : 0 ≤ v := by rw [← hv]; exact (hx _ (getD_mem (show P < xs.length by omega))).1
  rw [hu] at hck
  rw [hv] at hcp
  have HC1 := Lib.hid hck
  have HC2 := Lib.hid hcp
  
  rw [hv] at gp
  have g0 : ¬ v = 0 := by omega
  have huv : u = v := by rw [← hu, hv]
  subst huv
  have ht0 : (0 : Int) ≤ (t : Int) := by omega
  have eu : (u == 0) = false := by simpa using g0
  have tP : t < P := by omega
  have tPI : (t : Int) < (P : Int) := by omega
  obtain ⟨b2, o2, rfl, -⟩ := r2 0 (by omega)
  have hcz : ∀ W, Below w.heap.size w W → W.cell? ⟨b2, o2 + (P - 1 - t), none⟩ = some (.int .i64 (ys.getD (P - 1 - t) 0)) := fun W hW => by
    obtain ⟨b', o', e, hc⟩ := r2.below hW (P - 1 - t) (by omega)
    simp at e
    obtain ⟨rfl, rfl⟩ := e
    exact hc
  have e1 : ((P : Int) - 1 - (t : Int)) = ((P - 1 - t : Nat) : Int) := by omega
  have hlt : P - 1 - t < n2 := by omega
  have hltI : ((P - 1 - t : Nat) : Int) < (n2 : Int) := by omega
  have hz0 : 0 ≤ ys.getD (P - 1 - t) 0 ∧ ys.getD (P - 1 - t) 0 ≤ 1000 := hy _ (getD_mem (show P - 1 - t < ys.length by omega))
  obtain ⟨z, hz⟩ : ∃ z, ys.getD (P - 1 - t) 0 = z := ⟨_, rfl⟩
  obtain ⟨K, hK⟩ : ∃ K, P - 1 - t = K := ⟨_, rfl⟩
  rw [hz] at hcz hop hz0 ⊢
  rw [hK] at hcz e1 hlt hltI
  have z0 : 0 ≤ z := hz0.1
  have z9 : z ≤ 1000 := hz0.2
  have wz1 : IntKind.i64.wrap (IntKind.i64.wrap ((P : Int) - 1) - (t : Int)) = (K : Int) := by rw [IntWalk.i64_in ((P : Int) - 1) (by omega), e1]; exact IntWalk.i64_in _ (by omega)
  have hk24 : (P : Int) ≤ 24 := by omega
  obtain ⟨RS, hRS⟩ : ∃ RS, (if z ≤ 1 then some ((P : Int), (t : Int), d, decide (z = 1)) else (none : Option Stp)) = RS := ⟨_, rfl⟩
  rw [hRS]
  have HRS := Lib.hid hRS
  clear hRS
  have hb2w : b2 < w.heap.size := World.block_lt_of_cell? w _ (hcz w (Below.refl _ _))
  have HCZ := Lib.hid hcz
  have HOP := Lib.hid hop
  clear ho0 g3 hck hcp hu hv hx hy r1 r2 hop hcz hz hK e1 hz0
  obtain ⟨BV, BB, BR, hb, hz⟩ := three_new w #[.int .i64 (P : Int), .int .i64 c, .int .i64 h, .int .i64 s] #[.slice (some ⟨b, ob, none⟩) n1 c1, .slice (some ⟨b2, o2, none⟩) n2 c2] #[.int .i64 0, .int .i64 0, .int .i64 0, .bool false] 35 32 56
  obtain ⟨x0, x1, x2, x3, xf, xl⟩ := BV.four
  obtain ⟨y0, y1, yf, yl⟩ := BB.two
  obtain ⟨s0, s1, s2, s3, sf, sl⟩ := BR.four
  go_enter Try.func37, Try.ntmps37
  go_wp2_with (go_at_call 55; refine (HOV.out _ hb).mono ?_; rintro e w1 ⟨rfl, hb1⟩; obtain ⟨x0, x1, x2, x3, xf, xl⟩ := (BV.below hb1).four; obtain ⟨y0, y1, yf, yl⟩ := (BB.below hb1).two; obtain ⟨s0, s1, s2, s3, sf, sl⟩ := (BR.below hb1).four; have ck := HC1.out w1 (chain hb hb1); have cp := HC2.out w1 (chain hb hb1))
  have CN : CellIs w1 b2 (o2 + K) (.int .i64 z) := HCZ.out w1 (chain hb hb1)
  replace BV := BV.below hb1
  replace BB := BB.below hb1
  replace BR : Res4 w1 (w.heap.size + 1 + 1) 56 := ⟨_, _, _, _, BR.below hb1⟩
  replace hb := chain hb hb1
  replace BV := BV.drew
  replace BB := BB.drew
  replace BR := BR.drew
  replace CN := CN.drew
  replace hb := hb.drew
  refine wp_region_held_drew (S := fun w' => w'.cell? ⟨w.heap.size, 0, none⟩ = some (.int .i64 (P : Int)) ∧ w'.cell? ⟨w.heap.size, 1, none⟩ = some (.int .i64 c) ∧ w'.cell? ⟨w.heap.size, 2, none⟩ = some (.int .i64 h) ∧ w'.cell? ⟨w.heap.size, 3, none⟩ = some (.int .i64 s) ∧ w'.cell? ⟨(w.heap.size + 1), 0, none⟩ = some (.slice (some ⟨b, ob, none⟩) n1 c1) ∧ w'.cell? ⟨(w.heap.size + 1), 1, none⟩ = some (.slice (some ⟨b2, o2, none⟩) n2 c2) ∧ w'.cell? ⟨b2, o2 + K, none⟩ = some (.int .i64 z) ∧ Blk w' w.heap.size #[.int .i64 (P : Int), .int .i64 c, .int .i64 h, .int .i64 s] 35 ∧ Blk w' ((w.heap.size + 1)) #[.slice (some ⟨b, ob, none⟩) n1 c1, .slice (some ⟨b2, o2, none⟩) n2 c2] 32 ∧ (Res4 w' (w.heap.size + 1 + 1) 56) ∧ (CellIs w' b2 (o2 + K) (.int .i64 z)) ∧ Below w.heap.size w w') (by kernel_rfl) ⟨BV.four.1, BV.four.2.1, BV.four.2.2.1, BV.four.2.2.2.1, BB.two.1, BB.two.2.1, CN, BV, BB, BR, CN, hb⟩ (fun hHeld => ?_)
  refine wpAnyH_take (i := 0) (oi := ⟨some 43, _, _, _, _, _⟩) (v := ?_) rfl (by kernel_rfl) (by kernel_rfl) (by kernel_rfl) (fun _ _ _ h => h) (Or.inl ⟨by rfl, ?_⟩) (by assumption) ?_
  rotate_left
  · intro w hSw; (try dsimp only at hSw); go_simp; (try (with_reducible rfl))
  try simp only [Act.put, List.setIfInBounds_toArray, List.set_cons_zero, List.set_cons_succ]
  refine wpAnyH_take (i := 1) (oi := ⟨some 44, _, _, _, _, _⟩) (v := ?_) rfl (by kernel_rfl) (by kernel_rfl) (by kernel_rfl) (fun _ _ _ h => h) (Or.inl ⟨by rfl, ?_⟩) (by assumption) ?_
  rotate_left
  · intro w hSw; (try dsimp only at hSw); go_simp; (try (with_reducible rfl))
  try simp only [Act.put, List.setIfInBounds_toArray, List.set_cons_zero, List.set_cons_succ]
  refine wpAnyH_take (i := 2) (oi := ⟨some 45, _, _, _, _, _⟩) (v := ?_) rfl (by kernel_rfl) (by kernel_rfl) (by kernel_rfl) (fun _ _ _ h => h) (Or.inl ⟨by rfl, ?_⟩) (by assumption) ?_
  rotate_left
  · intro w hSw; (try dsimp only at hSw); go_simp; (try (with_reducible rfl))
  try simp only [Act.put, List.setIfInBounds_toArray, List.set_cons_zero, List.set_cons_succ]
  refine wpAnyH_take (i := 3) (oi := ⟨some 46, _, _, _, _, _⟩) (v := ?_) rfl (by kernel_rfl) (by kernel_rfl) (by kernel_rfl) (fun _ _ _ h => h) (Or.inl ⟨by rfl, ?_⟩) (by assumption) ?_
  rotate_left
  · intro w hSw; (try dsimp only at hSw); go_simp; (try (with_reducible rfl))
  try simp only [Act.put, List.setIfInBounds_toArray, List.set_cons_zero, List.set_cons_succ]
  refine wpAnyH_take (i := 4) (oi := ⟨some 47, _, _, _, _, _⟩) (v := ?_) rfl (by kernel_rfl) (by kernel_rfl) (by kernel_rfl) (fun _ _ _ h => h) (Or.inl ⟨by rfl, ?_⟩) (by assumption) ?_
  rotate_left
  · intro w hSw; (try dsimp only at hSw); go_simp; (try (with_reducible rfl))
  try simp only [Act.put, List.setIfInBounds_toArray, List.set_cons_zero, List.set_cons_succ]
  refine wpAnyH_take (i := 5) (oi := ⟨some 48, _, _, _, _, _⟩) (v := ?_) rfl (by kernel_rfl) (by kernel_rfl) (by kernel_rfl) (fun _ _ _ h => h) (Or.inl ⟨by rfl, ?_⟩) (by assumption) ?_
  rotate_left
  · intro w hSw; (try dsimp only at hSw); go_simp; (try (with_reducible rfl))
  try simp only [Act.put, List.setIfInBounds_toArray, List.set_cons_zero, List.set_cons_succ]
  refine wpAnyH_take (i := 6) (oi := ⟨some 49, _, _, _, _, _⟩) (v := ?_) rfl (by kernel_rfl) (by kernel_rfl) (by kernel_rfl) (fun _ _ _ h => h) (Or.inl ⟨by rfl, ?_⟩) (by assumption) ?_
  rotate_left
  · intro w hSw; (try dsimp only at hSw); go_simp; (try (with_reducible rfl))
  try simp only [Act.put, List.setIfInBounds_toArray, List.set_cons_zero, List.set_cons_succ]
  refine wpAnyH_take (i := 7) (oi := ⟨some 50, _, _, _, _, _⟩) (v := ?_) rfl (by kernel_rfl) (by kernel_rfl) (by kernel_rfl) (fun _ _ _ h => h) (Or.inl ⟨by rfl, ?_⟩) (by assumption) ?_
  rotate_left
  · intro w hSw; (try dsimp only at hSw); go_simp; (try (with_reducible rfl))
  try simp only [Act.put, List.setIfInBounds_toArray, List.set_cons_zero, List.set_cons_succ]
  refine wpAnyH_take (i := 8) (oi := ⟨some 51, _, _, _, _, _⟩) (v := ?_) rfl (by kernel_rfl) (by kernel_rfl) (by kernel_rfl) (fun _ _ _ h => h) (Or.inl ⟨by rfl, ?_⟩) (by assumption) ?_
  rotate_left
  · intro w hSw; (try dsimp only at hSw); go_simp; (try (with_reducible rfl))
  try simp only [Act.put, List.setIfInBounds_toArray, List.set_cons_zero, List.set_cons_succ]
  refine wpAnyH_take (i := 9) (oi := ⟨some 52, _, _, _, _, _⟩) (v := ?_) rfl (by kernel_rfl) (by kernel_rfl) (by kernel_rfl) (fun _ _ _ h => h) (Or.inl ⟨by rfl, ?_⟩) (by assumption) ?_
  rotate_left
  · intro w hSw; (try dsimp only at hSw); go_simp; (try (with_reducible rfl))
  try simp only [Act.put, List.setIfInBounds_toArray, List.set_cons_zero, List.set_cons_succ]
  refine wpAnyH_take (i := 10) (oi := ⟨some 53, _, _, _, _, _⟩) (v := ?_) rfl (by kernel_rfl) (by kernel_rfl) (by kernel_rfl) (fun _ _ _ h => h) (Or.inl ⟨by rfl, ?_⟩) (by assumption) ?_
  rotate_left
  · intro w hSw; (try dsimp only at hSw); go_simp; (try (with_reducible rfl))
  try simp only [Act.put, List.setIfInBounds_toArray, List.set_cons_zero, List.set_cons_succ]
  refine wpAnyH_take (i := 11) (oi := ⟨some 54, _, _, _, _, _⟩) (v := ?_) rfl (by kernel_rfl) (by kernel_rfl) (by kernel_rfl) (fun _ _ _ h => h) (Or.inl ⟨by rfl, ?_⟩) (by assumption) ?_
  rotate_left
  · intro w hSw; (try dsimp only at hSw); go_simp; (try (with_reducible rfl))
  try simp only [Act.put, List.setIfInBounds_toArray, List.set_cons_zero, List.set_cons_succ]
  refine wpAnyH_take (i := 12) (oi := ⟨some 55, _, _, _, _, _⟩) (v := ?_) rfl (by kernel_rfl) (by kernel_rfl) (by kernel_rfl) (fun _ _ _ h => h) (Or.inl ⟨by rfl, ?_⟩) (by assumption) ?_
  rotate_left
  · intro w hSw; (try dsimp only at hSw); go_simp; (try (with_reducible rfl))
  try simp only [Act.put, List.setIfInBounds_toArray, List.set_cons_zero, List.set_cons_succ]
  refine wpAnyH_take (i := 13) (oi := ⟨some 56, _, _, _, _, _⟩) (v := ?_) rfl (by kernel_rfl) (by kernel_rfl) (by kernel_rfl) (fun _ _ _ h => h) (Or.inl ⟨by rfl, ?_⟩) (by assumption) ?_
  rotate_left
  · intro w hSw; (try dsimp only at hSw); go_simp; (try (with_reducible rfl))
  try simp only [Act.put, List.setIfInBounds_toArray, List.set_cons_zero, List.set_cons_succ]
  refine wpAnyH_take (i := 14) (oi := ⟨some 57, _, _, _, _, _⟩) (v := ?_) rfl (by kernel_rfl) (by kernel_rfl) (by kernel_rfl) (fun _ _ _ h => h) (Or.inl ⟨by rfl, ?_⟩) (by assumption) ?_
  rotate_left
  · intro w hSw; (try dsimp only at hSw); go_simp; (try (with_reducible rfl))
  try simp only [Act.put, List.setIfInBounds_toArray, List.set_cons_zero, List.set_cons_succ]
  refine wpAnyH_take (i := 15) (oi := ⟨some 58, _, _, _, _, _⟩) (v := ?_) rfl (by kernel_rfl) (by kernel_rfl) (by kernel_rfl) (fun _ _ _ h => h) (Or.inl ⟨by rfl, ?_⟩) (by assumption) ?_
  rotate_left
  · intro w hSw; (try dsimp only at hSw); go_simp; (try (with_reducible rfl))
  try simp only [Act.put, List.setIfInBounds_toArray, List.set_cons_zero, List.set_cons_succ]
  refine wpAnyH_take (i := 16) (oi := ⟨some 59, _, _, _, _, _⟩) (v := ?_) rfl (by kernel_rfl) (by kernel_rfl) (by kernel_rfl) (fun _ _ _ h => h) (Or.inl ⟨by rfl, ?_⟩) (by assumption) ?_
  rotate_left
  · intro w hSw; (try dsimp only at hSw); go_simp; (try (with_reducible rfl))
  try simp only [Act.put, List.setIfInBounds_toArray, List.set_cons_zero, List.set_cons_succ]
  refine wpAnyH_ready (rs := [17]) (by kernel_rfl) (by simp) ?_
  refine AllReadyH.cons (o := ⟨some 60, _, _, _, _, _⟩) rfl (fun K hK => ?_) AllReadyH.nil
  go_simp
  -- call
  have BV := hHeld.2.2.2.2.2.2.2.1
  have BB := hHeld.2.2.2.2.2.2.2.2.1
  have BR := hHeld.2.2.2.2.2.2.2.2.2.1
  have CN := hHeld.2.2.2.2.2.2.2.2.2.2.1
  have hb := hHeld.2.2.2.2.2.2.2.2.2.2.2
  clear hHeld
  refine (HOP.out _ hb).mono ?_
  rintro e wq1 ⟨rfl, hq1⟩
  replace BV := BV.below hq1
  replace BB := BB.below hq1
  replace BR := BR.below hq1
  replace CN := CN.below hq1
  replace hb := chain hb hq1
  (try go_wp2_with fail)
  refine hK.out _ _ ⟨BV.four.1, BV.four.2.1, BV.four.2.2.1, BV.four.2.2.2.1, BB.two.1, BB.two.2.1, CN, BV, BB, BR, CN, hb⟩ (fun hHeld => ?_)
  clear hK K
  try simp only [Act.put, List.setIfInBounds_toArray, List.set_cons_zero, List.set_cons_succ]
  refine wpAnyH_ready (rs := [18]) (by kernel_rfl) (by simp) ?_
  refine AllReadyH.cons (o := ⟨none, _, _, _, _, _⟩) rfl (fun K hK => ?_) AllReadyH.nil
  -- store
  have BV := hHeld.2.2.2.2.2.2.2.1
  have BB := hHeld.2.2.2.2.2.2.2.2.1
  have BR := hHeld.2.2.2.2.2.2.2.2.2.1
  have CN := hHeld.2.2.2.2.2.2.2.2.2.2.1
  have hb := hHeld.2.2.2.2.2.2.2.2.2.2.2
  clear hHeld
  obtain ⟨q0, q1, q2, q3, BQ⟩ := BR
  obtain ⟨s0, s1, s2, s3, sf, sl⟩ := BQ.four
  have BR : Res4 _ (w.heap.size + 1 + 1) 56 := ⟨_, _, _, _, BQ⟩
  replace BV := BV.set4 (g := w.heap.size + 1 + 1) (by omega) (.int .i64 (P : Int)) (.int .i64 (t : Int)) (.int .i64 d) (.bool (z == 1))
  replace BB := BB.set4 (g := w.heap.size + 1 + 1) (by omega) (.int .i64 (P : Int)) (.int .i64 (t : Int)) (.int .i64 d) (.bool (z == 1))
  replace BR := BR.set4 (.int .i64 (P : Int)) (.int .i64 (t : Int)) (.int .i64 d) (.bool (z == 1))
  replace CN := CN.set4 (g := w.heap.size + 1 + 1) (by omega) (.int .i64 (P : Int)) (.int .i64 (t : Int)) (.int .i64 d) (.bool (z == 1))
  have hbq := hb
  replace hb := below_set4 (g := w.heap.size + 1 + 1) hb (by omega) (.int .i64 (P : Int)) (.int .i64 (t : Int)) (.int .i64 d) (.bool (z == 1))
  go_simp
  (try go_wp2_with fail)
  refine hK.out _ _ ⟨BV.four.1, BV.four.2.1, BV.four.2.2.1, BV.four.2.2.2.1, BB.two.1, BB.two.2.1, CN, BV, BB, BR, CN, hb⟩ (fun hHeld => ?_)
  clear hK K
  try simp only [Act.put, List.setIfInBounds_toArray, List.set_cons_zero, List.set_cons_succ]
  refine wpAnyH_take (i := 19) (oi := ⟨some 9, _, _, _, _, _⟩) (v := ?_) rfl (by kernel_rfl) (by kernel_rfl) (by kernel_rfl) (fun _ _ _ h => h) (Or.inl ⟨by rfl, ?_⟩) (by assumption) ?_
  rotate_left
  · intro w hSw; (try dsimp only at hSw); go_simp; (try (with_reducible rfl))
  try simp only [Act.put, List.setIfInBounds_toArray, List.set_cons_zero, List.set_cons_succ]
  refine wpAnyH_done (by kernel_rfl) ?_ _
  have BV := hHeld.2.2.2.2.2.2.2.1
  have BB := hHeld.2.2.2.2.2.2.2.2.1
  have BR := hHeld.2.2.2.2.2.2.2.2.2.1
  have CN := hHeld.2.2.2.2.2.2.2.2.2.2.1
  have hb := hHeld.2.2.2.2.2.2.2.2.2.2.2
  clear hHeld
  go_wp2
  refine bodyPost_ret (v := .tuple #[stV ((P : Int), (t : Int), d, z == 1), .bool (decide (z ≤ 1))]) (by simp [results, Try.results37, go_sem, *]) rfl ⟨((P : Int), (t : Int), d, z == 1), decide (z ≤ 1), rfl, ?_, hb⟩
  rw [← HRS.out]
  by_cases hz1 : z ≤ 1
  · rw [if_pos hz1, if_pos (by simpa using hz1)]
    rfl
  · rw [if_neg hz1, if_neg (by simpa using hz1)]
set_option maxRecDepth 8000 in
set_option maxHeartbeats 2000000 in
theorem l04Step_posN (P : Nat) (c h s : Int) (a1 a2 : Option Addr) (n1 n2 c1 c2 : Nat) (xs ys : List Int) (w : World) (h1 : xs.length = n1) (h2 : ys.length = n2) (p0 : 2 ≤ P) (p1 : P ≤ 24) (N1 : xs.length = P + 1) (N2 : ys.length = P + 1) (hh0 : 1 ≤ h) (hh : h ≤ (P : Int)) (hx : ∀ x ∈ xs, 0 ≤ x ∧ x ≤ 1000) (hy : ∀ y ∈ ys, 0 ≤ y ∧ y ≤ 1000) (r1 : IRow w a1 xs) (r2 : IRow w a2 ys) (k : Nat) (d : Int) (k1 : k ≤ P) (d0 : 1 ≤ d) (d1 : d ≤ 1000) (g3 : overB xs ys = false) (gp : xs.getD P 0 = 0) (g0 : ¬ xs.getD k 0 = 0) (gk : ¬ (k : Int) = (P : Int)) (t : Nat) (ht : (k : Int) - d = (t : Int)) :
    Calls Try.prog 37 #[.agg #[.int .i64 (P : Int), .int .i64 c, .int .i64 h, .int .i64 s], .agg #[.slice a1 n1 c1, .slice a2 n2 c2], .int .i64 (k : Int), .int .i64 d] w (StepGot (if ys.getD (P - 1 - t) 0 ≤ 1 then some ((k : Int), (t : Int), d, decide (ys.getD (P - 1 - t) 0 = 1)) else none) w) := by
  have ho0 := fun W (hW : Below w.heap.size w W) => l02Over_any a1 a2 n1 n2 c1 c2 xs ys W h1 h2 (by omega) (by omega) hx hy (r1.below hW) (r2.below hW)
  have hop := fun W (hW : Below w.heap.size w W) => l04Open_any P c h s a1 a2 n1 n2 c1 c2 xs ys W h1 h2 p0 p1 N1 N2 hh0 hh hx hy (r1.below hW) (r2.below hW) t (by omega)
  rw [g3] at ho0
  have HOV := Lib.hid ho0
  obtain ⟨b, ob, rfl, -⟩ := r1 0 (by omega)
  have hck : ∀ W, Below w.heap.size w W → W.cell? ⟨b, ob + k, none⟩ = some (.int .i64 (xs.getD k 0)) := fun W hW => by
    obtain ⟨b', o', e, hc⟩ := r1.below hW k (by omega)
    simp at e
    obtain ⟨rfl, rfl⟩ := e
    exact hc
  have hcp : ∀ W, Below w.heap.size w W → W.cell? ⟨b, ob + P, none⟩ = some (.int .i64 (xs.getD P 0)) := fun W hW => by
    obtain ⟨b', o', e, hc⟩ := r1.below hW P (by omega)
    simp at e
    obtain ⟨rfl, rfl⟩ := e
    exact hc
  have hkn : k < n1 := by omega
  have hPn : P < n1 := by omega
  have hkI : (k : Int) < (n1 : Int) := by omega
  have hPI : (P : Int) < (n1 : Int) := by omega
  have hk0 : (0 : Int) ≤ (k : Int) := by omega
  obtain ⟨u, hu⟩ : ∃ u, xs.getD k 0 = u := ⟨_, rfl⟩
  obtain ⟨v, hv⟩ : ∃ v, xs.getD P 0 = v := ⟨_, rfl⟩
  have hv0 : 0 ≤ v := by rw [← hv]; exact (hx _ (getD_mem (show P < xs.length by omega))).1
  rw [hu] at hck
  rw [hv] at hcp
  have HC1 := Lib.hid hck
  have HC2 := Lib.hid hcp
  rw [hu] at g0
  rw [hv] at gp
  subst gp
  
  have ht0 : (0 : Int) ≤ (t : Int) := by omega
  have eu : (u == 0) = false := by simpa using g0
  have tP : t < P := by omega
  have tPI : (t : Int) < (P : Int) := by omega
  obtain ⟨b2, o2, rfl, -⟩ := r2 0 (by omega)
  have hcz : ∀ W, Below w.heap.size w W → W.cell? ⟨b2, o2 + (P - 1 - t), none⟩ = some (.int .i64 (ys.getD (P - 1 - t) 0)) := fun W hW => by
    obtain ⟨b', o', e, hc⟩ := r2.below hW (P - 1 - t) (by omega)
    simp at e
    obtain ⟨rfl, rfl⟩ := e
    exact hc
  have e1 : ((P : Int) - 1 - (t : Int)) = ((P - 1 - t : Nat) : Int) := by omega
  have hlt : P - 1 - t < n2 := by omega
  have hltI : ((P - 1 - t : Nat) : Int) < (n2 : Int) := by omega
  have hz0 : 0 ≤ ys.getD (P - 1 - t) 0 ∧ ys.getD (P - 1 - t) 0 ≤ 1000 := hy _ (getD_mem (show P - 1 - t < ys.length by omega))
  obtain ⟨z, hz⟩ : ∃ z, ys.getD (P - 1 - t) 0 = z := ⟨_, rfl⟩
  obtain ⟨K, hK⟩ : ∃ K, P - 1 - t = K := ⟨_, rfl⟩
  rw [hz] at hcz hop hz0 ⊢
  rw [hK] at hcz e1 hlt hltI
  have z0 : 0 ≤ z := hz0.1
  have z9 : z ≤ 1000 := hz0.2
  have wz1 : IntKind.i64.wrap (IntKind.i64.wrap ((P : Int) - 1) - (t : Int)) = (K : Int) := by rw [IntWalk.i64_in ((P : Int) - 1) (by omega), e1]; exact IntWalk.i64_in _ (by omega)
  have hk24 : (k : Int) ≤ 24 := by omega
  obtain ⟨RS, hRS⟩ : ∃ RS, (if z ≤ 1 then some ((k : Int), (t : Int), d, decide (z = 1)) else (none : Option Stp)) = RS := ⟨_, rfl⟩
  rw [hRS]
  have HRS := Lib.hid hRS
  clear hRS
  have hb2w : b2 < w.heap.size := World.block_lt_of_cell? w _ (hcz w (Below.refl _ _))
  have HCZ := Lib.hid hcz
  have HOP := Lib.hid hop
  clear ho0 g3 hck hcp hu hv hx hy r1 r2 hop hcz hz hK e1 hz0
  obtain ⟨BV, BB, BR, hb, hz⟩ := three_new w #[.int .i64 (P : Int), .int .i64 c, .int .i64 h, .int .i64 s] #[.slice (some ⟨b, ob, none⟩) n1 c1, .slice (some ⟨b2, o2, none⟩) n2 c2] #[.int .i64 0, .int .i64 0, .int .i64 0, .bool false] 35 32 56
  obtain ⟨x0, x1, x2, x3, xf, xl⟩ := BV.four
  obtain ⟨y0, y1, yf, yl⟩ := BB.two
  obtain ⟨s0, s1, s2, s3, sf, sl⟩ := BR.four
  go_enter Try.func37, Try.ntmps37
  go_wp2_with (go_at_call 55; refine (HOV.out _ hb).mono ?_; rintro e w1 ⟨rfl, hb1⟩; obtain ⟨x0, x1, x2, x3, xf, xl⟩ := (BV.below hb1).four; obtain ⟨y0, y1, yf, yl⟩ := (BB.below hb1).two; obtain ⟨s0, s1, s2, s3, sf, sl⟩ := (BR.below hb1).four; have ck := HC1.out w1 (chain hb hb1); have cp := HC2.out w1 (chain hb hb1))
  have CN : CellIs w1 b2 (o2 + K) (.int .i64 z) := HCZ.out w1 (chain hb hb1)
  replace BV := BV.below hb1
  replace BB := BB.below hb1
  replace BR : Res4 w1 (w.heap.size + 1 + 1) 56 := ⟨_, _, _, _, BR.below hb1⟩
  replace hb := chain hb hb1
  replace BV := BV.drew
  replace BB := BB.drew
  replace BR := BR.drew
  replace CN := CN.drew
  replace hb := hb.drew
  refine wp_region_held_drew (S := fun w' => w'.cell? ⟨w.heap.size, 0, none⟩ = some (.int .i64 (P : Int)) ∧ w'.cell? ⟨w.heap.size, 1, none⟩ = some (.int .i64 c) ∧ w'.cell? ⟨w.heap.size, 2, none⟩ = some (.int .i64 h) ∧ w'.cell? ⟨w.heap.size, 3, none⟩ = some (.int .i64 s) ∧ w'.cell? ⟨(w.heap.size + 1), 0, none⟩ = some (.slice (some ⟨b, ob, none⟩) n1 c1) ∧ w'.cell? ⟨(w.heap.size + 1), 1, none⟩ = some (.slice (some ⟨b2, o2, none⟩) n2 c2) ∧ w'.cell? ⟨b2, o2 + K, none⟩ = some (.int .i64 z) ∧ Blk w' w.heap.size #[.int .i64 (P : Int), .int .i64 c, .int .i64 h, .int .i64 s] 35 ∧ Blk w' ((w.heap.size + 1)) #[.slice (some ⟨b, ob, none⟩) n1 c1, .slice (some ⟨b2, o2, none⟩) n2 c2] 32 ∧ (Res4 w' (w.heap.size + 1 + 1) 56) ∧ (CellIs w' b2 (o2 + K) (.int .i64 z)) ∧ Below w.heap.size w w') (by kernel_rfl) ⟨BV.four.1, BV.four.2.1, BV.four.2.2.1, BV.four.2.2.2.1, BB.two.1, BB.two.2.1, CN, BV, BB, BR, CN, hb⟩ (fun hHeld => ?_)
  refine wpAnyH_take (i := 0) (oi := ⟨some 43, _, _, _, _, _⟩) (v := ?_) rfl (by kernel_rfl) (by kernel_rfl) (by kernel_rfl) (fun _ _ _ h => h) (Or.inl ⟨by rfl, ?_⟩) (by assumption) ?_
  rotate_left
  · intro w hSw; (try dsimp only at hSw); go_simp; (try (with_reducible rfl))
  try simp only [Act.put, List.setIfInBounds_toArray, List.set_cons_zero, List.set_cons_succ]
  refine wpAnyH_take (i := 1) (oi := ⟨some 44, _, _, _, _, _⟩) (v := ?_) rfl (by kernel_rfl) (by kernel_rfl) (by kernel_rfl) (fun _ _ _ h => h) (Or.inl ⟨by rfl, ?_⟩) (by assumption) ?_
  rotate_left
  · intro w hSw; (try dsimp only at hSw); go_simp; (try (with_reducible rfl))
  try simp only [Act.put, List.setIfInBounds_toArray, List.set_cons_zero, List.set_cons_succ]
  refine wpAnyH_take (i := 2) (oi := ⟨some 45, _, _, _, _, _⟩) (v := ?_) rfl (by kernel_rfl) (by kernel_rfl) (by kernel_rfl) (fun _ _ _ h => h) (Or.inl ⟨by rfl, ?_⟩) (by assumption) ?_
  rotate_left
  · intro w hSw; (try dsimp only at hSw); go_simp; (try (with_reducible rfl))
  try simp only [Act.put, List.setIfInBounds_toArray, List.set_cons_zero, List.set_cons_succ]
  refine wpAnyH_take (i := 3) (oi := ⟨some 46, _, _, _, _, _⟩) (v := ?_) rfl (by kernel_rfl) (by kernel_rfl) (by kernel_rfl) (fun _ _ _ h => h) (Or.inl ⟨by rfl, ?_⟩) (by assumption) ?_
  rotate_left
  · intro w hSw; (try dsimp only at hSw); go_simp; (try (with_reducible rfl))
  try simp only [Act.put, List.setIfInBounds_toArray, List.set_cons_zero, List.set_cons_succ]
  refine wpAnyH_take (i := 4) (oi := ⟨some 47, _, _, _, _, _⟩) (v := ?_) rfl (by kernel_rfl) (by kernel_rfl) (by kernel_rfl) (fun _ _ _ h => h) (Or.inl ⟨by rfl, ?_⟩) (by assumption) ?_
  rotate_left
  · intro w hSw; (try dsimp only at hSw); go_simp; (try (with_reducible rfl))
  try simp only [Act.put, List.setIfInBounds_toArray, List.set_cons_zero, List.set_cons_succ]
  refine wpAnyH_take (i := 5) (oi := ⟨some 48, _, _, _, _, _⟩) (v := ?_) rfl (by kernel_rfl) (by kernel_rfl) (by kernel_rfl) (fun _ _ _ h => h) (Or.inl ⟨by rfl, ?_⟩) (by assumption) ?_
  rotate_left
  · intro w hSw; (try dsimp only at hSw); go_simp; (try (with_reducible rfl))
  try simp only [Act.put, List.setIfInBounds_toArray, List.set_cons_zero, List.set_cons_succ]
  refine wpAnyH_take (i := 6) (oi := ⟨some 49, _, _, _, _, _⟩) (v := ?_) rfl (by kernel_rfl) (by kernel_rfl) (by kernel_rfl) (fun _ _ _ h => h) (Or.inl ⟨by rfl, ?_⟩) (by assumption) ?_
  rotate_left
  · intro w hSw; (try dsimp only at hSw); go_simp; (try (with_reducible rfl))
  try simp only [Act.put, List.setIfInBounds_toArray, List.set_cons_zero, List.set_cons_succ]
  refine wpAnyH_take (i := 7) (oi := ⟨some 50, _, _, _, _, _⟩) (v := ?_) rfl (by kernel_rfl) (by kernel_rfl) (by kernel_rfl) (fun _ _ _ h => h) (Or.inl ⟨by rfl, ?_⟩) (by assumption) ?_
  rotate_left
  · intro w hSw; (try dsimp only at hSw); go_simp; (try (with_reducible rfl))
  try simp only [Act.put, List.setIfInBounds_toArray, List.set_cons_zero, List.set_cons_succ]
  refine wpAnyH_take (i := 8) (oi := ⟨some 51, _, _, _, _, _⟩) (v := ?_) rfl (by kernel_rfl) (by kernel_rfl) (by kernel_rfl) (fun _ _ _ h => h) (Or.inl ⟨by rfl, ?_⟩) (by assumption) ?_
  rotate_left
  · intro w hSw; (try dsimp only at hSw); go_simp; (try (with_reducible rfl))
  try simp only [Act.put, List.setIfInBounds_toArray, List.set_cons_zero, List.set_cons_succ]
  refine wpAnyH_take (i := 9) (oi := ⟨some 52, _, _, _, _, _⟩) (v := ?_) rfl (by kernel_rfl) (by kernel_rfl) (by kernel_rfl) (fun _ _ _ h => h) (Or.inl ⟨by rfl, ?_⟩) (by assumption) ?_
  rotate_left
  · intro w hSw; (try dsimp only at hSw); go_simp; (try (with_reducible rfl))
  try simp only [Act.put, List.setIfInBounds_toArray, List.set_cons_zero, List.set_cons_succ]
  refine wpAnyH_take (i := 10) (oi := ⟨some 53, _, _, _, _, _⟩) (v := ?_) rfl (by kernel_rfl) (by kernel_rfl) (by kernel_rfl) (fun _ _ _ h => h) (Or.inl ⟨by rfl, ?_⟩) (by assumption) ?_
  rotate_left
  · intro w hSw; (try dsimp only at hSw); go_simp; (try (with_reducible rfl))
  try simp only [Act.put, List.setIfInBounds_toArray, List.set_cons_zero, List.set_cons_succ]
  refine wpAnyH_take (i := 11) (oi := ⟨some 54, _, _, _, _, _⟩) (v := ?_) rfl (by kernel_rfl) (by kernel_rfl) (by kernel_rfl) (fun _ _ _ h => h) (Or.inl ⟨by rfl, ?_⟩) (by assumption) ?_
  rotate_left
  · intro w hSw; (try dsimp only at hSw); go_simp; (try (with_reducible rfl))
  try simp only [Act.put, List.setIfInBounds_toArray, List.set_cons_zero, List.set_cons_succ]
  refine wpAnyH_take (i := 12) (oi := ⟨some 55, _, _, _, _, _⟩) (v := ?_) rfl (by kernel_rfl) (by kernel_rfl) (by kernel_rfl) (fun _ _ _ h => h) (Or.inl ⟨by rfl, ?_⟩) (by assumption) ?_
  rotate_left
  · intro w hSw; (try dsimp only at hSw); go_simp; (try (with_reducible rfl))
  try simp only [Act.put, List.setIfInBounds_toArray, List.set_cons_zero, List.set_cons_succ]
  refine wpAnyH_take (i := 13) (oi := ⟨some 56, _, _, _, _, _⟩) (v := ?_) rfl (by kernel_rfl) (by kernel_rfl) (by kernel_rfl) (fun _ _ _ h => h) (Or.inl ⟨by rfl, ?_⟩) (by assumption) ?_
  rotate_left
  · intro w hSw; (try dsimp only at hSw); go_simp; (try (with_reducible rfl))
  try simp only [Act.put, List.setIfInBounds_toArray, List.set_cons_zero, List.set_cons_succ]
  refine wpAnyH_take (i := 14) (oi := ⟨some 57, _, _, _, _, _⟩) (v := ?_) rfl (by kernel_rfl) (by kernel_rfl) (by kernel_rfl) (fun _ _ _ h => h) (Or.inl ⟨by rfl, ?_⟩) (by assumption) ?_
  rotate_left
  · intro w hSw; (try dsimp only at hSw); go_simp; (try (with_reducible rfl))
  try simp only [Act.put, List.setIfInBounds_toArray, List.set_cons_zero, List.set_cons_succ]
  refine wpAnyH_take (i := 15) (oi := ⟨some 58, _, _, _, _, _⟩) (v := ?_) rfl (by kernel_rfl) (by kernel_rfl) (by kernel_rfl) (fun _ _ _ h => h) (Or.inl ⟨by rfl, ?_⟩) (by assumption) ?_
  rotate_left
  · intro w hSw; (try dsimp only at hSw); go_simp; (try (with_reducible rfl))
  try simp only [Act.put, List.setIfInBounds_toArray, List.set_cons_zero, List.set_cons_succ]
  refine wpAnyH_take (i := 16) (oi := ⟨some 59, _, _, _, _, _⟩) (v := ?_) rfl (by kernel_rfl) (by kernel_rfl) (by kernel_rfl) (fun _ _ _ h => h) (Or.inl ⟨by rfl, ?_⟩) (by assumption) ?_
  rotate_left
  · intro w hSw; (try dsimp only at hSw); go_simp; (try (with_reducible rfl))
  try simp only [Act.put, List.setIfInBounds_toArray, List.set_cons_zero, List.set_cons_succ]
  refine wpAnyH_ready (rs := [17]) (by kernel_rfl) (by simp) ?_
  refine AllReadyH.cons (o := ⟨some 60, _, _, _, _, _⟩) rfl (fun K hK => ?_) AllReadyH.nil
  go_simp
  -- call
  have BV := hHeld.2.2.2.2.2.2.2.1
  have BB := hHeld.2.2.2.2.2.2.2.2.1
  have BR := hHeld.2.2.2.2.2.2.2.2.2.1
  have CN := hHeld.2.2.2.2.2.2.2.2.2.2.1
  have hb := hHeld.2.2.2.2.2.2.2.2.2.2.2
  clear hHeld
  refine (HOP.out _ hb).mono ?_
  rintro e wq1 ⟨rfl, hq1⟩
  replace BV := BV.below hq1
  replace BB := BB.below hq1
  replace BR := BR.below hq1
  replace CN := CN.below hq1
  replace hb := chain hb hq1
  (try go_wp2_with fail)
  refine hK.out _ _ ⟨BV.four.1, BV.four.2.1, BV.four.2.2.1, BV.four.2.2.2.1, BB.two.1, BB.two.2.1, CN, BV, BB, BR, CN, hb⟩ (fun hHeld => ?_)
  clear hK K
  try simp only [Act.put, List.setIfInBounds_toArray, List.set_cons_zero, List.set_cons_succ]
  refine wpAnyH_ready (rs := [18]) (by kernel_rfl) (by simp) ?_
  refine AllReadyH.cons (o := ⟨none, _, _, _, _, _⟩) rfl (fun K hK => ?_) AllReadyH.nil
  -- store
  have BV := hHeld.2.2.2.2.2.2.2.1
  have BB := hHeld.2.2.2.2.2.2.2.2.1
  have BR := hHeld.2.2.2.2.2.2.2.2.2.1
  have CN := hHeld.2.2.2.2.2.2.2.2.2.2.1
  have hb := hHeld.2.2.2.2.2.2.2.2.2.2.2
  clear hHeld
  obtain ⟨q0, q1, q2, q3, BQ⟩ := BR
  obtain ⟨s0, s1, s2, s3, sf, sl⟩ := BQ.four
  have BR : Res4 _ (w.heap.size + 1 + 1) 56 := ⟨_, _, _, _, BQ⟩
  replace BV := BV.set4 (g := w.heap.size + 1 + 1) (by omega) (.int .i64 (k : Int)) (.int .i64 (t : Int)) (.int .i64 d) (.bool (z == 1))
  replace BB := BB.set4 (g := w.heap.size + 1 + 1) (by omega) (.int .i64 (k : Int)) (.int .i64 (t : Int)) (.int .i64 d) (.bool (z == 1))
  replace BR := BR.set4 (.int .i64 (k : Int)) (.int .i64 (t : Int)) (.int .i64 d) (.bool (z == 1))
  replace CN := CN.set4 (g := w.heap.size + 1 + 1) (by omega) (.int .i64 (k : Int)) (.int .i64 (t : Int)) (.int .i64 d) (.bool (z == 1))
  have hbq := hb
  replace hb := below_set4 (g := w.heap.size + 1 + 1) hb (by omega) (.int .i64 (k : Int)) (.int .i64 (t : Int)) (.int .i64 d) (.bool (z == 1))
  go_simp
  (try go_wp2_with fail)
  refine hK.out _ _ ⟨BV.four.1, BV.four.2.1, BV.four.2.2.1, BV.four.2.2.2.1, BB.two.1, BB.two.2.1, CN, BV, BB, BR, CN, hb⟩ (fun hHeld => ?_)
  clear hK K
  try simp only [Act.put, List.setIfInBounds_toArray, List.set_cons_zero, List.set_cons_succ]
  refine wpAnyH_take (i := 19) (oi := ⟨some 9, _, _, _, _, _⟩) (v := ?_) rfl (by kernel_rfl) (by kernel_rfl) (by kernel_rfl) (fun _ _ _ h => h) (Or.inl ⟨by rfl, ?_⟩) (by assumption) ?_
  rotate_left
  · intro w hSw; (try dsimp only at hSw); go_simp; (try (with_reducible rfl))
  try simp only [Act.put, List.setIfInBounds_toArray, List.set_cons_zero, List.set_cons_succ]
  refine wpAnyH_done (by kernel_rfl) ?_ _
  have BV := hHeld.2.2.2.2.2.2.2.1
  have BB := hHeld.2.2.2.2.2.2.2.2.1
  have BR := hHeld.2.2.2.2.2.2.2.2.2.1
  have CN := hHeld.2.2.2.2.2.2.2.2.2.2.1
  have hb := hHeld.2.2.2.2.2.2.2.2.2.2.2
  clear hHeld
  go_wp2
  refine bodyPost_ret (v := .tuple #[stV ((k : Int), (t : Int), d, z == 1), .bool (decide (z ≤ 1))]) (by simp [results, Try.results37, go_sem, *]) rfl ⟨((k : Int), (t : Int), d, z == 1), decide (z ≤ 1), rfl, ?_, hb⟩
  rw [← HRS.out]
  by_cases hz1 : z ≤ 1
  · rw [if_pos hz1, if_pos (by simpa using hz1)]
    rfl
  · rw [if_neg hz1, if_neg (by simpa using hz1)]
theorem l04Step_any (P : Nat) (c h s : Int) (a1 a2 : Option Addr) (n1 n2 c1 c2 : Nat) (xs ys : List Int) (w : World) (h1 : xs.length = n1) (h2 : ys.length = n2) (p0 : 2 ≤ P) (p1 : P ≤ 24) (N1 : xs.length = P + 1) (N2 : ys.length = P + 1) (hh0 : 1 ≤ h) (hh : h ≤ (P : Int)) (hx : ∀ x ∈ xs, 0 ≤ x ∧ x ≤ 1000) (hy : ∀ y ∈ ys, 0 ≤ y ∧ y ≤ 1000) (r1 : IRow w a1 xs) (r2 : IRow w a2 ys) (k : Nat) (d : Int) (k1 : k ≤ P) (d0 : 1 ≤ d) (d1 : d ≤ 1000) :
    Calls Try.prog 37 #[.agg #[.int .i64 (P : Int), .int .i64 c, .int .i64 h, .int .i64 s], .agg #[.slice a1 n1 c1, .slice a2 n2 c2], .int .i64 (k : Int), .int .i64 d] w (StepGot (stepS P h xs ys k d) w) := by
  unfold stepS
  cases g3 : overB xs ys with
  | true =>
    rw [if_pos rfl]
    exact l04Step_over P c h s a1 a2 n1 n2 c1 c2 xs ys w h1 h2 p0 p1 N1 N2 hh0 hh hx hy r1 r2 k d k1 d0 d1 g3
  | false =>
    rw [if_neg (by simp)]
    by_cases g0 : xs.getD k 0 = 0
    · rw [stepI, if_pos g0]
      exact l04Step_none P c h s a1 a2 n1 n2 c1 c2 xs ys w h1 h2 p0 p1 N1 N2 hh0 hh hx hy r1 r2 k d k1 d0 d1 g3 (.inl g0)
    · by_cases g1 : 0 < xs.getD P 0 ∧ k ≠ P
      · rw [stepI_blocked N1 hh k1 d0 g1.2 g1.1]
        exact l04Step_none P c h s a1 a2 n1 n2 c1 c2 xs ys w h1 h2 p0 p1 N1 N2 hh0 hh hx hy r1 r2 k d k1 d0 d1 g3 (.inr g1)
      · have hP0 := (hx _ (getD_mem (show P < xs.length by omega))).1
        by_cases ht : (k : Int) - d < 0
        · rw [stepI_neg N1 hh k1 d0 g1 hx g0 ht]
          by_cases hk : k = P
          · subst hk
            have gp : 0 < xs.getD k 0 := by omega
            have hl : lastL xs xs.length = (k : Int) := by rw [N1]; exact lastL_pos gp
            rw [if_pos (.inl (by omega))]
            exact l04Step_negP k c h s a1 a2 n1 n2 c1 c2 xs ys w h1 h2 p0 p1 N1 N2 hh0 hh hx hy r1 r2 d d0 d1 g3 gp ht
          · have gp : xs.getD P 0 = 0 := by
              have : ¬ 0 < xs.getD P 0 := fun hp => g1 ⟨hp, hk⟩
              omega
            exact l04Step_negN P c h s a1 a2 n1 n2 c1 c2 xs ys w h1 h2 p0 p1 N1 N2 hh0 hh hx hy r1 r2 k d k1 d0 d1 g3 gp g0 (by omega) ht
        · obtain ⟨t, ht⟩ := Int.eq_ofNat_of_zero_le (by omega : 0 ≤ (k : Int) - d)
          rw [stepI_pos N1 N2 hy hx k1 d0 g1 g0 t ht]
          by_cases hk : k = P
          · subst hk
            exact l04Step_posP k c h s a1 a2 n1 n2 c1 c2 xs ys w h1 h2 p0 p1 N1 N2 hh0 hh hx hy r1 r2 d d0 d1 g3 (by omega) t ht
          · have gp : xs.getD P 0 = 0 := by
              have : ¬ 0 < xs.getD P 0 := fun hp => g1 ⟨hp, hk⟩
              omega
            exact l04Step_posN P c h s a1 a2 n1 n2 c1 c2 xs ys w h1 h2 p0 p1 N1 N2 hh0 hh hx hy r1 r2 k d k1 d0 d1 g3 gp g0 (by omega) t ht
def legB (P : Nat) (h s : Int) (xs ys : List Int) (t : Stp) : Bool :=
  inB t.2.2.1 1 s && (placesB (P : Int) t && (!overB xs ys && decide (stepI P h xs ys t.1.toNat t.2.2.1 = some t)))
set_option maxRecDepth 8000 in
set_option maxHeartbeats 2000000 in
theorem isLegal_any (P : Nat) (c h s : Int) (f1 f2 B : Nat) (xs ys : List Int) (w : World) (p0 : 2 ≤ P) (p1 : P ≤ 24) (n1 : xs.length = P + 1) (n2 : ys.length = P + 1) (hx : ∀ x ∈ xs, 0 ≤ x ∧ x ≤ 1000) (hy : ∀ y ∈ ys, 0 ≤ y ∧ y ≤ 1000) (q1 : Pays f1 B xs w) (q2 : Pays f2 B ys w) (s6 : s ≤ 6) (t : Stp) :
    Calls Try.prog 48 #[.agg #[.int .i64 (P : Int), .int .i64 c, .int .i64 h, .int .i64 s], tv (P : Int) f1 f2 B, stV t] w fun e w' => e = .returned (.bool (legB P h s xs ys t)) ∧ Below w.heap.size w w' := by
  obtain ⟨a, b, d, q⟩ := t
  unfold legB
  dsimp only
  have hd0 := fun W => hasDie_any (P : Int) c h s d W
  have hp0 := fun W => hasPlaces_any (P : Int) c h s (a, b, d, q) W
  have ho0 := fun W (hW : Below w.heap.size w W) => over_any (P : Int) f1 f2 B xs ys W (by omega) (by omega) (by omega) (by omega) hx hy (q1.below hW) (q2.below hW)
  cases g1 : inB d 1 s with
  | false =>
    rw [g1] at hd0
    rw [Bool.false_and]
    have HD := Lib.hid hd0
    clear hd0 hp0 ho0
    obtain ⟨BV, BT, BS, hb, hz⟩ := three_new w #[.int .i64 (P : Int), .int .i64 c, .int .i64 h, .int .i64 s] #[.int .i64 (P : Int), fv f1 B, fv f2 B] #[.int .i64 a, .int .i64 b, .int .i64 d, .bool q] 35 86 56
    obtain ⟨x0, x1, x2, x3, xf, xl⟩ := BV.four
    obtain ⟨z0, z1, z2, zf, zl⟩ := BT.tri
    obtain ⟨r0, r1, r2, r3, rf, rl⟩ := BS.four
    go_enter Try.func48, Try.ntmps48
    go_wp2_with (first | (go_at_call 62; refine (HD.out _).mono ?_; rintro e w1 ⟨rfl, hb1⟩; obtain ⟨x0, x1, x2, x3, xf, xl⟩ := (BV.below hb1).four; obtain ⟨z0, z1, z2, zf, zl⟩ := (BT.below hb1).tri; obtain ⟨r0, r1, r2, r3, rf, rl⟩ := (BS.below hb1).four))
    go_ret
    exact ⟨rfl, chain hb hb1⟩
  | true =>
    rw [g1] at hd0
    rw [Bool.true_and]
    cases g2 : placesB (P : Int) (a, b, d, q) with
    | false =>
      rw [g2] at hp0
      rw [Bool.false_and]
      have HD := Lib.hid hd0
      have HPL := Lib.hid hp0
      clear hd0 hp0 ho0
      obtain ⟨BV, BT, BS, hb, hz⟩ := three_new w #[.int .i64 (P : Int), .int .i64 c, .int .i64 h, .int .i64 s] #[.int .i64 (P : Int), fv f1 B, fv f2 B] #[.int .i64 a, .int .i64 b, .int .i64 d, .bool q] 35 86 56
      obtain ⟨x0, x1, x2, x3, xf, xl⟩ := BV.four
      obtain ⟨z0, z1, z2, zf, zl⟩ := BT.tri
      obtain ⟨r0, r1, r2, r3, rf, rl⟩ := BS.four
      go_enter Try.func48, Try.ntmps48
      go_wp2_with (first | (go_at_call 62; refine (HD.out _).mono ?_; rintro e w1 ⟨rfl, hb1⟩; obtain ⟨x0, x1, x2, x3, xf, xl⟩ := (BV.below hb1).four; obtain ⟨z0, z1, z2, zf, zl⟩ := (BT.below hb1).tri; obtain ⟨r0, r1, r2, r3, rf, rl⟩ := (BS.below hb1).four) | (go_at_call 69; refine (HPL.out _).mono ?_; rintro e w2 ⟨rfl, hb2⟩; obtain ⟨x0, x1, x2, x3, xf, xl⟩ := (BV.below (chain hb1 hb2)).four; obtain ⟨z0, z1, z2, zf, zl⟩ := (BT.below (chain hb1 hb2)).tri; obtain ⟨r0, r1, r2, r3, rf, rl⟩ := (BS.below (chain hb1 hb2)).four))
      go_ret
      exact ⟨rfl, chain hb (chain hb1 hb2)⟩
    | true =>
      rw [g2] at hp0
      rw [Bool.true_and]
      cases g3 : overB xs ys with
      | true =>
        rw [g3] at ho0
        rw [Bool.not_true, Bool.false_and]
        have HD := Lib.hid hd0
        have HPL := Lib.hid hp0
        have HOV := Lib.hid ho0
        clear hd0 hp0 ho0
        obtain ⟨BV, BT, BS, hb, hz⟩ := three_new w #[.int .i64 (P : Int), .int .i64 c, .int .i64 h, .int .i64 s] #[.int .i64 (P : Int), fv f1 B, fv f2 B] #[.int .i64 a, .int .i64 b, .int .i64 d, .bool q] 35 86 56
        obtain ⟨x0, x1, x2, x3, xf, xl⟩ := BV.four
        obtain ⟨z0, z1, z2, zf, zl⟩ := BT.tri
        obtain ⟨r0, r1, r2, r3, rf, rl⟩ := BS.four
        go_enter Try.func48, Try.ntmps48
        go_wp2_with (first | (go_at_call 62; refine (HD.out _).mono ?_; rintro e w1 ⟨rfl, hb1⟩; obtain ⟨x0, x1, x2, x3, xf, xl⟩ := (BV.below hb1).four; obtain ⟨z0, z1, z2, zf, zl⟩ := (BT.below hb1).tri; obtain ⟨r0, r1, r2, r3, rf, rl⟩ := (BS.below hb1).four) | (go_at_call 69; refine (HPL.out _).mono ?_; rintro e w2 ⟨rfl, hb2⟩; obtain ⟨x0, x1, x2, x3, xf, xl⟩ := (BV.below (chain hb1 hb2)).four; obtain ⟨z0, z1, z2, zf, zl⟩ := (BT.below (chain hb1 hb2)).tri; obtain ⟨r0, r1, r2, r3, rf, rl⟩ := (BS.below (chain hb1 hb2)).four) | (go_at_call 70; refine (HOV.out _ (chain hb (chain hb1 hb2))).mono ?_; rintro e w3 ⟨rfl, hb3⟩; obtain ⟨x0, x1, x2, x3, xf, xl⟩ := (BV.below (chain (chain hb1 hb2) hb3)).four; obtain ⟨z0, z1, z2, zf, zl⟩ := (BT.below (chain (chain hb1 hb2) hb3)).tri; obtain ⟨r0, r1, r2, r3, rf, rl⟩ := (BS.below (chain (chain hb1 hb2) hb3)).four))
        go_ret
        exact ⟨rfl, chain hb (chain (chain hb1 hb2) hb3)⟩
      | false =>
        rw [g3] at ho0
        rw [Bool.not_false, Bool.true_and]
        have g1' : 1 ≤ d ∧ d ≤ s := by simpa [inB] using g1
        have g2' := g2
        simp only [placesB, Bool.and_eq_true, decide_eq_true_eq] at g2'
        obtain ⟨k, rfl⟩ := Int.eq_ofNat_of_zero_le g2'.1
        have hs0 := fun W (hW : Below w.heap.size w W) => stepFrom_any P c h s f1 f2 B xs ys W p0 p1 n1 n2 hx hy (q1.below hW) (q2.below hW) k d (by omega) g1'.1 (by omega)
        rw [show ((k : Int)).toNat = k by simp]
        obtain ⟨r, hr0⟩ : ∃ r, stepI P h xs ys k d = r := ⟨_, rfl⟩
        rw [hr0] at hs0 ⊢
        have HD := Lib.hid hd0
        have HPL := Lib.hid hp0
        have HOV := Lib.hid ho0
        have HSF := Lib.hid hs0
        clear hd0 hp0 ho0 hs0 hr0 g1 g2 g3
        obtain ⟨BV, BT, BS, hb, hz⟩ := three_new w #[.int .i64 (P : Int), .int .i64 c, .int .i64 h, .int .i64 s] #[.int .i64 (P : Int), fv f1 B, fv f2 B] #[.int .i64 (k : Int), .int .i64 b, .int .i64 d, .bool q] 35 86 56
        obtain ⟨x0, x1, x2, x3, xf, xl⟩ := BV.four
        obtain ⟨z0, z1, z2, zf, zl⟩ := BT.tri
        obtain ⟨r0, r1, r2, r3, rf, rl⟩ := BS.four
        go_enter Try.func48, Try.ntmps48
        go_wp2_with (first | (go_at_call 62; refine (HD.out _).mono ?_; rintro e w1 ⟨rfl, hb1⟩; obtain ⟨x0, x1, x2, x3, xf, xl⟩ := (BV.below hb1).four; obtain ⟨z0, z1, z2, zf, zl⟩ := (BT.below hb1).tri; obtain ⟨r0, r1, r2, r3, rf, rl⟩ := (BS.below hb1).four) | (go_at_call 69; refine (HPL.out _).mono ?_; rintro e w2 ⟨rfl, hb2⟩; obtain ⟨x0, x1, x2, x3, xf, xl⟩ := (BV.below (chain hb1 hb2)).four; obtain ⟨z0, z1, z2, zf, zl⟩ := (BT.below (chain hb1 hb2)).tri; obtain ⟨r0, r1, r2, r3, rf, rl⟩ := (BS.below (chain hb1 hb2)).four) | (go_at_call 70; refine (HOV.out _ (chain hb (chain hb1 hb2))).mono ?_; rintro e w3 ⟨rfl, hb3⟩; obtain ⟨x0, x1, x2, x3, xf, xl⟩ := (BV.below (chain (chain hb1 hb2) hb3)).four; obtain ⟨z0, z1, z2, zf, zl⟩ := (BT.below (chain (chain hb1 hb2) hb3)).tri; obtain ⟨r0, r1, r2, r3, rf, rl⟩ := (BS.below (chain (chain hb1 hb2) hb3)).four) | (go_at_call 71; refine (HSF.out _ (chain hb (chain (chain hb1 hb2) hb3))).mono ?_; rintro e w4 ⟨x, ok, rfl, hr, hb4⟩; obtain ⟨e1, e2, e3, e4⟩ := x; obtain ⟨x0, x1, x2, x3, xf, xl⟩ := (BV.below (chain (chain (chain hb1 hb2) hb3) hb4)).four; obtain ⟨z0, z1, z2, zf, zl⟩ := (BT.below (chain (chain (chain hb1 hb2) hb3) hb4)).tri; obtain ⟨r0, r1, r2, r3, rf, rl⟩ := (BS.below (chain (chain (chain hb1 hb2) hb3) hb4)).four))
        all_goals (go_ret; refine ⟨?_, (chain hb (chain (chain (chain hb1 hb2) hb3) hb4)).alloc (chain hb (chain (chain (chain hb1 hb2) hb3) hb4)).size _⟩; clear HD HPL HOV HSF hb1 hb2 hb3 hb4 hb q1 q2 BV BT BS hx hy; first | (simp [hr]; done) | (simp [hr, *]; done) | (simp_all; done))
theorem StepGot.none {w : World} {e : Ending} {w' : World} (h : StepGot none w e w') : ∃ x : Stp, e = .returned (.tuple #[stV x, .bool false]) ∧ Below w.heap.size w w' := by
  obtain ⟨x, ok, rfl, hr, hb⟩ := h
  cases ok with
  | false => exact ⟨x, rfl, hb⟩
  | true => simp at hr
theorem StepGot.some {t : Stp} {w : World} {e : Ending} {w' : World} (h : StepGot (some t) w e w') : e = .returned (.tuple #[stV t, .bool true]) ∧ Below w.heap.size w w' := by
  obtain ⟨x, ok, rfl, hr, hb⟩ := h
  cases ok with
  | false => simp at hr
  | true =>
    simp at hr
    subst hr
    exact ⟨rfl, hb⟩
def legTo (P : Nat) (h : Int) (xs ys : List Int) (d : Int) : Nat → List Stp
  | 0 => []
  | k + 1 => (stepI P h xs ys k d).toList ++ legTo P h xs ys d k
theorem legTo_length (P : Nat) (h : Int) (xs ys : List Int) (d : Int) : ∀ k, (legTo P h xs ys d k).length ≤ k
  | 0 => by simp [legTo]
  | k + 1 => by
    have := legTo_length P h xs ys d k
    rw [legTo, List.length_append]
    have h1 : (stepI P h xs ys k d).toList.length ≤ 1 := by cases stepI P h xs ys k d <;> simp
    omega
theorem legTo_last (P : Nat) (h : Int) (xs ys : List Int) (d : Int) (hx : ∀ x ∈ xs, 0 ≤ x ∧ x ≤ 1000) : ∀ k, k ≤ xs.length → legTo P h xs ys d k = legTo P h xs ys d (lastL xs k + 1).toNat
  | 0, _ => by simp [lastL, legTo]
  | k + 1, hk => by
    have ih := legTo_last P h xs ys d hx k (by omega)
    have hg := (hx _ (getD_mem (xs := xs) (k := k) (by omega))).1
    by_cases h0 : 0 < xs.getD k 0
    · rw [lastL_pos h0]
      congr 1
    · have hz : xs.getD k 0 = 0 := by omega
      rw [lastL_not hz, ← ih, legTo, stepI, if_pos hz]
      rfl
def legL (P : Nat) (h : Int) (xs ys : List Int) (d : Int) : List Stp := if overB xs ys = true then [] else legTo P h xs ys d (P + 1)
theorem legL_length (P : Nat) (h : Int) (xs ys : List Int) (d : Int) : (legL P h xs ys d).length ≤ P + 1 := by
  unfold legL
  split
  · simp
  · exact legTo_length _ _ _ _ _ _
set_option maxRecDepth 8000 in
set_option maxHeartbeats 2000000 in
theorem legalSteps_any (P : Nat) (c h s : Int) (f1 f2 B : Nat) (xs ys : List Int) (w : World) (p0 : 2 ≤ P) (p1 : P ≤ 24) (n1 : xs.length = P + 1) (n2 : ys.length = P + 1) (hx : ∀ x ∈ xs, 0 ≤ x ∧ x ≤ 1000) (hy : ∀ y ∈ ys, 0 ≤ y ∧ y ≤ 1000) (q1 : Pays f1 B xs w) (q2 : Pays f2 B ys w) (d : Int) (d0 : 1 ≤ d) (d1 : d ≤ 1000) :
    Calls Try.prog 78 #[.agg #[.int .i64 (P : Int), .int .i64 c, .int .i64 h, .int .i64 s], tv (P : Int) f1 f2 B, .int .i64 d] w (StepsGot (legL P h xs ys d) w) := by
  obtain ⟨BV, BT, hb, hz⟩ := two_new w #[.int .i64 (P : Int), .int .i64 c, .int .i64 h, .int .i64 s] #[.int .i64 (P : Int), fv f1 B, fv f2 B] 35 86
  have ho0 := fun W (hW : Below w.heap.size w W) => over_any (P : Int) f1 f2 B xs ys W (by omega) (by omega) (by omega) (by omega) hx hy (q1.below hW) (q2.below hW)
  obtain ⟨x0, x1, x2, x3, xf, xl⟩ := BV.four
  obtain ⟨z0, z1, z2, zf, zl⟩ := BT.tri
  unfold legL
  cases g3 : overB xs ys with
  | true =>
    rw [g3] at ho0
    rw [if_pos rfl]
    have HOV := Lib.hid ho0
    clear ho0 g3
    go_enter Try.func78, Try.ntmps78
    go_wp2_with (go_at_call 70; refine (HOV.out _ hb).mono ?_; rintro e w3 ⟨rfl, hb3⟩)
    go_ret
    exact ⟨none, 0, rfl, .inl ⟨rfl, rfl⟩, chain hb hb3⟩
  | false =>
    rw [g3] at ho0
    rw [if_neg (by simp)]
    have HOV := Lib.hid ho0
    have hf0 := fun W (hW : Below w.heap.size w W) => farthest_any (P : Int) f1 f2 B f1 B xs W (by omega) (by omega) (by omega) hx (q1.below hW)
    have hs0 := fun (k : Nat) (kP : k ≤ P) W (hW : Below w.heap.size w W) => stepFrom_any P c h s f1 f2 B xs ys W p0 p1 n1 n2 hx hy (q1.below hW) (q2.below hW) k d kP d0 d1
    have hl0 : legTo P h xs ys d (lastL xs xs.length + 1).toNat = legTo P h xs ys d (P + 1) := by rw [← legTo_last P h xs ys d hx xs.length (Nat.le_refl _), n1]
    have hll : ∀ k, (legTo P h xs ys d k).length ≤ k := legTo_length P h xs ys d
    obtain ⟨L, hL⟩ : ∃ L, legTo P h xs ys d (P + 1) = L := ⟨_, rfl⟩
    have hLl : L.length ≤ P + 1 := by rw [← hL]; exact hll _
    rw [hL] at hl0 ⊢
    have lb := lastL_bound xs xs.length
    obtain ⟨F, hF⟩ : ∃ F, lastL xs xs.length = F := ⟨_, rfl⟩
    rw [hF] at hf0 hl0 lb
    have F0 : -1 ≤ F := lb.1
    have F1 : F ≤ (P : Int) := by omega
    have HF := Lib.hid hf0
    have HS := Lib.hid hs0
    have HL := Lib.hid hl0
    clear ho0 g3 hf0 hs0 hl0 hL hF lb q1 q2 hll
    go_enter Try.func78, Try.ntmps78
    go_wp2_with (first | (go_at_call 70; refine (HOV.out _ hb).mono ?_; rintro e w3 ⟨rfl, hb3⟩; obtain ⟨x0, x1, x2, x3, xf, xl⟩ := (BV.below hb3).four; obtain ⟨z0, z1, z2, zf, zl⟩ := (BT.below hb3).tri) | (go_at_call 80; refine (HF.out _ (chain hb hb3)).mono ?_; rintro e w4 ⟨rfl, hb4⟩))
    have hb0 := chain hb3 hb4
    clear HOV HF hb3 hb4 x0 x1 x2 x3 xf xl z0 z1 z2 zf zl
    generalize ((w.alloc (.cells #[.int .i64 (P : Int), .int .i64 c, .int .i64 h, .int .i64 s] 35)).alloc (.cells #[.int .i64 (P : Int), fv f1 B, fv f2 B] 86)) = v0 at *
    go_loopg [7, 8] (F + 1).toNat (fun m q i wr => ∃ (k : Nat) (D : List Stp), k ≤ P + 1 ∧ m = k ∧ i = .int .i64 ((k : Int) - 1) ∧ D ++ legTo P h xs ys d k = L ∧ OwnT wr v0.heap.size q D ∧ Below v0.heap.size v0 wr)
    case atStart => exact ⟨(F + 1).toNat, [], by omega, rfl, by congr 1; omega, HL.out, OwnT.nil _ _, hb0⟩
    case round =>
      obtain ⟨k, D, hk, hm, rfl, hDL, hO, hbel⟩ := hrel
      have hDl : D.length ≤ P + 1 := by rw [← hDL, List.length_append] at hLl; omega
      have hbw := chain hb hbel
      obtain ⟨x0, x1, x2, x3, xf, xl⟩ := (BV.below hbel).four
      obtain ⟨z0, z1, z2, zf, zl⟩ := (BT.below hbel).tri
      cases k with
      | zero =>
        have hDL2 : D = L := by rw [← hDL]; simp [legTo]
        subst hDL2
        obtain ⟨a, cp, rfl⟩ := hO.form
        have hos := hO.ost
        have HDL := Lib.hid hDL
        clear hDL hDl hLl
        go_wp2
        go_ret
        exact ⟨a, cp, rfl, hos.mono hb.size (Nat.le_refl _), hbw⟩
      | succ k =>
        have e1 : (((k + 1 : Nat) : Int) - 1) = (k : Int) := by omega
        rw [e1]
        have hsk := HS.out k (by omega) wr hbw
        rw [legTo] at hDL
        have hkP : (k : Int) ≤ (P : Int) := by omega
        clear e1
        cases hst : stepI P h xs ys k d with
        | none =>
          rw [hst] at hsk hDL
          have HC := Lib.hid hsk
          have HDL := Lib.hid hDL
          clear hsk hDL hst hLl
          go_wp2_with (go_at_call 71; refine HC.out.mono ?_; intro e w5 hg; obtain ⟨x, rfl, hb5⟩ := hg.none)
          go_roundg k
          case measure => omega
          case rel => exact ⟨k, D, by omega, rfl, by go_num, by simpa using HDL.out, (hO.kept hb5).alloc _, (chain hbel hb5).alloc (chain hbel hb5).size _⟩
        | some t =>
          obtain ⟨e1, e2, e3, e4⟩ := t
          rw [hst] at hsk hDL
          have hDl2 : D.length ≤ 1048576 := by omega
          have HC := Lib.hid hsk
          have HDL := Lib.hid hDL
          clear hsk hDL hst hLl
          have hpush : ∀ w5, Below wr.heap.size wr w5 → v0.heap.size ≤ (w5.alloc (.cells #[.int .i64 e1, .int .i64 e2, .int .i64 e3, .bool e4] 56)).heap.size := fun w5 h5 => by
            have := (chain hbel h5).size
            simp
            omega
          go_wp2_with (first | (go_at_call 71; refine HC.out.mono ?_; intro e w5 hg; obtain ⟨rfl, hb5⟩ := hg.some) | (at_builtin; go_loud (refine wp_pushT rfl _ _ rfl v0.heap.size _ D rfl ((hO.kept hb5).alloc _) (e1, e2, e3, e4) rfl (by simp) hDl2 (hpush _ hb5) ?_; intro v2 w6 hO2 hb6)))
          go_roundg k
          case measure => omega
          case rel => exact ⟨k, D ++ [(e1, e2, e3, e4)], by omega, rfl, by go_num, by rw [← HDL.out]; simp, hO2, ((chain hbel hb5).alloc (chain hbel hb5).size _).trans hb6⟩
end Go.Proofs.Ytodlofabffenoaa
