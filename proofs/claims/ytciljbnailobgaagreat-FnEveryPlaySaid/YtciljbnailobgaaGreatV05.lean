/- Texts of a proof, laid together. -/
import Derived.Test.YtciljbnailobgaaGreatV04
import Derived.Test.YtciljbnailobgaaGreatV03
import Derived.Test.YtciljbnailobgaaGreatV01
namespace Go.Proofs.YtciljbnailobgaaGreat
open Go.ChangeShapes Go.WideShapes Go.ChangeAt Go.RowKit
set_option linter.unusedVariables false
set_option linter.unusedSimpArgs false
set_option maxRecDepth 4000
set_option maxRecDepth 8000 in
set_option maxHeartbeats 2000000 in
theorem l04Step_posP (P : Nat) (c h s : Int) (a1 a2 : Option Addr) (n1 n2 c1 c2 : Nat) (xs ys : List Int) (w : World) (h1 : xs.length = n1) (h2 : ys.length = n2) (p0 : 2 ≤ P) (p1 : P ≤ 24) (N1 : xs.length = P + 1) (N2 : ys.length = P + 1) (hh0 : 1 ≤ h) (hh : h ≤ (P : Int)) (hx : ∀ x ∈ xs, 0 ≤ x ∧ x ≤ 1000) (hy : ∀ y ∈ ys, 0 ≤ y ∧ y ≤ 1000) (r1 : IRow w a1 xs) (r2 : IRow w a2 ys) (d : Int) (d0 : 1 ≤ d) (d1 : d ≤ 1000) (g3 : overB xs ys = false) (gp : 0 < xs.getD P 0) (t : Nat) (ht : (P : Int) - d = (t : Int)) :
    Calls Tryz.prog 65 #[.agg #[.int .i64 (P : Int), .int .i64 c, .int .i64 h, .int .i64 s], .agg #[.slice a1 n1 c1, .slice a2 n2 c2], .int .i64 (P : Int), .int .i64 d] w (StepGot (if ys.getD (P - 1 - t) 0 ≤ 1 then some ((P : Int), (t : Int), d, decide (ys.getD (P - 1 - t) 0 = 1)) else none) w) := by
  have ho0 := fun W (hW : Below w.heap.size w W) => l02Over_any a1 a2 n1 n2 c1 c2 xs ys W h1 h2 (by omega) (by omega) hx hy (r1.below hW) (r2.below hW)
  have hop := fun W (hW : Below w.heap.size w W) => l04Open_any P c h s a1 a2 n1 n2 c1 c2 xs ys W h1 h2 p0 p1 N1 N2 hh0 hh hx hy (r1.below hW) (r2.below hW) t (by omega)
  rw [g3] at ho0
  have HOV := Lib.hid ho0
  obtain ⟨b, ob, rfl, -⟩ := r1 0 (by omega)
  have hck : ∀ W, Below w.heap.size w W → W.cell? ⟨b, ob + P, none⟩ = some (.int .i64 (xs.getD P 0)) := fun W hW => by
    obtain ⟨b', o', e, hc⟩ := r1.below hW P (by omega)
    simp at e
    obtain ⟨rfl, rfl⟩ := e
    exact hc
  have hcp : ∀ W, Below w.heap.size w W → W.cell? ⟨b, ob + P, none⟩ = some (.int .i64 (xs.getD P 0)) := fun W hW => by
    obtain ⟨b', o', e, hc⟩ := r1.below hW P (by omega)
    simp at e
    obtain ⟨rfl, rfl⟩ := e
    exact hc
  have hkn : P < n1 := by omega
  have hPn : P < n1 := by omega
  have hkI : (P : Int) < (n1 : Int) := by omega
  have hPI : (P : Int) < (n1 : Int) := by omega
  have hk0 : (0 : Int) ≤ (P : Int) := by omega
  obtain ⟨u, hu⟩ : ∃ u, xs.getD P 0 = u := ⟨_, rfl⟩
  obtain ⟨v, hv⟩ : ∃ v, xs.getD P 0 = v := ⟨_, rfl⟩
  have hv0 : 0 ≤ v := by rw [← hv]; exact (hx _ (getD_mem (show P < xs.length by omega))).1
  rw [hu] at hck
  rw [hv] at hcp
  have HC1 := Lib.hid hck
  have HC2 := Lib.hid hcp
  
  rw [hv] at gp
  have g0 : ¬ v = 0 := by omega
  have huv : u = v := by rw [← hu, hv]
  subst huv
  have ht0 : (0 : Int) ≤ (t : Int) := by omega
  have eu : (u == 0) = false := by simpa using g0
  have tP : t < P := by omega
  have tPI : (t : Int) < (P : Int) := by omega
  obtain ⟨b2, o2, rfl, -⟩ := r2 0 (by omega)
  have hcz : ∀ W, Below w.heap.size w W → W.cell? ⟨b2, o2 + (P - 1 - t), none⟩ = some (.int .i64 (ys.getD (P - 1 - t) 0)) := fun W hW => by
    obtain ⟨b', o', e, hc⟩ := r2.below hW (P - 1 - t) (by omega)
    simp at e
    obtain ⟨rfl, rfl⟩ := e
    exact hc
  have e1 : ((P : Int) - 1 - (t : Int)) = ((P - 1 - t : Nat) : Int) := by omega
  have hlt : P - 1 - t < n2 := by omega
  have hltI : ((P - 1 - t : Nat) : Int) < (n2 : Int) := by omega
  have hz0 : 0 ≤ ys.getD (P - 1 - t) 0 ∧ ys.getD (P - 1 - t) 0 ≤ 1000 := hy _ (getD_mem (show P - 1 - t < ys.length by omega))
  obtain ⟨z, hz⟩ : ∃ z, ys.getD (P - 1 - t) 0 = z := ⟨_, rfl⟩
  obtain ⟨K, hK⟩ : ∃ K, P - 1 - t = K := ⟨_, rfl⟩
  rw [hz] at hcz hop hz0 ⊢
  rw [hK] at hcz e1 hlt hltI
  have z0 : 0 ≤ z := hz0.1
  have z9 : z ≤ 1000 := hz0.2
  have wz1 : IntKind.i64.wrap (IntKind.i64.wrap ((P : Int) - 1) - (t : Int)) = (K : Int) := by rw [IntWalk.i64_in ((P : Int) - 1) (by omega), e1]; exact IntWalk.i64_in _ (by omega)
  have hk24 : (P : Int) ≤ 24 := by omega
  obtain ⟨RS, hRS⟩ : ∃ RS, (if z ≤ 1 then some ((P : Int), (t : Int), d, decide (z = 1)) else (none : Option Stp)) = RS := ⟨_, rfl⟩
  rw [hRS]
  have HRS := Lib.hid hRS
  clear hRS
  have hb2w : b2 < w.heap.size := World.block_lt_of_cell? w _ (hcz w (Below.refl _ _))
  have HCZ := Lib.hid hcz
  have HOP := Lib.hid hop
  clear ho0 g3 hck hcp hu hv hx hy r1 r2 hop hcz hz hK e1 hz0
  obtain ⟨BV, BB, BR, hb, hz⟩ := three_new w #[.int .i64 (P : Int), .int .i64 c, .int .i64 h, .int .i64 s] #[.slice (some ⟨b, ob, none⟩) n1 c1, .slice (some ⟨b2, o2, none⟩) n2 c2] #[.int .i64 0, .int .i64 0, .int .i64 0, .bool false] 25 28 55
  obtain ⟨x0, x1, x2, x3, xf, xl⟩ := BV.four
  obtain ⟨y0, y1, yf, yl⟩ := BB.two
  obtain ⟨s0, s1, s2, s3, sf, sl⟩ := BR.four
  go_enter Tryz.func65, Tryz.ntmps65
  go_wp2_with (go_at_call 94; refine (HOV.out _ hb).mono ?_; rintro e w1 ⟨rfl, hb1⟩; obtain ⟨x0, x1, x2, x3, xf, xl⟩ := (BV.below hb1).four; obtain ⟨y0, y1, yf, yl⟩ := (BB.below hb1).two; obtain ⟨s0, s1, s2, s3, sf, sl⟩ := (BR.below hb1).four; have ck := HC1.out w1 (chain hb hb1); have cp := HC2.out w1 (chain hb hb1))
  have CN : CellIs w1 b2 (o2 + K) (.int .i64 z) := HCZ.out w1 (chain hb hb1)
  replace BV := BV.below hb1
  replace BB := BB.below hb1
  replace BR : Res4 w1 (w.heap.size + 1 + 1) 55 := ⟨_, _, _, _, BR.below hb1⟩
  replace hb := chain hb hb1
  replace BV := BV.drew
  replace BB := BB.drew
  replace BR := BR.drew
  replace CN := CN.drew
  replace hb := hb.drew
  refine wp_region_held_drew (S := fun w' => w'.cell? ⟨w.heap.size, 0, none⟩ = some (.int .i64 (P : Int)) ∧ w'.cell? ⟨w.heap.size, 1, none⟩ = some (.int .i64 c) ∧ w'.cell? ⟨w.heap.size, 2, none⟩ = some (.int .i64 h) ∧ w'.cell? ⟨w.heap.size, 3, none⟩ = some (.int .i64 s) ∧ w'.cell? ⟨(w.heap.size + 1), 0, none⟩ = some (.slice (some ⟨b, ob, none⟩) n1 c1) ∧ w'.cell? ⟨(w.heap.size + 1), 1, none⟩ = some (.slice (some ⟨b2, o2, none⟩) n2 c2) ∧ w'.cell? ⟨b2, o2 + K, none⟩ = some (.int .i64 z) ∧ Blk w' w.heap.size #[.int .i64 (P : Int), .int .i64 c, .int .i64 h, .int .i64 s] 25 ∧ Blk w' ((w.heap.size + 1)) #[.slice (some ⟨b, ob, none⟩) n1 c1, .slice (some ⟨b2, o2, none⟩) n2 c2] 28 ∧ (Res4 w' (w.heap.size + 1 + 1) 55) ∧ (CellIs w' b2 (o2 + K) (.int .i64 z)) ∧ Below w.heap.size w w') (by kernel_rfl) ⟨BV.four.1, BV.four.2.1, BV.four.2.2.1, BV.four.2.2.2.1, BB.two.1, BB.two.2.1, CN, BV, BB, BR, CN, hb⟩ (fun hHeld => ?_)
  refine tk 0 43 ?_
  refine tk 1 44 ?_
  refine tk 2 45 ?_
  refine tk 3 46 ?_
  refine tk 4 47 ?_
  refine tk 5 48 ?_
  refine tk 6 49 ?_
  refine tk 7 50 ?_
  refine tk 8 51 ?_
  refine tk 9 52 ?_
  refine tk 10 53 ?_
  refine tk 11 54 ?_
  refine tk 12 55 ?_
  refine tk 13 56 ?_
  refine tk 14 57 ?_
  refine tk 15 58 ?_
  refine tk 16 59 ?_
  refine rdk 17 60 fun K hK => ?_
  go_simp
  -- call
  have BV := hHeld.2.2.2.2.2.2.2.1
  have BB := hHeld.2.2.2.2.2.2.2.2.1
  have BR := hHeld.2.2.2.2.2.2.2.2.2.1
  have CN := hHeld.2.2.2.2.2.2.2.2.2.2.1
  have hb := hHeld.2.2.2.2.2.2.2.2.2.2.2
  clear hHeld
  refine (HOP.out _ hb).mono ?_
  rintro e wq1 ⟨rfl, hq1⟩
  replace BV := BV.below hq1
  replace BB := BB.below hq1
  replace BR := BR.below hq1
  replace CN := CN.below hq1
  replace hb := chain hb hq1
  (try go_wp2_with fail)
  refine hko hK (Blk.f4 BV (Blk.f2 BB ⟨CN, BV, BB, BR, CN, hb⟩)) fun hHeld => ?_
  clear hK K
  refine rdn 18 fun K hK => ?_
  -- store
  have BV := hHeld.2.2.2.2.2.2.2.1
  have BB := hHeld.2.2.2.2.2.2.2.2.1
  have BR := hHeld.2.2.2.2.2.2.2.2.2.1
  have CN := hHeld.2.2.2.2.2.2.2.2.2.2.1
  have hb := hHeld.2.2.2.2.2.2.2.2.2.2.2
  clear hHeld
  obtain ⟨q0, q1, q2, q3, BQ⟩ := BR
  obtain ⟨s0, s1, s2, s3, sf, sl⟩ := BQ.four
  have BR : Res4 _ (w.heap.size + 1 + 1) 55 := ⟨_, _, _, _, BQ⟩
  replace BV := BV.set4 (g := w.heap.size + 1 + 1) (by omega) (.int .i64 (P : Int)) (.int .i64 (t : Int)) (.int .i64 d) (.bool (z == 1))
  replace BB := BB.set4 (g := w.heap.size + 1 + 1) (by omega) (.int .i64 (P : Int)) (.int .i64 (t : Int)) (.int .i64 d) (.bool (z == 1))
  replace BR := BR.set4 (.int .i64 (P : Int)) (.int .i64 (t : Int)) (.int .i64 d) (.bool (z == 1))
  replace CN := CN.set4 (g := w.heap.size + 1 + 1) (by omega) (.int .i64 (P : Int)) (.int .i64 (t : Int)) (.int .i64 d) (.bool (z == 1))
  have hbq := hb
  replace hb := below_set4 (g := w.heap.size + 1 + 1) hb (by omega) (.int .i64 (P : Int)) (.int .i64 (t : Int)) (.int .i64 d) (.bool (z == 1))
  go_simp
  (try go_wp2_with fail)
  refine hko hK (Blk.f4 BV (Blk.f2 BB ⟨CN, BV, BB, BR, CN, hb⟩)) fun hHeld => ?_
  clear hK K
  refine tk 19 9 ?_
  refine wpAnyH_done (by kernel_rfl) ?_ _
  have BV := hHeld.2.2.2.2.2.2.2.1
  have BB := hHeld.2.2.2.2.2.2.2.2.1
  have BR := hHeld.2.2.2.2.2.2.2.2.2.1
  have CN := hHeld.2.2.2.2.2.2.2.2.2.2.1
  have hb := hHeld.2.2.2.2.2.2.2.2.2.2.2
  clear hHeld
  go_wp2
  refine bodyPost_ret (v := .tuple #[stV ((P : Int), (t : Int), d, z == 1), .bool (decide (z ≤ 1))]) (by simp [results, Tryz.results65, go_sem, *]) rfl ⟨((P : Int), (t : Int), d, z == 1), decide (z ≤ 1), rfl, ?_, hb⟩
  rw [← HRS.out]
  by_cases hz1 : z ≤ 1
  · rw [if_pos hz1, if_pos (by simpa using hz1)]
    rfl
  · rw [if_neg hz1, if_neg (by simpa using hz1)]
set_option maxRecDepth 8000 in
set_option maxHeartbeats 2000000 in
theorem l04Step_posN (P : Nat) (c h s : Int) (a1 a2 : Option Addr) (n1 n2 c1 c2 : Nat) (xs ys : List Int) (w : World) (h1 : xs.length = n1) (h2 : ys.length = n2) (p0 : 2 ≤ P) (p1 : P ≤ 24) (N1 : xs.length = P + 1) (N2 : ys.length = P + 1) (hh0 : 1 ≤ h) (hh : h ≤ (P : Int)) (hx : ∀ x ∈ xs, 0 ≤ x ∧ x ≤ 1000) (hy : ∀ y ∈ ys, 0 ≤ y ∧ y ≤ 1000) (r1 : IRow w a1 xs) (r2 : IRow w a2 ys) (k : Nat) (d : Int) (k1 : k ≤ P) (d0 : 1 ≤ d) (d1 : d ≤ 1000) (g3 : overB xs ys = false) (gp : xs.getD P 0 = 0) (g0 : ¬ xs.getD k 0 = 0) (gk : ¬ (k : Int) = (P : Int)) (t : Nat) (ht : (k : Int) - d = (t : Int)) :
    Calls Tryz.prog 65 #[.agg #[.int .i64 (P : Int), .int .i64 c, .int .i64 h, .int .i64 s], .agg #[.slice a1 n1 c1, .slice a2 n2 c2], .int .i64 (k : Int), .int .i64 d] w (StepGot (if ys.getD (P - 1 - t) 0 ≤ 1 then some ((k : Int), (t : Int), d, decide (ys.getD (P - 1 - t) 0 = 1)) else none) w) := by
  have ho0 := fun W (hW : Below w.heap.size w W) => l02Over_any a1 a2 n1 n2 c1 c2 xs ys W h1 h2 (by omega) (by omega) hx hy (r1.below hW) (r2.below hW)
  have hop := fun W (hW : Below w.heap.size w W) => l04Open_any P c h s a1 a2 n1 n2 c1 c2 xs ys W h1 h2 p0 p1 N1 N2 hh0 hh hx hy (r1.below hW) (r2.below hW) t (by omega)
  rw [g3] at ho0
  have HOV := Lib.hid ho0
  obtain ⟨b, ob, rfl, -⟩ := r1 0 (by omega)
  have hck : ∀ W, Below w.heap.size w W → W.cell? ⟨b, ob + k, none⟩ = some (.int .i64 (xs.getD k 0)) := fun W hW => by
    obtain ⟨b', o', e, hc⟩ := r1.below hW k (by omega)
    simp at e
    obtain ⟨rfl, rfl⟩ := e
    exact hc
  have hcp : ∀ W, Below w.heap.size w W → W.cell? ⟨b, ob + P, none⟩ = some (.int .i64 (xs.getD P 0)) := fun W hW => by
    obtain ⟨b', o', e, hc⟩ := r1.below hW P (by omega)
    simp at e
    obtain ⟨rfl, rfl⟩ := e
    exact hc
  have hkn : k < n1 := by omega
  have hPn : P < n1 := by omega
  have hkI : (k : Int) < (n1 : Int) := by omega
  have hPI : (P : Int) < (n1 : Int) := by omega
  have hk0 : (0 : Int) ≤ (k : Int) := by omega
  obtain ⟨u, hu⟩ : ∃ u, xs.getD k 0 = u := ⟨_, rfl⟩
  obtain ⟨v, hv⟩ : ∃ v, xs.getD P 0 = v := ⟨_, rfl⟩
  have hv0 : 0 ≤ v := by rw [← hv]; exact (hx _ (getD_mem (show P < xs.length by omega))).1
  rw [hu] at hck
  rw [hv] at hcp
  have HC1 := Lib.hid hck
  have HC2 := Lib.hid hcp
  rw [hu] at g0
  rw [hv] at gp
  subst gp
  
  have ht0 : (0 : Int) ≤ (t : Int) := by omega
  have eu : (u == 0) = false := by simpa using g0
  have tP : t < P := by omega
  have tPI : (t : Int) < (P : Int) := by omega
  obtain ⟨b2, o2, rfl, -⟩ := r2 0 (by omega)
  have hcz : ∀ W, Below w.heap.size w W → W.cell? ⟨b2, o2 + (P - 1 - t), none⟩ = some (.int .i64 (ys.getD (P - 1 - t) 0)) := fun W hW => by
    obtain ⟨b', o', e, hc⟩ := r2.below hW (P - 1 - t) (by omega)
    simp at e
    obtain ⟨rfl, rfl⟩ := e
    exact hc
  have e1 : ((P : Int) - 1 - (t : Int)) = ((P - 1 - t : Nat) : Int) := by omega
  have hlt : P - 1 - t < n2 := by omega
  have hltI : ((P - 1 - t : Nat) : Int) < (n2 : Int) := by omega
  have hz0 : 0 ≤ ys.getD (P - 1 - t) 0 ∧ ys.getD (P - 1 - t) 0 ≤ 1000 := hy _ (getD_mem (show P - 1 - t < ys.length by omega))
  obtain ⟨z, hz⟩ : ∃ z, ys.getD (P - 1 - t) 0 = z := ⟨_, rfl⟩
  obtain ⟨K, hK⟩ : ∃ K, P - 1 - t = K := ⟨_, rfl⟩
  rw [hz] at hcz hop hz0 ⊢
  rw [hK] at hcz e1 hlt hltI
  have z0 : 0 ≤ z := hz0.1
  have z9 : z ≤ 1000 := hz0.2
  have wz1 : IntKind.i64.wrap (IntKind.i64.wrap ((P : Int) - 1) - (t : Int)) = (K : Int) := by rw [IntWalk.i64_in ((P : Int) - 1) (by omega), e1]; exact IntWalk.i64_in _ (by omega)
  have hk24 : (k : Int) ≤ 24 := by omega
  obtain ⟨RS, hRS⟩ : ∃ RS, (if z ≤ 1 then some ((k : Int), (t : Int), d, decide (z = 1)) else (none : Option Stp)) = RS := ⟨_, rfl⟩
  rw [hRS]
  have HRS := Lib.hid hRS
  clear hRS
  have hb2w : b2 < w.heap.size := World.block_lt_of_cell? w _ (hcz w (Below.refl _ _))
  have HCZ := Lib.hid hcz
  have HOP := Lib.hid hop
  clear ho0 g3 hck hcp hu hv hx hy r1 r2 hop hcz hz hK e1 hz0
  obtain ⟨BV, BB, BR, hb, hz⟩ := three_new w #[.int .i64 (P : Int), .int .i64 c, .int .i64 h, .int .i64 s] #[.slice (some ⟨b, ob, none⟩) n1 c1, .slice (some ⟨b2, o2, none⟩) n2 c2] #[.int .i64 0, .int .i64 0, .int .i64 0, .bool false] 25 28 55
  obtain ⟨x0, x1, x2, x3, xf, xl⟩ := BV.four
  obtain ⟨y0, y1, yf, yl⟩ := BB.two
  obtain ⟨s0, s1, s2, s3, sf, sl⟩ := BR.four
  go_enter Tryz.func65, Tryz.ntmps65
  go_wp2_with (go_at_call 94; refine (HOV.out _ hb).mono ?_; rintro e w1 ⟨rfl, hb1⟩; obtain ⟨x0, x1, x2, x3, xf, xl⟩ := (BV.below hb1).four; obtain ⟨y0, y1, yf, yl⟩ := (BB.below hb1).two; obtain ⟨s0, s1, s2, s3, sf, sl⟩ := (BR.below hb1).four; have ck := HC1.out w1 (chain hb hb1); have cp := HC2.out w1 (chain hb hb1))
  have CN : CellIs w1 b2 (o2 + K) (.int .i64 z) := HCZ.out w1 (chain hb hb1)
  replace BV := BV.below hb1
  replace BB := BB.below hb1
  replace BR : Res4 w1 (w.heap.size + 1 + 1) 55 := ⟨_, _, _, _, BR.below hb1⟩
  replace hb := chain hb hb1
  replace BV := BV.drew
  replace BB := BB.drew
  replace BR := BR.drew
  replace CN := CN.drew
  replace hb := hb.drew
  refine wp_region_held_drew (S := fun w' => w'.cell? ⟨w.heap.size, 0, none⟩ = some (.int .i64 (P : Int)) ∧ w'.cell? ⟨w.heap.size, 1, none⟩ = some (.int .i64 c) ∧ w'.cell? ⟨w.heap.size, 2, none⟩ = some (.int .i64 h) ∧ w'.cell? ⟨w.heap.size, 3, none⟩ = some (.int .i64 s) ∧ w'.cell? ⟨(w.heap.size + 1), 0, none⟩ = some (.slice (some ⟨b, ob, none⟩) n1 c1) ∧ w'.cell? ⟨(w.heap.size + 1), 1, none⟩ = some (.slice (some ⟨b2, o2, none⟩) n2 c2) ∧ w'.cell? ⟨b2, o2 + K, none⟩ = some (.int .i64 z) ∧ Blk w' w.heap.size #[.int .i64 (P : Int), .int .i64 c, .int .i64 h, .int .i64 s] 25 ∧ Blk w' ((w.heap.size + 1)) #[.slice (some ⟨b, ob, none⟩) n1 c1, .slice (some ⟨b2, o2, none⟩) n2 c2] 28 ∧ (Res4 w' (w.heap.size + 1 + 1) 55) ∧ (CellIs w' b2 (o2 + K) (.int .i64 z)) ∧ Below w.heap.size w w') (by kernel_rfl) ⟨BV.four.1, BV.four.2.1, BV.four.2.2.1, BV.four.2.2.2.1, BB.two.1, BB.two.2.1, CN, BV, BB, BR, CN, hb⟩ (fun hHeld => ?_)
  refine tk 0 43 ?_
  refine tk 1 44 ?_
  refine tk 2 45 ?_
  refine tk 3 46 ?_
  refine tk 4 47 ?_
  refine tk 5 48 ?_
  refine tk 6 49 ?_
  refine tk 7 50 ?_
  refine tk 8 51 ?_
  refine tk 9 52 ?_
  refine tk 10 53 ?_
  refine tk 11 54 ?_
  refine tk 12 55 ?_
  refine tk 13 56 ?_
  refine tk 14 57 ?_
  refine tk 15 58 ?_
  refine tk 16 59 ?_
  refine rdk 17 60 fun K hK => ?_
  go_simp
  -- call
  have BV := hHeld.2.2.2.2.2.2.2.1
  have BB := hHeld.2.2.2.2.2.2.2.2.1
  have BR := hHeld.2.2.2.2.2.2.2.2.2.1
  have CN := hHeld.2.2.2.2.2.2.2.2.2.2.1
  have hb := hHeld.2.2.2.2.2.2.2.2.2.2.2
  clear hHeld
  refine (HOP.out _ hb).mono ?_
  rintro e wq1 ⟨rfl, hq1⟩
  replace BV := BV.below hq1
  replace BB := BB.below hq1
  replace BR := BR.below hq1
  replace CN := CN.below hq1
  replace hb := chain hb hq1
  (try go_wp2_with fail)
  refine hko hK (Blk.f4 BV (Blk.f2 BB ⟨CN, BV, BB, BR, CN, hb⟩)) fun hHeld => ?_
  clear hK K
  refine rdn 18 fun K hK => ?_
  -- store
  have BV := hHeld.2.2.2.2.2.2.2.1
  have BB := hHeld.2.2.2.2.2.2.2.2.1
  have BR := hHeld.2.2.2.2.2.2.2.2.2.1
  have CN := hHeld.2.2.2.2.2.2.2.2.2.2.1
  have hb := hHeld.2.2.2.2.2.2.2.2.2.2.2
  clear hHeld
  obtain ⟨q0, q1, q2, q3, BQ⟩ := BR
  obtain ⟨s0, s1, s2, s3, sf, sl⟩ := BQ.four
  have BR : Res4 _ (w.heap.size + 1 + 1) 55 := ⟨_, _, _, _, BQ⟩
  replace BV := BV.set4 (g := w.heap.size + 1 + 1) (by omega) (.int .i64 (k : Int)) (.int .i64 (t : Int)) (.int .i64 d) (.bool (z == 1))
  replace BB := BB.set4 (g := w.heap.size + 1 + 1) (by omega) (.int .i64 (k : Int)) (.int .i64 (t : Int)) (.int .i64 d) (.bool (z == 1))
  replace BR := BR.set4 (.int .i64 (k : Int)) (.int .i64 (t : Int)) (.int .i64 d) (.bool (z == 1))
  replace CN := CN.set4 (g := w.heap.size + 1 + 1) (by omega) (.int .i64 (k : Int)) (.int .i64 (t : Int)) (.int .i64 d) (.bool (z == 1))
  have hbq := hb
  replace hb := below_set4 (g := w.heap.size + 1 + 1) hb (by omega) (.int .i64 (k : Int)) (.int .i64 (t : Int)) (.int .i64 d) (.bool (z == 1))
  go_simp
  (try go_wp2_with fail)
  refine hko hK (Blk.f4 BV (Blk.f2 BB ⟨CN, BV, BB, BR, CN, hb⟩)) fun hHeld => ?_
  clear hK K
  refine tk 19 9 ?_
  refine wpAnyH_done (by kernel_rfl) ?_ _
  have BV := hHeld.2.2.2.2.2.2.2.1
  have BB := hHeld.2.2.2.2.2.2.2.2.1
  have BR := hHeld.2.2.2.2.2.2.2.2.2.1
  have CN := hHeld.2.2.2.2.2.2.2.2.2.2.1
  have hb := hHeld.2.2.2.2.2.2.2.2.2.2.2
  clear hHeld
  go_wp2
  refine bodyPost_ret (v := .tuple #[stV ((k : Int), (t : Int), d, z == 1), .bool (decide (z ≤ 1))]) (by simp [results, Tryz.results65, go_sem, *]) rfl ⟨((k : Int), (t : Int), d, z == 1), decide (z ≤ 1), rfl, ?_, hb⟩
  rw [← HRS.out]
  by_cases hz1 : z ≤ 1
  · rw [if_pos hz1, if_pos (by simpa using hz1)]
    rfl
  · rw [if_neg hz1, if_neg (by simpa using hz1)]
theorem l04Step_any (P : Nat) (c h s : Int) (a1 a2 : Option Addr) (n1 n2 c1 c2 : Nat) (xs ys : List Int) (w : World) (h1 : xs.length = n1) (h2 : ys.length = n2) (p0 : 2 ≤ P) (p1 : P ≤ 24) (N1 : xs.length = P + 1) (N2 : ys.length = P + 1) (hh0 : 1 ≤ h) (hh : h ≤ (P : Int)) (hx : ∀ x ∈ xs, 0 ≤ x ∧ x ≤ 1000) (hy : ∀ y ∈ ys, 0 ≤ y ∧ y ≤ 1000) (r1 : IRow w a1 xs) (r2 : IRow w a2 ys) (k : Nat) (d : Int) (k1 : k ≤ P) (d0 : 1 ≤ d) (d1 : d ≤ 1000) :
    Calls Tryz.prog 65 #[.agg #[.int .i64 (P : Int), .int .i64 c, .int .i64 h, .int .i64 s], .agg #[.slice a1 n1 c1, .slice a2 n2 c2], .int .i64 (k : Int), .int .i64 d] w (StepGot (stepS P h xs ys k d) w) := by
  unfold stepS
  cases g3 : overB xs ys with
  | true =>
    rw [if_pos rfl]
    exact l04Step_over P c h s a1 a2 n1 n2 c1 c2 xs ys w h1 h2 p0 p1 N1 N2 hh0 hh hx hy r1 r2 k d k1 d0 d1 g3
  | false =>
    rw [if_neg (by simp)]
    by_cases g0 : xs.getD k 0 = 0
    · rw [stepI, if_pos g0]
      exact l04Step_none P c h s a1 a2 n1 n2 c1 c2 xs ys w h1 h2 p0 p1 N1 N2 hh0 hh hx hy r1 r2 k d k1 d0 d1 g3 (.inl g0)
    · by_cases g1 : 0 < xs.getD P 0 ∧ k ≠ P
      · rw [stepI_blocked N1 hh k1 d0 g1.2 g1.1]
        exact l04Step_none P c h s a1 a2 n1 n2 c1 c2 xs ys w h1 h2 p0 p1 N1 N2 hh0 hh hx hy r1 r2 k d k1 d0 d1 g3 (.inr g1)
      · have hP0 := (hx _ (getD_mem (show P < xs.length by omega))).1
        by_cases ht : (k : Int) - d < 0
        · rw [stepI_neg N1 hh k1 d0 g1 hx g0 ht]
          by_cases hk : k = P
          · subst hk
            have gp : 0 < xs.getD k 0 := by omega
            have hl : lastL xs xs.length = (k : Int) := by rw [N1]; exact lastL_pos gp
            rw [if_pos (.inl (by omega))]
            exact l04Step_negP k c h s a1 a2 n1 n2 c1 c2 xs ys w h1 h2 p0 p1 N1 N2 hh0 hh hx hy r1 r2 d d0 d1 g3 gp ht
          · have gp : xs.getD P 0 = 0 := by
              have : ¬ 0 < xs.getD P 0 := fun hp => g1 ⟨hp, hk⟩
              omega
            exact l04Step_negN P c h s a1 a2 n1 n2 c1 c2 xs ys w h1 h2 p0 p1 N1 N2 hh0 hh hx hy r1 r2 k d k1 d0 d1 g3 gp g0 (by omega) ht
        · obtain ⟨t, ht⟩ := Int.eq_ofNat_of_zero_le (by omega : 0 ≤ (k : Int) - d)
          rw [stepI_pos N1 N2 hy hx k1 d0 g1 g0 t ht]
          by_cases hk : k = P
          · subst hk
            exact l04Step_posP k c h s a1 a2 n1 n2 c1 c2 xs ys w h1 h2 p0 p1 N1 N2 hh0 hh hx hy r1 r2 d d0 d1 g3 (by omega) t ht
          · have gp : xs.getD P 0 = 0 := by
              have : ¬ 0 < xs.getD P 0 := fun hp => g1 ⟨hp, hk⟩
              omega
            exact l04Step_posN P c h s a1 a2 n1 n2 c1 c2 xs ys w h1 h2 p0 p1 N1 N2 hh0 hh hx hy r1 r2 k d k1 d0 d1 g3 gp g0 (by omega) t ht
def legB (P : Nat) (h s : Int) (xs ys : List Int) (t : Stp) : Bool :=
  inB t.2.2.1 1 s && (placesB (P : Int) t && (!overB xs ys && decide (stepI P h xs ys t.1.toNat t.2.2.1 = some t)))
set_option maxRecDepth 8000 in
set_option maxHeartbeats 2000000 in
theorem isLegal_any (P : Nat) (c h s : Int) (f1 f2 B : Nat) (xs ys : List Int) (w : World) (p0 : 2 ≤ P) (p1 : P ≤ 24) (n1 : xs.length = P + 1) (n2 : ys.length = P + 1) (hx : ∀ x ∈ xs, 0 ≤ x ∧ x ≤ 1000) (hy : ∀ y ∈ ys, 0 ≤ y ∧ y ≤ 1000) (q1 : Pays f1 B xs w) (q2 : Pays f2 B ys w) (s6 : s ≤ 6) (t : Stp) :
    Calls Tryz.prog 59 #[.agg #[.int .i64 (P : Int), .int .i64 c, .int .i64 h, .int .i64 s], tv (P : Int) f1 f2 B, stV t] w fun e w' => e = .returned (.bool (legB P h s xs ys t)) ∧ Below w.heap.size w w' := by
  obtain ⟨a, b, d, q⟩ := t
  unfold legB
  dsimp only
  have hd0 := fun W => hasDie_any (P : Int) c h s d W
  have hp0 := fun W => hasPlaces_any (P : Int) c h s (a, b, d, q) W
  have ho0 := fun W (hW : Below w.heap.size w W) => over_any (P : Int) f1 f2 B xs ys W (by omega) (by omega) (by omega) (by omega) hx hy (q1.below hW) (q2.below hW)
  cases g1 : inB d 1 s with
  | false =>
    rw [g1] at hd0
    rw [Bool.false_and]
    have HD := Lib.hid hd0
    clear hd0 hp0 ho0
    obtain ⟨BV, BT, BS, hb, hz⟩ := three_new w #[.int .i64 (P : Int), .int .i64 c, .int .i64 h, .int .i64 s] #[.int .i64 (P : Int), fv f1 B, fv f2 B] #[.int .i64 a, .int .i64 b, .int .i64 d, .bool q] 25 109 55
    obtain ⟨x0, x1, x2, x3, xf, xl⟩ := BV.four
    obtain ⟨z0, z1, z2, zf, zl⟩ := BT.tri
    obtain ⟨r0, r1, r2, r3, rf, rl⟩ := BS.four
    go_enter Tryz.func59, Tryz.ntmps59
    go_wp2_with (first | (go_at_call 78; refine (HD.out _).mono ?_; rintro e w1 ⟨rfl, hb1⟩; obtain ⟨x0, x1, x2, x3, xf, xl⟩ := (BV.below hb1).four; obtain ⟨z0, z1, z2, zf, zl⟩ := (BT.below hb1).tri; obtain ⟨r0, r1, r2, r3, rf, rl⟩ := (BS.below hb1).four))
    go_ret
    exact ⟨rfl, chain hb hb1⟩
  | true =>
    rw [g1] at hd0
    rw [Bool.true_and]
    cases g2 : placesB (P : Int) (a, b, d, q) with
    | false =>
      rw [g2] at hp0
      rw [Bool.false_and]
      have HD := Lib.hid hd0
      have HPL := Lib.hid hp0
      clear hd0 hp0 ho0
      obtain ⟨BV, BT, BS, hb, hz⟩ := three_new w #[.int .i64 (P : Int), .int .i64 c, .int .i64 h, .int .i64 s] #[.int .i64 (P : Int), fv f1 B, fv f2 B] #[.int .i64 a, .int .i64 b, .int .i64 d, .bool q] 25 109 55
      obtain ⟨x0, x1, x2, x3, xf, xl⟩ := BV.four
      obtain ⟨z0, z1, z2, zf, zl⟩ := BT.tri
      obtain ⟨r0, r1, r2, r3, rf, rl⟩ := BS.four
      go_enter Tryz.func59, Tryz.ntmps59
      go_wp2_with (first | (go_at_call 78; refine (HD.out _).mono ?_; rintro e w1 ⟨rfl, hb1⟩; obtain ⟨x0, x1, x2, x3, xf, xl⟩ := (BV.below hb1).four; obtain ⟨z0, z1, z2, zf, zl⟩ := (BT.below hb1).tri; obtain ⟨r0, r1, r2, r3, rf, rl⟩ := (BS.below hb1).four) | (go_at_call 90; refine (HPL.out _).mono ?_; rintro e w2 ⟨rfl, hb2⟩; obtain ⟨x0, x1, x2, x3, xf, xl⟩ := (BV.below (chain hb1 hb2)).four; obtain ⟨z0, z1, z2, zf, zl⟩ := (BT.below (chain hb1 hb2)).tri; obtain ⟨r0, r1, r2, r3, rf, rl⟩ := (BS.below (chain hb1 hb2)).four))
      go_ret
      exact ⟨rfl, chain hb (chain hb1 hb2)⟩
    | true =>
      rw [g2] at hp0
      rw [Bool.true_and]
      cases g3 : overB xs ys with
      | true =>
        rw [g3] at ho0
        rw [Bool.not_true, Bool.false_and]
        have HD := Lib.hid hd0
        have HPL := Lib.hid hp0
        have HOV := Lib.hid ho0
        clear hd0 hp0 ho0
        obtain ⟨BV, BT, BS, hb, hz⟩ := three_new w #[.int .i64 (P : Int), .int .i64 c, .int .i64 h, .int .i64 s] #[.int .i64 (P : Int), fv f1 B, fv f2 B] #[.int .i64 a, .int .i64 b, .int .i64 d, .bool q] 25 109 55
        obtain ⟨x0, x1, x2, x3, xf, xl⟩ := BV.four
        obtain ⟨z0, z1, z2, zf, zl⟩ := BT.tri
        obtain ⟨r0, r1, r2, r3, rf, rl⟩ := BS.four
        go_enter Tryz.func59, Tryz.ntmps59
        go_wp2_with (first | (go_at_call 78; refine (HD.out _).mono ?_; rintro e w1 ⟨rfl, hb1⟩; obtain ⟨x0, x1, x2, x3, xf, xl⟩ := (BV.below hb1).four; obtain ⟨z0, z1, z2, zf, zl⟩ := (BT.below hb1).tri; obtain ⟨r0, r1, r2, r3, rf, rl⟩ := (BS.below hb1).four) | (go_at_call 90; refine (HPL.out _).mono ?_; rintro e w2 ⟨rfl, hb2⟩; obtain ⟨x0, x1, x2, x3, xf, xl⟩ := (BV.below (chain hb1 hb2)).four; obtain ⟨z0, z1, z2, zf, zl⟩ := (BT.below (chain hb1 hb2)).tri; obtain ⟨r0, r1, r2, r3, rf, rl⟩ := (BS.below (chain hb1 hb2)).four) | (go_at_call 91; refine (HOV.out _ (chain hb (chain hb1 hb2))).mono ?_; rintro e w3 ⟨rfl, hb3⟩; obtain ⟨x0, x1, x2, x3, xf, xl⟩ := (BV.below (chain (chain hb1 hb2) hb3)).four; obtain ⟨z0, z1, z2, zf, zl⟩ := (BT.below (chain (chain hb1 hb2) hb3)).tri; obtain ⟨r0, r1, r2, r3, rf, rl⟩ := (BS.below (chain (chain hb1 hb2) hb3)).four))
        go_ret
        exact ⟨rfl, chain hb (chain (chain hb1 hb2) hb3)⟩
      | false =>
        rw [g3] at ho0
        rw [Bool.not_false, Bool.true_and]
        have g1' : 1 ≤ d ∧ d ≤ s := by simpa [inB] using g1
        have g2' := g2
        simp only [placesB, Bool.and_eq_true, decide_eq_true_eq] at g2'
        obtain ⟨k, rfl⟩ := Int.eq_ofNat_of_zero_le g2'.1
        have hs0 := fun W (hW : Below w.heap.size w W) => stepFrom_any P c h s f1 f2 B xs ys W p0 p1 n1 n2 hx hy (q1.below hW) (q2.below hW) k d (by omega) g1'.1 (by omega)
        rw [show ((k : Int)).toNat = k by simp]
        obtain ⟨r, hr0⟩ : ∃ r, stepI P h xs ys k d = r := ⟨_, rfl⟩
        rw [hr0] at hs0 ⊢
        have HD := Lib.hid hd0
        have HPL := Lib.hid hp0
        have HOV := Lib.hid ho0
        have HSF := Lib.hid hs0
        clear hd0 hp0 ho0 hs0 hr0 g1 g2 g3
        obtain ⟨BV, BT, BS, hb, hz⟩ := three_new w #[.int .i64 (P : Int), .int .i64 c, .int .i64 h, .int .i64 s] #[.int .i64 (P : Int), fv f1 B, fv f2 B] #[.int .i64 (k : Int), .int .i64 b, .int .i64 d, .bool q] 25 109 55
        obtain ⟨x0, x1, x2, x3, xf, xl⟩ := BV.four
        obtain ⟨z0, z1, z2, zf, zl⟩ := BT.tri
        obtain ⟨r0, r1, r2, r3, rf, rl⟩ := BS.four
        go_enter Tryz.func59, Tryz.ntmps59
        go_wp2_with (first | (go_at_call 78; refine (HD.out _).mono ?_; rintro e w1 ⟨rfl, hb1⟩; obtain ⟨x0, x1, x2, x3, xf, xl⟩ := (BV.below hb1).four; obtain ⟨z0, z1, z2, zf, zl⟩ := (BT.below hb1).tri; obtain ⟨r0, r1, r2, r3, rf, rl⟩ := (BS.below hb1).four) | (go_at_call 90; refine (HPL.out _).mono ?_; rintro e w2 ⟨rfl, hb2⟩; obtain ⟨x0, x1, x2, x3, xf, xl⟩ := (BV.below (chain hb1 hb2)).four; obtain ⟨z0, z1, z2, zf, zl⟩ := (BT.below (chain hb1 hb2)).tri; obtain ⟨r0, r1, r2, r3, rf, rl⟩ := (BS.below (chain hb1 hb2)).four) | (go_at_call 91; refine (HOV.out _ (chain hb (chain hb1 hb2))).mono ?_; rintro e w3 ⟨rfl, hb3⟩; obtain ⟨x0, x1, x2, x3, xf, xl⟩ := (BV.below (chain (chain hb1 hb2) hb3)).four; obtain ⟨z0, z1, z2, zf, zl⟩ := (BT.below (chain (chain hb1 hb2) hb3)).tri; obtain ⟨r0, r1, r2, r3, rf, rl⟩ := (BS.below (chain (chain hb1 hb2) hb3)).four) | (go_at_call 92; refine (HSF.out _ (chain hb (chain (chain hb1 hb2) hb3))).mono ?_; rintro e w4 ⟨x, ok, rfl, hr, hb4⟩; obtain ⟨e1, e2, e3, e4⟩ := x; obtain ⟨x0, x1, x2, x3, xf, xl⟩ := (BV.below (chain (chain (chain hb1 hb2) hb3) hb4)).four; obtain ⟨z0, z1, z2, zf, zl⟩ := (BT.below (chain (chain (chain hb1 hb2) hb3) hb4)).tri; obtain ⟨r0, r1, r2, r3, rf, rl⟩ := (BS.below (chain (chain (chain hb1 hb2) hb3) hb4)).four))
        all_goals (go_ret; refine ⟨?_, (chain hb (chain (chain (chain hb1 hb2) hb3) hb4)).alloc (chain hb (chain (chain (chain hb1 hb2) hb3) hb4)).size _⟩; clear HD HPL HOV HSF hb1 hb2 hb3 hb4 hb q1 q2 BV BT BS hx hy; first | (simp [hr]; done) | (simp [hr, *]; done) | (simp_all; done))
theorem StepGot.none {w : World} {e : Ending} {w' : World} (h : StepGot none w e w') : ∃ x : Stp, e = .returned (.tuple #[stV x, .bool false]) ∧ Below w.heap.size w w' := by
  obtain ⟨x, ok, rfl, hr, hb⟩ := h
  cases ok with
  | false => exact ⟨x, rfl, hb⟩
  | true => simp at hr
theorem StepGot.some {t : Stp} {w : World} {e : Ending} {w' : World} (h : StepGot (some t) w e w') : e = .returned (.tuple #[stV t, .bool true]) ∧ Below w.heap.size w w' := by
  obtain ⟨x, ok, rfl, hr, hb⟩ := h
  cases ok with
  | false => simp at hr
  | true =>
    simp at hr
    subst hr
    exact ⟨rfl, hb⟩
def legTo (P : Nat) (h : Int) (xs ys : List Int) (d : Int) : Nat → List Stp
  | 0 => []
  | k + 1 => (stepI P h xs ys k d).toList ++ legTo P h xs ys d k
theorem legTo_length (P : Nat) (h : Int) (xs ys : List Int) (d : Int) : ∀ k, (legTo P h xs ys d k).length ≤ k
  | 0 => by simp [legTo]
  | k + 1 => by
    have := legTo_length P h xs ys d k
    rw [legTo, List.length_append]
    have h1 : (stepI P h xs ys k d).toList.length ≤ 1 := by cases stepI P h xs ys k d <;> simp
    omega
theorem legTo_last (P : Nat) (h : Int) (xs ys : List Int) (d : Int) (hx : ∀ x ∈ xs, 0 ≤ x ∧ x ≤ 1000) : ∀ k, k ≤ xs.length → legTo P h xs ys d k = legTo P h xs ys d (lastL xs k + 1).toNat
  | 0, _ => by simp [lastL, legTo]
  | k + 1, hk => by
    have ih := legTo_last P h xs ys d hx k (by omega)
    have hg := (hx _ (getD_mem (xs := xs) (k := k) (by omega))).1
    by_cases h0 : 0 < xs.getD k 0
    · rw [lastL_pos h0]
      congr 1
    · have hz : xs.getD k 0 = 0 := by omega
      rw [lastL_not hz, ← ih, legTo, stepI, if_pos hz]
      rfl
def legL (P : Nat) (h : Int) (xs ys : List Int) (d : Int) : List Stp := if overB xs ys = true then [] else legTo P h xs ys d (P + 1)
theorem legL_length (P : Nat) (h : Int) (xs ys : List Int) (d : Int) : (legL P h xs ys d).length ≤ P + 1 := by
  unfold legL
  split
  · simp
  · exact legTo_length _ _ _ _ _ _
set_option maxRecDepth 8000 in
set_option maxHeartbeats 2000000 in
theorem legalSteps_any (P : Nat) (c h s : Int) (f1 f2 B : Nat) (xs ys : List Int) (w : World) (p0 : 2 ≤ P) (p1 : P ≤ 24) (n1 : xs.length = P + 1) (n2 : ys.length = P + 1) (hx : ∀ x ∈ xs, 0 ≤ x ∧ x ≤ 1000) (hy : ∀ y ∈ ys, 0 ≤ y ∧ y ≤ 1000) (q1 : Pays f1 B xs w) (q2 : Pays f2 B ys w) (d : Int) (d0 : 1 ≤ d) (d1 : d ≤ 1000) :
    Calls Tryz.prog 105 #[.agg #[.int .i64 (P : Int), .int .i64 c, .int .i64 h, .int .i64 s], tv (P : Int) f1 f2 B, .int .i64 d] w (StepsGot (legL P h xs ys d) w) := by
  obtain ⟨BV, BT, hb, hz⟩ := two_new w #[.int .i64 (P : Int), .int .i64 c, .int .i64 h, .int .i64 s] #[.int .i64 (P : Int), fv f1 B, fv f2 B] 25 109
  have ho0 := fun W (hW : Below w.heap.size w W) => over_any (P : Int) f1 f2 B xs ys W (by omega) (by omega) (by omega) (by omega) hx hy (q1.below hW) (q2.below hW)
  obtain ⟨x0, x1, x2, x3, xf, xl⟩ := BV.four
  obtain ⟨z0, z1, z2, zf, zl⟩ := BT.tri
  unfold legL
  cases g3 : overB xs ys with
  | true =>
    rw [g3] at ho0
    rw [if_pos rfl]
    have HOV := Lib.hid ho0
    clear ho0 g3
    go_enter Tryz.func105, Tryz.ntmps105
    go_wp2_with (go_at_call 91; refine (HOV.out _ hb).mono ?_; rintro e w3 ⟨rfl, hb3⟩)
    go_ret
    exact ⟨none, 0, rfl, .inl ⟨rfl, rfl⟩, chain hb hb3⟩
  | false =>
    rw [g3] at ho0
    rw [if_neg (by simp)]
    have HOV := Lib.hid ho0
    have hf0 := fun W (hW : Below w.heap.size w W) => farthest_any (P : Int) f1 f2 B f1 B xs W (by omega) (by omega) (by omega) hx (q1.below hW)
    have hs0 := fun (k : Nat) (kP : k ≤ P) W (hW : Below w.heap.size w W) => stepFrom_any P c h s f1 f2 B xs ys W p0 p1 n1 n2 hx hy (q1.below hW) (q2.below hW) k d kP d0 d1
    have hl0 : legTo P h xs ys d (lastL xs xs.length + 1).toNat = legTo P h xs ys d (P + 1) := by rw [← legTo_last P h xs ys d hx xs.length (Nat.le_refl _), n1]
    have hll : ∀ k, (legTo P h xs ys d k).length ≤ k := legTo_length P h xs ys d
    obtain ⟨L, hL⟩ : ∃ L, legTo P h xs ys d (P + 1) = L := ⟨_, rfl⟩
    have hLl : L.length ≤ P + 1 := by rw [← hL]; exact hll _
    rw [hL] at hl0 ⊢
    have lb := lastL_bound xs xs.length
    obtain ⟨F, hF⟩ : ∃ F, lastL xs xs.length = F := ⟨_, rfl⟩
    rw [hF] at hf0 hl0 lb
    have F0 : -1 ≤ F := lb.1
    have F1 : F ≤ (P : Int) := by omega
    have HF := Lib.hid hf0
    have HS := Lib.hid hs0
    have HL := Lib.hid hl0
    clear ho0 g3 hf0 hs0 hl0 hL hF lb q1 q2 hll
    go_enter Tryz.func105, Tryz.ntmps105
    go_wp2_with (first | (go_at_call 91; refine (HOV.out _ hb).mono ?_; rintro e w3 ⟨rfl, hb3⟩; obtain ⟨x0, x1, x2, x3, xf, xl⟩ := (BV.below hb3).four; obtain ⟨z0, z1, z2, zf, zl⟩ := (BT.below hb3).tri) | (go_at_call 107; refine (HF.out _ (chain hb hb3)).mono ?_; rintro e w4 ⟨rfl, hb4⟩))
    have hb0 := chain hb3 hb4
    clear HOV HF hb3 hb4 x0 x1 x2 x3 xf xl z0 z1 z2 zf zl
    generalize ((w.alloc (.cells #[.int .i64 (P : Int), .int .i64 c, .int .i64 h, .int .i64 s] 25)).alloc (.cells #[.int .i64 (P : Int), fv f1 B, fv f2 B] 109)) = v0 at *
    go_loopg [7, 8] (F + 1).toNat (fun m q i wr => ∃ (k : Nat) (D : List Stp), k ≤ P + 1 ∧ m = k ∧ i = .int .i64 ((k : Int) - 1) ∧ D ++ legTo P h xs ys d k = L ∧ OwnT wr v0.heap.size q D ∧ Below v0.heap.size v0 wr)
    case atStart => exact ⟨(F + 1).toNat, [], by omega, rfl, by congr 1; omega, HL.out, OwnT.nil _ _, hb0⟩
    case round =>
      obtain ⟨k, D, hk, hm, rfl, hDL, hO, hbel⟩ := hrel
      have hDl : D.length ≤ P + 1 := by rw [← hDL, List.length_append] at hLl; omega
      have hbw := chain hb hbel
      obtain ⟨x0, x1, x2, x3, xf, xl⟩ := (BV.below hbel).four
      obtain ⟨z0, z1, z2, zf, zl⟩ := (BT.below hbel).tri
      cases k with
      | zero =>
        have hDL2 : D = L := by rw [← hDL]; simp [legTo]
        subst hDL2
        obtain ⟨a, cp, rfl⟩ := hO.form
        have hos := hO.ost
        have HDL := Lib.hid hDL
        clear hDL hDl hLl
        go_wp2
        go_ret
        exact ⟨a, cp, rfl, hos.mono hb.size (Nat.le_refl _), hbw⟩
      | succ k =>
        have e1 : (((k + 1 : Nat) : Int) - 1) = (k : Int) := by omega
        rw [e1]
        have hsk := HS.out k (by omega) wr hbw
        rw [legTo] at hDL
        have hkP : (k : Int) ≤ (P : Int) := by omega
        clear e1
        cases hst : stepI P h xs ys k d with
        | none =>
          rw [hst] at hsk hDL
          have HC := Lib.hid hsk
          have HDL := Lib.hid hDL
          clear hsk hDL hst hLl
          go_wp2_with (go_at_call 92; refine HC.out.mono ?_; intro e w5 hg; obtain ⟨x, rfl, hb5⟩ := hg.none)
          go_roundg k
          case measure => omega
          case rel => exact ⟨k, D, by omega, rfl, by go_num, by simpa using HDL.out, (hO.kept hb5).alloc _, (chain hbel hb5).alloc (chain hbel hb5).size _⟩
        | some t =>
          obtain ⟨e1, e2, e3, e4⟩ := t
          rw [hst] at hsk hDL
          have hDl2 : D.length ≤ 1048576 := by omega
          have HC := Lib.hid hsk
          have HDL := Lib.hid hDL
          clear hsk hDL hst hLl
          have hpush : ∀ w5, Below wr.heap.size wr w5 → v0.heap.size ≤ (w5.alloc (.cells #[.int .i64 e1, .int .i64 e2, .int .i64 e3, .bool e4] 55)).heap.size := fun w5 h5 => by
            have := (chain hbel h5).size
            simp
            omega
          go_wp2_with (first | (go_at_call 92; refine HC.out.mono ?_; intro e w5 hg; obtain ⟨rfl, hb5⟩ := hg.some) | (at_builtin; go_loud (refine wp_pushT rfl _ _ rfl v0.heap.size _ D rfl ((hO.kept hb5).alloc _) (e1, e2, e3, e4) rfl (by simp) hDl2 (hpush _ hb5) ?_; intro v2 w6 hO2 hb6)))
          go_roundg k
          case measure => omega
          case rel => exact ⟨k, D ++ [(e1, e2, e3, e4)], by omega, rfl, by go_num, by rw [← HDL.out]; simp, hO2, ((chain hbel hb5).alloc (chain hbel hb5).size _).trans hb6⟩
def legToS (P : Nat) (h : Int) (xs ys : List Int) (d : Int) : Nat → List Stp
  | 0 => []
  | k + 1 => (stepS P h xs ys k d).toList ++ legToS P h xs ys d k
theorem legToS_over {P : Nat} {h : Int} {xs ys : List Int} {d : Int} (g : overB xs ys = true) : ∀ k, legToS P h xs ys d k = []
  | 0 => rfl
  | k + 1 => by rw [legToS, legToS_over g k, stepS, if_pos g]; rfl
theorem legToS_not {P : Nat} {h : Int} {xs ys : List Int} {d : Int} (g : overB xs ys = false) : ∀ k, legToS P h xs ys d k = legTo P h xs ys d k
  | 0 => rfl
  | k + 1 => by rw [legToS, legToS_not g k, stepS, if_neg (by simp [g]), legTo]
theorem legToS_legL (P : Nat) (h : Int) (xs ys : List Int) (d : Int) : legToS P h xs ys d (P + 1) = legL P h xs ys d := by
  unfold legL
  cases g : overB xs ys with
  | true => rw [legToS_over g, if_pos rfl]
  | false => rw [legToS_not g, if_neg (by simp)]
theorem legB_S {P : Nat} {h s : Int} {xs ys : List Int} {t : Stp} : legB P h s xs ys t = (inB t.2.2.1 1 s && (inB t.1 0 (P : Int) && decide (stepS P h xs ys t.1.toNat t.2.2.1 = some t))) := by
  obtain ⟨a, b, d, q⟩ := t
  unfold legB
  dsimp only
  cases g1 : inB d 1 s with
  | false => simp
  | true =>
    have g1' : 1 ≤ d ∧ d ≤ s := by simpa [inB] using g1
    rw [Bool.true_and, Bool.true_and]
    by_cases ha : 0 ≤ a ∧ a ≤ (P : Int)
    · have ga : inB a 0 (P : Int) = true := by simpa [inB] using ha
      rw [ga, Bool.true_and]
      obtain ⟨k, rfl⟩ := Int.eq_ofNat_of_zero_le ha.1
      rw [show (k : Int).toNat = k by simp]
      unfold stepS
      cases g3 : overB xs ys with
      | true => simp
      | false =>
        rw [Bool.not_false, Bool.true_and, if_neg (by simp)]
        by_cases he : stepI P h xs ys k d = some ((k : Int), b, d, q)
        · have hp : placesB (P : Int) ((k : Int), b, d, q) = true := by
            unfold stepI at he
            split at he
            · simp at he
            · split at he
              · rename_i _ hal
                simp at he
                obtain ⟨rfl, _⟩ := he
                unfold placesB toI
                unfold alB openB at hal
                dsimp only
                by_cases hk : k = P
                · rw [if_pos (.inl hk)]
                  rw [if_pos hk] at hal
                  simp at hal ⊢
                  omega
                · rw [if_neg hk] at hal
                  by_cases hd : d ≤ (k : Int)
                  · rw [if_pos (.inr hd)]
                    simp
                    omega
                  · rw [if_neg (by omega)]
                    simp
                    omega
              · simp at he
          rw [hp, Bool.true_and]
        · rw [decide_eq_false he, Bool.and_false]
    · have ga : inB a 0 (P : Int) = false := by simpa [inB] using ha
      have hp : placesB (P : Int) (a, b, d, q) = false := by
        unfold placesB
        dsimp only
        by_cases h0 : 0 ≤ a
        · have : ¬ a ≤ (P : Int) := fun h1 => ha ⟨h0, h1⟩
          rw [decide_eq_false this]
          simp
        · rw [decide_eq_false h0, Bool.false_and]
      rw [ga, hp]
      simp
set_option maxRecDepth 8000 in
set_option maxHeartbeats 2000000 in
theorem l04Legal_any (P : Nat) (c h s : Int) (a1 a2 : Option Addr) (n1 n2 c1 c2 : Nat) (xs ys : List Int) (w : World) (h1 : xs.length = n1) (h2 : ys.length = n2) (p0 : 2 ≤ P) (p1 : P ≤ 24) (N1 : xs.length = P + 1) (N2 : ys.length = P + 1) (hh0 : 1 ≤ h) (hh : h ≤ (P : Int)) (hx : ∀ x ∈ xs, 0 ≤ x ∧ x ≤ 1000) (hy : ∀ y ∈ ys, 0 ≤ y ∧ y ≤ 1000) (r1 : IRow w a1 xs) (r2 : IRow w a2 ys) (d : Int) (d0 : 1 ≤ d) (d1 : d ≤ 1000) :
    Calls Tryz.prog 38 #[.agg #[.int .i64 (P : Int), .int .i64 c, .int .i64 h, .int .i64 s], .agg #[.slice a1 n1 c1, .slice a2 n2 c2], .int .i64 d] w (StepsGot (legL P h xs ys d) w) := by
  obtain ⟨BV, BB, hb, hz⟩ := two_new w #[.int .i64 (P : Int), .int .i64 c, .int .i64 h, .int .i64 s] #[.slice a1 n1 c1, .slice a2 n2 c2] 25 28
  obtain ⟨x0, x1, x2, x3, xf, xl⟩ := BV.four
  obtain ⟨y0, y1, yf, yl⟩ := BB.two
  have hs0 := fun (k : Nat) (kP : k ≤ P) W (hW : Below w.heap.size w W) => l04Step_any P c h s a1 a2 n1 n2 c1 c2 xs ys W h1 h2 p0 p1 N1 N2 hh0 hh hx hy (r1.below hW) (r2.below hW) k d kP d0 d1
  have hLl := legL_length P h xs ys d
  obtain ⟨L, hL⟩ : ∃ L, legL P h xs ys d = L := ⟨_, rfl⟩
  have hl0 : legToS P h xs ys d (P + 1) = L := by rw [legToS_legL, hL]
  rw [hL] at hLl ⊢
  have HS := Lib.hid hs0
  have HL := Lib.hid hl0
  clear hs0 hl0 hL
  go_enter Tryz.func38, Tryz.ntmps38
  go_wp2_with fail
  have hO0 : OwnT (((w.alloc (.cells #[.int .i64 (P : Int), .int .i64 c, .int .i64 h, .int .i64 s] 25)).alloc (.cells #[.slice a1 n1 c1, .slice a2 n2 c2] 28)).alloc (.cells #[] 55)) ((w.alloc (.cells #[.int .i64 (P : Int), .int .i64 c, .int .i64 h, .int .i64 s] 25)).alloc (.cells #[.slice a1 n1 c1, .slice a2 n2 c2] 28)).heap.size (.slice (some ⟨((w.alloc (.cells #[.int .i64 (P : Int), .int .i64 c, .int .i64 h, .int .i64 s] 25)).alloc (.cells #[.slice a1 n1 c1, .slice a2 n2 c2] 28)).heap.size, 0, none⟩) 0 0) [] := OwnT.start _
  have hbA : Below ((w.alloc (.cells #[.int .i64 (P : Int), .int .i64 c, .int .i64 h, .int .i64 s] 25)).alloc (.cells #[.slice a1 n1 c1, .slice a2 n2 c2] 28)).heap.size ((w.alloc (.cells #[.int .i64 (P : Int), .int .i64 c, .int .i64 h, .int .i64 s] 25)).alloc (.cells #[.slice a1 n1 c1, .slice a2 n2 c2] 28)) (((w.alloc (.cells #[.int .i64 (P : Int), .int .i64 c, .int .i64 h, .int .i64 s] 25)).alloc (.cells #[.slice a1 n1 c1, .slice a2 n2 c2] 28)).alloc (.cells #[] 55)) := (Below.refl _ _).alloc (Nat.le_refl _) _
  rw [hz] at hO0
  have hzN := Lib.hid hz
  clear hz x0 x1 x2 x3 xf xl y0 y1 yf yl
  generalize (((w.alloc (.cells #[.int .i64 (P : Int), .int .i64 c, .int .i64 h, .int .i64 s] 25)).alloc (.cells #[.slice a1 n1 c1, .slice a2 n2 c2] 28)).alloc (.cells #[] 55)) = v1 at *
  generalize ((w.alloc (.cells #[.int .i64 (P : Int), .int .i64 c, .int .i64 h, .int .i64 s] 25)).alloc (.cells #[.slice a1 n1 c1, .slice a2 n2 c2] 28)) = v0 at *
  have hz := hzN.out
  go_loopg [7, 8] (P + 1) (fun m q i wr => ∃ (k : Nat) (D : List Stp), k ≤ P + 1 ∧ m = k ∧ i = .int .i64 ((k : Int) - 1) ∧ D ++ legToS P h xs ys d k = L ∧ OwnT wr (w.heap.size + 1 + 1) q D ∧ Below v0.heap.size v0 wr)
  case atStart => exact ⟨P + 1, [], by omega, rfl, by congr 1; omega, HL.out, hO0, hbA⟩
  case round =>
    obtain ⟨k, D, hk, hm, rfl, hDL, hO, hbel⟩ := hrel
    have hDl : D.length ≤ P + 1 := by rw [← hDL, List.length_append] at hLl; omega
    have hbw := chain hb hbel
    have hszr := hbel.size
    rw [hz] at hszr
    obtain ⟨x0, x1, x2, x3, xf, xl⟩ := (BV.below hbel).four
    obtain ⟨y0, y1, yf, yl⟩ := (BB.below hbel).two
    cases k with
    | zero =>
      have hDL2 : D = L := by rw [← hDL]; simp [legToS]
      subst hDL2
      obtain ⟨a, cp, rfl⟩ := hO.form
      have hos := hO.ost
      have HDL := Lib.hid hDL
      clear hDL hDl hLl
      go_wp2
      go_ret
      exact ⟨a, cp, rfl, hos.mono (by omega) (Nat.le_refl _), hbw⟩
    | succ k =>
      have e1 : (((k + 1 : Nat) : Int) - 1) = (k : Int) := by omega
      rw [e1]
      have hsk := HS.out k (by omega) wr hbw
      rw [legToS] at hDL
      have hkP : (k : Int) ≤ (P : Int) := by omega
      clear e1
      cases hst : stepS P h xs ys k d with
      | none =>
        rw [hst] at hsk hDL
        have HC := Lib.hid hsk
        have HDL := Lib.hid hDL
        clear hsk hDL hst hLl hz
        go_wp2_with (go_at_call 65; refine HC.out.mono ?_; intro e w5 hg; obtain ⟨x, rfl, hb5⟩ := hg.none)
        go_roundg k
        case measure => omega
        case rel => exact ⟨k, D, by omega, rfl, by go_num, by simpa using HDL.out, (hO.kept hb5).alloc _, (chain hbel hb5).alloc (chain hbel hb5).size _⟩
      | some t =>
        obtain ⟨e1, e2, e3, e4⟩ := t
        rw [hst] at hsk hDL
        have hDl2 : D.length ≤ 1048576 := by omega
        have HC := Lib.hid hsk
        have HDL := Lib.hid hDL
        clear hsk hDL hst hLl hz
        have hpush : ∀ w5, Below wr.heap.size wr w5 → w.heap.size + 1 + 1 ≤ (w5.alloc (.cells #[.int .i64 e1, .int .i64 e2, .int .i64 e3, .bool e4] 55)).heap.size := fun w5 h5 => by
          have := h5.size
          simp
          omega
        go_wp2_with (first | (go_at_call 65; refine HC.out.mono ?_; intro e w5 hg; obtain ⟨rfl, hb5⟩ := hg.some) | (at_builtin; refine wp_pushT rfl _ _ rfl (w.heap.size + 1 + 1) _ D rfl ((hO.kept hb5).alloc _) (e1, e2, e3, e4) rfl (by simp) hDl2 (hpush _ hb5) ?_; intro v2 w6 hO2 hb6))
        go_roundg k
        case measure => omega
        case rel => exact ⟨k, D ++ [(e1, e2, e3, e4)], by omega, rfl, by go_num, by rw [← HDL.out]; simp, hO2, ((chain hbel hb5).alloc (chain hbel hb5).size _).trans (by rw [hzN.out]; exact hb6)⟩
theorem isB_sides {p c h s : Int} {xs ys : List Int} (g : isB p c h s xs ys = true) : 1 ≤ s ∧ s ≤ 6 := by
  have hv : vB p c h s = true := by
    unfold isB at g
    rw [Bool.and_eq_true] at g
    exact g.1
  have := vB_iff.1 hv
  omega
set_option maxRecDepth 8000 in
set_option maxHeartbeats 1000000 in
theorem side_any (P : Nat) (f1 f2 B1 B2 fn B : Nat) (xs : List Int) (w : World) (p1 : P ≤ 24) (hn : xs.length = P + 1) (hp : Pays fn B xs w) :
    Calls Tryz.prog 110 #[.agg #[.int .i64 (P : Int), fv f1 B1, fv f2 B2], fv fn B] w (Copied xs w) := by
  obtain ⟨i0, hi, hz0, hz1, hz2⟩ := info_parts infoI64
  have hb : Below w.heap.size w (w.alloc (.cells #[.int .i64 (P : Int), fv f1 B1, fv f2 B2] 109)) := (Below.refl _ _).alloc (Nat.le_refl _) _
  have hp0 := hp.below hb
  have e199 := hp.1
  obtain ⟨z0, z1, z2, zf, zl⟩ := (Blk.new w #[.int .i64 (P : Int), fv f1 B1, fv f2 B2] 109).tri
  go_enter Tryz.func110, Tryz.ntmps110
  go_wp2_with (at_make; refine wpList_make_row _ rfl _ _ 26 rfl 2 i0 (.int .i64 0) Tryz.underlying26 hi hz0 hz1 rfl .i64 .i64 (P + 1) (by rfl) (by rfl) (by rw [hz2]; omega) (by omega) ?_)
  clear z0 z1 z2 zf zl
  have hmade := made_row (w.alloc (.cells #[.int .i64 (P : Int), fv f1 B1, fv f2 B2] 109)) (P + 1)
  have hsz : (w.alloc (.cells #[.int .i64 (P : Int), fv f1 B1, fv f2 B2] 109)).heap.size = w.heap.size + 1 := by simp
  rw [hsz] at hmade
  generalize (w.alloc (.cells #[.int .i64 (P : Int), fv f1 B1, fv f2 B2] 109)) = v0 at *
  go_loopg [13] xs.length (fun m i wr => ∃ k : Nat, k ≤ xs.length ∧ m = xs.length - k ∧ i = .int .i64 k ∧ Row wr (w.heap.size + 1) (xs.take k ++ List.replicate (xs.length - k) 0) ∧ Below (w.heap.size + 1) v0 wr)
  case atStart => exact ⟨0, by omega, by omega, rfl, by simpa [hn] using hmade, (Below.refl _ _).alloc (by omega) _⟩
  case round =>
    clear hmade
    obtain ⟨k, hk, hm, rfl, hR, hbk⟩ := hrel
    have hsz2 : w.heap.size + 1 < wr.heap.size := hR.lt
    by_cases hlt : k < xs.length
    · have hlt' : (k : Int) < (P : Int) + 1 := by omega
      have hpk := hp0.2 wr (hbk.mono (by omega)) k hlt
      obtain ⟨v, hv⟩ : ∃ v, xs.getD k 0 = v := ⟨_, rfl⟩
      rw [hv] at hpk
      have hcs := copy_step xs k hlt
      rw [hv] at hcs
      have HP := Lib.hid hpk
      have HC := Lib.hid hcs
      have HN := Lib.hid hn
      clear hpk hv hcs hn
      go_wp2_with (go_at_fn fn; refine HP.out.mono ?_; rintro e w5 ⟨rfl, hb5⟩; have R5 := hR.below hb5; have f0 := R5.free k; have c0 := R5.cell k (by simp; omega))
      go_roundg (xs.length - (k + 1))
      case measure => omega
      case rel => exact ⟨k + 1, by omega, rfl, by go_num, (R5.set k v).wf HC.out, (hbk.trans (hb5.mono (by omega))).setCell (Nat.le_refl _) _⟩
    · obtain rfl : k = xs.length := by omega
      have hlt' : ¬ ((xs.length : Nat) : Int) < (P : Int) + 1 := by omega
      have hend := hR.wf (show xs.take xs.length ++ List.replicate (xs.length - xs.length) 0 = xs by simp)
      have HE := Lib.hid hend
      have HN := Lib.hid hn
      clear hend hn hR
      go_wp2
      go_ret
      exact ⟨w.heap.size + 1, by simp [HN.out], by omega, HE.out, hb.trans (hbk.mono (by omega))⟩
theorem heldTB {w W w2 : World} {P f1 f2 B1 B2 : Nat} (hS : W.cell? ⟨w.heap.size, 0, none⟩ = some (.int .i64 (P : Int)) ∧ W.cell? ⟨w.heap.size, 1, none⟩ = some (fv f1 B1) ∧ W.cell? ⟨w.heap.size, 2, none⟩ = some (fv f2 B2) ∧ Below w.heap.size w W ∧ ∃ u0 u1, Blk W (w.heap.size + 1) #[u0, u1] 28) (hb : Below W.heap.size W w2) : w2.cell? ⟨w.heap.size, 0, none⟩ = some (.int .i64 (P : Int)) ∧ w2.cell? ⟨w.heap.size, 1, none⟩ = some (fv f1 B1) ∧ w2.cell? ⟨w.heap.size, 2, none⟩ = some (fv f2 B2) ∧ Below w.heap.size w w2 ∧ ∃ u0 u1, Blk w2 (w.heap.size + 1) #[u0, u1] 28 := by
  obtain ⟨h0, h1, h2, h3, u0, u1, h4⟩ := hS
  obtain ⟨hc, _⟩ := bcell hb
  have hl : w.heap.size < W.heap.size := by have := h4.lt; omega
  exact ⟨by rw [hc _ _ hl]; exact h0, by rw [hc _ _ hl]; exact h1, by rw [hc _ _ hl]; exact h2, chain h3 hb, u0, u1, h4.below hb⟩
theorem storeTB {w W : World} {P f1 f2 B1 B2 : Nat} (hS : W.cell? ⟨w.heap.size, 0, none⟩ = some (.int .i64 (P : Int)) ∧ W.cell? ⟨w.heap.size, 1, none⟩ = some (fv f1 B1) ∧ W.cell? ⟨w.heap.size, 2, none⟩ = some (fv f2 B2) ∧ Below w.heap.size w W ∧ ∃ u0 u1, Blk W (w.heap.size + 1) #[u0, u1] 28) (v0 v1 : Value) : ((W.setCell ⟨w.heap.size + 1, 0, none⟩ v0).setCell ⟨w.heap.size + 1, 1, none⟩ v1).cell? ⟨w.heap.size, 0, none⟩ = some (.int .i64 (P : Int)) ∧ ((W.setCell ⟨w.heap.size + 1, 0, none⟩ v0).setCell ⟨w.heap.size + 1, 1, none⟩ v1).cell? ⟨w.heap.size, 1, none⟩ = some (fv f1 B1) ∧ ((W.setCell ⟨w.heap.size + 1, 0, none⟩ v0).setCell ⟨w.heap.size + 1, 1, none⟩ v1).cell? ⟨w.heap.size, 2, none⟩ = some (fv f2 B2) ∧ Below w.heap.size w ((W.setCell ⟨w.heap.size + 1, 0, none⟩ v0).setCell ⟨w.heap.size + 1, 1, none⟩ v1) ∧ ∃ u0 u1, Blk ((W.setCell ⟨w.heap.size + 1, 0, none⟩ v0).setCell ⟨w.heap.size + 1, 1, none⟩ v1) (w.heap.size + 1) #[u0, u1] 28 := by
  obtain ⟨h0, h1, h2, h3, u0, u1, h4⟩ := hS
  refine ⟨?_, ?_, ?_, (h3.setCell (by simp) _).setCell (by simp) _, v0, v1, (h4.set v0).set v1⟩ <;> (rw [World.cell?_setCell_far _ _ _ _ (by simp), World.cell?_setCell_far _ _ _ _ (by simp)]; assumption)
set_option maxRecDepth 8000 in
set_option maxHeartbeats 1000000 in
theorem board_any (P : Nat) (f1 f2 B1 B2 : Nat) (xs ys : List Int) (w : World) (p1 : P ≤ 24) (n1 : xs.length = P + 1) (n2 : ys.length = P + 1) (q1 : Pays f1 B1 xs w) (q2 : Pays f2 B2 ys w) :
    Calls Tryz.prog 93 #[.agg #[.int .i64 (P : Int), fv f1 B1, fv f2 B2]] w (BoardMade xs ys w) := by
  obtain ⟨BT, BR, hb, hz⟩ := two_new w #[.int .i64 (P : Int), fv f1 B1, fv f2 B2] #[.slice none 0 0, .slice none 0 0] 109 28
  obtain ⟨x0, x1, x2, xf, xl⟩ := BT.tri
  have hK1 := fun W (hW : Below w.heap.size w W) => side_any P f1 f2 B1 B2 f1 B1 xs W p1 n1 (q1.below hW)
  have hK2 := fun W (hW : Below w.heap.size w W) => side_any P f1 f2 B1 B2 f2 B2 ys W p1 n2 (q2.below hW)
  have HK1 := Lib.hid hK1
  have HK2 := Lib.hid hK2
  clear hK1 hK2
  go_enter Tryz.func93, Tryz.ntmps93
  go_wp2_with fail
  generalize ((w.alloc (.cells #[.int .i64 (P : Int), fv f1 B1, fv f2 B2] 109)).alloc (.cells #[.slice none 0 0, .slice none 0 0] 28)) = v0 at *
  refine wp_region_held_drew (S := fun w' => w'.cell? ⟨w.heap.size, 0, none⟩ = some (.int .i64 (P : Int)) ∧ w'.cell? ⟨w.heap.size, 1, none⟩ = some (fv f1 B1) ∧ w'.cell? ⟨w.heap.size, 2, none⟩ = some (fv f2 B2) ∧ Below w.heap.size w w' ∧ ∃ u0 u1, Blk w' (w.heap.size + 1) #[u0, u1] 28) (by kernel_rfl) ⟨x0, x1, x2, hb.drew, _, _, BR.drew⟩ (fun hHeld => ?_)
  refine tk 0 3 ?_
  refine tk 1 4 ?_
  refine tk 2 5 ?_
  refine tk 4 7 ?_
  refine tk 5 8 ?_
  refine tk 6 9 ?_
  refine rdk 3 6 fun K hK => ?_
  go_simp
  refine (HK1.out _ hHeld.2.2.2.1).mono ?_
  rintro e w5 ⟨g1, rfl, hg1, R1, hb1⟩
  have hS := heldTB hHeld hb1
  (try go_wp2_with fail)
  refine hko hK hS fun hHeld => ?_
  clear hK K
  refine rdk 7 10 fun K hK => ?_
  go_simp
  refine (HK2.out _ hHeld.2.2.2.1).mono ?_
  rintro e w6 ⟨g2, rfl, hg2, R2, hb2⟩
  have R1b := R1.below hb2
  have hS := heldTB hHeld hb2
  (try go_wp2_with fail)
  refine hko hK hS fun hHeld => ?_
  clear hK K
  refine tk 8 11 ?_
  refine rdn 9 fun K hK => ?_
  obtain ⟨u0, u1, BU⟩ := hHeld.2.2.2.2
  have y0 := BU.two.1
  have y1 := BU.two.2.1
  have yf := BU.two.2.2.1
  have yl := BU.two.2.2.2
  go_simp
  (try go_wp2_with fail)
  refine hko hK (storeTB hHeld _ _) fun hHeld => ?_
  clear hK K
  refine wpAnyH_done (by kernel_rfl) ?_ _
  go_wp2
  have hl1 := R1.lt
  have hd : v0.drew.heap.size = w.heap.size + 1 + 1 := hz
  have hb56 := hHeld.2.2.2.1
  refine bodyPost_ret (v := .agg #[.slice (some ⟨g1, 0, none⟩) (P + 1) (P + 1), .slice (some ⟨g2, 0, none⟩) (P + 1) (P + 1)]) (by simp [results, Tryz.results93, go_sem, y0, y1]) rfl ?_
  exact ⟨g1, g2, by rw [n1, n2], by omega, by omega, (R1b.other (by omega)).other (by omega), (R2.other (by omega)).other (by omega), hb56⟩
end Go.Proofs.YtciljbnailobgaaGreat
