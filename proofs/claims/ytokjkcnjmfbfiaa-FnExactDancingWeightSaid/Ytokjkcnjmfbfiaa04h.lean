/- Contract of the model's step from a place. -/
import Derived.Test.Ytokjkcnjmfbfiaa04g
namespace Go.Proofs.Ytokjkcnjmfbfiaa
open Go.ChangeShapes Go.WideShapes Go.ChangeAt Go.RowKit
set_option linter.unusedVariables false
set_option linter.unusedSimpArgs false
set_option maxRecDepth 4000

set_option maxRecDepth 8000 in
set_option maxHeartbeats 2000000 in
theorem l04Step_over (P : Nat) (c h s : Int) (a1 a2 : Option Addr) (n1 n2 c1 c2 : Nat) (xs ys : List Int) (w : World) (h1 : xs.length = n1) (h2 : ys.length = n2) (p0 : 2 ≤ P) (p1 : P ≤ 24) (N1 : xs.length = P + 1) (N2 : ys.length = P + 1) (hh0 : 1 ≤ h) (hh : h ≤ (P : Int)) (hx : ∀ x ∈ xs, 0 ≤ x ∧ x ≤ 1000) (hy : ∀ y ∈ ys, 0 ≤ y ∧ y ≤ 1000) (r1 : IRow w a1 xs) (r2 : IRow w a2 ys) (k : Nat) (d : Int) (k1 : k ≤ P) (d0 : 1 ≤ d) (d1 : d ≤ 1000) (g3 : overB xs ys = true) :
    Calls Try.prog 128 #[.agg #[.int .i64 (P : Int), .int .i64 c, .int .i64 h, .int .i64 s], .agg #[.slice a1 n1 c1, .slice a2 n2 c2], .int .i64 (k : Int), .int .i64 d] w (StepGot none w) := by
  have ho0 := fun W (hW : Below w.heap.size w W) => l02Over_any a1 a2 n1 n2 c1 c2 xs ys W h1 h2 (by omega) (by omega) hx hy (r1.below hW) (r2.below hW)
  rw [g3] at ho0
  have HOV := Lib.hid ho0
  clear ho0 g3
  obtain ⟨BV, BB, BR, hb, hz⟩ := three_new w #[.int .i64 (P : Int), .int .i64 c, .int .i64 h, .int .i64 s] #[.slice a1 n1 c1, .slice a2 n2 c2] #[.int .i64 0, .int .i64 0, .int .i64 0, .bool false] 32 34 112
  obtain ⟨x0, x1, x2, x3, xf, xl⟩ := BV.four
  obtain ⟨y0, y1, yf, yl⟩ := BB.two
  obtain ⟨s0, s1, s2, s3, sf, sl⟩ := BR.four
  go_enter Try.func128, Try.ntmps128
  go_wp2_with (first | (go_at_call 135; refine (HOV.out _ hb).mono ?_; rintro e w1 ⟨rfl, hb1⟩; obtain ⟨x0, x1, x2, x3, xf, xl⟩ := (BV.below hb1).four; obtain ⟨y0, y1, yf, yl⟩ := (BB.below hb1).two; obtain ⟨s0, s1, s2, s3, sf, sl⟩ := (BR.below hb1).four))
  refine bodyPost_ret (v := .tuple #[stV (0, 0, 0, false), .bool false]) (by simp [results, Try.results128, go_sem, *]) rfl ⟨(0, 0, 0, false), false, rfl, rfl, ?_⟩
  exact below_set4 (chain hb hb1) (by omega) _ _ _ _
set_option maxRecDepth 8000 in
set_option maxHeartbeats 2000000 in
theorem l04Step_none (P : Nat) (c h s : Int) (a1 a2 : Option Addr) (n1 n2 c1 c2 : Nat) (xs ys : List Int) (w : World) (h1 : xs.length = n1) (h2 : ys.length = n2) (p0 : 2 ≤ P) (p1 : P ≤ 24) (N1 : xs.length = P + 1) (N2 : ys.length = P + 1) (hh0 : 1 ≤ h) (hh : h ≤ (P : Int)) (hx : ∀ x ∈ xs, 0 ≤ x ∧ x ≤ 1000) (hy : ∀ y ∈ ys, 0 ≤ y ∧ y ≤ 1000) (r1 : IRow w a1 xs) (r2 : IRow w a2 ys) (k : Nat) (d : Int) (k1 : k ≤ P) (d0 : 1 ≤ d) (d1 : d ≤ 1000) (g3 : overB xs ys = false) (g0 : xs.getD k 0 = 0 ∨ (0 < xs.getD P 0 ∧ k ≠ P)) :
    Calls Try.prog 128 #[.agg #[.int .i64 (P : Int), .int .i64 c, .int .i64 h, .int .i64 s], .agg #[.slice a1 n1 c1, .slice a2 n2 c2], .int .i64 (k : Int), .int .i64 d] w (StepGot none w) := by
  have ho0 := fun W (hW : Below w.heap.size w W) => l02Over_any a1 a2 n1 n2 c1 c2 xs ys W h1 h2 (by omega) (by omega) hx hy (r1.below hW) (r2.below hW)
  rw [g3] at ho0
  have HOV := Lib.hid ho0
  obtain ⟨b, ob, rfl, -⟩ := r1 0 (by omega)
  have hck : ∀ W, Below w.heap.size w W → W.cell? ⟨b, ob + k, none⟩ = some (.int .i64 (xs.getD k 0)) := fun W hW => by
    obtain ⟨b', o', e, hc⟩ := r1.below hW k (by omega)
    simp at e
    obtain ⟨rfl, rfl⟩ := e
    exact hc
  have hcp : ∀ W, Below w.heap.size w W → W.cell? ⟨b, ob + P, none⟩ = some (.int .i64 (xs.getD P 0)) := fun W hW => by
    obtain ⟨b', o', e, hc⟩ := r1.below hW P (by omega)
    simp at e
    obtain ⟨rfl, rfl⟩ := e
    exact hc
  have hkn : k < n1 := by omega
  have hPn : P < n1 := by omega
  have hkI : (k : Int) < (n1 : Int) := by omega
  have hPI : (P : Int) < (n1 : Int) := by omega
  have hk0 : (0 : Int) ≤ (k : Int) := by omega
  obtain ⟨u, hu⟩ : ∃ u, xs.getD k 0 = u := ⟨_, rfl⟩
  obtain ⟨v, hv⟩ : ∃ v, xs.getD P 0 = v := ⟨_, rfl⟩
  have hv0 : 0 ≤ v := by rw [← hv]; exact (hx _ (getD_mem (show P < xs.length by omega))).1
  rw [hu] at hck
  rw [hv] at hcp
  have HC1 := Lib.hid hck
  have HC2 := Lib.hid hcp
  rw [hu, hv] at g0
  clear ho0 g3 hck hcp hu hv hx hy r1 r2
  by_cases gu : u = 0
  · subst gu
    clear g0
    obtain ⟨BV, BB, BR, hb, hz⟩ := three_new w #[.int .i64 (P : Int), .int .i64 c, .int .i64 h, .int .i64 s] #[.slice (some ⟨b, ob, none⟩) n1 c1, .slice a2 n2 c2] #[.int .i64 0, .int .i64 0, .int .i64 0, .bool false] 32 34 112
    obtain ⟨x0, x1, x2, x3, xf, xl⟩ := BV.four
    obtain ⟨y0, y1, yf, yl⟩ := BB.two
    obtain ⟨s0, s1, s2, s3, sf, sl⟩ := BR.four
    go_enter Try.func128, Try.ntmps128
    go_wp2_with (first | (go_at_call 135; refine (HOV.out _ hb).mono ?_; rintro e w1 ⟨rfl, hb1⟩; obtain ⟨x0, x1, x2, x3, xf, xl⟩ := (BV.below hb1).four; obtain ⟨y0, y1, yf, yl⟩ := (BB.below hb1).two; obtain ⟨s0, s1, s2, s3, sf, sl⟩ := (BR.below hb1).four; have ck := HC1.out w1 (chain hb hb1); have cp := HC2.out w1 (chain hb hb1)))
    refine bodyPost_ret (v := .tuple #[stV (0, 0, 0, false), .bool false]) (by simp [results, Try.results128, go_sem, *]) rfl ⟨(0, 0, 0, false), false, rfl, rfl, ?_⟩
    exact below_set4 (chain hb hb1) (by omega) _ _ _ _
  · have g1 : 0 < v ∧ k ≠ P := by omega
    obtain ⟨g1, g2⟩ := g1
    have g2' : ¬ (k : Int) = (P : Int) := by omega
    clear g0
    obtain ⟨BV, BB, BR, hb, hz⟩ := three_new w #[.int .i64 (P : Int), .int .i64 c, .int .i64 h, .int .i64 s] #[.slice (some ⟨b, ob, none⟩) n1 c1, .slice a2 n2 c2] #[.int .i64 0, .int .i64 0, .int .i64 0, .bool false] 32 34 112
    obtain ⟨x0, x1, x2, x3, xf, xl⟩ := BV.four
    obtain ⟨y0, y1, yf, yl⟩ := BB.two
    obtain ⟨s0, s1, s2, s3, sf, sl⟩ := BR.four
    go_enter Try.func128, Try.ntmps128
    go_wp2_with (first | (go_at_call 135; refine (HOV.out _ hb).mono ?_; rintro e w1 ⟨rfl, hb1⟩; obtain ⟨x0, x1, x2, x3, xf, xl⟩ := (BV.below hb1).four; obtain ⟨y0, y1, yf, yl⟩ := (BB.below hb1).two; obtain ⟨s0, s1, s2, s3, sf, sl⟩ := (BR.below hb1).four; have ck := HC1.out w1 (chain hb hb1); have cp := HC2.out w1 (chain hb hb1)))
    refine bodyPost_ret (v := .tuple #[stV (0, 0, 0, false), .bool false]) (by simp [results, Try.results128, go_sem, *]) rfl ⟨(0, 0, 0, false), false, rfl, rfl, ?_⟩
    exact below_set4 (chain hb hb1) (by omega) _ _ _ _
set_option maxRecDepth 8000 in
set_option maxHeartbeats 2000000 in
theorem l04Step_negP (P : Nat) (c h s : Int) (a1 a2 : Option Addr) (n1 n2 c1 c2 : Nat) (xs ys : List Int) (w : World) (h1 : xs.length = n1) (h2 : ys.length = n2) (p0 : 2 ≤ P) (p1 : P ≤ 24) (N1 : xs.length = P + 1) (N2 : ys.length = P + 1) (hh0 : 1 ≤ h) (hh : h ≤ (P : Int)) (hx : ∀ x ∈ xs, 0 ≤ x ∧ x ≤ 1000) (hy : ∀ y ∈ ys, 0 ≤ y ∧ y ≤ 1000) (r1 : IRow w a1 xs) (r2 : IRow w a2 ys) (d : Int) (d0 : 1 ≤ d) (d1 : d ≤ 1000) (g3 : overB xs ys = false) (gp : 0 < xs.getD P 0) (ht : (P : Int) - d < 0) :
    Calls Try.prog 128 #[.agg #[.int .i64 (P : Int), .int .i64 c, .int .i64 h, .int .i64 s], .agg #[.slice a1 n1 c1, .slice a2 n2 c2], .int .i64 (P : Int), .int .i64 d] w (StepGot none w) := by
  have ho0 := fun W (hW : Below w.heap.size w W) => l02Over_any a1 a2 n1 n2 c1 c2 xs ys W h1 h2 (by omega) (by omega) hx hy (r1.below hW) (r2.below hW)
  have hl0 := fun W (hW : Below w.heap.size w W) => l02Last_any a1 n1 c1 xs W h1 (by omega) (r1.below hW)
  have hl1 : lastL xs n1 = lastL xs xs.length := by rw [h1]
  rw [hl1] at hl0
  clear hl1
  have lb := lastL_bound xs xs.length
  have hFP : lastL xs xs.length = (P : Int) := by rw [N1]; exact lastL_pos gp
  obtain ⟨F, hF⟩ : ∃ F, lastL xs xs.length = F := ⟨_, rfl⟩
  rw [hF] at hl0 lb hFP
  have F0 : -1 ≤ F := lb.1
  have F1 : F ≤ (P : Int) := by omega
  have F2 : h ≤ F := by omega
  rw [g3] at ho0
  have HOV := Lib.hid ho0
  obtain ⟨b, ob, rfl, -⟩ := r1 0 (by omega)
  have hck : ∀ W, Below w.heap.size w W → W.cell? ⟨b, ob + P, none⟩ = some (.int .i64 (xs.getD P 0)) := fun W hW => by
    obtain ⟨b', o', e, hc⟩ := r1.below hW P (by omega)
    simp at e
    obtain ⟨rfl, rfl⟩ := e
    exact hc
  have hcp : ∀ W, Below w.heap.size w W → W.cell? ⟨b, ob + P, none⟩ = some (.int .i64 (xs.getD P 0)) := fun W hW => by
    obtain ⟨b', o', e, hc⟩ := r1.below hW P (by omega)
    simp at e
    obtain ⟨rfl, rfl⟩ := e
    exact hc
  have hkn : P < n1 := by omega
  have hPn : P < n1 := by omega
  have hkI : (P : Int) < (n1 : Int) := by omega
  have hPI : (P : Int) < (n1 : Int) := by omega
  have hk0 : (0 : Int) ≤ (P : Int) := by omega
  obtain ⟨u, hu⟩ : ∃ u, xs.getD P 0 = u := ⟨_, rfl⟩
  obtain ⟨v, hv⟩ : ∃ v, xs.getD P 0 = v := ⟨_, rfl⟩
  have hv0 : 0 ≤ v := by rw [← hv]; exact (hx _ (getD_mem (show P < xs.length by omega))).1
  rw [hu] at hck
  rw [hv] at hcp
  have HC1 := Lib.hid hck
  have HC2 := Lib.hid hcp
  have HLA := Lib.hid hl0
  
  rw [hv] at gp
  have g0 : ¬ v = 0 := by omega
  have huv : u = v := by rw [← hu, hv]
  subst huv
  have hkn : decide ((0 : Int) ≤ (P : Int) - d) = false := by simp; omega
  have eu : (u == 0) = false := by simpa using g0
  have hkd : (P : Int) - d ≤ -1 := by omega
  have hkd2 : -1000 ≤ (P : Int) - d := by omega
  have hk24 : (P : Int) ≤ 24 := by omega
  clear ho0 g3 hck hcp hu hv hx hy r1 r2 hl0 hFP hF lb
  obtain ⟨BV, BB, BR, hb, hz⟩ := three_new w #[.int .i64 (P : Int), .int .i64 c, .int .i64 h, .int .i64 s] #[.slice (some ⟨b, ob, none⟩) n1 c1, .slice a2 n2 c2] #[.int .i64 0, .int .i64 0, .int .i64 0, .bool false] 32 34 112
  obtain ⟨x0, x1, x2, x3, xf, xl⟩ := BV.four
  obtain ⟨y0, y1, yf, yl⟩ := BB.two
  obtain ⟨s0, s1, s2, s3, sf, sl⟩ := BR.four
  go_enter Try.func128, Try.ntmps128
  go_wp2_with (first | (go_at_call 135; refine (HOV.out _ hb).mono ?_; rintro e w1 ⟨rfl, hb1⟩; obtain ⟨x0, x1, x2, x3, xf, xl⟩ := (BV.below hb1).four; obtain ⟨y0, y1, yf, yl⟩ := (BB.below hb1).two; obtain ⟨s0, s1, s2, s3, sf, sl⟩ := (BR.below hb1).four; have ck := HC1.out w1 (chain hb hb1); have cp := HC2.out w1 (chain hb hb1)) | (go_at_call 144; refine (HLA.out _ (chain hb hb1)).mono ?_; rintro e w2 ⟨rfl, rfl⟩))
  refine bodyPost_ret (v := .tuple #[stV (0, 0, 0, false), .bool false]) (by simp [results, Try.results128, go_sem, *]) rfl ⟨(0, 0, 0, false), false, rfl, rfl, ?_⟩
  exact below_set4 (chain hb hb1) (by omega) _ _ _ _
set_option maxRecDepth 8000 in
set_option maxHeartbeats 2000000 in
theorem l04Step_negN (P : Nat) (c h s : Int) (a1 a2 : Option Addr) (n1 n2 c1 c2 : Nat) (xs ys : List Int) (w : World) (h1 : xs.length = n1) (h2 : ys.length = n2) (p0 : 2 ≤ P) (p1 : P ≤ 24) (N1 : xs.length = P + 1) (N2 : ys.length = P + 1) (hh0 : 1 ≤ h) (hh : h ≤ (P : Int)) (hx : ∀ x ∈ xs, 0 ≤ x ∧ x ≤ 1000) (hy : ∀ y ∈ ys, 0 ≤ y ∧ y ≤ 1000) (r1 : IRow w a1 xs) (r2 : IRow w a2 ys) (k : Nat) (d : Int) (k1 : k ≤ P) (d0 : 1 ≤ d) (d1 : d ≤ 1000) (g3 : overB xs ys = false) (gp : xs.getD P 0 = 0) (g0 : ¬ xs.getD k 0 = 0) (gk : ¬ (k : Int) = (P : Int)) (ht : (k : Int) - d < 0) :
    Calls Try.prog 128 #[.agg #[.int .i64 (P : Int), .int .i64 c, .int .i64 h, .int .i64 s], .agg #[.slice a1 n1 c1, .slice a2 n2 c2], .int .i64 (k : Int), .int .i64 d] w (StepGot (if h ≤ lastL xs xs.length ∨ ((k : Int) - d < -1 ∧ (k : Int) < lastL xs xs.length) then none else some ((k : Int), -1, d, false)) w) := by
  have ho0 := fun W (hW : Below w.heap.size w W) => l02Over_any a1 a2 n1 n2 c1 c2 xs ys W h1 h2 (by omega) (by omega) hx hy (r1.below hW) (r2.below hW)
  have hl0 := fun W (hW : Below w.heap.size w W) => l02Last_any a1 n1 c1 xs W h1 (by omega) (r1.below hW)
  have hl1 : lastL xs n1 = lastL xs xs.length := by rw [h1]
  rw [hl1] at hl0
  clear hl1
  have lb := lastL_bound xs xs.length
  
  obtain ⟨F, hF⟩ : ∃ F, lastL xs xs.length = F := ⟨_, rfl⟩
  rw [hF] at hl0 lb ⊢
  have F0 : -1 ≤ F := lb.1
  have F1 : F ≤ (P : Int) := by omega
  
  rw [g3] at ho0
  have HOV := Lib.hid ho0
  obtain ⟨b, ob, rfl, -⟩ := r1 0 (by omega)
  have hck : ∀ W, Below w.heap.size w W → W.cell? ⟨b, ob + k, none⟩ = some (.int .i64 (xs.getD k 0)) := fun W hW => by
    obtain ⟨b', o', e, hc⟩ := r1.below hW k (by omega)
    simp at e
    obtain ⟨rfl, rfl⟩ := e
    exact hc
  have hcp : ∀ W, Below w.heap.size w W → W.cell? ⟨b, ob + P, none⟩ = some (.int .i64 (xs.getD P 0)) := fun W hW => by
    obtain ⟨b', o', e, hc⟩ := r1.below hW P (by omega)
    simp at e
    obtain ⟨rfl, rfl⟩ := e
    exact hc
  have hkn : k < n1 := by omega
  have hPn : P < n1 := by omega
  have hkI : (k : Int) < (n1 : Int) := by omega
  have hPI : (P : Int) < (n1 : Int) := by omega
  have hk0 : (0 : Int) ≤ (k : Int) := by omega
  obtain ⟨u, hu⟩ : ∃ u, xs.getD k 0 = u := ⟨_, rfl⟩
  obtain ⟨v, hv⟩ : ∃ v, xs.getD P 0 = v := ⟨_, rfl⟩
  have hv0 : 0 ≤ v := by rw [← hv]; exact (hx _ (getD_mem (show P < xs.length by omega))).1
  rw [hu] at hck
  rw [hv] at hcp
  have HC1 := Lib.hid hck
  have HC2 := Lib.hid hcp
  have HLA := Lib.hid hl0
  rw [hu] at g0
  rw [hv] at gp
  subst gp
  
  have hkn : decide ((0 : Int) ≤ (k : Int) - d) = false := by simp; omega
  have eu : (u == 0) = false := by simpa using g0
  have hkd : (k : Int) - d ≤ -1 := by omega
  have hkd2 : -1000 ≤ (k : Int) - d := by omega
  have hk24 : (k : Int) ≤ 24 := by omega
  clear ho0 g3 hck hcp hu hv hx hy r1 r2 hl0  hF lb
  by_cases cA : h ≤ F
  · rw [if_pos (.inl cA)]
    obtain ⟨BV, BB, BR, hb, hz⟩ := three_new w #[.int .i64 (P : Int), .int .i64 c, .int .i64 h, .int .i64 s] #[.slice (some ⟨b, ob, none⟩) n1 c1, .slice a2 n2 c2] #[.int .i64 0, .int .i64 0, .int .i64 0, .bool false] 32 34 112
    obtain ⟨x0, x1, x2, x3, xf, xl⟩ := BV.four
    obtain ⟨y0, y1, yf, yl⟩ := BB.two
    obtain ⟨s0, s1, s2, s3, sf, sl⟩ := BR.four
    go_enter Try.func128, Try.ntmps128
    go_wp2_with (first | (go_at_call 135; refine (HOV.out _ hb).mono ?_; rintro e w1 ⟨rfl, hb1⟩; obtain ⟨x0, x1, x2, x3, xf, xl⟩ := (BV.below hb1).four; obtain ⟨y0, y1, yf, yl⟩ := (BB.below hb1).two; obtain ⟨s0, s1, s2, s3, sf, sl⟩ := (BR.below hb1).four; have ck := HC1.out w1 (chain hb hb1); have cp := HC2.out w1 (chain hb hb1)) | (go_at_call 144; refine (HLA.out _ (chain hb hb1)).mono ?_; rintro e w2 ⟨rfl, rfl⟩))
    refine bodyPost_ret (v := .tuple #[stV (0, 0, 0, false), .bool false]) (by simp [results, Try.results128, go_sem, *]) rfl ⟨(0, 0, 0, false), false, rfl, rfl, ?_⟩
    exact below_set4 (chain hb hb1) (by omega) _ _ _ _
  · have eA : decide (h ≤ F) = false := by simp; omega
    by_cases cB : (k : Int) - d < -1
    · by_cases cC : (k : Int) < F
      · rw [if_pos (.inr ⟨cB, cC⟩)]
        clear cA
        obtain ⟨BV, BB, BR, hb, hz⟩ := three_new w #[.int .i64 (P : Int), .int .i64 c, .int .i64 h, .int .i64 s] #[.slice (some ⟨b, ob, none⟩) n1 c1, .slice a2 n2 c2] #[.int .i64 0, .int .i64 0, .int .i64 0, .bool false] 32 34 112
        obtain ⟨x0, x1, x2, x3, xf, xl⟩ := BV.four
        obtain ⟨y0, y1, yf, yl⟩ := BB.two
        obtain ⟨s0, s1, s2, s3, sf, sl⟩ := BR.four
        go_enter Try.func128, Try.ntmps128
        go_wp2_with (first | (go_at_call 135; refine (HOV.out _ hb).mono ?_; rintro e w1 ⟨rfl, hb1⟩; obtain ⟨x0, x1, x2, x3, xf, xl⟩ := (BV.below hb1).four; obtain ⟨y0, y1, yf, yl⟩ := (BB.below hb1).two; obtain ⟨s0, s1, s2, s3, sf, sl⟩ := (BR.below hb1).four; have ck := HC1.out w1 (chain hb hb1); have cp := HC2.out w1 (chain hb hb1)) | (go_at_call 144; refine (HLA.out _ (chain hb hb1)).mono ?_; rintro e w2 ⟨rfl, rfl⟩))
        refine bodyPost_ret (v := .tuple #[stV (0, 0, 0, false), .bool false]) (by simp [results, Try.results128, go_sem, *]) rfl ⟨(0, 0, 0, false), false, rfl, rfl, ?_⟩
        exact below_set4 (chain hb hb1) (by omega) _ _ _ _
      · rw [if_neg (by omega)]
        have eC : decide ((k : Int) < F) = false := by simp; omega
        clear cA cC
        obtain ⟨BV, BB, BR, hb, hz⟩ := three_new w #[.int .i64 (P : Int), .int .i64 c, .int .i64 h, .int .i64 s] #[.slice (some ⟨b, ob, none⟩) n1 c1, .slice a2 n2 c2] #[.int .i64 0, .int .i64 0, .int .i64 0, .bool false] 32 34 112
        obtain ⟨x0, x1, x2, x3, xf, xl⟩ := BV.four
        obtain ⟨y0, y1, yf, yl⟩ := BB.two
        obtain ⟨s0, s1, s2, s3, sf, sl⟩ := BR.four
        go_enter Try.func128, Try.ntmps128
        go_wp2_with (first | (go_at_call 135; refine (HOV.out _ hb).mono ?_; rintro e w1 ⟨rfl, hb1⟩; obtain ⟨x0, x1, x2, x3, xf, xl⟩ := (BV.below hb1).four; obtain ⟨y0, y1, yf, yl⟩ := (BB.below hb1).two; obtain ⟨s0, s1, s2, s3, sf, sl⟩ := (BR.below hb1).four; have ck := HC1.out w1 (chain hb hb1); have cp := HC2.out w1 (chain hb hb1)) | (go_at_call 144; refine (HLA.out _ (chain hb hb1)).mono ?_; rintro e w2 ⟨rfl, rfl⟩))
        refine bodyPost_ret (v := .tuple #[stV ((k : Int), -1, d, false), .bool true]) (by simp [results, Try.results128, go_sem, *]) rfl ⟨((k : Int), -1, d, false), true, rfl, rfl, ?_⟩
        exact below_set4 (chain hb hb1) (by omega) _ _ _ _
    · rw [if_neg (by omega)]
      have eB : decide ((k : Int) - d < -1) = false := by simp; omega
      clear cA cB
      obtain ⟨BV, BB, BR, hb, hz⟩ := three_new w #[.int .i64 (P : Int), .int .i64 c, .int .i64 h, .int .i64 s] #[.slice (some ⟨b, ob, none⟩) n1 c1, .slice a2 n2 c2] #[.int .i64 0, .int .i64 0, .int .i64 0, .bool false] 32 34 112
      obtain ⟨x0, x1, x2, x3, xf, xl⟩ := BV.four
      obtain ⟨y0, y1, yf, yl⟩ := BB.two
      obtain ⟨s0, s1, s2, s3, sf, sl⟩ := BR.four
      go_enter Try.func128, Try.ntmps128
      go_wp2_with (first | (go_at_call 135; refine (HOV.out _ hb).mono ?_; rintro e w1 ⟨rfl, hb1⟩; obtain ⟨x0, x1, x2, x3, xf, xl⟩ := (BV.below hb1).four; obtain ⟨y0, y1, yf, yl⟩ := (BB.below hb1).two; obtain ⟨s0, s1, s2, s3, sf, sl⟩ := (BR.below hb1).four; have ck := HC1.out w1 (chain hb hb1); have cp := HC2.out w1 (chain hb hb1)) | (go_at_call 144; refine (HLA.out _ (chain hb hb1)).mono ?_; rintro e w2 ⟨rfl, rfl⟩))
      refine bodyPost_ret (v := .tuple #[stV ((k : Int), -1, d, false), .bool true]) (by simp [results, Try.results128, go_sem, *]) rfl ⟨((k : Int), -1, d, false), true, rfl, rfl, ?_⟩
      exact below_set4 (chain hb hb1) (by omega) _ _ _ _
end Go.Proofs.Ytokjkcnjmfbfiaa
