/- The model's draws of a die and of a step. -/
import Derived.Test.YtjglempkmenacaaDraw4
import Derived.Test.Ytjglempkmenacaa04l
import Derived.Lib.MinMax
import Derived.Deep.RegionWith
namespace Go.Proofs.Ytjglempkmenacaa
open Go.ChangeShapes Go.WideShapes Go.ChangeAt Go.RowKit
set_option linter.unusedVariables false
set_option linter.unusedSimpArgs false
set_option maxRecDepth 4000

/-- A die has been drawn. -/
def DiePost (B g : Nat) (a : Option Addr) (len cap : Nat) (w : World) (e : Ending) (w' : World) : Prop :=
  ∃ r : Int, e = .returned (.int .i64 r) ∧ -1000 ≤ r ∧ r ≤ 1001 ∧ Src B w' g a len cap ∧ w.grownBy w' (some g)
set_option maxRecDepth 8000 in
set_option maxHeartbeats 1000000 in
theorem drawDie_any (B g : Nat) (p c h s : Int) (a : Option Addr) (len cap : Nat) (w : World) (s0 : -1000 ≤ s) (s1 : s ≤ 1000) (hS : Src B w g a len cap) :
    Calls Try.prog 68 #[.pointer (some ⟨g, 0, none⟩), .agg #[.int .i64 p, .int .i64 c, .int .i64 h, .int .i64 s]] w (DiePost B g a len cap w) := by
  have hl := hS.lt
  have hBg := hS.base
  have BV := Blk.new w #[.int .i64 p, .int .i64 c, .int .i64 h, .int .i64 s] 25
  replace hS := hS.alloc (.cells #[.int .i64 p, .int .i64 c, .int .i64 h, .int .i64 s] 25)
  have hG : w.grownBy (w.alloc (.cells #[.int .i64 p, .int .i64 c, .int .i64 h, .int .i64 s] 25)) (some g) := World.grownBy_alloc w _ _
  have wz : IntKind.i64.wrap (s + 1) = s + 1 := IntWalk.i64_in _ (by omega)
  go_enter Try.func68, Try.ntmps68
  go_wp2_with fail
  generalize (w.alloc (.cells #[.int .i64 p, .int .i64 c, .int .i64 h, .int .i64 s] 25)) = v0 at *
  refine (next_any B g a len cap 20 _ hS (by omega)).mono ?_
  rintro e w1 ⟨r1, rfl, q1, u1, hS, hg⟩
  replace BV := BV.grown hg (by omega)
  replace hG := grown_trans hG hg
  clear hg
  by_cases h0 : r1 = 0
  · subst h0
    obtain ⟨x0, x1, x2, x3, xf, xl⟩ := BV.four
    go_wp2_with fail
    refine wp_region_held_drew (S := fun w' => w'.cell? ⟨w.heap.size, 3, none⟩ = some (.int .i64 s) ∧ (Blk w' w.heap.size #[.int .i64 p, .int .i64 c, .int .i64 h, .int .i64 s] 25 ∧ Src B w' g a len cap ∧ w.grownBy w' (some g))) (by kernel_rfl) ⟨x3, BV.drew, hS.drew, grown_drew hG⟩ (fun hHeld => ?_)
    refine wpAnyH_take (i := 0) (oi := { dst := some 8, op := _, type := _, pos := _, after := _, guard := _ }) (v := ?_) rfl (by kernel_rfl) (by kernel_rfl) (by kernel_rfl) (fun _ _ _ h => h) (Or.inl ⟨by rfl, ?_⟩) (by assumption) ?_
    rotate_left
    · intro w hSw
      (try dsimp only at hSw)
      go_simp
      (try (with_reducible rfl))
    try simp only [Act.put, List.setIfInBounds_toArray, List.set_cons_zero, List.set_cons_succ]
    refine wpAnyH_take (i := 1) (oi := { dst := some 9, op := _, type := _, pos := _, after := _, guard := _ }) (v := ?_) rfl (by kernel_rfl) (by kernel_rfl) (by kernel_rfl) (fun _ _ _ h => h) (Or.inl ⟨by rfl, ?_⟩) (by assumption) ?_
    rotate_left
    · intro w hSw
      (try dsimp only at hSw)
      go_simp
      (try (with_reducible rfl))
    try simp only [Act.put, List.setIfInBounds_toArray, List.set_cons_zero, List.set_cons_succ]
    refine wpAnyH_take (i := 2) (oi := { dst := some 10, op := _, type := _, pos := _, after := _, guard := _ }) (v := ?_) rfl (by kernel_rfl) (by kernel_rfl) (by kernel_rfl) (fun _ _ _ h => h) (Or.inl ⟨by rfl, ?_⟩) (by assumption) ?_
    rotate_left
    · intro w hSw
      (try dsimp only at hSw)
      go_simp
      (try (with_reducible rfl))
    try simp only [Act.put, List.setIfInBounds_toArray, List.set_cons_zero, List.set_cons_succ]
    refine wpAnyH_take (i := 3) (oi := { dst := some 11, op := _, type := _, pos := _, after := _, guard := _ }) (v := ?_) rfl (by kernel_rfl) (by kernel_rfl) (by kernel_rfl) (fun _ _ _ h => h) (Or.inl ⟨by rfl, ?_⟩) (by assumption) ?_
    rotate_left
    · intro w hSw
      (try dsimp only at hSw)
      go_simp
      (try (with_reducible rfl))
    try simp only [Act.put, List.setIfInBounds_toArray, List.set_cons_zero, List.set_cons_succ]
    refine wpAnyH_ready (rs := [4]) (by kernel_rfl) (by simp) ?_
    refine AllReadyH.cons (o := { dst := some 12, op := _, type := _, pos := _, after := _, guard := _ }) rfl (fun K hK => ?_) AllReadyH.nil
    go_simp
    refine (next_any B g a len cap 2 _ hHeld.2.2.1 (by omega)).mono ?_
    rintro e w8 ⟨r2, rfl, q2, u2, hS8, hg8⟩
    have BV8 := hHeld.2.1.grown hg8 (by omega)
    (try go_wp2_with fail)
    refine hK.out _ _ ⟨BV8.four.2.2.2.1, BV8, hS8, grown_trans hHeld.2.2.2 hg8⟩ (fun hHeld => ?_)
    clear hK K
    try simp only [Act.put, List.setIfInBounds_toArray, List.set_cons_zero, List.set_cons_succ]
    refine wpAnyH_take (i := 5) (oi := { dst := some 13, op := _, type := _, pos := _, after := _, guard := _ }) (v := ?_) rfl (by kernel_rfl) (by kernel_rfl) (by kernel_rfl) (fun _ _ _ h => h) (Or.inl ⟨by rfl, ?_⟩) (by assumption) ?_
    rotate_left
    · intro w hSw
      (try dsimp only at hSw)
      go_simp
      (try (with_reducible rfl))
    try simp only [Act.put, List.setIfInBounds_toArray, List.set_cons_zero, List.set_cons_succ]
    refine wpAnyH_take (i := 6) (oi := { dst := some 4, op := _, type := _, pos := _, after := _, guard := _ }) (v := ?_) rfl (by kernel_rfl) (by kernel_rfl) (by kernel_rfl) (fun _ _ _ h => h) (Or.inl ⟨by rfl, ?_⟩) (by assumption) ?_
    rotate_left
    · intro w hSw
      (try dsimp only at hSw)
      go_simp
      (try (with_reducible rfl))
    try simp only [Act.put, List.setIfInBounds_toArray, List.set_cons_zero, List.set_cons_succ]
    refine wpAnyH_done (by kernel_rfl) ?_ _
    go_wp2
    go_ret
    have hr2 : r2 = 0 ∨ r2 = 1 := by omega
    have hw : IntKind.i64.wrap ((s + 1) * r2) = (s + 1) * r2 := IntWalk.i64_in _ (by rcases hr2 with rfl | rfl <;> omega)
    rw [hw]
    exact ⟨_, rfl, by rcases hr2 with rfl | rfl <;> omega, by rcases hr2 with rfl | rfl <;> omega, hHeld.2.2.1, hHeld.2.2.2⟩
  · have f0 : (r1 == 0) = false := by rw [beq_eq_false_iff_ne]; exact h0
    clear h0
    obtain ⟨x0, x1, x2, x3, xf, xl⟩ := BV.four
    go_wp2_with fail
    refine (next_any B g a len cap s _ hS (by omega)).mono ?_
    rintro e w2 ⟨r2, rfl, q2, u2, hS, hg⟩
    replace hG := grown_trans hG hg
    have hr2 : r2 ≤ 1000 := by omega
    clear hg x0 x1 x2 x3 xf xl BV
    go_wp2
    go_ret
    exact ⟨1 + r2, rfl, by omega, by omega, hS, hG⟩
theorem OSt.grown {lo hi g : Nat} {w w' : World} {a : Option Addr} {l : List Stp} (h : OSt lo hi w a l) (hg : w.grownBy w' (some g)) (hne : g < lo) : OSt lo hi w' a l := by
  rcases h with h | ⟨k, e, h1, h2, cur, hB, h3, h4⟩
  · exact .inl h
  · exact .inr ⟨k, e, h1, h2, cur, hB.grown hg (by omega), h3, h4⟩
/-- A step has been drawn. -/
def StepPost (B g : Nat) (a : Option Addr) (len cap : Nat) (w : World) (e : Ending) (w' : World) : Prop :=
  ∃ t : Stp, e = .returned (stV t) ∧ Src B w' g a len cap ∧ w.grownBy w' (some g)
set_option maxRecDepth 8000 in
set_option maxHeartbeats 4000000 in
theorem drawStep_any (B g g1 g2 n1 n2 c1 c2 : Nat) (p c h s : Int) (a : Option Addr) (len cap : Nat) (xs ys : List Int) (w : World) (p0 : -1000 ≤ p) (p1 : p ≤ 1000) (s0 : -1000 ≤ s) (s1 : s ≤ 1000)
    (hx : xs.length = n1) (hy : ys.length = n2) (l1 : n1 ≤ 1000) (l2 : n2 ≤ 1000) (e1 : g1 ≠ g) (e2 : g2 ≠ g) (R1 : Row w g1 xs) (R2 : Row w g2 ys) (hS : Src B w g a len cap) :
    Calls Try.prog 56 #[.pointer (some ⟨g, 0, none⟩), .agg #[.int .i64 p, .int .i64 c, .int .i64 h, .int .i64 s], .agg #[.slice (some ⟨g1, 0, none⟩) n1 c1, .slice (some ⟨g2, 0, none⟩) n2 c2]] w (StepPost B g a len cap w) := by
  have hl := hS.lt
  have hBg := hS.base
  have hl1 := R1.lt
  have hl2 := R2.lt
  obtain ⟨BV, BB, BZ, hb, hz⟩ := three_new w #[.int .i64 p, .int .i64 c, .int .i64 h, .int .i64 s] #[.slice (some ⟨g1, 0, none⟩) n1 c1, .slice (some ⟨g2, 0, none⟩) n2 c2] #[.int .i64 0, .int .i64 0, .int .i64 0, .bool false] 25 28 30
  replace hS := hS.below hb
  replace R1 := R1.below hb
  replace R2 := R2.below hb
  have hG : w.grownBy (((w.alloc (.cells #[.int .i64 p, .int .i64 c, .int .i64 h, .int .i64 s] 25)).alloc (.cells #[.slice (some ⟨g1, 0, none⟩) n1 c1, .slice (some ⟨g2, 0, none⟩) n2 c2] 28)).alloc (.cells #[.int .i64 0, .int .i64 0, .int .i64 0, .bool false] 30)) (some g) := grown_of_below hb _
  have wz : IntKind.i64.wrap (p + 2) = p + 2 := IntWalk.i64_in _ (by omega)
  have LS := lsL_length p c h s xs ys
  obtain ⟨x0, x1, x2, x3, xf, xl⟩ := BV.four
  obtain ⟨y0, y1, yf, yl⟩ := BB.two
  go_enter Try.func56, Try.ntmps56
  go_wp2_with fail
  generalize (((w.alloc (.cells #[.int .i64 p, .int .i64 c, .int .i64 h, .int .i64 s] 25)).alloc (.cells #[.slice (some ⟨g1, 0, none⟩) n1 c1, .slice (some ⟨g2, 0, none⟩) n2 c2] 28)).alloc (.cells #[.int .i64 0, .int .i64 0, .int .i64 0, .bool false] 30)) = v0 at *
  clear hb
  refine (drawDie_any B g p c h s a len cap _ s0 s1 hS).mono ?_
  rintro e w_d ⟨d, rfl, d0, d1, hS, hg⟩
  replace BV := BV.grown hg (by omega)
  replace BB := BB.grown hg (by omega)
  replace BZ := BZ.grown hg (by omega)
  replace R1 := R1.grown hg (by omega)
  replace R2 := R2.grown hg (by omega)
  replace hG := grown_trans hG hg
  have hz_w_d := hg.size
  clear hg
  clear x0 x1 x2 x3 xf xl y0 y1 yf yl
  obtain ⟨x0, x1, x2, x3, xf, xl⟩ := BV.four
  go_wp2_with fail
  refine (next_any B g a len cap (p + 2) _ hS (by omega)).mono ?_
  rintro e w_r1 ⟨r1, rfl, q_r1, u_r1, hS, hg⟩
  replace BV := BV.grown hg (by omega)
  replace BB := BB.grown hg (by omega)
  replace BZ := BZ.grown hg (by omega)
  replace R1 := R1.grown hg (by omega)
  replace R2 := R2.grown hg (by omega)
  replace hG := grown_trans hG hg
  have hz_w_r1 := hg.size
  clear hg
  go_wp2_with fail
  refine (next_any B g a len cap 16 _ hS (by omega)).mono ?_
  rintro e w_r2 ⟨r2, rfl, q_r2, u_r2, hS, hg⟩
  replace BV := BV.grown hg (by omega)
  replace BB := BB.grown hg (by omega)
  replace BZ := BZ.grown hg (by omega)
  replace R1 := R1.grown hg (by omega)
  replace R2 := R2.grown hg (by omega)
  replace hG := grown_trans hG hg
  have hz_w_r2 := hg.size
  clear hg
  have BX := Blk.new w_r2 #[.int .i64 (r1 - r2 / 15), .int .i64 (max (-1) (r1 - r2 / 15 - d)), .int .i64 d, .bool false] 30
  have hal : Below w_r2.heap.size w_r2 (w_r2.alloc (.cells #[.int .i64 (r1 - r2 / 15), .int .i64 (max (-1) (r1 - r2 / 15 - d)), .int .i64 d, .bool false] 30)) := (Below.refl _ _).alloc (Nat.le_refl _) _
  have hza : (w_r2.alloc (.cells #[.int .i64 (r1 - r2 / 15), .int .i64 (max (-1) (r1 - r2 / 15 - d)), .int .i64 d, .bool false] 30)).heap.size = w_r2.heap.size + 1 := by simp
  replace BV := BV.below hal
  replace BB := BB.below hal
  replace BZ := BZ.below hal
  replace R1 := R1.below hal
  replace R2 := R2.below hal
  replace hS := hS.below hal
  replace hG := grown_trans hG (grown_of_below hal _)
  have hz_al := hal.size
  clear hal
  go_wp2_with fail
  clear x0 x1 x2 x3 xf xl hz_al
  generalize (w_r2.alloc (.cells #[.int .i64 (r1 - r2 / 15), .int .i64 (max (-1) (r1 - r2 / 15 - d)), .int .i64 d, .bool false] 30)) = v1 at *
  generalize (max (-1) (r1 - r2 / 15 - d)) = m at *
  generalize (r1 - r2 / 15) = f at *
  obtain ⟨bx, hbx⟩ : ∃ bx, w_r2.heap.size = bx := ⟨_, rfl⟩
  rw [hbx] at BX hza hz_w_r2 ⊢
  clear hbx
  go_wp2_with fail
  refine (next_any B g a len cap 4 _ hS (by omega)).mono ?_
  rintro e w_r3 ⟨r3, rfl, q_r3, u_r3, hS, hg⟩
  replace BV := BV.grown hg (by omega)
  replace BB := BB.grown hg (by omega)
  replace BZ := BZ.grown hg (by omega)
  replace R1 := R1.grown hg (by omega)
  replace R2 := R2.grown hg (by omega)
  replace BX := BX.grown hg (by omega)
  replace hG := grown_trans hG hg
  have hz_w_r3 := hg.size
  clear hg
  obtain ⟨q, hq⟩ : ∃ q, (r3 == 0) = q := ⟨_, rfl⟩
  obtain ⟨x0, x1, x2, x3, xf, xl⟩ := BV.four
  obtain ⟨y0, y1, yf, yl⟩ := BB.two
  obtain ⟨t0, t1, t2, t3, tf, tl⟩ := BX.four
  have hne1 : ¬ bx = w.heap.size := by omega
  have hne2 : ¬ bx = w.heap.size + 1 := by omega
  have hne3 : ¬ w.heap.size = bx := by omega
  have hne4 : ¬ w.heap.size + 1 = bx := by omega
  go_wp2_with fail
  clear t0 t1 t2 t3 tf tl
  replace BX := BX.set (i := 3) (.bool q)
  replace BV := BV.other (g := bx) (o := 3) (v := .bool q) (by omega)
  replace BB := BB.other (g := bx) (o := 3) (v := .bool q) (by omega)
  replace BZ := BZ.other (g := bx) (o := 3) (v := .bool q) (by omega)
  replace R1 := R1.other (g := bx) (o := 3) (v := .bool q) (by omega)
  replace R2 := R2.other (g := bx) (o := 3) (v := .bool q) (by omega)
  replace hS := hS.set (g' := bx) (o := 3) (v := .bool q) (by omega) (by omega)
  replace hG := grown_new (g' := bx) (o := 3) (v := .bool q) hG (by omega)
  have hzt : (w_r3.setCell ⟨bx, 3, none⟩ (.bool q)).heap.size = w_r3.heap.size := by simp
  generalize (w_r3.setCell ⟨bx, 3, none⟩ (.bool q)) = v2 at *
  clear x0 x1 x2 x3 xf xl y0 y1 yf yl hq
  have hls := specLegalSteps_any d p c h s (some ⟨g1, 0, none⟩) (some ⟨g2, 0, none⟩) n1 n2 c1 c2 xs ys v2 hx hy (by omega) (by omega) R1.irow R2.irow
  have hLl := LS d
  obtain ⟨L, hL⟩ : ∃ L, lsL p c h s xs ys d = L := ⟨_, rfl⟩
  obtain ⟨LR, hLR⟩ : ∃ L, lsR p c h s xs ys d = L := ⟨_, rfl⟩
  rw [hL, hLR] at hls
  rw [hL] at hLl
  clear LS hL hLR
  refine hls.mono ?_
  rintro e w_l ⟨aL, kL, rfl, OL, hbl⟩
  clear hls
  replace BV := BV.below hbl
  replace BB := BB.below hbl
  replace BZ := BZ.below hbl
  replace R1 := R1.below hbl
  replace R2 := R2.below hbl
  replace BX := BX.below hbl
  replace hS := hS.below hbl
  replace hG := grown_trans hG (grown_of_below hbl _)
  have hz_w_l := hbl.size
  clear hbl
  by_cases hL0 : L.length = 0
  · rw [hL0]
    clear OL hLl
    go_wp2_with fail
    refine (next_any B g a len cap 16 _ hS (by omega)).mono ?_
    rintro e w_r6 ⟨r6, rfl, q_r6, u_r6, hS, hg⟩
    replace BV := BV.grown hg (by omega)
    replace BB := BB.grown hg (by omega)
    replace BZ := BZ.grown hg (by omega)
    replace R1 := R1.grown hg (by omega)
    replace R2 := R2.grown hg (by omega)
    replace BX := BX.grown hg (by omega)
    replace hG := grown_trans hG hg
    have hz_w_r6 := hg.size
    clear hg
    obtain ⟨M, wzm⟩ : ∃ M, IntKind.i64.wrap (m - 1) = M := ⟨_, rfl⟩
    rcases (by omega : r6 = 0 ∨ r6 = 1 ∨ 2 ≤ r6) with rfl | rfl | hr6
    · obtain ⟨x0, x1, x2, x3, xf, xl⟩ := BX.four
      obtain ⟨z0, z1, z2, z3, zf, zl⟩ := BZ.four
      have hnz1 : ¬ bx = w.heap.size + 1 + 1 := by omega
      have hnz2 : ¬ w.heap.size + 1 + 1 = bx := by omega
      go_wp2
      replace BX := BX.set (i := 3) (.bool (!q))
      replace BV := BV.other (g := bx) (o := 3) (v := .bool (!q)) (by omega)
      replace BB := BB.other (g := bx) (o := 3) (v := .bool (!q)) (by omega)
      replace BZ := BZ.other (g := bx) (o := 3) (v := .bool (!q)) (by omega)
      replace R1 := R1.other (g := bx) (o := 3) (v := .bool (!q)) (by omega)
      replace R2 := R2.other (g := bx) (o := 3) (v := .bool (!q)) (by omega)
      replace hS := hS.set (g' := bx) (o := 3) (v := .bool (!q)) (by omega) (by omega)
      replace hG := grown_new (g' := bx) (o := 3) (v := .bool (!q)) hG (by omega)
      refine bodyPost_ret (v := stV (f, m, d, (!q))) (by first | (simp [results, Try.results56, go_sem, z0, z1, z2, z3]; done) | (simp [results, Try.results56, go_sem, *]; done)) rfl ?_
      exact ⟨(f, m, d, (!q)), rfl, ((((hS.set (g' := w.heap.size + 1 + 1) (o := 0) (v := .int .i64 f) (by omega) (by omega)).set (g' := w.heap.size + 1 + 1) (o := 1) (v := .int .i64 m) (by omega) (by omega)).set (g' := w.heap.size + 1 + 1) (o := 2) (v := .int .i64 d) (by omega) (by omega)).set (g' := w.heap.size + 1 + 1) (o := 3) (v := .bool (!q)) (by omega) (by omega)), (grown_new (g' := w.heap.size + 1 + 1) (o := 3) (v := .bool (!q)) (grown_new (g' := w.heap.size + 1 + 1) (o := 2) (v := .int .i64 d) (grown_new (g' := w.heap.size + 1 + 1) (o := 1) (v := .int .i64 m) (grown_new (g' := w.heap.size + 1 + 1) (o := 0) (v := .int .i64 f) hG (by omega)) (by omega)) (by omega)) (by omega))⟩
    · obtain ⟨x0, x1, x2, x3, xf, xl⟩ := BX.four
      obtain ⟨z0, z1, z2, z3, zf, zl⟩ := BZ.four
      have hnz1 : ¬ bx = w.heap.size + 1 + 1 := by omega
      have hnz2 : ¬ w.heap.size + 1 + 1 = bx := by omega
      go_wp2
      replace BX := BX.set (i := 1) (.int .i64 M)
      replace BV := BV.other (g := bx) (o := 1) (v := .int .i64 M) (by omega)
      replace BB := BB.other (g := bx) (o := 1) (v := .int .i64 M) (by omega)
      replace BZ := BZ.other (g := bx) (o := 1) (v := .int .i64 M) (by omega)
      replace R1 := R1.other (g := bx) (o := 1) (v := .int .i64 M) (by omega)
      replace R2 := R2.other (g := bx) (o := 1) (v := .int .i64 M) (by omega)
      replace hS := hS.set (g' := bx) (o := 1) (v := .int .i64 M) (by omega) (by omega)
      replace hG := grown_new (g' := bx) (o := 1) (v := .int .i64 M) hG (by omega)
      refine bodyPost_ret (v := stV (f, M, d, q)) (by first | (simp [results, Try.results56, go_sem, z0, z1, z2, z3]; done) | (simp [results, Try.results56, go_sem, *]; done)) rfl ?_
      exact ⟨(f, M, d, q), rfl, ((((hS.set (g' := w.heap.size + 1 + 1) (o := 0) (v := .int .i64 f) (by omega) (by omega)).set (g' := w.heap.size + 1 + 1) (o := 1) (v := .int .i64 M) (by omega) (by omega)).set (g' := w.heap.size + 1 + 1) (o := 2) (v := .int .i64 d) (by omega) (by omega)).set (g' := w.heap.size + 1 + 1) (o := 3) (v := .bool q) (by omega) (by omega)), (grown_new (g' := w.heap.size + 1 + 1) (o := 3) (v := .bool q) (grown_new (g' := w.heap.size + 1 + 1) (o := 2) (v := .int .i64 d) (grown_new (g' := w.heap.size + 1 + 1) (o := 1) (v := .int .i64 M) (grown_new (g' := w.heap.size + 1 + 1) (o := 0) (v := .int .i64 f) hG (by omega)) (by omega)) (by omega)) (by omega))⟩
    · have f0 : (r6 == 0) = false := by rw [beq_eq_false_iff_ne]; omega
      have f1 : (r6 == 1) = false := by rw [beq_eq_false_iff_ne]; omega
      obtain ⟨x0, x1, x2, x3, xf, xl⟩ := BX.four
      obtain ⟨z0, z1, z2, z3, zf, zl⟩ := BZ.four
      have hnz1 : ¬ bx = w.heap.size + 1 + 1 := by omega
      have hnz2 : ¬ w.heap.size + 1 + 1 = bx := by omega
      go_wp2
      refine bodyPost_ret (v := stV (f, m, d, q)) (by first | (simp [results, Try.results56, go_sem, z0, z1, z2, z3]; done) | (simp [results, Try.results56, go_sem, *]; done)) rfl ?_
      exact ⟨(f, m, d, q), rfl, ((((hS.set (g' := w.heap.size + 1 + 1) (o := 0) (v := .int .i64 f) (by omega) (by omega)).set (g' := w.heap.size + 1 + 1) (o := 1) (v := .int .i64 m) (by omega) (by omega)).set (g' := w.heap.size + 1 + 1) (o := 2) (v := .int .i64 d) (by omega) (by omega)).set (g' := w.heap.size + 1 + 1) (o := 3) (v := .bool q) (by omega) (by omega)), (grown_new (g' := w.heap.size + 1 + 1) (o := 3) (v := .bool q) (grown_new (g' := w.heap.size + 1 + 1) (o := 2) (v := .int .i64 d) (grown_new (g' := w.heap.size + 1 + 1) (o := 1) (v := .int .i64 m) (grown_new (g' := w.heap.size + 1 + 1) (o := 0) (v := .int .i64 f) hG (by omega)) (by omega)) (by omega)) (by omega))⟩
  · have hLp : (0 : Int) < (L.length : Int) := by omega
    have hLp2 : 0 < L.length := by omega
    have hLp3 : decide ((0 : Int) < (L.length : Int)) = true := by simp; omega
    have hLp4 : decide (0 < L.length) = true := by simp; omega
    have hLp5 : L ≠ [] := by intro e; rw [e] at hLp2; simp at hLp2
    go_wp2_with fail
    refine (next_any B g a len cap 4 _ hS (by omega)).mono ?_
    rintro e w_r4 ⟨r4, rfl, q_r4, u_r4, hS, hg⟩
    replace BV := BV.grown hg (by omega)
    replace BB := BB.grown hg (by omega)
    replace BZ := BZ.grown hg (by omega)
    replace R1 := R1.grown hg (by omega)
    replace R2 := R2.grown hg (by omega)
    replace BX := BX.grown hg (by omega)
    replace hG := grown_trans hG hg
    have hz_w_r4 := hg.size
    have hg4 := hg
    clear hg
    replace OL := OL.grown hg4 (by omega)
    clear hg4
    by_cases h4 : r4 = 0
    · subst h4
      clear OL hLl
      go_wp2_with fail
      refine (next_any B g a len cap 16 _ hS (by omega)).mono ?_
      rintro e w_r6 ⟨r6, rfl, q_r6, u_r6, hS, hg⟩
      replace BV := BV.grown hg (by omega)
      replace BB := BB.grown hg (by omega)
      replace BZ := BZ.grown hg (by omega)
      replace R1 := R1.grown hg (by omega)
      replace R2 := R2.grown hg (by omega)
      replace BX := BX.grown hg (by omega)
      replace hG := grown_trans hG hg
      have hz_w_r6 := hg.size
      clear hg
      obtain ⟨M, wzm⟩ : ∃ M, IntKind.i64.wrap (m - 1) = M := ⟨_, rfl⟩
      rcases (by omega : r6 = 0 ∨ r6 = 1 ∨ 2 ≤ r6) with rfl | rfl | hr6
      · obtain ⟨x0, x1, x2, x3, xf, xl⟩ := BX.four
        obtain ⟨z0, z1, z2, z3, zf, zl⟩ := BZ.four
        have hnz1 : ¬ bx = w.heap.size + 1 + 1 := by omega
        have hnz2 : ¬ w.heap.size + 1 + 1 = bx := by omega
        go_wp2
        replace BX := BX.set (i := 3) (.bool (!q))
        replace BV := BV.other (g := bx) (o := 3) (v := .bool (!q)) (by omega)
        replace BB := BB.other (g := bx) (o := 3) (v := .bool (!q)) (by omega)
        replace BZ := BZ.other (g := bx) (o := 3) (v := .bool (!q)) (by omega)
        replace R1 := R1.other (g := bx) (o := 3) (v := .bool (!q)) (by omega)
        replace R2 := R2.other (g := bx) (o := 3) (v := .bool (!q)) (by omega)
        replace hS := hS.set (g' := bx) (o := 3) (v := .bool (!q)) (by omega) (by omega)
        replace hG := grown_new (g' := bx) (o := 3) (v := .bool (!q)) hG (by omega)
        refine bodyPost_ret (v := stV (f, m, d, (!q))) (by first | (simp [results, Try.results56, go_sem, z0, z1, z2, z3]; done) | (simp [results, Try.results56, go_sem, *]; done)) rfl ?_
        exact ⟨(f, m, d, (!q)), rfl, ((((hS.set (g' := w.heap.size + 1 + 1) (o := 0) (v := .int .i64 f) (by omega) (by omega)).set (g' := w.heap.size + 1 + 1) (o := 1) (v := .int .i64 m) (by omega) (by omega)).set (g' := w.heap.size + 1 + 1) (o := 2) (v := .int .i64 d) (by omega) (by omega)).set (g' := w.heap.size + 1 + 1) (o := 3) (v := .bool (!q)) (by omega) (by omega)), (grown_new (g' := w.heap.size + 1 + 1) (o := 3) (v := .bool (!q)) (grown_new (g' := w.heap.size + 1 + 1) (o := 2) (v := .int .i64 d) (grown_new (g' := w.heap.size + 1 + 1) (o := 1) (v := .int .i64 m) (grown_new (g' := w.heap.size + 1 + 1) (o := 0) (v := .int .i64 f) hG (by omega)) (by omega)) (by omega)) (by omega))⟩
      · obtain ⟨x0, x1, x2, x3, xf, xl⟩ := BX.four
        obtain ⟨z0, z1, z2, z3, zf, zl⟩ := BZ.four
        have hnz1 : ¬ bx = w.heap.size + 1 + 1 := by omega
        have hnz2 : ¬ w.heap.size + 1 + 1 = bx := by omega
        go_wp2
        replace BX := BX.set (i := 1) (.int .i64 M)
        replace BV := BV.other (g := bx) (o := 1) (v := .int .i64 M) (by omega)
        replace BB := BB.other (g := bx) (o := 1) (v := .int .i64 M) (by omega)
        replace BZ := BZ.other (g := bx) (o := 1) (v := .int .i64 M) (by omega)
        replace R1 := R1.other (g := bx) (o := 1) (v := .int .i64 M) (by omega)
        replace R2 := R2.other (g := bx) (o := 1) (v := .int .i64 M) (by omega)
        replace hS := hS.set (g' := bx) (o := 1) (v := .int .i64 M) (by omega) (by omega)
        replace hG := grown_new (g' := bx) (o := 1) (v := .int .i64 M) hG (by omega)
        refine bodyPost_ret (v := stV (f, M, d, q)) (by first | (simp [results, Try.results56, go_sem, z0, z1, z2, z3]; done) | (simp [results, Try.results56, go_sem, *]; done)) rfl ?_
        exact ⟨(f, M, d, q), rfl, ((((hS.set (g' := w.heap.size + 1 + 1) (o := 0) (v := .int .i64 f) (by omega) (by omega)).set (g' := w.heap.size + 1 + 1) (o := 1) (v := .int .i64 M) (by omega) (by omega)).set (g' := w.heap.size + 1 + 1) (o := 2) (v := .int .i64 d) (by omega) (by omega)).set (g' := w.heap.size + 1 + 1) (o := 3) (v := .bool q) (by omega) (by omega)), (grown_new (g' := w.heap.size + 1 + 1) (o := 3) (v := .bool q) (grown_new (g' := w.heap.size + 1 + 1) (o := 2) (v := .int .i64 d) (grown_new (g' := w.heap.size + 1 + 1) (o := 1) (v := .int .i64 M) (grown_new (g' := w.heap.size + 1 + 1) (o := 0) (v := .int .i64 f) hG (by omega)) (by omega)) (by omega)) (by omega))⟩
      · have f0 : (r6 == 0) = false := by rw [beq_eq_false_iff_ne]; omega
        have f1 : (r6 == 1) = false := by rw [beq_eq_false_iff_ne]; omega
        obtain ⟨x0, x1, x2, x3, xf, xl⟩ := BX.four
        obtain ⟨z0, z1, z2, z3, zf, zl⟩ := BZ.four
        have hnz1 : ¬ bx = w.heap.size + 1 + 1 := by omega
        have hnz2 : ¬ w.heap.size + 1 + 1 = bx := by omega
        go_wp2
        refine bodyPost_ret (v := stV (f, m, d, q)) (by first | (simp [results, Try.results56, go_sem, z0, z1, z2, z3]; done) | (simp [results, Try.results56, go_sem, *]; done)) rfl ?_
        exact ⟨(f, m, d, q), rfl, ((((hS.set (g' := w.heap.size + 1 + 1) (o := 0) (v := .int .i64 f) (by omega) (by omega)).set (g' := w.heap.size + 1 + 1) (o := 1) (v := .int .i64 m) (by omega) (by omega)).set (g' := w.heap.size + 1 + 1) (o := 2) (v := .int .i64 d) (by omega) (by omega)).set (g' := w.heap.size + 1 + 1) (o := 3) (v := .bool q) (by omega) (by omega)), (grown_new (g' := w.heap.size + 1 + 1) (o := 3) (v := .bool q) (grown_new (g' := w.heap.size + 1 + 1) (o := 2) (v := .int .i64 d) (grown_new (g' := w.heap.size + 1 + 1) (o := 1) (v := .int .i64 m) (grown_new (g' := w.heap.size + 1 + 1) (o := 0) (v := .int .i64 f) hG (by omega)) (by omega)) (by omega)) (by omega))⟩
    · have h4p : 0 < r4 := by omega
      go_wp2_with fail
      refine (next_any B g a len cap (L.length : Int) _ hS (by omega)).mono ?_
      rintro e w_r5 ⟨r5, rfl, q_r5, u_r5, hS, hg⟩
      replace BV := BV.grown hg (by omega)
      replace BB := BB.grown hg (by omega)
      replace BZ := BZ.grown hg (by omega)
      replace R1 := R1.grown hg (by omega)
      replace R2 := R2.grown hg (by omega)
      replace BX := BX.grown hg (by omega)
      replace hG := grown_trans hG hg
      have hz_w_r5 := hg.size
      have hg5 := hg
      clear hg
      replace OL := OL.grown hg5 (by omega)
      clear hg5
      obtain ⟨k, rfl⟩ := Int.eq_ofNat_of_zero_le q_r5
      have hkL : k < L.length := by omega
      have hkI : (k : Int) < (L.length : Int) := by omega
      have hk0 : (0 : Int) ≤ (k : Int) := by omega
      obtain ⟨g3, rfl, R3⟩ := OL.row hkL
      obtain ⟨t, ht⟩ : ∃ t, L[k]? = some t := ⟨_, List.getElem?_eq_getElem hkL⟩
      obtain ⟨u0, u1, u2, u3⟩ := R3.four k t ht
      obtain ⟨t1, t2, t3, t4⟩ := t
      dsimp only at u0 u1 u2 u3
      obtain ⟨x0, x1, x2, x3, xf, xl⟩ := BX.four
      clear R3 ht OL
      go_wp2_with fail
      clear x0 x1 x2 x3 xf xl u0 u1 u2 u3
      replace BX := BX.set (i := 0) (.int .i64 t1)
      replace BV := BV.other (g := bx) (o := 0) (v := .int .i64 t1) (by omega)
      replace BB := BB.other (g := bx) (o := 0) (v := .int .i64 t1) (by omega)
      replace BZ := BZ.other (g := bx) (o := 0) (v := .int .i64 t1) (by omega)
      replace R1 := R1.other (g := bx) (o := 0) (v := .int .i64 t1) (by omega)
      replace R2 := R2.other (g := bx) (o := 0) (v := .int .i64 t1) (by omega)
      replace hS := hS.set (g' := bx) (o := 0) (v := .int .i64 t1) (by omega) (by omega)
      replace hG := grown_new (g' := bx) (o := 0) (v := .int .i64 t1) hG (by omega)
      replace BX := BX.set (i := 1) (.int .i64 t2)
      replace BV := BV.other (g := bx) (o := 1) (v := .int .i64 t2) (by omega)
      replace BB := BB.other (g := bx) (o := 1) (v := .int .i64 t2) (by omega)
      replace BZ := BZ.other (g := bx) (o := 1) (v := .int .i64 t2) (by omega)
      replace R1 := R1.other (g := bx) (o := 1) (v := .int .i64 t2) (by omega)
      replace R2 := R2.other (g := bx) (o := 1) (v := .int .i64 t2) (by omega)
      replace hS := hS.set (g' := bx) (o := 1) (v := .int .i64 t2) (by omega) (by omega)
      replace hG := grown_new (g' := bx) (o := 1) (v := .int .i64 t2) hG (by omega)
      replace BX := BX.set (i := 2) (.int .i64 t3)
      replace BV := BV.other (g := bx) (o := 2) (v := .int .i64 t3) (by omega)
      replace BB := BB.other (g := bx) (o := 2) (v := .int .i64 t3) (by omega)
      replace BZ := BZ.other (g := bx) (o := 2) (v := .int .i64 t3) (by omega)
      replace R1 := R1.other (g := bx) (o := 2) (v := .int .i64 t3) (by omega)
      replace R2 := R2.other (g := bx) (o := 2) (v := .int .i64 t3) (by omega)
      replace hS := hS.set (g' := bx) (o := 2) (v := .int .i64 t3) (by omega) (by omega)
      replace hG := grown_new (g' := bx) (o := 2) (v := .int .i64 t3) hG (by omega)
      replace BX := BX.set (i := 3) (.bool t4)
      replace BV := BV.other (g := bx) (o := 3) (v := .bool t4) (by omega)
      replace BB := BB.other (g := bx) (o := 3) (v := .bool t4) (by omega)
      replace BZ := BZ.other (g := bx) (o := 3) (v := .bool t4) (by omega)
      replace R1 := R1.other (g := bx) (o := 3) (v := .bool t4) (by omega)
      replace R2 := R2.other (g := bx) (o := 3) (v := .bool t4) (by omega)
      replace hS := hS.set (g' := bx) (o := 3) (v := .bool t4) (by omega) (by omega)
      replace hG := grown_new (g' := bx) (o := 3) (v := .bool t4) hG (by omega)
      have hzt2 : ((((w_r5.setCell ⟨bx, 0, none⟩ (.int .i64 t1)).setCell ⟨bx, 1, none⟩ (.int .i64 t2)).setCell ⟨bx, 2, none⟩ (.int .i64 t3)).setCell ⟨bx, 3, none⟩ (.bool t4)).heap.size = w_r5.heap.size := by simp
      generalize ((((w_r5.setCell ⟨bx, 0, none⟩ (.int .i64 t1)).setCell ⟨bx, 1, none⟩ (.int .i64 t2)).setCell ⟨bx, 2, none⟩ (.int .i64 t3)).setCell ⟨bx, 3, none⟩ (.bool t4)) = v3 at *
      go_wp2_with fail
      refine (next_any B g a len cap 16 _ hS (by omega)).mono ?_
      rintro e w_r6 ⟨r6, rfl, q_r6, u_r6, hS, hg⟩
      replace BV := BV.grown hg (by omega)
      replace BB := BB.grown hg (by omega)
      replace BZ := BZ.grown hg (by omega)
      replace R1 := R1.grown hg (by omega)
      replace R2 := R2.grown hg (by omega)
      replace BX := BX.grown hg (by omega)
      replace hG := grown_trans hG hg
      have hz_w_r6 := hg.size
      clear hg
      obtain ⟨M, wzm⟩ : ∃ M, IntKind.i64.wrap (t2 - 1) = M := ⟨_, rfl⟩
      rcases (by omega : r6 = 0 ∨ r6 = 1 ∨ 2 ≤ r6) with rfl | rfl | hr6
      · obtain ⟨x0, x1, x2, x3, xf, xl⟩ := BX.four
        obtain ⟨z0, z1, z2, z3, zf, zl⟩ := BZ.four
        have hnz1 : ¬ bx = w.heap.size + 1 + 1 := by omega
        have hnz2 : ¬ w.heap.size + 1 + 1 = bx := by omega
        go_wp2
        replace BX := BX.set (i := 3) (.bool (!t4))
        replace BV := BV.other (g := bx) (o := 3) (v := .bool (!t4)) (by omega)
        replace BB := BB.other (g := bx) (o := 3) (v := .bool (!t4)) (by omega)
        replace BZ := BZ.other (g := bx) (o := 3) (v := .bool (!t4)) (by omega)
        replace R1 := R1.other (g := bx) (o := 3) (v := .bool (!t4)) (by omega)
        replace R2 := R2.other (g := bx) (o := 3) (v := .bool (!t4)) (by omega)
        replace hS := hS.set (g' := bx) (o := 3) (v := .bool (!t4)) (by omega) (by omega)
        replace hG := grown_new (g' := bx) (o := 3) (v := .bool (!t4)) hG (by omega)
        refine bodyPost_ret (v := stV (t1, t2, t3, (!t4))) (by first | (simp [results, Try.results56, go_sem, z0, z1, z2, z3]; done) | (simp [results, Try.results56, go_sem, *]; done)) rfl ?_
        exact ⟨(t1, t2, t3, (!t4)), rfl, ((((hS.set (g' := w.heap.size + 1 + 1) (o := 0) (v := .int .i64 t1) (by omega) (by omega)).set (g' := w.heap.size + 1 + 1) (o := 1) (v := .int .i64 t2) (by omega) (by omega)).set (g' := w.heap.size + 1 + 1) (o := 2) (v := .int .i64 t3) (by omega) (by omega)).set (g' := w.heap.size + 1 + 1) (o := 3) (v := .bool (!t4)) (by omega) (by omega)), (grown_new (g' := w.heap.size + 1 + 1) (o := 3) (v := .bool (!t4)) (grown_new (g' := w.heap.size + 1 + 1) (o := 2) (v := .int .i64 t3) (grown_new (g' := w.heap.size + 1 + 1) (o := 1) (v := .int .i64 t2) (grown_new (g' := w.heap.size + 1 + 1) (o := 0) (v := .int .i64 t1) hG (by omega)) (by omega)) (by omega)) (by omega))⟩
      · obtain ⟨x0, x1, x2, x3, xf, xl⟩ := BX.four
        obtain ⟨z0, z1, z2, z3, zf, zl⟩ := BZ.four
        have hnz1 : ¬ bx = w.heap.size + 1 + 1 := by omega
        have hnz2 : ¬ w.heap.size + 1 + 1 = bx := by omega
        go_wp2
        replace BX := BX.set (i := 1) (.int .i64 M)
        replace BV := BV.other (g := bx) (o := 1) (v := .int .i64 M) (by omega)
        replace BB := BB.other (g := bx) (o := 1) (v := .int .i64 M) (by omega)
        replace BZ := BZ.other (g := bx) (o := 1) (v := .int .i64 M) (by omega)
        replace R1 := R1.other (g := bx) (o := 1) (v := .int .i64 M) (by omega)
        replace R2 := R2.other (g := bx) (o := 1) (v := .int .i64 M) (by omega)
        replace hS := hS.set (g' := bx) (o := 1) (v := .int .i64 M) (by omega) (by omega)
        replace hG := grown_new (g' := bx) (o := 1) (v := .int .i64 M) hG (by omega)
        refine bodyPost_ret (v := stV (t1, M, t3, t4)) (by first | (simp [results, Try.results56, go_sem, z0, z1, z2, z3]; done) | (simp [results, Try.results56, go_sem, *]; done)) rfl ?_
        exact ⟨(t1, M, t3, t4), rfl, ((((hS.set (g' := w.heap.size + 1 + 1) (o := 0) (v := .int .i64 t1) (by omega) (by omega)).set (g' := w.heap.size + 1 + 1) (o := 1) (v := .int .i64 M) (by omega) (by omega)).set (g' := w.heap.size + 1 + 1) (o := 2) (v := .int .i64 t3) (by omega) (by omega)).set (g' := w.heap.size + 1 + 1) (o := 3) (v := .bool t4) (by omega) (by omega)), (grown_new (g' := w.heap.size + 1 + 1) (o := 3) (v := .bool t4) (grown_new (g' := w.heap.size + 1 + 1) (o := 2) (v := .int .i64 t3) (grown_new (g' := w.heap.size + 1 + 1) (o := 1) (v := .int .i64 M) (grown_new (g' := w.heap.size + 1 + 1) (o := 0) (v := .int .i64 t1) hG (by omega)) (by omega)) (by omega)) (by omega))⟩
      · have f0 : (r6 == 0) = false := by rw [beq_eq_false_iff_ne]; omega
        have f1 : (r6 == 1) = false := by rw [beq_eq_false_iff_ne]; omega
        obtain ⟨x0, x1, x2, x3, xf, xl⟩ := BX.four
        obtain ⟨z0, z1, z2, z3, zf, zl⟩ := BZ.four
        have hnz1 : ¬ bx = w.heap.size + 1 + 1 := by omega
        have hnz2 : ¬ w.heap.size + 1 + 1 = bx := by omega
        go_wp2
        refine bodyPost_ret (v := stV (t1, t2, t3, t4)) (by first | (simp [results, Try.results56, go_sem, z0, z1, z2, z3]; done) | (simp [results, Try.results56, go_sem, *]; done)) rfl ?_
        exact ⟨(t1, t2, t3, t4), rfl, ((((hS.set (g' := w.heap.size + 1 + 1) (o := 0) (v := .int .i64 t1) (by omega) (by omega)).set (g' := w.heap.size + 1 + 1) (o := 1) (v := .int .i64 t2) (by omega) (by omega)).set (g' := w.heap.size + 1 + 1) (o := 2) (v := .int .i64 t3) (by omega) (by omega)).set (g' := w.heap.size + 1 + 1) (o := 3) (v := .bool t4) (by omega) (by omega)), (grown_new (g' := w.heap.size + 1 + 1) (o := 3) (v := .bool t4) (grown_new (g' := w.heap.size + 1 + 1) (o := 2) (v := .int .i64 t3) (grown_new (g' := w.heap.size + 1 + 1) (o := 1) (v := .int .i64 t2) (grown_new (g' := w.heap.size + 1 + 1) (o := 0) (v := .int .i64 t1) hG (by omega)) (by omega)) (by omega)) (by omega))⟩
end Go.Proofs.Ytjglempkmenacaa
