/- Contracts of the lists of legal steps, of the program and of its model. -/
import Derived.Test.Ytjglempkmenacaa04k
namespace Go.Proofs.Ytjglempkmenacaa
open Go.ChangeShapes Go.WideShapes Go.ChangeAt Go.RowKit
set_option linter.unusedVariables false
set_option linter.unusedSimpArgs false
set_option maxRecDepth 4000

def lsL (p c h s : Int) (xs ys : List Int) (d : Int) : List Stp := if isB p c h s xs ys = true then (if inB d 1 s = true then legL p.toNat h xs ys d else []) else []
def lsR (p c h s : Int) (xs ys : List Int) (d : Int) : Int := if isB p c h s xs ys = true then (if inB d 1 s = true then 0 else 2) else 1
theorem lsL_length (p c h s : Int) (xs ys : List Int) (d : Int) : (lsL p c h s xs ys d).length ≤ 1048576 := by
  unfold lsL
  split
  · rename_i g
    split
    · obtain ⟨p0, p1, k0, k1, k2, k3, N1, N2, hx, hy, s0, s1, s2, s3⟩ := isB_parts g
      have := legL_length p.toNat h xs ys d
      omega
    · simp
  · simp
set_option maxRecDepth 8000 in
set_option maxHeartbeats 2000000 in
theorem implLegalSteps_any (d : Int) (p c h s : Int) (a1 a2 : Option Addr) (n1 n2 c1 c2 : Nat) (xs ys : List Int) (w : World) (h1 : xs.length = n1) (h2 : ys.length = n2) (l1 : n1 ≤ 1048576) (l2 : n2 ≤ 1048576) (r1 : IRow w a1 xs) (r2 : IRow w a2 ys) :
    Calls Try.prog 24 #[.agg #[.int .i64 p, .int .i64 c, .int .i64 h, .int .i64 s], .agg #[.slice a1 n1 c1, .slice a2 n2 c2], .int .i64 d] w (StepsGot2 (lsL p c h s xs ys d) (lsR p c h s xs ys d) w) := by
  obtain ⟨BV, BB, hb, hz⟩ := two_new w #[.int .i64 p, .int .i64 c, .int .i64 h, .int .i64 s] #[.slice a1 n1 c1, .slice a2 n2 c2] 25 28
  have hz1 : w.heap.size + 1 < ((w.alloc (.cells #[.int .i64 p, .int .i64 c, .int .i64 h, .int .i64 s] 25)).alloc (.cells #[.slice a1 n1 c1, .slice a2 n2 c2] 28)).heap.size := by rw [hz]; omega
  clear hz
  obtain ⟨x0, x1, x2, x3, xf, xl⟩ := BV.four
  obtain ⟨y0, y1, yf, yl⟩ := BB.two
  unfold lsL lsR
  by_cases g : isB p c h s xs ys = true
  · rw [if_pos g, if_pos g]
    obtain ⟨p0, p1, k0, k1, k2, k3, N1, N2, hx, hy, s0, s1, s2, s3⟩ := isB_parts g
    obtain ⟨P, rfl⟩ := Int.eq_ofNat_of_zero_le (by omega : 0 ≤ p)
    rw [show (P : Int).toNat = P by simp]
    have hB := fun W (q1 : IRow W a1 xs) (q2 : IRow W a2 ys) => isBoard_any (P : Int) c h s a1 a2 n1 n2 c1 c2 xs ys W h1 h2 l1 l2 q1 q2
    simp only [g] at hB
    have HB := Lib.hid hB
    clear hB
    have hd0 := fun W => hasDie_any (P : Int) c h s d W
    have hs6 := isB_sides g
    cases gi : inB d 1 s with
    | true =>
      have gi' : 1 ≤ d ∧ d ≤ s := by simpa [inB] using gi
      rw [gi] at hd0
      rw [if_pos rfl, if_pos rfl]
      have HD := Lib.hid hd0
      have hL0 := fun W f1 f2 B (q1 : Pays f1 B xs W) (q2 : Pays f2 B ys W) => legalSteps_any P c h s f1 f2 B xs ys W (by omega) (by omega) (by omega) (by omega) hx hy q1 q2 d (by omega) (by omega)
      obtain ⟨L, hL⟩ : ∃ L, legL P h xs ys d = L := ⟨_, rfl⟩
      rw [hL] at hL0 ⊢
      have HL := Lib.hid hL0
      clear hd0 gi hL hL0
      go_enter Try.func24, Try.ntmps24
      go_wp2_with (first | (go_at_call 57; refine (HB.out _ (r1.below hb) (r2.below hb)).mono ?_; rintro e w1 ⟨rfl, hb1⟩; obtain ⟨x0, x1, x2, x3, xf, xl⟩ := (BV.below hb1).four; obtain ⟨y0, y1, yf, yl⟩ := (BB.below hb1).two) | (go_at_call 69; refine (HD.out _).mono ?_; rintro e w2 ⟨rfl, hb2⟩))
      replace hb := chain (chain hb hb1) hb2
      replace BV := (BV.below hb1).below hb2
      replace BB := (BB.below hb1).below hb2
      replace r1 := r1.below hb
      replace r2 := r2.below hb
      clear x0 x1 x2 x3 xf xl y0 y1 yf yl hz1 HD HB
      replace BV := BV.drew
      replace BB := BB.drew
      replace r1 := r1.drew
      replace r2 := r2.drew
      replace hb := hb.drew
      refine wp_region_held_drew (S := fun w' => w'.cell? ⟨w.heap.size, 0, none⟩ = some (.int .i64 (P : Int)) ∧ w'.cell? ⟨w.heap.size, 1, none⟩ = some (.int .i64 c) ∧ w'.cell? ⟨w.heap.size, 2, none⟩ = some (.int .i64 h) ∧ w'.cell? ⟨w.heap.size, 3, none⟩ = some (.int .i64 s) ∧ w'.cell? ⟨(w.heap.size + 1), 0, none⟩ = some (.slice a1 n1 c1) ∧ w'.cell? ⟨(w.heap.size + 1), 1, none⟩ = some (.slice a2 n2 c2) ∧ Blk w' w.heap.size #[.int .i64 (P : Int), .int .i64 c, .int .i64 h, .int .i64 s] 25 ∧ Blk w' ((w.heap.size + 1)) #[.slice a1 n1 c1, .slice a2 n2 c2] 28 ∧ (IRow w' a1 xs) ∧ (IRow w' a2 ys) ∧ Below w.heap.size w w') (by kernel_rfl) ⟨BV.four.1, BV.four.2.1, BV.four.2.2.1, BV.four.2.2.2.1, BB.two.1, BB.two.2.1, BV, BB, r1, r2, hb⟩ (fun hHeld => ?_)
      refine wpAnyH_take (i := 0) (oi := { dst := some 16, op := _, type := _, pos := _, after := _, guard := _ }) (v := ?_) rfl (by kernel_rfl) (by kernel_rfl) (by kernel_rfl) (fun _ _ _ h => h) (Or.inl ⟨by rfl, ?_⟩) (by assumption) ?_
      rotate_left
      · intro w hSw
        (try dsimp only at hSw)
        go_simp
        (try (with_reducible rfl))
      try simp only [Act.put, List.setIfInBounds_toArray, List.set_cons_zero, List.set_cons_succ]
      refine wpAnyH_take (i := 1) (oi := { dst := some 17, op := _, type := _, pos := _, after := _, guard := _ }) (v := ?_) rfl (by kernel_rfl) (by kernel_rfl) (by kernel_rfl) (fun _ _ _ h => h) (Or.inl ⟨by rfl, ?_⟩) (by assumption) ?_
      rotate_left
      · intro w hSw
        (try dsimp only at hSw)
        go_simp
        (try (with_reducible rfl))
      try simp only [Act.put, List.setIfInBounds_toArray, List.set_cons_zero, List.set_cons_succ]
      refine wpAnyH_take (i := 2) (oi := { dst := some 18, op := _, type := _, pos := _, after := _, guard := _ }) (v := ?_) rfl (by kernel_rfl) (by kernel_rfl) (by kernel_rfl) (fun _ _ _ h => h) (Or.inl ⟨by rfl, ?_⟩) (by assumption) ?_
      rotate_left
      · intro w hSw
        (try dsimp only at hSw)
        go_simp
        (try (with_reducible rfl))
      try simp only [Act.put, List.setIfInBounds_toArray, List.set_cons_zero, List.set_cons_succ]
      refine wpAnyH_take (i := 4) (oi := { dst := some 20, op := _, type := _, pos := _, after := _, guard := _ }) (v := ?_) rfl (by kernel_rfl) (by kernel_rfl) (by kernel_rfl) (fun _ _ _ h => h) (Or.inl ⟨by rfl, ?_⟩) (by assumption) ?_
      rotate_left
      · intro w hSw
        (try dsimp only at hSw)
        go_simp
        (try (with_reducible rfl))
      try simp only [Act.put, List.setIfInBounds_toArray, List.set_cons_zero, List.set_cons_succ]
      refine wpAnyH_ready (rs := [3]) (by kernel_rfl) (by simp) ?_
      refine AllReadyH.cons (o := { dst := some 19, op := _, type := _, pos := _, after := _, guard := _ }) rfl (fun K hK => ?_) AllReadyH.nil
      go_simp
      -- call
      have BV := hHeld.2.2.2.2.2.2.1
      have BB := hHeld.2.2.2.2.2.2.2.1
      have r1 := hHeld.2.2.2.2.2.2.2.2.1
      have r2 := hHeld.2.2.2.2.2.2.2.2.2.1
      have hb := hHeld.2.2.2.2.2.2.2.2.2.2
      clear hHeld
      refine (countsOf_any (P : Int) c h s a1 a2 n1 c1 n2 c2 xs ys _ h1 h2 r1 r2).mono ?_
      rintro e wq1 ⟨B, rfl, q1, q2, hq1⟩
      replace BV := BV.below hq1
      replace BB := BB.below hq1
      replace r1 := r1.below hq1
      replace r2 := r2.below hq1
      replace hb := chain hb hq1
      have hsz1 := hb.size
      (try go_wp2_with fail)
      refine hK.out _ _ ⟨BV.four.1, BV.four.2.1, BV.four.2.2.1, BV.four.2.2.2.1, BB.two.1, BB.two.2.1, BV, BB, r1, r2, hb⟩ (fun hHeld => ?_)
      clear hK K
      try simp only [Act.put, List.setIfInBounds_toArray, List.set_cons_zero, List.set_cons_succ]
      refine wpAnyH_ready (rs := [5]) (by kernel_rfl) (by simp) ?_
      refine AllReadyH.cons (o := { dst := some 21, op := _, type := _, pos := _, after := _, guard := _ }) rfl (fun K hK => ?_) AllReadyH.nil
      go_simp
      -- call
      have BV := hHeld.2.2.2.2.2.2.1
      have BB := hHeld.2.2.2.2.2.2.2.1
      have r1 := hHeld.2.2.2.2.2.2.2.2.1
      have r2 := hHeld.2.2.2.2.2.2.2.2.2.1
      have hb := hHeld.2.2.2.2.2.2.2.2.2.2
      clear hHeld
      refine (HL.out _ _ _ _ q1 q2).mono ?_
      rintro e wq2 ⟨aL, kL, rfl, OL, hq2⟩
      replace BV := BV.below hq2
      replace BB := BB.below hq2
      replace r1 := r1.below hq2
      replace r2 := r2.below hq2
      replace hb := chain hb hq2
      (try go_wp2_with fail)
      refine hK.out _ _ ⟨BV.four.1, BV.four.2.1, BV.four.2.2.1, BV.four.2.2.2.1, BB.two.1, BB.two.2.1, BV, BB, r1, r2, hb⟩ (fun hHeld => ?_)
      clear hK K
      try simp only [Act.put, List.setIfInBounds_toArray, List.set_cons_zero, List.set_cons_succ]
      refine wpAnyH_take (i := 6) (oi := { dst := some 6, op := _, type := _, pos := _, after := _, guard := _ }) (v := ?_) rfl (by kernel_rfl) (by kernel_rfl) (by kernel_rfl) (fun _ _ _ h => h) (Or.inl ⟨by rfl, ?_⟩) (by assumption) ?_
      rotate_left
      · intro w hSw
        (try dsimp only at hSw)
        go_simp
        (try (with_reducible rfl))
      try simp only [Act.put, List.setIfInBounds_toArray, List.set_cons_zero, List.set_cons_succ]
      refine wpAnyH_take (i := 7) (oi := { dst := some 7, op := _, type := _, pos := _, after := _, guard := _ }) (v := ?_) rfl (by kernel_rfl) (by kernel_rfl) (by kernel_rfl) (fun _ _ _ h => h) (Or.inl ⟨by rfl, ?_⟩) (by assumption) ?_
      rotate_left
      · intro w hSw
        (try dsimp only at hSw)
        go_simp
        (try (with_reducible rfl))
      try simp only [Act.put, List.setIfInBounds_toArray, List.set_cons_zero, List.set_cons_succ]
      refine wpAnyH_done (by kernel_rfl) ?_ _
      have BV := hHeld.2.2.2.2.2.2.1
      have BB := hHeld.2.2.2.2.2.2.2.1
      have r1 := hHeld.2.2.2.2.2.2.2.2.1
      have r2 := hHeld.2.2.2.2.2.2.2.2.2.1
      have hb := hHeld.2.2.2.2.2.2.2.2.2.2
      clear hHeld
      go_wp2
      refine bodyPost_ret (v := .tuple #[.slice aL L.length kL, .int .i64 0]) (by simp [results, Try.results24, go_sem]) rfl ?_
      exact ⟨aL, kL, rfl, OL.mono hsz1 (Nat.le_refl _), hb⟩
    | false =>
      rw [gi] at hd0
      rw [if_neg (by simp), if_neg (by simp)]
      have HD := Lib.hid hd0
      clear hd0 gi
      go_enter Try.func24, Try.ntmps24
      go_wp2_with (first | (go_at_call 57; refine (HB.out _ (r1.below hb) (r2.below hb)).mono ?_; rintro e w1 ⟨rfl, hb1⟩; obtain ⟨x0, x1, x2, x3, xf, xl⟩ := (BV.below hb1).four; obtain ⟨y0, y1, yf, yl⟩ := (BB.below hb1).two) | (go_at_call 69; refine (HD.out _).mono ?_; rintro e w2 ⟨rfl, hb2⟩))
      refine bodyPost_ret (v := .tuple #[.slice none 0 0, .int .i64 2]) (by simp [results, Try.results24, go_sem]) rfl ?_
      exact ⟨none, 0, rfl, .inl ⟨rfl, rfl⟩, chain (chain hb hb1) hb2⟩
  · rw [if_neg g, if_neg g]
    replace g : isB p c h s xs ys = false := by simpa using g
    have hB := fun W (q1 : IRow W a1 xs) (q2 : IRow W a2 ys) => isBoard_any p c h s a1 a2 n1 n2 c1 c2 xs ys W h1 h2 l1 l2 q1 q2
    simp only [g] at hB
    have HB := Lib.hid hB
    clear hB
    go_enter Try.func24, Try.ntmps24
    go_wp2_with (go_at_call 57; refine (HB.out _ (r1.below hb) (r2.below hb)).mono ?_; rintro e w1 ⟨rfl, hb1⟩; obtain ⟨x0, x1, x2, x3, xf, xl⟩ := (BV.below hb1).four; obtain ⟨y0, y1, yf, yl⟩ := (BB.below hb1).two)
    refine bodyPost_ret (v := .tuple #[.slice none 0 0, .int .i64 1]) (by simp [results, Try.results24, go_sem]) rfl ?_
    exact ⟨none, 0, rfl, .inl ⟨rfl, rfl⟩, chain hb hb1⟩
theorem OSt.new (w : World) (B : Nat) (hB : B ≤ w.heap.size) : OSt B (w.alloc (.cells #[] 30)).heap.size (w.alloc (.cells #[] 30)) (some ⟨w.heap.size, 0, none⟩) [] :=
  .inr ⟨w.heap.size, rfl, hB, by simp, #[], Blk.new w #[] _, by simp [stepsC], rfl⟩
set_option maxRecDepth 8000 in
set_option maxHeartbeats 2000000 in
theorem specLegalSteps_any (d : Int) (p c h s : Int) (a1 a2 : Option Addr) (n1 n2 c1 c2 : Nat) (xs ys : List Int) (w : World) (h1 : xs.length = n1) (h2 : ys.length = n2) (l1 : n1 ≤ 1048576) (l2 : n2 ≤ 1048576) (r1 : IRow w a1 xs) (r2 : IRow w a2 ys) :
    Calls Try.prog 25 #[.agg #[.int .i64 p, .int .i64 c, .int .i64 h, .int .i64 s], .agg #[.slice a1 n1 c1, .slice a2 n2 c2], .int .i64 d] w (StepsGot2 (lsL p c h s xs ys d) (lsR p c h s xs ys d) w) := by
  obtain ⟨BV, BB, hb, hz⟩ := two_new w #[.int .i64 p, .int .i64 c, .int .i64 h, .int .i64 s] #[.slice a1 n1 c1, .slice a2 n2 c2] 25 28
  have hz1 : w.heap.size + 1 < ((w.alloc (.cells #[.int .i64 p, .int .i64 c, .int .i64 h, .int .i64 s] 25)).alloc (.cells #[.slice a1 n1 c1, .slice a2 n2 c2] 28)).heap.size := by rw [hz]; omega
  clear hz
  obtain ⟨x0, x1, x2, x3, xf, xl⟩ := BV.four
  obtain ⟨y0, y1, yf, yl⟩ := BB.two
  unfold lsL lsR
  by_cases g : isB p c h s xs ys = true
  · rw [if_pos g, if_pos g]
    obtain ⟨p0, p1, k0, k1, k2, k3, N1, N2, hx, hy, s0, s1, s2, s3⟩ := isB_parts g
    obtain ⟨P, rfl⟩ := Int.eq_ofNat_of_zero_le (by omega : 0 ≤ p)
    rw [show (P : Int).toNat = P by simp]
    have hB := fun W (q1 : IRow W a1 xs) (q2 : IRow W a2 ys) => specIsBoard_any (P : Int) c h s a1 a2 n1 n2 c1 c2 xs ys W h1 h2 l1 l2 q1 q2
    simp only [g] at hB
    have HB := Lib.hid hB
    clear hB
    have hd0 := fun W => l01In_any d 1 s W
    have hs6 := isB_sides g
    cases gi : inB d 1 s with
    | true =>
      have gi' : 1 ≤ d ∧ d ≤ s := by simpa [inB] using gi
      rw [gi] at hd0
      rw [if_pos rfl, if_pos rfl]
      have HD := Lib.hid hd0
      have hL0 := fun W (hW : Below w.heap.size w W) => l04Legal_any P c h s a1 a2 n1 n2 c1 c2 xs ys W h1 h2 (by omega) (by omega) (by omega) (by omega) (by omega) (by omega) hx hy (r1.below hW) (r2.below hW) d (by omega) (by omega)
      obtain ⟨L, hL⟩ : ∃ L, legL P h xs ys d = L := ⟨_, rfl⟩
      rw [hL] at hL0 ⊢
      have HL := Lib.hid hL0
      clear hd0 gi hL hL0
      go_enter Try.func25, Try.ntmps25
      go_wp2_with (first | (go_at_call 21; refine (HB.out _ (r1.below hb) (r2.below hb)).mono ?_; rintro e w1 ⟨rfl, hb1⟩; obtain ⟨x0, x1, x2, x3, xf, xl⟩ := (BV.below hb1).four; obtain ⟨y0, y1, yf, yl⟩ := (BB.below hb1).two) | (go_at_call 71; refine (HD.out _).mono ?_; rintro e w2 ⟨rfl, rfl⟩) | (go_at_call 72; refine (HL.out _ (chain hb hb1)).mono ?_; rintro e w3 ⟨aL, kL, rfl, OL, hb3⟩))
      refine bodyPost_ret (v := .tuple #[.slice aL L.length kL, .int .i64 0]) (by simp [results, Try.results25, go_sem]) rfl ?_
      exact ⟨aL, kL, rfl, OL.mono (chain hb hb1).size (Nat.le_refl _), chain (chain hb hb1) hb3⟩
    | false =>
      rw [gi] at hd0
      rw [if_neg (by simp), if_neg (by simp)]
      have HD := Lib.hid hd0
      clear hd0 gi
      go_enter Try.func25, Try.ntmps25
      go_wp2_with (first | (go_at_call 21; refine (HB.out _ (r1.below hb) (r2.below hb)).mono ?_; rintro e w1 ⟨rfl, hb1⟩; obtain ⟨x0, x1, x2, x3, xf, xl⟩ := (BV.below hb1).four; obtain ⟨y0, y1, yf, yl⟩ := (BB.below hb1).two) | (go_at_call 71; refine (HD.out _).mono ?_; rintro e w2 ⟨rfl, rfl⟩))
      refine bodyPost_ret (v := .tuple #[.slice (some ⟨w1.heap.size, 0, none⟩) 0 0, .int .i64 2]) (by simp [results, Try.results25, go_sem]) rfl ?_
      exact ⟨_, _, rfl, OSt.new _ _ (chain hb hb1).size, (chain hb hb1).alloc (chain hb hb1).size _⟩
  · rw [if_neg g, if_neg g]
    replace g : isB p c h s xs ys = false := by simpa using g
    have hB := fun W (q1 : IRow W a1 xs) (q2 : IRow W a2 ys) => specIsBoard_any p c h s a1 a2 n1 n2 c1 c2 xs ys W h1 h2 l1 l2 q1 q2
    simp only [g] at hB
    have HB := Lib.hid hB
    clear hB
    go_enter Try.func25, Try.ntmps25
    go_wp2_with (go_at_call 21; refine (HB.out _ (r1.below hb) (r2.below hb)).mono ?_; rintro e w1 ⟨rfl, hb1⟩; obtain ⟨x0, x1, x2, x3, xf, xl⟩ := (BV.below hb1).four; obtain ⟨y0, y1, yf, yl⟩ := (BB.below hb1).two)
    refine bodyPost_ret (v := .tuple #[.slice (some ⟨w1.heap.size, 0, none⟩) 0 0, .int .i64 1]) (by simp [results, Try.results25, go_sem]) rfl ?_
    exact ⟨_, _, rfl, OSt.new _ _ (chain hb hb1).size, (chain hb hb1).alloc (chain hb hb1).size _⟩
end Go.Proofs.Ytjglempkmenacaa
