/- Contracts of the model on first games and valid games. -/
import Derived.Test.Ytokjkcnjmfbfiaa08f
import Derived.Test.Ytokjkcnjmfbfiaa08b
import Derived.Test.Ytokjkcnjmfbfiaa05a0
namespace Go.Proofs.Ytokjkcnjmfbfiaa
open Go.ChangeShapes Go.WideShapes Go.ChangeAt Go.RowKit
set_option linter.unusedVariables false
set_option linter.unusedSimpArgs false
set_option maxRecDepth 4000

theorem field_board (u0 u1 u2 u3 u4 u5 u6 u7 u8 : Value) (w : World) : (Instr.field 70 (.agg #[u0, u1, u2, u3, u4, u5, u6, u7, u8]) 0).run Try.prog w = .ok (.agg #[u0, u1]) w := by kernel_rfl
theorem l01In_b (n lo hi : Int) (w : World) : Calls Try.prog 94 #[.int .i64 n, .int .i64 lo, .int .i64 hi] w fun e w' => e = .returned (.bool (inB n lo hi)) ∧ Below w.heap.size w w' :=
  (l01In_any n lo hi w).mono (by rintro e w' ⟨rfl, rfl⟩; exact ⟨rfl, Below.refl _ _⟩)
set_option maxRecDepth 8000 in
set_option maxHeartbeats 2000000 in
theorem l08New_any (p c h s : Int) (w : World) (g1 : vB p c h s = true) (g2 : 4 ≤ p) :
    Calls Try.prog 136 #[.agg #[.int .i64 p, .int .i64 c, .int .i64 h, .int .i64 s]] w fun e w' => ∃ b1 b2, e = .returned (.agg #[.slice (some ⟨b1, 0, none⟩) (startL p c h s).length (startL p c h s).length, .slice (some ⟨b2, 0, none⟩) (startL p c h s).length (startL p c h s).length, .int .i64 0, .int .i64 0, .int .i64 0, .int .i64 0, .int .i64 0, .int .i64 0, .int .i64 0]) ∧ w.heap.size ≤ b1 ∧ b1 < b2 ∧ Row w' b1 (startL p c h s) ∧ Row w' b2 (startL p c h s) ∧ Below w.heap.size w w' := by
  have hS := fun W => l02Start_any p c h s W g1 g2
  obtain ⟨L, hL⟩ : ∃ L, startL p c h s = L := ⟨_, rfl⟩
  rw [hL] at hS ⊢
  obtain ⟨n, hn⟩ : ∃ n, L.length = n := ⟨_, rfl⟩
  have hS' : ∀ W, Calls Try.prog 163 #[.agg #[.int .i64 p, .int .i64 c, .int .i64 h, .int .i64 s]] W fun e w' => ∃ b, e = .returned (.slice (some ⟨b, 0, none⟩) n n) ∧ W.heap.size ≤ b ∧ Row w' b L ∧ Below W.heap.size W w' := fun W => (hS W).mono (by rintro e w' ⟨b, rfl, q1, q2, q3⟩; exact ⟨b, by rw [hn], q1, q2, q3⟩)
  rw [hn]
  have HS := Lib.hid hS'
  clear hS hS' hL hn g1 g2
  obtain ⟨BV, BO, hb, hz⟩ := two_new' w #[.int .i64 p, .int .i64 c, .int .i64 h, .int .i64 s] #[.slice none 0 0, .slice none 0 0, .int .i64 0, .int .i64 0, .int .i64 0, .int .i64 0, .int .i64 0, .int .i64 0, .int .i64 0] 32 70
  go_enter Try.func136, Try.ntmps136
  obtain ⟨x0, x1, x2, x3, xf, xl⟩ := BV.four
  go_wp2_with fail
  clear x0 x1 x2 x3 xf xl
  generalize ((w.alloc (.cells #[.int .i64 p, .int .i64 c, .int .i64 h, .int .i64 s] 32)).alloc (.cells #[.slice none 0 0, .slice none 0 0, .int .i64 0, .int .i64 0, .int .i64 0, .int .i64 0, .int .i64 0, .int .i64 0, .int .i64 0] 70)) = v0 at *
  obtain ⟨q0_BV, q1_BV, q2_BV, q3_BV, qf_BV, ql_BV⟩ := BV.four
  go_wp2_with fail
  clear q0_BV q1_BV q2_BV q3_BV qf_BV ql_BV
  have hd1 : v0.drew.heap.size = v0.heap.size := rfl
  replace BV := BV.drew
  replace BO := BO.drew
  replace hb := hb.drew
  refine wp_region_held_drew (S := fun w' => w'.cell? ⟨w.heap.size, 0, none⟩ = some (.int .i64 p) ∧ w'.cell? ⟨w.heap.size, 1, none⟩ = some (.int .i64 c) ∧ w'.cell? ⟨w.heap.size, 2, none⟩ = some (.int .i64 h) ∧ w'.cell? ⟨w.heap.size, 3, none⟩ = some (.int .i64 s)) (by kernel_rfl) ⟨BV.four.1, BV.four.2.1, BV.four.2.2.1, BV.four.2.2.2.1⟩ (fun hHeld => ?_)
  clear hHeld
  generalize v0.drew = vd1 at *
  have hHeld : vd1.cell? ⟨w.heap.size, 0, none⟩ = some (.int .i64 p) ∧ vd1.cell? ⟨w.heap.size, 1, none⟩ = some (.int .i64 c) ∧ vd1.cell? ⟨w.heap.size, 2, none⟩ = some (.int .i64 h) ∧ vd1.cell? ⟨w.heap.size, 3, none⟩ = some (.int .i64 s) := ⟨BV.four.1, BV.four.2.1, BV.four.2.2.1, BV.four.2.2.2.1⟩
  refine wpAnyH_take (i := 0) (oi := { dst := some 3, op := _, type := _, pos := _, after := _, guard := _ }) (v := ?_) rfl (by kernel_rfl) (by kernel_rfl) (by kernel_rfl) (fun _ _ _ h => h) (Or.inl ⟨by rfl, ?_⟩) (by assumption) ?_
  rotate_left
  · intro w hSw
    (try dsimp only at hSw)
    go_simp
    (try (with_reducible rfl))
  try simp only [Act.put, List.setIfInBounds_toArray, List.set_cons_zero, List.set_cons_succ]
  refine wpAnyH_take (i := 2) (oi := { dst := some 5, op := _, type := _, pos := _, after := _, guard := _ }) (v := ?_) rfl (by kernel_rfl) (by kernel_rfl) (by kernel_rfl) (fun _ _ _ h => h) (Or.inl ⟨by rfl, ?_⟩) (by assumption) ?_
  rotate_left
  · intro w hSw
    (try dsimp only at hSw)
    go_simp
    (try (with_reducible rfl))
  try simp only [Act.put, List.setIfInBounds_toArray, List.set_cons_zero, List.set_cons_succ]
  refine wpAnyH_ready (rs := [1]) (by kernel_rfl) (by simp) ?_
  refine AllReadyH.cons (o := { dst := some 4, op := _, type := _, pos := _, after := _, guard := _ }) rfl (fun K hK => ?_) AllReadyH.nil
  go_simp
  refine (HS.out _).mono ?_
  rintro e w2 ⟨b1, rfl, hb1, R1, hb2⟩
  replace BV := BV.below hb2
  replace BO := BO.below hb2
  have hz2 := hb2.size
  replace hb := chain hb hb2
  clear hb2
  have hl1 := R1.lt
  (try go_wp2_with fail)
  refine hK.out _ _ ⟨BV.four.1, BV.four.2.1, BV.four.2.2.1, BV.four.2.2.2.1⟩ (fun hHeld => ?_)
  clear hK K
  try simp only [Act.put, List.setIfInBounds_toArray, List.set_cons_zero, List.set_cons_succ]
  refine wpAnyH_ready (rs := [3]) (by kernel_rfl) (by simp) ?_
  refine AllReadyH.cons (o := { dst := some 6, op := _, type := _, pos := _, after := _, guard := _ }) rfl (fun K hK => ?_) AllReadyH.nil
  go_simp
  refine (HS.out _).mono ?_
  rintro e w3 ⟨b2, rfl, hb2, R2, hb3⟩
  replace BV := BV.below hb3
  replace BO := BO.below hb3
  replace R1 := R1.below hb3
  have hz3 := hb3.size
  replace hb := chain hb hb3
  clear hb3
  have hl2 := R2.lt
  (try go_wp2_with fail)
  refine hK.out _ _ ⟨BV.four.1, BV.four.2.1, BV.four.2.2.1, BV.four.2.2.2.1⟩ (fun hHeld => ?_)
  clear hK K
  try simp only [Act.put, List.setIfInBounds_toArray, List.set_cons_zero, List.set_cons_succ]
  refine wpAnyH_take (i := 4) (oi := { dst := some 7, op := _, type := _, pos := _, after := _, guard := _ }) (v := ?_) rfl (by kernel_rfl) (by kernel_rfl) (by kernel_rfl) (fun _ _ _ h => h) (Or.inl ⟨by rfl, ?_⟩) (by assumption) ?_
  rotate_left
  · intro w hSw
    (try dsimp only at hSw)
    go_simp
    (try (with_reducible rfl))
  try simp only [Act.put, List.setIfInBounds_toArray, List.set_cons_zero, List.set_cons_succ]
  refine wpAnyH_take (i := 5) (oi := { dst := some 8, op := _, type := _, pos := _, after := _, guard := _ }) (v := ?_) rfl (by kernel_rfl) (by kernel_rfl) (by kernel_rfl) (fun _ _ _ h => h) (Or.inl ⟨by rfl, ?_⟩) (by assumption) ?_
  rotate_left
  · intro w hSw
    (try dsimp only at hSw)
    go_simp
    (try (with_reducible rfl))
  try simp only [Act.put, List.setIfInBounds_toArray, List.set_cons_zero, List.set_cons_succ]
  refine wpAnyH_ready (rs := [6]) (by kernel_rfl) (by simp) ?_
  refine AllReadyH.cons (o := { dst := none, op := _, type := _, pos := _, after := _, guard := _ }) rfl (fun K hK => ?_) AllReadyH.nil
  have R1_ := R1
  obtain ⟨go0, go1, go2, go3, go4, go5, go6, go7, go8, gof, gol⟩ := BO.nine
  go_simp
  (try go_wp2_with fail)
  refine hK.out _ _ ⟨(BV.farG9 (B := w.heap.size + 1) (by omega) (.slice (some ⟨b1, 0, none⟩) n n) (.slice (some ⟨b2, 0, none⟩) n n) (.int .i64 0) (.int .i64 0) (.int .i64 0) (.int .i64 0) (.int .i64 0) (.int .i64 0) (.int .i64 0)).four.1, (BV.farG9 (B := w.heap.size + 1) (by omega) (.slice (some ⟨b1, 0, none⟩) n n) (.slice (some ⟨b2, 0, none⟩) n n) (.int .i64 0) (.int .i64 0) (.int .i64 0) (.int .i64 0) (.int .i64 0) (.int .i64 0) (.int .i64 0)).four.2.1, (BV.farG9 (B := w.heap.size + 1) (by omega) (.slice (some ⟨b1, 0, none⟩) n n) (.slice (some ⟨b2, 0, none⟩) n n) (.int .i64 0) (.int .i64 0) (.int .i64 0) (.int .i64 0) (.int .i64 0) (.int .i64 0) (.int .i64 0)).four.2.2.1, (BV.farG9 (B := w.heap.size + 1) (by omega) (.slice (some ⟨b1, 0, none⟩) n n) (.slice (some ⟨b2, 0, none⟩) n n) (.int .i64 0) (.int .i64 0) (.int .i64 0) (.int .i64 0) (.int .i64 0) (.int .i64 0) (.int .i64 0)).four.2.2.2.1⟩ (fun hHeld => ?_)
  clear hK K
  try simp only [Act.put, List.setIfInBounds_toArray, List.set_cons_zero, List.set_cons_succ]
  refine wpAnyH_done (by kernel_rfl) ?_ _
  clear hHeld
  go_wp2
  clear go0 go1 go2 go3 go4 go5 go6 go7 go8 gof gol
  have MO := BO.setG9 (.slice (some ⟨b1, 0, none⟩) n n) (.slice (some ⟨b2, 0, none⟩) n n) (.int .i64 0) (.int .i64 0) (.int .i64 0) (.int .i64 0) (.int .i64 0) (.int .i64 0) (.int .i64 0)
  have M1 := R1.farG9 (B := w.heap.size + 1) (by omega) (.slice (some ⟨b1, 0, none⟩) n n) (.slice (some ⟨b2, 0, none⟩) n n) (.int .i64 0) (.int .i64 0) (.int .i64 0) (.int .i64 0) (.int .i64 0) (.int .i64 0) (.int .i64 0)
  have M2 := R2.farG9 (B := w.heap.size + 1) (by omega) (.slice (some ⟨b1, 0, none⟩) n n) (.slice (some ⟨b2, 0, none⟩) n n) (.int .i64 0) (.int .i64 0) (.int .i64 0) (.int .i64 0) (.int .i64 0) (.int .i64 0) (.int .i64 0)
  have hM := Below.farG9 hb (B := w.heap.size + 1) (by omega) (.slice (some ⟨b1, 0, none⟩) n n) (.slice (some ⟨b2, 0, none⟩) n n) (.int .i64 0) (.int .i64 0) (.int .i64 0) (.int .i64 0) (.int .i64 0) (.int .i64 0) (.int .i64 0)
  clear BO R1 R2 hb BV R1_
  generalize (((((((((w3.setCell ⟨(w.heap.size + 1), 0, none⟩ (.slice (some ⟨b1, 0, none⟩) n n)).setCell ⟨(w.heap.size + 1), 1, none⟩ (.slice (some ⟨b2, 0, none⟩) n n)).setCell ⟨(w.heap.size + 1), 2, none⟩ (.int .i64 0)).setCell ⟨(w.heap.size + 1), 3, none⟩ (.int .i64 0)).setCell ⟨(w.heap.size + 1), 4, none⟩ (.int .i64 0)).setCell ⟨(w.heap.size + 1), 5, none⟩ (.int .i64 0)).setCell ⟨(w.heap.size + 1), 6, none⟩ (.int .i64 0)).setCell ⟨(w.heap.size + 1), 7, none⟩ (.int .i64 0)).setCell ⟨(w.heap.size + 1), 8, none⟩ (.int .i64 0)) = we at *
  obtain ⟨go0, go1, go2, go3, go4, go5, go6, go7, go8, gof, gol⟩ := MO.nine
  refine bodyPost_ret (v := .agg #[.slice (some ⟨b1, 0, none⟩) n n, .slice (some ⟨b2, 0, none⟩) n n, .int .i64 0, .int .i64 0, .int .i64 0, .int .i64 0, .int .i64 0, .int .i64 0, .int .i64 0]) (by simp [results, Try.results136, go_sem, go0, go1, go2, go3, go4, go5, go6, go7, go8]) rfl ?_
  exact ⟨b1, b2, rfl, by omega, by omega, M1, M2, hM⟩
/-- A game that is over, in the model's words. -/
def endS (p c h : Int) (xs ys : List Int) (pl wi re : Int) : Bool :=
  if overB xs ys = true then (xs.sum == 0) && ((wi == pl) && (re == resV p c h xs ys)) else (wi == 1 - pl) && inB re 1 3
/-- A valid game, in the model's words. -/
def gmS (p c h s : Int) (xs ys : List Int) (pl ra rb ph wi re tu : Int) : Bool :=
  vB p c h s && (decide (4 ≤ p) && (isB p c h s xs ys && (inB pl 0 1 && (inB tu 0 2000 &&
    (if ph = 2 then rlB s ra rb && goB xs ys wi re else ((ra == 0) && (rb == 0)) &&
      (if ph = 0 then (pl == 0) && ((tu == 0) && ((wi == 0) && ((re == 0) && decide (xs = startL p c h s ∧ ys = startL p c h s)))) else if ph = 1 then goB xs ys wi re
        else if ph = 3 then endS p c h xs ys pl wi re else false))))))
theorem endS_endB {p c h : Int} {xs ys : List Int} {pl wi re : Int} (hx : ∀ x ∈ xs, 0 ≤ x ∧ x ≤ 1000) : endS p c h xs ys pl wi re = endB p c h xs ys pl wi re := by
  unfold endS endB
  have h1 := lastL_sum xs (fun x h => (hx x h).1) xs.length (Nat.le_refl _)
  rw [List.take_length] at h1
  have : (xs.sum == 0) = decide (lastL xs xs.length < 0) := by
    rw [Bool.eq_iff_iff, beq_iff_eq, decide_eq_true_eq]
    exact h1.symm
  rw [this]
theorem gmS_gmB (p c h s : Int) (xs ys : List Int) (pl ra rb ph wi re tu : Int) : gmS p c h s xs ys pl ra rb ph wi re tu = gmB p c h s xs ys pl ra rb ph wi re tu := by
  unfold gmS gmB hgB
  cases hv : vB p c h s
  · simp
  by_cases h4 : 4 ≤ p
  rotate_left
  · simp [h4]
  cases hi : isB p c h s xs ys
  · simp
  have hx := (isB_parts hi).2.2.2.2.2.2.2.2.1
  have e1 : inB pl 0 1 = ((pl == 0) || (pl == 1)) := by
    rw [Bool.eq_iff_iff]; simp only [inB_iff, Bool.or_eq_true, beq_iff_eq]; omega
  have e2 : inB tu 0 2000 = (decide (0 ≤ tu) && decide (tu ≤ 2000)) := by
    rw [Bool.eq_iff_iff]; simp only [inB_iff, Bool.and_eq_true, decide_eq_true_eq]
  rw [e1, e2]
  simp only [h4, decide_true, Bool.true_and, Bool.and_assoc]
  congr 1
  congr 1
  congr 1
  unfold phB
  by_cases q2 : ph = 2
  · subst q2
    cases goB xs ys wi re <;> simp
  rw [if_neg q2]
  by_cases q0 : ph = 0
  · subst q0
    simp only [if_true, openG, Gm.mk.injEq, true_and]
    rw [Bool.eq_iff_iff]
    simp only [Bool.and_eq_true, beq_iff_eq, decide_eq_true_eq]
    constructor
    · rintro ⟨a, b, c, d, e, f, g, i⟩; exact ⟨g, i, c, a, b, e, f, d⟩
    · rintro ⟨g, i, c, a, b, e, f, d⟩; exact ⟨a, b, c, d, e, f, g, i⟩
  · simp only [if_neg q0]
    by_cases q1 : ph = 1
    · subst q1
      cases goB xs ys wi re <;> simp
    · simp only [if_neg q1, if_neg q2]
      by_cases q3 : ph = 3
      · subst q3
        simp only [if_true]
        rw [endS_endB hx]
        cases endB p c h xs ys pl wi re <;> simp
      · simp [q3]
set_option maxRecDepth 8000 in
set_option maxHeartbeats 4000000 in
theorem l08Valid_any (p c h s : Int) (a1 a2 : Option Addr) (n1 n2 c1 c2 : Nat) (xs ys : List Int) (w : World) (h1 : xs.length = n1) (h2 : ys.length = n2) (l1 : n1 ≤ 1048576) (l2 : n2 ≤ 1048576) (r1 : IRow w a1 xs) (r2 : IRow w a2 ys) (pl ra rb ph wi re tu : Int) :
    Calls Try.prog 91 #[.agg #[.int .i64 p, .int .i64 c, .int .i64 h, .int .i64 s], .agg #[.slice a1 n1 c1, .slice a2 n2 c2, .int .i64 pl, .int .i64 ra, .int .i64 rb, .int .i64 ph, .int .i64 wi, .int .i64 re, .int .i64 tu]] w fun e w' => e = .returned (.bool (gmB p c h s xs ys pl ra rb ph wi re tu)) ∧ Below w.heap.size w w' := by
  rw [← gmS_gmB]
  have hV := fun (W : World) => specIsVariant_any p c h s W
  have hI := fun (W : World) (r1 : IRow W a1 xs) (r2 : IRow W a2 ys) => specIsBoard_any p c h s a1 a2 n1 n2 c1 c2 xs ys W h1 h2 l1 l2 r1 r2
  have hP := fun (W : World) => l01In_b pl 0 1 W
  have hT := fun (W : World) => l01In_b tu 0 2000 W
  have hR := fun (g : vB p c h s = true) (W : World) => isRoll_any p c h s ra rb W g
  have hO := fun (g : isB p c h s xs ys = true) (W : World) (r1 : IRow W a1 xs) (r2 : IRow W a2 ys) => l02Over_any a1 a2 n1 n2 c1 c2 xs ys W h1 h2 (by have := isB_parts g; omega) (by have := isB_parts g; omega) (isB_parts g).2.2.2.2.2.2.2.2.1 (isB_parts g).2.2.2.2.2.2.2.2.2.1 r1 r2
  have hN := fun (g : vB p c h s = true) (q : 4 ≤ p) (W : World) => l08New_any p c h s W g q
  have hS := fun (g : isB p c h s xs ys = true) (b1 b2 : Nat) (W : World) (r1 : IRow W a1 xs) (r2 : IRow W a2 ys) (R1 : Row W b1 (startL p c h s)) (R2 : Row W b2 (startL p c h s)) => l05Same_any a1 a2 (some ⟨b1, 0, none⟩) (some ⟨b2, 0, none⟩) n1 n2 (startL p c h s).length (startL p c h s).length c1 c2 (startL p c h s).length (startL p c h s).length xs ys (startL p c h s) (startL p c h s) W h1 h2 rfl rfl l1 l2 (startL_le p c h s (isB_parts g).2.1) (startL_le p c h s (isB_parts g).2.1) r1 r2 R1.irow R2.irow
  have hU := fun (g : isB p c h s xs ys = true) (W : World) (r1 : IRow W a1 xs) => (l02Sum_any a1 n1 c1 xs W h1 (by have := isB_parts g; omega) (isB_parts g).2.2.2.2.2.2.2.2.1 r1).mono (R' := fun e w' => e = .returned (.int .i64 xs.sum) ∧ Below W.heap.size W w') (by rintro e w' ⟨rfl, rfl⟩; exact ⟨rfl, Below.refl _ _⟩)
  have hJ := fun (g : isB p c h s xs ys = true) (W : World) (r1 : IRow W a1 xs) (r2 : IRow W a2 ys) => l08Result_any p c h s a1 a2 n1 n2 c1 c2 xs ys W h1 h2 l1 l2 r1 r2 g
  have hK := fun (W : World) => l01In_b re 1 3 W
  have hfl := fun (u0 u1 u2 u3 u4 u5 u6 u7 u8 : Value) (W : World) => field_board u0 u1 u2 u3 u4 u5 u6 u7 u8 W
  unfold gmS goB endS
  obtain ⟨A, hA⟩ : ∃ q, vB p c h s = q := ⟨_, rfl⟩
  obtain ⟨B, hB⟩ : ∃ q, isB p c h s xs ys = q := ⟨_, rfl⟩
  obtain ⟨C, hC⟩ : ∃ q, inB pl 0 1 = q := ⟨_, rfl⟩
  obtain ⟨D, hD⟩ : ∃ q, inB tu 0 2000 = q := ⟨_, rfl⟩
  obtain ⟨R, hRe⟩ : ∃ q, rlB s ra rb = q := ⟨_, rfl⟩
  obtain ⟨O, hOe⟩ : ∃ q, overB xs ys = q := ⟨_, rfl⟩
  obtain ⟨K, hKe⟩ : ∃ q, inB re 1 3 = q := ⟨_, rfl⟩
  obtain ⟨J, hJe⟩ : ∃ q, resV p c h xs ys = q := ⟨_, rfl⟩
  obtain ⟨U, hUe⟩ : ∃ q, xs.sum = q := ⟨_, rfl⟩
  obtain ⟨L, hLe⟩ : ∃ q, startL p c h s = q := ⟨_, rfl⟩
  rw [hLe] at hN hS ⊢
  obtain ⟨Q, hQe⟩ : ∃ q, decide (xs = L ∧ ys = L) = q := ⟨_, rfl⟩
  rw [hA] at hV hR hN ⊢
  rw [hB] at hI hO hS hU hJ ⊢
  rw [hC] at hP ⊢
  rw [hD] at hT ⊢
  rw [hRe] at hR ⊢
  rw [hOe] at hO ⊢
  rw [hKe] at hK ⊢
  rw [hJe] at hJ ⊢
  rw [hUe] at hU ⊢
  rw [hQe] at hS ⊢
  have wz : IntKind.i64.wrap (1 - pl) = 1 - pl ∨ C = false := by
    cases C with
    | false => exact .inr rfl
    | true => left; rw [inB_iff] at hC; exact IntWalk.i64_in _ (by omega)
  have HV := Lib.hid hV
  have HI := Lib.hid hI
  have HP := Lib.hid hP
  have HT := Lib.hid hT
  have HR := Lib.hid hR
  have HO := Lib.hid hO
  have HN := Lib.hid hN
  have HS := Lib.hid hS
  have HU := Lib.hid hU
  have HJ := Lib.hid hJ
  have HK := Lib.hid hK
  clear hV hI hP hT hR hO hN hS hU hJ hK hA hB hC hD hRe hOe hKe hJe hUe hLe hQe
  obtain ⟨BV, BG, hb, hz⟩ := two_new' w #[.int .i64 p, .int .i64 c, .int .i64 h, .int .i64 s] #[.slice a1 n1 c1, .slice a2 n2 c2, .int .i64 pl, .int .i64 ra, .int .i64 rb, .int .i64 ph, .int .i64 wi, .int .i64 re, .int .i64 tu] 32 70
  have hr1 := r1.below hb
  have hr2 := r2.below hb
  clear r1 r2
  have r1 := hr1
  have r2 := hr2
  clear hr1 hr2
  cases A with
  | false =>
    (try simp only [Bool.false_and, Bool.true_and, Bool.and_false, Bool.and_true, Bool.not_true, Bool.not_false])
    go_enter Try.func91, Try.ntmps91
    obtain ⟨x0, x1, x2, x3, xf, xl⟩ := BV.four
    obtain ⟨ga0, ga1, ga2, ga3, ga4, ga5, ga6, ga7, ga8, gaf, gal⟩ := BG.nine
    go_wp2_with fail
    clear x0 x1 x2 x3 xf xl
    clear ga0 ga1 ga2 ga3 ga4 ga5 ga6 ga7 ga8 gaf gal
    generalize ((w.alloc (.cells #[.int .i64 p, .int .i64 c, .int .i64 h, .int .i64 s] 32)).alloc (.cells #[.slice a1 n1 c1, .slice a2 n2 c2, .int .i64 pl, .int .i64 ra, .int .i64 rb, .int .i64 ph, .int .i64 wi, .int .i64 re, .int .i64 tu] 70)) = v0 at *
    obtain ⟨q0_BV, q1_BV, q2_BV, q3_BV, qf_BV, ql_BV⟩ := BV.four
    obtain ⟨q0_BG, q1_BG, q2_BG, q3_BG, q4_BG, q5_BG, q6_BG, q7_BG, q8_BG, qf_BG, ql_BG⟩ := BG.nine
    go_wp2_with fail
    clear q0_BV q1_BV q2_BV q3_BV qf_BV ql_BV
    clear q0_BG q1_BG q2_BG q3_BG q4_BG q5_BG q6_BG q7_BG q8_BG qf_BG ql_BG
    refine (HV.out _).mono ?_
    rintro e w1 ⟨rfl, hb1⟩
    replace BV := BV.below hb1
    replace BG := BG.below hb1
    replace r1 := r1.below hb1
    replace r2 := r2.below hb1
    have hz1 := hb1.size
    replace hb := chain hb hb1
    clear hb1
    obtain ⟨q0_BV, q1_BV, q2_BV, q3_BV, qf_BV, ql_BV⟩ := BV.four
    obtain ⟨q0_BG, q1_BG, q2_BG, q3_BG, q4_BG, q5_BG, q6_BG, q7_BG, q8_BG, qf_BG, ql_BG⟩ := BG.nine
    go_wp2_with fail
    go_ret
    exact ⟨rfl, hb⟩
  | true =>
    by_cases q4 : 4 ≤ p
    · have f4 : decide (4 ≤ p) = true := by simpa using q4
      have g4 : decide (p < 4) = false := by rw [decide_eq_false_iff_not]; omega
      rw [f4]
      cases B with
      | false =>
        (try simp only [Bool.false_and, Bool.true_and, Bool.and_false, Bool.and_true, Bool.not_true, Bool.not_false])
        go_enter Try.func91, Try.ntmps91
        obtain ⟨x0, x1, x2, x3, xf, xl⟩ := BV.four
        obtain ⟨ga0, ga1, ga2, ga3, ga4, ga5, ga6, ga7, ga8, gaf, gal⟩ := BG.nine
        go_wp2_with fail
        clear x0 x1 x2 x3 xf xl
        clear ga0 ga1 ga2 ga3 ga4 ga5 ga6 ga7 ga8 gaf gal
        generalize ((w.alloc (.cells #[.int .i64 p, .int .i64 c, .int .i64 h, .int .i64 s] 32)).alloc (.cells #[.slice a1 n1 c1, .slice a2 n2 c2, .int .i64 pl, .int .i64 ra, .int .i64 rb, .int .i64 ph, .int .i64 wi, .int .i64 re, .int .i64 tu] 70)) = v0 at *
        obtain ⟨q0_BV, q1_BV, q2_BV, q3_BV, qf_BV, ql_BV⟩ := BV.four
        obtain ⟨q0_BG, q1_BG, q2_BG, q3_BG, q4_BG, q5_BG, q6_BG, q7_BG, q8_BG, qf_BG, ql_BG⟩ := BG.nine
        go_wp2_with fail
        clear q0_BV q1_BV q2_BV q3_BV qf_BV ql_BV
        clear q0_BG q1_BG q2_BG q3_BG q4_BG q5_BG q6_BG q7_BG q8_BG qf_BG ql_BG
        refine (HV.out _).mono ?_
        rintro e w1 ⟨rfl, hb1⟩
        replace BV := BV.below hb1
        replace BG := BG.below hb1
        replace r1 := r1.below hb1
        replace r2 := r2.below hb1
        have hz1 := hb1.size
        replace hb := chain hb hb1
        clear hb1
        obtain ⟨q0_BV, q1_BV, q2_BV, q3_BV, qf_BV, ql_BV⟩ := BV.four
        obtain ⟨q0_BG, q1_BG, q2_BG, q3_BG, q4_BG, q5_BG, q6_BG, q7_BG, q8_BG, qf_BG, ql_BG⟩ := BG.nine
        go_wp2_with fail
        clear q0_BV q1_BV q2_BV q3_BV qf_BV ql_BV
        clear q0_BG q1_BG q2_BG q3_BG q4_BG q5_BG q6_BG q7_BG q8_BG qf_BG ql_BG
        refine (HI.out _ r1 r2).mono ?_
        rintro e w2 ⟨rfl, hb2⟩
        replace BV := BV.below hb2
        replace BG := BG.below hb2
        replace r1 := r1.below hb2
        replace r2 := r2.below hb2
        have hz2 := hb2.size
        replace hb := chain hb hb2
        clear hb2
        obtain ⟨q0_BV, q1_BV, q2_BV, q3_BV, qf_BV, ql_BV⟩ := BV.four
        obtain ⟨q0_BG, q1_BG, q2_BG, q3_BG, q4_BG, q5_BG, q6_BG, q7_BG, q8_BG, qf_BG, ql_BG⟩ := BG.nine
        go_wp2_with fail
        go_ret
        exact ⟨rfl, hb⟩
      | true =>
        cases C with
        | false =>
          (try simp only [Bool.false_and, Bool.true_and, Bool.and_false, Bool.and_true, Bool.not_true, Bool.not_false])
          go_enter Try.func91, Try.ntmps91
          obtain ⟨x0, x1, x2, x3, xf, xl⟩ := BV.four
          obtain ⟨ga0, ga1, ga2, ga3, ga4, ga5, ga6, ga7, ga8, gaf, gal⟩ := BG.nine
          go_wp2_with fail
          clear x0 x1 x2 x3 xf xl
          clear ga0 ga1 ga2 ga3 ga4 ga5 ga6 ga7 ga8 gaf gal
          generalize ((w.alloc (.cells #[.int .i64 p, .int .i64 c, .int .i64 h, .int .i64 s] 32)).alloc (.cells #[.slice a1 n1 c1, .slice a2 n2 c2, .int .i64 pl, .int .i64 ra, .int .i64 rb, .int .i64 ph, .int .i64 wi, .int .i64 re, .int .i64 tu] 70)) = v0 at *
          obtain ⟨q0_BV, q1_BV, q2_BV, q3_BV, qf_BV, ql_BV⟩ := BV.four
          obtain ⟨q0_BG, q1_BG, q2_BG, q3_BG, q4_BG, q5_BG, q6_BG, q7_BG, q8_BG, qf_BG, ql_BG⟩ := BG.nine
          go_wp2_with fail
          clear q0_BV q1_BV q2_BV q3_BV qf_BV ql_BV
          clear q0_BG q1_BG q2_BG q3_BG q4_BG q5_BG q6_BG q7_BG q8_BG qf_BG ql_BG
          refine (HV.out _).mono ?_
          rintro e w1 ⟨rfl, hb1⟩
          replace BV := BV.below hb1
          replace BG := BG.below hb1
          replace r1 := r1.below hb1
          replace r2 := r2.below hb1
          have hz1 := hb1.size
          replace hb := chain hb hb1
          clear hb1
          obtain ⟨q0_BV, q1_BV, q2_BV, q3_BV, qf_BV, ql_BV⟩ := BV.four
          obtain ⟨q0_BG, q1_BG, q2_BG, q3_BG, q4_BG, q5_BG, q6_BG, q7_BG, q8_BG, qf_BG, ql_BG⟩ := BG.nine
          go_wp2_with fail
          clear q0_BV q1_BV q2_BV q3_BV qf_BV ql_BV
          clear q0_BG q1_BG q2_BG q3_BG q4_BG q5_BG q6_BG q7_BG q8_BG qf_BG ql_BG
          refine (HI.out _ r1 r2).mono ?_
          rintro e w2 ⟨rfl, hb2⟩
          replace BV := BV.below hb2
          replace BG := BG.below hb2
          replace r1 := r1.below hb2
          replace r2 := r2.below hb2
          have hz2 := hb2.size
          replace hb := chain hb hb2
          clear hb2
          obtain ⟨q0_BV, q1_BV, q2_BV, q3_BV, qf_BV, ql_BV⟩ := BV.four
          obtain ⟨q0_BG, q1_BG, q2_BG, q3_BG, q4_BG, q5_BG, q6_BG, q7_BG, q8_BG, qf_BG, ql_BG⟩ := BG.nine
          go_wp2_with fail
          clear q0_BV q1_BV q2_BV q3_BV qf_BV ql_BV
          clear q0_BG q1_BG q2_BG q3_BG q4_BG q5_BG q6_BG q7_BG q8_BG qf_BG ql_BG
          refine (HP.out _).mono ?_
          rintro e w3 ⟨rfl, hb3⟩
          replace BV := BV.below hb3
          replace BG := BG.below hb3
          replace r1 := r1.below hb3
          replace r2 := r2.below hb3
          have hz3 := hb3.size
          replace hb := chain hb hb3
          clear hb3
          obtain ⟨q0_BV, q1_BV, q2_BV, q3_BV, qf_BV, ql_BV⟩ := BV.four
          obtain ⟨q0_BG, q1_BG, q2_BG, q3_BG, q4_BG, q5_BG, q6_BG, q7_BG, q8_BG, qf_BG, ql_BG⟩ := BG.nine
          go_wp2_with fail
          go_ret
          exact ⟨rfl, hb⟩
        | true =>
          cases D with
          | false =>
            (try simp only [Bool.false_and, Bool.true_and, Bool.and_false, Bool.and_true, Bool.not_true, Bool.not_false])
            go_enter Try.func91, Try.ntmps91
            obtain ⟨x0, x1, x2, x3, xf, xl⟩ := BV.four
            obtain ⟨ga0, ga1, ga2, ga3, ga4, ga5, ga6, ga7, ga8, gaf, gal⟩ := BG.nine
            go_wp2_with fail
            clear x0 x1 x2 x3 xf xl
            clear ga0 ga1 ga2 ga3 ga4 ga5 ga6 ga7 ga8 gaf gal
            generalize ((w.alloc (.cells #[.int .i64 p, .int .i64 c, .int .i64 h, .int .i64 s] 32)).alloc (.cells #[.slice a1 n1 c1, .slice a2 n2 c2, .int .i64 pl, .int .i64 ra, .int .i64 rb, .int .i64 ph, .int .i64 wi, .int .i64 re, .int .i64 tu] 70)) = v0 at *
            obtain ⟨q0_BV, q1_BV, q2_BV, q3_BV, qf_BV, ql_BV⟩ := BV.four
            obtain ⟨q0_BG, q1_BG, q2_BG, q3_BG, q4_BG, q5_BG, q6_BG, q7_BG, q8_BG, qf_BG, ql_BG⟩ := BG.nine
            go_wp2_with fail
            clear q0_BV q1_BV q2_BV q3_BV qf_BV ql_BV
            clear q0_BG q1_BG q2_BG q3_BG q4_BG q5_BG q6_BG q7_BG q8_BG qf_BG ql_BG
            refine (HV.out _).mono ?_
            rintro e w1 ⟨rfl, hb1⟩
            replace BV := BV.below hb1
            replace BG := BG.below hb1
            replace r1 := r1.below hb1
            replace r2 := r2.below hb1
            have hz1 := hb1.size
            replace hb := chain hb hb1
            clear hb1
            obtain ⟨q0_BV, q1_BV, q2_BV, q3_BV, qf_BV, ql_BV⟩ := BV.four
            obtain ⟨q0_BG, q1_BG, q2_BG, q3_BG, q4_BG, q5_BG, q6_BG, q7_BG, q8_BG, qf_BG, ql_BG⟩ := BG.nine
            go_wp2_with fail
            clear q0_BV q1_BV q2_BV q3_BV qf_BV ql_BV
            clear q0_BG q1_BG q2_BG q3_BG q4_BG q5_BG q6_BG q7_BG q8_BG qf_BG ql_BG
            refine (HI.out _ r1 r2).mono ?_
            rintro e w2 ⟨rfl, hb2⟩
            replace BV := BV.below hb2
            replace BG := BG.below hb2
            replace r1 := r1.below hb2
            replace r2 := r2.below hb2
            have hz2 := hb2.size
            replace hb := chain hb hb2
            clear hb2
            obtain ⟨q0_BV, q1_BV, q2_BV, q3_BV, qf_BV, ql_BV⟩ := BV.four
            obtain ⟨q0_BG, q1_BG, q2_BG, q3_BG, q4_BG, q5_BG, q6_BG, q7_BG, q8_BG, qf_BG, ql_BG⟩ := BG.nine
            go_wp2_with fail
            clear q0_BV q1_BV q2_BV q3_BV qf_BV ql_BV
            clear q0_BG q1_BG q2_BG q3_BG q4_BG q5_BG q6_BG q7_BG q8_BG qf_BG ql_BG
            refine (HP.out _).mono ?_
            rintro e w3 ⟨rfl, hb3⟩
            replace BV := BV.below hb3
            replace BG := BG.below hb3
            replace r1 := r1.below hb3
            replace r2 := r2.below hb3
            have hz3 := hb3.size
            replace hb := chain hb hb3
            clear hb3
            obtain ⟨q0_BV, q1_BV, q2_BV, q3_BV, qf_BV, ql_BV⟩ := BV.four
            obtain ⟨q0_BG, q1_BG, q2_BG, q3_BG, q4_BG, q5_BG, q6_BG, q7_BG, q8_BG, qf_BG, ql_BG⟩ := BG.nine
            go_wp2_with fail
            clear q0_BV q1_BV q2_BV q3_BV qf_BV ql_BV
            clear q0_BG q1_BG q2_BG q3_BG q4_BG q5_BG q6_BG q7_BG q8_BG qf_BG ql_BG
            refine (HT.out _).mono ?_
            rintro e w4 ⟨rfl, hb4⟩
            replace BV := BV.below hb4
            replace BG := BG.below hb4
            replace r1 := r1.below hb4
            replace r2 := r2.below hb4
            have hz4 := hb4.size
            replace hb := chain hb hb4
            clear hb4
            obtain ⟨q0_BV, q1_BV, q2_BV, q3_BV, qf_BV, ql_BV⟩ := BV.four
            obtain ⟨q0_BG, q1_BG, q2_BG, q3_BG, q4_BG, q5_BG, q6_BG, q7_BG, q8_BG, qf_BG, ql_BG⟩ := BG.nine
            go_wp2_with fail
            go_ret
            exact ⟨rfl, hb⟩
          | true =>
            have wz := wz.resolve_right (by simp)
            simp only [Bool.true_and]
            by_cases q2 : ph = 2
            · have k2 : (ph == 2) = true := by rw [beq_iff_eq]; exact q2
              rw [if_pos q2]
              clear q2
              cases R with
              | false =>
                (try simp only [Bool.false_and, Bool.true_and, Bool.and_false, Bool.and_true, Bool.not_true, Bool.not_false])
                go_enter Try.func91, Try.ntmps91
                obtain ⟨x0, x1, x2, x3, xf, xl⟩ := BV.four
                obtain ⟨ga0, ga1, ga2, ga3, ga4, ga5, ga6, ga7, ga8, gaf, gal⟩ := BG.nine
                go_wp2_with fail
                clear x0 x1 x2 x3 xf xl
                clear ga0 ga1 ga2 ga3 ga4 ga5 ga6 ga7 ga8 gaf gal
                generalize ((w.alloc (.cells #[.int .i64 p, .int .i64 c, .int .i64 h, .int .i64 s] 32)).alloc (.cells #[.slice a1 n1 c1, .slice a2 n2 c2, .int .i64 pl, .int .i64 ra, .int .i64 rb, .int .i64 ph, .int .i64 wi, .int .i64 re, .int .i64 tu] 70)) = v0 at *
                obtain ⟨q0_BV, q1_BV, q2_BV, q3_BV, qf_BV, ql_BV⟩ := BV.four
                obtain ⟨q0_BG, q1_BG, q2_BG, q3_BG, q4_BG, q5_BG, q6_BG, q7_BG, q8_BG, qf_BG, ql_BG⟩ := BG.nine
                go_wp2_with fail
                clear q0_BV q1_BV q2_BV q3_BV qf_BV ql_BV
                clear q0_BG q1_BG q2_BG q3_BG q4_BG q5_BG q6_BG q7_BG q8_BG qf_BG ql_BG
                refine (HV.out _).mono ?_
                rintro e w1 ⟨rfl, hb1⟩
                replace BV := BV.below hb1
                replace BG := BG.below hb1
                replace r1 := r1.below hb1
                replace r2 := r2.below hb1
                have hz1 := hb1.size
                replace hb := chain hb hb1
                clear hb1
                obtain ⟨q0_BV, q1_BV, q2_BV, q3_BV, qf_BV, ql_BV⟩ := BV.four
                obtain ⟨q0_BG, q1_BG, q2_BG, q3_BG, q4_BG, q5_BG, q6_BG, q7_BG, q8_BG, qf_BG, ql_BG⟩ := BG.nine
                go_wp2_with fail
                clear q0_BV q1_BV q2_BV q3_BV qf_BV ql_BV
                clear q0_BG q1_BG q2_BG q3_BG q4_BG q5_BG q6_BG q7_BG q8_BG qf_BG ql_BG
                refine (HI.out _ r1 r2).mono ?_
                rintro e w2 ⟨rfl, hb2⟩
                replace BV := BV.below hb2
                replace BG := BG.below hb2
                replace r1 := r1.below hb2
                replace r2 := r2.below hb2
                have hz2 := hb2.size
                replace hb := chain hb hb2
                clear hb2
                obtain ⟨q0_BV, q1_BV, q2_BV, q3_BV, qf_BV, ql_BV⟩ := BV.four
                obtain ⟨q0_BG, q1_BG, q2_BG, q3_BG, q4_BG, q5_BG, q6_BG, q7_BG, q8_BG, qf_BG, ql_BG⟩ := BG.nine
                go_wp2_with fail
                clear q0_BV q1_BV q2_BV q3_BV qf_BV ql_BV
                clear q0_BG q1_BG q2_BG q3_BG q4_BG q5_BG q6_BG q7_BG q8_BG qf_BG ql_BG
                refine (HP.out _).mono ?_
                rintro e w3 ⟨rfl, hb3⟩
                replace BV := BV.below hb3
                replace BG := BG.below hb3
                replace r1 := r1.below hb3
                replace r2 := r2.below hb3
                have hz3 := hb3.size
                replace hb := chain hb hb3
                clear hb3
                obtain ⟨q0_BV, q1_BV, q2_BV, q3_BV, qf_BV, ql_BV⟩ := BV.four
                obtain ⟨q0_BG, q1_BG, q2_BG, q3_BG, q4_BG, q5_BG, q6_BG, q7_BG, q8_BG, qf_BG, ql_BG⟩ := BG.nine
                go_wp2_with fail
                clear q0_BV q1_BV q2_BV q3_BV qf_BV ql_BV
                clear q0_BG q1_BG q2_BG q3_BG q4_BG q5_BG q6_BG q7_BG q8_BG qf_BG ql_BG
                refine (HT.out _).mono ?_
                rintro e w4 ⟨rfl, hb4⟩
                replace BV := BV.below hb4
                replace BG := BG.below hb4
                replace r1 := r1.below hb4
                replace r2 := r2.below hb4
                have hz4 := hb4.size
                replace hb := chain hb hb4
                clear hb4
                obtain ⟨q0_BV, q1_BV, q2_BV, q3_BV, qf_BV, ql_BV⟩ := BV.four
                obtain ⟨q0_BG, q1_BG, q2_BG, q3_BG, q4_BG, q5_BG, q6_BG, q7_BG, q8_BG, qf_BG, ql_BG⟩ := BG.nine
                go_wp2_with fail
                clear q0_BV q1_BV q2_BV q3_BV qf_BV ql_BV
                clear q0_BG q1_BG q2_BG q3_BG q4_BG q5_BG q6_BG q7_BG q8_BG qf_BG ql_BG
                refine (HR.out (by simp) _).mono ?_
                rintro e w5 ⟨rfl, hb5⟩
                replace BV := BV.below hb5
                replace BG := BG.below hb5
                replace r1 := r1.below hb5
                replace r2 := r2.below hb5
                have hz5 := hb5.size
                replace hb := chain hb hb5
                clear hb5
                obtain ⟨q0_BV, q1_BV, q2_BV, q3_BV, qf_BV, ql_BV⟩ := BV.four
                obtain ⟨q0_BG, q1_BG, q2_BG, q3_BG, q4_BG, q5_BG, q6_BG, q7_BG, q8_BG, qf_BG, ql_BG⟩ := BG.nine
                go_wp2_with fail
                go_ret
                exact ⟨rfl, hb⟩
              | true =>
                cases O with
                | false =>
                  by_cases ew : wi = 0
                  · have f_ew : (wi == 0) = true := by rw [beq_iff_eq]; exact ew
                    rw [f_ew]
                    clear ew
                    by_cases er : re = 0
                    · have f_er : (re == 0) = true := by rw [beq_iff_eq]; exact er
                      rw [f_er]
                      clear er
                      (try simp only [Bool.false_and, Bool.true_and, Bool.and_false, Bool.and_true, Bool.not_true, Bool.not_false])
                      go_enter Try.func91, Try.ntmps91
                      obtain ⟨x0, x1, x2, x3, xf, xl⟩ := BV.four
                      obtain ⟨ga0, ga1, ga2, ga3, ga4, ga5, ga6, ga7, ga8, gaf, gal⟩ := BG.nine
                      go_wp2_with fail
                      clear x0 x1 x2 x3 xf xl
                      clear ga0 ga1 ga2 ga3 ga4 ga5 ga6 ga7 ga8 gaf gal
                      generalize ((w.alloc (.cells #[.int .i64 p, .int .i64 c, .int .i64 h, .int .i64 s] 32)).alloc (.cells #[.slice a1 n1 c1, .slice a2 n2 c2, .int .i64 pl, .int .i64 ra, .int .i64 rb, .int .i64 ph, .int .i64 wi, .int .i64 re, .int .i64 tu] 70)) = v0 at *
                      obtain ⟨q0_BV, q1_BV, q2_BV, q3_BV, qf_BV, ql_BV⟩ := BV.four
                      obtain ⟨q0_BG, q1_BG, q2_BG, q3_BG, q4_BG, q5_BG, q6_BG, q7_BG, q8_BG, qf_BG, ql_BG⟩ := BG.nine
                      go_wp2_with fail
                      clear q0_BV q1_BV q2_BV q3_BV qf_BV ql_BV
                      clear q0_BG q1_BG q2_BG q3_BG q4_BG q5_BG q6_BG q7_BG q8_BG qf_BG ql_BG
                      refine (HV.out _).mono ?_
                      rintro e w1 ⟨rfl, hb1⟩
                      replace BV := BV.below hb1
                      replace BG := BG.below hb1
                      replace r1 := r1.below hb1
                      replace r2 := r2.below hb1
                      have hz1 := hb1.size
                      replace hb := chain hb hb1
                      clear hb1
                      obtain ⟨q0_BV, q1_BV, q2_BV, q3_BV, qf_BV, ql_BV⟩ := BV.four
                      obtain ⟨q0_BG, q1_BG, q2_BG, q3_BG, q4_BG, q5_BG, q6_BG, q7_BG, q8_BG, qf_BG, ql_BG⟩ := BG.nine
                      go_wp2_with fail
                      clear q0_BV q1_BV q2_BV q3_BV qf_BV ql_BV
                      clear q0_BG q1_BG q2_BG q3_BG q4_BG q5_BG q6_BG q7_BG q8_BG qf_BG ql_BG
                      refine (HI.out _ r1 r2).mono ?_
                      rintro e w2 ⟨rfl, hb2⟩
                      replace BV := BV.below hb2
                      replace BG := BG.below hb2
                      replace r1 := r1.below hb2
                      replace r2 := r2.below hb2
                      have hz2 := hb2.size
                      replace hb := chain hb hb2
                      clear hb2
                      obtain ⟨q0_BV, q1_BV, q2_BV, q3_BV, qf_BV, ql_BV⟩ := BV.four
                      obtain ⟨q0_BG, q1_BG, q2_BG, q3_BG, q4_BG, q5_BG, q6_BG, q7_BG, q8_BG, qf_BG, ql_BG⟩ := BG.nine
                      go_wp2_with fail
                      clear q0_BV q1_BV q2_BV q3_BV qf_BV ql_BV
                      clear q0_BG q1_BG q2_BG q3_BG q4_BG q5_BG q6_BG q7_BG q8_BG qf_BG ql_BG
                      refine (HP.out _).mono ?_
                      rintro e w3 ⟨rfl, hb3⟩
                      replace BV := BV.below hb3
                      replace BG := BG.below hb3
                      replace r1 := r1.below hb3
                      replace r2 := r2.below hb3
                      have hz3 := hb3.size
                      replace hb := chain hb hb3
                      clear hb3
                      obtain ⟨q0_BV, q1_BV, q2_BV, q3_BV, qf_BV, ql_BV⟩ := BV.four
                      obtain ⟨q0_BG, q1_BG, q2_BG, q3_BG, q4_BG, q5_BG, q6_BG, q7_BG, q8_BG, qf_BG, ql_BG⟩ := BG.nine
                      go_wp2_with fail
                      clear q0_BV q1_BV q2_BV q3_BV qf_BV ql_BV
                      clear q0_BG q1_BG q2_BG q3_BG q4_BG q5_BG q6_BG q7_BG q8_BG qf_BG ql_BG
                      refine (HT.out _).mono ?_
                      rintro e w4 ⟨rfl, hb4⟩
                      replace BV := BV.below hb4
                      replace BG := BG.below hb4
                      replace r1 := r1.below hb4
                      replace r2 := r2.below hb4
                      have hz4 := hb4.size
                      replace hb := chain hb hb4
                      clear hb4
                      obtain ⟨q0_BV, q1_BV, q2_BV, q3_BV, qf_BV, ql_BV⟩ := BV.four
                      obtain ⟨q0_BG, q1_BG, q2_BG, q3_BG, q4_BG, q5_BG, q6_BG, q7_BG, q8_BG, qf_BG, ql_BG⟩ := BG.nine
                      go_wp2_with fail
                      clear q0_BV q1_BV q2_BV q3_BV qf_BV ql_BV
                      clear q0_BG q1_BG q2_BG q3_BG q4_BG q5_BG q6_BG q7_BG q8_BG qf_BG ql_BG
                      refine (HR.out (by simp) _).mono ?_
                      rintro e w5 ⟨rfl, hb5⟩
                      replace BV := BV.below hb5
                      replace BG := BG.below hb5
                      replace r1 := r1.below hb5
                      replace r2 := r2.below hb5
                      have hz5 := hb5.size
                      replace hb := chain hb hb5
                      clear hb5
                      obtain ⟨q0_BV, q1_BV, q2_BV, q3_BV, qf_BV, ql_BV⟩ := BV.four
                      obtain ⟨q0_BG, q1_BG, q2_BG, q3_BG, q4_BG, q5_BG, q6_BG, q7_BG, q8_BG, qf_BG, ql_BG⟩ := BG.nine
                      go_wp2_with fail
                      clear q0_BV q1_BV q2_BV q3_BV qf_BV ql_BV
                      clear q0_BG q1_BG q2_BG q3_BG q4_BG q5_BG q6_BG q7_BG q8_BG qf_BG ql_BG
                      refine (HO.out (by simp) _ r1 r2).mono ?_
                      rintro e w6 ⟨rfl, hb6⟩
                      replace BV := BV.below hb6
                      replace BG := BG.below hb6
                      replace r1 := r1.below hb6
                      replace r2 := r2.below hb6
                      have hz6 := hb6.size
                      replace hb := chain hb hb6
                      clear hb6
                      obtain ⟨q0_BV, q1_BV, q2_BV, q3_BV, qf_BV, ql_BV⟩ := BV.four
                      obtain ⟨q0_BG, q1_BG, q2_BG, q3_BG, q4_BG, q5_BG, q6_BG, q7_BG, q8_BG, qf_BG, ql_BG⟩ := BG.nine
                      go_wp2_with fail
                      go_ret
                      exact ⟨rfl, hb⟩
                    · have f_er : (re == 0) = false := by rw [beq_eq_false_iff_ne]; exact er
                      rw [f_er]
                      clear er
                      (try simp only [Bool.false_and, Bool.true_and, Bool.and_false, Bool.and_true, Bool.not_true, Bool.not_false])
                      go_enter Try.func91, Try.ntmps91
                      obtain ⟨x0, x1, x2, x3, xf, xl⟩ := BV.four
                      obtain ⟨ga0, ga1, ga2, ga3, ga4, ga5, ga6, ga7, ga8, gaf, gal⟩ := BG.nine
                      go_wp2_with fail
                      clear x0 x1 x2 x3 xf xl
                      clear ga0 ga1 ga2 ga3 ga4 ga5 ga6 ga7 ga8 gaf gal
                      generalize ((w.alloc (.cells #[.int .i64 p, .int .i64 c, .int .i64 h, .int .i64 s] 32)).alloc (.cells #[.slice a1 n1 c1, .slice a2 n2 c2, .int .i64 pl, .int .i64 ra, .int .i64 rb, .int .i64 ph, .int .i64 wi, .int .i64 re, .int .i64 tu] 70)) = v0 at *
                      obtain ⟨q0_BV, q1_BV, q2_BV, q3_BV, qf_BV, ql_BV⟩ := BV.four
                      obtain ⟨q0_BG, q1_BG, q2_BG, q3_BG, q4_BG, q5_BG, q6_BG, q7_BG, q8_BG, qf_BG, ql_BG⟩ := BG.nine
                      go_wp2_with fail
                      clear q0_BV q1_BV q2_BV q3_BV qf_BV ql_BV
                      clear q0_BG q1_BG q2_BG q3_BG q4_BG q5_BG q6_BG q7_BG q8_BG qf_BG ql_BG
                      refine (HV.out _).mono ?_
                      rintro e w1 ⟨rfl, hb1⟩
                      replace BV := BV.below hb1
                      replace BG := BG.below hb1
                      replace r1 := r1.below hb1
                      replace r2 := r2.below hb1
                      have hz1 := hb1.size
                      replace hb := chain hb hb1
                      clear hb1
                      obtain ⟨q0_BV, q1_BV, q2_BV, q3_BV, qf_BV, ql_BV⟩ := BV.four
                      obtain ⟨q0_BG, q1_BG, q2_BG, q3_BG, q4_BG, q5_BG, q6_BG, q7_BG, q8_BG, qf_BG, ql_BG⟩ := BG.nine
                      go_wp2_with fail
                      clear q0_BV q1_BV q2_BV q3_BV qf_BV ql_BV
                      clear q0_BG q1_BG q2_BG q3_BG q4_BG q5_BG q6_BG q7_BG q8_BG qf_BG ql_BG
                      refine (HI.out _ r1 r2).mono ?_
                      rintro e w2 ⟨rfl, hb2⟩
                      replace BV := BV.below hb2
                      replace BG := BG.below hb2
                      replace r1 := r1.below hb2
                      replace r2 := r2.below hb2
                      have hz2 := hb2.size
                      replace hb := chain hb hb2
                      clear hb2
                      obtain ⟨q0_BV, q1_BV, q2_BV, q3_BV, qf_BV, ql_BV⟩ := BV.four
                      obtain ⟨q0_BG, q1_BG, q2_BG, q3_BG, q4_BG, q5_BG, q6_BG, q7_BG, q8_BG, qf_BG, ql_BG⟩ := BG.nine
                      go_wp2_with fail
                      clear q0_BV q1_BV q2_BV q3_BV qf_BV ql_BV
                      clear q0_BG q1_BG q2_BG q3_BG q4_BG q5_BG q6_BG q7_BG q8_BG qf_BG ql_BG
                      refine (HP.out _).mono ?_
                      rintro e w3 ⟨rfl, hb3⟩
                      replace BV := BV.below hb3
                      replace BG := BG.below hb3
                      replace r1 := r1.below hb3
                      replace r2 := r2.below hb3
                      have hz3 := hb3.size
                      replace hb := chain hb hb3
                      clear hb3
                      obtain ⟨q0_BV, q1_BV, q2_BV, q3_BV, qf_BV, ql_BV⟩ := BV.four
                      obtain ⟨q0_BG, q1_BG, q2_BG, q3_BG, q4_BG, q5_BG, q6_BG, q7_BG, q8_BG, qf_BG, ql_BG⟩ := BG.nine
                      go_wp2_with fail
                      clear q0_BV q1_BV q2_BV q3_BV qf_BV ql_BV
                      clear q0_BG q1_BG q2_BG q3_BG q4_BG q5_BG q6_BG q7_BG q8_BG qf_BG ql_BG
                      refine (HT.out _).mono ?_
                      rintro e w4 ⟨rfl, hb4⟩
                      replace BV := BV.below hb4
                      replace BG := BG.below hb4
                      replace r1 := r1.below hb4
                      replace r2 := r2.below hb4
                      have hz4 := hb4.size
                      replace hb := chain hb hb4
                      clear hb4
                      obtain ⟨q0_BV, q1_BV, q2_BV, q3_BV, qf_BV, ql_BV⟩ := BV.four
                      obtain ⟨q0_BG, q1_BG, q2_BG, q3_BG, q4_BG, q5_BG, q6_BG, q7_BG, q8_BG, qf_BG, ql_BG⟩ := BG.nine
                      go_wp2_with fail
                      clear q0_BV q1_BV q2_BV q3_BV qf_BV ql_BV
                      clear q0_BG q1_BG q2_BG q3_BG q4_BG q5_BG q6_BG q7_BG q8_BG qf_BG ql_BG
                      refine (HR.out (by simp) _).mono ?_
                      rintro e w5 ⟨rfl, hb5⟩
                      replace BV := BV.below hb5
                      replace BG := BG.below hb5
                      replace r1 := r1.below hb5
                      replace r2 := r2.below hb5
                      have hz5 := hb5.size
                      replace hb := chain hb hb5
                      clear hb5
                      obtain ⟨q0_BV, q1_BV, q2_BV, q3_BV, qf_BV, ql_BV⟩ := BV.four
                      obtain ⟨q0_BG, q1_BG, q2_BG, q3_BG, q4_BG, q5_BG, q6_BG, q7_BG, q8_BG, qf_BG, ql_BG⟩ := BG.nine
                      go_wp2_with fail
                      clear q0_BV q1_BV q2_BV q3_BV qf_BV ql_BV
                      clear q0_BG q1_BG q2_BG q3_BG q4_BG q5_BG q6_BG q7_BG q8_BG qf_BG ql_BG
                      refine (HO.out (by simp) _ r1 r2).mono ?_
                      rintro e w6 ⟨rfl, hb6⟩
                      replace BV := BV.below hb6
                      replace BG := BG.below hb6
                      replace r1 := r1.below hb6
                      replace r2 := r2.below hb6
                      have hz6 := hb6.size
                      replace hb := chain hb hb6
                      clear hb6
                      obtain ⟨q0_BV, q1_BV, q2_BV, q3_BV, qf_BV, ql_BV⟩ := BV.four
                      obtain ⟨q0_BG, q1_BG, q2_BG, q3_BG, q4_BG, q5_BG, q6_BG, q7_BG, q8_BG, qf_BG, ql_BG⟩ := BG.nine
                      go_wp2_with fail
                      go_ret
                      exact ⟨rfl, hb⟩
                  · have f_ew : (wi == 0) = false := by rw [beq_eq_false_iff_ne]; exact ew
                    rw [f_ew]
                    clear ew
                    (try simp only [Bool.false_and, Bool.true_and, Bool.and_false, Bool.and_true, Bool.not_true, Bool.not_false])
                    go_enter Try.func91, Try.ntmps91
                    obtain ⟨x0, x1, x2, x3, xf, xl⟩ := BV.four
                    obtain ⟨ga0, ga1, ga2, ga3, ga4, ga5, ga6, ga7, ga8, gaf, gal⟩ := BG.nine
                    go_wp2_with fail
                    clear x0 x1 x2 x3 xf xl
                    clear ga0 ga1 ga2 ga3 ga4 ga5 ga6 ga7 ga8 gaf gal
                    generalize ((w.alloc (.cells #[.int .i64 p, .int .i64 c, .int .i64 h, .int .i64 s] 32)).alloc (.cells #[.slice a1 n1 c1, .slice a2 n2 c2, .int .i64 pl, .int .i64 ra, .int .i64 rb, .int .i64 ph, .int .i64 wi, .int .i64 re, .int .i64 tu] 70)) = v0 at *
                    obtain ⟨q0_BV, q1_BV, q2_BV, q3_BV, qf_BV, ql_BV⟩ := BV.four
                    obtain ⟨q0_BG, q1_BG, q2_BG, q3_BG, q4_BG, q5_BG, q6_BG, q7_BG, q8_BG, qf_BG, ql_BG⟩ := BG.nine
                    go_wp2_with fail
                    clear q0_BV q1_BV q2_BV q3_BV qf_BV ql_BV
                    clear q0_BG q1_BG q2_BG q3_BG q4_BG q5_BG q6_BG q7_BG q8_BG qf_BG ql_BG
                    refine (HV.out _).mono ?_
                    rintro e w1 ⟨rfl, hb1⟩
                    replace BV := BV.below hb1
                    replace BG := BG.below hb1
                    replace r1 := r1.below hb1
                    replace r2 := r2.below hb1
                    have hz1 := hb1.size
                    replace hb := chain hb hb1
                    clear hb1
                    obtain ⟨q0_BV, q1_BV, q2_BV, q3_BV, qf_BV, ql_BV⟩ := BV.four
                    obtain ⟨q0_BG, q1_BG, q2_BG, q3_BG, q4_BG, q5_BG, q6_BG, q7_BG, q8_BG, qf_BG, ql_BG⟩ := BG.nine
                    go_wp2_with fail
                    clear q0_BV q1_BV q2_BV q3_BV qf_BV ql_BV
                    clear q0_BG q1_BG q2_BG q3_BG q4_BG q5_BG q6_BG q7_BG q8_BG qf_BG ql_BG
                    refine (HI.out _ r1 r2).mono ?_
                    rintro e w2 ⟨rfl, hb2⟩
                    replace BV := BV.below hb2
                    replace BG := BG.below hb2
                    replace r1 := r1.below hb2
                    replace r2 := r2.below hb2
                    have hz2 := hb2.size
                    replace hb := chain hb hb2
                    clear hb2
                    obtain ⟨q0_BV, q1_BV, q2_BV, q3_BV, qf_BV, ql_BV⟩ := BV.four
                    obtain ⟨q0_BG, q1_BG, q2_BG, q3_BG, q4_BG, q5_BG, q6_BG, q7_BG, q8_BG, qf_BG, ql_BG⟩ := BG.nine
                    go_wp2_with fail
                    clear q0_BV q1_BV q2_BV q3_BV qf_BV ql_BV
                    clear q0_BG q1_BG q2_BG q3_BG q4_BG q5_BG q6_BG q7_BG q8_BG qf_BG ql_BG
                    refine (HP.out _).mono ?_
                    rintro e w3 ⟨rfl, hb3⟩
                    replace BV := BV.below hb3
                    replace BG := BG.below hb3
                    replace r1 := r1.below hb3
                    replace r2 := r2.below hb3
                    have hz3 := hb3.size
                    replace hb := chain hb hb3
                    clear hb3
                    obtain ⟨q0_BV, q1_BV, q2_BV, q3_BV, qf_BV, ql_BV⟩ := BV.four
                    obtain ⟨q0_BG, q1_BG, q2_BG, q3_BG, q4_BG, q5_BG, q6_BG, q7_BG, q8_BG, qf_BG, ql_BG⟩ := BG.nine
                    go_wp2_with fail
                    clear q0_BV q1_BV q2_BV q3_BV qf_BV ql_BV
                    clear q0_BG q1_BG q2_BG q3_BG q4_BG q5_BG q6_BG q7_BG q8_BG qf_BG ql_BG
                    refine (HT.out _).mono ?_
                    rintro e w4 ⟨rfl, hb4⟩
                    replace BV := BV.below hb4
                    replace BG := BG.below hb4
                    replace r1 := r1.below hb4
                    replace r2 := r2.below hb4
                    have hz4 := hb4.size
                    replace hb := chain hb hb4
                    clear hb4
                    obtain ⟨q0_BV, q1_BV, q2_BV, q3_BV, qf_BV, ql_BV⟩ := BV.four
                    obtain ⟨q0_BG, q1_BG, q2_BG, q3_BG, q4_BG, q5_BG, q6_BG, q7_BG, q8_BG, qf_BG, ql_BG⟩ := BG.nine
                    go_wp2_with fail
                    clear q0_BV q1_BV q2_BV q3_BV qf_BV ql_BV
                    clear q0_BG q1_BG q2_BG q3_BG q4_BG q5_BG q6_BG q7_BG q8_BG qf_BG ql_BG
                    refine (HR.out (by simp) _).mono ?_
                    rintro e w5 ⟨rfl, hb5⟩
                    replace BV := BV.below hb5
                    replace BG := BG.below hb5
                    replace r1 := r1.below hb5
                    replace r2 := r2.below hb5
                    have hz5 := hb5.size
                    replace hb := chain hb hb5
                    clear hb5
                    obtain ⟨q0_BV, q1_BV, q2_BV, q3_BV, qf_BV, ql_BV⟩ := BV.four
                    obtain ⟨q0_BG, q1_BG, q2_BG, q3_BG, q4_BG, q5_BG, q6_BG, q7_BG, q8_BG, qf_BG, ql_BG⟩ := BG.nine
                    go_wp2_with fail
                    clear q0_BV q1_BV q2_BV q3_BV qf_BV ql_BV
                    clear q0_BG q1_BG q2_BG q3_BG q4_BG q5_BG q6_BG q7_BG q8_BG qf_BG ql_BG
                    refine (HO.out (by simp) _ r1 r2).mono ?_
                    rintro e w6 ⟨rfl, hb6⟩
                    replace BV := BV.below hb6
                    replace BG := BG.below hb6
                    replace r1 := r1.below hb6
                    replace r2 := r2.below hb6
                    have hz6 := hb6.size
                    replace hb := chain hb hb6
                    clear hb6
                    obtain ⟨q0_BV, q1_BV, q2_BV, q3_BV, qf_BV, ql_BV⟩ := BV.four
                    obtain ⟨q0_BG, q1_BG, q2_BG, q3_BG, q4_BG, q5_BG, q6_BG, q7_BG, q8_BG, qf_BG, ql_BG⟩ := BG.nine
                    go_wp2_with fail
                    go_ret
                    exact ⟨rfl, hb⟩
                | true =>
                  (try simp only [Bool.false_and, Bool.true_and, Bool.and_false, Bool.and_true, Bool.not_true, Bool.not_false])
                  go_enter Try.func91, Try.ntmps91
                  obtain ⟨x0, x1, x2, x3, xf, xl⟩ := BV.four
                  obtain ⟨ga0, ga1, ga2, ga3, ga4, ga5, ga6, ga7, ga8, gaf, gal⟩ := BG.nine
                  go_wp2_with fail
                  clear x0 x1 x2 x3 xf xl
                  clear ga0 ga1 ga2 ga3 ga4 ga5 ga6 ga7 ga8 gaf gal
                  generalize ((w.alloc (.cells #[.int .i64 p, .int .i64 c, .int .i64 h, .int .i64 s] 32)).alloc (.cells #[.slice a1 n1 c1, .slice a2 n2 c2, .int .i64 pl, .int .i64 ra, .int .i64 rb, .int .i64 ph, .int .i64 wi, .int .i64 re, .int .i64 tu] 70)) = v0 at *
                  obtain ⟨q0_BV, q1_BV, q2_BV, q3_BV, qf_BV, ql_BV⟩ := BV.four
                  obtain ⟨q0_BG, q1_BG, q2_BG, q3_BG, q4_BG, q5_BG, q6_BG, q7_BG, q8_BG, qf_BG, ql_BG⟩ := BG.nine
                  go_wp2_with fail
                  clear q0_BV q1_BV q2_BV q3_BV qf_BV ql_BV
                  clear q0_BG q1_BG q2_BG q3_BG q4_BG q5_BG q6_BG q7_BG q8_BG qf_BG ql_BG
                  refine (HV.out _).mono ?_
                  rintro e w1 ⟨rfl, hb1⟩
                  replace BV := BV.below hb1
                  replace BG := BG.below hb1
                  replace r1 := r1.below hb1
                  replace r2 := r2.below hb1
                  have hz1 := hb1.size
                  replace hb := chain hb hb1
                  clear hb1
                  obtain ⟨q0_BV, q1_BV, q2_BV, q3_BV, qf_BV, ql_BV⟩ := BV.four
                  obtain ⟨q0_BG, q1_BG, q2_BG, q3_BG, q4_BG, q5_BG, q6_BG, q7_BG, q8_BG, qf_BG, ql_BG⟩ := BG.nine
                  go_wp2_with fail
                  clear q0_BV q1_BV q2_BV q3_BV qf_BV ql_BV
                  clear q0_BG q1_BG q2_BG q3_BG q4_BG q5_BG q6_BG q7_BG q8_BG qf_BG ql_BG
                  refine (HI.out _ r1 r2).mono ?_
                  rintro e w2 ⟨rfl, hb2⟩
                  replace BV := BV.below hb2
                  replace BG := BG.below hb2
                  replace r1 := r1.below hb2
                  replace r2 := r2.below hb2
                  have hz2 := hb2.size
                  replace hb := chain hb hb2
                  clear hb2
                  obtain ⟨q0_BV, q1_BV, q2_BV, q3_BV, qf_BV, ql_BV⟩ := BV.four
                  obtain ⟨q0_BG, q1_BG, q2_BG, q3_BG, q4_BG, q5_BG, q6_BG, q7_BG, q8_BG, qf_BG, ql_BG⟩ := BG.nine
                  go_wp2_with fail
                  clear q0_BV q1_BV q2_BV q3_BV qf_BV ql_BV
                  clear q0_BG q1_BG q2_BG q3_BG q4_BG q5_BG q6_BG q7_BG q8_BG qf_BG ql_BG
                  refine (HP.out _).mono ?_
                  rintro e w3 ⟨rfl, hb3⟩
                  replace BV := BV.below hb3
                  replace BG := BG.below hb3
                  replace r1 := r1.below hb3
                  replace r2 := r2.below hb3
                  have hz3 := hb3.size
                  replace hb := chain hb hb3
                  clear hb3
                  obtain ⟨q0_BV, q1_BV, q2_BV, q3_BV, qf_BV, ql_BV⟩ := BV.four
                  obtain ⟨q0_BG, q1_BG, q2_BG, q3_BG, q4_BG, q5_BG, q6_BG, q7_BG, q8_BG, qf_BG, ql_BG⟩ := BG.nine
                  go_wp2_with fail
                  clear q0_BV q1_BV q2_BV q3_BV qf_BV ql_BV
                  clear q0_BG q1_BG q2_BG q3_BG q4_BG q5_BG q6_BG q7_BG q8_BG qf_BG ql_BG
                  refine (HT.out _).mono ?_
                  rintro e w4 ⟨rfl, hb4⟩
                  replace BV := BV.below hb4
                  replace BG := BG.below hb4
                  replace r1 := r1.below hb4
                  replace r2 := r2.below hb4
                  have hz4 := hb4.size
                  replace hb := chain hb hb4
                  clear hb4
                  obtain ⟨q0_BV, q1_BV, q2_BV, q3_BV, qf_BV, ql_BV⟩ := BV.four
                  obtain ⟨q0_BG, q1_BG, q2_BG, q3_BG, q4_BG, q5_BG, q6_BG, q7_BG, q8_BG, qf_BG, ql_BG⟩ := BG.nine
                  go_wp2_with fail
                  clear q0_BV q1_BV q2_BV q3_BV qf_BV ql_BV
                  clear q0_BG q1_BG q2_BG q3_BG q4_BG q5_BG q6_BG q7_BG q8_BG qf_BG ql_BG
                  refine (HR.out (by simp) _).mono ?_
                  rintro e w5 ⟨rfl, hb5⟩
                  replace BV := BV.below hb5
                  replace BG := BG.below hb5
                  replace r1 := r1.below hb5
                  replace r2 := r2.below hb5
                  have hz5 := hb5.size
                  replace hb := chain hb hb5
                  clear hb5
                  obtain ⟨q0_BV, q1_BV, q2_BV, q3_BV, qf_BV, ql_BV⟩ := BV.four
                  obtain ⟨q0_BG, q1_BG, q2_BG, q3_BG, q4_BG, q5_BG, q6_BG, q7_BG, q8_BG, qf_BG, ql_BG⟩ := BG.nine
                  go_wp2_with fail
                  clear q0_BV q1_BV q2_BV q3_BV qf_BV ql_BV
                  clear q0_BG q1_BG q2_BG q3_BG q4_BG q5_BG q6_BG q7_BG q8_BG qf_BG ql_BG
                  refine (HO.out (by simp) _ r1 r2).mono ?_
                  rintro e w6 ⟨rfl, hb6⟩
                  replace BV := BV.below hb6
                  replace BG := BG.below hb6
                  replace r1 := r1.below hb6
                  replace r2 := r2.below hb6
                  have hz6 := hb6.size
                  replace hb := chain hb hb6
                  clear hb6
                  obtain ⟨q0_BV, q1_BV, q2_BV, q3_BV, qf_BV, ql_BV⟩ := BV.four
                  obtain ⟨q0_BG, q1_BG, q2_BG, q3_BG, q4_BG, q5_BG, q6_BG, q7_BG, q8_BG, qf_BG, ql_BG⟩ := BG.nine
                  go_wp2_with fail
                  go_ret
                  exact ⟨rfl, hb⟩
            · have k2 : (ph == 2) = false := by rw [beq_eq_false_iff_ne]; exact q2
              rw [if_neg q2]
              clear q2
              by_cases ea : ra = 0
              · have f_ea : (ra == 0) = true := by rw [beq_iff_eq]; exact ea
                rw [f_ea]
                clear ea
                by_cases eb : rb = 0
                · have f_eb : (rb == 0) = true := by rw [beq_iff_eq]; exact eb
                  rw [f_eb]
                  clear eb
                  simp only [Bool.true_and]
                  by_cases q0 : ph = 0
                  · have k0 : (ph == 0) = true := by rw [beq_iff_eq]; exact q0
                    rw [if_pos q0]
                    clear q0
                    by_cases e1 : pl = 0
                    · have f_e1 : (pl == 0) = true := by rw [beq_iff_eq]; exact e1
                      rw [f_e1]
                      clear e1
                      by_cases e2 : tu = 0
                      · have f_e2 : (tu == 0) = true := by rw [beq_iff_eq]; exact e2
                        rw [f_e2]
                        clear e2
                        by_cases e3 : wi = 0
                        · have f_e3 : (wi == 0) = true := by rw [beq_iff_eq]; exact e3
                          rw [f_e3]
                          clear e3
                          by_cases e4 : re = 0
                          · have f_e4 : (re == 0) = true := by rw [beq_iff_eq]; exact e4
                            rw [f_e4]
                            clear e4
                            (try simp only [Bool.false_and, Bool.true_and, Bool.and_false, Bool.and_true, Bool.not_true, Bool.not_false])
                            go_enter Try.func91, Try.ntmps91
                            obtain ⟨x0, x1, x2, x3, xf, xl⟩ := BV.four
                            obtain ⟨ga0, ga1, ga2, ga3, ga4, ga5, ga6, ga7, ga8, gaf, gal⟩ := BG.nine
                            go_wp2_with fail
                            clear x0 x1 x2 x3 xf xl
                            clear ga0 ga1 ga2 ga3 ga4 ga5 ga6 ga7 ga8 gaf gal
                            generalize ((w.alloc (.cells #[.int .i64 p, .int .i64 c, .int .i64 h, .int .i64 s] 32)).alloc (.cells #[.slice a1 n1 c1, .slice a2 n2 c2, .int .i64 pl, .int .i64 ra, .int .i64 rb, .int .i64 ph, .int .i64 wi, .int .i64 re, .int .i64 tu] 70)) = v0 at *
                            obtain ⟨q0_BV, q1_BV, q2_BV, q3_BV, qf_BV, ql_BV⟩ := BV.four
                            obtain ⟨q0_BG, q1_BG, q2_BG, q3_BG, q4_BG, q5_BG, q6_BG, q7_BG, q8_BG, qf_BG, ql_BG⟩ := BG.nine
                            go_wp2_with fail
                            clear q0_BV q1_BV q2_BV q3_BV qf_BV ql_BV
                            clear q0_BG q1_BG q2_BG q3_BG q4_BG q5_BG q6_BG q7_BG q8_BG qf_BG ql_BG
                            refine (HV.out _).mono ?_
                            rintro e w1 ⟨rfl, hb1⟩
                            replace BV := BV.below hb1
                            replace BG := BG.below hb1
                            replace r1 := r1.below hb1
                            replace r2 := r2.below hb1
                            have hz1 := hb1.size
                            replace hb := chain hb hb1
                            clear hb1
                            obtain ⟨q0_BV, q1_BV, q2_BV, q3_BV, qf_BV, ql_BV⟩ := BV.four
                            obtain ⟨q0_BG, q1_BG, q2_BG, q3_BG, q4_BG, q5_BG, q6_BG, q7_BG, q8_BG, qf_BG, ql_BG⟩ := BG.nine
                            go_wp2_with fail
                            clear q0_BV q1_BV q2_BV q3_BV qf_BV ql_BV
                            clear q0_BG q1_BG q2_BG q3_BG q4_BG q5_BG q6_BG q7_BG q8_BG qf_BG ql_BG
                            refine (HI.out _ r1 r2).mono ?_
                            rintro e w2 ⟨rfl, hb2⟩
                            replace BV := BV.below hb2
                            replace BG := BG.below hb2
                            replace r1 := r1.below hb2
                            replace r2 := r2.below hb2
                            have hz2 := hb2.size
                            replace hb := chain hb hb2
                            clear hb2
                            obtain ⟨q0_BV, q1_BV, q2_BV, q3_BV, qf_BV, ql_BV⟩ := BV.four
                            obtain ⟨q0_BG, q1_BG, q2_BG, q3_BG, q4_BG, q5_BG, q6_BG, q7_BG, q8_BG, qf_BG, ql_BG⟩ := BG.nine
                            go_wp2_with fail
                            clear q0_BV q1_BV q2_BV q3_BV qf_BV ql_BV
                            clear q0_BG q1_BG q2_BG q3_BG q4_BG q5_BG q6_BG q7_BG q8_BG qf_BG ql_BG
                            refine (HP.out _).mono ?_
                            rintro e w3 ⟨rfl, hb3⟩
                            replace BV := BV.below hb3
                            replace BG := BG.below hb3
                            replace r1 := r1.below hb3
                            replace r2 := r2.below hb3
                            have hz3 := hb3.size
                            replace hb := chain hb hb3
                            clear hb3
                            obtain ⟨q0_BV, q1_BV, q2_BV, q3_BV, qf_BV, ql_BV⟩ := BV.four
                            obtain ⟨q0_BG, q1_BG, q2_BG, q3_BG, q4_BG, q5_BG, q6_BG, q7_BG, q8_BG, qf_BG, ql_BG⟩ := BG.nine
                            go_wp2_with fail
                            clear q0_BV q1_BV q2_BV q3_BV qf_BV ql_BV
                            clear q0_BG q1_BG q2_BG q3_BG q4_BG q5_BG q6_BG q7_BG q8_BG qf_BG ql_BG
                            refine (HT.out _).mono ?_
                            rintro e w4 ⟨rfl, hb4⟩
                            replace BV := BV.below hb4
                            replace BG := BG.below hb4
                            replace r1 := r1.below hb4
                            replace r2 := r2.below hb4
                            have hz4 := hb4.size
                            replace hb := chain hb hb4
                            clear hb4
                            obtain ⟨q0_BV, q1_BV, q2_BV, q3_BV, qf_BV, ql_BV⟩ := BV.four
                            obtain ⟨q0_BG, q1_BG, q2_BG, q3_BG, q4_BG, q5_BG, q6_BG, q7_BG, q8_BG, qf_BG, ql_BG⟩ := BG.nine
                            go_wp2_with fail
                            clear q0_BV q1_BV q2_BV q3_BV qf_BV ql_BV
                            clear q0_BG q1_BG q2_BG q3_BG q4_BG q5_BG q6_BG q7_BG q8_BG qf_BG ql_BG
                            refine (HO.out (by simp) _ r1 r2).mono ?_
                            rintro e w5 ⟨rfl, hb5⟩
                            replace BV := BV.below hb5
                            replace BG := BG.below hb5
                            replace r1 := r1.below hb5
                            replace r2 := r2.below hb5
                            have hz5 := hb5.size
                            replace hb := chain hb hb5
                            clear hb5
                            obtain ⟨q0_BV, q1_BV, q2_BV, q3_BV, qf_BV, ql_BV⟩ := BV.four
                            obtain ⟨q0_BG, q1_BG, q2_BG, q3_BG, q4_BG, q5_BG, q6_BG, q7_BG, q8_BG, qf_BG, ql_BG⟩ := BG.nine
                            go_wp2_with fail
                            clear q0_BV q1_BV q2_BV q3_BV qf_BV ql_BV
                            clear q0_BG q1_BG q2_BG q3_BG q4_BG q5_BG q6_BG q7_BG q8_BG qf_BG ql_BG
                            have hd6 : w5.drew.heap.size = w5.heap.size := rfl
                            replace BV := BV.drew
                            replace BG := BG.drew
                            replace r1 := r1.drew
                            replace r2 := r2.drew
                            replace hb := hb.drew
                            refine wp_region_held_drew (S := fun w' => w'.cell? ⟨w.heap.size, 0, none⟩ = some (.int .i64 p) ∧ w'.cell? ⟨w.heap.size, 1, none⟩ = some (.int .i64 c) ∧ w'.cell? ⟨w.heap.size, 2, none⟩ = some (.int .i64 h) ∧ w'.cell? ⟨w.heap.size, 3, none⟩ = some (.int .i64 s) ∧ w'.cell? ⟨(w.heap.size + 1), 0, none⟩ = some (.slice a1 n1 c1) ∧ w'.cell? ⟨(w.heap.size + 1), 1, none⟩ = some (.slice a2 n2 c2) ∧ w'.cell? ⟨(w.heap.size + 1), 2, none⟩ = some (.int .i64 pl) ∧ w'.cell? ⟨(w.heap.size + 1), 3, none⟩ = some (.int .i64 ra) ∧ w'.cell? ⟨(w.heap.size + 1), 4, none⟩ = some (.int .i64 rb) ∧ w'.cell? ⟨(w.heap.size + 1), 5, none⟩ = some (.int .i64 ph) ∧ w'.cell? ⟨(w.heap.size + 1), 6, none⟩ = some (.int .i64 wi) ∧ w'.cell? ⟨(w.heap.size + 1), 7, none⟩ = some (.int .i64 re) ∧ w'.cell? ⟨(w.heap.size + 1), 8, none⟩ = some (.int .i64 tu)) (by kernel_rfl) ⟨BV.four.1, BV.four.2.1, BV.four.2.2.1, BV.four.2.2.2.1, BG.nine.1, BG.nine.2.1, BG.nine.2.2.1, BG.nine.2.2.2.1, BG.nine.2.2.2.2.1, BG.nine.2.2.2.2.2.1, BG.nine.2.2.2.2.2.2.1, BG.nine.2.2.2.2.2.2.2.1, BG.nine.2.2.2.2.2.2.2.2.1⟩ (fun hHeld => ?_)
                            clear hHeld
                            generalize w5.drew = vd6 at *
                            have hHeld : vd6.cell? ⟨w.heap.size, 0, none⟩ = some (.int .i64 p) ∧ vd6.cell? ⟨w.heap.size, 1, none⟩ = some (.int .i64 c) ∧ vd6.cell? ⟨w.heap.size, 2, none⟩ = some (.int .i64 h) ∧ vd6.cell? ⟨w.heap.size, 3, none⟩ = some (.int .i64 s) ∧ vd6.cell? ⟨(w.heap.size + 1), 0, none⟩ = some (.slice a1 n1 c1) ∧ vd6.cell? ⟨(w.heap.size + 1), 1, none⟩ = some (.slice a2 n2 c2) ∧ vd6.cell? ⟨(w.heap.size + 1), 2, none⟩ = some (.int .i64 pl) ∧ vd6.cell? ⟨(w.heap.size + 1), 3, none⟩ = some (.int .i64 ra) ∧ vd6.cell? ⟨(w.heap.size + 1), 4, none⟩ = some (.int .i64 rb) ∧ vd6.cell? ⟨(w.heap.size + 1), 5, none⟩ = some (.int .i64 ph) ∧ vd6.cell? ⟨(w.heap.size + 1), 6, none⟩ = some (.int .i64 wi) ∧ vd6.cell? ⟨(w.heap.size + 1), 7, none⟩ = some (.int .i64 re) ∧ vd6.cell? ⟨(w.heap.size + 1), 8, none⟩ = some (.int .i64 tu) := ⟨BV.four.1, BV.four.2.1, BV.four.2.2.1, BV.four.2.2.2.1, BG.nine.1, BG.nine.2.1, BG.nine.2.2.1, BG.nine.2.2.2.1, BG.nine.2.2.2.2.1, BG.nine.2.2.2.2.2.1, BG.nine.2.2.2.2.2.2.1, BG.nine.2.2.2.2.2.2.2.1, BG.nine.2.2.2.2.2.2.2.2.1⟩
                            refine wpAnyH_take (i := 0) (oi := { dst := some 52, op := _, type := _, pos := _, after := _, guard := _ }) (v := ?_) rfl (by kernel_rfl) (by kernel_rfl) (by kernel_rfl) (fun _ _ _ h => h) (Or.inl ⟨by rfl, ?_⟩) (by assumption) ?_
                            rotate_left
                            · intro w hSw
                              (try dsimp only at hSw)
                              go_simp
                              (try (with_reducible rfl))
                            try simp only [Act.put, List.setIfInBounds_toArray, List.set_cons_zero, List.set_cons_succ]
                            refine wpAnyH_take (i := 1) (oi := { dst := some 53, op := _, type := _, pos := _, after := _, guard := _ }) (v := ?_) rfl (by kernel_rfl) (by kernel_rfl) (by kernel_rfl) (fun _ _ _ h => h) (Or.inl ⟨by rfl, ?_⟩) (by assumption) ?_
                            rotate_left
                            · intro w hSw
                              (try dsimp only at hSw)
                              go_simp
                              (try (with_reducible rfl))
                            try simp only [Act.put, List.setIfInBounds_toArray, List.set_cons_zero, List.set_cons_succ]
                            refine wpAnyH_take (i := 2) (oi := { dst := some 54, op := _, type := _, pos := _, after := _, guard := _ }) (v := ?_) rfl (by kernel_rfl) (by kernel_rfl) (by kernel_rfl) (fun _ _ _ h => h) (Or.inl ⟨by rfl, ?_⟩) (by assumption) ?_
                            rotate_left
                            · intro w hSw
                              (try dsimp only at hSw)
                              go_simp
                              (try (with_reducible rfl))
                            try simp only [Act.put, List.setIfInBounds_toArray, List.set_cons_zero, List.set_cons_succ]
                            refine wpAnyH_take (i := 3) (oi := { dst := some 55, op := _, type := _, pos := _, after := _, guard := _ }) (v := ?_) rfl (by kernel_rfl) (by kernel_rfl) (by kernel_rfl) (fun _ _ _ h => h) (Or.inl ⟨by rfl, ?_⟩) (by assumption) ?_
                            rotate_left
                            · intro w hSw
                              (try dsimp only at hSw)
                              go_simp
                              (try (with_reducible rfl))
                            try simp only [Act.put, List.setIfInBounds_toArray, List.set_cons_zero, List.set_cons_succ]
                            refine wpAnyH_take (i := 4) (oi := { dst := some 56, op := _, type := _, pos := _, after := _, guard := _ }) (v := ?_) rfl (by kernel_rfl) (by kernel_rfl) (by kernel_rfl) (fun _ _ _ h => h) (Or.inl ⟨by rfl, ?_⟩) (by assumption) ?_
                            rotate_left
                            · intro w hSw
                              (try dsimp only at hSw)
                              go_simp
                              (try (with_reducible rfl))
                            try simp only [Act.put, List.setIfInBounds_toArray, List.set_cons_zero, List.set_cons_succ]
                            refine wpAnyH_take (i := 5) (oi := { dst := some 57, op := _, type := _, pos := _, after := _, guard := _ }) (v := ?_) rfl (by kernel_rfl) (by kernel_rfl) (by kernel_rfl) (fun _ _ _ h => h) (Or.inl ⟨by rfl, ?_⟩) (by assumption) ?_
                            rotate_left
                            · intro w hSw
                              (try dsimp only at hSw)
                              go_simp
                              (try (with_reducible rfl))
                            try simp only [Act.put, List.setIfInBounds_toArray, List.set_cons_zero, List.set_cons_succ]
                            refine wpAnyH_take (i := 6) (oi := { dst := some 58, op := _, type := _, pos := _, after := _, guard := _ }) (v := ?_) rfl (by kernel_rfl) (by kernel_rfl) (by kernel_rfl) (fun _ _ _ h => h) (Or.inl ⟨by rfl, ?_⟩) (by assumption) ?_
                            rotate_left
                            · intro w hSw
                              (try dsimp only at hSw)
                              go_simp
                              (try (with_reducible rfl))
                            try simp only [Act.put, List.setIfInBounds_toArray, List.set_cons_zero, List.set_cons_succ]
                            refine wpAnyH_take (i := 7) (oi := { dst := some 59, op := _, type := _, pos := _, after := _, guard := _ }) (v := ?_) rfl (by kernel_rfl) (by kernel_rfl) (by kernel_rfl) (fun _ _ _ h => h) (Or.inl ⟨by rfl, ?_⟩) (by assumption) ?_
                            rotate_left
                            · intro w hSw
                              (try dsimp only at hSw)
                              go_simp
                              (try (with_reducible rfl))
                            try simp only [Act.put, List.setIfInBounds_toArray, List.set_cons_zero, List.set_cons_succ]
                            refine wpAnyH_take (i := 8) (oi := { dst := some 60, op := _, type := _, pos := _, after := _, guard := _ }) (v := ?_) rfl (by kernel_rfl) (by kernel_rfl) (by kernel_rfl) (fun _ _ _ h => h) (Or.inl ⟨by rfl, ?_⟩) (by assumption) ?_
                            rotate_left
                            · intro w hSw
                              (try dsimp only at hSw)
                              go_simp
                              (try (with_reducible rfl))
                            try simp only [Act.put, List.setIfInBounds_toArray, List.set_cons_zero, List.set_cons_succ]
                            refine wpAnyH_take (i := 9) (oi := { dst := some 61, op := _, type := _, pos := _, after := _, guard := _ }) (v := ?_) rfl (by kernel_rfl) (by kernel_rfl) (by kernel_rfl) (fun _ _ _ h => h) (Or.inl ⟨by rfl, ?_⟩) (by assumption) ?_
                            rotate_left
                            · intro w hSw
                              (try dsimp only at hSw)
                              go_simp
                              (try (with_reducible rfl))
                            try simp only [Act.put, List.setIfInBounds_toArray, List.set_cons_zero, List.set_cons_succ]
                            refine wpAnyH_take (i := 10) (oi := { dst := some 62, op := _, type := _, pos := _, after := _, guard := _ }) (v := ?_) rfl (by kernel_rfl) (by kernel_rfl) (by kernel_rfl) (fun _ _ _ h => h) (Or.inl ⟨by rfl, ?_⟩) (by assumption) ?_
                            rotate_left
                            · intro w hSw
                              (try dsimp only at hSw)
                              go_simp
                              (try (with_reducible rfl))
                            try simp only [Act.put, List.setIfInBounds_toArray, List.set_cons_zero, List.set_cons_succ]
                            refine wpAnyH_take (i := 11) (oi := { dst := some 63, op := _, type := _, pos := _, after := _, guard := _ }) (v := ?_) rfl (by kernel_rfl) (by kernel_rfl) (by kernel_rfl) (fun _ _ _ h => h) (Or.inl ⟨by rfl, ?_⟩) (by assumption) ?_
                            rotate_left
                            · intro w hSw
                              (try dsimp only at hSw)
                              go_simp
                              (try (with_reducible rfl))
                            try simp only [Act.put, List.setIfInBounds_toArray, List.set_cons_zero, List.set_cons_succ]
                            refine wpAnyH_take (i := 12) (oi := { dst := some 64, op := _, type := _, pos := _, after := _, guard := _ }) (v := ?_) rfl (by kernel_rfl) (by kernel_rfl) (by kernel_rfl) (fun _ _ _ h => h) (Or.inl ⟨by rfl, ?_⟩) (by assumption) ?_
                            rotate_left
                            · intro w hSw
                              (try dsimp only at hSw)
                              go_simp
                              (try (with_reducible rfl))
                            try simp only [Act.put, List.setIfInBounds_toArray, List.set_cons_zero, List.set_cons_succ]
                            refine wpAnyH_take (i := 13) (oi := { dst := some 65, op := _, type := _, pos := _, after := _, guard := _ }) (v := ?_) rfl (by kernel_rfl) (by kernel_rfl) (by kernel_rfl) (fun _ _ _ h => h) (Or.inl ⟨by rfl, ?_⟩) (by assumption) ?_
                            rotate_left
                            · intro w hSw
                              (try dsimp only at hSw)
                              go_simp
                              (try (with_reducible rfl))
                            try simp only [Act.put, List.setIfInBounds_toArray, List.set_cons_zero, List.set_cons_succ]
                            refine wpAnyH_take (i := 14) (oi := { dst := some 66, op := _, type := _, pos := _, after := _, guard := _ }) (v := ?_) rfl (by kernel_rfl) (by kernel_rfl) (by kernel_rfl) (fun _ _ _ h => h) (Or.inl ⟨by rfl, ?_⟩) (by assumption) ?_
                            rotate_left
                            · intro w hSw
                              (try dsimp only at hSw)
                              go_simp
                              (try (with_reducible rfl))
                            try simp only [Act.put, List.setIfInBounds_toArray, List.set_cons_zero, List.set_cons_succ]
                            refine wpAnyH_take (i := 15) (oi := { dst := some 67, op := _, type := _, pos := _, after := _, guard := _ }) (v := ?_) rfl (by kernel_rfl) (by kernel_rfl) (by kernel_rfl) (fun _ _ _ h => h) (Or.inl ⟨by rfl, ?_⟩) (by assumption) ?_
                            rotate_left
                            · intro w hSw
                              (try dsimp only at hSw)
                              go_simp
                              (try (with_reducible rfl))
                            try simp only [Act.put, List.setIfInBounds_toArray, List.set_cons_zero, List.set_cons_succ]
                            refine wpAnyH_take (i := 16) (oi := { dst := some 68, op := _, type := _, pos := _, after := _, guard := _ }) (v := ?_) rfl (by kernel_rfl) (by kernel_rfl) (by kernel_rfl) (fun _ _ _ h => h) (Or.inl ⟨by rfl, ?_⟩) (by assumption) ?_
                            rotate_left
                            · intro w hSw
                              (try dsimp only at hSw)
                              go_simp
                              (try (with_reducible rfl))
                            try simp only [Act.put, List.setIfInBounds_toArray, List.set_cons_zero, List.set_cons_succ]
                            refine wpAnyH_take (i := 17) (oi := { dst := some 69, op := _, type := _, pos := _, after := _, guard := _ }) (v := ?_) rfl (by kernel_rfl) (by kernel_rfl) (by kernel_rfl) (fun _ _ _ h => h) (Or.inl ⟨by rfl, ?_⟩) (by assumption) ?_
                            rotate_left
                            · intro w hSw
                              (try dsimp only at hSw)
                              go_simp
                              (try (with_reducible rfl))
                            try simp only [Act.put, List.setIfInBounds_toArray, List.set_cons_zero, List.set_cons_succ]
                            refine wpAnyH_take (i := 18) (oi := { dst := some 70, op := _, type := _, pos := _, after := _, guard := _ }) (v := ?_) rfl (by kernel_rfl) (by kernel_rfl) (by kernel_rfl) (fun _ _ _ h => h) (Or.inl ⟨by rfl, ?_⟩) (by assumption) ?_
                            rotate_left
                            · intro w hSw
                              (try dsimp only at hSw)
                              go_simp
                              (try (with_reducible rfl))
                            try simp only [Act.put, List.setIfInBounds_toArray, List.set_cons_zero, List.set_cons_succ]
                            refine wpAnyH_take (i := 19) (oi := { dst := some 71, op := _, type := _, pos := _, after := _, guard := _ }) (v := ?_) rfl (by kernel_rfl) (by kernel_rfl) (by kernel_rfl) (fun _ _ _ h => h) (Or.inl ⟨by rfl, ?_⟩) (by assumption) ?_
                            rotate_left
                            · intro w hSw
                              (try dsimp only at hSw)
                              go_simp
                              (try (with_reducible rfl))
                            try simp only [Act.put, List.setIfInBounds_toArray, List.set_cons_zero, List.set_cons_succ]
                            refine wpAnyH_take (i := 20) (oi := { dst := some 72, op := _, type := _, pos := _, after := _, guard := _ }) (v := ?_) rfl (by kernel_rfl) (by kernel_rfl) (by kernel_rfl) (fun _ _ _ h => h) (Or.inl ⟨by rfl, ?_⟩) (by assumption) ?_
                            rotate_left
                            · intro w hSw
                              (try dsimp only at hSw)
                              go_simp
                              (try (with_reducible rfl))
                            try simp only [Act.put, List.setIfInBounds_toArray, List.set_cons_zero, List.set_cons_succ]
                            refine wpAnyH_take (i := 21) (oi := { dst := some 73, op := _, type := _, pos := _, after := _, guard := _ }) (v := ?_) rfl (by kernel_rfl) (by kernel_rfl) (by kernel_rfl) (fun _ _ _ h => h) (Or.inl ⟨by rfl, ?_⟩) (by assumption) ?_
                            rotate_left
                            · intro w hSw
                              (try dsimp only at hSw)
                              go_simp
                              (try (with_reducible rfl))
                            try simp only [Act.put, List.setIfInBounds_toArray, List.set_cons_zero, List.set_cons_succ]
                            refine wpAnyH_ready (rs := [22]) (by kernel_rfl) (by simp) ?_
                            refine AllReadyH.cons (o := { dst := some 74, op := _, type := _, pos := _, after := _, guard := _ }) rfl (fun K hK => ?_) AllReadyH.nil
                            go_simp
                            refine (HN.out (by simp) q4 _).mono ?_
                            rintro e w7 ⟨b1, b2, rfl, hq1, hq2, R1, R2, hb7⟩
                            replace BV := BV.below hb7
                            replace BG := BG.below hb7
                            replace r1 := r1.below hb7
                            replace r2 := r2.below hb7
                            have hz7 := hb7.size
                            replace hb := chain hb hb7
                            clear hb7
                            (try go_wp2_with fail)
                            refine hK.out _ _ ⟨BV.four.1, BV.four.2.1, BV.four.2.2.1, BV.four.2.2.2.1, BG.nine.1, BG.nine.2.1, BG.nine.2.2.1, BG.nine.2.2.2.1, BG.nine.2.2.2.2.1, BG.nine.2.2.2.2.2.1, BG.nine.2.2.2.2.2.2.1, BG.nine.2.2.2.2.2.2.2.1, BG.nine.2.2.2.2.2.2.2.2.1⟩ (fun hHeld => ?_)
                            clear hK K
                            try simp only [Act.put, List.setIfInBounds_toArray, List.set_cons_zero, List.set_cons_succ]
                            refine wpAnyH_take (i := 23) (oi := { dst := some 75, op := _, type := _, pos := _, after := _, guard := _ }) (v := ?_) rfl (by kernel_rfl) (by kernel_rfl) (by kernel_rfl) (fun _ _ _ h => h) (Or.inl ⟨by rfl, ?_⟩) (by assumption) ?_
                            rotate_left
                            · intro w hSw
                              (try dsimp only at hSw)
                              go_simp
                              (try (with_reducible rfl))
                            try simp only [Act.put, List.setIfInBounds_toArray, List.set_cons_zero, List.set_cons_succ]
                            refine wpAnyH_ready (rs := [24]) (by kernel_rfl) (by simp) ?_
                            refine AllReadyH.cons (o := { dst := some 76, op := _, type := _, pos := _, after := _, guard := _ }) rfl (fun K hK => ?_) AllReadyH.nil
                            go_simp
                            refine (HS.out (by simp) b1 b2 _ r1 r2 R1 R2).mono ?_
                            rintro e w8 ⟨rfl, hb8⟩
                            replace BV := BV.below hb8
                            replace BG := BG.below hb8
                            replace r1 := r1.below hb8
                            replace r2 := r2.below hb8
                            replace R1 := R1.below hb8
                            replace R2 := R2.below hb8
                            have hz8 := hb8.size
                            replace hb := chain hb hb8
                            clear hb8
                            (try go_wp2_with fail)
                            refine hK.out _ _ ⟨BV.four.1, BV.four.2.1, BV.four.2.2.1, BV.four.2.2.2.1, BG.nine.1, BG.nine.2.1, BG.nine.2.2.1, BG.nine.2.2.2.1, BG.nine.2.2.2.2.1, BG.nine.2.2.2.2.2.1, BG.nine.2.2.2.2.2.2.1, BG.nine.2.2.2.2.2.2.2.1, BG.nine.2.2.2.2.2.2.2.2.1⟩ (fun hHeld => ?_)
                            clear hK K
                            try simp only [Act.put, List.setIfInBounds_toArray, List.set_cons_zero, List.set_cons_succ]
                            refine wpAnyH_take (i := 25) (oi := { dst := some 77, op := _, type := _, pos := _, after := _, guard := _ }) (v := ?_) rfl (by kernel_rfl) (by kernel_rfl) (by kernel_rfl) (fun _ _ _ h => h) (Or.inl ⟨by rfl, ?_⟩) (by assumption) ?_
                            rotate_left
                            · intro w hSw
                              (try dsimp only at hSw)
                              go_simp
                              (try (with_reducible rfl))
                            try simp only [Act.put, List.setIfInBounds_toArray, List.set_cons_zero, List.set_cons_succ]
                            refine wpAnyH_take (i := 26) (oi := { dst := some 4, op := _, type := _, pos := _, after := _, guard := _ }) (v := ?_) rfl (by kernel_rfl) (by kernel_rfl) (by kernel_rfl) (fun _ _ _ h => h) (Or.inl ⟨by rfl, ?_⟩) (by assumption) ?_
                            rotate_left
                            · intro w hSw
                              (try dsimp only at hSw)
                              go_simp
                              (try (with_reducible rfl))
                            try simp only [Act.put, List.setIfInBounds_toArray, List.set_cons_zero, List.set_cons_succ]
                            refine wpAnyH_done (by kernel_rfl) ?_ _
                            clear hHeld
                            obtain ⟨q0_BV, q1_BV, q2_BV, q3_BV, qf_BV, ql_BV⟩ := BV.four
                            obtain ⟨q0_BG, q1_BG, q2_BG, q3_BG, q4_BG, q5_BG, q6_BG, q7_BG, q8_BG, qf_BG, ql_BG⟩ := BG.nine
                            go_wp2_with fail
                            go_ret
                            exact ⟨rfl, hb⟩
                          · have f_e4 : (re == 0) = false := by rw [beq_eq_false_iff_ne]; exact e4
                            rw [f_e4]
                            clear e4
                            (try simp only [Bool.false_and, Bool.true_and, Bool.and_false, Bool.and_true, Bool.not_true, Bool.not_false])
                            go_enter Try.func91, Try.ntmps91
                            obtain ⟨x0, x1, x2, x3, xf, xl⟩ := BV.four
                            obtain ⟨ga0, ga1, ga2, ga3, ga4, ga5, ga6, ga7, ga8, gaf, gal⟩ := BG.nine
                            go_wp2_with fail
                            clear x0 x1 x2 x3 xf xl
                            clear ga0 ga1 ga2 ga3 ga4 ga5 ga6 ga7 ga8 gaf gal
                            generalize ((w.alloc (.cells #[.int .i64 p, .int .i64 c, .int .i64 h, .int .i64 s] 32)).alloc (.cells #[.slice a1 n1 c1, .slice a2 n2 c2, .int .i64 pl, .int .i64 ra, .int .i64 rb, .int .i64 ph, .int .i64 wi, .int .i64 re, .int .i64 tu] 70)) = v0 at *
                            obtain ⟨q0_BV, q1_BV, q2_BV, q3_BV, qf_BV, ql_BV⟩ := BV.four
                            obtain ⟨q0_BG, q1_BG, q2_BG, q3_BG, q4_BG, q5_BG, q6_BG, q7_BG, q8_BG, qf_BG, ql_BG⟩ := BG.nine
                            go_wp2_with fail
                            clear q0_BV q1_BV q2_BV q3_BV qf_BV ql_BV
                            clear q0_BG q1_BG q2_BG q3_BG q4_BG q5_BG q6_BG q7_BG q8_BG qf_BG ql_BG
                            refine (HV.out _).mono ?_
                            rintro e w1 ⟨rfl, hb1⟩
                            replace BV := BV.below hb1
                            replace BG := BG.below hb1
                            replace r1 := r1.below hb1
                            replace r2 := r2.below hb1
                            have hz1 := hb1.size
                            replace hb := chain hb hb1
                            clear hb1
                            obtain ⟨q0_BV, q1_BV, q2_BV, q3_BV, qf_BV, ql_BV⟩ := BV.four
                            obtain ⟨q0_BG, q1_BG, q2_BG, q3_BG, q4_BG, q5_BG, q6_BG, q7_BG, q8_BG, qf_BG, ql_BG⟩ := BG.nine
                            go_wp2_with fail
                            clear q0_BV q1_BV q2_BV q3_BV qf_BV ql_BV
                            clear q0_BG q1_BG q2_BG q3_BG q4_BG q5_BG q6_BG q7_BG q8_BG qf_BG ql_BG
                            refine (HI.out _ r1 r2).mono ?_
                            rintro e w2 ⟨rfl, hb2⟩
                            replace BV := BV.below hb2
                            replace BG := BG.below hb2
                            replace r1 := r1.below hb2
                            replace r2 := r2.below hb2
                            have hz2 := hb2.size
                            replace hb := chain hb hb2
                            clear hb2
                            obtain ⟨q0_BV, q1_BV, q2_BV, q3_BV, qf_BV, ql_BV⟩ := BV.four
                            obtain ⟨q0_BG, q1_BG, q2_BG, q3_BG, q4_BG, q5_BG, q6_BG, q7_BG, q8_BG, qf_BG, ql_BG⟩ := BG.nine
                            go_wp2_with fail
                            clear q0_BV q1_BV q2_BV q3_BV qf_BV ql_BV
                            clear q0_BG q1_BG q2_BG q3_BG q4_BG q5_BG q6_BG q7_BG q8_BG qf_BG ql_BG
                            refine (HP.out _).mono ?_
                            rintro e w3 ⟨rfl, hb3⟩
                            replace BV := BV.below hb3
                            replace BG := BG.below hb3
                            replace r1 := r1.below hb3
                            replace r2 := r2.below hb3
                            have hz3 := hb3.size
                            replace hb := chain hb hb3
                            clear hb3
                            obtain ⟨q0_BV, q1_BV, q2_BV, q3_BV, qf_BV, ql_BV⟩ := BV.four
                            obtain ⟨q0_BG, q1_BG, q2_BG, q3_BG, q4_BG, q5_BG, q6_BG, q7_BG, q8_BG, qf_BG, ql_BG⟩ := BG.nine
                            go_wp2_with fail
                            clear q0_BV q1_BV q2_BV q3_BV qf_BV ql_BV
                            clear q0_BG q1_BG q2_BG q3_BG q4_BG q5_BG q6_BG q7_BG q8_BG qf_BG ql_BG
                            refine (HT.out _).mono ?_
                            rintro e w4 ⟨rfl, hb4⟩
                            replace BV := BV.below hb4
                            replace BG := BG.below hb4
                            replace r1 := r1.below hb4
                            replace r2 := r2.below hb4
                            have hz4 := hb4.size
                            replace hb := chain hb hb4
                            clear hb4
                            obtain ⟨q0_BV, q1_BV, q2_BV, q3_BV, qf_BV, ql_BV⟩ := BV.four
                            obtain ⟨q0_BG, q1_BG, q2_BG, q3_BG, q4_BG, q5_BG, q6_BG, q7_BG, q8_BG, qf_BG, ql_BG⟩ := BG.nine
                            go_wp2_with fail
                            clear q0_BV q1_BV q2_BV q3_BV qf_BV ql_BV
                            clear q0_BG q1_BG q2_BG q3_BG q4_BG q5_BG q6_BG q7_BG q8_BG qf_BG ql_BG
                            refine (HO.out (by simp) _ r1 r2).mono ?_
                            rintro e w5 ⟨rfl, hb5⟩
                            replace BV := BV.below hb5
                            replace BG := BG.below hb5
                            replace r1 := r1.below hb5
                            replace r2 := r2.below hb5
                            have hz5 := hb5.size
                            replace hb := chain hb hb5
                            clear hb5
                            obtain ⟨q0_BV, q1_BV, q2_BV, q3_BV, qf_BV, ql_BV⟩ := BV.four
                            obtain ⟨q0_BG, q1_BG, q2_BG, q3_BG, q4_BG, q5_BG, q6_BG, q7_BG, q8_BG, qf_BG, ql_BG⟩ := BG.nine
                            go_wp2_with fail
                            clear q0_BV q1_BV q2_BV q3_BV qf_BV ql_BV
                            clear q0_BG q1_BG q2_BG q3_BG q4_BG q5_BG q6_BG q7_BG q8_BG qf_BG ql_BG
                            have hd6 : w5.drew.heap.size = w5.heap.size := rfl
                            replace BV := BV.drew
                            replace BG := BG.drew
                            replace r1 := r1.drew
                            replace r2 := r2.drew
                            replace hb := hb.drew
                            refine wp_region_held_drew (S := fun w' => w'.cell? ⟨w.heap.size, 0, none⟩ = some (.int .i64 p) ∧ w'.cell? ⟨w.heap.size, 1, none⟩ = some (.int .i64 c) ∧ w'.cell? ⟨w.heap.size, 2, none⟩ = some (.int .i64 h) ∧ w'.cell? ⟨w.heap.size, 3, none⟩ = some (.int .i64 s) ∧ w'.cell? ⟨(w.heap.size + 1), 0, none⟩ = some (.slice a1 n1 c1) ∧ w'.cell? ⟨(w.heap.size + 1), 1, none⟩ = some (.slice a2 n2 c2) ∧ w'.cell? ⟨(w.heap.size + 1), 2, none⟩ = some (.int .i64 pl) ∧ w'.cell? ⟨(w.heap.size + 1), 3, none⟩ = some (.int .i64 ra) ∧ w'.cell? ⟨(w.heap.size + 1), 4, none⟩ = some (.int .i64 rb) ∧ w'.cell? ⟨(w.heap.size + 1), 5, none⟩ = some (.int .i64 ph) ∧ w'.cell? ⟨(w.heap.size + 1), 6, none⟩ = some (.int .i64 wi) ∧ w'.cell? ⟨(w.heap.size + 1), 7, none⟩ = some (.int .i64 re) ∧ w'.cell? ⟨(w.heap.size + 1), 8, none⟩ = some (.int .i64 tu)) (by kernel_rfl) ⟨BV.four.1, BV.four.2.1, BV.four.2.2.1, BV.four.2.2.2.1, BG.nine.1, BG.nine.2.1, BG.nine.2.2.1, BG.nine.2.2.2.1, BG.nine.2.2.2.2.1, BG.nine.2.2.2.2.2.1, BG.nine.2.2.2.2.2.2.1, BG.nine.2.2.2.2.2.2.2.1, BG.nine.2.2.2.2.2.2.2.2.1⟩ (fun hHeld => ?_)
                            clear hHeld
                            generalize w5.drew = vd6 at *
                            have hHeld : vd6.cell? ⟨w.heap.size, 0, none⟩ = some (.int .i64 p) ∧ vd6.cell? ⟨w.heap.size, 1, none⟩ = some (.int .i64 c) ∧ vd6.cell? ⟨w.heap.size, 2, none⟩ = some (.int .i64 h) ∧ vd6.cell? ⟨w.heap.size, 3, none⟩ = some (.int .i64 s) ∧ vd6.cell? ⟨(w.heap.size + 1), 0, none⟩ = some (.slice a1 n1 c1) ∧ vd6.cell? ⟨(w.heap.size + 1), 1, none⟩ = some (.slice a2 n2 c2) ∧ vd6.cell? ⟨(w.heap.size + 1), 2, none⟩ = some (.int .i64 pl) ∧ vd6.cell? ⟨(w.heap.size + 1), 3, none⟩ = some (.int .i64 ra) ∧ vd6.cell? ⟨(w.heap.size + 1), 4, none⟩ = some (.int .i64 rb) ∧ vd6.cell? ⟨(w.heap.size + 1), 5, none⟩ = some (.int .i64 ph) ∧ vd6.cell? ⟨(w.heap.size + 1), 6, none⟩ = some (.int .i64 wi) ∧ vd6.cell? ⟨(w.heap.size + 1), 7, none⟩ = some (.int .i64 re) ∧ vd6.cell? ⟨(w.heap.size + 1), 8, none⟩ = some (.int .i64 tu) := ⟨BV.four.1, BV.four.2.1, BV.four.2.2.1, BV.four.2.2.2.1, BG.nine.1, BG.nine.2.1, BG.nine.2.2.1, BG.nine.2.2.2.1, BG.nine.2.2.2.2.1, BG.nine.2.2.2.2.2.1, BG.nine.2.2.2.2.2.2.1, BG.nine.2.2.2.2.2.2.2.1, BG.nine.2.2.2.2.2.2.2.2.1⟩
                            refine wpAnyH_take (i := 0) (oi := { dst := some 52, op := _, type := _, pos := _, after := _, guard := _ }) (v := ?_) rfl (by kernel_rfl) (by kernel_rfl) (by kernel_rfl) (fun _ _ _ h => h) (Or.inl ⟨by rfl, ?_⟩) (by assumption) ?_
                            rotate_left
                            · intro w hSw
                              (try dsimp only at hSw)
                              go_simp
                              (try (with_reducible rfl))
                            try simp only [Act.put, List.setIfInBounds_toArray, List.set_cons_zero, List.set_cons_succ]
                            refine wpAnyH_take (i := 1) (oi := { dst := some 53, op := _, type := _, pos := _, after := _, guard := _ }) (v := ?_) rfl (by kernel_rfl) (by kernel_rfl) (by kernel_rfl) (fun _ _ _ h => h) (Or.inl ⟨by rfl, ?_⟩) (by assumption) ?_
                            rotate_left
                            · intro w hSw
                              (try dsimp only at hSw)
                              go_simp
                              (try (with_reducible rfl))
                            try simp only [Act.put, List.setIfInBounds_toArray, List.set_cons_zero, List.set_cons_succ]
                            refine wpAnyH_take (i := 2) (oi := { dst := some 54, op := _, type := _, pos := _, after := _, guard := _ }) (v := ?_) rfl (by kernel_rfl) (by kernel_rfl) (by kernel_rfl) (fun _ _ _ h => h) (Or.inl ⟨by rfl, ?_⟩) (by assumption) ?_
                            rotate_left
                            · intro w hSw
                              (try dsimp only at hSw)
                              go_simp
                              (try (with_reducible rfl))
                            try simp only [Act.put, List.setIfInBounds_toArray, List.set_cons_zero, List.set_cons_succ]
                            refine wpAnyH_take (i := 3) (oi := { dst := some 55, op := _, type := _, pos := _, after := _, guard := _ }) (v := ?_) rfl (by kernel_rfl) (by kernel_rfl) (by kernel_rfl) (fun _ _ _ h => h) (Or.inl ⟨by rfl, ?_⟩) (by assumption) ?_
                            rotate_left
                            · intro w hSw
                              (try dsimp only at hSw)
                              go_simp
                              (try (with_reducible rfl))
                            try simp only [Act.put, List.setIfInBounds_toArray, List.set_cons_zero, List.set_cons_succ]
                            refine wpAnyH_take (i := 4) (oi := { dst := some 56, op := _, type := _, pos := _, after := _, guard := _ }) (v := ?_) rfl (by kernel_rfl) (by kernel_rfl) (by kernel_rfl) (fun _ _ _ h => h) (Or.inl ⟨by rfl, ?_⟩) (by assumption) ?_
                            rotate_left
                            · intro w hSw
                              (try dsimp only at hSw)
                              go_simp
                              (try (with_reducible rfl))
                            try simp only [Act.put, List.setIfInBounds_toArray, List.set_cons_zero, List.set_cons_succ]
                            refine wpAnyH_take (i := 5) (oi := { dst := some 57, op := _, type := _, pos := _, after := _, guard := _ }) (v := ?_) rfl (by kernel_rfl) (by kernel_rfl) (by kernel_rfl) (fun _ _ _ h => h) (Or.inl ⟨by rfl, ?_⟩) (by assumption) ?_
                            rotate_left
                            · intro w hSw
                              (try dsimp only at hSw)
                              go_simp
                              (try (with_reducible rfl))
                            try simp only [Act.put, List.setIfInBounds_toArray, List.set_cons_zero, List.set_cons_succ]
                            refine wpAnyH_take (i := 6) (oi := { dst := some 58, op := _, type := _, pos := _, after := _, guard := _ }) (v := ?_) rfl (by kernel_rfl) (by kernel_rfl) (by kernel_rfl) (fun _ _ _ h => h) (Or.inl ⟨by rfl, ?_⟩) (by assumption) ?_
                            rotate_left
                            · intro w hSw
                              (try dsimp only at hSw)
                              go_simp
                              (try (with_reducible rfl))
                            try simp only [Act.put, List.setIfInBounds_toArray, List.set_cons_zero, List.set_cons_succ]
                            refine wpAnyH_take (i := 7) (oi := { dst := some 59, op := _, type := _, pos := _, after := _, guard := _ }) (v := ?_) rfl (by kernel_rfl) (by kernel_rfl) (by kernel_rfl) (fun _ _ _ h => h) (Or.inl ⟨by rfl, ?_⟩) (by assumption) ?_
                            rotate_left
                            · intro w hSw
                              (try dsimp only at hSw)
                              go_simp
                              (try (with_reducible rfl))
                            try simp only [Act.put, List.setIfInBounds_toArray, List.set_cons_zero, List.set_cons_succ]
                            refine wpAnyH_take (i := 8) (oi := { dst := some 60, op := _, type := _, pos := _, after := _, guard := _ }) (v := ?_) rfl (by kernel_rfl) (by kernel_rfl) (by kernel_rfl) (fun _ _ _ h => h) (Or.inl ⟨by rfl, ?_⟩) (by assumption) ?_
                            rotate_left
                            · intro w hSw
                              (try dsimp only at hSw)
                              go_simp
                              (try (with_reducible rfl))
                            try simp only [Act.put, List.setIfInBounds_toArray, List.set_cons_zero, List.set_cons_succ]
                            refine wpAnyH_take (i := 9) (oi := { dst := some 61, op := _, type := _, pos := _, after := _, guard := _ }) (v := ?_) rfl (by kernel_rfl) (by kernel_rfl) (by kernel_rfl) (fun _ _ _ h => h) (Or.inl ⟨by rfl, ?_⟩) (by assumption) ?_
                            rotate_left
                            · intro w hSw
                              (try dsimp only at hSw)
                              go_simp
                              (try (with_reducible rfl))
                            try simp only [Act.put, List.setIfInBounds_toArray, List.set_cons_zero, List.set_cons_succ]
                            refine wpAnyH_take (i := 10) (oi := { dst := some 62, op := _, type := _, pos := _, after := _, guard := _ }) (v := ?_) rfl (by kernel_rfl) (by kernel_rfl) (by kernel_rfl) (fun _ _ _ h => h) (Or.inl ⟨by rfl, ?_⟩) (by assumption) ?_
                            rotate_left
                            · intro w hSw
                              (try dsimp only at hSw)
                              go_simp
                              (try (with_reducible rfl))
                            try simp only [Act.put, List.setIfInBounds_toArray, List.set_cons_zero, List.set_cons_succ]
                            refine wpAnyH_take (i := 11) (oi := { dst := some 63, op := _, type := _, pos := _, after := _, guard := _ }) (v := ?_) rfl (by kernel_rfl) (by kernel_rfl) (by kernel_rfl) (fun _ _ _ h => h) (Or.inl ⟨by rfl, ?_⟩) (by assumption) ?_
                            rotate_left
                            · intro w hSw
                              (try dsimp only at hSw)
                              go_simp
                              (try (with_reducible rfl))
                            try simp only [Act.put, List.setIfInBounds_toArray, List.set_cons_zero, List.set_cons_succ]
                            refine wpAnyH_take (i := 12) (oi := { dst := some 64, op := _, type := _, pos := _, after := _, guard := _ }) (v := ?_) rfl (by kernel_rfl) (by kernel_rfl) (by kernel_rfl) (fun _ _ _ h => h) (Or.inl ⟨by rfl, ?_⟩) (by assumption) ?_
                            rotate_left
                            · intro w hSw
                              (try dsimp only at hSw)
                              go_simp
                              (try (with_reducible rfl))
                            try simp only [Act.put, List.setIfInBounds_toArray, List.set_cons_zero, List.set_cons_succ]
                            refine wpAnyH_take (i := 13) (oi := { dst := some 65, op := _, type := _, pos := _, after := _, guard := _ }) (v := ?_) rfl (by kernel_rfl) (by kernel_rfl) (by kernel_rfl) (fun _ _ _ h => h) (Or.inl ⟨by rfl, ?_⟩) (by assumption) ?_
                            rotate_left
                            · intro w hSw
                              (try dsimp only at hSw)
                              go_simp
                              (try (with_reducible rfl))
                            try simp only [Act.put, List.setIfInBounds_toArray, List.set_cons_zero, List.set_cons_succ]
                            refine wpAnyH_take (i := 14) (oi := { dst := some 66, op := _, type := _, pos := _, after := _, guard := _ }) (v := ?_) rfl (by kernel_rfl) (by kernel_rfl) (by kernel_rfl) (fun _ _ _ h => h) (Or.inl ⟨by rfl, ?_⟩) (by assumption) ?_
                            rotate_left
                            · intro w hSw
                              (try dsimp only at hSw)
                              go_simp
                              (try (with_reducible rfl))
                            try simp only [Act.put, List.setIfInBounds_toArray, List.set_cons_zero, List.set_cons_succ]
                            refine wpAnyH_take (i := 15) (oi := { dst := some 67, op := _, type := _, pos := _, after := _, guard := _ }) (v := ?_) rfl (by kernel_rfl) (by kernel_rfl) (by kernel_rfl) (fun _ _ _ h => h) (Or.inl ⟨by rfl, ?_⟩) (by assumption) ?_
                            rotate_left
                            · intro w hSw
                              (try dsimp only at hSw)
                              go_simp
                              (try (with_reducible rfl))
                            try simp only [Act.put, List.setIfInBounds_toArray, List.set_cons_zero, List.set_cons_succ]
                            refine wpAnyH_take (i := 16) (oi := { dst := some 68, op := _, type := _, pos := _, after := _, guard := _ }) (v := ?_) rfl (by kernel_rfl) (by kernel_rfl) (by kernel_rfl) (fun _ _ _ h => h) (Or.inl ⟨by rfl, ?_⟩) (by assumption) ?_
                            rotate_left
                            · intro w hSw
                              (try dsimp only at hSw)
                              go_simp
                              (try (with_reducible rfl))
                            try simp only [Act.put, List.setIfInBounds_toArray, List.set_cons_zero, List.set_cons_succ]
                            refine wpAnyH_take (i := 17) (oi := { dst := some 69, op := _, type := _, pos := _, after := _, guard := _ }) (v := ?_) rfl (by kernel_rfl) (by kernel_rfl) (by kernel_rfl) (fun _ _ _ h => h) (Or.inl ⟨by rfl, ?_⟩) (by assumption) ?_
                            rotate_left
                            · intro w hSw
                              (try dsimp only at hSw)
                              go_simp
                              (try (with_reducible rfl))
                            try simp only [Act.put, List.setIfInBounds_toArray, List.set_cons_zero, List.set_cons_succ]
                            refine wpAnyH_take (i := 18) (oi := { dst := some 70, op := _, type := _, pos := _, after := _, guard := _ }) (v := ?_) rfl (by kernel_rfl) (by kernel_rfl) (by kernel_rfl) (fun _ _ _ h => h) (Or.inl ⟨by rfl, ?_⟩) (by assumption) ?_
                            rotate_left
                            · intro w hSw
                              (try dsimp only at hSw)
                              go_simp
                              (try (with_reducible rfl))
                            try simp only [Act.put, List.setIfInBounds_toArray, List.set_cons_zero, List.set_cons_succ]
                            refine wpAnyH_take (i := 19) (oi := { dst := some 71, op := _, type := _, pos := _, after := _, guard := _ }) (v := undef) rfl (by kernel_rfl) (by kernel_rfl) (by kernel_rfl) (fun _ _ _ h => h) (Or.inr ⟨by rfl, rfl⟩) (by assumption) ?_
                            try simp only [Act.put, List.setIfInBounds_toArray, List.set_cons_zero, List.set_cons_succ]
                            refine wpAnyH_take (i := 20) (oi := { dst := some 72, op := _, type := _, pos := _, after := _, guard := _ }) (v := undef) rfl (by kernel_rfl) (by kernel_rfl) (by kernel_rfl) (fun _ _ _ h => h) (Or.inr ⟨by rfl, rfl⟩) (by assumption) ?_
                            try simp only [Act.put, List.setIfInBounds_toArray, List.set_cons_zero, List.set_cons_succ]
                            refine wpAnyH_take (i := 21) (oi := { dst := some 73, op := _, type := _, pos := _, after := _, guard := _ }) (v := undef) rfl (by kernel_rfl) (by kernel_rfl) (by kernel_rfl) (fun _ _ _ h => h) (Or.inr ⟨by rfl, rfl⟩) (by assumption) ?_
                            try simp only [Act.put, List.setIfInBounds_toArray, List.set_cons_zero, List.set_cons_succ]
                            refine wpAnyH_take (i := 22) (oi := { dst := some 74, op := _, type := _, pos := _, after := _, guard := _ }) (v := undef) rfl (by kernel_rfl) (by kernel_rfl) (by kernel_rfl) (fun _ _ _ h => h) (Or.inr ⟨by rfl, rfl⟩) (by assumption) ?_
                            try simp only [Act.put, List.setIfInBounds_toArray, List.set_cons_zero, List.set_cons_succ]
                            refine wpAnyH_take (i := 23) (oi := { dst := some 75, op := _, type := _, pos := _, after := _, guard := _ }) (v := undef) rfl (by kernel_rfl) (by kernel_rfl) (by kernel_rfl) (fun _ _ _ h => h) (Or.inr ⟨by rfl, rfl⟩) (by assumption) ?_
                            try simp only [Act.put, List.setIfInBounds_toArray, List.set_cons_zero, List.set_cons_succ]
                            refine wpAnyH_take (i := 24) (oi := { dst := some 76, op := _, type := _, pos := _, after := _, guard := _ }) (v := undef) rfl (by kernel_rfl) (by kernel_rfl) (by kernel_rfl) (fun _ _ _ h => h) (Or.inr ⟨by rfl, rfl⟩) (by assumption) ?_
                            try simp only [Act.put, List.setIfInBounds_toArray, List.set_cons_zero, List.set_cons_succ]
                            refine wpAnyH_take (i := 25) (oi := { dst := some 77, op := _, type := _, pos := _, after := _, guard := _ }) (v := ?_) rfl (by kernel_rfl) (by kernel_rfl) (by kernel_rfl) (fun _ _ _ h => h) (Or.inl ⟨by rfl, ?_⟩) (by assumption) ?_
                            rotate_left
                            · intro w hSw
                              (try dsimp only at hSw)
                              go_simp
                              (try (with_reducible rfl))
                            try simp only [Act.put, List.setIfInBounds_toArray, List.set_cons_zero, List.set_cons_succ]
                            refine wpAnyH_take (i := 26) (oi := { dst := some 4, op := _, type := _, pos := _, after := _, guard := _ }) (v := ?_) rfl (by kernel_rfl) (by kernel_rfl) (by kernel_rfl) (fun _ _ _ h => h) (Or.inl ⟨by rfl, ?_⟩) (by assumption) ?_
                            rotate_left
                            · intro w hSw
                              (try dsimp only at hSw)
                              go_simp
                              (try (with_reducible rfl))
                            try simp only [Act.put, List.setIfInBounds_toArray, List.set_cons_zero, List.set_cons_succ]
                            refine wpAnyH_done (by kernel_rfl) ?_ _
                            clear hHeld
                            obtain ⟨q0_BV, q1_BV, q2_BV, q3_BV, qf_BV, ql_BV⟩ := BV.four
                            obtain ⟨q0_BG, q1_BG, q2_BG, q3_BG, q4_BG, q5_BG, q6_BG, q7_BG, q8_BG, qf_BG, ql_BG⟩ := BG.nine
                            go_wp2_with fail
                            go_ret
                            exact ⟨rfl, hb⟩
                        · have f_e3 : (wi == 0) = false := by rw [beq_eq_false_iff_ne]; exact e3
                          rw [f_e3]
                          clear e3
                          (try simp only [Bool.false_and, Bool.true_and, Bool.and_false, Bool.and_true, Bool.not_true, Bool.not_false])
                          go_enter Try.func91, Try.ntmps91
                          obtain ⟨x0, x1, x2, x3, xf, xl⟩ := BV.four
                          obtain ⟨ga0, ga1, ga2, ga3, ga4, ga5, ga6, ga7, ga8, gaf, gal⟩ := BG.nine
                          go_wp2_with fail
                          clear x0 x1 x2 x3 xf xl
                          clear ga0 ga1 ga2 ga3 ga4 ga5 ga6 ga7 ga8 gaf gal
                          generalize ((w.alloc (.cells #[.int .i64 p, .int .i64 c, .int .i64 h, .int .i64 s] 32)).alloc (.cells #[.slice a1 n1 c1, .slice a2 n2 c2, .int .i64 pl, .int .i64 ra, .int .i64 rb, .int .i64 ph, .int .i64 wi, .int .i64 re, .int .i64 tu] 70)) = v0 at *
                          obtain ⟨q0_BV, q1_BV, q2_BV, q3_BV, qf_BV, ql_BV⟩ := BV.four
                          obtain ⟨q0_BG, q1_BG, q2_BG, q3_BG, q4_BG, q5_BG, q6_BG, q7_BG, q8_BG, qf_BG, ql_BG⟩ := BG.nine
                          go_wp2_with fail
                          clear q0_BV q1_BV q2_BV q3_BV qf_BV ql_BV
                          clear q0_BG q1_BG q2_BG q3_BG q4_BG q5_BG q6_BG q7_BG q8_BG qf_BG ql_BG
                          refine (HV.out _).mono ?_
                          rintro e w1 ⟨rfl, hb1⟩
                          replace BV := BV.below hb1
                          replace BG := BG.below hb1
                          replace r1 := r1.below hb1
                          replace r2 := r2.below hb1
                          have hz1 := hb1.size
                          replace hb := chain hb hb1
                          clear hb1
                          obtain ⟨q0_BV, q1_BV, q2_BV, q3_BV, qf_BV, ql_BV⟩ := BV.four
                          obtain ⟨q0_BG, q1_BG, q2_BG, q3_BG, q4_BG, q5_BG, q6_BG, q7_BG, q8_BG, qf_BG, ql_BG⟩ := BG.nine
                          go_wp2_with fail
                          clear q0_BV q1_BV q2_BV q3_BV qf_BV ql_BV
                          clear q0_BG q1_BG q2_BG q3_BG q4_BG q5_BG q6_BG q7_BG q8_BG qf_BG ql_BG
                          refine (HI.out _ r1 r2).mono ?_
                          rintro e w2 ⟨rfl, hb2⟩
                          replace BV := BV.below hb2
                          replace BG := BG.below hb2
                          replace r1 := r1.below hb2
                          replace r2 := r2.below hb2
                          have hz2 := hb2.size
                          replace hb := chain hb hb2
                          clear hb2
                          obtain ⟨q0_BV, q1_BV, q2_BV, q3_BV, qf_BV, ql_BV⟩ := BV.four
                          obtain ⟨q0_BG, q1_BG, q2_BG, q3_BG, q4_BG, q5_BG, q6_BG, q7_BG, q8_BG, qf_BG, ql_BG⟩ := BG.nine
                          go_wp2_with fail
                          clear q0_BV q1_BV q2_BV q3_BV qf_BV ql_BV
                          clear q0_BG q1_BG q2_BG q3_BG q4_BG q5_BG q6_BG q7_BG q8_BG qf_BG ql_BG
                          refine (HP.out _).mono ?_
                          rintro e w3 ⟨rfl, hb3⟩
                          replace BV := BV.below hb3
                          replace BG := BG.below hb3
                          replace r1 := r1.below hb3
                          replace r2 := r2.below hb3
                          have hz3 := hb3.size
                          replace hb := chain hb hb3
                          clear hb3
                          obtain ⟨q0_BV, q1_BV, q2_BV, q3_BV, qf_BV, ql_BV⟩ := BV.four
                          obtain ⟨q0_BG, q1_BG, q2_BG, q3_BG, q4_BG, q5_BG, q6_BG, q7_BG, q8_BG, qf_BG, ql_BG⟩ := BG.nine
                          go_wp2_with fail
                          clear q0_BV q1_BV q2_BV q3_BV qf_BV ql_BV
                          clear q0_BG q1_BG q2_BG q3_BG q4_BG q5_BG q6_BG q7_BG q8_BG qf_BG ql_BG
                          refine (HT.out _).mono ?_
                          rintro e w4 ⟨rfl, hb4⟩
                          replace BV := BV.below hb4
                          replace BG := BG.below hb4
                          replace r1 := r1.below hb4
                          replace r2 := r2.below hb4
                          have hz4 := hb4.size
                          replace hb := chain hb hb4
                          clear hb4
                          obtain ⟨q0_BV, q1_BV, q2_BV, q3_BV, qf_BV, ql_BV⟩ := BV.four
                          obtain ⟨q0_BG, q1_BG, q2_BG, q3_BG, q4_BG, q5_BG, q6_BG, q7_BG, q8_BG, qf_BG, ql_BG⟩ := BG.nine
                          go_wp2_with fail
                          clear q0_BV q1_BV q2_BV q3_BV qf_BV ql_BV
                          clear q0_BG q1_BG q2_BG q3_BG q4_BG q5_BG q6_BG q7_BG q8_BG qf_BG ql_BG
                          refine (HO.out (by simp) _ r1 r2).mono ?_
                          rintro e w5 ⟨rfl, hb5⟩
                          replace BV := BV.below hb5
                          replace BG := BG.below hb5
                          replace r1 := r1.below hb5
                          replace r2 := r2.below hb5
                          have hz5 := hb5.size
                          replace hb := chain hb hb5
                          clear hb5
                          obtain ⟨q0_BV, q1_BV, q2_BV, q3_BV, qf_BV, ql_BV⟩ := BV.four
                          obtain ⟨q0_BG, q1_BG, q2_BG, q3_BG, q4_BG, q5_BG, q6_BG, q7_BG, q8_BG, qf_BG, ql_BG⟩ := BG.nine
                          go_wp2_with fail
                          clear q0_BV q1_BV q2_BV q3_BV qf_BV ql_BV
                          clear q0_BG q1_BG q2_BG q3_BG q4_BG q5_BG q6_BG q7_BG q8_BG qf_BG ql_BG
                          have hd6 : w5.drew.heap.size = w5.heap.size := rfl
                          replace BV := BV.drew
                          replace BG := BG.drew
                          replace r1 := r1.drew
                          replace r2 := r2.drew
                          replace hb := hb.drew
                          refine wp_region_held_drew (S := fun w' => w'.cell? ⟨w.heap.size, 0, none⟩ = some (.int .i64 p) ∧ w'.cell? ⟨w.heap.size, 1, none⟩ = some (.int .i64 c) ∧ w'.cell? ⟨w.heap.size, 2, none⟩ = some (.int .i64 h) ∧ w'.cell? ⟨w.heap.size, 3, none⟩ = some (.int .i64 s) ∧ w'.cell? ⟨(w.heap.size + 1), 0, none⟩ = some (.slice a1 n1 c1) ∧ w'.cell? ⟨(w.heap.size + 1), 1, none⟩ = some (.slice a2 n2 c2) ∧ w'.cell? ⟨(w.heap.size + 1), 2, none⟩ = some (.int .i64 pl) ∧ w'.cell? ⟨(w.heap.size + 1), 3, none⟩ = some (.int .i64 ra) ∧ w'.cell? ⟨(w.heap.size + 1), 4, none⟩ = some (.int .i64 rb) ∧ w'.cell? ⟨(w.heap.size + 1), 5, none⟩ = some (.int .i64 ph) ∧ w'.cell? ⟨(w.heap.size + 1), 6, none⟩ = some (.int .i64 wi) ∧ w'.cell? ⟨(w.heap.size + 1), 7, none⟩ = some (.int .i64 re) ∧ w'.cell? ⟨(w.heap.size + 1), 8, none⟩ = some (.int .i64 tu)) (by kernel_rfl) ⟨BV.four.1, BV.four.2.1, BV.four.2.2.1, BV.four.2.2.2.1, BG.nine.1, BG.nine.2.1, BG.nine.2.2.1, BG.nine.2.2.2.1, BG.nine.2.2.2.2.1, BG.nine.2.2.2.2.2.1, BG.nine.2.2.2.2.2.2.1, BG.nine.2.2.2.2.2.2.2.1, BG.nine.2.2.2.2.2.2.2.2.1⟩ (fun hHeld => ?_)
                          clear hHeld
                          generalize w5.drew = vd6 at *
                          have hHeld : vd6.cell? ⟨w.heap.size, 0, none⟩ = some (.int .i64 p) ∧ vd6.cell? ⟨w.heap.size, 1, none⟩ = some (.int .i64 c) ∧ vd6.cell? ⟨w.heap.size, 2, none⟩ = some (.int .i64 h) ∧ vd6.cell? ⟨w.heap.size, 3, none⟩ = some (.int .i64 s) ∧ vd6.cell? ⟨(w.heap.size + 1), 0, none⟩ = some (.slice a1 n1 c1) ∧ vd6.cell? ⟨(w.heap.size + 1), 1, none⟩ = some (.slice a2 n2 c2) ∧ vd6.cell? ⟨(w.heap.size + 1), 2, none⟩ = some (.int .i64 pl) ∧ vd6.cell? ⟨(w.heap.size + 1), 3, none⟩ = some (.int .i64 ra) ∧ vd6.cell? ⟨(w.heap.size + 1), 4, none⟩ = some (.int .i64 rb) ∧ vd6.cell? ⟨(w.heap.size + 1), 5, none⟩ = some (.int .i64 ph) ∧ vd6.cell? ⟨(w.heap.size + 1), 6, none⟩ = some (.int .i64 wi) ∧ vd6.cell? ⟨(w.heap.size + 1), 7, none⟩ = some (.int .i64 re) ∧ vd6.cell? ⟨(w.heap.size + 1), 8, none⟩ = some (.int .i64 tu) := ⟨BV.four.1, BV.four.2.1, BV.four.2.2.1, BV.four.2.2.2.1, BG.nine.1, BG.nine.2.1, BG.nine.2.2.1, BG.nine.2.2.2.1, BG.nine.2.2.2.2.1, BG.nine.2.2.2.2.2.1, BG.nine.2.2.2.2.2.2.1, BG.nine.2.2.2.2.2.2.2.1, BG.nine.2.2.2.2.2.2.2.2.1⟩
                          refine wpAnyH_take (i := 0) (oi := { dst := some 52, op := _, type := _, pos := _, after := _, guard := _ }) (v := ?_) rfl (by kernel_rfl) (by kernel_rfl) (by kernel_rfl) (fun _ _ _ h => h) (Or.inl ⟨by rfl, ?_⟩) (by assumption) ?_
                          rotate_left
                          · intro w hSw
                            (try dsimp only at hSw)
                            go_simp
                            (try (with_reducible rfl))
                          try simp only [Act.put, List.setIfInBounds_toArray, List.set_cons_zero, List.set_cons_succ]
                          refine wpAnyH_take (i := 1) (oi := { dst := some 53, op := _, type := _, pos := _, after := _, guard := _ }) (v := ?_) rfl (by kernel_rfl) (by kernel_rfl) (by kernel_rfl) (fun _ _ _ h => h) (Or.inl ⟨by rfl, ?_⟩) (by assumption) ?_
                          rotate_left
                          · intro w hSw
                            (try dsimp only at hSw)
                            go_simp
                            (try (with_reducible rfl))
                          try simp only [Act.put, List.setIfInBounds_toArray, List.set_cons_zero, List.set_cons_succ]
                          refine wpAnyH_take (i := 2) (oi := { dst := some 54, op := _, type := _, pos := _, after := _, guard := _ }) (v := ?_) rfl (by kernel_rfl) (by kernel_rfl) (by kernel_rfl) (fun _ _ _ h => h) (Or.inl ⟨by rfl, ?_⟩) (by assumption) ?_
                          rotate_left
                          · intro w hSw
                            (try dsimp only at hSw)
                            go_simp
                            (try (with_reducible rfl))
                          try simp only [Act.put, List.setIfInBounds_toArray, List.set_cons_zero, List.set_cons_succ]
                          refine wpAnyH_take (i := 3) (oi := { dst := some 55, op := _, type := _, pos := _, after := _, guard := _ }) (v := ?_) rfl (by kernel_rfl) (by kernel_rfl) (by kernel_rfl) (fun _ _ _ h => h) (Or.inl ⟨by rfl, ?_⟩) (by assumption) ?_
                          rotate_left
                          · intro w hSw
                            (try dsimp only at hSw)
                            go_simp
                            (try (with_reducible rfl))
                          try simp only [Act.put, List.setIfInBounds_toArray, List.set_cons_zero, List.set_cons_succ]
                          refine wpAnyH_take (i := 4) (oi := { dst := some 56, op := _, type := _, pos := _, after := _, guard := _ }) (v := ?_) rfl (by kernel_rfl) (by kernel_rfl) (by kernel_rfl) (fun _ _ _ h => h) (Or.inl ⟨by rfl, ?_⟩) (by assumption) ?_
                          rotate_left
                          · intro w hSw
                            (try dsimp only at hSw)
                            go_simp
                            (try (with_reducible rfl))
                          try simp only [Act.put, List.setIfInBounds_toArray, List.set_cons_zero, List.set_cons_succ]
                          refine wpAnyH_take (i := 5) (oi := { dst := some 57, op := _, type := _, pos := _, after := _, guard := _ }) (v := ?_) rfl (by kernel_rfl) (by kernel_rfl) (by kernel_rfl) (fun _ _ _ h => h) (Or.inl ⟨by rfl, ?_⟩) (by assumption) ?_
                          rotate_left
                          · intro w hSw
                            (try dsimp only at hSw)
                            go_simp
                            (try (with_reducible rfl))
                          try simp only [Act.put, List.setIfInBounds_toArray, List.set_cons_zero, List.set_cons_succ]
                          refine wpAnyH_take (i := 6) (oi := { dst := some 58, op := _, type := _, pos := _, after := _, guard := _ }) (v := ?_) rfl (by kernel_rfl) (by kernel_rfl) (by kernel_rfl) (fun _ _ _ h => h) (Or.inl ⟨by rfl, ?_⟩) (by assumption) ?_
                          rotate_left
                          · intro w hSw
                            (try dsimp only at hSw)
                            go_simp
                            (try (with_reducible rfl))
                          try simp only [Act.put, List.setIfInBounds_toArray, List.set_cons_zero, List.set_cons_succ]
                          refine wpAnyH_take (i := 7) (oi := { dst := some 59, op := _, type := _, pos := _, after := _, guard := _ }) (v := ?_) rfl (by kernel_rfl) (by kernel_rfl) (by kernel_rfl) (fun _ _ _ h => h) (Or.inl ⟨by rfl, ?_⟩) (by assumption) ?_
                          rotate_left
                          · intro w hSw
                            (try dsimp only at hSw)
                            go_simp
                            (try (with_reducible rfl))
                          try simp only [Act.put, List.setIfInBounds_toArray, List.set_cons_zero, List.set_cons_succ]
                          refine wpAnyH_take (i := 8) (oi := { dst := some 60, op := _, type := _, pos := _, after := _, guard := _ }) (v := ?_) rfl (by kernel_rfl) (by kernel_rfl) (by kernel_rfl) (fun _ _ _ h => h) (Or.inl ⟨by rfl, ?_⟩) (by assumption) ?_
                          rotate_left
                          · intro w hSw
                            (try dsimp only at hSw)
                            go_simp
                            (try (with_reducible rfl))
                          try simp only [Act.put, List.setIfInBounds_toArray, List.set_cons_zero, List.set_cons_succ]
                          refine wpAnyH_take (i := 9) (oi := { dst := some 61, op := _, type := _, pos := _, after := _, guard := _ }) (v := ?_) rfl (by kernel_rfl) (by kernel_rfl) (by kernel_rfl) (fun _ _ _ h => h) (Or.inl ⟨by rfl, ?_⟩) (by assumption) ?_
                          rotate_left
                          · intro w hSw
                            (try dsimp only at hSw)
                            go_simp
                            (try (with_reducible rfl))
                          try simp only [Act.put, List.setIfInBounds_toArray, List.set_cons_zero, List.set_cons_succ]
                          refine wpAnyH_take (i := 10) (oi := { dst := some 62, op := _, type := _, pos := _, after := _, guard := _ }) (v := ?_) rfl (by kernel_rfl) (by kernel_rfl) (by kernel_rfl) (fun _ _ _ h => h) (Or.inl ⟨by rfl, ?_⟩) (by assumption) ?_
                          rotate_left
                          · intro w hSw
                            (try dsimp only at hSw)
                            go_simp
                            (try (with_reducible rfl))
                          try simp only [Act.put, List.setIfInBounds_toArray, List.set_cons_zero, List.set_cons_succ]
                          refine wpAnyH_take (i := 11) (oi := { dst := some 63, op := _, type := _, pos := _, after := _, guard := _ }) (v := ?_) rfl (by kernel_rfl) (by kernel_rfl) (by kernel_rfl) (fun _ _ _ h => h) (Or.inl ⟨by rfl, ?_⟩) (by assumption) ?_
                          rotate_left
                          · intro w hSw
                            (try dsimp only at hSw)
                            go_simp
                            (try (with_reducible rfl))
                          try simp only [Act.put, List.setIfInBounds_toArray, List.set_cons_zero, List.set_cons_succ]
                          refine wpAnyH_take (i := 12) (oi := { dst := some 64, op := _, type := _, pos := _, after := _, guard := _ }) (v := ?_) rfl (by kernel_rfl) (by kernel_rfl) (by kernel_rfl) (fun _ _ _ h => h) (Or.inl ⟨by rfl, ?_⟩) (by assumption) ?_
                          rotate_left
                          · intro w hSw
                            (try dsimp only at hSw)
                            go_simp
                            (try (with_reducible rfl))
                          try simp only [Act.put, List.setIfInBounds_toArray, List.set_cons_zero, List.set_cons_succ]
                          refine wpAnyH_take (i := 13) (oi := { dst := some 65, op := _, type := _, pos := _, after := _, guard := _ }) (v := ?_) rfl (by kernel_rfl) (by kernel_rfl) (by kernel_rfl) (fun _ _ _ h => h) (Or.inl ⟨by rfl, ?_⟩) (by assumption) ?_
                          rotate_left
                          · intro w hSw
                            (try dsimp only at hSw)
                            go_simp
                            (try (with_reducible rfl))
                          try simp only [Act.put, List.setIfInBounds_toArray, List.set_cons_zero, List.set_cons_succ]
                          refine wpAnyH_take (i := 14) (oi := { dst := some 66, op := _, type := _, pos := _, after := _, guard := _ }) (v := undef) rfl (by kernel_rfl) (by kernel_rfl) (by kernel_rfl) (fun _ _ _ h => h) (Or.inr ⟨by rfl, rfl⟩) (by assumption) ?_
                          try simp only [Act.put, List.setIfInBounds_toArray, List.set_cons_zero, List.set_cons_succ]
                          refine wpAnyH_take (i := 15) (oi := { dst := some 67, op := _, type := _, pos := _, after := _, guard := _ }) (v := undef) rfl (by kernel_rfl) (by kernel_rfl) (by kernel_rfl) (fun _ _ _ h => h) (Or.inr ⟨by rfl, rfl⟩) (by assumption) ?_
                          try simp only [Act.put, List.setIfInBounds_toArray, List.set_cons_zero, List.set_cons_succ]
                          refine wpAnyH_take (i := 16) (oi := { dst := some 68, op := _, type := _, pos := _, after := _, guard := _ }) (v := undef) rfl (by kernel_rfl) (by kernel_rfl) (by kernel_rfl) (fun _ _ _ h => h) (Or.inr ⟨by rfl, rfl⟩) (by assumption) ?_
                          try simp only [Act.put, List.setIfInBounds_toArray, List.set_cons_zero, List.set_cons_succ]
                          refine wpAnyH_take (i := 17) (oi := { dst := some 69, op := _, type := _, pos := _, after := _, guard := _ }) (v := ?_) rfl (by kernel_rfl) (by kernel_rfl) (by kernel_rfl) (fun _ _ _ h => h) (Or.inl ⟨by rfl, ?_⟩) (by assumption) ?_
                          rotate_left
                          · intro w hSw
                            (try dsimp only at hSw)
                            go_simp
                            (try (with_reducible rfl))
                          try simp only [Act.put, List.setIfInBounds_toArray, List.set_cons_zero, List.set_cons_succ]
                          refine wpAnyH_take (i := 18) (oi := { dst := some 70, op := _, type := _, pos := _, after := _, guard := _ }) (v := ?_) rfl (by kernel_rfl) (by kernel_rfl) (by kernel_rfl) (fun _ _ _ h => h) (Or.inl ⟨by rfl, ?_⟩) (by assumption) ?_
                          rotate_left
                          · intro w hSw
                            (try dsimp only at hSw)
                            go_simp
                            (try (with_reducible rfl))
                          try simp only [Act.put, List.setIfInBounds_toArray, List.set_cons_zero, List.set_cons_succ]
                          refine wpAnyH_take (i := 19) (oi := { dst := some 71, op := _, type := _, pos := _, after := _, guard := _ }) (v := undef) rfl (by kernel_rfl) (by kernel_rfl) (by kernel_rfl) (fun _ _ _ h => h) (Or.inr ⟨by rfl, rfl⟩) (by assumption) ?_
                          try simp only [Act.put, List.setIfInBounds_toArray, List.set_cons_zero, List.set_cons_succ]
                          refine wpAnyH_take (i := 20) (oi := { dst := some 72, op := _, type := _, pos := _, after := _, guard := _ }) (v := undef) rfl (by kernel_rfl) (by kernel_rfl) (by kernel_rfl) (fun _ _ _ h => h) (Or.inr ⟨by rfl, rfl⟩) (by assumption) ?_
                          try simp only [Act.put, List.setIfInBounds_toArray, List.set_cons_zero, List.set_cons_succ]
                          refine wpAnyH_take (i := 21) (oi := { dst := some 73, op := _, type := _, pos := _, after := _, guard := _ }) (v := undef) rfl (by kernel_rfl) (by kernel_rfl) (by kernel_rfl) (fun _ _ _ h => h) (Or.inr ⟨by rfl, rfl⟩) (by assumption) ?_
                          try simp only [Act.put, List.setIfInBounds_toArray, List.set_cons_zero, List.set_cons_succ]
                          refine wpAnyH_take (i := 22) (oi := { dst := some 74, op := _, type := _, pos := _, after := _, guard := _ }) (v := undef) rfl (by kernel_rfl) (by kernel_rfl) (by kernel_rfl) (fun _ _ _ h => h) (Or.inr ⟨by rfl, rfl⟩) (by assumption) ?_
                          try simp only [Act.put, List.setIfInBounds_toArray, List.set_cons_zero, List.set_cons_succ]
                          refine wpAnyH_take (i := 23) (oi := { dst := some 75, op := _, type := _, pos := _, after := _, guard := _ }) (v := undef) rfl (by kernel_rfl) (by kernel_rfl) (by kernel_rfl) (fun _ _ _ h => h) (Or.inr ⟨by rfl, rfl⟩) (by assumption) ?_
                          try simp only [Act.put, List.setIfInBounds_toArray, List.set_cons_zero, List.set_cons_succ]
                          refine wpAnyH_take (i := 24) (oi := { dst := some 76, op := _, type := _, pos := _, after := _, guard := _ }) (v := undef) rfl (by kernel_rfl) (by kernel_rfl) (by kernel_rfl) (fun _ _ _ h => h) (Or.inr ⟨by rfl, rfl⟩) (by assumption) ?_
                          try simp only [Act.put, List.setIfInBounds_toArray, List.set_cons_zero, List.set_cons_succ]
                          refine wpAnyH_take (i := 25) (oi := { dst := some 77, op := _, type := _, pos := _, after := _, guard := _ }) (v := ?_) rfl (by kernel_rfl) (by kernel_rfl) (by kernel_rfl) (fun _ _ _ h => h) (Or.inl ⟨by rfl, ?_⟩) (by assumption) ?_
                          rotate_left
                          · intro w hSw
                            (try dsimp only at hSw)
                            go_simp
                            (try (with_reducible rfl))
                          try simp only [Act.put, List.setIfInBounds_toArray, List.set_cons_zero, List.set_cons_succ]
                          refine wpAnyH_take (i := 26) (oi := { dst := some 4, op := _, type := _, pos := _, after := _, guard := _ }) (v := ?_) rfl (by kernel_rfl) (by kernel_rfl) (by kernel_rfl) (fun _ _ _ h => h) (Or.inl ⟨by rfl, ?_⟩) (by assumption) ?_
                          rotate_left
                          · intro w hSw
                            (try dsimp only at hSw)
                            go_simp
                            (try (with_reducible rfl))
                          try simp only [Act.put, List.setIfInBounds_toArray, List.set_cons_zero, List.set_cons_succ]
                          refine wpAnyH_done (by kernel_rfl) ?_ _
                          clear hHeld
                          obtain ⟨q0_BV, q1_BV, q2_BV, q3_BV, qf_BV, ql_BV⟩ := BV.four
                          obtain ⟨q0_BG, q1_BG, q2_BG, q3_BG, q4_BG, q5_BG, q6_BG, q7_BG, q8_BG, qf_BG, ql_BG⟩ := BG.nine
                          go_wp2_with fail
                          go_ret
                          exact ⟨rfl, hb⟩
                      · have f_e2 : (tu == 0) = false := by rw [beq_eq_false_iff_ne]; exact e2
                        rw [f_e2]
                        clear e2
                        (try simp only [Bool.false_and, Bool.true_and, Bool.and_false, Bool.and_true, Bool.not_true, Bool.not_false])
                        go_enter Try.func91, Try.ntmps91
                        obtain ⟨x0, x1, x2, x3, xf, xl⟩ := BV.four
                        obtain ⟨ga0, ga1, ga2, ga3, ga4, ga5, ga6, ga7, ga8, gaf, gal⟩ := BG.nine
                        go_wp2_with fail
                        clear x0 x1 x2 x3 xf xl
                        clear ga0 ga1 ga2 ga3 ga4 ga5 ga6 ga7 ga8 gaf gal
                        generalize ((w.alloc (.cells #[.int .i64 p, .int .i64 c, .int .i64 h, .int .i64 s] 32)).alloc (.cells #[.slice a1 n1 c1, .slice a2 n2 c2, .int .i64 pl, .int .i64 ra, .int .i64 rb, .int .i64 ph, .int .i64 wi, .int .i64 re, .int .i64 tu] 70)) = v0 at *
                        obtain ⟨q0_BV, q1_BV, q2_BV, q3_BV, qf_BV, ql_BV⟩ := BV.four
                        obtain ⟨q0_BG, q1_BG, q2_BG, q3_BG, q4_BG, q5_BG, q6_BG, q7_BG, q8_BG, qf_BG, ql_BG⟩ := BG.nine
                        go_wp2_with fail
                        clear q0_BV q1_BV q2_BV q3_BV qf_BV ql_BV
                        clear q0_BG q1_BG q2_BG q3_BG q4_BG q5_BG q6_BG q7_BG q8_BG qf_BG ql_BG
                        refine (HV.out _).mono ?_
                        rintro e w1 ⟨rfl, hb1⟩
                        replace BV := BV.below hb1
                        replace BG := BG.below hb1
                        replace r1 := r1.below hb1
                        replace r2 := r2.below hb1
                        have hz1 := hb1.size
                        replace hb := chain hb hb1
                        clear hb1
                        obtain ⟨q0_BV, q1_BV, q2_BV, q3_BV, qf_BV, ql_BV⟩ := BV.four
                        obtain ⟨q0_BG, q1_BG, q2_BG, q3_BG, q4_BG, q5_BG, q6_BG, q7_BG, q8_BG, qf_BG, ql_BG⟩ := BG.nine
                        go_wp2_with fail
                        clear q0_BV q1_BV q2_BV q3_BV qf_BV ql_BV
                        clear q0_BG q1_BG q2_BG q3_BG q4_BG q5_BG q6_BG q7_BG q8_BG qf_BG ql_BG
                        refine (HI.out _ r1 r2).mono ?_
                        rintro e w2 ⟨rfl, hb2⟩
                        replace BV := BV.below hb2
                        replace BG := BG.below hb2
                        replace r1 := r1.below hb2
                        replace r2 := r2.below hb2
                        have hz2 := hb2.size
                        replace hb := chain hb hb2
                        clear hb2
                        obtain ⟨q0_BV, q1_BV, q2_BV, q3_BV, qf_BV, ql_BV⟩ := BV.four
                        obtain ⟨q0_BG, q1_BG, q2_BG, q3_BG, q4_BG, q5_BG, q6_BG, q7_BG, q8_BG, qf_BG, ql_BG⟩ := BG.nine
                        go_wp2_with fail
                        clear q0_BV q1_BV q2_BV q3_BV qf_BV ql_BV
                        clear q0_BG q1_BG q2_BG q3_BG q4_BG q5_BG q6_BG q7_BG q8_BG qf_BG ql_BG
                        refine (HP.out _).mono ?_
                        rintro e w3 ⟨rfl, hb3⟩
                        replace BV := BV.below hb3
                        replace BG := BG.below hb3
                        replace r1 := r1.below hb3
                        replace r2 := r2.below hb3
                        have hz3 := hb3.size
                        replace hb := chain hb hb3
                        clear hb3
                        obtain ⟨q0_BV, q1_BV, q2_BV, q3_BV, qf_BV, ql_BV⟩ := BV.four
                        obtain ⟨q0_BG, q1_BG, q2_BG, q3_BG, q4_BG, q5_BG, q6_BG, q7_BG, q8_BG, qf_BG, ql_BG⟩ := BG.nine
                        go_wp2_with fail
                        clear q0_BV q1_BV q2_BV q3_BV qf_BV ql_BV
                        clear q0_BG q1_BG q2_BG q3_BG q4_BG q5_BG q6_BG q7_BG q8_BG qf_BG ql_BG
                        refine (HT.out _).mono ?_
                        rintro e w4 ⟨rfl, hb4⟩
                        replace BV := BV.below hb4
                        replace BG := BG.below hb4
                        replace r1 := r1.below hb4
                        replace r2 := r2.below hb4
                        have hz4 := hb4.size
                        replace hb := chain hb hb4
                        clear hb4
                        obtain ⟨q0_BV, q1_BV, q2_BV, q3_BV, qf_BV, ql_BV⟩ := BV.four
                        obtain ⟨q0_BG, q1_BG, q2_BG, q3_BG, q4_BG, q5_BG, q6_BG, q7_BG, q8_BG, qf_BG, ql_BG⟩ := BG.nine
                        go_wp2_with fail
                        clear q0_BV q1_BV q2_BV q3_BV qf_BV ql_BV
                        clear q0_BG q1_BG q2_BG q3_BG q4_BG q5_BG q6_BG q7_BG q8_BG qf_BG ql_BG
                        refine (HO.out (by simp) _ r1 r2).mono ?_
                        rintro e w5 ⟨rfl, hb5⟩
                        replace BV := BV.below hb5
                        replace BG := BG.below hb5
                        replace r1 := r1.below hb5
                        replace r2 := r2.below hb5
                        have hz5 := hb5.size
                        replace hb := chain hb hb5
                        clear hb5
                        obtain ⟨q0_BV, q1_BV, q2_BV, q3_BV, qf_BV, ql_BV⟩ := BV.four
                        obtain ⟨q0_BG, q1_BG, q2_BG, q3_BG, q4_BG, q5_BG, q6_BG, q7_BG, q8_BG, qf_BG, ql_BG⟩ := BG.nine
                        go_wp2_with fail
                        clear q0_BV q1_BV q2_BV q3_BV qf_BV ql_BV
                        clear q0_BG q1_BG q2_BG q3_BG q4_BG q5_BG q6_BG q7_BG q8_BG qf_BG ql_BG
                        have hd6 : w5.drew.heap.size = w5.heap.size := rfl
                        replace BV := BV.drew
                        replace BG := BG.drew
                        replace r1 := r1.drew
                        replace r2 := r2.drew
                        replace hb := hb.drew
                        refine wp_region_held_drew (S := fun w' => w'.cell? ⟨w.heap.size, 0, none⟩ = some (.int .i64 p) ∧ w'.cell? ⟨w.heap.size, 1, none⟩ = some (.int .i64 c) ∧ w'.cell? ⟨w.heap.size, 2, none⟩ = some (.int .i64 h) ∧ w'.cell? ⟨w.heap.size, 3, none⟩ = some (.int .i64 s) ∧ w'.cell? ⟨(w.heap.size + 1), 0, none⟩ = some (.slice a1 n1 c1) ∧ w'.cell? ⟨(w.heap.size + 1), 1, none⟩ = some (.slice a2 n2 c2) ∧ w'.cell? ⟨(w.heap.size + 1), 2, none⟩ = some (.int .i64 pl) ∧ w'.cell? ⟨(w.heap.size + 1), 3, none⟩ = some (.int .i64 ra) ∧ w'.cell? ⟨(w.heap.size + 1), 4, none⟩ = some (.int .i64 rb) ∧ w'.cell? ⟨(w.heap.size + 1), 5, none⟩ = some (.int .i64 ph) ∧ w'.cell? ⟨(w.heap.size + 1), 6, none⟩ = some (.int .i64 wi) ∧ w'.cell? ⟨(w.heap.size + 1), 7, none⟩ = some (.int .i64 re) ∧ w'.cell? ⟨(w.heap.size + 1), 8, none⟩ = some (.int .i64 tu)) (by kernel_rfl) ⟨BV.four.1, BV.four.2.1, BV.four.2.2.1, BV.four.2.2.2.1, BG.nine.1, BG.nine.2.1, BG.nine.2.2.1, BG.nine.2.2.2.1, BG.nine.2.2.2.2.1, BG.nine.2.2.2.2.2.1, BG.nine.2.2.2.2.2.2.1, BG.nine.2.2.2.2.2.2.2.1, BG.nine.2.2.2.2.2.2.2.2.1⟩ (fun hHeld => ?_)
                        clear hHeld
                        generalize w5.drew = vd6 at *
                        have hHeld : vd6.cell? ⟨w.heap.size, 0, none⟩ = some (.int .i64 p) ∧ vd6.cell? ⟨w.heap.size, 1, none⟩ = some (.int .i64 c) ∧ vd6.cell? ⟨w.heap.size, 2, none⟩ = some (.int .i64 h) ∧ vd6.cell? ⟨w.heap.size, 3, none⟩ = some (.int .i64 s) ∧ vd6.cell? ⟨(w.heap.size + 1), 0, none⟩ = some (.slice a1 n1 c1) ∧ vd6.cell? ⟨(w.heap.size + 1), 1, none⟩ = some (.slice a2 n2 c2) ∧ vd6.cell? ⟨(w.heap.size + 1), 2, none⟩ = some (.int .i64 pl) ∧ vd6.cell? ⟨(w.heap.size + 1), 3, none⟩ = some (.int .i64 ra) ∧ vd6.cell? ⟨(w.heap.size + 1), 4, none⟩ = some (.int .i64 rb) ∧ vd6.cell? ⟨(w.heap.size + 1), 5, none⟩ = some (.int .i64 ph) ∧ vd6.cell? ⟨(w.heap.size + 1), 6, none⟩ = some (.int .i64 wi) ∧ vd6.cell? ⟨(w.heap.size + 1), 7, none⟩ = some (.int .i64 re) ∧ vd6.cell? ⟨(w.heap.size + 1), 8, none⟩ = some (.int .i64 tu) := ⟨BV.four.1, BV.four.2.1, BV.four.2.2.1, BV.four.2.2.2.1, BG.nine.1, BG.nine.2.1, BG.nine.2.2.1, BG.nine.2.2.2.1, BG.nine.2.2.2.2.1, BG.nine.2.2.2.2.2.1, BG.nine.2.2.2.2.2.2.1, BG.nine.2.2.2.2.2.2.2.1, BG.nine.2.2.2.2.2.2.2.2.1⟩
                        refine wpAnyH_take (i := 0) (oi := { dst := some 52, op := _, type := _, pos := _, after := _, guard := _ }) (v := ?_) rfl (by kernel_rfl) (by kernel_rfl) (by kernel_rfl) (fun _ _ _ h => h) (Or.inl ⟨by rfl, ?_⟩) (by assumption) ?_
                        rotate_left
                        · intro w hSw
                          (try dsimp only at hSw)
                          go_simp
                          (try (with_reducible rfl))
                        try simp only [Act.put, List.setIfInBounds_toArray, List.set_cons_zero, List.set_cons_succ]
                        refine wpAnyH_take (i := 1) (oi := { dst := some 53, op := _, type := _, pos := _, after := _, guard := _ }) (v := ?_) rfl (by kernel_rfl) (by kernel_rfl) (by kernel_rfl) (fun _ _ _ h => h) (Or.inl ⟨by rfl, ?_⟩) (by assumption) ?_
                        rotate_left
                        · intro w hSw
                          (try dsimp only at hSw)
                          go_simp
                          (try (with_reducible rfl))
                        try simp only [Act.put, List.setIfInBounds_toArray, List.set_cons_zero, List.set_cons_succ]
                        refine wpAnyH_take (i := 2) (oi := { dst := some 54, op := _, type := _, pos := _, after := _, guard := _ }) (v := ?_) rfl (by kernel_rfl) (by kernel_rfl) (by kernel_rfl) (fun _ _ _ h => h) (Or.inl ⟨by rfl, ?_⟩) (by assumption) ?_
                        rotate_left
                        · intro w hSw
                          (try dsimp only at hSw)
                          go_simp
                          (try (with_reducible rfl))
                        try simp only [Act.put, List.setIfInBounds_toArray, List.set_cons_zero, List.set_cons_succ]
                        refine wpAnyH_take (i := 3) (oi := { dst := some 55, op := _, type := _, pos := _, after := _, guard := _ }) (v := ?_) rfl (by kernel_rfl) (by kernel_rfl) (by kernel_rfl) (fun _ _ _ h => h) (Or.inl ⟨by rfl, ?_⟩) (by assumption) ?_
                        rotate_left
                        · intro w hSw
                          (try dsimp only at hSw)
                          go_simp
                          (try (with_reducible rfl))
                        try simp only [Act.put, List.setIfInBounds_toArray, List.set_cons_zero, List.set_cons_succ]
                        refine wpAnyH_take (i := 4) (oi := { dst := some 56, op := _, type := _, pos := _, after := _, guard := _ }) (v := ?_) rfl (by kernel_rfl) (by kernel_rfl) (by kernel_rfl) (fun _ _ _ h => h) (Or.inl ⟨by rfl, ?_⟩) (by assumption) ?_
                        rotate_left
                        · intro w hSw
                          (try dsimp only at hSw)
                          go_simp
                          (try (with_reducible rfl))
                        try simp only [Act.put, List.setIfInBounds_toArray, List.set_cons_zero, List.set_cons_succ]
                        refine wpAnyH_take (i := 5) (oi := { dst := some 57, op := _, type := _, pos := _, after := _, guard := _ }) (v := ?_) rfl (by kernel_rfl) (by kernel_rfl) (by kernel_rfl) (fun _ _ _ h => h) (Or.inl ⟨by rfl, ?_⟩) (by assumption) ?_
                        rotate_left
                        · intro w hSw
                          (try dsimp only at hSw)
                          go_simp
                          (try (with_reducible rfl))
                        try simp only [Act.put, List.setIfInBounds_toArray, List.set_cons_zero, List.set_cons_succ]
                        refine wpAnyH_take (i := 6) (oi := { dst := some 58, op := _, type := _, pos := _, after := _, guard := _ }) (v := ?_) rfl (by kernel_rfl) (by kernel_rfl) (by kernel_rfl) (fun _ _ _ h => h) (Or.inl ⟨by rfl, ?_⟩) (by assumption) ?_
                        rotate_left
                        · intro w hSw
                          (try dsimp only at hSw)
                          go_simp
                          (try (with_reducible rfl))
                        try simp only [Act.put, List.setIfInBounds_toArray, List.set_cons_zero, List.set_cons_succ]
                        refine wpAnyH_take (i := 7) (oi := { dst := some 59, op := _, type := _, pos := _, after := _, guard := _ }) (v := ?_) rfl (by kernel_rfl) (by kernel_rfl) (by kernel_rfl) (fun _ _ _ h => h) (Or.inl ⟨by rfl, ?_⟩) (by assumption) ?_
                        rotate_left
                        · intro w hSw
                          (try dsimp only at hSw)
                          go_simp
                          (try (with_reducible rfl))
                        try simp only [Act.put, List.setIfInBounds_toArray, List.set_cons_zero, List.set_cons_succ]
                        refine wpAnyH_take (i := 8) (oi := { dst := some 60, op := _, type := _, pos := _, after := _, guard := _ }) (v := ?_) rfl (by kernel_rfl) (by kernel_rfl) (by kernel_rfl) (fun _ _ _ h => h) (Or.inl ⟨by rfl, ?_⟩) (by assumption) ?_
                        rotate_left
                        · intro w hSw
                          (try dsimp only at hSw)
                          go_simp
                          (try (with_reducible rfl))
                        try simp only [Act.put, List.setIfInBounds_toArray, List.set_cons_zero, List.set_cons_succ]
                        refine wpAnyH_take (i := 9) (oi := { dst := some 61, op := _, type := _, pos := _, after := _, guard := _ }) (v := undef) rfl (by kernel_rfl) (by kernel_rfl) (by kernel_rfl) (fun _ _ _ h => h) (Or.inr ⟨by rfl, rfl⟩) (by assumption) ?_
                        try simp only [Act.put, List.setIfInBounds_toArray, List.set_cons_zero, List.set_cons_succ]
                        refine wpAnyH_take (i := 10) (oi := { dst := some 62, op := _, type := _, pos := _, after := _, guard := _ }) (v := undef) rfl (by kernel_rfl) (by kernel_rfl) (by kernel_rfl) (fun _ _ _ h => h) (Or.inr ⟨by rfl, rfl⟩) (by assumption) ?_
                        try simp only [Act.put, List.setIfInBounds_toArray, List.set_cons_zero, List.set_cons_succ]
                        refine wpAnyH_take (i := 11) (oi := { dst := some 63, op := _, type := _, pos := _, after := _, guard := _ }) (v := undef) rfl (by kernel_rfl) (by kernel_rfl) (by kernel_rfl) (fun _ _ _ h => h) (Or.inr ⟨by rfl, rfl⟩) (by assumption) ?_
                        try simp only [Act.put, List.setIfInBounds_toArray, List.set_cons_zero, List.set_cons_succ]
                        refine wpAnyH_take (i := 12) (oi := { dst := some 64, op := _, type := _, pos := _, after := _, guard := _ }) (v := ?_) rfl (by kernel_rfl) (by kernel_rfl) (by kernel_rfl) (fun _ _ _ h => h) (Or.inl ⟨by rfl, ?_⟩) (by assumption) ?_
                        rotate_left
                        · intro w hSw
                          (try dsimp only at hSw)
                          go_simp
                          (try (with_reducible rfl))
                        try simp only [Act.put, List.setIfInBounds_toArray, List.set_cons_zero, List.set_cons_succ]
                        refine wpAnyH_take (i := 13) (oi := { dst := some 65, op := _, type := _, pos := _, after := _, guard := _ }) (v := ?_) rfl (by kernel_rfl) (by kernel_rfl) (by kernel_rfl) (fun _ _ _ h => h) (Or.inl ⟨by rfl, ?_⟩) (by assumption) ?_
                        rotate_left
                        · intro w hSw
                          (try dsimp only at hSw)
                          go_simp
                          (try (with_reducible rfl))
                        try simp only [Act.put, List.setIfInBounds_toArray, List.set_cons_zero, List.set_cons_succ]
                        refine wpAnyH_take (i := 14) (oi := { dst := some 66, op := _, type := _, pos := _, after := _, guard := _ }) (v := undef) rfl (by kernel_rfl) (by kernel_rfl) (by kernel_rfl) (fun _ _ _ h => h) (Or.inr ⟨by rfl, rfl⟩) (by assumption) ?_
                        try simp only [Act.put, List.setIfInBounds_toArray, List.set_cons_zero, List.set_cons_succ]
                        refine wpAnyH_take (i := 15) (oi := { dst := some 67, op := _, type := _, pos := _, after := _, guard := _ }) (v := undef) rfl (by kernel_rfl) (by kernel_rfl) (by kernel_rfl) (fun _ _ _ h => h) (Or.inr ⟨by rfl, rfl⟩) (by assumption) ?_
                        try simp only [Act.put, List.setIfInBounds_toArray, List.set_cons_zero, List.set_cons_succ]
                        refine wpAnyH_take (i := 16) (oi := { dst := some 68, op := _, type := _, pos := _, after := _, guard := _ }) (v := undef) rfl (by kernel_rfl) (by kernel_rfl) (by kernel_rfl) (fun _ _ _ h => h) (Or.inr ⟨by rfl, rfl⟩) (by assumption) ?_
                        try simp only [Act.put, List.setIfInBounds_toArray, List.set_cons_zero, List.set_cons_succ]
                        refine wpAnyH_take (i := 17) (oi := { dst := some 69, op := _, type := _, pos := _, after := _, guard := _ }) (v := ?_) rfl (by kernel_rfl) (by kernel_rfl) (by kernel_rfl) (fun _ _ _ h => h) (Or.inl ⟨by rfl, ?_⟩) (by assumption) ?_
                        rotate_left
                        · intro w hSw
                          (try dsimp only at hSw)
                          go_simp
                          (try (with_reducible rfl))
                        try simp only [Act.put, List.setIfInBounds_toArray, List.set_cons_zero, List.set_cons_succ]
                        refine wpAnyH_take (i := 18) (oi := { dst := some 70, op := _, type := _, pos := _, after := _, guard := _ }) (v := ?_) rfl (by kernel_rfl) (by kernel_rfl) (by kernel_rfl) (fun _ _ _ h => h) (Or.inl ⟨by rfl, ?_⟩) (by assumption) ?_
                        rotate_left
                        · intro w hSw
                          (try dsimp only at hSw)
                          go_simp
                          (try (with_reducible rfl))
                        try simp only [Act.put, List.setIfInBounds_toArray, List.set_cons_zero, List.set_cons_succ]
                        refine wpAnyH_take (i := 19) (oi := { dst := some 71, op := _, type := _, pos := _, after := _, guard := _ }) (v := undef) rfl (by kernel_rfl) (by kernel_rfl) (by kernel_rfl) (fun _ _ _ h => h) (Or.inr ⟨by rfl, rfl⟩) (by assumption) ?_
                        try simp only [Act.put, List.setIfInBounds_toArray, List.set_cons_zero, List.set_cons_succ]
                        refine wpAnyH_take (i := 20) (oi := { dst := some 72, op := _, type := _, pos := _, after := _, guard := _ }) (v := undef) rfl (by kernel_rfl) (by kernel_rfl) (by kernel_rfl) (fun _ _ _ h => h) (Or.inr ⟨by rfl, rfl⟩) (by assumption) ?_
                        try simp only [Act.put, List.setIfInBounds_toArray, List.set_cons_zero, List.set_cons_succ]
                        refine wpAnyH_take (i := 21) (oi := { dst := some 73, op := _, type := _, pos := _, after := _, guard := _ }) (v := undef) rfl (by kernel_rfl) (by kernel_rfl) (by kernel_rfl) (fun _ _ _ h => h) (Or.inr ⟨by rfl, rfl⟩) (by assumption) ?_
                        try simp only [Act.put, List.setIfInBounds_toArray, List.set_cons_zero, List.set_cons_succ]
                        refine wpAnyH_take (i := 22) (oi := { dst := some 74, op := _, type := _, pos := _, after := _, guard := _ }) (v := undef) rfl (by kernel_rfl) (by kernel_rfl) (by kernel_rfl) (fun _ _ _ h => h) (Or.inr ⟨by rfl, rfl⟩) (by assumption) ?_
                        try simp only [Act.put, List.setIfInBounds_toArray, List.set_cons_zero, List.set_cons_succ]
                        refine wpAnyH_take (i := 23) (oi := { dst := some 75, op := _, type := _, pos := _, after := _, guard := _ }) (v := undef) rfl (by kernel_rfl) (by kernel_rfl) (by kernel_rfl) (fun _ _ _ h => h) (Or.inr ⟨by rfl, rfl⟩) (by assumption) ?_
                        try simp only [Act.put, List.setIfInBounds_toArray, List.set_cons_zero, List.set_cons_succ]
                        refine wpAnyH_take (i := 24) (oi := { dst := some 76, op := _, type := _, pos := _, after := _, guard := _ }) (v := undef) rfl (by kernel_rfl) (by kernel_rfl) (by kernel_rfl) (fun _ _ _ h => h) (Or.inr ⟨by rfl, rfl⟩) (by assumption) ?_
                        try simp only [Act.put, List.setIfInBounds_toArray, List.set_cons_zero, List.set_cons_succ]
                        refine wpAnyH_take (i := 25) (oi := { dst := some 77, op := _, type := _, pos := _, after := _, guard := _ }) (v := ?_) rfl (by kernel_rfl) (by kernel_rfl) (by kernel_rfl) (fun _ _ _ h => h) (Or.inl ⟨by rfl, ?_⟩) (by assumption) ?_
                        rotate_left
                        · intro w hSw
                          (try dsimp only at hSw)
                          go_simp
                          (try (with_reducible rfl))
                        try simp only [Act.put, List.setIfInBounds_toArray, List.set_cons_zero, List.set_cons_succ]
                        refine wpAnyH_take (i := 26) (oi := { dst := some 4, op := _, type := _, pos := _, after := _, guard := _ }) (v := ?_) rfl (by kernel_rfl) (by kernel_rfl) (by kernel_rfl) (fun _ _ _ h => h) (Or.inl ⟨by rfl, ?_⟩) (by assumption) ?_
                        rotate_left
                        · intro w hSw
                          (try dsimp only at hSw)
                          go_simp
                          (try (with_reducible rfl))
                        try simp only [Act.put, List.setIfInBounds_toArray, List.set_cons_zero, List.set_cons_succ]
                        refine wpAnyH_done (by kernel_rfl) ?_ _
                        clear hHeld
                        obtain ⟨q0_BV, q1_BV, q2_BV, q3_BV, qf_BV, ql_BV⟩ := BV.four
                        obtain ⟨q0_BG, q1_BG, q2_BG, q3_BG, q4_BG, q5_BG, q6_BG, q7_BG, q8_BG, qf_BG, ql_BG⟩ := BG.nine
                        go_wp2_with fail
                        go_ret
                        exact ⟨rfl, hb⟩
                    · have f_e1 : (pl == 0) = false := by rw [beq_eq_false_iff_ne]; exact e1
                      rw [f_e1]
                      clear e1
                      (try simp only [Bool.false_and, Bool.true_and, Bool.and_false, Bool.and_true, Bool.not_true, Bool.not_false])
                      go_enter Try.func91, Try.ntmps91
                      obtain ⟨x0, x1, x2, x3, xf, xl⟩ := BV.four
                      obtain ⟨ga0, ga1, ga2, ga3, ga4, ga5, ga6, ga7, ga8, gaf, gal⟩ := BG.nine
                      go_wp2_with fail
                      clear x0 x1 x2 x3 xf xl
                      clear ga0 ga1 ga2 ga3 ga4 ga5 ga6 ga7 ga8 gaf gal
                      generalize ((w.alloc (.cells #[.int .i64 p, .int .i64 c, .int .i64 h, .int .i64 s] 32)).alloc (.cells #[.slice a1 n1 c1, .slice a2 n2 c2, .int .i64 pl, .int .i64 ra, .int .i64 rb, .int .i64 ph, .int .i64 wi, .int .i64 re, .int .i64 tu] 70)) = v0 at *
                      obtain ⟨q0_BV, q1_BV, q2_BV, q3_BV, qf_BV, ql_BV⟩ := BV.four
                      obtain ⟨q0_BG, q1_BG, q2_BG, q3_BG, q4_BG, q5_BG, q6_BG, q7_BG, q8_BG, qf_BG, ql_BG⟩ := BG.nine
                      go_wp2_with fail
                      clear q0_BV q1_BV q2_BV q3_BV qf_BV ql_BV
                      clear q0_BG q1_BG q2_BG q3_BG q4_BG q5_BG q6_BG q7_BG q8_BG qf_BG ql_BG
                      refine (HV.out _).mono ?_
                      rintro e w1 ⟨rfl, hb1⟩
                      replace BV := BV.below hb1
                      replace BG := BG.below hb1
                      replace r1 := r1.below hb1
                      replace r2 := r2.below hb1
                      have hz1 := hb1.size
                      replace hb := chain hb hb1
                      clear hb1
                      obtain ⟨q0_BV, q1_BV, q2_BV, q3_BV, qf_BV, ql_BV⟩ := BV.four
                      obtain ⟨q0_BG, q1_BG, q2_BG, q3_BG, q4_BG, q5_BG, q6_BG, q7_BG, q8_BG, qf_BG, ql_BG⟩ := BG.nine
                      go_wp2_with fail
                      clear q0_BV q1_BV q2_BV q3_BV qf_BV ql_BV
                      clear q0_BG q1_BG q2_BG q3_BG q4_BG q5_BG q6_BG q7_BG q8_BG qf_BG ql_BG
                      refine (HI.out _ r1 r2).mono ?_
                      rintro e w2 ⟨rfl, hb2⟩
                      replace BV := BV.below hb2
                      replace BG := BG.below hb2
                      replace r1 := r1.below hb2
                      replace r2 := r2.below hb2
                      have hz2 := hb2.size
                      replace hb := chain hb hb2
                      clear hb2
                      obtain ⟨q0_BV, q1_BV, q2_BV, q3_BV, qf_BV, ql_BV⟩ := BV.four
                      obtain ⟨q0_BG, q1_BG, q2_BG, q3_BG, q4_BG, q5_BG, q6_BG, q7_BG, q8_BG, qf_BG, ql_BG⟩ := BG.nine
                      go_wp2_with fail
                      clear q0_BV q1_BV q2_BV q3_BV qf_BV ql_BV
                      clear q0_BG q1_BG q2_BG q3_BG q4_BG q5_BG q6_BG q7_BG q8_BG qf_BG ql_BG
                      refine (HP.out _).mono ?_
                      rintro e w3 ⟨rfl, hb3⟩
                      replace BV := BV.below hb3
                      replace BG := BG.below hb3
                      replace r1 := r1.below hb3
                      replace r2 := r2.below hb3
                      have hz3 := hb3.size
                      replace hb := chain hb hb3
                      clear hb3
                      obtain ⟨q0_BV, q1_BV, q2_BV, q3_BV, qf_BV, ql_BV⟩ := BV.four
                      obtain ⟨q0_BG, q1_BG, q2_BG, q3_BG, q4_BG, q5_BG, q6_BG, q7_BG, q8_BG, qf_BG, ql_BG⟩ := BG.nine
                      go_wp2_with fail
                      clear q0_BV q1_BV q2_BV q3_BV qf_BV ql_BV
                      clear q0_BG q1_BG q2_BG q3_BG q4_BG q5_BG q6_BG q7_BG q8_BG qf_BG ql_BG
                      refine (HT.out _).mono ?_
                      rintro e w4 ⟨rfl, hb4⟩
                      replace BV := BV.below hb4
                      replace BG := BG.below hb4
                      replace r1 := r1.below hb4
                      replace r2 := r2.below hb4
                      have hz4 := hb4.size
                      replace hb := chain hb hb4
                      clear hb4
                      obtain ⟨q0_BV, q1_BV, q2_BV, q3_BV, qf_BV, ql_BV⟩ := BV.four
                      obtain ⟨q0_BG, q1_BG, q2_BG, q3_BG, q4_BG, q5_BG, q6_BG, q7_BG, q8_BG, qf_BG, ql_BG⟩ := BG.nine
                      go_wp2_with fail
                      clear q0_BV q1_BV q2_BV q3_BV qf_BV ql_BV
                      clear q0_BG q1_BG q2_BG q3_BG q4_BG q5_BG q6_BG q7_BG q8_BG qf_BG ql_BG
                      refine (HO.out (by simp) _ r1 r2).mono ?_
                      rintro e w5 ⟨rfl, hb5⟩
                      replace BV := BV.below hb5
                      replace BG := BG.below hb5
                      replace r1 := r1.below hb5
                      replace r2 := r2.below hb5
                      have hz5 := hb5.size
                      replace hb := chain hb hb5
                      clear hb5
                      obtain ⟨q0_BV, q1_BV, q2_BV, q3_BV, qf_BV, ql_BV⟩ := BV.four
                      obtain ⟨q0_BG, q1_BG, q2_BG, q3_BG, q4_BG, q5_BG, q6_BG, q7_BG, q8_BG, qf_BG, ql_BG⟩ := BG.nine
                      go_wp2_with fail
                      clear q0_BV q1_BV q2_BV q3_BV qf_BV ql_BV
                      clear q0_BG q1_BG q2_BG q3_BG q4_BG q5_BG q6_BG q7_BG q8_BG qf_BG ql_BG
                      have hd6 : w5.drew.heap.size = w5.heap.size := rfl
                      replace BV := BV.drew
                      replace BG := BG.drew
                      replace r1 := r1.drew
                      replace r2 := r2.drew
                      replace hb := hb.drew
                      refine wp_region_held_drew (S := fun w' => w'.cell? ⟨w.heap.size, 0, none⟩ = some (.int .i64 p) ∧ w'.cell? ⟨w.heap.size, 1, none⟩ = some (.int .i64 c) ∧ w'.cell? ⟨w.heap.size, 2, none⟩ = some (.int .i64 h) ∧ w'.cell? ⟨w.heap.size, 3, none⟩ = some (.int .i64 s) ∧ w'.cell? ⟨(w.heap.size + 1), 0, none⟩ = some (.slice a1 n1 c1) ∧ w'.cell? ⟨(w.heap.size + 1), 1, none⟩ = some (.slice a2 n2 c2) ∧ w'.cell? ⟨(w.heap.size + 1), 2, none⟩ = some (.int .i64 pl) ∧ w'.cell? ⟨(w.heap.size + 1), 3, none⟩ = some (.int .i64 ra) ∧ w'.cell? ⟨(w.heap.size + 1), 4, none⟩ = some (.int .i64 rb) ∧ w'.cell? ⟨(w.heap.size + 1), 5, none⟩ = some (.int .i64 ph) ∧ w'.cell? ⟨(w.heap.size + 1), 6, none⟩ = some (.int .i64 wi) ∧ w'.cell? ⟨(w.heap.size + 1), 7, none⟩ = some (.int .i64 re) ∧ w'.cell? ⟨(w.heap.size + 1), 8, none⟩ = some (.int .i64 tu)) (by kernel_rfl) ⟨BV.four.1, BV.four.2.1, BV.four.2.2.1, BV.four.2.2.2.1, BG.nine.1, BG.nine.2.1, BG.nine.2.2.1, BG.nine.2.2.2.1, BG.nine.2.2.2.2.1, BG.nine.2.2.2.2.2.1, BG.nine.2.2.2.2.2.2.1, BG.nine.2.2.2.2.2.2.2.1, BG.nine.2.2.2.2.2.2.2.2.1⟩ (fun hHeld => ?_)
                      clear hHeld
                      generalize w5.drew = vd6 at *
                      have hHeld : vd6.cell? ⟨w.heap.size, 0, none⟩ = some (.int .i64 p) ∧ vd6.cell? ⟨w.heap.size, 1, none⟩ = some (.int .i64 c) ∧ vd6.cell? ⟨w.heap.size, 2, none⟩ = some (.int .i64 h) ∧ vd6.cell? ⟨w.heap.size, 3, none⟩ = some (.int .i64 s) ∧ vd6.cell? ⟨(w.heap.size + 1), 0, none⟩ = some (.slice a1 n1 c1) ∧ vd6.cell? ⟨(w.heap.size + 1), 1, none⟩ = some (.slice a2 n2 c2) ∧ vd6.cell? ⟨(w.heap.size + 1), 2, none⟩ = some (.int .i64 pl) ∧ vd6.cell? ⟨(w.heap.size + 1), 3, none⟩ = some (.int .i64 ra) ∧ vd6.cell? ⟨(w.heap.size + 1), 4, none⟩ = some (.int .i64 rb) ∧ vd6.cell? ⟨(w.heap.size + 1), 5, none⟩ = some (.int .i64 ph) ∧ vd6.cell? ⟨(w.heap.size + 1), 6, none⟩ = some (.int .i64 wi) ∧ vd6.cell? ⟨(w.heap.size + 1), 7, none⟩ = some (.int .i64 re) ∧ vd6.cell? ⟨(w.heap.size + 1), 8, none⟩ = some (.int .i64 tu) := ⟨BV.four.1, BV.four.2.1, BV.four.2.2.1, BV.four.2.2.2.1, BG.nine.1, BG.nine.2.1, BG.nine.2.2.1, BG.nine.2.2.2.1, BG.nine.2.2.2.2.1, BG.nine.2.2.2.2.2.1, BG.nine.2.2.2.2.2.2.1, BG.nine.2.2.2.2.2.2.2.1, BG.nine.2.2.2.2.2.2.2.2.1⟩
                      refine wpAnyH_take (i := 0) (oi := { dst := some 52, op := _, type := _, pos := _, after := _, guard := _ }) (v := ?_) rfl (by kernel_rfl) (by kernel_rfl) (by kernel_rfl) (fun _ _ _ h => h) (Or.inl ⟨by rfl, ?_⟩) (by assumption) ?_
                      rotate_left
                      · intro w hSw
                        (try dsimp only at hSw)
                        go_simp
                        (try (with_reducible rfl))
                      try simp only [Act.put, List.setIfInBounds_toArray, List.set_cons_zero, List.set_cons_succ]
                      refine wpAnyH_take (i := 1) (oi := { dst := some 53, op := _, type := _, pos := _, after := _, guard := _ }) (v := ?_) rfl (by kernel_rfl) (by kernel_rfl) (by kernel_rfl) (fun _ _ _ h => h) (Or.inl ⟨by rfl, ?_⟩) (by assumption) ?_
                      rotate_left
                      · intro w hSw
                        (try dsimp only at hSw)
                        go_simp
                        (try (with_reducible rfl))
                      try simp only [Act.put, List.setIfInBounds_toArray, List.set_cons_zero, List.set_cons_succ]
                      refine wpAnyH_take (i := 2) (oi := { dst := some 54, op := _, type := _, pos := _, after := _, guard := _ }) (v := ?_) rfl (by kernel_rfl) (by kernel_rfl) (by kernel_rfl) (fun _ _ _ h => h) (Or.inl ⟨by rfl, ?_⟩) (by assumption) ?_
                      rotate_left
                      · intro w hSw
                        (try dsimp only at hSw)
                        go_simp
                        (try (with_reducible rfl))
                      try simp only [Act.put, List.setIfInBounds_toArray, List.set_cons_zero, List.set_cons_succ]
                      refine wpAnyH_take (i := 3) (oi := { dst := some 55, op := _, type := _, pos := _, after := _, guard := _ }) (v := ?_) rfl (by kernel_rfl) (by kernel_rfl) (by kernel_rfl) (fun _ _ _ h => h) (Or.inl ⟨by rfl, ?_⟩) (by assumption) ?_
                      rotate_left
                      · intro w hSw
                        (try dsimp only at hSw)
                        go_simp
                        (try (with_reducible rfl))
                      try simp only [Act.put, List.setIfInBounds_toArray, List.set_cons_zero, List.set_cons_succ]
                      refine wpAnyH_take (i := 4) (oi := { dst := some 56, op := _, type := _, pos := _, after := _, guard := _ }) (v := undef) rfl (by kernel_rfl) (by kernel_rfl) (by kernel_rfl) (fun _ _ _ h => h) (Or.inr ⟨by rfl, rfl⟩) (by assumption) ?_
                      try simp only [Act.put, List.setIfInBounds_toArray, List.set_cons_zero, List.set_cons_succ]
                      refine wpAnyH_take (i := 5) (oi := { dst := some 57, op := _, type := _, pos := _, after := _, guard := _ }) (v := undef) rfl (by kernel_rfl) (by kernel_rfl) (by kernel_rfl) (fun _ _ _ h => h) (Or.inr ⟨by rfl, rfl⟩) (by assumption) ?_
                      try simp only [Act.put, List.setIfInBounds_toArray, List.set_cons_zero, List.set_cons_succ]
                      refine wpAnyH_take (i := 6) (oi := { dst := some 58, op := _, type := _, pos := _, after := _, guard := _ }) (v := undef) rfl (by kernel_rfl) (by kernel_rfl) (by kernel_rfl) (fun _ _ _ h => h) (Or.inr ⟨by rfl, rfl⟩) (by assumption) ?_
                      try simp only [Act.put, List.setIfInBounds_toArray, List.set_cons_zero, List.set_cons_succ]
                      refine wpAnyH_take (i := 7) (oi := { dst := some 59, op := _, type := _, pos := _, after := _, guard := _ }) (v := ?_) rfl (by kernel_rfl) (by kernel_rfl) (by kernel_rfl) (fun _ _ _ h => h) (Or.inl ⟨by rfl, ?_⟩) (by assumption) ?_
                      rotate_left
                      · intro w hSw
                        (try dsimp only at hSw)
                        go_simp
                        (try (with_reducible rfl))
                      try simp only [Act.put, List.setIfInBounds_toArray, List.set_cons_zero, List.set_cons_succ]
                      refine wpAnyH_take (i := 8) (oi := { dst := some 60, op := _, type := _, pos := _, after := _, guard := _ }) (v := ?_) rfl (by kernel_rfl) (by kernel_rfl) (by kernel_rfl) (fun _ _ _ h => h) (Or.inl ⟨by rfl, ?_⟩) (by assumption) ?_
                      rotate_left
                      · intro w hSw
                        (try dsimp only at hSw)
                        go_simp
                        (try (with_reducible rfl))
                      try simp only [Act.put, List.setIfInBounds_toArray, List.set_cons_zero, List.set_cons_succ]
                      refine wpAnyH_take (i := 9) (oi := { dst := some 61, op := _, type := _, pos := _, after := _, guard := _ }) (v := undef) rfl (by kernel_rfl) (by kernel_rfl) (by kernel_rfl) (fun _ _ _ h => h) (Or.inr ⟨by rfl, rfl⟩) (by assumption) ?_
                      try simp only [Act.put, List.setIfInBounds_toArray, List.set_cons_zero, List.set_cons_succ]
                      refine wpAnyH_take (i := 10) (oi := { dst := some 62, op := _, type := _, pos := _, after := _, guard := _ }) (v := undef) rfl (by kernel_rfl) (by kernel_rfl) (by kernel_rfl) (fun _ _ _ h => h) (Or.inr ⟨by rfl, rfl⟩) (by assumption) ?_
                      try simp only [Act.put, List.setIfInBounds_toArray, List.set_cons_zero, List.set_cons_succ]
                      refine wpAnyH_take (i := 11) (oi := { dst := some 63, op := _, type := _, pos := _, after := _, guard := _ }) (v := undef) rfl (by kernel_rfl) (by kernel_rfl) (by kernel_rfl) (fun _ _ _ h => h) (Or.inr ⟨by rfl, rfl⟩) (by assumption) ?_
                      try simp only [Act.put, List.setIfInBounds_toArray, List.set_cons_zero, List.set_cons_succ]
                      refine wpAnyH_take (i := 12) (oi := { dst := some 64, op := _, type := _, pos := _, after := _, guard := _ }) (v := ?_) rfl (by kernel_rfl) (by kernel_rfl) (by kernel_rfl) (fun _ _ _ h => h) (Or.inl ⟨by rfl, ?_⟩) (by assumption) ?_
                      rotate_left
                      · intro w hSw
                        (try dsimp only at hSw)
                        go_simp
                        (try (with_reducible rfl))
                      try simp only [Act.put, List.setIfInBounds_toArray, List.set_cons_zero, List.set_cons_succ]
                      refine wpAnyH_take (i := 13) (oi := { dst := some 65, op := _, type := _, pos := _, after := _, guard := _ }) (v := ?_) rfl (by kernel_rfl) (by kernel_rfl) (by kernel_rfl) (fun _ _ _ h => h) (Or.inl ⟨by rfl, ?_⟩) (by assumption) ?_
                      rotate_left
                      · intro w hSw
                        (try dsimp only at hSw)
                        go_simp
                        (try (with_reducible rfl))
                      try simp only [Act.put, List.setIfInBounds_toArray, List.set_cons_zero, List.set_cons_succ]
                      refine wpAnyH_take (i := 14) (oi := { dst := some 66, op := _, type := _, pos := _, after := _, guard := _ }) (v := undef) rfl (by kernel_rfl) (by kernel_rfl) (by kernel_rfl) (fun _ _ _ h => h) (Or.inr ⟨by rfl, rfl⟩) (by assumption) ?_
                      try simp only [Act.put, List.setIfInBounds_toArray, List.set_cons_zero, List.set_cons_succ]
                      refine wpAnyH_take (i := 15) (oi := { dst := some 67, op := _, type := _, pos := _, after := _, guard := _ }) (v := undef) rfl (by kernel_rfl) (by kernel_rfl) (by kernel_rfl) (fun _ _ _ h => h) (Or.inr ⟨by rfl, rfl⟩) (by assumption) ?_
                      try simp only [Act.put, List.setIfInBounds_toArray, List.set_cons_zero, List.set_cons_succ]
                      refine wpAnyH_take (i := 16) (oi := { dst := some 68, op := _, type := _, pos := _, after := _, guard := _ }) (v := undef) rfl (by kernel_rfl) (by kernel_rfl) (by kernel_rfl) (fun _ _ _ h => h) (Or.inr ⟨by rfl, rfl⟩) (by assumption) ?_
                      try simp only [Act.put, List.setIfInBounds_toArray, List.set_cons_zero, List.set_cons_succ]
                      refine wpAnyH_take (i := 17) (oi := { dst := some 69, op := _, type := _, pos := _, after := _, guard := _ }) (v := ?_) rfl (by kernel_rfl) (by kernel_rfl) (by kernel_rfl) (fun _ _ _ h => h) (Or.inl ⟨by rfl, ?_⟩) (by assumption) ?_
                      rotate_left
                      · intro w hSw
                        (try dsimp only at hSw)
                        go_simp
                        (try (with_reducible rfl))
                      try simp only [Act.put, List.setIfInBounds_toArray, List.set_cons_zero, List.set_cons_succ]
                      refine wpAnyH_take (i := 18) (oi := { dst := some 70, op := _, type := _, pos := _, after := _, guard := _ }) (v := ?_) rfl (by kernel_rfl) (by kernel_rfl) (by kernel_rfl) (fun _ _ _ h => h) (Or.inl ⟨by rfl, ?_⟩) (by assumption) ?_
                      rotate_left
                      · intro w hSw
                        (try dsimp only at hSw)
                        go_simp
                        (try (with_reducible rfl))
                      try simp only [Act.put, List.setIfInBounds_toArray, List.set_cons_zero, List.set_cons_succ]
                      refine wpAnyH_take (i := 19) (oi := { dst := some 71, op := _, type := _, pos := _, after := _, guard := _ }) (v := undef) rfl (by kernel_rfl) (by kernel_rfl) (by kernel_rfl) (fun _ _ _ h => h) (Or.inr ⟨by rfl, rfl⟩) (by assumption) ?_
                      try simp only [Act.put, List.setIfInBounds_toArray, List.set_cons_zero, List.set_cons_succ]
                      refine wpAnyH_take (i := 20) (oi := { dst := some 72, op := _, type := _, pos := _, after := _, guard := _ }) (v := undef) rfl (by kernel_rfl) (by kernel_rfl) (by kernel_rfl) (fun _ _ _ h => h) (Or.inr ⟨by rfl, rfl⟩) (by assumption) ?_
                      try simp only [Act.put, List.setIfInBounds_toArray, List.set_cons_zero, List.set_cons_succ]
                      refine wpAnyH_take (i := 21) (oi := { dst := some 73, op := _, type := _, pos := _, after := _, guard := _ }) (v := undef) rfl (by kernel_rfl) (by kernel_rfl) (by kernel_rfl) (fun _ _ _ h => h) (Or.inr ⟨by rfl, rfl⟩) (by assumption) ?_
                      try simp only [Act.put, List.setIfInBounds_toArray, List.set_cons_zero, List.set_cons_succ]
                      refine wpAnyH_take (i := 22) (oi := { dst := some 74, op := _, type := _, pos := _, after := _, guard := _ }) (v := undef) rfl (by kernel_rfl) (by kernel_rfl) (by kernel_rfl) (fun _ _ _ h => h) (Or.inr ⟨by rfl, rfl⟩) (by assumption) ?_
                      try simp only [Act.put, List.setIfInBounds_toArray, List.set_cons_zero, List.set_cons_succ]
                      refine wpAnyH_take (i := 23) (oi := { dst := some 75, op := _, type := _, pos := _, after := _, guard := _ }) (v := undef) rfl (by kernel_rfl) (by kernel_rfl) (by kernel_rfl) (fun _ _ _ h => h) (Or.inr ⟨by rfl, rfl⟩) (by assumption) ?_
                      try simp only [Act.put, List.setIfInBounds_toArray, List.set_cons_zero, List.set_cons_succ]
                      refine wpAnyH_take (i := 24) (oi := { dst := some 76, op := _, type := _, pos := _, after := _, guard := _ }) (v := undef) rfl (by kernel_rfl) (by kernel_rfl) (by kernel_rfl) (fun _ _ _ h => h) (Or.inr ⟨by rfl, rfl⟩) (by assumption) ?_
                      try simp only [Act.put, List.setIfInBounds_toArray, List.set_cons_zero, List.set_cons_succ]
                      refine wpAnyH_take (i := 25) (oi := { dst := some 77, op := _, type := _, pos := _, after := _, guard := _ }) (v := ?_) rfl (by kernel_rfl) (by kernel_rfl) (by kernel_rfl) (fun _ _ _ h => h) (Or.inl ⟨by rfl, ?_⟩) (by assumption) ?_
                      rotate_left
                      · intro w hSw
                        (try dsimp only at hSw)
                        go_simp
                        (try (with_reducible rfl))
                      try simp only [Act.put, List.setIfInBounds_toArray, List.set_cons_zero, List.set_cons_succ]
                      refine wpAnyH_take (i := 26) (oi := { dst := some 4, op := _, type := _, pos := _, after := _, guard := _ }) (v := ?_) rfl (by kernel_rfl) (by kernel_rfl) (by kernel_rfl) (fun _ _ _ h => h) (Or.inl ⟨by rfl, ?_⟩) (by assumption) ?_
                      rotate_left
                      · intro w hSw
                        (try dsimp only at hSw)
                        go_simp
                        (try (with_reducible rfl))
                      try simp only [Act.put, List.setIfInBounds_toArray, List.set_cons_zero, List.set_cons_succ]
                      refine wpAnyH_done (by kernel_rfl) ?_ _
                      clear hHeld
                      obtain ⟨q0_BV, q1_BV, q2_BV, q3_BV, qf_BV, ql_BV⟩ := BV.four
                      obtain ⟨q0_BG, q1_BG, q2_BG, q3_BG, q4_BG, q5_BG, q6_BG, q7_BG, q8_BG, qf_BG, ql_BG⟩ := BG.nine
                      go_wp2_with fail
                      go_ret
                      exact ⟨rfl, hb⟩
                  · have k0 : (ph == 0) = false := by rw [beq_eq_false_iff_ne]; exact q0
                    rw [if_neg q0]
                    clear q0
                    by_cases q1 : ph = 1
                    · have k1 : (ph == 1) = true := by rw [beq_iff_eq]; exact q1
                      rw [if_pos q1]
                      clear q1
                      cases O with
                      | false =>
                        by_cases ew : wi = 0
                        · have f_ew : (wi == 0) = true := by rw [beq_iff_eq]; exact ew
                          rw [f_ew]
                          clear ew
                          by_cases er : re = 0
                          · have f_er : (re == 0) = true := by rw [beq_iff_eq]; exact er
                            rw [f_er]
                            clear er
                            (try simp only [Bool.false_and, Bool.true_and, Bool.and_false, Bool.and_true, Bool.not_true, Bool.not_false])
                            go_enter Try.func91, Try.ntmps91
                            obtain ⟨x0, x1, x2, x3, xf, xl⟩ := BV.four
                            obtain ⟨ga0, ga1, ga2, ga3, ga4, ga5, ga6, ga7, ga8, gaf, gal⟩ := BG.nine
                            go_wp2_with fail
                            clear x0 x1 x2 x3 xf xl
                            clear ga0 ga1 ga2 ga3 ga4 ga5 ga6 ga7 ga8 gaf gal
                            generalize ((w.alloc (.cells #[.int .i64 p, .int .i64 c, .int .i64 h, .int .i64 s] 32)).alloc (.cells #[.slice a1 n1 c1, .slice a2 n2 c2, .int .i64 pl, .int .i64 ra, .int .i64 rb, .int .i64 ph, .int .i64 wi, .int .i64 re, .int .i64 tu] 70)) = v0 at *
                            obtain ⟨q0_BV, q1_BV, q2_BV, q3_BV, qf_BV, ql_BV⟩ := BV.four
                            obtain ⟨q0_BG, q1_BG, q2_BG, q3_BG, q4_BG, q5_BG, q6_BG, q7_BG, q8_BG, qf_BG, ql_BG⟩ := BG.nine
                            go_wp2_with fail
                            clear q0_BV q1_BV q2_BV q3_BV qf_BV ql_BV
                            clear q0_BG q1_BG q2_BG q3_BG q4_BG q5_BG q6_BG q7_BG q8_BG qf_BG ql_BG
                            refine (HV.out _).mono ?_
                            rintro e w1 ⟨rfl, hb1⟩
                            replace BV := BV.below hb1
                            replace BG := BG.below hb1
                            replace r1 := r1.below hb1
                            replace r2 := r2.below hb1
                            have hz1 := hb1.size
                            replace hb := chain hb hb1
                            clear hb1
                            obtain ⟨q0_BV, q1_BV, q2_BV, q3_BV, qf_BV, ql_BV⟩ := BV.four
                            obtain ⟨q0_BG, q1_BG, q2_BG, q3_BG, q4_BG, q5_BG, q6_BG, q7_BG, q8_BG, qf_BG, ql_BG⟩ := BG.nine
                            go_wp2_with fail
                            clear q0_BV q1_BV q2_BV q3_BV qf_BV ql_BV
                            clear q0_BG q1_BG q2_BG q3_BG q4_BG q5_BG q6_BG q7_BG q8_BG qf_BG ql_BG
                            refine (HI.out _ r1 r2).mono ?_
                            rintro e w2 ⟨rfl, hb2⟩
                            replace BV := BV.below hb2
                            replace BG := BG.below hb2
                            replace r1 := r1.below hb2
                            replace r2 := r2.below hb2
                            have hz2 := hb2.size
                            replace hb := chain hb hb2
                            clear hb2
                            obtain ⟨q0_BV, q1_BV, q2_BV, q3_BV, qf_BV, ql_BV⟩ := BV.four
                            obtain ⟨q0_BG, q1_BG, q2_BG, q3_BG, q4_BG, q5_BG, q6_BG, q7_BG, q8_BG, qf_BG, ql_BG⟩ := BG.nine
                            go_wp2_with fail
                            clear q0_BV q1_BV q2_BV q3_BV qf_BV ql_BV
                            clear q0_BG q1_BG q2_BG q3_BG q4_BG q5_BG q6_BG q7_BG q8_BG qf_BG ql_BG
                            refine (HP.out _).mono ?_
                            rintro e w3 ⟨rfl, hb3⟩
                            replace BV := BV.below hb3
                            replace BG := BG.below hb3
                            replace r1 := r1.below hb3
                            replace r2 := r2.below hb3
                            have hz3 := hb3.size
                            replace hb := chain hb hb3
                            clear hb3
                            obtain ⟨q0_BV, q1_BV, q2_BV, q3_BV, qf_BV, ql_BV⟩ := BV.four
                            obtain ⟨q0_BG, q1_BG, q2_BG, q3_BG, q4_BG, q5_BG, q6_BG, q7_BG, q8_BG, qf_BG, ql_BG⟩ := BG.nine
                            go_wp2_with fail
                            clear q0_BV q1_BV q2_BV q3_BV qf_BV ql_BV
                            clear q0_BG q1_BG q2_BG q3_BG q4_BG q5_BG q6_BG q7_BG q8_BG qf_BG ql_BG
                            refine (HT.out _).mono ?_
                            rintro e w4 ⟨rfl, hb4⟩
                            replace BV := BV.below hb4
                            replace BG := BG.below hb4
                            replace r1 := r1.below hb4
                            replace r2 := r2.below hb4
                            have hz4 := hb4.size
                            replace hb := chain hb hb4
                            clear hb4
                            obtain ⟨q0_BV, q1_BV, q2_BV, q3_BV, qf_BV, ql_BV⟩ := BV.four
                            obtain ⟨q0_BG, q1_BG, q2_BG, q3_BG, q4_BG, q5_BG, q6_BG, q7_BG, q8_BG, qf_BG, ql_BG⟩ := BG.nine
                            go_wp2_with fail
                            clear q0_BV q1_BV q2_BV q3_BV qf_BV ql_BV
                            clear q0_BG q1_BG q2_BG q3_BG q4_BG q5_BG q6_BG q7_BG q8_BG qf_BG ql_BG
                            refine (HO.out (by simp) _ r1 r2).mono ?_
                            rintro e w5 ⟨rfl, hb5⟩
                            replace BV := BV.below hb5
                            replace BG := BG.below hb5
                            replace r1 := r1.below hb5
                            replace r2 := r2.below hb5
                            have hz5 := hb5.size
                            replace hb := chain hb hb5
                            clear hb5
                            obtain ⟨q0_BV, q1_BV, q2_BV, q3_BV, qf_BV, ql_BV⟩ := BV.four
                            obtain ⟨q0_BG, q1_BG, q2_BG, q3_BG, q4_BG, q5_BG, q6_BG, q7_BG, q8_BG, qf_BG, ql_BG⟩ := BG.nine
                            go_wp2_with fail
                            go_ret
                            exact ⟨rfl, hb⟩
                          · have f_er : (re == 0) = false := by rw [beq_eq_false_iff_ne]; exact er
                            rw [f_er]
                            clear er
                            (try simp only [Bool.false_and, Bool.true_and, Bool.and_false, Bool.and_true, Bool.not_true, Bool.not_false])
                            go_enter Try.func91, Try.ntmps91
                            obtain ⟨x0, x1, x2, x3, xf, xl⟩ := BV.four
                            obtain ⟨ga0, ga1, ga2, ga3, ga4, ga5, ga6, ga7, ga8, gaf, gal⟩ := BG.nine
                            go_wp2_with fail
                            clear x0 x1 x2 x3 xf xl
                            clear ga0 ga1 ga2 ga3 ga4 ga5 ga6 ga7 ga8 gaf gal
                            generalize ((w.alloc (.cells #[.int .i64 p, .int .i64 c, .int .i64 h, .int .i64 s] 32)).alloc (.cells #[.slice a1 n1 c1, .slice a2 n2 c2, .int .i64 pl, .int .i64 ra, .int .i64 rb, .int .i64 ph, .int .i64 wi, .int .i64 re, .int .i64 tu] 70)) = v0 at *
                            obtain ⟨q0_BV, q1_BV, q2_BV, q3_BV, qf_BV, ql_BV⟩ := BV.four
                            obtain ⟨q0_BG, q1_BG, q2_BG, q3_BG, q4_BG, q5_BG, q6_BG, q7_BG, q8_BG, qf_BG, ql_BG⟩ := BG.nine
                            go_wp2_with fail
                            clear q0_BV q1_BV q2_BV q3_BV qf_BV ql_BV
                            clear q0_BG q1_BG q2_BG q3_BG q4_BG q5_BG q6_BG q7_BG q8_BG qf_BG ql_BG
                            refine (HV.out _).mono ?_
                            rintro e w1 ⟨rfl, hb1⟩
                            replace BV := BV.below hb1
                            replace BG := BG.below hb1
                            replace r1 := r1.below hb1
                            replace r2 := r2.below hb1
                            have hz1 := hb1.size
                            replace hb := chain hb hb1
                            clear hb1
                            obtain ⟨q0_BV, q1_BV, q2_BV, q3_BV, qf_BV, ql_BV⟩ := BV.four
                            obtain ⟨q0_BG, q1_BG, q2_BG, q3_BG, q4_BG, q5_BG, q6_BG, q7_BG, q8_BG, qf_BG, ql_BG⟩ := BG.nine
                            go_wp2_with fail
                            clear q0_BV q1_BV q2_BV q3_BV qf_BV ql_BV
                            clear q0_BG q1_BG q2_BG q3_BG q4_BG q5_BG q6_BG q7_BG q8_BG qf_BG ql_BG
                            refine (HI.out _ r1 r2).mono ?_
                            rintro e w2 ⟨rfl, hb2⟩
                            replace BV := BV.below hb2
                            replace BG := BG.below hb2
                            replace r1 := r1.below hb2
                            replace r2 := r2.below hb2
                            have hz2 := hb2.size
                            replace hb := chain hb hb2
                            clear hb2
                            obtain ⟨q0_BV, q1_BV, q2_BV, q3_BV, qf_BV, ql_BV⟩ := BV.four
                            obtain ⟨q0_BG, q1_BG, q2_BG, q3_BG, q4_BG, q5_BG, q6_BG, q7_BG, q8_BG, qf_BG, ql_BG⟩ := BG.nine
                            go_wp2_with fail
                            clear q0_BV q1_BV q2_BV q3_BV qf_BV ql_BV
                            clear q0_BG q1_BG q2_BG q3_BG q4_BG q5_BG q6_BG q7_BG q8_BG qf_BG ql_BG
                            refine (HP.out _).mono ?_
                            rintro e w3 ⟨rfl, hb3⟩
                            replace BV := BV.below hb3
                            replace BG := BG.below hb3
                            replace r1 := r1.below hb3
                            replace r2 := r2.below hb3
                            have hz3 := hb3.size
                            replace hb := chain hb hb3
                            clear hb3
                            obtain ⟨q0_BV, q1_BV, q2_BV, q3_BV, qf_BV, ql_BV⟩ := BV.four
                            obtain ⟨q0_BG, q1_BG, q2_BG, q3_BG, q4_BG, q5_BG, q6_BG, q7_BG, q8_BG, qf_BG, ql_BG⟩ := BG.nine
                            go_wp2_with fail
                            clear q0_BV q1_BV q2_BV q3_BV qf_BV ql_BV
                            clear q0_BG q1_BG q2_BG q3_BG q4_BG q5_BG q6_BG q7_BG q8_BG qf_BG ql_BG
                            refine (HT.out _).mono ?_
                            rintro e w4 ⟨rfl, hb4⟩
                            replace BV := BV.below hb4
                            replace BG := BG.below hb4
                            replace r1 := r1.below hb4
                            replace r2 := r2.below hb4
                            have hz4 := hb4.size
                            replace hb := chain hb hb4
                            clear hb4
                            obtain ⟨q0_BV, q1_BV, q2_BV, q3_BV, qf_BV, ql_BV⟩ := BV.four
                            obtain ⟨q0_BG, q1_BG, q2_BG, q3_BG, q4_BG, q5_BG, q6_BG, q7_BG, q8_BG, qf_BG, ql_BG⟩ := BG.nine
                            go_wp2_with fail
                            clear q0_BV q1_BV q2_BV q3_BV qf_BV ql_BV
                            clear q0_BG q1_BG q2_BG q3_BG q4_BG q5_BG q6_BG q7_BG q8_BG qf_BG ql_BG
                            refine (HO.out (by simp) _ r1 r2).mono ?_
                            rintro e w5 ⟨rfl, hb5⟩
                            replace BV := BV.below hb5
                            replace BG := BG.below hb5
                            replace r1 := r1.below hb5
                            replace r2 := r2.below hb5
                            have hz5 := hb5.size
                            replace hb := chain hb hb5
                            clear hb5
                            obtain ⟨q0_BV, q1_BV, q2_BV, q3_BV, qf_BV, ql_BV⟩ := BV.four
                            obtain ⟨q0_BG, q1_BG, q2_BG, q3_BG, q4_BG, q5_BG, q6_BG, q7_BG, q8_BG, qf_BG, ql_BG⟩ := BG.nine
                            go_wp2_with fail
                            go_ret
                            exact ⟨rfl, hb⟩
                        · have f_ew : (wi == 0) = false := by rw [beq_eq_false_iff_ne]; exact ew
                          rw [f_ew]
                          clear ew
                          (try simp only [Bool.false_and, Bool.true_and, Bool.and_false, Bool.and_true, Bool.not_true, Bool.not_false])
                          go_enter Try.func91, Try.ntmps91
                          obtain ⟨x0, x1, x2, x3, xf, xl⟩ := BV.four
                          obtain ⟨ga0, ga1, ga2, ga3, ga4, ga5, ga6, ga7, ga8, gaf, gal⟩ := BG.nine
                          go_wp2_with fail
                          clear x0 x1 x2 x3 xf xl
                          clear ga0 ga1 ga2 ga3 ga4 ga5 ga6 ga7 ga8 gaf gal
                          generalize ((w.alloc (.cells #[.int .i64 p, .int .i64 c, .int .i64 h, .int .i64 s] 32)).alloc (.cells #[.slice a1 n1 c1, .slice a2 n2 c2, .int .i64 pl, .int .i64 ra, .int .i64 rb, .int .i64 ph, .int .i64 wi, .int .i64 re, .int .i64 tu] 70)) = v0 at *
                          obtain ⟨q0_BV, q1_BV, q2_BV, q3_BV, qf_BV, ql_BV⟩ := BV.four
                          obtain ⟨q0_BG, q1_BG, q2_BG, q3_BG, q4_BG, q5_BG, q6_BG, q7_BG, q8_BG, qf_BG, ql_BG⟩ := BG.nine
                          go_wp2_with fail
                          clear q0_BV q1_BV q2_BV q3_BV qf_BV ql_BV
                          clear q0_BG q1_BG q2_BG q3_BG q4_BG q5_BG q6_BG q7_BG q8_BG qf_BG ql_BG
                          refine (HV.out _).mono ?_
                          rintro e w1 ⟨rfl, hb1⟩
                          replace BV := BV.below hb1
                          replace BG := BG.below hb1
                          replace r1 := r1.below hb1
                          replace r2 := r2.below hb1
                          have hz1 := hb1.size
                          replace hb := chain hb hb1
                          clear hb1
                          obtain ⟨q0_BV, q1_BV, q2_BV, q3_BV, qf_BV, ql_BV⟩ := BV.four
                          obtain ⟨q0_BG, q1_BG, q2_BG, q3_BG, q4_BG, q5_BG, q6_BG, q7_BG, q8_BG, qf_BG, ql_BG⟩ := BG.nine
                          go_wp2_with fail
                          clear q0_BV q1_BV q2_BV q3_BV qf_BV ql_BV
                          clear q0_BG q1_BG q2_BG q3_BG q4_BG q5_BG q6_BG q7_BG q8_BG qf_BG ql_BG
                          refine (HI.out _ r1 r2).mono ?_
                          rintro e w2 ⟨rfl, hb2⟩
                          replace BV := BV.below hb2
                          replace BG := BG.below hb2
                          replace r1 := r1.below hb2
                          replace r2 := r2.below hb2
                          have hz2 := hb2.size
                          replace hb := chain hb hb2
                          clear hb2
                          obtain ⟨q0_BV, q1_BV, q2_BV, q3_BV, qf_BV, ql_BV⟩ := BV.four
                          obtain ⟨q0_BG, q1_BG, q2_BG, q3_BG, q4_BG, q5_BG, q6_BG, q7_BG, q8_BG, qf_BG, ql_BG⟩ := BG.nine
                          go_wp2_with fail
                          clear q0_BV q1_BV q2_BV q3_BV qf_BV ql_BV
                          clear q0_BG q1_BG q2_BG q3_BG q4_BG q5_BG q6_BG q7_BG q8_BG qf_BG ql_BG
                          refine (HP.out _).mono ?_
                          rintro e w3 ⟨rfl, hb3⟩
                          replace BV := BV.below hb3
                          replace BG := BG.below hb3
                          replace r1 := r1.below hb3
                          replace r2 := r2.below hb3
                          have hz3 := hb3.size
                          replace hb := chain hb hb3
                          clear hb3
                          obtain ⟨q0_BV, q1_BV, q2_BV, q3_BV, qf_BV, ql_BV⟩ := BV.four
                          obtain ⟨q0_BG, q1_BG, q2_BG, q3_BG, q4_BG, q5_BG, q6_BG, q7_BG, q8_BG, qf_BG, ql_BG⟩ := BG.nine
                          go_wp2_with fail
                          clear q0_BV q1_BV q2_BV q3_BV qf_BV ql_BV
                          clear q0_BG q1_BG q2_BG q3_BG q4_BG q5_BG q6_BG q7_BG q8_BG qf_BG ql_BG
                          refine (HT.out _).mono ?_
                          rintro e w4 ⟨rfl, hb4⟩
                          replace BV := BV.below hb4
                          replace BG := BG.below hb4
                          replace r1 := r1.below hb4
                          replace r2 := r2.below hb4
                          have hz4 := hb4.size
                          replace hb := chain hb hb4
                          clear hb4
                          obtain ⟨q0_BV, q1_BV, q2_BV, q3_BV, qf_BV, ql_BV⟩ := BV.four
                          obtain ⟨q0_BG, q1_BG, q2_BG, q3_BG, q4_BG, q5_BG, q6_BG, q7_BG, q8_BG, qf_BG, ql_BG⟩ := BG.nine
                          go_wp2_with fail
                          clear q0_BV q1_BV q2_BV q3_BV qf_BV ql_BV
                          clear q0_BG q1_BG q2_BG q3_BG q4_BG q5_BG q6_BG q7_BG q8_BG qf_BG ql_BG
                          refine (HO.out (by simp) _ r1 r2).mono ?_
                          rintro e w5 ⟨rfl, hb5⟩
                          replace BV := BV.below hb5
                          replace BG := BG.below hb5
                          replace r1 := r1.below hb5
                          replace r2 := r2.below hb5
                          have hz5 := hb5.size
                          replace hb := chain hb hb5
                          clear hb5
                          obtain ⟨q0_BV, q1_BV, q2_BV, q3_BV, qf_BV, ql_BV⟩ := BV.four
                          obtain ⟨q0_BG, q1_BG, q2_BG, q3_BG, q4_BG, q5_BG, q6_BG, q7_BG, q8_BG, qf_BG, ql_BG⟩ := BG.nine
                          go_wp2_with fail
                          go_ret
                          exact ⟨rfl, hb⟩
                      | true =>
                        (try simp only [Bool.false_and, Bool.true_and, Bool.and_false, Bool.and_true, Bool.not_true, Bool.not_false])
                        go_enter Try.func91, Try.ntmps91
                        obtain ⟨x0, x1, x2, x3, xf, xl⟩ := BV.four
                        obtain ⟨ga0, ga1, ga2, ga3, ga4, ga5, ga6, ga7, ga8, gaf, gal⟩ := BG.nine
                        go_wp2_with fail
                        clear x0 x1 x2 x3 xf xl
                        clear ga0 ga1 ga2 ga3 ga4 ga5 ga6 ga7 ga8 gaf gal
                        generalize ((w.alloc (.cells #[.int .i64 p, .int .i64 c, .int .i64 h, .int .i64 s] 32)).alloc (.cells #[.slice a1 n1 c1, .slice a2 n2 c2, .int .i64 pl, .int .i64 ra, .int .i64 rb, .int .i64 ph, .int .i64 wi, .int .i64 re, .int .i64 tu] 70)) = v0 at *
                        obtain ⟨q0_BV, q1_BV, q2_BV, q3_BV, qf_BV, ql_BV⟩ := BV.four
                        obtain ⟨q0_BG, q1_BG, q2_BG, q3_BG, q4_BG, q5_BG, q6_BG, q7_BG, q8_BG, qf_BG, ql_BG⟩ := BG.nine
                        go_wp2_with fail
                        clear q0_BV q1_BV q2_BV q3_BV qf_BV ql_BV
                        clear q0_BG q1_BG q2_BG q3_BG q4_BG q5_BG q6_BG q7_BG q8_BG qf_BG ql_BG
                        refine (HV.out _).mono ?_
                        rintro e w1 ⟨rfl, hb1⟩
                        replace BV := BV.below hb1
                        replace BG := BG.below hb1
                        replace r1 := r1.below hb1
                        replace r2 := r2.below hb1
                        have hz1 := hb1.size
                        replace hb := chain hb hb1
                        clear hb1
                        obtain ⟨q0_BV, q1_BV, q2_BV, q3_BV, qf_BV, ql_BV⟩ := BV.four
                        obtain ⟨q0_BG, q1_BG, q2_BG, q3_BG, q4_BG, q5_BG, q6_BG, q7_BG, q8_BG, qf_BG, ql_BG⟩ := BG.nine
                        go_wp2_with fail
                        clear q0_BV q1_BV q2_BV q3_BV qf_BV ql_BV
                        clear q0_BG q1_BG q2_BG q3_BG q4_BG q5_BG q6_BG q7_BG q8_BG qf_BG ql_BG
                        refine (HI.out _ r1 r2).mono ?_
                        rintro e w2 ⟨rfl, hb2⟩
                        replace BV := BV.below hb2
                        replace BG := BG.below hb2
                        replace r1 := r1.below hb2
                        replace r2 := r2.below hb2
                        have hz2 := hb2.size
                        replace hb := chain hb hb2
                        clear hb2
                        obtain ⟨q0_BV, q1_BV, q2_BV, q3_BV, qf_BV, ql_BV⟩ := BV.four
                        obtain ⟨q0_BG, q1_BG, q2_BG, q3_BG, q4_BG, q5_BG, q6_BG, q7_BG, q8_BG, qf_BG, ql_BG⟩ := BG.nine
                        go_wp2_with fail
                        clear q0_BV q1_BV q2_BV q3_BV qf_BV ql_BV
                        clear q0_BG q1_BG q2_BG q3_BG q4_BG q5_BG q6_BG q7_BG q8_BG qf_BG ql_BG
                        refine (HP.out _).mono ?_
                        rintro e w3 ⟨rfl, hb3⟩
                        replace BV := BV.below hb3
                        replace BG := BG.below hb3
                        replace r1 := r1.below hb3
                        replace r2 := r2.below hb3
                        have hz3 := hb3.size
                        replace hb := chain hb hb3
                        clear hb3
                        obtain ⟨q0_BV, q1_BV, q2_BV, q3_BV, qf_BV, ql_BV⟩ := BV.four
                        obtain ⟨q0_BG, q1_BG, q2_BG, q3_BG, q4_BG, q5_BG, q6_BG, q7_BG, q8_BG, qf_BG, ql_BG⟩ := BG.nine
                        go_wp2_with fail
                        clear q0_BV q1_BV q2_BV q3_BV qf_BV ql_BV
                        clear q0_BG q1_BG q2_BG q3_BG q4_BG q5_BG q6_BG q7_BG q8_BG qf_BG ql_BG
                        refine (HT.out _).mono ?_
                        rintro e w4 ⟨rfl, hb4⟩
                        replace BV := BV.below hb4
                        replace BG := BG.below hb4
                        replace r1 := r1.below hb4
                        replace r2 := r2.below hb4
                        have hz4 := hb4.size
                        replace hb := chain hb hb4
                        clear hb4
                        obtain ⟨q0_BV, q1_BV, q2_BV, q3_BV, qf_BV, ql_BV⟩ := BV.four
                        obtain ⟨q0_BG, q1_BG, q2_BG, q3_BG, q4_BG, q5_BG, q6_BG, q7_BG, q8_BG, qf_BG, ql_BG⟩ := BG.nine
                        go_wp2_with fail
                        clear q0_BV q1_BV q2_BV q3_BV qf_BV ql_BV
                        clear q0_BG q1_BG q2_BG q3_BG q4_BG q5_BG q6_BG q7_BG q8_BG qf_BG ql_BG
                        refine (HO.out (by simp) _ r1 r2).mono ?_
                        rintro e w5 ⟨rfl, hb5⟩
                        replace BV := BV.below hb5
                        replace BG := BG.below hb5
                        replace r1 := r1.below hb5
                        replace r2 := r2.below hb5
                        have hz5 := hb5.size
                        replace hb := chain hb hb5
                        clear hb5
                        obtain ⟨q0_BV, q1_BV, q2_BV, q3_BV, qf_BV, ql_BV⟩ := BV.four
                        obtain ⟨q0_BG, q1_BG, q2_BG, q3_BG, q4_BG, q5_BG, q6_BG, q7_BG, q8_BG, qf_BG, ql_BG⟩ := BG.nine
                        go_wp2_with fail
                        go_ret
                        exact ⟨rfl, hb⟩
                    · have k1 : (ph == 1) = false := by rw [beq_eq_false_iff_ne]; exact q1
                      rw [if_neg q1]
                      clear q1
                      by_cases q3 : ph = 3
                      · have k3 : (ph == 3) = true := by rw [beq_iff_eq]; exact q3
                        rw [if_pos q3]
                        clear q3
                        cases O with
                        | false =>
                          rw [if_neg (by simp)]
                          by_cases e1 : wi = 1 - pl
                          · have f_e1 : (wi == 1 - pl) = true := by rw [beq_iff_eq]; exact e1
                            rw [f_e1]
                            clear e1
                            (try simp only [Bool.false_and, Bool.true_and, Bool.and_false, Bool.and_true, Bool.not_true, Bool.not_false])
                            go_enter Try.func91, Try.ntmps91
                            obtain ⟨x0, x1, x2, x3, xf, xl⟩ := BV.four
                            obtain ⟨ga0, ga1, ga2, ga3, ga4, ga5, ga6, ga7, ga8, gaf, gal⟩ := BG.nine
                            go_wp2_with fail
                            clear x0 x1 x2 x3 xf xl
                            clear ga0 ga1 ga2 ga3 ga4 ga5 ga6 ga7 ga8 gaf gal
                            generalize ((w.alloc (.cells #[.int .i64 p, .int .i64 c, .int .i64 h, .int .i64 s] 32)).alloc (.cells #[.slice a1 n1 c1, .slice a2 n2 c2, .int .i64 pl, .int .i64 ra, .int .i64 rb, .int .i64 ph, .int .i64 wi, .int .i64 re, .int .i64 tu] 70)) = v0 at *
                            obtain ⟨q0_BV, q1_BV, q2_BV, q3_BV, qf_BV, ql_BV⟩ := BV.four
                            obtain ⟨q0_BG, q1_BG, q2_BG, q3_BG, q4_BG, q5_BG, q6_BG, q7_BG, q8_BG, qf_BG, ql_BG⟩ := BG.nine
                            go_wp2_with fail
                            clear q0_BV q1_BV q2_BV q3_BV qf_BV ql_BV
                            clear q0_BG q1_BG q2_BG q3_BG q4_BG q5_BG q6_BG q7_BG q8_BG qf_BG ql_BG
                            refine (HV.out _).mono ?_
                            rintro e w1 ⟨rfl, hb1⟩
                            replace BV := BV.below hb1
                            replace BG := BG.below hb1
                            replace r1 := r1.below hb1
                            replace r2 := r2.below hb1
                            have hz1 := hb1.size
                            replace hb := chain hb hb1
                            clear hb1
                            obtain ⟨q0_BV, q1_BV, q2_BV, q3_BV, qf_BV, ql_BV⟩ := BV.four
                            obtain ⟨q0_BG, q1_BG, q2_BG, q3_BG, q4_BG, q5_BG, q6_BG, q7_BG, q8_BG, qf_BG, ql_BG⟩ := BG.nine
                            go_wp2_with fail
                            clear q0_BV q1_BV q2_BV q3_BV qf_BV ql_BV
                            clear q0_BG q1_BG q2_BG q3_BG q4_BG q5_BG q6_BG q7_BG q8_BG qf_BG ql_BG
                            refine (HI.out _ r1 r2).mono ?_
                            rintro e w2 ⟨rfl, hb2⟩
                            replace BV := BV.below hb2
                            replace BG := BG.below hb2
                            replace r1 := r1.below hb2
                            replace r2 := r2.below hb2
                            have hz2 := hb2.size
                            replace hb := chain hb hb2
                            clear hb2
                            obtain ⟨q0_BV, q1_BV, q2_BV, q3_BV, qf_BV, ql_BV⟩ := BV.four
                            obtain ⟨q0_BG, q1_BG, q2_BG, q3_BG, q4_BG, q5_BG, q6_BG, q7_BG, q8_BG, qf_BG, ql_BG⟩ := BG.nine
                            go_wp2_with fail
                            clear q0_BV q1_BV q2_BV q3_BV qf_BV ql_BV
                            clear q0_BG q1_BG q2_BG q3_BG q4_BG q5_BG q6_BG q7_BG q8_BG qf_BG ql_BG
                            refine (HP.out _).mono ?_
                            rintro e w3 ⟨rfl, hb3⟩
                            replace BV := BV.below hb3
                            replace BG := BG.below hb3
                            replace r1 := r1.below hb3
                            replace r2 := r2.below hb3
                            have hz3 := hb3.size
                            replace hb := chain hb hb3
                            clear hb3
                            obtain ⟨q0_BV, q1_BV, q2_BV, q3_BV, qf_BV, ql_BV⟩ := BV.four
                            obtain ⟨q0_BG, q1_BG, q2_BG, q3_BG, q4_BG, q5_BG, q6_BG, q7_BG, q8_BG, qf_BG, ql_BG⟩ := BG.nine
                            go_wp2_with fail
                            clear q0_BV q1_BV q2_BV q3_BV qf_BV ql_BV
                            clear q0_BG q1_BG q2_BG q3_BG q4_BG q5_BG q6_BG q7_BG q8_BG qf_BG ql_BG
                            refine (HT.out _).mono ?_
                            rintro e w4 ⟨rfl, hb4⟩
                            replace BV := BV.below hb4
                            replace BG := BG.below hb4
                            replace r1 := r1.below hb4
                            replace r2 := r2.below hb4
                            have hz4 := hb4.size
                            replace hb := chain hb hb4
                            clear hb4
                            obtain ⟨q0_BV, q1_BV, q2_BV, q3_BV, qf_BV, ql_BV⟩ := BV.four
                            obtain ⟨q0_BG, q1_BG, q2_BG, q3_BG, q4_BG, q5_BG, q6_BG, q7_BG, q8_BG, qf_BG, ql_BG⟩ := BG.nine
                            go_wp2_with fail
                            clear q0_BV q1_BV q2_BV q3_BV qf_BV ql_BV
                            clear q0_BG q1_BG q2_BG q3_BG q4_BG q5_BG q6_BG q7_BG q8_BG qf_BG ql_BG
                            refine (HO.out (by simp) _ r1 r2).mono ?_
                            rintro e w5 ⟨rfl, hb5⟩
                            replace BV := BV.below hb5
                            replace BG := BG.below hb5
                            replace r1 := r1.below hb5
                            replace r2 := r2.below hb5
                            have hz5 := hb5.size
                            replace hb := chain hb hb5
                            clear hb5
                            obtain ⟨q0_BV, q1_BV, q2_BV, q3_BV, qf_BV, ql_BV⟩ := BV.four
                            obtain ⟨q0_BG, q1_BG, q2_BG, q3_BG, q4_BG, q5_BG, q6_BG, q7_BG, q8_BG, qf_BG, ql_BG⟩ := BG.nine
                            go_wp2_with fail
                            clear q0_BV q1_BV q2_BV q3_BV qf_BV ql_BV
                            clear q0_BG q1_BG q2_BG q3_BG q4_BG q5_BG q6_BG q7_BG q8_BG qf_BG ql_BG
                            refine (HK.out _).mono ?_
                            rintro e w6 ⟨rfl, hb6⟩
                            replace BV := BV.below hb6
                            replace BG := BG.below hb6
                            replace r1 := r1.below hb6
                            replace r2 := r2.below hb6
                            have hz6 := hb6.size
                            replace hb := chain hb hb6
                            clear hb6
                            obtain ⟨q0_BV, q1_BV, q2_BV, q3_BV, qf_BV, ql_BV⟩ := BV.four
                            obtain ⟨q0_BG, q1_BG, q2_BG, q3_BG, q4_BG, q5_BG, q6_BG, q7_BG, q8_BG, qf_BG, ql_BG⟩ := BG.nine
                            go_wp2_with fail
                            go_ret
                            exact ⟨rfl, hb⟩
                          · have f_e1 : (wi == 1 - pl) = false := by rw [beq_eq_false_iff_ne]; exact e1
                            rw [f_e1]
                            clear e1
                            (try simp only [Bool.false_and, Bool.true_and, Bool.and_false, Bool.and_true, Bool.not_true, Bool.not_false])
                            go_enter Try.func91, Try.ntmps91
                            obtain ⟨x0, x1, x2, x3, xf, xl⟩ := BV.four
                            obtain ⟨ga0, ga1, ga2, ga3, ga4, ga5, ga6, ga7, ga8, gaf, gal⟩ := BG.nine
                            go_wp2_with fail
                            clear x0 x1 x2 x3 xf xl
                            clear ga0 ga1 ga2 ga3 ga4 ga5 ga6 ga7 ga8 gaf gal
                            generalize ((w.alloc (.cells #[.int .i64 p, .int .i64 c, .int .i64 h, .int .i64 s] 32)).alloc (.cells #[.slice a1 n1 c1, .slice a2 n2 c2, .int .i64 pl, .int .i64 ra, .int .i64 rb, .int .i64 ph, .int .i64 wi, .int .i64 re, .int .i64 tu] 70)) = v0 at *
                            obtain ⟨q0_BV, q1_BV, q2_BV, q3_BV, qf_BV, ql_BV⟩ := BV.four
                            obtain ⟨q0_BG, q1_BG, q2_BG, q3_BG, q4_BG, q5_BG, q6_BG, q7_BG, q8_BG, qf_BG, ql_BG⟩ := BG.nine
                            go_wp2_with fail
                            clear q0_BV q1_BV q2_BV q3_BV qf_BV ql_BV
                            clear q0_BG q1_BG q2_BG q3_BG q4_BG q5_BG q6_BG q7_BG q8_BG qf_BG ql_BG
                            refine (HV.out _).mono ?_
                            rintro e w1 ⟨rfl, hb1⟩
                            replace BV := BV.below hb1
                            replace BG := BG.below hb1
                            replace r1 := r1.below hb1
                            replace r2 := r2.below hb1
                            have hz1 := hb1.size
                            replace hb := chain hb hb1
                            clear hb1
                            obtain ⟨q0_BV, q1_BV, q2_BV, q3_BV, qf_BV, ql_BV⟩ := BV.four
                            obtain ⟨q0_BG, q1_BG, q2_BG, q3_BG, q4_BG, q5_BG, q6_BG, q7_BG, q8_BG, qf_BG, ql_BG⟩ := BG.nine
                            go_wp2_with fail
                            clear q0_BV q1_BV q2_BV q3_BV qf_BV ql_BV
                            clear q0_BG q1_BG q2_BG q3_BG q4_BG q5_BG q6_BG q7_BG q8_BG qf_BG ql_BG
                            refine (HI.out _ r1 r2).mono ?_
                            rintro e w2 ⟨rfl, hb2⟩
                            replace BV := BV.below hb2
                            replace BG := BG.below hb2
                            replace r1 := r1.below hb2
                            replace r2 := r2.below hb2
                            have hz2 := hb2.size
                            replace hb := chain hb hb2
                            clear hb2
                            obtain ⟨q0_BV, q1_BV, q2_BV, q3_BV, qf_BV, ql_BV⟩ := BV.four
                            obtain ⟨q0_BG, q1_BG, q2_BG, q3_BG, q4_BG, q5_BG, q6_BG, q7_BG, q8_BG, qf_BG, ql_BG⟩ := BG.nine
                            go_wp2_with fail
                            clear q0_BV q1_BV q2_BV q3_BV qf_BV ql_BV
                            clear q0_BG q1_BG q2_BG q3_BG q4_BG q5_BG q6_BG q7_BG q8_BG qf_BG ql_BG
                            refine (HP.out _).mono ?_
                            rintro e w3 ⟨rfl, hb3⟩
                            replace BV := BV.below hb3
                            replace BG := BG.below hb3
                            replace r1 := r1.below hb3
                            replace r2 := r2.below hb3
                            have hz3 := hb3.size
                            replace hb := chain hb hb3
                            clear hb3
                            obtain ⟨q0_BV, q1_BV, q2_BV, q3_BV, qf_BV, ql_BV⟩ := BV.four
                            obtain ⟨q0_BG, q1_BG, q2_BG, q3_BG, q4_BG, q5_BG, q6_BG, q7_BG, q8_BG, qf_BG, ql_BG⟩ := BG.nine
                            go_wp2_with fail
                            clear q0_BV q1_BV q2_BV q3_BV qf_BV ql_BV
                            clear q0_BG q1_BG q2_BG q3_BG q4_BG q5_BG q6_BG q7_BG q8_BG qf_BG ql_BG
                            refine (HT.out _).mono ?_
                            rintro e w4 ⟨rfl, hb4⟩
                            replace BV := BV.below hb4
                            replace BG := BG.below hb4
                            replace r1 := r1.below hb4
                            replace r2 := r2.below hb4
                            have hz4 := hb4.size
                            replace hb := chain hb hb4
                            clear hb4
                            obtain ⟨q0_BV, q1_BV, q2_BV, q3_BV, qf_BV, ql_BV⟩ := BV.four
                            obtain ⟨q0_BG, q1_BG, q2_BG, q3_BG, q4_BG, q5_BG, q6_BG, q7_BG, q8_BG, qf_BG, ql_BG⟩ := BG.nine
                            go_wp2_with fail
                            clear q0_BV q1_BV q2_BV q3_BV qf_BV ql_BV
                            clear q0_BG q1_BG q2_BG q3_BG q4_BG q5_BG q6_BG q7_BG q8_BG qf_BG ql_BG
                            refine (HO.out (by simp) _ r1 r2).mono ?_
                            rintro e w5 ⟨rfl, hb5⟩
                            replace BV := BV.below hb5
                            replace BG := BG.below hb5
                            replace r1 := r1.below hb5
                            replace r2 := r2.below hb5
                            have hz5 := hb5.size
                            replace hb := chain hb hb5
                            clear hb5
                            obtain ⟨q0_BV, q1_BV, q2_BV, q3_BV, qf_BV, ql_BV⟩ := BV.four
                            obtain ⟨q0_BG, q1_BG, q2_BG, q3_BG, q4_BG, q5_BG, q6_BG, q7_BG, q8_BG, qf_BG, ql_BG⟩ := BG.nine
                            go_wp2_with fail
                            go_ret
                            exact ⟨rfl, hb⟩
                        | true =>
                          rw [if_pos rfl]
                          by_cases e1 : U = 0
                          · have f_e1 : (U == 0) = true := by rw [beq_iff_eq]; exact e1
                            rw [f_e1]
                            clear e1
                            by_cases e2 : wi = pl
                            · have f_e2 : (wi == pl) = true := by rw [beq_iff_eq]; exact e2
                              rw [f_e2]
                              clear e2
                              (try simp only [Bool.false_and, Bool.true_and, Bool.and_false, Bool.and_true, Bool.not_true, Bool.not_false])
                              go_enter Try.func91, Try.ntmps91
                              obtain ⟨x0, x1, x2, x3, xf, xl⟩ := BV.four
                              obtain ⟨ga0, ga1, ga2, ga3, ga4, ga5, ga6, ga7, ga8, gaf, gal⟩ := BG.nine
                              go_wp2_with fail
                              clear x0 x1 x2 x3 xf xl
                              clear ga0 ga1 ga2 ga3 ga4 ga5 ga6 ga7 ga8 gaf gal
                              generalize ((w.alloc (.cells #[.int .i64 p, .int .i64 c, .int .i64 h, .int .i64 s] 32)).alloc (.cells #[.slice a1 n1 c1, .slice a2 n2 c2, .int .i64 pl, .int .i64 ra, .int .i64 rb, .int .i64 ph, .int .i64 wi, .int .i64 re, .int .i64 tu] 70)) = v0 at *
                              obtain ⟨q0_BV, q1_BV, q2_BV, q3_BV, qf_BV, ql_BV⟩ := BV.four
                              obtain ⟨q0_BG, q1_BG, q2_BG, q3_BG, q4_BG, q5_BG, q6_BG, q7_BG, q8_BG, qf_BG, ql_BG⟩ := BG.nine
                              go_wp2_with fail
                              clear q0_BV q1_BV q2_BV q3_BV qf_BV ql_BV
                              clear q0_BG q1_BG q2_BG q3_BG q4_BG q5_BG q6_BG q7_BG q8_BG qf_BG ql_BG
                              refine (HV.out _).mono ?_
                              rintro e w1 ⟨rfl, hb1⟩
                              replace BV := BV.below hb1
                              replace BG := BG.below hb1
                              replace r1 := r1.below hb1
                              replace r2 := r2.below hb1
                              have hz1 := hb1.size
                              replace hb := chain hb hb1
                              clear hb1
                              obtain ⟨q0_BV, q1_BV, q2_BV, q3_BV, qf_BV, ql_BV⟩ := BV.four
                              obtain ⟨q0_BG, q1_BG, q2_BG, q3_BG, q4_BG, q5_BG, q6_BG, q7_BG, q8_BG, qf_BG, ql_BG⟩ := BG.nine
                              go_wp2_with fail
                              clear q0_BV q1_BV q2_BV q3_BV qf_BV ql_BV
                              clear q0_BG q1_BG q2_BG q3_BG q4_BG q5_BG q6_BG q7_BG q8_BG qf_BG ql_BG
                              refine (HI.out _ r1 r2).mono ?_
                              rintro e w2 ⟨rfl, hb2⟩
                              replace BV := BV.below hb2
                              replace BG := BG.below hb2
                              replace r1 := r1.below hb2
                              replace r2 := r2.below hb2
                              have hz2 := hb2.size
                              replace hb := chain hb hb2
                              clear hb2
                              obtain ⟨q0_BV, q1_BV, q2_BV, q3_BV, qf_BV, ql_BV⟩ := BV.four
                              obtain ⟨q0_BG, q1_BG, q2_BG, q3_BG, q4_BG, q5_BG, q6_BG, q7_BG, q8_BG, qf_BG, ql_BG⟩ := BG.nine
                              go_wp2_with fail
                              clear q0_BV q1_BV q2_BV q3_BV qf_BV ql_BV
                              clear q0_BG q1_BG q2_BG q3_BG q4_BG q5_BG q6_BG q7_BG q8_BG qf_BG ql_BG
                              refine (HP.out _).mono ?_
                              rintro e w3 ⟨rfl, hb3⟩
                              replace BV := BV.below hb3
                              replace BG := BG.below hb3
                              replace r1 := r1.below hb3
                              replace r2 := r2.below hb3
                              have hz3 := hb3.size
                              replace hb := chain hb hb3
                              clear hb3
                              obtain ⟨q0_BV, q1_BV, q2_BV, q3_BV, qf_BV, ql_BV⟩ := BV.four
                              obtain ⟨q0_BG, q1_BG, q2_BG, q3_BG, q4_BG, q5_BG, q6_BG, q7_BG, q8_BG, qf_BG, ql_BG⟩ := BG.nine
                              go_wp2_with fail
                              clear q0_BV q1_BV q2_BV q3_BV qf_BV ql_BV
                              clear q0_BG q1_BG q2_BG q3_BG q4_BG q5_BG q6_BG q7_BG q8_BG qf_BG ql_BG
                              refine (HT.out _).mono ?_
                              rintro e w4 ⟨rfl, hb4⟩
                              replace BV := BV.below hb4
                              replace BG := BG.below hb4
                              replace r1 := r1.below hb4
                              replace r2 := r2.below hb4
                              have hz4 := hb4.size
                              replace hb := chain hb hb4
                              clear hb4
                              obtain ⟨q0_BV, q1_BV, q2_BV, q3_BV, qf_BV, ql_BV⟩ := BV.four
                              obtain ⟨q0_BG, q1_BG, q2_BG, q3_BG, q4_BG, q5_BG, q6_BG, q7_BG, q8_BG, qf_BG, ql_BG⟩ := BG.nine
                              go_wp2_with fail
                              clear q0_BV q1_BV q2_BV q3_BV qf_BV ql_BV
                              clear q0_BG q1_BG q2_BG q3_BG q4_BG q5_BG q6_BG q7_BG q8_BG qf_BG ql_BG
                              refine (HO.out (by simp) _ r1 r2).mono ?_
                              rintro e w5 ⟨rfl, hb5⟩
                              replace BV := BV.below hb5
                              replace BG := BG.below hb5
                              replace r1 := r1.below hb5
                              replace r2 := r2.below hb5
                              have hz5 := hb5.size
                              replace hb := chain hb hb5
                              clear hb5
                              obtain ⟨q0_BV, q1_BV, q2_BV, q3_BV, qf_BV, ql_BV⟩ := BV.four
                              obtain ⟨q0_BG, q1_BG, q2_BG, q3_BG, q4_BG, q5_BG, q6_BG, q7_BG, q8_BG, qf_BG, ql_BG⟩ := BG.nine
                              go_wp2_with fail
                              clear q0_BV q1_BV q2_BV q3_BV qf_BV ql_BV
                              clear q0_BG q1_BG q2_BG q3_BG q4_BG q5_BG q6_BG q7_BG q8_BG qf_BG ql_BG
                              have hd6 : w5.drew.heap.size = w5.heap.size := rfl
                              replace BV := BV.drew
                              replace BG := BG.drew
                              replace r1 := r1.drew
                              replace r2 := r2.drew
                              replace hb := hb.drew
                              refine wp_region_held_drew (S := fun w' => w'.cell? ⟨w.heap.size, 0, none⟩ = some (.int .i64 p) ∧ w'.cell? ⟨w.heap.size, 1, none⟩ = some (.int .i64 c) ∧ w'.cell? ⟨w.heap.size, 2, none⟩ = some (.int .i64 h) ∧ w'.cell? ⟨w.heap.size, 3, none⟩ = some (.int .i64 s) ∧ w'.cell? ⟨(w.heap.size + 1), 0, none⟩ = some (.slice a1 n1 c1) ∧ w'.cell? ⟨(w.heap.size + 1), 1, none⟩ = some (.slice a2 n2 c2) ∧ w'.cell? ⟨(w.heap.size + 1), 2, none⟩ = some (.int .i64 pl) ∧ w'.cell? ⟨(w.heap.size + 1), 3, none⟩ = some (.int .i64 ra) ∧ w'.cell? ⟨(w.heap.size + 1), 4, none⟩ = some (.int .i64 rb) ∧ w'.cell? ⟨(w.heap.size + 1), 5, none⟩ = some (.int .i64 ph) ∧ w'.cell? ⟨(w.heap.size + 1), 6, none⟩ = some (.int .i64 wi) ∧ w'.cell? ⟨(w.heap.size + 1), 7, none⟩ = some (.int .i64 re) ∧ w'.cell? ⟨(w.heap.size + 1), 8, none⟩ = some (.int .i64 tu)) (by kernel_rfl) ⟨BV.four.1, BV.four.2.1, BV.four.2.2.1, BV.four.2.2.2.1, BG.nine.1, BG.nine.2.1, BG.nine.2.2.1, BG.nine.2.2.2.1, BG.nine.2.2.2.2.1, BG.nine.2.2.2.2.2.1, BG.nine.2.2.2.2.2.2.1, BG.nine.2.2.2.2.2.2.2.1, BG.nine.2.2.2.2.2.2.2.2.1⟩ (fun hHeld => ?_)
                              clear hHeld
                              generalize w5.drew = vd6 at *
                              have hHeld : vd6.cell? ⟨w.heap.size, 0, none⟩ = some (.int .i64 p) ∧ vd6.cell? ⟨w.heap.size, 1, none⟩ = some (.int .i64 c) ∧ vd6.cell? ⟨w.heap.size, 2, none⟩ = some (.int .i64 h) ∧ vd6.cell? ⟨w.heap.size, 3, none⟩ = some (.int .i64 s) ∧ vd6.cell? ⟨(w.heap.size + 1), 0, none⟩ = some (.slice a1 n1 c1) ∧ vd6.cell? ⟨(w.heap.size + 1), 1, none⟩ = some (.slice a2 n2 c2) ∧ vd6.cell? ⟨(w.heap.size + 1), 2, none⟩ = some (.int .i64 pl) ∧ vd6.cell? ⟨(w.heap.size + 1), 3, none⟩ = some (.int .i64 ra) ∧ vd6.cell? ⟨(w.heap.size + 1), 4, none⟩ = some (.int .i64 rb) ∧ vd6.cell? ⟨(w.heap.size + 1), 5, none⟩ = some (.int .i64 ph) ∧ vd6.cell? ⟨(w.heap.size + 1), 6, none⟩ = some (.int .i64 wi) ∧ vd6.cell? ⟨(w.heap.size + 1), 7, none⟩ = some (.int .i64 re) ∧ vd6.cell? ⟨(w.heap.size + 1), 8, none⟩ = some (.int .i64 tu) := ⟨BV.four.1, BV.four.2.1, BV.four.2.2.1, BV.four.2.2.2.1, BG.nine.1, BG.nine.2.1, BG.nine.2.2.1, BG.nine.2.2.2.1, BG.nine.2.2.2.2.1, BG.nine.2.2.2.2.2.1, BG.nine.2.2.2.2.2.2.1, BG.nine.2.2.2.2.2.2.2.1, BG.nine.2.2.2.2.2.2.2.2.1⟩
                              refine wpAnyH_take (i := 0) (oi := { dst := some 96, op := _, type := _, pos := _, after := _, guard := _ }) (v := ?_) rfl (by kernel_rfl) (by kernel_rfl) (by kernel_rfl) (fun _ _ _ h => h) (Or.inl ⟨by rfl, ?_⟩) (by assumption) ?_
                              rotate_left
                              · intro w hSw
                                (try dsimp only at hSw)
                                go_simp
                                (try (with_reducible rfl))
                              try simp only [Act.put, List.setIfInBounds_toArray, List.set_cons_zero, List.set_cons_succ]
                              refine wpAnyH_take (i := 1) (oi := { dst := some 97, op := _, type := _, pos := _, after := _, guard := _ }) (v := ?_) rfl (by kernel_rfl) (by kernel_rfl) (by kernel_rfl) (fun _ _ _ h => h) (Or.inl ⟨by rfl, ?_⟩) (by assumption) ?_
                              rotate_left
                              · intro w hSw
                                (try dsimp only at hSw)
                                go_simp
                                (try (with_reducible rfl))
                              try simp only [Act.put, List.setIfInBounds_toArray, List.set_cons_zero, List.set_cons_succ]
                              refine wpAnyH_take (i := 2) (oi := { dst := some 98, op := _, type := _, pos := _, after := _, guard := _ }) (v := ?_) rfl (by kernel_rfl) (by kernel_rfl) (by kernel_rfl) (fun _ _ _ h => h) (Or.inl ⟨by rfl, ?_⟩) (by assumption) ?_
                              rotate_left
                              · intro w hSw
                                (try dsimp only at hSw)
                                go_simp
                                (try (with_reducible rfl))
                              try simp only [Act.put, List.setIfInBounds_toArray, List.set_cons_zero, List.set_cons_succ]
                              refine wpAnyH_ready (rs := [3]) (by kernel_rfl) (by simp) ?_
                              refine AllReadyH.cons (o := { dst := some 99, op := _, type := _, pos := _, after := _, guard := _ }) rfl (fun K hK => ?_) AllReadyH.nil
                              go_simp
                              refine (HU.out (by simp) _ r1).mono ?_
                              rintro e w7 ⟨rfl, hb7⟩
                              replace BV := BV.below hb7
                              replace BG := BG.below hb7
                              replace r1 := r1.below hb7
                              replace r2 := r2.below hb7
                              have hz7 := hb7.size
                              replace hb := chain hb hb7
                              clear hb7
                              (try go_wp2_with fail)
                              refine hK.out _ _ ⟨BV.four.1, BV.four.2.1, BV.four.2.2.1, BV.four.2.2.2.1, BG.nine.1, BG.nine.2.1, BG.nine.2.2.1, BG.nine.2.2.2.1, BG.nine.2.2.2.2.1, BG.nine.2.2.2.2.2.1, BG.nine.2.2.2.2.2.2.1, BG.nine.2.2.2.2.2.2.2.1, BG.nine.2.2.2.2.2.2.2.2.1⟩ (fun hHeld => ?_)
                              clear hK K
                              try simp only [Act.put, List.setIfInBounds_toArray, List.set_cons_zero, List.set_cons_succ]
                              refine wpAnyH_take (i := 4) (oi := { dst := some 100, op := _, type := _, pos := _, after := _, guard := _ }) (v := ?_) rfl (by kernel_rfl) (by kernel_rfl) (by kernel_rfl) (fun _ _ _ h => h) (Or.inl ⟨by rfl, ?_⟩) (by assumption) ?_
                              rotate_left
                              · intro w hSw
                                (try dsimp only at hSw)
                                go_simp
                                (try (with_reducible rfl))
                              try simp only [Act.put, List.setIfInBounds_toArray, List.set_cons_zero, List.set_cons_succ]
                              refine wpAnyH_take (i := 5) (oi := { dst := some 101, op := _, type := _, pos := _, after := _, guard := _ }) (v := ?_) rfl (by kernel_rfl) (by kernel_rfl) (by kernel_rfl) (fun _ _ _ h => h) (Or.inl ⟨by rfl, ?_⟩) (by assumption) ?_
                              rotate_left
                              · intro w hSw
                                (try dsimp only at hSw)
                                go_simp
                                (try (with_reducible rfl))
                              try simp only [Act.put, List.setIfInBounds_toArray, List.set_cons_zero, List.set_cons_succ]
                              refine wpAnyH_take (i := 6) (oi := { dst := some 102, op := _, type := _, pos := _, after := _, guard := _ }) (v := ?_) rfl (by kernel_rfl) (by kernel_rfl) (by kernel_rfl) (fun _ _ _ h => h) (Or.inl ⟨by rfl, ?_⟩) (by assumption) ?_
                              rotate_left
                              · intro w hSw
                                (try dsimp only at hSw)
                                go_simp
                                (try (with_reducible rfl))
                              try simp only [Act.put, List.setIfInBounds_toArray, List.set_cons_zero, List.set_cons_succ]
                              refine wpAnyH_take (i := 7) (oi := { dst := some 103, op := _, type := _, pos := _, after := _, guard := _ }) (v := ?_) rfl (by kernel_rfl) (by kernel_rfl) (by kernel_rfl) (fun _ _ _ h => h) (Or.inl ⟨by rfl, ?_⟩) (by assumption) ?_
                              rotate_left
                              · intro w hSw
                                (try dsimp only at hSw)
                                go_simp
                                (try (with_reducible rfl))
                              try simp only [Act.put, List.setIfInBounds_toArray, List.set_cons_zero, List.set_cons_succ]
                              refine wpAnyH_take (i := 8) (oi := { dst := some 104, op := _, type := _, pos := _, after := _, guard := _ }) (v := ?_) rfl (by kernel_rfl) (by kernel_rfl) (by kernel_rfl) (fun _ _ _ h => h) (Or.inl ⟨by rfl, ?_⟩) (by assumption) ?_
                              rotate_left
                              · intro w hSw
                                (try dsimp only at hSw)
                                go_simp
                                (try (with_reducible rfl))
                              try simp only [Act.put, List.setIfInBounds_toArray, List.set_cons_zero, List.set_cons_succ]
                              refine wpAnyH_take (i := 9) (oi := { dst := some 105, op := _, type := _, pos := _, after := _, guard := _ }) (v := ?_) rfl (by kernel_rfl) (by kernel_rfl) (by kernel_rfl) (fun _ _ _ h => h) (Or.inl ⟨by rfl, ?_⟩) (by assumption) ?_
                              rotate_left
                              · intro w hSw
                                (try dsimp only at hSw)
                                go_simp
                                (try (with_reducible rfl))
                              try simp only [Act.put, List.setIfInBounds_toArray, List.set_cons_zero, List.set_cons_succ]
                              refine wpAnyH_take (i := 10) (oi := { dst := some 106, op := _, type := _, pos := _, after := _, guard := _ }) (v := ?_) rfl (by kernel_rfl) (by kernel_rfl) (by kernel_rfl) (fun _ _ _ h => h) (Or.inl ⟨by rfl, ?_⟩) (by assumption) ?_
                              rotate_left
                              · intro w hSw
                                (try dsimp only at hSw)
                                go_simp
                                (try (with_reducible rfl))
                              try simp only [Act.put, List.setIfInBounds_toArray, List.set_cons_zero, List.set_cons_succ]
                              refine wpAnyH_take (i := 11) (oi := { dst := some 107, op := _, type := _, pos := _, after := _, guard := _ }) (v := ?_) rfl (by kernel_rfl) (by kernel_rfl) (by kernel_rfl) (fun _ _ _ h => h) (Or.inl ⟨by rfl, ?_⟩) (by assumption) ?_
                              rotate_left
                              · intro w hSw
                                (try dsimp only at hSw)
                                go_simp
                                (try (with_reducible rfl))
                              try simp only [Act.put, List.setIfInBounds_toArray, List.set_cons_zero, List.set_cons_succ]
                              refine wpAnyH_take (i := 12) (oi := { dst := some 108, op := _, type := _, pos := _, after := _, guard := _ }) (v := ?_) rfl (by kernel_rfl) (by kernel_rfl) (by kernel_rfl) (fun _ _ _ h => h) (Or.inl ⟨by rfl, ?_⟩) (by assumption) ?_
                              rotate_left
                              · intro w hSw
                                (try dsimp only at hSw)
                                go_simp
                                (try (with_reducible rfl))
                              try simp only [Act.put, List.setIfInBounds_toArray, List.set_cons_zero, List.set_cons_succ]
                              refine wpAnyH_take (i := 13) (oi := { dst := some 109, op := _, type := _, pos := _, after := _, guard := _ }) (v := ?_) rfl (by kernel_rfl) (by kernel_rfl) (by kernel_rfl) (fun _ _ _ h => h) (Or.inl ⟨by rfl, ?_⟩) (by assumption) ?_
                              rotate_left
                              · intro w hSw
                                (try dsimp only at hSw)
                                go_simp
                                (try (with_reducible rfl))
                              try simp only [Act.put, List.setIfInBounds_toArray, List.set_cons_zero, List.set_cons_succ]
                              refine wpAnyH_take (i := 14) (oi := { dst := some 110, op := _, type := _, pos := _, after := _, guard := _ }) (v := ?_) rfl (by kernel_rfl) (by kernel_rfl) (by kernel_rfl) (fun _ _ _ h => h) (Or.inl ⟨by rfl, ?_⟩) (by assumption) ?_
                              rotate_left
                              · intro w hSw
                                (try dsimp only at hSw)
                                go_simp
                                (try (with_reducible rfl))
                              try simp only [Act.put, List.setIfInBounds_toArray, List.set_cons_zero, List.set_cons_succ]
                              refine wpAnyH_take (i := 15) (oi := { dst := some 111, op := _, type := _, pos := _, after := _, guard := _ }) (v := ?_) rfl (by kernel_rfl) (by kernel_rfl) (by kernel_rfl) (fun _ _ _ h => h) (Or.inl ⟨by rfl, ?_⟩) (by assumption) ?_
                              rotate_left
                              · intro w hSw
                                (try dsimp only at hSw)
                                go_simp
                                (try (with_reducible rfl))
                              try simp only [Act.put, List.setIfInBounds_toArray, List.set_cons_zero, List.set_cons_succ]
                              refine wpAnyH_take (i := 16) (oi := { dst := some 112, op := _, type := _, pos := _, after := _, guard := _ }) (v := ?_) rfl (by kernel_rfl) (by kernel_rfl) (by kernel_rfl) (fun _ _ _ h => h) (Or.inl ⟨by rfl, ?_⟩) (by assumption) ?_
                              rotate_left
                              · intro w hSw
                                (try dsimp only at hSw)
                                go_simp
                                (try (with_reducible rfl))
                              try simp only [Act.put, List.setIfInBounds_toArray, List.set_cons_zero, List.set_cons_succ]
                              refine wpAnyH_take (i := 17) (oi := { dst := some 113, op := _, type := _, pos := _, after := _, guard := _ }) (v := ?_) rfl (by kernel_rfl) (by kernel_rfl) (by kernel_rfl) (fun _ _ _ h => h) (Or.inl ⟨by rfl, ?_⟩) (by assumption) ?_
                              rotate_left
                              · intro w hSw
                                (try dsimp only at hSw)
                                go_simp
                                (try (with_reducible rfl))
                              try simp only [Act.put, List.setIfInBounds_toArray, List.set_cons_zero, List.set_cons_succ]
                              refine wpAnyH_ready (rs := [18]) (by kernel_rfl) (by simp) ?_
                              refine AllReadyH.cons (o := { dst := some 114, op := _, type := _, pos := _, after := _, guard := _ }) rfl (fun K hK => ?_) AllReadyH.nil
                              go_simp
                              refine (HJ.out (by simp) _ r1 r2).mono ?_
                              rintro e w8 ⟨rfl, hb8⟩
                              replace BV := BV.below hb8
                              replace BG := BG.below hb8
                              replace r1 := r1.below hb8
                              replace r2 := r2.below hb8
                              have hz8 := hb8.size
                              replace hb := chain hb hb8
                              clear hb8
                              (try go_wp2_with fail)
                              refine hK.out _ _ ⟨BV.four.1, BV.four.2.1, BV.four.2.2.1, BV.four.2.2.2.1, BG.nine.1, BG.nine.2.1, BG.nine.2.2.1, BG.nine.2.2.2.1, BG.nine.2.2.2.2.1, BG.nine.2.2.2.2.2.1, BG.nine.2.2.2.2.2.2.1, BG.nine.2.2.2.2.2.2.2.1, BG.nine.2.2.2.2.2.2.2.2.1⟩ (fun hHeld => ?_)
                              clear hK K
                              try simp only [Act.put, List.setIfInBounds_toArray, List.set_cons_zero, List.set_cons_succ]
                              refine wpAnyH_take (i := 19) (oi := { dst := some 115, op := _, type := _, pos := _, after := _, guard := _ }) (v := ?_) rfl (by kernel_rfl) (by kernel_rfl) (by kernel_rfl) (fun _ _ _ h => h) (Or.inl ⟨by rfl, ?_⟩) (by assumption) ?_
                              rotate_left
                              · intro w hSw
                                (try dsimp only at hSw)
                                go_simp
                                (try (with_reducible rfl))
                              try simp only [Act.put, List.setIfInBounds_toArray, List.set_cons_zero, List.set_cons_succ]
                              refine wpAnyH_take (i := 20) (oi := { dst := some 116, op := _, type := _, pos := _, after := _, guard := _ }) (v := ?_) rfl (by kernel_rfl) (by kernel_rfl) (by kernel_rfl) (fun _ _ _ h => h) (Or.inl ⟨by rfl, ?_⟩) (by assumption) ?_
                              rotate_left
                              · intro w hSw
                                (try dsimp only at hSw)
                                go_simp
                                (try (with_reducible rfl))
                              try simp only [Act.put, List.setIfInBounds_toArray, List.set_cons_zero, List.set_cons_succ]
                              refine wpAnyH_take (i := 21) (oi := { dst := some 4, op := _, type := _, pos := _, after := _, guard := _ }) (v := ?_) rfl (by kernel_rfl) (by kernel_rfl) (by kernel_rfl) (fun _ _ _ h => h) (Or.inl ⟨by rfl, ?_⟩) (by assumption) ?_
                              rotate_left
                              · intro w hSw
                                (try dsimp only at hSw)
                                go_simp
                                (try (with_reducible rfl))
                              try simp only [Act.put, List.setIfInBounds_toArray, List.set_cons_zero, List.set_cons_succ]
                              refine wpAnyH_done (by kernel_rfl) ?_ _
                              clear hHeld
                              obtain ⟨q0_BV, q1_BV, q2_BV, q3_BV, qf_BV, ql_BV⟩ := BV.four
                              obtain ⟨q0_BG, q1_BG, q2_BG, q3_BG, q4_BG, q5_BG, q6_BG, q7_BG, q8_BG, qf_BG, ql_BG⟩ := BG.nine
                              go_wp2_with fail
                              go_ret
                              exact ⟨rfl, hb⟩
                            · have f_e2 : (wi == pl) = false := by rw [beq_eq_false_iff_ne]; exact e2
                              rw [f_e2]
                              clear e2
                              (try simp only [Bool.false_and, Bool.true_and, Bool.and_false, Bool.and_true, Bool.not_true, Bool.not_false])
                              go_enter Try.func91, Try.ntmps91
                              obtain ⟨x0, x1, x2, x3, xf, xl⟩ := BV.four
                              obtain ⟨ga0, ga1, ga2, ga3, ga4, ga5, ga6, ga7, ga8, gaf, gal⟩ := BG.nine
                              go_wp2_with fail
                              clear x0 x1 x2 x3 xf xl
                              clear ga0 ga1 ga2 ga3 ga4 ga5 ga6 ga7 ga8 gaf gal
                              generalize ((w.alloc (.cells #[.int .i64 p, .int .i64 c, .int .i64 h, .int .i64 s] 32)).alloc (.cells #[.slice a1 n1 c1, .slice a2 n2 c2, .int .i64 pl, .int .i64 ra, .int .i64 rb, .int .i64 ph, .int .i64 wi, .int .i64 re, .int .i64 tu] 70)) = v0 at *
                              obtain ⟨q0_BV, q1_BV, q2_BV, q3_BV, qf_BV, ql_BV⟩ := BV.four
                              obtain ⟨q0_BG, q1_BG, q2_BG, q3_BG, q4_BG, q5_BG, q6_BG, q7_BG, q8_BG, qf_BG, ql_BG⟩ := BG.nine
                              go_wp2_with fail
                              clear q0_BV q1_BV q2_BV q3_BV qf_BV ql_BV
                              clear q0_BG q1_BG q2_BG q3_BG q4_BG q5_BG q6_BG q7_BG q8_BG qf_BG ql_BG
                              refine (HV.out _).mono ?_
                              rintro e w1 ⟨rfl, hb1⟩
                              replace BV := BV.below hb1
                              replace BG := BG.below hb1
                              replace r1 := r1.below hb1
                              replace r2 := r2.below hb1
                              have hz1 := hb1.size
                              replace hb := chain hb hb1
                              clear hb1
                              obtain ⟨q0_BV, q1_BV, q2_BV, q3_BV, qf_BV, ql_BV⟩ := BV.four
                              obtain ⟨q0_BG, q1_BG, q2_BG, q3_BG, q4_BG, q5_BG, q6_BG, q7_BG, q8_BG, qf_BG, ql_BG⟩ := BG.nine
                              go_wp2_with fail
                              clear q0_BV q1_BV q2_BV q3_BV qf_BV ql_BV
                              clear q0_BG q1_BG q2_BG q3_BG q4_BG q5_BG q6_BG q7_BG q8_BG qf_BG ql_BG
                              refine (HI.out _ r1 r2).mono ?_
                              rintro e w2 ⟨rfl, hb2⟩
                              replace BV := BV.below hb2
                              replace BG := BG.below hb2
                              replace r1 := r1.below hb2
                              replace r2 := r2.below hb2
                              have hz2 := hb2.size
                              replace hb := chain hb hb2
                              clear hb2
                              obtain ⟨q0_BV, q1_BV, q2_BV, q3_BV, qf_BV, ql_BV⟩ := BV.four
                              obtain ⟨q0_BG, q1_BG, q2_BG, q3_BG, q4_BG, q5_BG, q6_BG, q7_BG, q8_BG, qf_BG, ql_BG⟩ := BG.nine
                              go_wp2_with fail
                              clear q0_BV q1_BV q2_BV q3_BV qf_BV ql_BV
                              clear q0_BG q1_BG q2_BG q3_BG q4_BG q5_BG q6_BG q7_BG q8_BG qf_BG ql_BG
                              refine (HP.out _).mono ?_
                              rintro e w3 ⟨rfl, hb3⟩
                              replace BV := BV.below hb3
                              replace BG := BG.below hb3
                              replace r1 := r1.below hb3
                              replace r2 := r2.below hb3
                              have hz3 := hb3.size
                              replace hb := chain hb hb3
                              clear hb3
                              obtain ⟨q0_BV, q1_BV, q2_BV, q3_BV, qf_BV, ql_BV⟩ := BV.four
                              obtain ⟨q0_BG, q1_BG, q2_BG, q3_BG, q4_BG, q5_BG, q6_BG, q7_BG, q8_BG, qf_BG, ql_BG⟩ := BG.nine
                              go_wp2_with fail
                              clear q0_BV q1_BV q2_BV q3_BV qf_BV ql_BV
                              clear q0_BG q1_BG q2_BG q3_BG q4_BG q5_BG q6_BG q7_BG q8_BG qf_BG ql_BG
                              refine (HT.out _).mono ?_
                              rintro e w4 ⟨rfl, hb4⟩
                              replace BV := BV.below hb4
                              replace BG := BG.below hb4
                              replace r1 := r1.below hb4
                              replace r2 := r2.below hb4
                              have hz4 := hb4.size
                              replace hb := chain hb hb4
                              clear hb4
                              obtain ⟨q0_BV, q1_BV, q2_BV, q3_BV, qf_BV, ql_BV⟩ := BV.four
                              obtain ⟨q0_BG, q1_BG, q2_BG, q3_BG, q4_BG, q5_BG, q6_BG, q7_BG, q8_BG, qf_BG, ql_BG⟩ := BG.nine
                              go_wp2_with fail
                              clear q0_BV q1_BV q2_BV q3_BV qf_BV ql_BV
                              clear q0_BG q1_BG q2_BG q3_BG q4_BG q5_BG q6_BG q7_BG q8_BG qf_BG ql_BG
                              refine (HO.out (by simp) _ r1 r2).mono ?_
                              rintro e w5 ⟨rfl, hb5⟩
                              replace BV := BV.below hb5
                              replace BG := BG.below hb5
                              replace r1 := r1.below hb5
                              replace r2 := r2.below hb5
                              have hz5 := hb5.size
                              replace hb := chain hb hb5
                              clear hb5
                              obtain ⟨q0_BV, q1_BV, q2_BV, q3_BV, qf_BV, ql_BV⟩ := BV.four
                              obtain ⟨q0_BG, q1_BG, q2_BG, q3_BG, q4_BG, q5_BG, q6_BG, q7_BG, q8_BG, qf_BG, ql_BG⟩ := BG.nine
                              go_wp2_with fail
                              clear q0_BV q1_BV q2_BV q3_BV qf_BV ql_BV
                              clear q0_BG q1_BG q2_BG q3_BG q4_BG q5_BG q6_BG q7_BG q8_BG qf_BG ql_BG
                              have hd6 : w5.drew.heap.size = w5.heap.size := rfl
                              replace BV := BV.drew
                              replace BG := BG.drew
                              replace r1 := r1.drew
                              replace r2 := r2.drew
                              replace hb := hb.drew
                              refine wp_region_held_drew (S := fun w' => w'.cell? ⟨w.heap.size, 0, none⟩ = some (.int .i64 p) ∧ w'.cell? ⟨w.heap.size, 1, none⟩ = some (.int .i64 c) ∧ w'.cell? ⟨w.heap.size, 2, none⟩ = some (.int .i64 h) ∧ w'.cell? ⟨w.heap.size, 3, none⟩ = some (.int .i64 s) ∧ w'.cell? ⟨(w.heap.size + 1), 0, none⟩ = some (.slice a1 n1 c1) ∧ w'.cell? ⟨(w.heap.size + 1), 1, none⟩ = some (.slice a2 n2 c2) ∧ w'.cell? ⟨(w.heap.size + 1), 2, none⟩ = some (.int .i64 pl) ∧ w'.cell? ⟨(w.heap.size + 1), 3, none⟩ = some (.int .i64 ra) ∧ w'.cell? ⟨(w.heap.size + 1), 4, none⟩ = some (.int .i64 rb) ∧ w'.cell? ⟨(w.heap.size + 1), 5, none⟩ = some (.int .i64 ph) ∧ w'.cell? ⟨(w.heap.size + 1), 6, none⟩ = some (.int .i64 wi) ∧ w'.cell? ⟨(w.heap.size + 1), 7, none⟩ = some (.int .i64 re) ∧ w'.cell? ⟨(w.heap.size + 1), 8, none⟩ = some (.int .i64 tu)) (by kernel_rfl) ⟨BV.four.1, BV.four.2.1, BV.four.2.2.1, BV.four.2.2.2.1, BG.nine.1, BG.nine.2.1, BG.nine.2.2.1, BG.nine.2.2.2.1, BG.nine.2.2.2.2.1, BG.nine.2.2.2.2.2.1, BG.nine.2.2.2.2.2.2.1, BG.nine.2.2.2.2.2.2.2.1, BG.nine.2.2.2.2.2.2.2.2.1⟩ (fun hHeld => ?_)
                              clear hHeld
                              generalize w5.drew = vd6 at *
                              have hHeld : vd6.cell? ⟨w.heap.size, 0, none⟩ = some (.int .i64 p) ∧ vd6.cell? ⟨w.heap.size, 1, none⟩ = some (.int .i64 c) ∧ vd6.cell? ⟨w.heap.size, 2, none⟩ = some (.int .i64 h) ∧ vd6.cell? ⟨w.heap.size, 3, none⟩ = some (.int .i64 s) ∧ vd6.cell? ⟨(w.heap.size + 1), 0, none⟩ = some (.slice a1 n1 c1) ∧ vd6.cell? ⟨(w.heap.size + 1), 1, none⟩ = some (.slice a2 n2 c2) ∧ vd6.cell? ⟨(w.heap.size + 1), 2, none⟩ = some (.int .i64 pl) ∧ vd6.cell? ⟨(w.heap.size + 1), 3, none⟩ = some (.int .i64 ra) ∧ vd6.cell? ⟨(w.heap.size + 1), 4, none⟩ = some (.int .i64 rb) ∧ vd6.cell? ⟨(w.heap.size + 1), 5, none⟩ = some (.int .i64 ph) ∧ vd6.cell? ⟨(w.heap.size + 1), 6, none⟩ = some (.int .i64 wi) ∧ vd6.cell? ⟨(w.heap.size + 1), 7, none⟩ = some (.int .i64 re) ∧ vd6.cell? ⟨(w.heap.size + 1), 8, none⟩ = some (.int .i64 tu) := ⟨BV.four.1, BV.four.2.1, BV.four.2.2.1, BV.four.2.2.2.1, BG.nine.1, BG.nine.2.1, BG.nine.2.2.1, BG.nine.2.2.2.1, BG.nine.2.2.2.2.1, BG.nine.2.2.2.2.2.1, BG.nine.2.2.2.2.2.2.1, BG.nine.2.2.2.2.2.2.2.1, BG.nine.2.2.2.2.2.2.2.2.1⟩
                              refine wpAnyH_take (i := 0) (oi := { dst := some 96, op := _, type := _, pos := _, after := _, guard := _ }) (v := ?_) rfl (by kernel_rfl) (by kernel_rfl) (by kernel_rfl) (fun _ _ _ h => h) (Or.inl ⟨by rfl, ?_⟩) (by assumption) ?_
                              rotate_left
                              · intro w hSw
                                (try dsimp only at hSw)
                                go_simp
                                (try (with_reducible rfl))
                              try simp only [Act.put, List.setIfInBounds_toArray, List.set_cons_zero, List.set_cons_succ]
                              refine wpAnyH_take (i := 1) (oi := { dst := some 97, op := _, type := _, pos := _, after := _, guard := _ }) (v := ?_) rfl (by kernel_rfl) (by kernel_rfl) (by kernel_rfl) (fun _ _ _ h => h) (Or.inl ⟨by rfl, ?_⟩) (by assumption) ?_
                              rotate_left
                              · intro w hSw
                                (try dsimp only at hSw)
                                go_simp
                                (try (with_reducible rfl))
                              try simp only [Act.put, List.setIfInBounds_toArray, List.set_cons_zero, List.set_cons_succ]
                              refine wpAnyH_take (i := 2) (oi := { dst := some 98, op := _, type := _, pos := _, after := _, guard := _ }) (v := ?_) rfl (by kernel_rfl) (by kernel_rfl) (by kernel_rfl) (fun _ _ _ h => h) (Or.inl ⟨by rfl, ?_⟩) (by assumption) ?_
                              rotate_left
                              · intro w hSw
                                (try dsimp only at hSw)
                                go_simp
                                (try (with_reducible rfl))
                              try simp only [Act.put, List.setIfInBounds_toArray, List.set_cons_zero, List.set_cons_succ]
                              refine wpAnyH_ready (rs := [3]) (by kernel_rfl) (by simp) ?_
                              refine AllReadyH.cons (o := { dst := some 99, op := _, type := _, pos := _, after := _, guard := _ }) rfl (fun K hK => ?_) AllReadyH.nil
                              go_simp
                              refine (HU.out (by simp) _ r1).mono ?_
                              rintro e w7 ⟨rfl, hb7⟩
                              replace BV := BV.below hb7
                              replace BG := BG.below hb7
                              replace r1 := r1.below hb7
                              replace r2 := r2.below hb7
                              have hz7 := hb7.size
                              replace hb := chain hb hb7
                              clear hb7
                              (try go_wp2_with fail)
                              refine hK.out _ _ ⟨BV.four.1, BV.four.2.1, BV.four.2.2.1, BV.four.2.2.2.1, BG.nine.1, BG.nine.2.1, BG.nine.2.2.1, BG.nine.2.2.2.1, BG.nine.2.2.2.2.1, BG.nine.2.2.2.2.2.1, BG.nine.2.2.2.2.2.2.1, BG.nine.2.2.2.2.2.2.2.1, BG.nine.2.2.2.2.2.2.2.2.1⟩ (fun hHeld => ?_)
                              clear hK K
                              try simp only [Act.put, List.setIfInBounds_toArray, List.set_cons_zero, List.set_cons_succ]
                              refine wpAnyH_take (i := 4) (oi := { dst := some 100, op := _, type := _, pos := _, after := _, guard := _ }) (v := ?_) rfl (by kernel_rfl) (by kernel_rfl) (by kernel_rfl) (fun _ _ _ h => h) (Or.inl ⟨by rfl, ?_⟩) (by assumption) ?_
                              rotate_left
                              · intro w hSw
                                (try dsimp only at hSw)
                                go_simp
                                (try (with_reducible rfl))
                              try simp only [Act.put, List.setIfInBounds_toArray, List.set_cons_zero, List.set_cons_succ]
                              refine wpAnyH_take (i := 5) (oi := { dst := some 101, op := _, type := _, pos := _, after := _, guard := _ }) (v := ?_) rfl (by kernel_rfl) (by kernel_rfl) (by kernel_rfl) (fun _ _ _ h => h) (Or.inl ⟨by rfl, ?_⟩) (by assumption) ?_
                              rotate_left
                              · intro w hSw
                                (try dsimp only at hSw)
                                go_simp
                                (try (with_reducible rfl))
                              try simp only [Act.put, List.setIfInBounds_toArray, List.set_cons_zero, List.set_cons_succ]
                              refine wpAnyH_take (i := 6) (oi := { dst := some 102, op := _, type := _, pos := _, after := _, guard := _ }) (v := ?_) rfl (by kernel_rfl) (by kernel_rfl) (by kernel_rfl) (fun _ _ _ h => h) (Or.inl ⟨by rfl, ?_⟩) (by assumption) ?_
                              rotate_left
                              · intro w hSw
                                (try dsimp only at hSw)
                                go_simp
                                (try (with_reducible rfl))
                              try simp only [Act.put, List.setIfInBounds_toArray, List.set_cons_zero, List.set_cons_succ]
                              refine wpAnyH_take (i := 7) (oi := { dst := some 103, op := _, type := _, pos := _, after := _, guard := _ }) (v := ?_) rfl (by kernel_rfl) (by kernel_rfl) (by kernel_rfl) (fun _ _ _ h => h) (Or.inl ⟨by rfl, ?_⟩) (by assumption) ?_
                              rotate_left
                              · intro w hSw
                                (try dsimp only at hSw)
                                go_simp
                                (try (with_reducible rfl))
                              try simp only [Act.put, List.setIfInBounds_toArray, List.set_cons_zero, List.set_cons_succ]
                              refine wpAnyH_take (i := 8) (oi := { dst := some 104, op := _, type := _, pos := _, after := _, guard := _ }) (v := ?_) rfl (by kernel_rfl) (by kernel_rfl) (by kernel_rfl) (fun _ _ _ h => h) (Or.inl ⟨by rfl, ?_⟩) (by assumption) ?_
                              rotate_left
                              · intro w hSw
                                (try dsimp only at hSw)
                                go_simp
                                (try (with_reducible rfl))
                              try simp only [Act.put, List.setIfInBounds_toArray, List.set_cons_zero, List.set_cons_succ]
                              refine wpAnyH_take (i := 9) (oi := { dst := some 105, op := _, type := _, pos := _, after := _, guard := _ }) (v := ?_) rfl (by kernel_rfl) (by kernel_rfl) (by kernel_rfl) (fun _ _ _ h => h) (Or.inl ⟨by rfl, ?_⟩) (by assumption) ?_
                              rotate_left
                              · intro w hSw
                                (try dsimp only at hSw)
                                go_simp
                                (try (with_reducible rfl))
                              try simp only [Act.put, List.setIfInBounds_toArray, List.set_cons_zero, List.set_cons_succ]
                              refine wpAnyH_take (i := 10) (oi := { dst := some 106, op := _, type := _, pos := _, after := _, guard := _ }) (v := ?_) rfl (by kernel_rfl) (by kernel_rfl) (by kernel_rfl) (fun _ _ _ h => h) (Or.inl ⟨by rfl, ?_⟩) (by assumption) ?_
                              rotate_left
                              · intro w hSw
                                (try dsimp only at hSw)
                                go_simp
                                (try (with_reducible rfl))
                              try simp only [Act.put, List.setIfInBounds_toArray, List.set_cons_zero, List.set_cons_succ]
                              refine wpAnyH_take (i := 11) (oi := { dst := some 107, op := _, type := _, pos := _, after := _, guard := _ }) (v := ?_) rfl (by kernel_rfl) (by kernel_rfl) (by kernel_rfl) (fun _ _ _ h => h) (Or.inl ⟨by rfl, ?_⟩) (by assumption) ?_
                              rotate_left
                              · intro w hSw
                                (try dsimp only at hSw)
                                go_simp
                                (try (with_reducible rfl))
                              try simp only [Act.put, List.setIfInBounds_toArray, List.set_cons_zero, List.set_cons_succ]
                              refine wpAnyH_take (i := 12) (oi := { dst := some 108, op := _, type := _, pos := _, after := _, guard := _ }) (v := ?_) rfl (by kernel_rfl) (by kernel_rfl) (by kernel_rfl) (fun _ _ _ h => h) (Or.inl ⟨by rfl, ?_⟩) (by assumption) ?_
                              rotate_left
                              · intro w hSw
                                (try dsimp only at hSw)
                                go_simp
                                (try (with_reducible rfl))
                              try simp only [Act.put, List.setIfInBounds_toArray, List.set_cons_zero, List.set_cons_succ]
                              refine wpAnyH_take (i := 13) (oi := { dst := some 109, op := _, type := _, pos := _, after := _, guard := _ }) (v := undef) rfl (by kernel_rfl) (by kernel_rfl) (by kernel_rfl) (fun _ _ _ h => h) (Or.inr ⟨by rfl, rfl⟩) (by assumption) ?_
                              try simp only [Act.put, List.setIfInBounds_toArray, List.set_cons_zero, List.set_cons_succ]
                              refine wpAnyH_take (i := 14) (oi := { dst := some 110, op := _, type := _, pos := _, after := _, guard := _ }) (v := undef) rfl (by kernel_rfl) (by kernel_rfl) (by kernel_rfl) (fun _ _ _ h => h) (Or.inr ⟨by rfl, rfl⟩) (by assumption) ?_
                              try simp only [Act.put, List.setIfInBounds_toArray, List.set_cons_zero, List.set_cons_succ]
                              refine wpAnyH_take (i := 15) (oi := { dst := some 111, op := _, type := _, pos := _, after := _, guard := _ }) (v := undef) rfl (by kernel_rfl) (by kernel_rfl) (by kernel_rfl) (fun _ _ _ h => h) (Or.inr ⟨by rfl, rfl⟩) (by assumption) ?_
                              try simp only [Act.put, List.setIfInBounds_toArray, List.set_cons_zero, List.set_cons_succ]
                              refine wpAnyH_take (i := 16) (oi := { dst := some 112, op := _, type := _, pos := _, after := _, guard := _ }) (v := undef) rfl (by kernel_rfl) (by kernel_rfl) (by kernel_rfl) (fun _ _ _ h => h) (Or.inr ⟨by rfl, rfl⟩) (by assumption) ?_
                              try simp only [Act.put, List.setIfInBounds_toArray, List.set_cons_zero, List.set_cons_succ]
                              refine wpAnyH_take (i := 17) (oi := { dst := some 113, op := _, type := _, pos := _, after := _, guard := _ }) (v := undef) rfl (by kernel_rfl) (by kernel_rfl) (by kernel_rfl) (fun _ _ _ h => h) (Or.inr ⟨by rfl, rfl⟩) (by assumption) ?_
                              try simp only [Act.put, List.setIfInBounds_toArray, List.set_cons_zero, List.set_cons_succ]
                              refine wpAnyH_take (i := 18) (oi := { dst := some 114, op := _, type := _, pos := _, after := _, guard := _ }) (v := undef) rfl (by kernel_rfl) (by kernel_rfl) (by kernel_rfl) (fun _ _ _ h => h) (Or.inr ⟨by rfl, rfl⟩) (by assumption) ?_
                              try simp only [Act.put, List.setIfInBounds_toArray, List.set_cons_zero, List.set_cons_succ]
                              refine wpAnyH_take (i := 19) (oi := { dst := some 115, op := _, type := _, pos := _, after := _, guard := _ }) (v := undef) rfl (by kernel_rfl) (by kernel_rfl) (by kernel_rfl) (fun _ _ _ h => h) (Or.inr ⟨by rfl, rfl⟩) (by assumption) ?_
                              try simp only [Act.put, List.setIfInBounds_toArray, List.set_cons_zero, List.set_cons_succ]
                              refine wpAnyH_take (i := 20) (oi := { dst := some 116, op := _, type := _, pos := _, after := _, guard := _ }) (v := ?_) rfl (by kernel_rfl) (by kernel_rfl) (by kernel_rfl) (fun _ _ _ h => h) (Or.inl ⟨by rfl, ?_⟩) (by assumption) ?_
                              rotate_left
                              · intro w hSw
                                (try dsimp only at hSw)
                                go_simp
                                (try (with_reducible rfl))
                              try simp only [Act.put, List.setIfInBounds_toArray, List.set_cons_zero, List.set_cons_succ]
                              refine wpAnyH_take (i := 21) (oi := { dst := some 4, op := _, type := _, pos := _, after := _, guard := _ }) (v := ?_) rfl (by kernel_rfl) (by kernel_rfl) (by kernel_rfl) (fun _ _ _ h => h) (Or.inl ⟨by rfl, ?_⟩) (by assumption) ?_
                              rotate_left
                              · intro w hSw
                                (try dsimp only at hSw)
                                go_simp
                                (try (with_reducible rfl))
                              try simp only [Act.put, List.setIfInBounds_toArray, List.set_cons_zero, List.set_cons_succ]
                              refine wpAnyH_done (by kernel_rfl) ?_ _
                              clear hHeld
                              obtain ⟨q0_BV, q1_BV, q2_BV, q3_BV, qf_BV, ql_BV⟩ := BV.four
                              obtain ⟨q0_BG, q1_BG, q2_BG, q3_BG, q4_BG, q5_BG, q6_BG, q7_BG, q8_BG, qf_BG, ql_BG⟩ := BG.nine
                              go_wp2_with fail
                              go_ret
                              exact ⟨rfl, hb⟩
                          · have f_e1 : (U == 0) = false := by rw [beq_eq_false_iff_ne]; exact e1
                            rw [f_e1]
                            clear e1
                            (try simp only [Bool.false_and, Bool.true_and, Bool.and_false, Bool.and_true, Bool.not_true, Bool.not_false])
                            go_enter Try.func91, Try.ntmps91
                            obtain ⟨x0, x1, x2, x3, xf, xl⟩ := BV.four
                            obtain ⟨ga0, ga1, ga2, ga3, ga4, ga5, ga6, ga7, ga8, gaf, gal⟩ := BG.nine
                            go_wp2_with fail
                            clear x0 x1 x2 x3 xf xl
                            clear ga0 ga1 ga2 ga3 ga4 ga5 ga6 ga7 ga8 gaf gal
                            generalize ((w.alloc (.cells #[.int .i64 p, .int .i64 c, .int .i64 h, .int .i64 s] 32)).alloc (.cells #[.slice a1 n1 c1, .slice a2 n2 c2, .int .i64 pl, .int .i64 ra, .int .i64 rb, .int .i64 ph, .int .i64 wi, .int .i64 re, .int .i64 tu] 70)) = v0 at *
                            obtain ⟨q0_BV, q1_BV, q2_BV, q3_BV, qf_BV, ql_BV⟩ := BV.four
                            obtain ⟨q0_BG, q1_BG, q2_BG, q3_BG, q4_BG, q5_BG, q6_BG, q7_BG, q8_BG, qf_BG, ql_BG⟩ := BG.nine
                            go_wp2_with fail
                            clear q0_BV q1_BV q2_BV q3_BV qf_BV ql_BV
                            clear q0_BG q1_BG q2_BG q3_BG q4_BG q5_BG q6_BG q7_BG q8_BG qf_BG ql_BG
                            refine (HV.out _).mono ?_
                            rintro e w1 ⟨rfl, hb1⟩
                            replace BV := BV.below hb1
                            replace BG := BG.below hb1
                            replace r1 := r1.below hb1
                            replace r2 := r2.below hb1
                            have hz1 := hb1.size
                            replace hb := chain hb hb1
                            clear hb1
                            obtain ⟨q0_BV, q1_BV, q2_BV, q3_BV, qf_BV, ql_BV⟩ := BV.four
                            obtain ⟨q0_BG, q1_BG, q2_BG, q3_BG, q4_BG, q5_BG, q6_BG, q7_BG, q8_BG, qf_BG, ql_BG⟩ := BG.nine
                            go_wp2_with fail
                            clear q0_BV q1_BV q2_BV q3_BV qf_BV ql_BV
                            clear q0_BG q1_BG q2_BG q3_BG q4_BG q5_BG q6_BG q7_BG q8_BG qf_BG ql_BG
                            refine (HI.out _ r1 r2).mono ?_
                            rintro e w2 ⟨rfl, hb2⟩
                            replace BV := BV.below hb2
                            replace BG := BG.below hb2
                            replace r1 := r1.below hb2
                            replace r2 := r2.below hb2
                            have hz2 := hb2.size
                            replace hb := chain hb hb2
                            clear hb2
                            obtain ⟨q0_BV, q1_BV, q2_BV, q3_BV, qf_BV, ql_BV⟩ := BV.four
                            obtain ⟨q0_BG, q1_BG, q2_BG, q3_BG, q4_BG, q5_BG, q6_BG, q7_BG, q8_BG, qf_BG, ql_BG⟩ := BG.nine
                            go_wp2_with fail
                            clear q0_BV q1_BV q2_BV q3_BV qf_BV ql_BV
                            clear q0_BG q1_BG q2_BG q3_BG q4_BG q5_BG q6_BG q7_BG q8_BG qf_BG ql_BG
                            refine (HP.out _).mono ?_
                            rintro e w3 ⟨rfl, hb3⟩
                            replace BV := BV.below hb3
                            replace BG := BG.below hb3
                            replace r1 := r1.below hb3
                            replace r2 := r2.below hb3
                            have hz3 := hb3.size
                            replace hb := chain hb hb3
                            clear hb3
                            obtain ⟨q0_BV, q1_BV, q2_BV, q3_BV, qf_BV, ql_BV⟩ := BV.four
                            obtain ⟨q0_BG, q1_BG, q2_BG, q3_BG, q4_BG, q5_BG, q6_BG, q7_BG, q8_BG, qf_BG, ql_BG⟩ := BG.nine
                            go_wp2_with fail
                            clear q0_BV q1_BV q2_BV q3_BV qf_BV ql_BV
                            clear q0_BG q1_BG q2_BG q3_BG q4_BG q5_BG q6_BG q7_BG q8_BG qf_BG ql_BG
                            refine (HT.out _).mono ?_
                            rintro e w4 ⟨rfl, hb4⟩
                            replace BV := BV.below hb4
                            replace BG := BG.below hb4
                            replace r1 := r1.below hb4
                            replace r2 := r2.below hb4
                            have hz4 := hb4.size
                            replace hb := chain hb hb4
                            clear hb4
                            obtain ⟨q0_BV, q1_BV, q2_BV, q3_BV, qf_BV, ql_BV⟩ := BV.four
                            obtain ⟨q0_BG, q1_BG, q2_BG, q3_BG, q4_BG, q5_BG, q6_BG, q7_BG, q8_BG, qf_BG, ql_BG⟩ := BG.nine
                            go_wp2_with fail
                            clear q0_BV q1_BV q2_BV q3_BV qf_BV ql_BV
                            clear q0_BG q1_BG q2_BG q3_BG q4_BG q5_BG q6_BG q7_BG q8_BG qf_BG ql_BG
                            refine (HO.out (by simp) _ r1 r2).mono ?_
                            rintro e w5 ⟨rfl, hb5⟩
                            replace BV := BV.below hb5
                            replace BG := BG.below hb5
                            replace r1 := r1.below hb5
                            replace r2 := r2.below hb5
                            have hz5 := hb5.size
                            replace hb := chain hb hb5
                            clear hb5
                            obtain ⟨q0_BV, q1_BV, q2_BV, q3_BV, qf_BV, ql_BV⟩ := BV.four
                            obtain ⟨q0_BG, q1_BG, q2_BG, q3_BG, q4_BG, q5_BG, q6_BG, q7_BG, q8_BG, qf_BG, ql_BG⟩ := BG.nine
                            go_wp2_with fail
                            clear q0_BV q1_BV q2_BV q3_BV qf_BV ql_BV
                            clear q0_BG q1_BG q2_BG q3_BG q4_BG q5_BG q6_BG q7_BG q8_BG qf_BG ql_BG
                            have hd6 : w5.drew.heap.size = w5.heap.size := rfl
                            replace BV := BV.drew
                            replace BG := BG.drew
                            replace r1 := r1.drew
                            replace r2 := r2.drew
                            replace hb := hb.drew
                            refine wp_region_held_drew (S := fun w' => w'.cell? ⟨w.heap.size, 0, none⟩ = some (.int .i64 p) ∧ w'.cell? ⟨w.heap.size, 1, none⟩ = some (.int .i64 c) ∧ w'.cell? ⟨w.heap.size, 2, none⟩ = some (.int .i64 h) ∧ w'.cell? ⟨w.heap.size, 3, none⟩ = some (.int .i64 s) ∧ w'.cell? ⟨(w.heap.size + 1), 0, none⟩ = some (.slice a1 n1 c1) ∧ w'.cell? ⟨(w.heap.size + 1), 1, none⟩ = some (.slice a2 n2 c2) ∧ w'.cell? ⟨(w.heap.size + 1), 2, none⟩ = some (.int .i64 pl) ∧ w'.cell? ⟨(w.heap.size + 1), 3, none⟩ = some (.int .i64 ra) ∧ w'.cell? ⟨(w.heap.size + 1), 4, none⟩ = some (.int .i64 rb) ∧ w'.cell? ⟨(w.heap.size + 1), 5, none⟩ = some (.int .i64 ph) ∧ w'.cell? ⟨(w.heap.size + 1), 6, none⟩ = some (.int .i64 wi) ∧ w'.cell? ⟨(w.heap.size + 1), 7, none⟩ = some (.int .i64 re) ∧ w'.cell? ⟨(w.heap.size + 1), 8, none⟩ = some (.int .i64 tu)) (by kernel_rfl) ⟨BV.four.1, BV.four.2.1, BV.four.2.2.1, BV.four.2.2.2.1, BG.nine.1, BG.nine.2.1, BG.nine.2.2.1, BG.nine.2.2.2.1, BG.nine.2.2.2.2.1, BG.nine.2.2.2.2.2.1, BG.nine.2.2.2.2.2.2.1, BG.nine.2.2.2.2.2.2.2.1, BG.nine.2.2.2.2.2.2.2.2.1⟩ (fun hHeld => ?_)
                            clear hHeld
                            generalize w5.drew = vd6 at *
                            have hHeld : vd6.cell? ⟨w.heap.size, 0, none⟩ = some (.int .i64 p) ∧ vd6.cell? ⟨w.heap.size, 1, none⟩ = some (.int .i64 c) ∧ vd6.cell? ⟨w.heap.size, 2, none⟩ = some (.int .i64 h) ∧ vd6.cell? ⟨w.heap.size, 3, none⟩ = some (.int .i64 s) ∧ vd6.cell? ⟨(w.heap.size + 1), 0, none⟩ = some (.slice a1 n1 c1) ∧ vd6.cell? ⟨(w.heap.size + 1), 1, none⟩ = some (.slice a2 n2 c2) ∧ vd6.cell? ⟨(w.heap.size + 1), 2, none⟩ = some (.int .i64 pl) ∧ vd6.cell? ⟨(w.heap.size + 1), 3, none⟩ = some (.int .i64 ra) ∧ vd6.cell? ⟨(w.heap.size + 1), 4, none⟩ = some (.int .i64 rb) ∧ vd6.cell? ⟨(w.heap.size + 1), 5, none⟩ = some (.int .i64 ph) ∧ vd6.cell? ⟨(w.heap.size + 1), 6, none⟩ = some (.int .i64 wi) ∧ vd6.cell? ⟨(w.heap.size + 1), 7, none⟩ = some (.int .i64 re) ∧ vd6.cell? ⟨(w.heap.size + 1), 8, none⟩ = some (.int .i64 tu) := ⟨BV.four.1, BV.four.2.1, BV.four.2.2.1, BV.four.2.2.2.1, BG.nine.1, BG.nine.2.1, BG.nine.2.2.1, BG.nine.2.2.2.1, BG.nine.2.2.2.2.1, BG.nine.2.2.2.2.2.1, BG.nine.2.2.2.2.2.2.1, BG.nine.2.2.2.2.2.2.2.1, BG.nine.2.2.2.2.2.2.2.2.1⟩
                            refine wpAnyH_take (i := 0) (oi := { dst := some 96, op := _, type := _, pos := _, after := _, guard := _ }) (v := ?_) rfl (by kernel_rfl) (by kernel_rfl) (by kernel_rfl) (fun _ _ _ h => h) (Or.inl ⟨by rfl, ?_⟩) (by assumption) ?_
                            rotate_left
                            · intro w hSw
                              (try dsimp only at hSw)
                              go_simp
                              (try (with_reducible rfl))
                            try simp only [Act.put, List.setIfInBounds_toArray, List.set_cons_zero, List.set_cons_succ]
                            refine wpAnyH_take (i := 1) (oi := { dst := some 97, op := _, type := _, pos := _, after := _, guard := _ }) (v := ?_) rfl (by kernel_rfl) (by kernel_rfl) (by kernel_rfl) (fun _ _ _ h => h) (Or.inl ⟨by rfl, ?_⟩) (by assumption) ?_
                            rotate_left
                            · intro w hSw
                              (try dsimp only at hSw)
                              go_simp
                              (try (with_reducible rfl))
                            try simp only [Act.put, List.setIfInBounds_toArray, List.set_cons_zero, List.set_cons_succ]
                            refine wpAnyH_take (i := 2) (oi := { dst := some 98, op := _, type := _, pos := _, after := _, guard := _ }) (v := ?_) rfl (by kernel_rfl) (by kernel_rfl) (by kernel_rfl) (fun _ _ _ h => h) (Or.inl ⟨by rfl, ?_⟩) (by assumption) ?_
                            rotate_left
                            · intro w hSw
                              (try dsimp only at hSw)
                              go_simp
                              (try (with_reducible rfl))
                            try simp only [Act.put, List.setIfInBounds_toArray, List.set_cons_zero, List.set_cons_succ]
                            refine wpAnyH_ready (rs := [3]) (by kernel_rfl) (by simp) ?_
                            refine AllReadyH.cons (o := { dst := some 99, op := _, type := _, pos := _, after := _, guard := _ }) rfl (fun K hK => ?_) AllReadyH.nil
                            go_simp
                            refine (HU.out (by simp) _ r1).mono ?_
                            rintro e w7 ⟨rfl, hb7⟩
                            replace BV := BV.below hb7
                            replace BG := BG.below hb7
                            replace r1 := r1.below hb7
                            replace r2 := r2.below hb7
                            have hz7 := hb7.size
                            replace hb := chain hb hb7
                            clear hb7
                            (try go_wp2_with fail)
                            refine hK.out _ _ ⟨BV.four.1, BV.four.2.1, BV.four.2.2.1, BV.four.2.2.2.1, BG.nine.1, BG.nine.2.1, BG.nine.2.2.1, BG.nine.2.2.2.1, BG.nine.2.2.2.2.1, BG.nine.2.2.2.2.2.1, BG.nine.2.2.2.2.2.2.1, BG.nine.2.2.2.2.2.2.2.1, BG.nine.2.2.2.2.2.2.2.2.1⟩ (fun hHeld => ?_)
                            clear hK K
                            try simp only [Act.put, List.setIfInBounds_toArray, List.set_cons_zero, List.set_cons_succ]
                            refine wpAnyH_take (i := 4) (oi := { dst := some 100, op := _, type := _, pos := _, after := _, guard := _ }) (v := ?_) rfl (by kernel_rfl) (by kernel_rfl) (by kernel_rfl) (fun _ _ _ h => h) (Or.inl ⟨by rfl, ?_⟩) (by assumption) ?_
                            rotate_left
                            · intro w hSw
                              (try dsimp only at hSw)
                              go_simp
                              (try (with_reducible rfl))
                            try simp only [Act.put, List.setIfInBounds_toArray, List.set_cons_zero, List.set_cons_succ]
                            refine wpAnyH_take (i := 5) (oi := { dst := some 101, op := _, type := _, pos := _, after := _, guard := _ }) (v := ?_) rfl (by kernel_rfl) (by kernel_rfl) (by kernel_rfl) (fun _ _ _ h => h) (Or.inl ⟨by rfl, ?_⟩) (by assumption) ?_
                            rotate_left
                            · intro w hSw
                              (try dsimp only at hSw)
                              go_simp
                              (try (with_reducible rfl))
                            try simp only [Act.put, List.setIfInBounds_toArray, List.set_cons_zero, List.set_cons_succ]
                            refine wpAnyH_take (i := 6) (oi := { dst := some 102, op := _, type := _, pos := _, after := _, guard := _ }) (v := undef) rfl (by kernel_rfl) (by kernel_rfl) (by kernel_rfl) (fun _ _ _ h => h) (Or.inr ⟨by rfl, rfl⟩) (by assumption) ?_
                            try simp only [Act.put, List.setIfInBounds_toArray, List.set_cons_zero, List.set_cons_succ]
                            refine wpAnyH_take (i := 7) (oi := { dst := some 103, op := _, type := _, pos := _, after := _, guard := _ }) (v := undef) rfl (by kernel_rfl) (by kernel_rfl) (by kernel_rfl) (fun _ _ _ h => h) (Or.inr ⟨by rfl, rfl⟩) (by assumption) ?_
                            try simp only [Act.put, List.setIfInBounds_toArray, List.set_cons_zero, List.set_cons_succ]
                            refine wpAnyH_take (i := 8) (oi := { dst := some 104, op := _, type := _, pos := _, after := _, guard := _ }) (v := undef) rfl (by kernel_rfl) (by kernel_rfl) (by kernel_rfl) (fun _ _ _ h => h) (Or.inr ⟨by rfl, rfl⟩) (by assumption) ?_
                            try simp only [Act.put, List.setIfInBounds_toArray, List.set_cons_zero, List.set_cons_succ]
                            refine wpAnyH_take (i := 9) (oi := { dst := some 105, op := _, type := _, pos := _, after := _, guard := _ }) (v := undef) rfl (by kernel_rfl) (by kernel_rfl) (by kernel_rfl) (fun _ _ _ h => h) (Or.inr ⟨by rfl, rfl⟩) (by assumption) ?_
                            try simp only [Act.put, List.setIfInBounds_toArray, List.set_cons_zero, List.set_cons_succ]
                            refine wpAnyH_take (i := 10) (oi := { dst := some 106, op := _, type := _, pos := _, after := _, guard := _ }) (v := undef) rfl (by kernel_rfl) (by kernel_rfl) (by kernel_rfl) (fun _ _ _ h => h) (Or.inr ⟨by rfl, rfl⟩) (by assumption) ?_
                            try simp only [Act.put, List.setIfInBounds_toArray, List.set_cons_zero, List.set_cons_succ]
                            refine wpAnyH_take (i := 11) (oi := { dst := some 107, op := _, type := _, pos := _, after := _, guard := _ }) (v := ?_) rfl (by kernel_rfl) (by kernel_rfl) (by kernel_rfl) (fun _ _ _ h => h) (Or.inl ⟨by rfl, ?_⟩) (by assumption) ?_
                            rotate_left
                            · intro w hSw
                              (try dsimp only at hSw)
                              go_simp
                              (try (with_reducible rfl))
                            try simp only [Act.put, List.setIfInBounds_toArray, List.set_cons_zero, List.set_cons_succ]
                            refine wpAnyH_take (i := 12) (oi := { dst := some 108, op := _, type := _, pos := _, after := _, guard := _ }) (v := ?_) rfl (by kernel_rfl) (by kernel_rfl) (by kernel_rfl) (fun _ _ _ h => h) (Or.inl ⟨by rfl, ?_⟩) (by assumption) ?_
                            rotate_left
                            · intro w hSw
                              (try dsimp only at hSw)
                              go_simp
                              (try (with_reducible rfl))
                            try simp only [Act.put, List.setIfInBounds_toArray, List.set_cons_zero, List.set_cons_succ]
                            refine wpAnyH_take (i := 13) (oi := { dst := some 109, op := _, type := _, pos := _, after := _, guard := _ }) (v := undef) rfl (by kernel_rfl) (by kernel_rfl) (by kernel_rfl) (fun _ _ _ h => h) (Or.inr ⟨by rfl, rfl⟩) (by assumption) ?_
                            try simp only [Act.put, List.setIfInBounds_toArray, List.set_cons_zero, List.set_cons_succ]
                            refine wpAnyH_take (i := 14) (oi := { dst := some 110, op := _, type := _, pos := _, after := _, guard := _ }) (v := undef) rfl (by kernel_rfl) (by kernel_rfl) (by kernel_rfl) (fun _ _ _ h => h) (Or.inr ⟨by rfl, rfl⟩) (by assumption) ?_
                            try simp only [Act.put, List.setIfInBounds_toArray, List.set_cons_zero, List.set_cons_succ]
                            refine wpAnyH_take (i := 15) (oi := { dst := some 111, op := _, type := _, pos := _, after := _, guard := _ }) (v := undef) rfl (by kernel_rfl) (by kernel_rfl) (by kernel_rfl) (fun _ _ _ h => h) (Or.inr ⟨by rfl, rfl⟩) (by assumption) ?_
                            try simp only [Act.put, List.setIfInBounds_toArray, List.set_cons_zero, List.set_cons_succ]
                            refine wpAnyH_take (i := 16) (oi := { dst := some 112, op := _, type := _, pos := _, after := _, guard := _ }) (v := undef) rfl (by kernel_rfl) (by kernel_rfl) (by kernel_rfl) (fun _ _ _ h => h) (Or.inr ⟨by rfl, rfl⟩) (by assumption) ?_
                            try simp only [Act.put, List.setIfInBounds_toArray, List.set_cons_zero, List.set_cons_succ]
                            refine wpAnyH_take (i := 17) (oi := { dst := some 113, op := _, type := _, pos := _, after := _, guard := _ }) (v := undef) rfl (by kernel_rfl) (by kernel_rfl) (by kernel_rfl) (fun _ _ _ h => h) (Or.inr ⟨by rfl, rfl⟩) (by assumption) ?_
                            try simp only [Act.put, List.setIfInBounds_toArray, List.set_cons_zero, List.set_cons_succ]
                            refine wpAnyH_take (i := 18) (oi := { dst := some 114, op := _, type := _, pos := _, after := _, guard := _ }) (v := undef) rfl (by kernel_rfl) (by kernel_rfl) (by kernel_rfl) (fun _ _ _ h => h) (Or.inr ⟨by rfl, rfl⟩) (by assumption) ?_
                            try simp only [Act.put, List.setIfInBounds_toArray, List.set_cons_zero, List.set_cons_succ]
                            refine wpAnyH_take (i := 19) (oi := { dst := some 115, op := _, type := _, pos := _, after := _, guard := _ }) (v := undef) rfl (by kernel_rfl) (by kernel_rfl) (by kernel_rfl) (fun _ _ _ h => h) (Or.inr ⟨by rfl, rfl⟩) (by assumption) ?_
                            try simp only [Act.put, List.setIfInBounds_toArray, List.set_cons_zero, List.set_cons_succ]
                            refine wpAnyH_take (i := 20) (oi := { dst := some 116, op := _, type := _, pos := _, after := _, guard := _ }) (v := ?_) rfl (by kernel_rfl) (by kernel_rfl) (by kernel_rfl) (fun _ _ _ h => h) (Or.inl ⟨by rfl, ?_⟩) (by assumption) ?_
                            rotate_left
                            · intro w hSw
                              (try dsimp only at hSw)
                              go_simp
                              (try (with_reducible rfl))
                            try simp only [Act.put, List.setIfInBounds_toArray, List.set_cons_zero, List.set_cons_succ]
                            refine wpAnyH_take (i := 21) (oi := { dst := some 4, op := _, type := _, pos := _, after := _, guard := _ }) (v := ?_) rfl (by kernel_rfl) (by kernel_rfl) (by kernel_rfl) (fun _ _ _ h => h) (Or.inl ⟨by rfl, ?_⟩) (by assumption) ?_
                            rotate_left
                            · intro w hSw
                              (try dsimp only at hSw)
                              go_simp
                              (try (with_reducible rfl))
                            try simp only [Act.put, List.setIfInBounds_toArray, List.set_cons_zero, List.set_cons_succ]
                            refine wpAnyH_done (by kernel_rfl) ?_ _
                            clear hHeld
                            obtain ⟨q0_BV, q1_BV, q2_BV, q3_BV, qf_BV, ql_BV⟩ := BV.four
                            obtain ⟨q0_BG, q1_BG, q2_BG, q3_BG, q4_BG, q5_BG, q6_BG, q7_BG, q8_BG, qf_BG, ql_BG⟩ := BG.nine
                            go_wp2_with fail
                            go_ret
                            exact ⟨rfl, hb⟩
                      · have k3 : (ph == 3) = false := by rw [beq_eq_false_iff_ne]; exact q3
                        rw [if_neg q3]
                        clear q3
                        (try simp only [Bool.false_and, Bool.true_and, Bool.and_false, Bool.and_true, Bool.not_true, Bool.not_false])
                        go_enter Try.func91, Try.ntmps91
                        obtain ⟨x0, x1, x2, x3, xf, xl⟩ := BV.four
                        obtain ⟨ga0, ga1, ga2, ga3, ga4, ga5, ga6, ga7, ga8, gaf, gal⟩ := BG.nine
                        go_wp2_with fail
                        clear x0 x1 x2 x3 xf xl
                        clear ga0 ga1 ga2 ga3 ga4 ga5 ga6 ga7 ga8 gaf gal
                        generalize ((w.alloc (.cells #[.int .i64 p, .int .i64 c, .int .i64 h, .int .i64 s] 32)).alloc (.cells #[.slice a1 n1 c1, .slice a2 n2 c2, .int .i64 pl, .int .i64 ra, .int .i64 rb, .int .i64 ph, .int .i64 wi, .int .i64 re, .int .i64 tu] 70)) = v0 at *
                        obtain ⟨q0_BV, q1_BV, q2_BV, q3_BV, qf_BV, ql_BV⟩ := BV.four
                        obtain ⟨q0_BG, q1_BG, q2_BG, q3_BG, q4_BG, q5_BG, q6_BG, q7_BG, q8_BG, qf_BG, ql_BG⟩ := BG.nine
                        go_wp2_with fail
                        clear q0_BV q1_BV q2_BV q3_BV qf_BV ql_BV
                        clear q0_BG q1_BG q2_BG q3_BG q4_BG q5_BG q6_BG q7_BG q8_BG qf_BG ql_BG
                        refine (HV.out _).mono ?_
                        rintro e w1 ⟨rfl, hb1⟩
                        replace BV := BV.below hb1
                        replace BG := BG.below hb1
                        replace r1 := r1.below hb1
                        replace r2 := r2.below hb1
                        have hz1 := hb1.size
                        replace hb := chain hb hb1
                        clear hb1
                        obtain ⟨q0_BV, q1_BV, q2_BV, q3_BV, qf_BV, ql_BV⟩ := BV.four
                        obtain ⟨q0_BG, q1_BG, q2_BG, q3_BG, q4_BG, q5_BG, q6_BG, q7_BG, q8_BG, qf_BG, ql_BG⟩ := BG.nine
                        go_wp2_with fail
                        clear q0_BV q1_BV q2_BV q3_BV qf_BV ql_BV
                        clear q0_BG q1_BG q2_BG q3_BG q4_BG q5_BG q6_BG q7_BG q8_BG qf_BG ql_BG
                        refine (HI.out _ r1 r2).mono ?_
                        rintro e w2 ⟨rfl, hb2⟩
                        replace BV := BV.below hb2
                        replace BG := BG.below hb2
                        replace r1 := r1.below hb2
                        replace r2 := r2.below hb2
                        have hz2 := hb2.size
                        replace hb := chain hb hb2
                        clear hb2
                        obtain ⟨q0_BV, q1_BV, q2_BV, q3_BV, qf_BV, ql_BV⟩ := BV.four
                        obtain ⟨q0_BG, q1_BG, q2_BG, q3_BG, q4_BG, q5_BG, q6_BG, q7_BG, q8_BG, qf_BG, ql_BG⟩ := BG.nine
                        go_wp2_with fail
                        clear q0_BV q1_BV q2_BV q3_BV qf_BV ql_BV
                        clear q0_BG q1_BG q2_BG q3_BG q4_BG q5_BG q6_BG q7_BG q8_BG qf_BG ql_BG
                        refine (HP.out _).mono ?_
                        rintro e w3 ⟨rfl, hb3⟩
                        replace BV := BV.below hb3
                        replace BG := BG.below hb3
                        replace r1 := r1.below hb3
                        replace r2 := r2.below hb3
                        have hz3 := hb3.size
                        replace hb := chain hb hb3
                        clear hb3
                        obtain ⟨q0_BV, q1_BV, q2_BV, q3_BV, qf_BV, ql_BV⟩ := BV.four
                        obtain ⟨q0_BG, q1_BG, q2_BG, q3_BG, q4_BG, q5_BG, q6_BG, q7_BG, q8_BG, qf_BG, ql_BG⟩ := BG.nine
                        go_wp2_with fail
                        clear q0_BV q1_BV q2_BV q3_BV qf_BV ql_BV
                        clear q0_BG q1_BG q2_BG q3_BG q4_BG q5_BG q6_BG q7_BG q8_BG qf_BG ql_BG
                        refine (HT.out _).mono ?_
                        rintro e w4 ⟨rfl, hb4⟩
                        replace BV := BV.below hb4
                        replace BG := BG.below hb4
                        replace r1 := r1.below hb4
                        replace r2 := r2.below hb4
                        have hz4 := hb4.size
                        replace hb := chain hb hb4
                        clear hb4
                        obtain ⟨q0_BV, q1_BV, q2_BV, q3_BV, qf_BV, ql_BV⟩ := BV.four
                        obtain ⟨q0_BG, q1_BG, q2_BG, q3_BG, q4_BG, q5_BG, q6_BG, q7_BG, q8_BG, qf_BG, ql_BG⟩ := BG.nine
                        go_wp2_with fail
                        clear q0_BV q1_BV q2_BV q3_BV qf_BV ql_BV
                        clear q0_BG q1_BG q2_BG q3_BG q4_BG q5_BG q6_BG q7_BG q8_BG qf_BG ql_BG
                        refine (HO.out (by simp) _ r1 r2).mono ?_
                        rintro e w5 ⟨rfl, hb5⟩
                        replace BV := BV.below hb5
                        replace BG := BG.below hb5
                        replace r1 := r1.below hb5
                        replace r2 := r2.below hb5
                        have hz5 := hb5.size
                        replace hb := chain hb hb5
                        clear hb5
                        obtain ⟨q0_BV, q1_BV, q2_BV, q3_BV, qf_BV, ql_BV⟩ := BV.four
                        obtain ⟨q0_BG, q1_BG, q2_BG, q3_BG, q4_BG, q5_BG, q6_BG, q7_BG, q8_BG, qf_BG, ql_BG⟩ := BG.nine
                        go_wp2_with fail
                        go_ret
                        exact ⟨rfl, hb⟩
                · have f_eb : (rb == 0) = false := by rw [beq_eq_false_iff_ne]; exact eb
                  rw [f_eb]
                  clear eb
                  (try simp only [Bool.false_and, Bool.true_and, Bool.and_false, Bool.and_true, Bool.not_true, Bool.not_false])
                  go_enter Try.func91, Try.ntmps91
                  obtain ⟨x0, x1, x2, x3, xf, xl⟩ := BV.four
                  obtain ⟨ga0, ga1, ga2, ga3, ga4, ga5, ga6, ga7, ga8, gaf, gal⟩ := BG.nine
                  go_wp2_with fail
                  clear x0 x1 x2 x3 xf xl
                  clear ga0 ga1 ga2 ga3 ga4 ga5 ga6 ga7 ga8 gaf gal
                  generalize ((w.alloc (.cells #[.int .i64 p, .int .i64 c, .int .i64 h, .int .i64 s] 32)).alloc (.cells #[.slice a1 n1 c1, .slice a2 n2 c2, .int .i64 pl, .int .i64 ra, .int .i64 rb, .int .i64 ph, .int .i64 wi, .int .i64 re, .int .i64 tu] 70)) = v0 at *
                  obtain ⟨q0_BV, q1_BV, q2_BV, q3_BV, qf_BV, ql_BV⟩ := BV.four
                  obtain ⟨q0_BG, q1_BG, q2_BG, q3_BG, q4_BG, q5_BG, q6_BG, q7_BG, q8_BG, qf_BG, ql_BG⟩ := BG.nine
                  go_wp2_with fail
                  clear q0_BV q1_BV q2_BV q3_BV qf_BV ql_BV
                  clear q0_BG q1_BG q2_BG q3_BG q4_BG q5_BG q6_BG q7_BG q8_BG qf_BG ql_BG
                  refine (HV.out _).mono ?_
                  rintro e w1 ⟨rfl, hb1⟩
                  replace BV := BV.below hb1
                  replace BG := BG.below hb1
                  replace r1 := r1.below hb1
                  replace r2 := r2.below hb1
                  have hz1 := hb1.size
                  replace hb := chain hb hb1
                  clear hb1
                  obtain ⟨q0_BV, q1_BV, q2_BV, q3_BV, qf_BV, ql_BV⟩ := BV.four
                  obtain ⟨q0_BG, q1_BG, q2_BG, q3_BG, q4_BG, q5_BG, q6_BG, q7_BG, q8_BG, qf_BG, ql_BG⟩ := BG.nine
                  go_wp2_with fail
                  clear q0_BV q1_BV q2_BV q3_BV qf_BV ql_BV
                  clear q0_BG q1_BG q2_BG q3_BG q4_BG q5_BG q6_BG q7_BG q8_BG qf_BG ql_BG
                  refine (HI.out _ r1 r2).mono ?_
                  rintro e w2 ⟨rfl, hb2⟩
                  replace BV := BV.below hb2
                  replace BG := BG.below hb2
                  replace r1 := r1.below hb2
                  replace r2 := r2.below hb2
                  have hz2 := hb2.size
                  replace hb := chain hb hb2
                  clear hb2
                  obtain ⟨q0_BV, q1_BV, q2_BV, q3_BV, qf_BV, ql_BV⟩ := BV.four
                  obtain ⟨q0_BG, q1_BG, q2_BG, q3_BG, q4_BG, q5_BG, q6_BG, q7_BG, q8_BG, qf_BG, ql_BG⟩ := BG.nine
                  go_wp2_with fail
                  clear q0_BV q1_BV q2_BV q3_BV qf_BV ql_BV
                  clear q0_BG q1_BG q2_BG q3_BG q4_BG q5_BG q6_BG q7_BG q8_BG qf_BG ql_BG
                  refine (HP.out _).mono ?_
                  rintro e w3 ⟨rfl, hb3⟩
                  replace BV := BV.below hb3
                  replace BG := BG.below hb3
                  replace r1 := r1.below hb3
                  replace r2 := r2.below hb3
                  have hz3 := hb3.size
                  replace hb := chain hb hb3
                  clear hb3
                  obtain ⟨q0_BV, q1_BV, q2_BV, q3_BV, qf_BV, ql_BV⟩ := BV.four
                  obtain ⟨q0_BG, q1_BG, q2_BG, q3_BG, q4_BG, q5_BG, q6_BG, q7_BG, q8_BG, qf_BG, ql_BG⟩ := BG.nine
                  go_wp2_with fail
                  clear q0_BV q1_BV q2_BV q3_BV qf_BV ql_BV
                  clear q0_BG q1_BG q2_BG q3_BG q4_BG q5_BG q6_BG q7_BG q8_BG qf_BG ql_BG
                  refine (HT.out _).mono ?_
                  rintro e w4 ⟨rfl, hb4⟩
                  replace BV := BV.below hb4
                  replace BG := BG.below hb4
                  replace r1 := r1.below hb4
                  replace r2 := r2.below hb4
                  have hz4 := hb4.size
                  replace hb := chain hb hb4
                  clear hb4
                  obtain ⟨q0_BV, q1_BV, q2_BV, q3_BV, qf_BV, ql_BV⟩ := BV.four
                  obtain ⟨q0_BG, q1_BG, q2_BG, q3_BG, q4_BG, q5_BG, q6_BG, q7_BG, q8_BG, qf_BG, ql_BG⟩ := BG.nine
                  go_wp2_with fail
                  go_ret
                  exact ⟨rfl, hb⟩
              · have f_ea : (ra == 0) = false := by rw [beq_eq_false_iff_ne]; exact ea
                rw [f_ea]
                clear ea
                (try simp only [Bool.false_and, Bool.true_and, Bool.and_false, Bool.and_true, Bool.not_true, Bool.not_false])
                go_enter Try.func91, Try.ntmps91
                obtain ⟨x0, x1, x2, x3, xf, xl⟩ := BV.four
                obtain ⟨ga0, ga1, ga2, ga3, ga4, ga5, ga6, ga7, ga8, gaf, gal⟩ := BG.nine
                go_wp2_with fail
                clear x0 x1 x2 x3 xf xl
                clear ga0 ga1 ga2 ga3 ga4 ga5 ga6 ga7 ga8 gaf gal
                generalize ((w.alloc (.cells #[.int .i64 p, .int .i64 c, .int .i64 h, .int .i64 s] 32)).alloc (.cells #[.slice a1 n1 c1, .slice a2 n2 c2, .int .i64 pl, .int .i64 ra, .int .i64 rb, .int .i64 ph, .int .i64 wi, .int .i64 re, .int .i64 tu] 70)) = v0 at *
                obtain ⟨q0_BV, q1_BV, q2_BV, q3_BV, qf_BV, ql_BV⟩ := BV.four
                obtain ⟨q0_BG, q1_BG, q2_BG, q3_BG, q4_BG, q5_BG, q6_BG, q7_BG, q8_BG, qf_BG, ql_BG⟩ := BG.nine
                go_wp2_with fail
                clear q0_BV q1_BV q2_BV q3_BV qf_BV ql_BV
                clear q0_BG q1_BG q2_BG q3_BG q4_BG q5_BG q6_BG q7_BG q8_BG qf_BG ql_BG
                refine (HV.out _).mono ?_
                rintro e w1 ⟨rfl, hb1⟩
                replace BV := BV.below hb1
                replace BG := BG.below hb1
                replace r1 := r1.below hb1
                replace r2 := r2.below hb1
                have hz1 := hb1.size
                replace hb := chain hb hb1
                clear hb1
                obtain ⟨q0_BV, q1_BV, q2_BV, q3_BV, qf_BV, ql_BV⟩ := BV.four
                obtain ⟨q0_BG, q1_BG, q2_BG, q3_BG, q4_BG, q5_BG, q6_BG, q7_BG, q8_BG, qf_BG, ql_BG⟩ := BG.nine
                go_wp2_with fail
                clear q0_BV q1_BV q2_BV q3_BV qf_BV ql_BV
                clear q0_BG q1_BG q2_BG q3_BG q4_BG q5_BG q6_BG q7_BG q8_BG qf_BG ql_BG
                refine (HI.out _ r1 r2).mono ?_
                rintro e w2 ⟨rfl, hb2⟩
                replace BV := BV.below hb2
                replace BG := BG.below hb2
                replace r1 := r1.below hb2
                replace r2 := r2.below hb2
                have hz2 := hb2.size
                replace hb := chain hb hb2
                clear hb2
                obtain ⟨q0_BV, q1_BV, q2_BV, q3_BV, qf_BV, ql_BV⟩ := BV.four
                obtain ⟨q0_BG, q1_BG, q2_BG, q3_BG, q4_BG, q5_BG, q6_BG, q7_BG, q8_BG, qf_BG, ql_BG⟩ := BG.nine
                go_wp2_with fail
                clear q0_BV q1_BV q2_BV q3_BV qf_BV ql_BV
                clear q0_BG q1_BG q2_BG q3_BG q4_BG q5_BG q6_BG q7_BG q8_BG qf_BG ql_BG
                refine (HP.out _).mono ?_
                rintro e w3 ⟨rfl, hb3⟩
                replace BV := BV.below hb3
                replace BG := BG.below hb3
                replace r1 := r1.below hb3
                replace r2 := r2.below hb3
                have hz3 := hb3.size
                replace hb := chain hb hb3
                clear hb3
                obtain ⟨q0_BV, q1_BV, q2_BV, q3_BV, qf_BV, ql_BV⟩ := BV.four
                obtain ⟨q0_BG, q1_BG, q2_BG, q3_BG, q4_BG, q5_BG, q6_BG, q7_BG, q8_BG, qf_BG, ql_BG⟩ := BG.nine
                go_wp2_with fail
                clear q0_BV q1_BV q2_BV q3_BV qf_BV ql_BV
                clear q0_BG q1_BG q2_BG q3_BG q4_BG q5_BG q6_BG q7_BG q8_BG qf_BG ql_BG
                refine (HT.out _).mono ?_
                rintro e w4 ⟨rfl, hb4⟩
                replace BV := BV.below hb4
                replace BG := BG.below hb4
                replace r1 := r1.below hb4
                replace r2 := r2.below hb4
                have hz4 := hb4.size
                replace hb := chain hb hb4
                clear hb4
                obtain ⟨q0_BV, q1_BV, q2_BV, q3_BV, qf_BV, ql_BV⟩ := BV.four
                obtain ⟨q0_BG, q1_BG, q2_BG, q3_BG, q4_BG, q5_BG, q6_BG, q7_BG, q8_BG, qf_BG, ql_BG⟩ := BG.nine
                go_wp2_with fail
                go_ret
                exact ⟨rfl, hb⟩
    · have f4 : decide (4 ≤ p) = false := by simpa using q4
      have g4 : decide (p < 4) = true := by rw [decide_eq_true_eq]; omega
      rw [f4]
      (try simp only [Bool.false_and, Bool.true_and, Bool.and_false, Bool.and_true, Bool.not_true, Bool.not_false])
      go_enter Try.func91, Try.ntmps91
      obtain ⟨x0, x1, x2, x3, xf, xl⟩ := BV.four
      obtain ⟨ga0, ga1, ga2, ga3, ga4, ga5, ga6, ga7, ga8, gaf, gal⟩ := BG.nine
      go_wp2_with fail
      clear x0 x1 x2 x3 xf xl
      clear ga0 ga1 ga2 ga3 ga4 ga5 ga6 ga7 ga8 gaf gal
      generalize ((w.alloc (.cells #[.int .i64 p, .int .i64 c, .int .i64 h, .int .i64 s] 32)).alloc (.cells #[.slice a1 n1 c1, .slice a2 n2 c2, .int .i64 pl, .int .i64 ra, .int .i64 rb, .int .i64 ph, .int .i64 wi, .int .i64 re, .int .i64 tu] 70)) = v0 at *
      obtain ⟨q0_BV, q1_BV, q2_BV, q3_BV, qf_BV, ql_BV⟩ := BV.four
      obtain ⟨q0_BG, q1_BG, q2_BG, q3_BG, q4_BG, q5_BG, q6_BG, q7_BG, q8_BG, qf_BG, ql_BG⟩ := BG.nine
      go_wp2_with fail
      clear q0_BV q1_BV q2_BV q3_BV qf_BV ql_BV
      clear q0_BG q1_BG q2_BG q3_BG q4_BG q5_BG q6_BG q7_BG q8_BG qf_BG ql_BG
      refine (HV.out _).mono ?_
      rintro e w1 ⟨rfl, hb1⟩
      replace BV := BV.below hb1
      replace BG := BG.below hb1
      replace r1 := r1.below hb1
      replace r2 := r2.below hb1
      have hz1 := hb1.size
      replace hb := chain hb hb1
      clear hb1
      obtain ⟨q0_BV, q1_BV, q2_BV, q3_BV, qf_BV, ql_BV⟩ := BV.four
      obtain ⟨q0_BG, q1_BG, q2_BG, q3_BG, q4_BG, q5_BG, q6_BG, q7_BG, q8_BG, qf_BG, ql_BG⟩ := BG.nine
      go_wp2_with fail
      go_ret
      exact ⟨rfl, hb⟩
end Go.Proofs.Ytokjkcnjmfbfiaa
