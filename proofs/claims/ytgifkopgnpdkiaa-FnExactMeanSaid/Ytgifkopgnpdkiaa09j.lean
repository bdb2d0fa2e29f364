/- Contracts of the program's products and sums of exact numbers. -/
import Derived.Test.Ytgifkopgnpdkiaa09f
import Derived.Test.Ytgifkopgnpdkiaa09g
namespace Go.Proofs.Ytgifkopgnpdkiaa
open Go.ChangeShapes Go.WideShapes Go.ChangeAt Go.RowKit
set_option linter.unusedVariables false
set_option linter.unusedSimpArgs false

theorem ngB_mul {a b : Int} (h : a * b ≠ 0) : ngB a b = decide (a * b < 0) := by
  have ha : a ≠ 0 := fun e => h (by rw [e, Int.zero_mul])
  have hb : b ≠ 0 := fun e => h (by rw [e, Int.mul_zero])
  unfold ngB
  by_cases ga : a < 0
  · by_cases gb : b < 0
    · have := Int.mul_pos_of_neg_of_neg ga gb
      rw [decide_eq_true ga, decide_eq_true gb, decide_eq_false (by omega)]
      rfl
    · have := Int.mul_neg_of_neg_of_pos ga (show 0 < b by omega)
      rw [decide_eq_true ga, decide_eq_false gb, decide_eq_true this]
      rfl
  · by_cases gb : b < 0
    · have := Int.mul_neg_of_pos_of_neg (show 0 < a by omega) gb
      rw [decide_eq_false ga, decide_eq_true gb, decide_eq_true this]
      rfl
    · have := Int.mul_pos (show 0 < a by omega) (show 0 < b by omega)
      rw [decide_eq_false ga, decide_eq_false gb, decide_eq_false (by omega)]
      rfl
theorem rdN_zero (B : Nat) : ∀ D, (rdN B 0 D).1 = 0
  | 0 => rfl
  | D + 1 => by rw [rdN_go (Nat.zero_mod _), Nat.zero_div, rdN_zero B D]
theorem rdG_sign {S : Nat} {g : Bool} {N : Int} {D : Nat} (h : N ≠ 0 → g = decide (N < 0)) : rdG S g N.natAbs D = rdX S N D := by
  unfold rdG rdX
  have e : sgM g (rdN (S * S) N.natAbs D).1 = sgI N (rdN (S * S) N.natAbs D).1 := by
    by_cases h0 : N = 0
    · subst h0
      rw [Int.natAbs_zero, rdN_zero]
      unfold sgM sgI
      cases g <;> rfl
    · rw [h h0]
      unfold sgM sgI
      by_cases q : N < 0
      · rw [decide_eq_true q, if_pos rfl, if_pos q]
      · rw [decide_eq_false q, if_neg q]; rfl
  rw [e]
theorem rdG_mul (S : Nat) (a b : Int) (D : Nat) : rdG S (ngB a b) (a.natAbs * b.natAbs) D = rdX S (a * b) D := by
  rw [← Int.natAbs_mul]
  exact rdG_sign ngB_mul
theorem sgM_mul (a b : Int) : sgM (ngB a b) (a.natAbs * b.natAbs) = a * b := by
  rw [← Int.natAbs_mul]
  unfold sgM
  by_cases h : a * b = 0
  · rw [h]; cases ngB a b <;> rfl
  · rw [ngB_mul h]
    by_cases q : a * b < 0
    · rw [decide_eq_true q, if_pos rfl]; omega
    · rw [decide_eq_false q, if_neg (by simp)]; omega
/-- A number that a function hands back, with its code. -/
def xo3 (o : Option (Int × Int)) (c : Int) : Int × Int × Int := match o with | some r => (r.1, r.2, 0) | none => (0, 0, c)
theorem xo3_1 (o : Option (Int × Int)) (c : Int) : xoN o = (xo3 o c).1 := by cases o <;> rfl
theorem xo3_2 (o : Option (Int × Int)) (c : Int) : xoD o = (xo3 o c).2.1 := by cases o <;> rfl
theorem xo3_3 (o : Option (Int × Int)) (c : Int) : xoE o c = (xo3 o c).2.2 := by cases o <;> rfl
abbrev xoV (r : Int × Int × Int) : Value := .tuple #[.agg #[.int .i64 r.1, .int .i64 r.2.1], .int .i64 r.2.2]
theorem product_reduced (b S : Nat) (hS : 1 ≤ S ∧ S ≤ 6) (x k : Int) (D : Nat) (hD : D ≤ nn S) (W : World) (hh ll : Int) (HS : ScM W b S (nn S)) (HWD : WD hh ll (x.natAbs * k.natAbs)) :
    Calls Try.prog 45 #[.map (some b), .agg #[.bool (ngB x k), .int .u64 hh, .int .u64 ll], .int .i64 (D : Int)] W fun e w' => e = .returned (xoV (xo3 (rdX S (x * k) D) 3)) ∧ Below W.heap.size W w' := by
  have h := reduced_any b S hS (ngB x k) hh ll (x.natAbs * k.natAbs) D W HS HWD hD
  rw [rdG_mul, xo3_1 _ 3, xo3_2 _ 3, xo3_3] at h
  exact h
set_option maxRecDepth 8000 in
set_option maxHeartbeats 2000000 in
theorem scaled_any (b S : Nat) (hS : 1 ≤ S ∧ S ≤ 6) (xn k : Int) (D : Nat) (hx : -1000000000000000000 ≤ xn ∧ xn ≤ 1000000000000000000) (hk : -1000 ≤ k ∧ k ≤ 1000) (hD : D ≤ nn S) (w : World) (HS : ScM w b S (nn S)) :
    Calls Try.prog 51 #[.map (some b), .agg #[.int .i64 xn, .int .i64 (D : Int)], .int .i64 k] w fun e w' => e = .returned (xoV (xo3 (rdX S (xn * k) D) 3)) ∧ Below w.heap.size w w' := by
  obtain ⟨BX, BO, hb, hz⟩ := two_new w #[.int .i64 xn, .int .i64 (D : Int)] #[.int .i64 0, .int .i64 0] 29 29
  replace HS := HS.below hb
  have hp := fun W => product_any xn k (by omega) (by omega) W
  have hr := fun W hh ll (H : ScM W b S (nn S)) (HW : WD hh ll (xn.natAbs * k.natAbs)) => product_reduced b S hS xn k D hD W hh ll H HW
  obtain ⟨⟨r1, r2, r3⟩, hv⟩ : ∃ r, xo3 (rdX S (xn * k) D) 3 = r := ⟨_, rfl⟩
  rw [hv] at hr
  rw [hv]
  dsimp only [xoV] at hr ⊢
  have HP := Lib.hid hp
  have HR := Lib.hid hr
  clear hp hr hv hS hx hk hD
  obtain ⟨x0, x1, xf, xl⟩ := BX.two
  obtain ⟨z0, z1, zf, zl⟩ := BO.two
  go_enter Try.func51, Try.ntmps51
  go_wp2_with fail
  clear x0 x1 xf xl z0 z1 zf zl
  generalize ((w.alloc (.cells #[.int .i64 xn, .int .i64 (D : Int)] 29)).alloc (.cells #[.int .i64 0, .int .i64 0] 29)) = v0 at *
  have hd_ : v0.drew.heap.size = v0.heap.size := rfl
  replace BX := BX.drew
  replace BO := BO.drew
  replace HS := HS.drew
  replace hb := hb.drew
  refine wp_region_held_drew (S := fun w' => w'.cell? ⟨w.heap.size, 0, none⟩ = some (.int .i64 xn) ∧ w'.cell? ⟨w.heap.size, 1, none⟩ = some (.int .i64 (D : Int))) (by kernel_rfl) ⟨BX.two.1, BX.two.2.1⟩ (fun hHeld => ?_)
  clear hHeld
  generalize v0.drew = vd at *
  have hHeld : vd.cell? ⟨w.heap.size, 0, none⟩ = some (.int .i64 xn) ∧ vd.cell? ⟨w.heap.size, 1, none⟩ = some (.int .i64 (D : Int)) := ⟨BX.two.1, BX.two.2.1⟩
  refine wpAnyH_take (i := 0) (oi := { dst := some 8, op := _, type := _, pos := _, after := _, guard := _ }) (v := ?_) rfl (by kernel_rfl) (by kernel_rfl) (by kernel_rfl) (fun _ _ _ h => h) (Or.inl ⟨by rfl, ?_⟩) (by assumption) ?_
  rotate_left
  · intro w hSw
    (try dsimp only at hSw)
    go_simp
    (try (with_reducible rfl))
  try simp only [Act.put, List.setIfInBounds_toArray, List.set_cons_zero, List.set_cons_succ]
  refine wpAnyH_take (i := 1) (oi := { dst := some 9, op := _, type := _, pos := _, after := _, guard := _ }) (v := ?_) rfl (by kernel_rfl) (by kernel_rfl) (by kernel_rfl) (fun _ _ _ h => h) (Or.inl ⟨by rfl, ?_⟩) (by assumption) ?_
  rotate_left
  · intro w hSw
    (try dsimp only at hSw)
    go_simp
    (try (with_reducible rfl))
  try simp only [Act.put, List.setIfInBounds_toArray, List.set_cons_zero, List.set_cons_succ]
  refine wpAnyH_take (i := 2) (oi := { dst := some 10, op := _, type := _, pos := _, after := _, guard := _ }) (v := ?_) rfl (by kernel_rfl) (by kernel_rfl) (by kernel_rfl) (fun _ _ _ h => h) (Or.inl ⟨by rfl, ?_⟩) (by assumption) ?_
  rotate_left
  · intro w hSw
    (try dsimp only at hSw)
    go_simp
    (try (with_reducible rfl))
  try simp only [Act.put, List.setIfInBounds_toArray, List.set_cons_zero, List.set_cons_succ]
  refine wpAnyH_take (i := 3) (oi := { dst := some 11, op := _, type := _, pos := _, after := _, guard := _ }) (v := ?_) rfl (by kernel_rfl) (by kernel_rfl) (by kernel_rfl) (fun _ _ _ h => h) (Or.inl ⟨by rfl, ?_⟩) (by assumption) ?_
  rotate_left
  · intro w hSw
    (try dsimp only at hSw)
    go_simp
    (try (with_reducible rfl))
  try simp only [Act.put, List.setIfInBounds_toArray, List.set_cons_zero, List.set_cons_succ]
  refine wpAnyH_take (i := 5) (oi := { dst := some 13, op := _, type := _, pos := _, after := _, guard := _ }) (v := ?_) rfl (by kernel_rfl) (by kernel_rfl) (by kernel_rfl) (fun _ _ _ h => h) (Or.inl ⟨by rfl, ?_⟩) (by assumption) ?_
  rotate_left
  · intro w hSw
    (try dsimp only at hSw)
    go_simp
    (try (with_reducible rfl))
  try simp only [Act.put, List.setIfInBounds_toArray, List.set_cons_zero, List.set_cons_succ]
  refine wpAnyH_take (i := 6) (oi := { dst := some 14, op := _, type := _, pos := _, after := _, guard := _ }) (v := ?_) rfl (by kernel_rfl) (by kernel_rfl) (by kernel_rfl) (fun _ _ _ h => h) (Or.inl ⟨by rfl, ?_⟩) (by assumption) ?_
  rotate_left
  · intro w hSw
    (try dsimp only at hSw)
    go_simp
    (try (with_reducible rfl))
  try simp only [Act.put, List.setIfInBounds_toArray, List.set_cons_zero, List.set_cons_succ]
  refine wpAnyH_ready (rs := [4]) (by kernel_rfl) (by simp) ?_
  refine AllReadyH.cons (o := { dst := some 12, op := _, type := _, pos := _, after := _, guard := _ }) rfl (fun K hK => ?_) AllReadyH.nil
  go_simp
  refine (HP.out _).mono ?_
  rintro e w2 ⟨hh, ll, rfl, HWD, hb2⟩
  replace BX := BX.below hb2
  replace BO := BO.below hb2
  replace HS := HS.below hb2
  replace hb := chain hb hb2
  clear hb2
  (try go_wp2_with fail)
  refine hK.out _ _ ⟨BX.two.1, BX.two.2.1⟩ (fun hHeld => ?_)
  clear hK K
  try simp only [Act.put, List.setIfInBounds_toArray, List.set_cons_zero, List.set_cons_succ]
  refine wpAnyH_ready (rs := [7]) (by kernel_rfl) (by simp) ?_
  refine AllReadyH.cons (o := { dst := some 15, op := _, type := _, pos := _, after := _, guard := _ }) rfl (fun K hK => ?_) AllReadyH.nil
  go_simp
  refine (HR.out _ _ _ HS HWD).mono ?_
  rintro e w3 ⟨rfl, hb3⟩
  replace BX := BX.below hb3
  replace BO := BO.below hb3
  replace HS := HS.below hb3
  replace hb := chain hb hb3
  clear hb3
  (try go_wp2_with fail)
  refine hK.out _ _ ⟨BX.two.1, BX.two.2.1⟩ (fun hHeld => ?_)
  clear hK K
  try simp only [Act.put, List.setIfInBounds_toArray, List.set_cons_zero, List.set_cons_succ]
  refine wpAnyH_take (i := 8) (oi := { dst := some 16, op := _, type := _, pos := _, after := _, guard := _ }) (v := ?_) rfl (by kernel_rfl) (by kernel_rfl) (by kernel_rfl) (fun _ _ _ h => h) (Or.inl ⟨by rfl, ?_⟩) (by assumption) ?_
  rotate_left
  · intro w hSw
    (try dsimp only at hSw)
    go_simp
    (try (with_reducible rfl))
  try simp only [Act.put, List.setIfInBounds_toArray, List.set_cons_zero, List.set_cons_succ]
  refine wpAnyH_take (i := 9) (oi := { dst := some 17, op := _, type := _, pos := _, after := _, guard := _ }) (v := ?_) rfl (by kernel_rfl) (by kernel_rfl) (by kernel_rfl) (fun _ _ _ h => h) (Or.inl ⟨by rfl, ?_⟩) (by assumption) ?_
  rotate_left
  · intro w hSw
    (try dsimp only at hSw)
    go_simp
    (try (with_reducible rfl))
  try simp only [Act.put, List.setIfInBounds_toArray, List.set_cons_zero, List.set_cons_succ]
  refine wpAnyH_ready (rs := [10]) (by kernel_rfl) (by simp) ?_
  refine AllReadyH.cons (o := { dst := none, op := _, type := _, pos := _, after := _, guard := _ }) rfl (fun K hK => ?_) AllReadyH.nil
  obtain ⟨u0, u1, uf, ul⟩ := BO.two
  go_simp
  (try go_wp2_with fail)
  refine hK.out _ _ ⟨(BX.far2 (B := w.heap.size + 1) (by omega) (.int .i64 r1) (.int .i64 r2)).two.1, (BX.far2 (B := w.heap.size + 1) (by omega) (.int .i64 r1) (.int .i64 r2)).two.2.1⟩ (fun hHeld => ?_)
  clear hK K
  try simp only [Act.put, List.setIfInBounds_toArray, List.set_cons_zero, List.set_cons_succ]
  refine wpAnyH_take (i := 11) (oi := { dst := some 7, op := _, type := _, pos := _, after := _, guard := _ }) (v := ?_) rfl (by kernel_rfl) (by kernel_rfl) (by kernel_rfl) (fun _ _ _ h => h) (Or.inl ⟨by rfl, ?_⟩) (by assumption) ?_
  rotate_left
  · intro w hSw
    (try dsimp only at hSw)
    go_simp
    (try (with_reducible rfl))
  try simp only [Act.put, List.setIfInBounds_toArray, List.set_cons_zero, List.set_cons_succ]
  refine wpAnyH_done (by kernel_rfl) ?_ _
  clear hHeld
  have BRn := BO.set2 (.int .i64 r1) (.int .i64 r2)
  obtain ⟨u0, u1, uf, ul⟩ := BRn.two
  go_wp2_with fail
  refine bodyPost_ret (v := .tuple #[.agg #[.int .i64 r1, .int .i64 r2], .int .i64 r3]) (by simp [results, Try.results51, go_sem, u0, u1]) rfl ?_
  exact ⟨rfl, belowFar2 hb (by omega) _ _⟩
end Go.Proofs.Ytgifkopgnpdkiaa
