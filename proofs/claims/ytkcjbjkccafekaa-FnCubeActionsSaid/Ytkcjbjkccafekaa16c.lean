/- Contracts of the program on possible actions. -/
import Derived.Test.Ytkcjbjkccafekaa16b
namespace Go.Proofs.Ytkcjbjkccafekaa
open Go.ChangeShapes Go.WideShapes Go.ChangeAt Go.RowKit
set_option linter.unusedVariables false
set_option linter.unusedSimpArgs false
set_option maxRecDepth 4000

theorem posB_0 (m : Int) (be : Bool) (v o : Int) : posB m be v o 0 = true := by simp [posB]
theorem posB_1 (m : Int) (be : Bool) (v o : Int) : posB m be v o 1 = mayB m v o 1 := by simp [posB]
theorem posB_2 (m : Int) (be : Bool) (v o : Int) : posB m be v o 2 = mayB m v o 1 := by simp [posB]
theorem posB_3 (m : Int) (be : Bool) (v o : Int) : posB m be v o 3 = (be && mayB m v o 2) := by simp [posB, dbN]
theorem posB_4 (m : Int) (be : Bool) (v o : Int) : posB m be v o 4 = (be && mayB m v o 3) := by simp [posB, dbN]
theorem posB_else (m : Int) (be : Bool) (v o : Int) {a : Int} (h0 : a ≠ 0) (h1 : a ≠ 1) (h2 : a ≠ 2) (h3 : a ≠ 3) (h4 : a ≠ 4) : posB m be v o a = false := by simp [posB, *]
theorem field_cube (u0 u1 : Value) (w : World) : (Instr.field 27 (.agg #[u0, u1]) 0).run Try.prog w = .ok u0 w := by kernel_rfl
set_option maxRecDepth 8000 in
set_option maxHeartbeats 1000000 in
theorem mayTurn_any (m v o : Int) (be ja : Bool) (k : Nat) (K : Int) (w : World) (hK : K = (k : Int)) (hk : k ≤ 3) (hv : 1 ≤ v ∧ v ≤ 1024) :
    Calls Try.prog 58 #[.agg #[.int .i64 m, .bool be, .bool ja], .agg #[.int .i64 v, .int .i64 o], .int .i64 K] w fun e w' => e = .returned (.bool (mayB m v o k)) ∧ Below w.heap.size w w' := by
  have ht := fun W => turned_any v o k W hk hv
  have hfl := fun (u0 u1 : Value) (W : World) => field_cube u0 u1 W
  rw [← hK] at ht
  unfold mayB
  obtain ⟨BR, BC, hb, hz⟩ := two_new w #[.int .i64 m, .bool be, .bool ja] #[.int .i64 v, .int .i64 o] 25 27
  clear hz
  obtain ⟨T, hT⟩ : ∃ T, v * p2 k = T := ⟨_, rfl⟩
  rw [hT] at ht ⊢
  have HT := Lib.hid ht
  clear ht hT hK hk hv
  by_cases ho : o = 2
  · have f0 : (o != 2) = false := by rw [ho]; rfl
    rw [decide_eq_false (show ¬ o ≠ 2 from fun q => q ho), Bool.false_and]
    clear ho
    go_enter Try.func58, Try.ntmps58
    obtain ⟨x0, x1, x2, xf, xl⟩ := BR.t3
    obtain ⟨u0, u1, uf, ul⟩ := BC.two
    go_wp2_with fail
    clear x0 x1 x2 xf xl u0 u1 uf ul
    generalize ((w.alloc (.cells #[.int .i64 m, .bool be, .bool ja] 25)).alloc (.cells #[.int .i64 v, .int .i64 o] 27)) = v0 at *
    have hd_ : v0.drew.heap.size = v0.heap.size := rfl
    replace BR := BR.drew
    replace BC := BC.drew
    replace hb := hb.drew
    refine wp_region_held_drew (S := fun w' => w'.cell? ⟨w.heap.size, 0, none⟩ = some (.int .i64 m) ∧ w'.cell? ⟨w.heap.size, 1, none⟩ = some (.bool be) ∧ w'.cell? ⟨w.heap.size, 2, none⟩ = some (.bool ja) ∧ w'.cell? ⟨(w.heap.size + 1), 0, none⟩ = some (.int .i64 v) ∧ w'.cell? ⟨(w.heap.size + 1), 1, none⟩ = some (.int .i64 o)) (by kernel_rfl) ⟨BR.t3.1, BR.t3.2.1, BR.t3.2.2.1, BC.two.1, BC.two.2.1⟩ (fun hHeld => ?_)
    clear hHeld
    generalize v0.drew = vd at *
    have hHeld : vd.cell? ⟨w.heap.size, 0, none⟩ = some (.int .i64 m) ∧ vd.cell? ⟨w.heap.size, 1, none⟩ = some (.bool be) ∧ vd.cell? ⟨w.heap.size, 2, none⟩ = some (.bool ja) ∧ vd.cell? ⟨(w.heap.size + 1), 0, none⟩ = some (.int .i64 v) ∧ vd.cell? ⟨(w.heap.size + 1), 1, none⟩ = some (.int .i64 o) := ⟨BR.t3.1, BR.t3.2.1, BR.t3.2.2.1, BC.two.1, BC.two.2.1⟩
    refine tk 0 7 ?_
    refine tk 1 8 ?_
    refine tk 2 9 ?_
    refine tk 3 10 ?_
    refine tkv 4 11 ?_
    refine tkv 5 12 ?_
    refine tkv 6 13 ?_
    refine tkv 7 14 ?_
    refine tkv 8 15 ?_
    refine tkv 9 16 ?_
    refine tkv 10 17 ?_
    refine tk 11 18 ?_
    refine tk 12 6 ?_
    refine wpAnyH_done (by kernel_rfl) ?_ _
    clear hHeld
    go_wp2_with fail
    go_ret
    exact ⟨rfl, hb⟩
  · have f0 : (o != 2) = true := by simpa using ho
    rw [decide_eq_true (show o ≠ 2 from ho), Bool.true_and]
    clear ho
    by_cases g : T ≤ m
    · have f1 : decide (T ≤ m) = true := decide_eq_true g
      rw [f1]
      clear g
      go_enter Try.func58, Try.ntmps58
      obtain ⟨x0, x1, x2, xf, xl⟩ := BR.t3
      obtain ⟨u0, u1, uf, ul⟩ := BC.two
      go_wp2_with fail
      clear x0 x1 x2 xf xl u0 u1 uf ul
      generalize ((w.alloc (.cells #[.int .i64 m, .bool be, .bool ja] 25)).alloc (.cells #[.int .i64 v, .int .i64 o] 27)) = v0 at *
      have hd_ : v0.drew.heap.size = v0.heap.size := rfl
      replace BR := BR.drew
      replace BC := BC.drew
      replace hb := hb.drew
      refine wp_region_held_drew (S := fun w' => w'.cell? ⟨w.heap.size, 0, none⟩ = some (.int .i64 m) ∧ w'.cell? ⟨w.heap.size, 1, none⟩ = some (.bool be) ∧ w'.cell? ⟨w.heap.size, 2, none⟩ = some (.bool ja) ∧ w'.cell? ⟨(w.heap.size + 1), 0, none⟩ = some (.int .i64 v) ∧ w'.cell? ⟨(w.heap.size + 1), 1, none⟩ = some (.int .i64 o)) (by kernel_rfl) ⟨BR.t3.1, BR.t3.2.1, BR.t3.2.2.1, BC.two.1, BC.two.2.1⟩ (fun hHeld => ?_)
      clear hHeld
      generalize v0.drew = vd at *
      have hHeld : vd.cell? ⟨w.heap.size, 0, none⟩ = some (.int .i64 m) ∧ vd.cell? ⟨w.heap.size, 1, none⟩ = some (.bool be) ∧ vd.cell? ⟨w.heap.size, 2, none⟩ = some (.bool ja) ∧ vd.cell? ⟨(w.heap.size + 1), 0, none⟩ = some (.int .i64 v) ∧ vd.cell? ⟨(w.heap.size + 1), 1, none⟩ = some (.int .i64 o) := ⟨BR.t3.1, BR.t3.2.1, BR.t3.2.2.1, BC.two.1, BC.two.2.1⟩
      refine tk 0 7 ?_
      refine tk 1 8 ?_
      refine tk 2 9 ?_
      refine tk 3 10 ?_
      refine tk 4 11 ?_
      refine tk 5 12 ?_
      refine tk 8 15 ?_
      refine tk 9 16 ?_
      refine rdk 6 13 fun K hK => ?_
      go_simp
      refine (HT.out _).mono ?_
      rintro e w1 ⟨rfl, hb1⟩
      replace BR := BR.below hb1
      replace BC := BC.below hb1
      replace hb := chain hb hb1
      clear hb1
      (try go_wp2_with fail)
      refine hko hK ⟨BR.t3.1, BR.t3.2.1, BR.t3.2.2.1, (Blk.l2 BC)⟩ fun hHeld => ?_
      clear hK K
      refine tk 7 14 ?_
      refine tk 10 17 ?_
      refine tk 11 18 ?_
      refine tk 12 6 ?_
      refine wpAnyH_done (by kernel_rfl) ?_ _
      clear hHeld
      go_wp2_with fail
      go_ret
      exact ⟨rfl, hb⟩
    · have f1 : decide (T ≤ m) = false := decide_eq_false g
      rw [f1]
      clear g
      go_enter Try.func58, Try.ntmps58
      obtain ⟨x0, x1, x2, xf, xl⟩ := BR.t3
      obtain ⟨u0, u1, uf, ul⟩ := BC.two
      go_wp2_with fail
      clear x0 x1 x2 xf xl u0 u1 uf ul
      generalize ((w.alloc (.cells #[.int .i64 m, .bool be, .bool ja] 25)).alloc (.cells #[.int .i64 v, .int .i64 o] 27)) = v0 at *
      have hd_ : v0.drew.heap.size = v0.heap.size := rfl
      replace BR := BR.drew
      replace BC := BC.drew
      replace hb := hb.drew
      refine wp_region_held_drew (S := fun w' => w'.cell? ⟨w.heap.size, 0, none⟩ = some (.int .i64 m) ∧ w'.cell? ⟨w.heap.size, 1, none⟩ = some (.bool be) ∧ w'.cell? ⟨w.heap.size, 2, none⟩ = some (.bool ja) ∧ w'.cell? ⟨(w.heap.size + 1), 0, none⟩ = some (.int .i64 v) ∧ w'.cell? ⟨(w.heap.size + 1), 1, none⟩ = some (.int .i64 o)) (by kernel_rfl) ⟨BR.t3.1, BR.t3.2.1, BR.t3.2.2.1, BC.two.1, BC.two.2.1⟩ (fun hHeld => ?_)
      clear hHeld
      generalize v0.drew = vd at *
      have hHeld : vd.cell? ⟨w.heap.size, 0, none⟩ = some (.int .i64 m) ∧ vd.cell? ⟨w.heap.size, 1, none⟩ = some (.bool be) ∧ vd.cell? ⟨w.heap.size, 2, none⟩ = some (.bool ja) ∧ vd.cell? ⟨(w.heap.size + 1), 0, none⟩ = some (.int .i64 v) ∧ vd.cell? ⟨(w.heap.size + 1), 1, none⟩ = some (.int .i64 o) := ⟨BR.t3.1, BR.t3.2.1, BR.t3.2.2.1, BC.two.1, BC.two.2.1⟩
      refine tk 0 7 ?_
      refine tk 1 8 ?_
      refine tk 2 9 ?_
      refine tk 3 10 ?_
      refine tk 4 11 ?_
      refine tk 5 12 ?_
      refine tk 8 15 ?_
      refine tk 9 16 ?_
      refine rdk 6 13 fun K hK => ?_
      go_simp
      refine (HT.out _).mono ?_
      rintro e w1 ⟨rfl, hb1⟩
      replace BR := BR.below hb1
      replace BC := BC.below hb1
      replace hb := chain hb hb1
      clear hb1
      (try go_wp2_with fail)
      refine hko hK ⟨BR.t3.1, BR.t3.2.1, BR.t3.2.2.1, (Blk.l2 BC)⟩ fun hHeld => ?_
      clear hK K
      refine tk 7 14 ?_
      refine tk 10 17 ?_
      refine tk 11 18 ?_
      refine tk 12 6 ?_
      refine wpAnyH_done (by kernel_rfl) ?_ _
      clear hHeld
      go_wp2_with fail
      go_ret
      exact ⟨rfl, hb⟩
set_option maxRecDepth 8000 in
set_option maxHeartbeats 1000000 in
theorem isPossible_any (m v o a : Int) (be ja : Bool) (w : World) (hv : 1 ≤ v ∧ v ≤ 1024) :
    Calls Try.prog 42 #[.agg #[.int .i64 m, .bool be, .bool ja], .agg #[.int .i64 v, .int .i64 o], .int .i64 a] w fun e w' => e = .returned (.bool (posB m be v o a)) ∧ Below w.heap.size w w' := by
  obtain ⟨BR, BC, hb, hz⟩ := two_new w #[.int .i64 m, .bool be, .bool ja] #[.int .i64 v, .int .i64 o] 25 27
  clear hz
  by_cases h0 : a = 0
  · subst h0
    rw [posB_0]
    go_enter Try.func42, Try.ntmps42
    obtain ⟨x0, x1, x2, xf, xl⟩ := BR.t3
    obtain ⟨u0, u1, uf, ul⟩ := BC.two
    go_wp2
    go_ret
    exact ⟨rfl, hb⟩
  by_cases h1 : a = 1
  · subst h1
    rw [posB_1]
    have hd := fun W => doublings_any 1 W
    rw [show ((dbN 1 : Nat) : Int) = 1 from rfl] at hd
    have hm := fun W => mayTurn_any m v o be ja 1 1 W rfl (by omega) hv
    obtain ⟨B, hB⟩ : ∃ B, mayB m v o 1 = B := ⟨_, rfl⟩
    rw [hB] at hm ⊢
    have HD := Lib.hid hd
    have HM := Lib.hid hm
    clear hd hm hB
    go_enter Try.func42, Try.ntmps42
    obtain ⟨x0, x1, x2, xf, xl⟩ := BR.t3
    obtain ⟨u0, u1, uf, ul⟩ := BC.two
    go_wp2_with fail
    clear x0 x1 x2 xf xl u0 u1 uf ul
    generalize ((w.alloc (.cells #[.int .i64 m, .bool be, .bool ja] 25)).alloc (.cells #[.int .i64 v, .int .i64 o] 27)) = v0 at *
    have hd_ : v0.drew.heap.size = v0.heap.size := rfl
    replace BR := BR.drew
    replace BC := BC.drew
    replace hb := hb.drew
    refine wp_region_held_drew (S := fun w' => w'.cell? ⟨w.heap.size, 0, none⟩ = some (.int .i64 m) ∧ w'.cell? ⟨w.heap.size, 1, none⟩ = some (.bool be) ∧ w'.cell? ⟨w.heap.size, 2, none⟩ = some (.bool ja) ∧ w'.cell? ⟨(w.heap.size + 1), 0, none⟩ = some (.int .i64 v) ∧ w'.cell? ⟨(w.heap.size + 1), 1, none⟩ = some (.int .i64 o)) (by kernel_rfl) ⟨BR.t3.1, BR.t3.2.1, BR.t3.2.2.1, BC.two.1, BC.two.2.1⟩ (fun hHeld => ?_)
    clear hHeld
    generalize v0.drew = vd at *
    have hHeld : vd.cell? ⟨w.heap.size, 0, none⟩ = some (.int .i64 m) ∧ vd.cell? ⟨w.heap.size, 1, none⟩ = some (.bool be) ∧ vd.cell? ⟨w.heap.size, 2, none⟩ = some (.bool ja) ∧ vd.cell? ⟨(w.heap.size + 1), 0, none⟩ = some (.int .i64 v) ∧ vd.cell? ⟨(w.heap.size + 1), 1, none⟩ = some (.int .i64 o) := ⟨BR.t3.1, BR.t3.2.1, BR.t3.2.2.1, BC.two.1, BC.two.2.1⟩
    refine tk 0 13 ?_
    refine tk 1 14 ?_
    refine tk 2 15 ?_
    refine rdk 3 16 fun K hK => ?_
    go_simp
    refine (HD.out _).mono ?_
    rintro e w1 ⟨rfl, rfl⟩
    (try go_wp2_with fail)
    refine hko hK ⟨BR.t3.1, BR.t3.2.1, BR.t3.2.2.1, (Blk.l2 BC)⟩ fun hHeld => ?_
    clear hK K
    refine rdk 4 17 fun K hK => ?_
    go_simp
    refine (HM.out _).mono ?_
    rintro e w2 ⟨rfl, hb2⟩
    replace BR := BR.below hb2
    replace BC := BC.below hb2
    replace hb := chain hb hb2
    clear hb2
    (try go_wp2_with fail)
    refine hko hK ⟨BR.t3.1, BR.t3.2.1, BR.t3.2.2.1, (Blk.l2 BC)⟩ fun hHeld => ?_
    clear hK K
    refine tk 5 6 ?_
    refine wpAnyH_done (by kernel_rfl) ?_ _
    clear hHeld
    go_wp2_with fail
    go_ret
    exact ⟨rfl, hb⟩
  by_cases h2 : a = 2
  · subst h2
    rw [posB_2]
    have hd := fun W => doublings_any 2 W
    rw [show ((dbN 2 : Nat) : Int) = 1 from rfl] at hd
    have hm := fun W => mayTurn_any m v o be ja 1 1 W rfl (by omega) hv
    obtain ⟨B, hB⟩ : ∃ B, mayB m v o 1 = B := ⟨_, rfl⟩
    rw [hB] at hm ⊢
    have HD := Lib.hid hd
    have HM := Lib.hid hm
    clear hd hm hB
    go_enter Try.func42, Try.ntmps42
    obtain ⟨x0, x1, x2, xf, xl⟩ := BR.t3
    obtain ⟨u0, u1, uf, ul⟩ := BC.two
    go_wp2_with fail
    clear x0 x1 x2 xf xl u0 u1 uf ul
    generalize ((w.alloc (.cells #[.int .i64 m, .bool be, .bool ja] 25)).alloc (.cells #[.int .i64 v, .int .i64 o] 27)) = v0 at *
    have hd_ : v0.drew.heap.size = v0.heap.size := rfl
    replace BR := BR.drew
    replace BC := BC.drew
    replace hb := hb.drew
    refine wp_region_held_drew (S := fun w' => w'.cell? ⟨w.heap.size, 0, none⟩ = some (.int .i64 m) ∧ w'.cell? ⟨w.heap.size, 1, none⟩ = some (.bool be) ∧ w'.cell? ⟨w.heap.size, 2, none⟩ = some (.bool ja) ∧ w'.cell? ⟨(w.heap.size + 1), 0, none⟩ = some (.int .i64 v) ∧ w'.cell? ⟨(w.heap.size + 1), 1, none⟩ = some (.int .i64 o)) (by kernel_rfl) ⟨BR.t3.1, BR.t3.2.1, BR.t3.2.2.1, BC.two.1, BC.two.2.1⟩ (fun hHeld => ?_)
    clear hHeld
    generalize v0.drew = vd at *
    have hHeld : vd.cell? ⟨w.heap.size, 0, none⟩ = some (.int .i64 m) ∧ vd.cell? ⟨w.heap.size, 1, none⟩ = some (.bool be) ∧ vd.cell? ⟨w.heap.size, 2, none⟩ = some (.bool ja) ∧ vd.cell? ⟨(w.heap.size + 1), 0, none⟩ = some (.int .i64 v) ∧ vd.cell? ⟨(w.heap.size + 1), 1, none⟩ = some (.int .i64 o) := ⟨BR.t3.1, BR.t3.2.1, BR.t3.2.2.1, BC.two.1, BC.two.2.1⟩
    refine tk 0 13 ?_
    refine tk 1 14 ?_
    refine tk 2 15 ?_
    refine rdk 3 16 fun K hK => ?_
    go_simp
    refine (HD.out _).mono ?_
    rintro e w1 ⟨rfl, rfl⟩
    (try go_wp2_with fail)
    refine hko hK ⟨BR.t3.1, BR.t3.2.1, BR.t3.2.2.1, (Blk.l2 BC)⟩ fun hHeld => ?_
    clear hK K
    refine rdk 4 17 fun K hK => ?_
    go_simp
    refine (HM.out _).mono ?_
    rintro e w2 ⟨rfl, hb2⟩
    replace BR := BR.below hb2
    replace BC := BC.below hb2
    replace hb := chain hb hb2
    clear hb2
    (try go_wp2_with fail)
    refine hko hK ⟨BR.t3.1, BR.t3.2.1, BR.t3.2.2.1, (Blk.l2 BC)⟩ fun hHeld => ?_
    clear hK K
    refine tk 5 6 ?_
    refine wpAnyH_done (by kernel_rfl) ?_ _
    clear hHeld
    go_wp2_with fail
    go_ret
    exact ⟨rfl, hb⟩
  by_cases h3 : a = 3
  · subst h3
    rw [posB_3]
    cases be
    · clear hv
      rw [Bool.false_and]
      go_enter Try.func42, Try.ntmps42
      obtain ⟨x0, x1, x2, xf, xl⟩ := BR.t3
      obtain ⟨u0, u1, uf, ul⟩ := BC.two
      go_wp2_with fail
      clear x0 x1 x2 xf xl u0 u1 uf ul
      generalize ((w.alloc (.cells #[.int .i64 m, .bool false, .bool ja] 25)).alloc (.cells #[.int .i64 v, .int .i64 o] 27)) = v0 at *
      have hd_ : v0.drew.heap.size = v0.heap.size := rfl
      replace BR := BR.drew
      replace BC := BC.drew
      replace hb := hb.drew
      refine wp_region_held_drew (S := fun w' => w'.cell? ⟨w.heap.size, 0, none⟩ = some (.int .i64 m) ∧ w'.cell? ⟨w.heap.size, 1, none⟩ = some (.bool false) ∧ w'.cell? ⟨w.heap.size, 2, none⟩ = some (.bool ja) ∧ w'.cell? ⟨(w.heap.size + 1), 0, none⟩ = some (.int .i64 v) ∧ w'.cell? ⟨(w.heap.size + 1), 1, none⟩ = some (.int .i64 o)) (by kernel_rfl) ⟨BR.t3.1, BR.t3.2.1, BR.t3.2.2.1, BC.two.1, BC.two.2.1⟩ (fun hHeld => ?_)
      clear hHeld
      generalize v0.drew = vd at *
      have hHeld : vd.cell? ⟨w.heap.size, 0, none⟩ = some (.int .i64 m) ∧ vd.cell? ⟨w.heap.size, 1, none⟩ = some (.bool false) ∧ vd.cell? ⟨w.heap.size, 2, none⟩ = some (.bool ja) ∧ vd.cell? ⟨(w.heap.size + 1), 0, none⟩ = some (.int .i64 v) ∧ vd.cell? ⟨(w.heap.size + 1), 1, none⟩ = some (.int .i64 o) := ⟨BR.t3.1, BR.t3.2.1, BR.t3.2.2.1, BC.two.1, BC.two.2.1⟩
      refine tk 0 21 ?_
      refine tk 1 22 ?_
      refine tk 2 23 ?_
      refine tkv 3 24 ?_
      refine tkv 4 25 ?_
      refine tkv 5 26 ?_
      refine tkv 6 27 ?_
      refine tkv 7 28 ?_
      refine tk 8 29 ?_
      refine tk 9 6 ?_
      refine wpAnyH_done (by kernel_rfl) ?_ _
      clear hHeld
      go_wp2_with fail
      go_ret
      exact ⟨rfl, hb⟩
    ·
      have hd := fun W => doublings_any 3 W
      rw [show ((dbN 3 : Nat) : Int) = 2 from rfl] at hd
      have hm := fun W => mayTurn_any m v o true ja 2 2 W rfl (by omega) hv
      obtain ⟨B, hB⟩ : ∃ B, mayB m v o 2 = B := ⟨_, rfl⟩
      rw [hB] at hm ⊢
      rw [Bool.true_and]
      have HD := Lib.hid hd
      have HM := Lib.hid hm
      clear hd hm hB
      go_enter Try.func42, Try.ntmps42
      obtain ⟨x0, x1, x2, xf, xl⟩ := BR.t3
      obtain ⟨u0, u1, uf, ul⟩ := BC.two
      go_wp2_with fail
      clear x0 x1 x2 xf xl u0 u1 uf ul
      generalize ((w.alloc (.cells #[.int .i64 m, .bool true, .bool ja] 25)).alloc (.cells #[.int .i64 v, .int .i64 o] 27)) = v0 at *
      have hd_ : v0.drew.heap.size = v0.heap.size := rfl
      replace BR := BR.drew
      replace BC := BC.drew
      replace hb := hb.drew
      refine wp_region_held_drew (S := fun w' => w'.cell? ⟨w.heap.size, 0, none⟩ = some (.int .i64 m) ∧ w'.cell? ⟨w.heap.size, 1, none⟩ = some (.bool true) ∧ w'.cell? ⟨w.heap.size, 2, none⟩ = some (.bool ja) ∧ w'.cell? ⟨(w.heap.size + 1), 0, none⟩ = some (.int .i64 v) ∧ w'.cell? ⟨(w.heap.size + 1), 1, none⟩ = some (.int .i64 o)) (by kernel_rfl) ⟨BR.t3.1, BR.t3.2.1, BR.t3.2.2.1, BC.two.1, BC.two.2.1⟩ (fun hHeld => ?_)
      clear hHeld
      generalize v0.drew = vd at *
      have hHeld : vd.cell? ⟨w.heap.size, 0, none⟩ = some (.int .i64 m) ∧ vd.cell? ⟨w.heap.size, 1, none⟩ = some (.bool true) ∧ vd.cell? ⟨w.heap.size, 2, none⟩ = some (.bool ja) ∧ vd.cell? ⟨(w.heap.size + 1), 0, none⟩ = some (.int .i64 v) ∧ vd.cell? ⟨(w.heap.size + 1), 1, none⟩ = some (.int .i64 o) := ⟨BR.t3.1, BR.t3.2.1, BR.t3.2.2.1, BC.two.1, BC.two.2.1⟩
      refine tk 0 21 ?_
      refine tk 1 22 ?_
      refine tk 2 23 ?_
      refine tk 3 24 ?_
      refine tk 4 25 ?_
      refine tk 5 26 ?_
      refine rdk 6 27 fun K hK => ?_
      go_simp
      refine (HD.out _).mono ?_
      rintro e w1 ⟨rfl, rfl⟩
      (try go_wp2_with fail)
      refine hko hK ⟨BR.t3.1, BR.t3.2.1, BR.t3.2.2.1, (Blk.l2 BC)⟩ fun hHeld => ?_
      clear hK K
      refine rdk 7 28 fun K hK => ?_
      go_simp
      refine (HM.out _).mono ?_
      rintro e w2 ⟨rfl, hb2⟩
      replace BR := BR.below hb2
      replace BC := BC.below hb2
      replace hb := chain hb hb2
      clear hb2
      (try go_wp2_with fail)
      refine hko hK ⟨BR.t3.1, BR.t3.2.1, BR.t3.2.2.1, (Blk.l2 BC)⟩ fun hHeld => ?_
      clear hK K
      refine tk 8 29 ?_
      refine tk 9 6 ?_
      refine wpAnyH_done (by kernel_rfl) ?_ _
      clear hHeld
      go_wp2_with fail
      go_ret
      exact ⟨rfl, hb⟩
  by_cases h4 : a = 4
  · subst h4
    rw [posB_4]
    cases be
    · clear hv
      rw [Bool.false_and]
      go_enter Try.func42, Try.ntmps42
      obtain ⟨x0, x1, x2, xf, xl⟩ := BR.t3
      obtain ⟨u0, u1, uf, ul⟩ := BC.two
      go_wp2_with fail
      clear x0 x1 x2 xf xl u0 u1 uf ul
      generalize ((w.alloc (.cells #[.int .i64 m, .bool false, .bool ja] 25)).alloc (.cells #[.int .i64 v, .int .i64 o] 27)) = v0 at *
      have hd_ : v0.drew.heap.size = v0.heap.size := rfl
      replace BR := BR.drew
      replace BC := BC.drew
      replace hb := hb.drew
      refine wp_region_held_drew (S := fun w' => w'.cell? ⟨w.heap.size, 0, none⟩ = some (.int .i64 m) ∧ w'.cell? ⟨w.heap.size, 1, none⟩ = some (.bool false) ∧ w'.cell? ⟨w.heap.size, 2, none⟩ = some (.bool ja) ∧ w'.cell? ⟨(w.heap.size + 1), 0, none⟩ = some (.int .i64 v) ∧ w'.cell? ⟨(w.heap.size + 1), 1, none⟩ = some (.int .i64 o)) (by kernel_rfl) ⟨BR.t3.1, BR.t3.2.1, BR.t3.2.2.1, BC.two.1, BC.two.2.1⟩ (fun hHeld => ?_)
      clear hHeld
      generalize v0.drew = vd at *
      have hHeld : vd.cell? ⟨w.heap.size, 0, none⟩ = some (.int .i64 m) ∧ vd.cell? ⟨w.heap.size, 1, none⟩ = some (.bool false) ∧ vd.cell? ⟨w.heap.size, 2, none⟩ = some (.bool ja) ∧ vd.cell? ⟨(w.heap.size + 1), 0, none⟩ = some (.int .i64 v) ∧ vd.cell? ⟨(w.heap.size + 1), 1, none⟩ = some (.int .i64 o) := ⟨BR.t3.1, BR.t3.2.1, BR.t3.2.2.1, BC.two.1, BC.two.2.1⟩
      refine tk 0 21 ?_
      refine tk 1 22 ?_
      refine tk 2 23 ?_
      refine tkv 3 24 ?_
      refine tkv 4 25 ?_
      refine tkv 5 26 ?_
      refine tkv 6 27 ?_
      refine tkv 7 28 ?_
      refine tk 8 29 ?_
      refine tk 9 6 ?_
      refine wpAnyH_done (by kernel_rfl) ?_ _
      clear hHeld
      go_wp2_with fail
      go_ret
      exact ⟨rfl, hb⟩
    ·
      have hd := fun W => doublings_any 4 W
      rw [show ((dbN 4 : Nat) : Int) = 3 from rfl] at hd
      have hm := fun W => mayTurn_any m v o true ja 3 3 W rfl (by omega) hv
      obtain ⟨B, hB⟩ : ∃ B, mayB m v o 3 = B := ⟨_, rfl⟩
      rw [hB] at hm ⊢
      rw [Bool.true_and]
      have HD := Lib.hid hd
      have HM := Lib.hid hm
      clear hd hm hB
      go_enter Try.func42, Try.ntmps42
      obtain ⟨x0, x1, x2, xf, xl⟩ := BR.t3
      obtain ⟨u0, u1, uf, ul⟩ := BC.two
      go_wp2_with fail
      clear x0 x1 x2 xf xl u0 u1 uf ul
      generalize ((w.alloc (.cells #[.int .i64 m, .bool true, .bool ja] 25)).alloc (.cells #[.int .i64 v, .int .i64 o] 27)) = v0 at *
      have hd_ : v0.drew.heap.size = v0.heap.size := rfl
      replace BR := BR.drew
      replace BC := BC.drew
      replace hb := hb.drew
      refine wp_region_held_drew (S := fun w' => w'.cell? ⟨w.heap.size, 0, none⟩ = some (.int .i64 m) ∧ w'.cell? ⟨w.heap.size, 1, none⟩ = some (.bool true) ∧ w'.cell? ⟨w.heap.size, 2, none⟩ = some (.bool ja) ∧ w'.cell? ⟨(w.heap.size + 1), 0, none⟩ = some (.int .i64 v) ∧ w'.cell? ⟨(w.heap.size + 1), 1, none⟩ = some (.int .i64 o)) (by kernel_rfl) ⟨BR.t3.1, BR.t3.2.1, BR.t3.2.2.1, BC.two.1, BC.two.2.1⟩ (fun hHeld => ?_)
      clear hHeld
      generalize v0.drew = vd at *
      have hHeld : vd.cell? ⟨w.heap.size, 0, none⟩ = some (.int .i64 m) ∧ vd.cell? ⟨w.heap.size, 1, none⟩ = some (.bool true) ∧ vd.cell? ⟨w.heap.size, 2, none⟩ = some (.bool ja) ∧ vd.cell? ⟨(w.heap.size + 1), 0, none⟩ = some (.int .i64 v) ∧ vd.cell? ⟨(w.heap.size + 1), 1, none⟩ = some (.int .i64 o) := ⟨BR.t3.1, BR.t3.2.1, BR.t3.2.2.1, BC.two.1, BC.two.2.1⟩
      refine tk 0 21 ?_
      refine tk 1 22 ?_
      refine tk 2 23 ?_
      refine tk 3 24 ?_
      refine tk 4 25 ?_
      refine tk 5 26 ?_
      refine rdk 6 27 fun K hK => ?_
      go_simp
      refine (HD.out _).mono ?_
      rintro e w1 ⟨rfl, rfl⟩
      (try go_wp2_with fail)
      refine hko hK ⟨BR.t3.1, BR.t3.2.1, BR.t3.2.2.1, (Blk.l2 BC)⟩ fun hHeld => ?_
      clear hK K
      refine rdk 7 28 fun K hK => ?_
      go_simp
      refine (HM.out _).mono ?_
      rintro e w2 ⟨rfl, hb2⟩
      replace BR := BR.below hb2
      replace BC := BC.below hb2
      replace hb := chain hb hb2
      clear hb2
      (try go_wp2_with fail)
      refine hko hK ⟨BR.t3.1, BR.t3.2.1, BR.t3.2.2.1, (Blk.l2 BC)⟩ fun hHeld => ?_
      clear hK K
      refine tk 8 29 ?_
      refine tk 9 6 ?_
      refine wpAnyH_done (by kernel_rfl) ?_ _
      clear hHeld
      go_wp2_with fail
      go_ret
      exact ⟨rfl, hb⟩
  rw [posB_else m be v o h0 h1 h2 h3 h4]
  have f0 : (a == 0) = false := by rw [beq_eq_false_iff_ne]; exact h0
  have f1 : (a == 1) = false := by rw [beq_eq_false_iff_ne]; exact h1
  have f2 : (a == 2) = false := by rw [beq_eq_false_iff_ne]; exact h2
  have f3 : (a == 3) = false := by rw [beq_eq_false_iff_ne]; exact h3
  have f4 : (a == 4) = false := by rw [beq_eq_false_iff_ne]; exact h4
  clear h0 h1 h2 h3 h4
  go_enter Try.func42, Try.ntmps42
  obtain ⟨x0, x1, x2, xf, xl⟩ := BR.t3
  obtain ⟨u0, u1, uf, ul⟩ := BC.two
  go_wp2
  go_ret
  exact ⟨rfl, hb⟩
/-- What a possible action leads to. -/
def aaR (v o a : Int) : Int × Int × Int := if a = 0 then (v, o, 0) else if a = 2 then (0, 0, v) else (v * p2 (dbN a), 2, 0)
set_option maxRecDepth 8000 in
set_option maxHeartbeats 1000000 in
theorem after16_any (v o a : Int) (w : World) (hv : 1 ≤ v ∧ v ≤ 1024) :
    Calls Try.prog 41 #[.agg #[.int .i64 v, .int .i64 o], .int .i64 a] w fun e w' => e = .returned (.tuple #[.agg #[.int .i64 (aaR v o a).1, .int .i64 (aaR v o a).2.1], .int .i64 (aaR v o a).2.2]) ∧ Below w.heap.size w w' := by
  by_cases h0 : a = 0
  · subst h0
    obtain ⟨BC, BZ, hb, hz⟩ := two_new w #[.int .i64 v, .int .i64 o] #[.int .i64 0, .int .i64 0] 27 27
    clear hz
    rw [show aaR v o 0 = (v, o, 0) by simp [aaR]]
    dsimp only
    clear hv
    go_enter Try.func41, Try.ntmps41
    obtain ⟨u0, u1, uf, ul⟩ := BC.two
    obtain ⟨z0, z1, zf, zl⟩ := BZ.two
    go_wp2
    refine bodyPost_ret (v := .tuple #[.agg #[.int .i64 v, .int .i64 o], .int .i64 0]) (by simp [results, Try.results41, go_sem]) rfl ?_
    exact ⟨rfl, ((Below.refl _ _).alloc (Nat.le_refl _) _).alloc (by simp) _⟩
  by_cases h1 : a = 1
  · subst h1
    obtain ⟨BC, BZ, hb, hz⟩ := two_new w #[.int .i64 v, .int .i64 o] #[.int .i64 0, .int .i64 0] 27 27
    clear hz
    have hd := fun W => doublings_any 1 W
    have ht := fun W => turned_any v o 1 W (by omega) hv
    rw [show ((dbN 1 : Nat) : Int) = 1 from rfl] at hd
    rw [show (((1 : Nat) : Int)) = 1 from rfl] at ht
    obtain ⟨T, hT⟩ : ∃ T, v * p2 1 = T := ⟨_, rfl⟩
    rw [show aaR v o 1 = (v * p2 1, 2, 0) by simp [aaR, dbN], hT]
    rw [hT] at ht
    have HD := Lib.hid hd
    have HT := Lib.hid ht
    clear hd ht hT
    dsimp only
    clear hv
    go_enter Try.func41, Try.ntmps41
    obtain ⟨u0, u1, uf, ul⟩ := BC.two
    go_wp2_with fail
    clear u0 u1 uf ul
    generalize ((w.alloc (.cells #[.int .i64 v, .int .i64 o] 27)).alloc (.cells #[.int .i64 0, .int .i64 0] 27)) = v0 at *
    have hd_ : v0.drew.heap.size = v0.heap.size := rfl
    replace BC := BC.drew
    replace BZ := BZ.drew
    replace hb := hb.drew
    refine wp_region_held_drew (S := fun w' => w'.cell? ⟨w.heap.size, 0, none⟩ = some (.int .i64 v) ∧ w'.cell? ⟨w.heap.size, 1, none⟩ = some (.int .i64 o)) (by kernel_rfl) ⟨BC.two.1, BC.two.2.1⟩ (fun hHeld => ?_)
    clear hHeld
    generalize v0.drew = vd at *
    have hHeld : vd.cell? ⟨w.heap.size, 0, none⟩ = some (.int .i64 v) ∧ vd.cell? ⟨w.heap.size, 1, none⟩ = some (.int .i64 o) := ⟨BC.two.1, BC.two.2.1⟩
    refine tk 0 7 ?_
    refine tk 1 8 ?_
    refine rdk 2 9 fun K hK => ?_
    go_simp
    refine (HD.out _).mono ?_
    rintro e w1 ⟨rfl, rfl⟩
    (try go_wp2_with fail)
    refine hko hK (Blk.l2 BC) fun hHeld => ?_
    clear hK K
    refine rdk 3 10 fun K hK => ?_
    go_simp
    refine (HT.out _).mono ?_
    rintro e w2 ⟨rfl, hb2⟩
    replace BC := BC.below hb2
    replace BZ := BZ.below hb2
    replace hb := chain hb hb2
    clear hb2
    (try go_wp2_with fail)
    refine hko hK (Blk.l2 BC) fun hHeld => ?_
    clear hK K
    refine rdn 4 fun K hK => ?_
    obtain ⟨y0, y1, yf, yl⟩ := BZ.two
    go_simp
    (try go_wp2_with fail)
    refine hko hK (Blk.l2 ((BC.other (by omega)).other (by omega))) fun hHeld => ?_
    clear hK K
    refine tk 5 5 ?_
    refine wpAnyH_done (by kernel_rfl) ?_ _
    clear hHeld
    have BZn := (BZ.set (i := 0) (.int .i64 T)).set (i := 1) (.int .i64 2)
    obtain ⟨z0, z1, zf, zl⟩ := BZn.two
    go_wp2_with fail
    refine bodyPost_ret (v := .tuple #[.agg #[.int .i64 T, .int .i64 2], .int .i64 0]) (by simp [results, Try.results41, go_sem, z0, z1]) rfl ?_
    exact ⟨rfl, (hb.setCell (by show _ ≤ w.heap.size + 1; omega) _).setCell (by show _ ≤ w.heap.size + 1; omega) _⟩
  by_cases h2 : a = 2
  · subst h2
    obtain ⟨BC, BZ, hb, hz⟩ := two_new w #[.int .i64 v, .int .i64 o] #[.int .i64 0, .int .i64 0] 27 27
    clear hz
    rw [show aaR v o 2 = (0, 0, v) by simp [aaR]]
    dsimp only
    clear hv
    go_enter Try.func41, Try.ntmps41
    obtain ⟨u0, u1, uf, ul⟩ := BC.two
    go_wp2_with fail
    clear u0 u1 uf ul
    generalize ((w.alloc (.cells #[.int .i64 v, .int .i64 o] 27)).alloc (.cells #[.int .i64 0, .int .i64 0] 27)) = v0 at *
    have hd_ : v0.drew.heap.size = v0.heap.size := rfl
    replace BC := BC.drew
    replace BZ := BZ.drew
    replace hb := hb.drew
    refine wp_region_held_drew (S := fun w' => w'.cell? ⟨w.heap.size, 0, none⟩ = some (.int .i64 v) ∧ w'.cell? ⟨w.heap.size, 1, none⟩ = some (.int .i64 o)) (by kernel_rfl) ⟨BC.two.1, BC.two.2.1⟩ (fun hHeld => ?_)
    clear hHeld
    generalize v0.drew = vd at *
    have hHeld : vd.cell? ⟨w.heap.size, 0, none⟩ = some (.int .i64 v) ∧ vd.cell? ⟨w.heap.size, 1, none⟩ = some (.int .i64 o) := ⟨BC.two.1, BC.two.2.1⟩
    refine tk 0 16 ?_
    refine tk 1 17 ?_
    refine tk 2 18 ?_
    refine rdn 3 fun K hK => ?_
    obtain ⟨y0, y1, yf, yl⟩ := BZ.two
    go_simp
    (try go_wp2_with fail)
    refine hko hK (Blk.l2 ((BC.other (by omega)).other (by omega))) fun hHeld => ?_
    clear hK K
    refine tk 4 5 ?_
    refine wpAnyH_done (by kernel_rfl) ?_ _
    clear hHeld
    have BZn := (BZ.set (i := 0) (.int .i64 0)).set (i := 1) (.int .i64 0)
    obtain ⟨z0, z1, zf, zl⟩ := BZn.two
    go_wp2_with fail
    refine bodyPost_ret (v := .tuple #[.agg #[.int .i64 0, .int .i64 0], .int .i64 v]) (by simp [results, Try.results41, go_sem, z0, z1]) rfl ?_
    exact ⟨rfl, (hb.setCell (by show _ ≤ w.heap.size + 1; omega) _).setCell (by show _ ≤ w.heap.size + 1; omega) _⟩
  by_cases h3 : a = 3
  · subst h3
    obtain ⟨BC, BZ, hb, hz⟩ := two_new w #[.int .i64 v, .int .i64 o] #[.int .i64 0, .int .i64 0] 27 27
    clear hz
    have hd := fun W => doublings_any 3 W
    have ht := fun W => turned_any v o 2 W (by omega) hv
    rw [show ((dbN 3 : Nat) : Int) = 2 from rfl] at hd
    rw [show (((2 : Nat) : Int)) = 2 from rfl] at ht
    obtain ⟨T, hT⟩ : ∃ T, v * p2 2 = T := ⟨_, rfl⟩
    rw [show aaR v o 3 = (v * p2 2, 2, 0) by simp [aaR, dbN], hT]
    rw [hT] at ht
    have HD := Lib.hid hd
    have HT := Lib.hid ht
    clear hd ht hT
    dsimp only
    clear hv
    go_enter Try.func41, Try.ntmps41
    obtain ⟨u0, u1, uf, ul⟩ := BC.two
    go_wp2_with fail
    clear u0 u1 uf ul
    generalize ((w.alloc (.cells #[.int .i64 v, .int .i64 o] 27)).alloc (.cells #[.int .i64 0, .int .i64 0] 27)) = v0 at *
    have hd_ : v0.drew.heap.size = v0.heap.size := rfl
    replace BC := BC.drew
    replace BZ := BZ.drew
    replace hb := hb.drew
    refine wp_region_held_drew (S := fun w' => w'.cell? ⟨w.heap.size, 0, none⟩ = some (.int .i64 v) ∧ w'.cell? ⟨w.heap.size, 1, none⟩ = some (.int .i64 o)) (by kernel_rfl) ⟨BC.two.1, BC.two.2.1⟩ (fun hHeld => ?_)
    clear hHeld
    generalize v0.drew = vd at *
    have hHeld : vd.cell? ⟨w.heap.size, 0, none⟩ = some (.int .i64 v) ∧ vd.cell? ⟨w.heap.size, 1, none⟩ = some (.int .i64 o) := ⟨BC.two.1, BC.two.2.1⟩
    refine tk 0 7 ?_
    refine tk 1 8 ?_
    refine rdk 2 9 fun K hK => ?_
    go_simp
    refine (HD.out _).mono ?_
    rintro e w1 ⟨rfl, rfl⟩
    (try go_wp2_with fail)
    refine hko hK (Blk.l2 BC) fun hHeld => ?_
    clear hK K
    refine rdk 3 10 fun K hK => ?_
    go_simp
    refine (HT.out _).mono ?_
    rintro e w2 ⟨rfl, hb2⟩
    replace BC := BC.below hb2
    replace BZ := BZ.below hb2
    replace hb := chain hb hb2
    clear hb2
    (try go_wp2_with fail)
    refine hko hK (Blk.l2 BC) fun hHeld => ?_
    clear hK K
    refine rdn 4 fun K hK => ?_
    obtain ⟨y0, y1, yf, yl⟩ := BZ.two
    go_simp
    (try go_wp2_with fail)
    refine hko hK (Blk.l2 ((BC.other (by omega)).other (by omega))) fun hHeld => ?_
    clear hK K
    refine tk 5 5 ?_
    refine wpAnyH_done (by kernel_rfl) ?_ _
    clear hHeld
    have BZn := (BZ.set (i := 0) (.int .i64 T)).set (i := 1) (.int .i64 2)
    obtain ⟨z0, z1, zf, zl⟩ := BZn.two
    go_wp2_with fail
    refine bodyPost_ret (v := .tuple #[.agg #[.int .i64 T, .int .i64 2], .int .i64 0]) (by simp [results, Try.results41, go_sem, z0, z1]) rfl ?_
    exact ⟨rfl, (hb.setCell (by show _ ≤ w.heap.size + 1; omega) _).setCell (by show _ ≤ w.heap.size + 1; omega) _⟩
  by_cases h4 : a = 4
  · subst h4
    obtain ⟨BC, BZ, hb, hz⟩ := two_new w #[.int .i64 v, .int .i64 o] #[.int .i64 0, .int .i64 0] 27 27
    clear hz
    have hd := fun W => doublings_any 4 W
    have ht := fun W => turned_any v o 3 W (by omega) hv
    rw [show ((dbN 4 : Nat) : Int) = 3 from rfl] at hd
    rw [show (((3 : Nat) : Int)) = 3 from rfl] at ht
    obtain ⟨T, hT⟩ : ∃ T, v * p2 3 = T := ⟨_, rfl⟩
    rw [show aaR v o 4 = (v * p2 3, 2, 0) by simp [aaR, dbN], hT]
    rw [hT] at ht
    have HD := Lib.hid hd
    have HT := Lib.hid ht
    clear hd ht hT
    dsimp only
    clear hv
    go_enter Try.func41, Try.ntmps41
    obtain ⟨u0, u1, uf, ul⟩ := BC.two
    go_wp2_with fail
    clear u0 u1 uf ul
    generalize ((w.alloc (.cells #[.int .i64 v, .int .i64 o] 27)).alloc (.cells #[.int .i64 0, .int .i64 0] 27)) = v0 at *
    have hd_ : v0.drew.heap.size = v0.heap.size := rfl
    replace BC := BC.drew
    replace BZ := BZ.drew
    replace hb := hb.drew
    refine wp_region_held_drew (S := fun w' => w'.cell? ⟨w.heap.size, 0, none⟩ = some (.int .i64 v) ∧ w'.cell? ⟨w.heap.size, 1, none⟩ = some (.int .i64 o)) (by kernel_rfl) ⟨BC.two.1, BC.two.2.1⟩ (fun hHeld => ?_)
    clear hHeld
    generalize v0.drew = vd at *
    have hHeld : vd.cell? ⟨w.heap.size, 0, none⟩ = some (.int .i64 v) ∧ vd.cell? ⟨w.heap.size, 1, none⟩ = some (.int .i64 o) := ⟨BC.two.1, BC.two.2.1⟩
    refine tk 0 7 ?_
    refine tk 1 8 ?_
    refine rdk 2 9 fun K hK => ?_
    go_simp
    refine (HD.out _).mono ?_
    rintro e w1 ⟨rfl, rfl⟩
    (try go_wp2_with fail)
    refine hko hK (Blk.l2 BC) fun hHeld => ?_
    clear hK K
    refine rdk 3 10 fun K hK => ?_
    go_simp
    refine (HT.out _).mono ?_
    rintro e w2 ⟨rfl, hb2⟩
    replace BC := BC.below hb2
    replace BZ := BZ.below hb2
    replace hb := chain hb hb2
    clear hb2
    (try go_wp2_with fail)
    refine hko hK (Blk.l2 BC) fun hHeld => ?_
    clear hK K
    refine rdn 4 fun K hK => ?_
    obtain ⟨y0, y1, yf, yl⟩ := BZ.two
    go_simp
    (try go_wp2_with fail)
    refine hko hK (Blk.l2 ((BC.other (by omega)).other (by omega))) fun hHeld => ?_
    clear hK K
    refine tk 5 5 ?_
    refine wpAnyH_done (by kernel_rfl) ?_ _
    clear hHeld
    have BZn := (BZ.set (i := 0) (.int .i64 T)).set (i := 1) (.int .i64 2)
    obtain ⟨z0, z1, zf, zl⟩ := BZn.two
    go_wp2_with fail
    refine bodyPost_ret (v := .tuple #[.agg #[.int .i64 T, .int .i64 2], .int .i64 0]) (by simp [results, Try.results41, go_sem, z0, z1]) rfl ?_
    exact ⟨rfl, (hb.setCell (by show _ ≤ w.heap.size + 1; omega) _).setCell (by show _ ≤ w.heap.size + 1; omega) _⟩
  have f0 : (a == 0) = false := by rw [beq_eq_false_iff_ne]; exact h0
  have f2 : (a == 2) = false := by rw [beq_eq_false_iff_ne]; exact h2
  obtain ⟨BC, BZ, hb, hz⟩ := two_new w #[.int .i64 v, .int .i64 o] #[.int .i64 0, .int .i64 0] 27 27
  clear hz
  have hd := fun W => doublings_any a W
  have ht := fun W => turned_any v o 0 W (by omega) hv
  rw [show ((dbN a : Nat) : Int) = 0 by simp [dbN, *]] at hd
  rw [show (((0 : Nat) : Int)) = 0 from rfl] at ht
  obtain ⟨T, hT⟩ : ∃ T, v * p2 0 = T := ⟨_, rfl⟩
  rw [show aaR v o a = (v * p2 0, 2, 0) by simp [aaR, dbN, *], hT]
  rw [hT] at ht
  have HD := Lib.hid hd
  have HT := Lib.hid ht
  clear hd ht hT h0 h1 h2 h3 h4
  dsimp only
  clear hv
  go_enter Try.func41, Try.ntmps41
  obtain ⟨u0, u1, uf, ul⟩ := BC.two
  go_wp2_with fail
  clear u0 u1 uf ul
  generalize ((w.alloc (.cells #[.int .i64 v, .int .i64 o] 27)).alloc (.cells #[.int .i64 0, .int .i64 0] 27)) = v0 at *
  have hd_ : v0.drew.heap.size = v0.heap.size := rfl
  replace BC := BC.drew
  replace BZ := BZ.drew
  replace hb := hb.drew
  refine wp_region_held_drew (S := fun w' => w'.cell? ⟨w.heap.size, 0, none⟩ = some (.int .i64 v) ∧ w'.cell? ⟨w.heap.size, 1, none⟩ = some (.int .i64 o)) (by kernel_rfl) ⟨BC.two.1, BC.two.2.1⟩ (fun hHeld => ?_)
  clear hHeld
  generalize v0.drew = vd at *
  have hHeld : vd.cell? ⟨w.heap.size, 0, none⟩ = some (.int .i64 v) ∧ vd.cell? ⟨w.heap.size, 1, none⟩ = some (.int .i64 o) := ⟨BC.two.1, BC.two.2.1⟩
  refine tk 0 7 ?_
  refine tk 1 8 ?_
  refine rdk 2 9 fun K hK => ?_
  go_simp
  refine (HD.out _).mono ?_
  rintro e w1 ⟨rfl, rfl⟩
  (try go_wp2_with fail)
  refine hko hK (Blk.l2 BC) fun hHeld => ?_
  clear hK K
  refine rdk 3 10 fun K hK => ?_
  go_simp
  refine (HT.out _).mono ?_
  rintro e w2 ⟨rfl, hb2⟩
  replace BC := BC.below hb2
  replace BZ := BZ.below hb2
  replace hb := chain hb hb2
  clear hb2
  (try go_wp2_with fail)
  refine hko hK (Blk.l2 BC) fun hHeld => ?_
  clear hK K
  refine rdn 4 fun K hK => ?_
  obtain ⟨y0, y1, yf, yl⟩ := BZ.two
  go_simp
  (try go_wp2_with fail)
  refine hko hK (Blk.l2 ((BC.other (by omega)).other (by omega))) fun hHeld => ?_
  clear hK K
  refine tk 5 5 ?_
  refine wpAnyH_done (by kernel_rfl) ?_ _
  clear hHeld
  have BZn := (BZ.set (i := 0) (.int .i64 T)).set (i := 1) (.int .i64 2)
  obtain ⟨z0, z1, zf, zl⟩ := BZn.two
  go_wp2_with fail
  refine bodyPost_ret (v := .tuple #[.agg #[.int .i64 T, .int .i64 2], .int .i64 0]) (by simp [results, Try.results41, go_sem, z0, z1]) rfl ?_
  exact ⟨rfl, (hb.setCell (by show _ ≤ w.heap.size + 1; omega) _).setCell (by show _ ≤ w.heap.size + 1; omega) _⟩
set_option maxRecDepth 8000 in
set_option maxHeartbeats 1000000 in
theorem swapCube_any (v o : Int) (w : World) :
    Calls Try.prog 19 #[.agg #[.int .i64 v, .int .i64 o]] w fun e w' => e = .returned (.agg #[.int .i64 v, .int .i64 (swO o)]) ∧ Below w.heap.size w w' := by
  obtain ⟨BC, BZ, hb, hz⟩ := two_new w #[.int .i64 v, .int .i64 o] #[.int .i64 0, .int .i64 0] 27 27
  clear hz
  obtain ⟨u0, u1, uf, ul⟩ := BC.two
  obtain ⟨y0, y1, yf, yl⟩ := BZ.two
  unfold swO
  by_cases h1 : o = 1
  · subst h1
    rw [if_pos rfl]
    go_enter Try.func19, Try.ntmps19
    go_wp2
    refine bodyPost_ret (v := .agg #[.int .i64 v, .int .i64 2]) (by simp [results, Try.results19, go_sem]) rfl ?_
    exact ⟨rfl, ((Below.refl _ _).alloc (Nat.le_refl _) _).alloc (by simp) _⟩
  · have f1 : (o == 1) = false := by rw [beq_eq_false_iff_ne]; exact h1
    rw [if_neg h1]
    clear h1
    by_cases h2 : o = 2
    · subst h2
      rw [if_pos rfl]
      go_enter Try.func19, Try.ntmps19
      go_wp2
      refine bodyPost_ret (v := .agg #[.int .i64 v, .int .i64 1]) (by simp [results, Try.results19, go_sem]) rfl ?_
      exact ⟨rfl, ((Below.refl _ _).alloc (Nat.le_refl _) _).alloc (by simp) _⟩
    · have f2 : (o == 2) = false := by rw [beq_eq_false_iff_ne]; exact h2
      rw [if_neg h2]
      clear h2
      go_enter Try.func19, Try.ntmps19
      go_wp2
      refine bodyPost_ret (v := .agg #[.int .i64 v, .int .i64 o]) (by simp [results, Try.results19, go_sem]) rfl ?_
      exact ⟨rfl, ((Below.refl _ _).alloc (Nat.le_refl _) _).alloc (by simp) _⟩
set_option maxRecDepth 8000 in
set_option maxHeartbeats 1000000 in
theorem specSwapCube_any (v o : Int) (w : World) :
    Calls Try.prog 28 #[.agg #[.int .i64 v, .int .i64 o]] w fun e w' => e = .returned (.agg #[.int .i64 v, .int .i64 (swO o)]) ∧ Below w.heap.size w w' := by
  obtain ⟨BC, BZ, hb, hz⟩ := two_new w #[.int .i64 v, .int .i64 o] #[.int .i64 0, .int .i64 0] 27 27
  clear hz
  obtain ⟨u0, u1, uf, ul⟩ := BC.two
  obtain ⟨y0, y1, yf, yl⟩ := BZ.two
  unfold swO
  by_cases h1 : o = 1
  · subst h1
    rw [if_pos rfl]
    go_enter Try.func28, Try.ntmps28
    go_wp2
    refine bodyPost_ret (v := .agg #[.int .i64 v, .int .i64 2]) (by simp [results, Try.results28, go_sem]) rfl ?_
    exact ⟨rfl, ((Below.refl _ _).alloc (Nat.le_refl _) _).alloc (by simp) _⟩
  · have f1 : (o == 1) = false := by rw [beq_eq_false_iff_ne]; exact h1
    rw [if_neg h1]
    clear h1
    by_cases h2 : o = 2
    · subst h2
      rw [if_pos rfl]
      go_enter Try.func28, Try.ntmps28
      go_wp2
      refine bodyPost_ret (v := .agg #[.int .i64 v, .int .i64 1]) (by simp [results, Try.results28, go_sem]) rfl ?_
      exact ⟨rfl, ((Below.refl _ _).alloc (Nat.le_refl _) _).alloc (by simp) _⟩
    · have f2 : (o == 2) = false := by rw [beq_eq_false_iff_ne]; exact h2
      rw [if_neg h2]
      clear h2
      go_enter Try.func28, Try.ntmps28
      go_wp2
      refine bodyPost_ret (v := .agg #[.int .i64 v, .int .i64 o]) (by simp [results, Try.results28, go_sem]) rfl ?_
      exact ⟨rfl, ((Below.refl _ _).alloc (Nat.le_refl _) _).alloc (by simp) _⟩
end Go.Proofs.Ytkcjbjkccafekaa
