/- Contract of the model's copy of a game. -/
import Derived.Test.YtokjkcnjmfbfiaaGam
import Derived.Test.YtokjkcnjmfbfiaaSwapS
import Derived.Test.YtokjkcnjmfbfiaaVarB
namespace Go.Proofs.Ytokjkcnjmfbfiaa
open Go.ChangeShapes Go.WideShapes Go.ChangeAt Go.RowKit
set_option linter.unusedVariables false
set_option linter.unusedSimpArgs false
set_option maxRecDepth 4000

/-- A game of the call's own, its board in two rows of whatever room. -/
def GameOwnK (xs ys : List Int) (n1 n2 : Nat) (pl ra rb ph wi re tu : Int) (w : World) (e : Ending) (w' : World) : Prop :=
  ∃ b1 b2 k1 k2, e = .returned (.agg #[.slice (some ⟨b1, 0, none⟩) n1 k1, .slice (some ⟨b2, 0, none⟩) n2 k2, .int .i64 pl, .int .i64 ra, .int .i64 rb, .int .i64 ph, .int .i64 wi, .int .i64 re, .int .i64 tu]) ∧ b1 ≠ b2 ∧ w.heap.size ≤ b1 ∧ w.heap.size ≤ b2 ∧ Row w' b1 xs ∧ Row w' b2 ys ∧ Below w.heap.size w w'
theorem Blk.setG2b {W : World} {B : Nat} {q0 q1 q2 q3 q4 q5 q6 q7 q8 : Value} {t : TypeId} (h : Blk W B #[q0, q1, q2, q3, q4, q5, q6, q7, q8] t) (u0 u1 : Value) : Blk ((W.setCell ⟨B, 0, none⟩ u0).setCell ⟨B, 1, none⟩ u1) B #[u0, u1, q2, q3, q4, q5, q6, q7, q8] t := by
  have := (h.set (i := 0) u0).set (i := 1) u1
  simp only [List.setIfInBounds_toArray, List.set_cons_zero, List.set_cons_succ] at this
  exact this
set_option maxRecDepth 8000 in
set_option maxHeartbeats 4000000 in
theorem l08Own_any (a1 a2 : Option Addr) (n1 n2 c1 c2 : Nat) (xs ys : List Int) (pl ra rb ph wi re tu : Int) (w : World) (h1 : xs.length = n1) (h2 : ys.length = n2) (l1 : 0 < n1) (l2 : 0 < n2) (m1 : n1 ≤ 1048576) (m2 : n2 ≤ 1048576) (r1 : IRow w a1 xs) (r2 : IRow w a2 ys) :
    Calls Try.prog 101 #[.agg #[.slice a1 n1 c1, .slice a2 n2 c2, .int .i64 pl, .int .i64 ra, .int .i64 rb, .int .i64 ph, .int .i64 wi, .int .i64 re, .int .i64 tu]] w (GameOwnK xs ys n1 n2 pl ra rb ph wi re tu w) := by
  have hA : ∀ (W : World), IRow W a1 xs → Calls Try.prog 129 #[.slice a1 n1 c1] W fun e w' => ∃ b k, e = .returned (.slice (some ⟨b, 0, none⟩) n1 k) ∧ W.heap.size ≤ b ∧ Row w' b xs ∧ Below W.heap.size W w' := fun W r => (l02Own_any a1 n1 c1 xs W h1 l1 m1 r).mono (by rintro e w' ⟨b, k, rfl, q1, q2, q3⟩; exact ⟨b, k, by rw [h1], q1, q2, q3⟩)
  have hB : ∀ (W : World), IRow W a2 ys → Calls Try.prog 129 #[.slice a2 n2 c2] W fun e w' => ∃ b k, e = .returned (.slice (some ⟨b, 0, none⟩) n2 k) ∧ W.heap.size ≤ b ∧ Row w' b ys ∧ Below W.heap.size W w' := fun W r => (l02Own_any a2 n2 c2 ys W h2 l2 m2 r).mono (by rintro e w' ⟨b, k, rfl, q1, q2, q3⟩; exact ⟨b, k, by rw [h2], q1, q2, q3⟩)
  have HA := Lib.hid hA
  have HB := Lib.hid hB
  clear hA hB
  obtain ⟨BG, BO, hb, hz⟩ := two_new' w #[.slice a1 n1 c1, .slice a2 n2 c2, .int .i64 pl, .int .i64 ra, .int .i64 rb, .int .i64 ph, .int .i64 wi, .int .i64 re, .int .i64 tu] #[.slice none 0 0, .slice none 0 0, .int .i64 0, .int .i64 0, .int .i64 0, .int .i64 0, .int .i64 0, .int .i64 0, .int .i64 0] 70 70
  replace r1 := r1.below hb
  replace r2 := r2.below hb
  go_enter Try.func101, Try.ntmps101
  obtain ⟨ga0, ga1, ga2, ga3, ga4, ga5, ga6, ga7, ga8, gaf, gal⟩ := BG.nine
  go_wp2_with fail
  clear ga0 ga1 ga2 ga3 ga4 ga5 ga6 ga7 ga8 gaf gal
  generalize ((w.alloc (.cells #[.slice a1 n1 c1, .slice a2 n2 c2, .int .i64 pl, .int .i64 ra, .int .i64 rb, .int .i64 ph, .int .i64 wi, .int .i64 re, .int .i64 tu] 70)).alloc (.cells #[.slice none 0 0, .slice none 0 0, .int .i64 0, .int .i64 0, .int .i64 0, .int .i64 0, .int .i64 0, .int .i64 0, .int .i64 0] 70)) = v0 at *
  refine wp_region_held_drew (S := fun _ => True) (by kernel_rfl) trivial (fun hHeld => ?_)
  clear hHeld
  have hd_ : v0.drew.heap.size = v0.heap.size := rfl
  replace BG := BG.drew
  replace BO := BO.drew
  replace r1 := r1.drew
  replace r2 := r2.drew
  replace hb := hb.drew
  generalize v0.drew = vd at *
  have hHeld : True := trivial
  refine wpAnyH_take (i := 0) (oi := { dst := some 3, op := _, type := _, pos := _, after := _, guard := _ }) (v := ?_) rfl (by kernel_rfl) (by kernel_rfl) (by kernel_rfl) (fun _ _ _ h => h) (Or.inl ⟨by rfl, ?_⟩) (by assumption) ?_
  rotate_left
  · intro w hSw
    (try dsimp only at hSw)
    go_simp
    (try (with_reducible rfl))
  try simp only [Act.put, List.setIfInBounds_toArray, List.set_cons_zero, List.set_cons_succ]
  refine wpAnyH_take (i := 1) (oi := { dst := some 4, op := _, type := _, pos := _, after := _, guard := _ }) (v := ?_) rfl (by kernel_rfl) (by kernel_rfl) (by kernel_rfl) (fun _ _ _ h => h) (Or.inl ⟨by rfl, ?_⟩) (by assumption) ?_
  rotate_left
  · intro w hSw
    (try dsimp only at hSw)
    go_simp
    (try (with_reducible rfl))
  try simp only [Act.put, List.setIfInBounds_toArray, List.set_cons_zero, List.set_cons_succ]
  refine wpAnyH_take (i := 4) (oi := { dst := some 7, op := _, type := _, pos := _, after := _, guard := _ }) (v := ?_) rfl (by kernel_rfl) (by kernel_rfl) (by kernel_rfl) (fun _ _ _ h => h) (Or.inl ⟨by rfl, ?_⟩) (by assumption) ?_
  rotate_left
  · intro w hSw
    (try dsimp only at hSw)
    go_simp
    (try (with_reducible rfl))
  try simp only [Act.put, List.setIfInBounds_toArray, List.set_cons_zero, List.set_cons_succ]
  refine wpAnyH_take (i := 5) (oi := { dst := some 8, op := _, type := _, pos := _, after := _, guard := _ }) (v := ?_) rfl (by kernel_rfl) (by kernel_rfl) (by kernel_rfl) (fun _ _ _ h => h) (Or.inl ⟨by rfl, ?_⟩) (by assumption) ?_
  rotate_left
  · intro w hSw
    (try dsimp only at hSw)
    go_simp
    (try (with_reducible rfl))
  try simp only [Act.put, List.setIfInBounds_toArray, List.set_cons_zero, List.set_cons_succ]
  refine wpAnyH_ready (rs := [2, 6]) (by kernel_rfl) (by simp) ?_
  refine AllReadyH.cons (o := { dst := some 5, op := _, type := _, pos := _, after := _, guard := _ }) rfl (fun K hK => ?_) (AllReadyH.cons (o := { dst := some 9, op := _, type := _, pos := _, after := _, guard := _ }) rfl (fun K hK => ?_) AllReadyH.nil)
  · obtain ⟨ga0, ga1, ga2, ga3, ga4, ga5, ga6, ga7, ga8, gaf, gal⟩ := BG.nine
    go_simp
    (try go_wp2_with fail)
    refine hK.out _ _ trivial (fun hHeld => ?_)
    clear hK K
    try simp only [Act.put, List.setIfInBounds_toArray, List.set_cons_zero, List.set_cons_succ]
    clear ga0 ga1 ga2 ga3 ga4 ga5 ga6 ga7 ga8 gaf gal
    refine wpAnyH_ready (rs := [3, 6]) (by kernel_rfl) (by simp) ?_
    refine AllReadyH.cons (o := { dst := some 6, op := _, type := _, pos := _, after := _, guard := _ }) rfl (fun K hK => ?_) (AllReadyH.cons (o := { dst := some 9, op := _, type := _, pos := _, after := _, guard := _ }) rfl (fun K hK => ?_) AllReadyH.nil)
    · go_simp
      refine (HA.out _ r1).mono ?_
      rintro e w3 ⟨b1, k1, rfl, hq1, R1, hbA⟩
      replace BG := BG.below hbA
      replace BO := BO.below hbA
      replace r1 := r1.below hbA
      replace r2 := r2.below hbA
      have hz_hbA := hbA.size
      replace hb := chain hb hbA
      clear hbA
      have hl1 := R1.lt
      (try go_wp2_with fail)
      refine hK.out _ _ trivial (fun hHeld => ?_)
      clear hK K
      try simp only [Act.put, List.setIfInBounds_toArray, List.set_cons_zero, List.set_cons_succ]
      refine wpAnyH_ready (rs := [6]) (by kernel_rfl) (by simp) ?_
      refine AllReadyH.cons (o := { dst := some 9, op := _, type := _, pos := _, after := _, guard := _ }) rfl (fun K hK => ?_) AllReadyH.nil
      obtain ⟨ga0, ga1, ga2, ga3, ga4, ga5, ga6, ga7, ga8, gaf, gal⟩ := BG.nine
      go_simp
      (try go_wp2_with fail)
      refine hK.out _ _ trivial (fun hHeld => ?_)
      clear hK K
      try simp only [Act.put, List.setIfInBounds_toArray, List.set_cons_zero, List.set_cons_succ]
      clear ga0 ga1 ga2 ga3 ga4 ga5 ga6 ga7 ga8 gaf gal
      refine wpAnyH_ready (rs := [7]) (by kernel_rfl) (by simp) ?_
      refine AllReadyH.cons (o := { dst := some 10, op := _, type := _, pos := _, after := _, guard := _ }) rfl (fun K hK => ?_) AllReadyH.nil
      go_simp
      refine (HB.out _ r2).mono ?_
      rintro e w7 ⟨b2, k2, rfl, hq2, R2, hbB⟩
      replace R1 := R1.below hbB
      replace BG := BG.below hbB
      replace BO := BO.below hbB
      replace r1 := r1.below hbB
      replace r2 := r2.below hbB
      have hz_hbB := hbB.size
      replace hb := chain hb hbB
      clear hbB
      have hl2 := R2.lt
      (try go_wp2_with fail)
      refine hK.out _ _ trivial (fun hHeld => ?_)
      clear hK K
      try simp only [Act.put, List.setIfInBounds_toArray, List.set_cons_zero, List.set_cons_succ]
      refine wpAnyH_take (i := 8) (oi := { dst := some 11, op := _, type := _, pos := _, after := _, guard := _ }) (v := ?_) rfl (by kernel_rfl) (by kernel_rfl) (by kernel_rfl) (fun _ _ _ h => h) (Or.inl ⟨by rfl, ?_⟩) (by assumption) ?_
      rotate_left
      · intro w hSw
        (try dsimp only at hSw)
        go_simp
        (try (with_reducible rfl))
      try simp only [Act.put, List.setIfInBounds_toArray, List.set_cons_zero, List.set_cons_succ]
      refine wpAnyH_take (i := 9) (oi := { dst := some 12, op := _, type := _, pos := _, after := _, guard := _ }) (v := ?_) rfl (by kernel_rfl) (by kernel_rfl) (by kernel_rfl) (fun _ _ _ h => h) (Or.inl ⟨by rfl, ?_⟩) (by assumption) ?_
      rotate_left
      · intro w hSw
        (try dsimp only at hSw)
        go_simp
        (try (with_reducible rfl))
      try simp only [Act.put, List.setIfInBounds_toArray, List.set_cons_zero, List.set_cons_succ]
      refine wpAnyH_ready (rs := [10]) (by kernel_rfl) (by simp) ?_
      refine AllReadyH.cons (o := { dst := none, op := _, type := _, pos := _, after := _, guard := _ }) rfl (fun K hK => ?_) AllReadyH.nil
      obtain ⟨ga0, ga1, ga2, ga3, ga4, ga5, ga6, ga7, ga8, gaf, gal⟩ := BG.nine
      go_simp
      (try go_wp2_with fail)
      refine hK.out _ _ trivial (fun hHeld => ?_)
      clear hK K
      try simp only [Act.put, List.setIfInBounds_toArray, List.set_cons_zero, List.set_cons_succ]
      refine wpAnyH_done (by kernel_rfl) ?_ _
      clear ga0 ga1 ga2 ga3 ga4 ga5 ga6 ga7 ga8 gaf gal
      clear hHeld
      have MG := BG.setG2b (.slice (some ⟨b1, 0, none⟩) n1 k1) (.slice (some ⟨b2, 0, none⟩) n2 k2)
      have MO := (BO.other (g := w.heap.size) (o := 0) (v := .slice (some ⟨b1, 0, none⟩) n1 k1) (by omega)).other (g := w.heap.size) (o := 1) (v := .slice (some ⟨b2, 0, none⟩) n2 k2) (by omega)
      have M1 := (R1.other (g := w.heap.size) (o := 0) (v := .slice (some ⟨b1, 0, none⟩) n1 k1) (by omega)).other (g := w.heap.size) (o := 1) (v := .slice (some ⟨b2, 0, none⟩) n2 k2) (by omega)
      have M2 := (R2.other (g := w.heap.size) (o := 0) (v := .slice (some ⟨b1, 0, none⟩) n1 k1) (by omega)).other (g := w.heap.size) (o := 1) (v := .slice (some ⟨b2, 0, none⟩) n2 k2) (by omega)
      have hM := (hb.setCell (p := ⟨w.heap.size, 0, none⟩) (Nat.le_refl _) (.slice (some ⟨b1, 0, none⟩) n1 k1)).setCell (p := ⟨w.heap.size, 1, none⟩) (Nat.le_refl _) (.slice (some ⟨b2, 0, none⟩) n2 k2)
      clear BG BO R1 R2 hb
      generalize ((w7.setCell ⟨w.heap.size, 0, none⟩ (.slice (some ⟨b1, 0, none⟩) n1 k1)).setCell ⟨w.heap.size, 1, none⟩ (.slice (some ⟨b2, 0, none⟩) n2 k2)) = w8 at *
      have BG := MG
      have BO := MO
      obtain ⟨ga0, ga1, ga2, ga3, ga4, ga5, ga6, ga7, ga8, gaf, gal⟩ := BG.nine
      obtain ⟨go0, go1, go2, go3, go4, go5, go6, go7, go8, gof, gol⟩ := BO.nine
      go_wp2_with fail
      clear ga0 ga1 ga2 ga3 ga4 ga5 ga6 ga7 ga8 gaf gal
      clear go0 go1 go2 go3 go4 go5 go6 go7 go8 gof gol
      have MF := BO.setG9 (.slice (some ⟨b1, 0, none⟩) n1 k1) (.slice (some ⟨b2, 0, none⟩) n2 k2) (.int .i64 pl) (.int .i64 ra) (.int .i64 rb) (.int .i64 ph) (.int .i64 wi) (.int .i64 re) (.int .i64 tu)
      have N1 := M1.farG9 (B := w.heap.size + 1) (by omega) (.slice (some ⟨b1, 0, none⟩) n1 k1) (.slice (some ⟨b2, 0, none⟩) n2 k2) (.int .i64 pl) (.int .i64 ra) (.int .i64 rb) (.int .i64 ph) (.int .i64 wi) (.int .i64 re) (.int .i64 tu)
      have N2 := M2.farG9 (B := w.heap.size + 1) (by omega) (.slice (some ⟨b1, 0, none⟩) n1 k1) (.slice (some ⟨b2, 0, none⟩) n2 k2) (.int .i64 pl) (.int .i64 ra) (.int .i64 rb) (.int .i64 ph) (.int .i64 wi) (.int .i64 re) (.int .i64 tu)
      have hN := Below.farG9 hM (B := w.heap.size + 1) (by omega) (.slice (some ⟨b1, 0, none⟩) n1 k1) (.slice (some ⟨b2, 0, none⟩) n2 k2) (.int .i64 pl) (.int .i64 ra) (.int .i64 rb) (.int .i64 ph) (.int .i64 wi) (.int .i64 re) (.int .i64 tu)
      clear BG BO MG MO M1 M2 hM
      generalize (((((((((w8.setCell ⟨(w.heap.size + 1), 0, none⟩ (.slice (some ⟨b1, 0, none⟩) n1 k1)).setCell ⟨(w.heap.size + 1), 1, none⟩ (.slice (some ⟨b2, 0, none⟩) n2 k2)).setCell ⟨(w.heap.size + 1), 2, none⟩ (.int .i64 pl)).setCell ⟨(w.heap.size + 1), 3, none⟩ (.int .i64 ra)).setCell ⟨(w.heap.size + 1), 4, none⟩ (.int .i64 rb)).setCell ⟨(w.heap.size + 1), 5, none⟩ (.int .i64 ph)).setCell ⟨(w.heap.size + 1), 6, none⟩ (.int .i64 wi)).setCell ⟨(w.heap.size + 1), 7, none⟩ (.int .i64 re)).setCell ⟨(w.heap.size + 1), 8, none⟩ (.int .i64 tu)) = we at *
      obtain ⟨go0, go1, go2, go3, go4, go5, go6, go7, go8, gof, gol⟩ := MF.nine
      refine bodyPost_ret (v := .agg #[.slice (some ⟨b1, 0, none⟩) n1 k1, .slice (some ⟨b2, 0, none⟩) n2 k2, .int .i64 pl, .int .i64 ra, .int .i64 rb, .int .i64 ph, .int .i64 wi, .int .i64 re, .int .i64 tu]) (by simp [results, Try.results101, go_sem, go0, go1, go2, go3, go4, go5, go6, go7, go8]) rfl ?_
      exact ⟨b1, b2, k1, k2, rfl, by omega, by omega, by omega, N1, N2, hN⟩
    · obtain ⟨ga0, ga1, ga2, ga3, ga4, ga5, ga6, ga7, ga8, gaf, gal⟩ := BG.nine
      go_simp
      (try go_wp2_with fail)
      refine hK.out _ _ trivial (fun hHeld => ?_)
      clear hK K
      try simp only [Act.put, List.setIfInBounds_toArray, List.set_cons_zero, List.set_cons_succ]
      clear ga0 ga1 ga2 ga3 ga4 ga5 ga6 ga7 ga8 gaf gal
      refine wpAnyH_ready (rs := [3]) (by kernel_rfl) (by simp) ?_
      refine AllReadyH.cons (o := { dst := some 6, op := _, type := _, pos := _, after := _, guard := _ }) rfl (fun K hK => ?_) AllReadyH.nil
      go_simp
      refine (HA.out _ r1).mono ?_
      rintro e w3 ⟨b1, k1, rfl, hq1, R1, hbA⟩
      replace BG := BG.below hbA
      replace BO := BO.below hbA
      replace r1 := r1.below hbA
      replace r2 := r2.below hbA
      have hz_hbA := hbA.size
      replace hb := chain hb hbA
      clear hbA
      have hl1 := R1.lt
      (try go_wp2_with fail)
      refine hK.out _ _ trivial (fun hHeld => ?_)
      clear hK K
      try simp only [Act.put, List.setIfInBounds_toArray, List.set_cons_zero, List.set_cons_succ]
      refine wpAnyH_ready (rs := [7]) (by kernel_rfl) (by simp) ?_
      refine AllReadyH.cons (o := { dst := some 10, op := _, type := _, pos := _, after := _, guard := _ }) rfl (fun K hK => ?_) AllReadyH.nil
      go_simp
      refine (HB.out _ r2).mono ?_
      rintro e w7 ⟨b2, k2, rfl, hq2, R2, hbB⟩
      replace R1 := R1.below hbB
      replace BG := BG.below hbB
      replace BO := BO.below hbB
      replace r1 := r1.below hbB
      replace r2 := r2.below hbB
      have hz_hbB := hbB.size
      replace hb := chain hb hbB
      clear hbB
      have hl2 := R2.lt
      (try go_wp2_with fail)
      refine hK.out _ _ trivial (fun hHeld => ?_)
      clear hK K
      try simp only [Act.put, List.setIfInBounds_toArray, List.set_cons_zero, List.set_cons_succ]
      refine wpAnyH_take (i := 8) (oi := { dst := some 11, op := _, type := _, pos := _, after := _, guard := _ }) (v := ?_) rfl (by kernel_rfl) (by kernel_rfl) (by kernel_rfl) (fun _ _ _ h => h) (Or.inl ⟨by rfl, ?_⟩) (by assumption) ?_
      rotate_left
      · intro w hSw
        (try dsimp only at hSw)
        go_simp
        (try (with_reducible rfl))
      try simp only [Act.put, List.setIfInBounds_toArray, List.set_cons_zero, List.set_cons_succ]
      refine wpAnyH_take (i := 9) (oi := { dst := some 12, op := _, type := _, pos := _, after := _, guard := _ }) (v := ?_) rfl (by kernel_rfl) (by kernel_rfl) (by kernel_rfl) (fun _ _ _ h => h) (Or.inl ⟨by rfl, ?_⟩) (by assumption) ?_
      rotate_left
      · intro w hSw
        (try dsimp only at hSw)
        go_simp
        (try (with_reducible rfl))
      try simp only [Act.put, List.setIfInBounds_toArray, List.set_cons_zero, List.set_cons_succ]
      refine wpAnyH_ready (rs := [10]) (by kernel_rfl) (by simp) ?_
      refine AllReadyH.cons (o := { dst := none, op := _, type := _, pos := _, after := _, guard := _ }) rfl (fun K hK => ?_) AllReadyH.nil
      obtain ⟨ga0, ga1, ga2, ga3, ga4, ga5, ga6, ga7, ga8, gaf, gal⟩ := BG.nine
      go_simp
      (try go_wp2_with fail)
      refine hK.out _ _ trivial (fun hHeld => ?_)
      clear hK K
      try simp only [Act.put, List.setIfInBounds_toArray, List.set_cons_zero, List.set_cons_succ]
      refine wpAnyH_done (by kernel_rfl) ?_ _
      clear ga0 ga1 ga2 ga3 ga4 ga5 ga6 ga7 ga8 gaf gal
      clear hHeld
      have MG := BG.setG2b (.slice (some ⟨b1, 0, none⟩) n1 k1) (.slice (some ⟨b2, 0, none⟩) n2 k2)
      have MO := (BO.other (g := w.heap.size) (o := 0) (v := .slice (some ⟨b1, 0, none⟩) n1 k1) (by omega)).other (g := w.heap.size) (o := 1) (v := .slice (some ⟨b2, 0, none⟩) n2 k2) (by omega)
      have M1 := (R1.other (g := w.heap.size) (o := 0) (v := .slice (some ⟨b1, 0, none⟩) n1 k1) (by omega)).other (g := w.heap.size) (o := 1) (v := .slice (some ⟨b2, 0, none⟩) n2 k2) (by omega)
      have M2 := (R2.other (g := w.heap.size) (o := 0) (v := .slice (some ⟨b1, 0, none⟩) n1 k1) (by omega)).other (g := w.heap.size) (o := 1) (v := .slice (some ⟨b2, 0, none⟩) n2 k2) (by omega)
      have hM := (hb.setCell (p := ⟨w.heap.size, 0, none⟩) (Nat.le_refl _) (.slice (some ⟨b1, 0, none⟩) n1 k1)).setCell (p := ⟨w.heap.size, 1, none⟩) (Nat.le_refl _) (.slice (some ⟨b2, 0, none⟩) n2 k2)
      clear BG BO R1 R2 hb
      generalize ((w7.setCell ⟨w.heap.size, 0, none⟩ (.slice (some ⟨b1, 0, none⟩) n1 k1)).setCell ⟨w.heap.size, 1, none⟩ (.slice (some ⟨b2, 0, none⟩) n2 k2)) = w8 at *
      have BG := MG
      have BO := MO
      obtain ⟨ga0, ga1, ga2, ga3, ga4, ga5, ga6, ga7, ga8, gaf, gal⟩ := BG.nine
      obtain ⟨go0, go1, go2, go3, go4, go5, go6, go7, go8, gof, gol⟩ := BO.nine
      go_wp2_with fail
      clear ga0 ga1 ga2 ga3 ga4 ga5 ga6 ga7 ga8 gaf gal
      clear go0 go1 go2 go3 go4 go5 go6 go7 go8 gof gol
      have MF := BO.setG9 (.slice (some ⟨b1, 0, none⟩) n1 k1) (.slice (some ⟨b2, 0, none⟩) n2 k2) (.int .i64 pl) (.int .i64 ra) (.int .i64 rb) (.int .i64 ph) (.int .i64 wi) (.int .i64 re) (.int .i64 tu)
      have N1 := M1.farG9 (B := w.heap.size + 1) (by omega) (.slice (some ⟨b1, 0, none⟩) n1 k1) (.slice (some ⟨b2, 0, none⟩) n2 k2) (.int .i64 pl) (.int .i64 ra) (.int .i64 rb) (.int .i64 ph) (.int .i64 wi) (.int .i64 re) (.int .i64 tu)
      have N2 := M2.farG9 (B := w.heap.size + 1) (by omega) (.slice (some ⟨b1, 0, none⟩) n1 k1) (.slice (some ⟨b2, 0, none⟩) n2 k2) (.int .i64 pl) (.int .i64 ra) (.int .i64 rb) (.int .i64 ph) (.int .i64 wi) (.int .i64 re) (.int .i64 tu)
      have hN := Below.farG9 hM (B := w.heap.size + 1) (by omega) (.slice (some ⟨b1, 0, none⟩) n1 k1) (.slice (some ⟨b2, 0, none⟩) n2 k2) (.int .i64 pl) (.int .i64 ra) (.int .i64 rb) (.int .i64 ph) (.int .i64 wi) (.int .i64 re) (.int .i64 tu)
      clear BG BO MG MO M1 M2 hM
      generalize (((((((((w8.setCell ⟨(w.heap.size + 1), 0, none⟩ (.slice (some ⟨b1, 0, none⟩) n1 k1)).setCell ⟨(w.heap.size + 1), 1, none⟩ (.slice (some ⟨b2, 0, none⟩) n2 k2)).setCell ⟨(w.heap.size + 1), 2, none⟩ (.int .i64 pl)).setCell ⟨(w.heap.size + 1), 3, none⟩ (.int .i64 ra)).setCell ⟨(w.heap.size + 1), 4, none⟩ (.int .i64 rb)).setCell ⟨(w.heap.size + 1), 5, none⟩ (.int .i64 ph)).setCell ⟨(w.heap.size + 1), 6, none⟩ (.int .i64 wi)).setCell ⟨(w.heap.size + 1), 7, none⟩ (.int .i64 re)).setCell ⟨(w.heap.size + 1), 8, none⟩ (.int .i64 tu)) = we at *
      obtain ⟨go0, go1, go2, go3, go4, go5, go6, go7, go8, gof, gol⟩ := MF.nine
      refine bodyPost_ret (v := .agg #[.slice (some ⟨b1, 0, none⟩) n1 k1, .slice (some ⟨b2, 0, none⟩) n2 k2, .int .i64 pl, .int .i64 ra, .int .i64 rb, .int .i64 ph, .int .i64 wi, .int .i64 re, .int .i64 tu]) (by simp [results, Try.results101, go_sem, go0, go1, go2, go3, go4, go5, go6, go7, go8]) rfl ?_
      exact ⟨b1, b2, k1, k2, rfl, by omega, by omega, by omega, N1, N2, hN⟩
  · obtain ⟨ga0, ga1, ga2, ga3, ga4, ga5, ga6, ga7, ga8, gaf, gal⟩ := BG.nine
    go_simp
    (try go_wp2_with fail)
    refine hK.out _ _ trivial (fun hHeld => ?_)
    clear hK K
    try simp only [Act.put, List.setIfInBounds_toArray, List.set_cons_zero, List.set_cons_succ]
    clear ga0 ga1 ga2 ga3 ga4 ga5 ga6 ga7 ga8 gaf gal
    refine wpAnyH_ready (rs := [2]) (by kernel_rfl) (by simp) ?_
    refine AllReadyH.cons (o := { dst := some 5, op := _, type := _, pos := _, after := _, guard := _ }) rfl (fun K hK => ?_) AllReadyH.nil
    obtain ⟨ga0, ga1, ga2, ga3, ga4, ga5, ga6, ga7, ga8, gaf, gal⟩ := BG.nine
    go_simp
    (try go_wp2_with fail)
    refine hK.out _ _ trivial (fun hHeld => ?_)
    clear hK K
    try simp only [Act.put, List.setIfInBounds_toArray, List.set_cons_zero, List.set_cons_succ]
    clear ga0 ga1 ga2 ga3 ga4 ga5 ga6 ga7 ga8 gaf gal
    refine wpAnyH_ready (rs := [3]) (by kernel_rfl) (by simp) ?_
    refine AllReadyH.cons (o := { dst := some 6, op := _, type := _, pos := _, after := _, guard := _ }) rfl (fun K hK => ?_) AllReadyH.nil
    go_simp
    refine (HA.out _ r1).mono ?_
    rintro e w3 ⟨b1, k1, rfl, hq1, R1, hbA⟩
    replace BG := BG.below hbA
    replace BO := BO.below hbA
    replace r1 := r1.below hbA
    replace r2 := r2.below hbA
    have hz_hbA := hbA.size
    replace hb := chain hb hbA
    clear hbA
    have hl1 := R1.lt
    (try go_wp2_with fail)
    refine hK.out _ _ trivial (fun hHeld => ?_)
    clear hK K
    try simp only [Act.put, List.setIfInBounds_toArray, List.set_cons_zero, List.set_cons_succ]
    refine wpAnyH_ready (rs := [7]) (by kernel_rfl) (by simp) ?_
    refine AllReadyH.cons (o := { dst := some 10, op := _, type := _, pos := _, after := _, guard := _ }) rfl (fun K hK => ?_) AllReadyH.nil
    go_simp
    refine (HB.out _ r2).mono ?_
    rintro e w7 ⟨b2, k2, rfl, hq2, R2, hbB⟩
    replace R1 := R1.below hbB
    replace BG := BG.below hbB
    replace BO := BO.below hbB
    replace r1 := r1.below hbB
    replace r2 := r2.below hbB
    have hz_hbB := hbB.size
    replace hb := chain hb hbB
    clear hbB
    have hl2 := R2.lt
    (try go_wp2_with fail)
    refine hK.out _ _ trivial (fun hHeld => ?_)
    clear hK K
    try simp only [Act.put, List.setIfInBounds_toArray, List.set_cons_zero, List.set_cons_succ]
    refine wpAnyH_take (i := 8) (oi := { dst := some 11, op := _, type := _, pos := _, after := _, guard := _ }) (v := ?_) rfl (by kernel_rfl) (by kernel_rfl) (by kernel_rfl) (fun _ _ _ h => h) (Or.inl ⟨by rfl, ?_⟩) (by assumption) ?_
    rotate_left
    · intro w hSw
      (try dsimp only at hSw)
      go_simp
      (try (with_reducible rfl))
    try simp only [Act.put, List.setIfInBounds_toArray, List.set_cons_zero, List.set_cons_succ]
    refine wpAnyH_take (i := 9) (oi := { dst := some 12, op := _, type := _, pos := _, after := _, guard := _ }) (v := ?_) rfl (by kernel_rfl) (by kernel_rfl) (by kernel_rfl) (fun _ _ _ h => h) (Or.inl ⟨by rfl, ?_⟩) (by assumption) ?_
    rotate_left
    · intro w hSw
      (try dsimp only at hSw)
      go_simp
      (try (with_reducible rfl))
    try simp only [Act.put, List.setIfInBounds_toArray, List.set_cons_zero, List.set_cons_succ]
    refine wpAnyH_ready (rs := [10]) (by kernel_rfl) (by simp) ?_
    refine AllReadyH.cons (o := { dst := none, op := _, type := _, pos := _, after := _, guard := _ }) rfl (fun K hK => ?_) AllReadyH.nil
    obtain ⟨ga0, ga1, ga2, ga3, ga4, ga5, ga6, ga7, ga8, gaf, gal⟩ := BG.nine
    go_simp
    (try go_wp2_with fail)
    refine hK.out _ _ trivial (fun hHeld => ?_)
    clear hK K
    try simp only [Act.put, List.setIfInBounds_toArray, List.set_cons_zero, List.set_cons_succ]
    refine wpAnyH_done (by kernel_rfl) ?_ _
    clear ga0 ga1 ga2 ga3 ga4 ga5 ga6 ga7 ga8 gaf gal
    clear hHeld
    have MG := BG.setG2b (.slice (some ⟨b1, 0, none⟩) n1 k1) (.slice (some ⟨b2, 0, none⟩) n2 k2)
    have MO := (BO.other (g := w.heap.size) (o := 0) (v := .slice (some ⟨b1, 0, none⟩) n1 k1) (by omega)).other (g := w.heap.size) (o := 1) (v := .slice (some ⟨b2, 0, none⟩) n2 k2) (by omega)
    have M1 := (R1.other (g := w.heap.size) (o := 0) (v := .slice (some ⟨b1, 0, none⟩) n1 k1) (by omega)).other (g := w.heap.size) (o := 1) (v := .slice (some ⟨b2, 0, none⟩) n2 k2) (by omega)
    have M2 := (R2.other (g := w.heap.size) (o := 0) (v := .slice (some ⟨b1, 0, none⟩) n1 k1) (by omega)).other (g := w.heap.size) (o := 1) (v := .slice (some ⟨b2, 0, none⟩) n2 k2) (by omega)
    have hM := (hb.setCell (p := ⟨w.heap.size, 0, none⟩) (Nat.le_refl _) (.slice (some ⟨b1, 0, none⟩) n1 k1)).setCell (p := ⟨w.heap.size, 1, none⟩) (Nat.le_refl _) (.slice (some ⟨b2, 0, none⟩) n2 k2)
    clear BG BO R1 R2 hb
    generalize ((w7.setCell ⟨w.heap.size, 0, none⟩ (.slice (some ⟨b1, 0, none⟩) n1 k1)).setCell ⟨w.heap.size, 1, none⟩ (.slice (some ⟨b2, 0, none⟩) n2 k2)) = w8 at *
    have BG := MG
    have BO := MO
    obtain ⟨ga0, ga1, ga2, ga3, ga4, ga5, ga6, ga7, ga8, gaf, gal⟩ := BG.nine
    obtain ⟨go0, go1, go2, go3, go4, go5, go6, go7, go8, gof, gol⟩ := BO.nine
    go_wp2_with fail
    clear ga0 ga1 ga2 ga3 ga4 ga5 ga6 ga7 ga8 gaf gal
    clear go0 go1 go2 go3 go4 go5 go6 go7 go8 gof gol
    have MF := BO.setG9 (.slice (some ⟨b1, 0, none⟩) n1 k1) (.slice (some ⟨b2, 0, none⟩) n2 k2) (.int .i64 pl) (.int .i64 ra) (.int .i64 rb) (.int .i64 ph) (.int .i64 wi) (.int .i64 re) (.int .i64 tu)
    have N1 := M1.farG9 (B := w.heap.size + 1) (by omega) (.slice (some ⟨b1, 0, none⟩) n1 k1) (.slice (some ⟨b2, 0, none⟩) n2 k2) (.int .i64 pl) (.int .i64 ra) (.int .i64 rb) (.int .i64 ph) (.int .i64 wi) (.int .i64 re) (.int .i64 tu)
    have N2 := M2.farG9 (B := w.heap.size + 1) (by omega) (.slice (some ⟨b1, 0, none⟩) n1 k1) (.slice (some ⟨b2, 0, none⟩) n2 k2) (.int .i64 pl) (.int .i64 ra) (.int .i64 rb) (.int .i64 ph) (.int .i64 wi) (.int .i64 re) (.int .i64 tu)
    have hN := Below.farG9 hM (B := w.heap.size + 1) (by omega) (.slice (some ⟨b1, 0, none⟩) n1 k1) (.slice (some ⟨b2, 0, none⟩) n2 k2) (.int .i64 pl) (.int .i64 ra) (.int .i64 rb) (.int .i64 ph) (.int .i64 wi) (.int .i64 re) (.int .i64 tu)
    clear BG BO MG MO M1 M2 hM
    generalize (((((((((w8.setCell ⟨(w.heap.size + 1), 0, none⟩ (.slice (some ⟨b1, 0, none⟩) n1 k1)).setCell ⟨(w.heap.size + 1), 1, none⟩ (.slice (some ⟨b2, 0, none⟩) n2 k2)).setCell ⟨(w.heap.size + 1), 2, none⟩ (.int .i64 pl)).setCell ⟨(w.heap.size + 1), 3, none⟩ (.int .i64 ra)).setCell ⟨(w.heap.size + 1), 4, none⟩ (.int .i64 rb)).setCell ⟨(w.heap.size + 1), 5, none⟩ (.int .i64 ph)).setCell ⟨(w.heap.size + 1), 6, none⟩ (.int .i64 wi)).setCell ⟨(w.heap.size + 1), 7, none⟩ (.int .i64 re)).setCell ⟨(w.heap.size + 1), 8, none⟩ (.int .i64 tu)) = we at *
    obtain ⟨go0, go1, go2, go3, go4, go5, go6, go7, go8, gof, gol⟩ := MF.nine
    refine bodyPost_ret (v := .agg #[.slice (some ⟨b1, 0, none⟩) n1 k1, .slice (some ⟨b2, 0, none⟩) n2 k2, .int .i64 pl, .int .i64 ra, .int .i64 rb, .int .i64 ph, .int .i64 wi, .int .i64 re, .int .i64 tu]) (by simp [results, Try.results101, go_sem, go0, go1, go2, go3, go4, go5, go6, go7, go8]) rfl ?_
    exact ⟨b1, b2, k1, k2, rfl, by omega, by omega, by omega, N1, N2, hN⟩
end Go.Proofs.Ytokjkcnjmfbfiaa
