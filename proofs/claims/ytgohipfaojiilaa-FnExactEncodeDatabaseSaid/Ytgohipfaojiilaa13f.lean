/- Contracts of chapter 13: whether a database has the right form, of both sides. -/
import Derived.Test.Ytgohipfaojiilaa09i
import Derived.Test.Ytgohipfaojiilaa10d
import Derived.Test.YtgohipfaojiilaaExArg
import Derived.Deep.LoopGhost
namespace Go.Proofs.Ytgohipfaojiilaa
open Go.ChangeShapes Go.WideShapes Go.ChangeAt Go.RowKit
set_option linter.unusedVariables false
set_option linter.unusedSimpArgs false
set_option maxRecDepth 4000

theorem Blk.six {w : World} {g : Nat} {v0 v1 v2 v3 v4 v5 : Value} {t : TypeId} (h : Blk w g #[v0, v1, v2, v3, v4, v5] t) :
    w.cell? ⟨g, 0, none⟩ = some v0 ∧ w.cell? ⟨g, 1, none⟩ = some v1 ∧ w.cell? ⟨g, 2, none⟩ = some v2 ∧ w.cell? ⟨g, 3, none⟩ = some v3 ∧ w.cell? ⟨g, 4, none⟩ = some v4 ∧ w.cell? ⟨g, 5, none⟩ = some v5 ∧ (∀ i, w.frozen? ⟨g, i, none⟩ = false) ∧ g < w.heap.size :=
  ⟨by rw [h.cell 0]; rfl, by rw [h.cell 1]; rfl, by rw [h.cell 2]; rfl, by rw [h.cell 3]; rfl, by rw [h.cell 4]; rfl, by rw [h.cell 5]; rfl, fun i => h.free i, h.lt⟩
def kdB (kd : Int) : Bool := decide (kd = 1 ∨ kd = 2)
/-- How many entries: N positions. -/
def ecI (N kd : Int) : Int := if kd = 2 then N * N else N
/-- The number of entries of a variant and a kind, or -1. -/
def szI (N kd : Int) : Int := if 0 ≤ N ∧ N ≤ 500 then (if ecI N kd ≤ 2500 then ecI N kd else -1) else -1
def dbB (p c h s kd : Int) (L : List Rl) : Bool := vB p c h s && (kdB kd && (decide (szI (wyI h.toNat c.toNat) kd = (L.length : Int)) && L.all (fun r => xvB s.toNat r.1 r.2)))
/-- How many entries a database has, and whether it may. -/
def EcGot (N kd : Int) (w : World) (e : Ending) (w' : World) : Prop :=
  (∃ x ok, e = .returned (.tuple #[.int .i64 x, .bool ok]) ∧ (if ok = true then x else -1) = szI N kd ∧ -1 ≤ x ∧ x ≤ 250000) ∧ Below w.heap.size w w'
theorem szI_in {N kd : Int} (h : 0 ≤ N ∧ N ≤ 500) : szI N kd = if ecI N kd ≤ 2500 then ecI N kd else -1 := by rw [szI, if_pos h]
theorem wyI_bnd (k n : Nat) : -1 ≤ wyI k n ∧ wyI k n ≤ 1000000 := by
  unfold wyI
  split <;> omega
theorem ecI_bnd {N kd : Int} (h : 0 ≤ N ∧ N ≤ 500) : 0 ≤ ecI N kd ∧ ecI N kd ≤ 250000 := by
  unfold ecI
  have h1 := Int.mul_nonneg h.1 h.1
  have h2 : N * N ≤ 500 * 500 := Int.mul_le_mul h.2 h.2 h.1 (by omega)
  split <;> omega
theorem isKind_any (kd : Int) (w : World) : Calls Try.prog 44 #[.int .i64 kd] w fun e w' => e = .returned (.bool (kdB kd)) ∧ w = w' := by
  by_cases h1 : kd = 1
  · subst h1
    go_enter Try.func44, Try.ntmps44
    go_wp2
    go_ret
    exact ⟨rfl, rfl⟩
  · by_cases h2 : kd = 2
    · subst h2
      go_enter Try.func44, Try.ntmps44
      go_wp2
      go_ret
      exact ⟨rfl, rfl⟩
    · have e : kdB kd = false := by simp [kdB, h1, h2]
      rw [e]
      have e1 : (kd == 1) = false := by simp [h1]
      have e2 : (kd == 2) = false := by simp [h2]
      clear e
      go_enter Try.func44, Try.ntmps44
      go_wp2
      go_ret
      exact ⟨rfl, rfl⟩
theorem l13Kind_any (kd : Int) (w : World) : Calls Try.prog 38 #[.int .i64 kd] w fun e w' => e = .returned (.bool (kdB kd)) ∧ w = w' := by
  by_cases h1 : kd = 1
  · subst h1
    go_enter Try.func38, Try.ntmps38
    go_wp2
    go_ret
    exact ⟨rfl, rfl⟩
  · by_cases h2 : kd = 2
    · subst h2
      go_enter Try.func38, Try.ntmps38
      go_wp2
      go_ret
      exact ⟨rfl, rfl⟩
    · have e : kdB kd = false := by simp [kdB, h1, h2]
      rw [e]
      have e1 : (kd == 1) = false := by simp [h1]
      have e2 : (kd == 2) = false := by simp [h2]
      clear e
      go_enter Try.func38, Try.ntmps38
      go_wp2
      go_ret
      exact ⟨rfl, rfl⟩
set_option maxRecDepth 8000 in
set_option maxHeartbeats 1000000 in
theorem entryCount_any (p c h s kd : Int) (g : vB p c h s = true) (w : World) :
    Calls Try.prog 45 #[.agg #[.int .i64 p, .int .i64 c, .int .i64 h, .int .i64 s], .int .i64 kd] w (EcGot (wyI h.toNat c.toNat) kd w) := by
  have hv := vB_iff.1 g
  have hbc := fun W gg (q : WaysAt W gg) => bearoffCountM_any p s c.toNat h.toNat gg W (by omega) (by omega) q
  rw [show ((h.toNat : Nat) : Int) = h by omega, show ((c.toNat : Nat) : Int) = c by omega] at hbc
  obtain ⟨nb0, nb1⟩ := wyI_bnd h.toNat c.toNat
  obtain ⟨N, hN⟩ : ∃ N, wyI h.toNat c.toNat = N := ⟨_, rfl⟩
  rw [hN] at hbc nb0 nb1 ⊢
  have HBC := Lib.hid hbc
  clear hbc hN hv g
  have BV := Blk.new w #[.int .i64 p, .int .i64 c, .int .i64 h, .int .i64 s] 31
  have hb : Below w.heap.size w (w.alloc (.cells #[.int .i64 p, .int .i64 c, .int .i64 h, .int .i64 s] 31)) := (Below.refl _ _).alloc (Nat.le_refl _) _
  obtain ⟨x0, x1, x2, x3, xf, xl⟩ := BV.four
  go_enter Try.func45, Try.ntmps45
  go_wp2_with fail
  clear x0 x1 x2 x3 xf xl
  generalize (w.alloc (.cells #[.int .i64 p, .int .i64 c, .int .i64 h, .int .i64 s] 31)) = v0 at *
  have hd_ : v0.drew.heap.size = v0.heap.size := rfl
  replace BV := BV.drew
  replace hb := hb.drew
  refine wp_region_held_drew (S := fun w' => w'.cell? ⟨w.heap.size, 0, none⟩ = some (.int .i64 p) ∧ w'.cell? ⟨w.heap.size, 1, none⟩ = some (.int .i64 c) ∧ w'.cell? ⟨w.heap.size, 2, none⟩ = some (.int .i64 h) ∧ w'.cell? ⟨w.heap.size, 3, none⟩ = some (.int .i64 s)) (by kernel_rfl) ⟨BV.four.1, BV.four.2.1, BV.four.2.2.1, BV.four.2.2.2.1⟩ (fun hHeld => ?_)
  clear hHeld
  generalize v0.drew = vd at *
  have hHeld : vd.cell? ⟨w.heap.size, 0, none⟩ = some (.int .i64 p) ∧ vd.cell? ⟨w.heap.size, 1, none⟩ = some (.int .i64 c) ∧ vd.cell? ⟨w.heap.size, 2, none⟩ = some (.int .i64 h) ∧ vd.cell? ⟨w.heap.size, 3, none⟩ = some (.int .i64 s) := ⟨BV.four.1, BV.four.2.1, BV.four.2.2.1, BV.four.2.2.2.1⟩
  refine wpAnyH_take (i := 1) (oi := { dst := some 9, op := _, type := _, pos := _, after := _, guard := _ }) (v := ?_) rfl (by kernel_rfl) (by kernel_rfl) (by kernel_rfl) (fun _ _ _ h => h) (Or.inl ⟨by rfl, ?_⟩) (by assumption) ?_
  rotate_left
  · intro w hSw
    (try dsimp only at hSw)
    go_simp
    (try (with_reducible rfl))
  try simp only [Act.put, List.setIfInBounds_toArray, List.set_cons_zero, List.set_cons_succ]
  refine wpAnyH_ready (rs := [0]) (by kernel_rfl) (by simp) ?_
  refine AllReadyH.cons (o := { dst := some 8, op := _, type := _, pos := _, after := _, guard := _ }) rfl (fun K hK => ?_) AllReadyH.nil
  go_simp
  refine (countWays_any _).mono ?_
  rintro e w2 ⟨gw, rfl, hg, hW, hb2⟩
  replace BV := BV.below hb2
  replace hb := chain hb hb2
  clear hb2
  (try go_wp2_with fail)
  refine hK.out _ _ ⟨BV.four.1, BV.four.2.1, BV.four.2.2.1, BV.four.2.2.2.1⟩ (fun hHeld => ?_)
  clear hK K
  try simp only [Act.put, List.setIfInBounds_toArray, List.set_cons_zero, List.set_cons_succ]
  refine wpAnyH_ready (rs := [2]) (by kernel_rfl) (by simp) ?_
  refine AllReadyH.cons (o := { dst := some 10, op := _, type := _, pos := _, after := _, guard := _ }) rfl (fun K hK => ?_) AllReadyH.nil
  go_simp
  refine (HBC.out _ gw hW).mono ?_
  rintro e w3 ⟨rfl, hb3⟩
  replace BV := BV.below hb3
  replace hb := chain hb hb3
  clear hb3
  (try go_wp2_with fail)
  refine hK.out _ _ ⟨BV.four.1, BV.four.2.1, BV.four.2.2.1, BV.four.2.2.2.1⟩ (fun hHeld => ?_)
  clear hK K
  try simp only [Act.put, List.setIfInBounds_toArray, List.set_cons_zero, List.set_cons_succ]
  refine wpAnyH_take (i := 3) (oi := { dst := some 6, op := _, type := _, pos := _, after := _, guard := _ }) (v := ?_) rfl (by kernel_rfl) (by kernel_rfl) (by kernel_rfl) (fun _ _ _ h => h) (Or.inl ⟨by rfl, ?_⟩) (by assumption) ?_
  rotate_left
  · intro w hSw
    (try dsimp only at hSw)
    go_simp
    (try (with_reducible rfl))
  try simp only [Act.put, List.setIfInBounds_toArray, List.set_cons_zero, List.set_cons_succ]
  refine wpAnyH_done (by kernel_rfl) ?_ _
  clear hHeld
  by_cases c1 : N < 0
  · go_wp2_with fail
    refine bodyPost_ret (v := .tuple #[.int .i64 0, .bool false]) (by simp [results, Try.results45, go_sem]) rfl ?_
    exact ⟨⟨0, false, rfl, by simp [szI, show ¬ 0 ≤ N by omega], by omega, by omega⟩, hb⟩
  · by_cases c2 : 500 < N
    · go_wp2_with fail
      refine bodyPost_ret (v := .tuple #[.int .i64 0, .bool false]) (by simp [results, Try.results45, go_sem]) rfl ?_
      exact ⟨⟨0, false, rfl, by simp [szI, show ¬ N ≤ 500 by omega], by omega, by omega⟩, hb⟩
    · obtain ⟨e0, e1⟩ := ecI_bnd (N := N) (kd := kd) ⟨by omega, by omega⟩
      have hs := szI_in (N := N) (kd := kd) ⟨by omega, by omega⟩
      obtain ⟨X, hX⟩ : ∃ X, ecI N kd = X := ⟨_, rfl⟩
      rw [hX] at e0 e1 hs
      have HSZ := Lib.hid hs
      clear hs
      by_cases c3 : kd = 2
      · rw [ecI, if_pos c3] at hX
        have c4 : (kd == 2) = true := by simp [c3]
        have wz : IntKind.i64.wrap (N * N) = X := by rw [hX, IntWalk.i64_in _ (by omega)]
        clear hX c3
        go_wp2_with fail
        refine bodyPost_ret (v := .tuple #[.int .i64 X, .bool (decide (X ≤ 2500))]) (by simp [results, Try.results45, go_sem]) rfl ?_
        exact ⟨⟨X, _, rfl, by rw [HSZ.out]; simp, by omega, by omega⟩, hb⟩
      · rw [ecI, if_neg c3] at hX
        subst hX
        have c4 : (kd == 2) = false := by simp [c3]
        go_wp2_with fail
        refine bodyPost_ret (v := .tuple #[.int .i64 N, .bool (decide (N ≤ 2500))]) (by simp [results, Try.results45, go_sem]) rfl ?_
        exact ⟨⟨N, _, rfl, by rw [HSZ.out]; simp, by omega, by omega⟩, hb⟩
set_option maxRecDepth 8000 in
set_option maxHeartbeats 1000000 in
theorem l13Size_any (p c h s kd : Int) (g : vB p c h s = true) (w : World) :
    Calls Try.prog 39 #[.agg #[.int .i64 p, .int .i64 c, .int .i64 h, .int .i64 s], .int .i64 kd] w fun e w' => e = .returned (.int .i64 (szI (wyI h.toNat c.toNat) kd)) ∧ Below w.heap.size w w' := by
  have hbc := fun W => specBearoffCount_any p c h s W
  rw [show bcI p c h s = wyI h.toNat c.toNat by rw [bcI, if_pos g]] at hbc
  obtain ⟨nb0, nb1⟩ := wyI_bnd h.toNat c.toNat
  obtain ⟨N, hN⟩ : ∃ N, wyI h.toNat c.toNat = N := ⟨_, rfl⟩
  rw [hN] at hbc nb0 nb1 ⊢
  have hin := fun W => l01In_any N 0 500 W
  have HBC := Lib.hid hbc
  clear hbc hN g
  have BV := Blk.new w #[.int .i64 p, .int .i64 c, .int .i64 h, .int .i64 s] 31
  have hb : Below w.heap.size w (w.alloc (.cells #[.int .i64 p, .int .i64 c, .int .i64 h, .int .i64 s] 31)) := (Below.refl _ _).alloc (Nat.le_refl _) _
  obtain ⟨x0, x1, x2, x3, xf, xl⟩ := BV.four
  by_cases c1 : 0 ≤ N ∧ N ≤ 500
  · rw [show inB N 0 500 = true by simp [inB, c1]] at hin
    have HIN := Lib.hid hin
    obtain ⟨e0, e1⟩ := ecI_bnd (N := N) (kd := kd) c1
    have hs := szI_in (kd := kd) c1
    obtain ⟨X, hX⟩ : ∃ X, ecI N kd = X := ⟨_, rfl⟩
    rw [hX] at e0 e1 hs
    obtain ⟨c1a, c1b⟩ := c1
    clear hin
    by_cases c3 : kd = 2
    · rw [ecI, if_pos c3] at hX
      have c4 : (kd == 2) = true := by simp [c3]
      have wz : IntKind.i64.wrap (N * N) = X := by rw [hX, IntWalk.i64_in _ (by omega)]
      clear hX c3
      by_cases c7 : X ≤ 2500
      · clear e1
        have c5 : X ≤ 2500 := by omega
        rw [hs, if_pos c5]
        have c6 : ¬ (2500 : Int) < X := by omega
        clear hs c5
        go_enter Try.func39, Try.ntmps39
        go_wp2_with (first | (go_at_call 57; refine (HBC.out _).mono ?_; rintro e w1 ⟨rfl, hb1⟩) | (go_at_call 56; refine (HIN.out _).mono ?_; rintro e w2 ⟨rfl, rfl⟩))
        go_ret
        exact ⟨rfl, chain hb hb1⟩
      · clear e1
        have c5 : ¬ X ≤ 2500 := by omega
        rw [hs, if_neg c5]
        have c6 : (2500 : Int) < X := by omega
        clear hs c5
        go_enter Try.func39, Try.ntmps39
        go_wp2_with (first | (go_at_call 57; refine (HBC.out _).mono ?_; rintro e w1 ⟨rfl, hb1⟩) | (go_at_call 56; refine (HIN.out _).mono ?_; rintro e w2 ⟨rfl, rfl⟩))
        go_ret
        exact ⟨rfl, chain hb hb1⟩
    · rw [ecI, if_neg c3] at hX
      subst hX
      have c4 : (kd == 2) = false := by simp [c3]
      clear c3
      by_cases c7 : N ≤ 2500
      · clear e1
        have c5 : N ≤ 2500 := by omega
        rw [hs, if_pos c5]
        have c6 : ¬ (2500 : Int) < N := by omega
        clear hs c5
        go_enter Try.func39, Try.ntmps39
        go_wp2_with (first | (go_at_call 57; refine (HBC.out _).mono ?_; rintro e w1 ⟨rfl, hb1⟩) | (go_at_call 56; refine (HIN.out _).mono ?_; rintro e w2 ⟨rfl, rfl⟩))
        go_ret
        exact ⟨rfl, chain hb hb1⟩
      · clear e1
        have c5 : ¬ N ≤ 2500 := by omega
        rw [hs, if_neg c5]
        have c6 : (2500 : Int) < N := by omega
        clear hs c5
        go_enter Try.func39, Try.ntmps39
        go_wp2_with (first | (go_at_call 57; refine (HBC.out _).mono ?_; rintro e w1 ⟨rfl, hb1⟩) | (go_at_call 56; refine (HIN.out _).mono ?_; rintro e w2 ⟨rfl, rfl⟩))
        go_ret
        exact ⟨rfl, chain hb hb1⟩
  · rw [show inB N 0 500 = false by simp [inB]; omega] at hin
    have HIN := Lib.hid hin
    rw [szI, if_neg c1]
    clear hin c1
    go_enter Try.func39, Try.ntmps39
    go_wp2_with (first | (go_at_call 57; refine (HBC.out _).mono ?_; rintro e w1 ⟨rfl, hb1⟩) | (go_at_call 56; refine (HIN.out _).mono ?_; rintro e w2 ⟨rfl, rfl⟩))
    go_ret
    exact ⟨rfl, chain hb hb1⟩
end Go.Proofs.Ytgohipfaojiilaa
