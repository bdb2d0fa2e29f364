/- Contracts of chapter 13: the number of a position by a table of numbers, the model's number. -/
import Derived.Test.Ytaimieaegfcdoaa10h
import Derived.Test.Ytaimieaegfcdoaa13g
namespace Go.Proofs.Ytaimieaegfcdoaa
open Go.ChangeShapes Go.WideShapes Go.ChangeAt Go.RowKit
set_option linter.unusedVariables false
set_option linter.unusedSimpArgs false
set_option maxRecDepth 4000

theorem Blk.five {w : World} {g : Nat} {v0 v1 v2 v3 v4 : Value} {t : TypeId} (h : Blk w g #[v0, v1, v2, v3, v4] t) :
    w.cell? ⟨g, 0, none⟩ = some v0 ∧ w.cell? ⟨g, 1, none⟩ = some v1 ∧ w.cell? ⟨g, 2, none⟩ = some v2 ∧ w.cell? ⟨g, 3, none⟩ = some v3 ∧ w.cell? ⟨g, 4, none⟩ = some v4 ∧ (∀ i, w.frozen? ⟨g, i, none⟩ = false) ∧ g < w.heap.size :=
  ⟨by rw [h.cell 0]; rfl, by rw [h.cell 1]; rfl, by rw [h.cell 2]; rfl, by rw [h.cell 3]; rfl, by rw [h.cell 4]; rfl, fun i => h.free i, h.lt⟩
theorem WaysAt.far5 {w : World} {g : Nat} (h : WaysAt w g) (B : Nat) (hne : g ≠ B) (u0 u1 u2 u3 u4 : Value) : WaysAt (((((w.setCell ⟨B, 0, none⟩ u0).setCell ⟨B, 1, none⟩ u1).setCell ⟨B, 2, none⟩ u2).setCell ⟨B, 3, none⟩ u3).setCell ⟨B, 4, none⟩ u4) g :=
  TabN.other (TabN.other (TabN.other (TabN.other (TabN.other h hne) hne) hne) hne) hne
set_option maxRecDepth 8000 in
set_option maxHeartbeats 1000000 in
theorem numberTable_any (p c h s : Int) (w : World) :
    Calls Try.prog 52 #[.agg #[.int .i64 p, .int .i64 c, .int .i64 h, .int .i64 s]] w fun e w' => ∃ gw, e = .returned (.agg #[.int .i64 p, .int .i64 c, .int .i64 h, .int .i64 s, .pointer (some ⟨gw, 0, none⟩)]) ∧ w.heap.size ≤ gw ∧ WaysAt w' gw ∧ Below w.heap.size w w' := by
  obtain ⟨BV, BZ, hb, hz⟩ := two_new w #[.int .i64 p, .int .i64 c, .int .i64 h, .int .i64 s] #[.int .i64 0, .int .i64 0, .int .i64 0, .int .i64 0, .pointer none] 37 74
  have hz0 : w.heap.size + 1 < ((w.alloc (.cells #[.int .i64 p, .int .i64 c, .int .i64 h, .int .i64 s] 37)).alloc (.cells #[.int .i64 0, .int .i64 0, .int .i64 0, .int .i64 0, .pointer none] 74)).heap.size := by rw [hz]; omega
  clear hz
  go_enter Try.func52, Try.ntmps52
  go_wp2_with fail
  generalize ((w.alloc (.cells #[.int .i64 p, .int .i64 c, .int .i64 h, .int .i64 s] 37)).alloc (.cells #[.int .i64 0, .int .i64 0, .int .i64 0, .int .i64 0, .pointer none] 74)) = w1 at *
  have hd_ : w1.drew.heap.size = w1.heap.size := rfl
  replace BV := BV.drew
  replace BZ := BZ.drew
  replace hb := hb.drew
  refine wp_region_held_drew (S := fun w' => w'.cell? ⟨w.heap.size, 0, none⟩ = some (.int .i64 p) ∧ w'.cell? ⟨w.heap.size, 1, none⟩ = some (.int .i64 c) ∧ w'.cell? ⟨w.heap.size, 2, none⟩ = some (.int .i64 h) ∧ w'.cell? ⟨w.heap.size, 3, none⟩ = some (.int .i64 s)) (by kernel_rfl) ⟨BV.four.1, BV.four.2.1, BV.four.2.2.1, BV.four.2.2.2.1⟩ (fun hHeld => ?_)
  clear hHeld
  generalize w1.drew = vd at *
  have hHeld : vd.cell? ⟨w.heap.size, 0, none⟩ = some (.int .i64 p) ∧ vd.cell? ⟨w.heap.size, 1, none⟩ = some (.int .i64 c) ∧ vd.cell? ⟨w.heap.size, 2, none⟩ = some (.int .i64 h) ∧ vd.cell? ⟨w.heap.size, 3, none⟩ = some (.int .i64 s) := ⟨BV.four.1, BV.four.2.1, BV.four.2.2.1, BV.four.2.2.2.1⟩
  refine wpAnyH_take (i := 0) (oi := { dst := some 3, op := _, type := _, pos := _, after := _, guard := _ }) (v := ?_) rfl (by kernel_rfl) (by kernel_rfl) (by kernel_rfl) (fun _ _ _ h => h) (Or.inl ⟨by rfl, ?_⟩) (by assumption) ?_
  rotate_left
  · intro w hSw
    (try dsimp only at hSw)
    go_simp
    (try (with_reducible rfl))
  try simp only [Act.put, List.setIfInBounds_toArray, List.set_cons_zero, List.set_cons_succ]
  refine wpAnyH_ready (rs := [1]) (by kernel_rfl) (by simp) ?_
  refine AllReadyH.cons (o := { dst := some 4, op := _, type := _, pos := _, after := _, guard := _ }) rfl (fun K hK => ?_) AllReadyH.nil
  go_simp
  refine (countWays_any _).mono ?_
  rintro e w2 ⟨gw, rfl, hg, hW, hb2⟩
  have hz2 := hb2.size
  replace BV := BV.below hb2
  replace BZ := BZ.below hb2
  replace hb := chain hb hb2
  clear hb2
  (try go_wp2_with fail)
  refine hK.out _ _ ⟨BV.four.1, BV.four.2.1, BV.four.2.2.1, BV.four.2.2.2.1⟩ (fun hHeld => ?_)
  clear hK K
  try simp only [Act.put, List.setIfInBounds_toArray, List.set_cons_zero, List.set_cons_succ]
  refine wpAnyH_take (i := 2) (oi := { dst := some 5, op := _, type := _, pos := _, after := _, guard := _ }) (v := ?_) rfl (by kernel_rfl) (by kernel_rfl) (by kernel_rfl) (fun _ _ _ h => h) (Or.inl ⟨by rfl, ?_⟩) (by assumption) ?_
  rotate_left
  · intro w hSw
    (try dsimp only at hSw)
    go_simp
    (try (with_reducible rfl))
  try simp only [Act.put, List.setIfInBounds_toArray, List.set_cons_zero, List.set_cons_succ]
  refine wpAnyH_ready (rs := [3]) (by kernel_rfl) (by simp) ?_
  refine AllReadyH.cons (o := { dst := none, op := _, type := _, pos := _, after := _, guard := _ }) rfl (fun K hK => ?_) AllReadyH.nil
  have z0 := BZ.five.1
  have z1 := BZ.five.2.1
  have z2 := BZ.five.2.2.1
  have z3 := BZ.five.2.2.2.1
  have z4 := BZ.five.2.2.2.2.1
  have zf := BZ.five.2.2.2.2.2.1
  have zl := BZ.five.2.2.2.2.2.2
  go_simp
  (try go_wp2_with fail)
  refine hK.out _ _ ⟨(((((BV.other (by omega)).other (by omega)).other (by omega)).other (by omega)).other (by omega)).four.1, (((((BV.other (by omega)).other (by omega)).other (by omega)).other (by omega)).other (by omega)).four.2.1, (((((BV.other (by omega)).other (by omega)).other (by omega)).other (by omega)).other (by omega)).four.2.2.1, (((((BV.other (by omega)).other (by omega)).other (by omega)).other (by omega)).other (by omega)).four.2.2.2.1⟩ (fun hHeld => ?_)
  clear hK K
  try simp only [Act.put, List.setIfInBounds_toArray, List.set_cons_zero, List.set_cons_succ]
  refine wpAnyH_done (by kernel_rfl) ?_ _
  clear hHeld
  go_wp2_with fail
  have BZn := (((((BZ.set (i := 0) (.int .i64 p)).set (i := 1) (.int .i64 c)).set (i := 2) (.int .i64 h)).set (i := 3) (.int .i64 s)).set (i := 4) (.pointer (some ⟨gw, 0, none⟩)))
  simp only [List.setIfInBounds_toArray, List.set_cons_zero, List.set_cons_succ] at BZn
  obtain ⟨t0, t1, t2, t3, t4, tf, tl⟩ := BZn.five
  have hWn : WaysAt _ gw := WaysAt.far5 hW (w.heap.size + 1) (by omega) (.int .i64 p) (.int .i64 c) (.int .i64 h) (.int .i64 s) (.pointer (some ⟨gw, 0, none⟩))
  have hbn := (((((hb.setCell (p := ⟨(w.heap.size + 1), 0, none⟩) (by dsimp only; omega) (.int .i64 p)).setCell (p := ⟨(w.heap.size + 1), 1, none⟩) (by dsimp only; omega) (.int .i64 c)).setCell (p := ⟨(w.heap.size + 1), 2, none⟩) (by dsimp only; omega) (.int .i64 h)).setCell (p := ⟨(w.heap.size + 1), 3, none⟩) (by dsimp only; omega) (.int .i64 s)).setCell (p := ⟨(w.heap.size + 1), 4, none⟩) (by dsimp only; omega) (.pointer (some ⟨gw, 0, none⟩)))
  refine bodyPost_ret (v := .agg #[.int .i64 p, .int .i64 c, .int .i64 h, .int .i64 s, .pointer (some ⟨gw, 0, none⟩)]) (by simp [results, Try.results52, go_sem, t0, t1, t2, t3, t4]) rfl ?_
  exact ⟨gw, rfl, by omega, hWn, hbn⟩
/-- The number of a position. -/
def pnum (c : Int) (xs : List Int) : Nat := bnN (nats xs) c.toNat
theorem pnum_lt {p c h s : Int} {xs : List Int} (g : vB p c h s = true) (k : sideB (h - 1) c xs = true) : pnum c xs < cnt h.toNat c.toNat := by
  have hv := vB_iff.1 g
  obtain ⟨s1, s2, s3⟩ := side_nats k (by omega)
  have := bnN_lt (nats xs) c.toNat s2
  have hl := (sideB_iff.1 k).1
  rw [s1, show xs.length = h.toNat by omega] at this
  exact this
set_option maxHeartbeats 1000000 in
theorem pnumOf_any (p c h s : Int) (gw : Nat) (a : Option Addr) (n cap : Nat) (xs : List Int) (w : World) (g : vB p c h s = true) (k : sideB (h - 1) c xs = true) (hn : xs.length = n) (hr : IRow w a xs) (hw : WaysAt w gw) :
    Calls Try.prog 53 #[.agg #[.int .i64 p, .int .i64 c, .int .i64 h, .int .i64 s, .pointer (some ⟨gw, 0, none⟩)], .slice a n cap] w fun e w' => e = .returned (.int .i64 (pnum c xs)) ∧ Below w.heap.size w w' := by
  have BN := Blk.new w #[.int .i64 p, .int .i64 c, .int .i64 h, .int .i64 s, .pointer (some ⟨gw, 0, none⟩)] 74
  have hb : Below w.heap.size w (w.alloc (.cells #[.int .i64 p, .int .i64 c, .int .i64 h, .int .i64 s, .pointer (some ⟨gw, 0, none⟩)] 74)) := (Below.refl _ _).alloc (Nat.le_refl _) _
  have hv := vB_iff.1 g
  obtain ⟨s1, s2, s3⟩ := side_nats k (by omega)
  have hl := (sideB_iff.1 k).1
  have hK := fun W (r : IRow W a xs) (q : WaysAt W gw) => bearoffNumberM_any p h s c.toNat gw a n cap (nats xs) xs W (by omega) (by omega) (by omega) hn (by omega) s2 s3 r q
  rw [show ((c.toNat : Nat) : Int) = c by omega] at hK
  have hN : bnN (nats xs) c.toNat = pnum c xs := rfl
  rw [hN] at hK
  obtain ⟨K, hKK⟩ : ∃ K, pnum c xs = K := ⟨_, rfl⟩
  rw [hKK] at hK ⊢
  replace hr := hr.below hb
  replace hw := hw.below hb
  have HK := Lib.hid hK
  clear hK hN hKK s1 s2 s3 hv hl g k hn
  obtain ⟨x0, x1, x2, x3, x4, xf, xl⟩ := BN.five
  go_enter Try.func53, Try.ntmps53
  go_wp2_with (go_at_call 70; refine (HK.out _ hr hw).mono ?_; rintro e w1 ⟨rfl, hb1⟩)
  go_ret
  exact ⟨rfl, chain hb hb1⟩
theorem l10Pnum_any (p c h s : Int) (a : Option Addr) (n cap : Nat) (xs : List Int) (w : World) (g : vB p c h s = true) (k : sideB (h - 1) c xs = true) (hn : xs.length = n) (hsm : cnt h.toNat c.toNat ≤ 1000000) (hr : IRow w a xs) :
    Calls Try.prog 49 #[.agg #[.int .i64 p, .int .i64 c, .int .i64 h, .int .i64 s], .slice a n cap] w fun e w' => e = .returned (.int .i64 (pnum c xs)) ∧ Below w.heap.size w w' := by
  have hv := vB_iff.1 g
  obtain ⟨s1, s2, s3⟩ := side_nats k (by omega)
  have hl := (sideB_iff.1 k).1
  have e : h.toNat = n := by omega
  have hK := l10Number_any p h s c.toNat a n cap (nats xs) xs w (by omega) (by omega) hn (by omega) s2 (by rw [← e]; exact hsm) s3 hr
  rw [show ((c.toNat : Nat) : Int) = c by omega] at hK
  exact hK
end Go.Proofs.Ytaimieaegfcdoaa
