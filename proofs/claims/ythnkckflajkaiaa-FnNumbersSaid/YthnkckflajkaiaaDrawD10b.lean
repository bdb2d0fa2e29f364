/- The model's draw of a variant and a position out of a code, as a function of the code's bytes. -/
import Derived.Test.YthnkckflajkaiaaDrawD10
namespace Go.Proofs.Ythnkckflajkaiaa
open Go.ChangeShapes Go.WideShapes Go.ChangeAt Go.RowKit
set_option linter.unusedVariables false
set_option linter.unusedSimpArgs false

def diV (len : Nat) (bs : Nat → Int) : (Int × Int × Int × Int) × List Int :=
  ((dbV len bs (frS len bs)).1, (dlV len bs (dbV len bs (frS len bs)).1.2.1 (dbV len bs (frS len bs)).1.2.2.1 (dbV len bs (frS len bs)).2).1)
theorem diV_length (len : Nat) (bs : Nat → Int) : 0 < (diV len bs).2.length ∧ (diV len bs).2.length ≤ 25 := dlV_length _ _ _ _ _ (db_bnd _ _ _).2.1
/-- A variant and a position have been drawn. -/
def BeD (q : (Int × Int × Int × Int) × List Int) (w : World) (e : Ending) (w' : World) : Prop :=
  ∃ (aL : Option Addr) (kL : Nat), e = .returned (.tuple #[.agg #[.int .i64 q.1.1, .int .i64 q.1.2.1, .int .i64 q.1.2.2.1, .int .i64 q.1.2.2.2], .slice aL q.2.length kL]) ∧ OSl (w.heap.size + 1) w'.heap.size w' aL q.2 ∧ Below w.heap.size w w'
theorem be_mk {q : (Int × Int × Int × Int) × List Int} {w : World} {e : Ending} {w' : World} {p c h s : Int} {xs : List Int} {aL : Option Addr} {kL : Nat} (hq : q = ((p, c, h, s), xs)) (he : e = .returned (.tuple #[.agg #[.int .i64 p, .int .i64 c, .int .i64 h, .int .i64 s], .slice aL xs.length kL]))
    (ho : OSl (w.heap.size + 1) w'.heap.size w' aL xs) (hb : Below w.heap.size w w') : BeD q w e w' := by
  subst hq
  exact ⟨aL, kL, he, ho, hb⟩
theorem osl_away {lo hi g o : Nat} {w : World} {v : Value} {a : Option Addr} {xs : List Int} (h : OSl lo hi w a xs) (hg : g < lo) : OSl lo (w.setCell ⟨g, o, none⟩ v).heap.size (w.setCell ⟨g, o, none⟩ v) a xs := by
  rcases h with h | ⟨b, rfl, h1, h2, r⟩
  · exact .inl h
  · have r2 := r.other (g := g) (o := o) (v := v) (show b ≠ g by omega)
    exact .inr ⟨b, rfl, h1, r2.lt, r2⟩
set_option maxRecDepth 8000 in
set_option maxHeartbeats 2000000 in
theorem drawIsBearoffD_any (B : Nat) (a : Option Addr) (len cap : Nat) (w : World) (hB : B ≤ w.heap.size) (hlen : len ≤ 1048576) (bs : Nat → Int) (hcode : CodeIs B w a len bs) :
    Calls Try.prog 73 #[.slice a len cap] w (BeD (diV len bs) w) := by
  have BZ := Blk.new w #[.int .i64 0, .int .i64 0, .int .i64 0, .int .i64 0] 26
  have hb : Below w.heap.size w (w.alloc (.cells #[.int .i64 0, .int .i64 0, .int .i64 0, .int .i64 0] 26)) := (Below.refl _ _).alloc (Nat.le_refl _) _
  have hl0 := BZ.lt
  have hc1 := hcode.below (hb.mono hB)
  go_enter Try.func73, Try.ntmps73
  go_wp2_with fail
  have hz0 : (w.alloc (.cells #[.int .i64 0, .int .i64 0, .int .i64 0, .int .i64 0] 26)).heap.size = w.heap.size + 1 := by simp
  generalize (w.alloc (.cells #[.int .i64 0, .int .i64 0, .int .i64 0, .int .i64 0] 26)) = v0 at *
  refine (fromD_any B a len cap bs _ (by omega) hlen hc1).mono ?_
  rintro e w1 ⟨g, rfl, hg, hS, hb1⟩
  replace BZ := BZ.below hb1
  replace hb := chain hb hb1
  have hs1 := hb1.size
  clear hb1 hc1 hcode
  go_wp2_with fail
  have HV := draw10BigD_any B g a len cap _ bs _ hS
  have hvb := db_bnd len bs (frS len bs)
  obtain ⟨⟨⟨p, c, h, s⟩, t2⟩, q2⟩ : ∃ q, dbV len bs (frS len bs) = q := ⟨_, rfl⟩
  rw [q2] at HV hvb
  refine HV.mono ?_
  clear HV
  rintro e w2 ⟨rfl, hS, hG⟩
  dsimp only at hS hvb
  obtain ⟨bc, bh⟩ := hvb
  replace BZ := BZ.grown hG (by omega)
  replace hb := chain_grown hb hG (by omega)
  have hs2 := hG.size
  have hgl := hS.lt
  clear hG
  have BV := Blk.new w2 #[.int .i64 p, .int .i64 c, .int .i64 h, .int .i64 s] 26
  have hal : Below w2.heap.size w2 (w2.alloc (.cells #[.int .i64 p, .int .i64 c, .int .i64 h, .int .i64 s] 26)) := (Below.refl _ _).alloc (Nat.le_refl _) _
  replace BZ := BZ.below hal
  replace hS := hS.below hal
  replace hb := chain hb hal
  have hs3 : w2.heap.size + 1 ≤ (w2.alloc (.cells #[.int .i64 p, .int .i64 c, .int .i64 h, .int .i64 s] 26)).heap.size := by simp
  clear hal
  obtain ⟨bv, hbv⟩ : ∃ bv, w2.heap.size = bv := ⟨_, rfl⟩
  obtain ⟨x0, x1, x2, x3, xf, xl⟩ := BV.four
  go_wp2_with fail
  generalize (w2.alloc (.cells #[.int .i64 p, .int .i64 c, .int .i64 h, .int .i64 s] 26)) = w3 at *
  clear x0 x1 x2 x3 xf xl
  rw [hbv] at BV hs2 hs3 hgl
  clear hbv
  have hdd : w3.heap.size ≤ w3.drew.heap.size := Nat.le_refl _
  replace BV := BV.drew
  replace BZ := BZ.drew
  replace hS := hS.drew
  replace hb := hb.drew
  refine wp_region_held_drew (S := fun w' => w'.cell? ⟨bv, 0, none⟩ = some (.int .i64 p) ∧ w'.cell? ⟨bv, 1, none⟩ = some (.int .i64 c) ∧ w'.cell? ⟨bv, 2, none⟩ = some (.int .i64 h) ∧ w'.cell? ⟨bv, 3, none⟩ = some (.int .i64 s)) (by kernel_rfl) ⟨BV.four.1, BV.four.2.1, BV.four.2.2.1, BV.four.2.2.2.1⟩ (fun hHeld => ?_)
  clear hHeld
  generalize w3.drew = vd at *
  have hHeld : vd.cell? ⟨bv, 0, none⟩ = some (.int .i64 p) ∧ vd.cell? ⟨bv, 1, none⟩ = some (.int .i64 c) ∧ vd.cell? ⟨bv, 2, none⟩ = some (.int .i64 h) ∧ vd.cell? ⟨bv, 3, none⟩ = some (.int .i64 s) := ⟨BV.four.1, BV.four.2.1, BV.four.2.2.1, BV.four.2.2.2.1⟩
  refine wpAnyH_take (i := 0) (oi := { dst := some 10, op := _, type := _, pos := _, after := _, guard := _ }) (v := ?_) rfl (by kernel_rfl) (by kernel_rfl) (by kernel_rfl) (fun _ _ _ h => h) (Or.inl ⟨by rfl, ?_⟩) (by assumption) ?_
  rotate_left
  · intro w hSw
    (try dsimp only at hSw)
    go_simp
    (try (with_reducible rfl))
  try simp only [Act.put, List.setIfInBounds_toArray, List.set_cons_zero, List.set_cons_succ]
  refine wpAnyH_take (i := 1) (oi := { dst := some 11, op := _, type := _, pos := _, after := _, guard := _ }) (v := ?_) rfl (by kernel_rfl) (by kernel_rfl) (by kernel_rfl) (fun _ _ _ h => h) (Or.inl ⟨by rfl, ?_⟩) (by assumption) ?_
  rotate_left
  · intro w hSw
    (try dsimp only at hSw)
    go_simp
    (try (with_reducible rfl))
  try simp only [Act.put, List.setIfInBounds_toArray, List.set_cons_zero, List.set_cons_succ]
  refine wpAnyH_take (i := 2) (oi := { dst := some 12, op := _, type := _, pos := _, after := _, guard := _ }) (v := ?_) rfl (by kernel_rfl) (by kernel_rfl) (by kernel_rfl) (fun _ _ _ h => h) (Or.inl ⟨by rfl, ?_⟩) (by assumption) ?_
  rotate_left
  · intro w hSw
    (try dsimp only at hSw)
    go_simp
    (try (with_reducible rfl))
  try simp only [Act.put, List.setIfInBounds_toArray, List.set_cons_zero, List.set_cons_succ]
  refine wpAnyH_ready (rs := [3]) (by kernel_rfl) (by simp) ?_
  refine AllReadyH.cons (o := { dst := some 13, op := _, type := _, pos := _, after := _, guard := _ }) rfl (fun K hK => ?_) AllReadyH.nil
  go_simp
  have HD := draw10D_any B g a len cap p c h s bc.1 bc.2 bh.1 _ bs t2 hS
  obtain ⟨⟨xs, t3⟩, q3⟩ : ∃ q, dlV len bs c h t2 = q := ⟨_, rfl⟩
  rw [q3] at HD
  refine HD.mono ?_
  clear HD
  rintro e w4 ⟨aL, kL, rfl, hO, hS, hg4⟩
  dsimp only at hO hS
  replace BV := BV.grown hg4 (by omega)
  replace BZ := BZ.grown hg4 (by omega)
  replace hb := chain_grown hb hg4 (by omega)
  have hsz4 := hg4.size
  clear hg4
  (try go_wp2_with fail)
  refine hK.out _ _ ⟨BV.four.1, BV.four.2.1, BV.four.2.2.1, BV.four.2.2.2.1⟩ (fun hHeld => ?_)
  clear hK K
  try simp only [Act.put, List.setIfInBounds_toArray, List.set_cons_zero, List.set_cons_succ]
  refine wpAnyH_ready (rs := [4]) (by kernel_rfl) (by simp) ?_
  refine AllReadyH.cons (o := { dst := none, op := _, type := _, pos := _, after := _, guard := _ }) rfl (fun K hK => ?_) AllReadyH.nil
  have z0 := BZ.four.1
  have z1 := BZ.four.2.1
  have z2 := BZ.four.2.2.1
  have z3 := BZ.four.2.2.2.1
  have zf := BZ.four.2.2.2.2.1
  have zl := BZ.four.2.2.2.2.2
  go_simp
  (try go_wp2_with fail)
  refine hK.out _ _ ⟨((((BV.other (by omega)).other (by omega)).other (by omega)).other (by omega)).four.1, ((((BV.other (by omega)).other (by omega)).other (by omega)).other (by omega)).four.2.1, ((((BV.other (by omega)).other (by omega)).other (by omega)).other (by omega)).four.2.2.1, ((((BV.other (by omega)).other (by omega)).other (by omega)).other (by omega)).four.2.2.2.1⟩ (fun hHeld => ?_)
  clear hK K
  try simp only [Act.put, List.setIfInBounds_toArray, List.set_cons_zero, List.set_cons_succ]
  refine wpAnyH_take (i := 5) (oi := { dst := some 3, op := _, type := _, pos := _, after := _, guard := _ }) (v := ?_) rfl (by kernel_rfl) (by kernel_rfl) (by kernel_rfl) (fun _ _ _ h => h) (Or.inl ⟨by rfl, ?_⟩) (by assumption) ?_
  rotate_left
  · intro w hSw
    (try dsimp only at hSw)
    go_simp
    (try (with_reducible rfl))
  try simp only [Act.put, List.setIfInBounds_toArray, List.set_cons_zero, List.set_cons_succ]
  refine wpAnyH_done (by kernel_rfl) ?_ _
  go_wp2_with fail
  have BZn := (((BZ.set (i := 0) (.int .i64 p)).set (i := 1) (.int .i64 c)).set (i := 2) (.int .i64 h)).set (i := 3) (.int .i64 s)
  obtain ⟨t0, t1, t2, t3, tf, tl⟩ := BZn.four
  refine bodyPost_ret (v := .tuple #[.agg #[.int .i64 p, .int .i64 c, .int .i64 h, .int .i64 s], .slice aL xs.length kL]) (by simp [results, Try.results73, go_sem, t0, t1, t2, t3]) rfl ?_
  exact be_mk (by simp [diV, q2, q3]) rfl (osl_away (osl_away (osl_away (osl_away (hO.mono (lo' := w.heap.size + 1) (by omega) (Nat.le_refl _)) (by omega)) (by omega)) (by omega)) (by omega)) ((((hb.setCell (by simp) _).setCell (by simp) _).setCell (by simp) _).setCell (by simp) _)
set_option maxHeartbeats 1000000 in
theorem drawNumberD_any (B : Nat) (a : Option Addr) (len cap : Nat) (w : World) (hB : B ≤ w.heap.size) (hlen : len ≤ 1048576) (bs : Nat → Int) (hcode : CodeIs B w a len bs) :
    Calls Try.prog 40 #[.slice a len cap] w (BeD (diV len bs) w) := by
  have BZ := Blk.new w #[.int .i64 0, .int .i64 0, .int .i64 0, .int .i64 0] 26
  have hb : Below w.heap.size w (w.alloc (.cells #[.int .i64 0, .int .i64 0, .int .i64 0, .int .i64 0] 26)) := (Below.refl _ _).alloc (Nat.le_refl _) _
  have hl0 := BZ.lt
  have hc1 := hcode.below (hb.mono hB)
  go_enter Try.func40, Try.ntmps40
  go_wp2_with fail
  have hz0 : (w.alloc (.cells #[.int .i64 0, .int .i64 0, .int .i64 0, .int .i64 0] 26)).heap.size = w.heap.size + 1 := by simp
  generalize (w.alloc (.cells #[.int .i64 0, .int .i64 0, .int .i64 0, .int .i64 0] 26)) = v0 at *
  have HV := drawIsBearoffD_any B a len cap _ (by omega) hlen bs hc1
  obtain ⟨⟨⟨p, c, h, s⟩, xs⟩, q2⟩ : ∃ q, diV len bs = q := ⟨_, rfl⟩
  rw [q2] at HV
  refine HV.mono ?_
  clear HV
  rintro e w1 ⟨aL, kL, rfl, hO, hb1⟩
  dsimp only at hO
  replace BZ := BZ.below hb1
  replace hb := chain hb hb1
  obtain ⟨z0, z1, z2, z3, zf, zl⟩ := BZ.four
  go_wp2_with fail
  have BZn := (((BZ.set (i := 0) (.int .i64 p)).set (i := 1) (.int .i64 c)).set (i := 2) (.int .i64 h)).set (i := 3) (.int .i64 s)
  obtain ⟨t0, t1, t2, t3, tf, tl⟩ := BZn.four
  refine bodyPost_ret (v := .tuple #[.agg #[.int .i64 p, .int .i64 c, .int .i64 h, .int .i64 s], .slice aL xs.length kL]) (by simp [results, Try.results40, go_sem, t0, t1, t2, t3]) rfl ?_
  exact be_mk q2 rfl (osl_away (osl_away (osl_away (osl_away (hO.mono (lo' := w.heap.size + 1) (by omega) (Nat.le_refl _)) (by omega)) (by omega)) (by omega)) (by omega)) ((((hb.setCell (by simp) _).setCell (by simp) _).setCell (by simp) _).setCell (by simp) _)
end Go.Proofs.Ythnkckflajkaiaa
