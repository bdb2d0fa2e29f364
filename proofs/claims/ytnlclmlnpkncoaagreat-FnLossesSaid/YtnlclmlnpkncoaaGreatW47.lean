/- Texts of a proof, laid together. -/
import Derived.Test.YtnlclmlnpkncoaaGreatW44
namespace Go.Proofs.YtnlclmlnpkncoaaGreat
open Go.ChangeShapes Go.WideShapes Go.ChangeAt Go.RowKit
set_option linter.unusedVariables false
set_option linter.unusedSimpArgs false
set_option maxRecDepth 4000
theorem OSl.grownLo {lo hi g : Nat} {w w' : World} {a : Option Addr} {xs : List Int} (h : OSl lo hi w a xs) (hg : w.grownBy w' (some g)) (hh : g < lo) : OSl lo hi w' a xs := by
  rcases h with h | ⟨b, rfl, h1, h2, r⟩
  · exact .inl h
  · exact .inr ⟨b, rfl, h1, h2, r.grown hg (by omega)⟩
def bqV (len : Nat) (bs : Nat → Int) : ((Int × Int × Int × Int) × List Int × List Int) × (Int × Int) := ((ldV len bs (frS len bs)).1, (drV len bs (ldV len bs (frS len bs)).1.1.2.2.2 (ldV len bs (frS len bs)).2).1)
theorem lds_bnd (len : Nat) (bs : Nat → Int) (st : Nat × Int) : 0 ≤ (ldV len bs st).1.1.2.2.2 ∧ (ldV len bs st).1.1.2.2.2 ≤ 16 := by
  have h1 := ds_bnd len bs st
  have h2 := nx_bnd len bs (dvV len bs st).2 2
  unfold ldV
  dsimp only
  omega
def SsR (q : ((Int × Int × Int × Int) × List Int × List Int) × (Int × Int)) (w : World) (e : Ending) (w' : World) : Prop :=
  ∃ (aL aM : Option Addr) (kL kM lo m n : Nat), e = .returned (.tuple #[.agg #[.int .i64 q.1.1.1, .int .i64 q.1.1.2.1, .int .i64 q.1.1.2.2.1, .int .i64 q.1.1.2.2.2], .slice aL q.1.2.1.length kL, .slice aM q.1.2.2.length kM, .agg #[.int .i64 q.2.1, .int .i64 q.2.2]]) ∧ OSl lo m w' aL q.1.2.1 ∧ OSl m n w' aM q.1.2.2 ∧ w.heap.size ≤ lo ∧ lo ≤ m ∧ n ≤ w'.heap.size ∧ q.1.2.1.length ≤ kL ∧ q.1.2.2.length ≤ kM ∧ Below w.heap.size w w'
theorem sr_mk {q : ((Int × Int × Int × Int) × List Int × List Int) × (Int × Int)} {w : World} {e : Ending} {w' : World} {p c h s ra rb : Int} {xs ys : List Int} {aL aM : Option Addr} {kL kM m n lo : Nat} (hq : q = (((p, c, h, s), xs, ys), (ra, rb)))
    (he : e = .returned (.tuple #[.agg #[.int .i64 p, .int .i64 c, .int .i64 h, .int .i64 s], .slice aL xs.length kL, .slice aM ys.length kM, .agg #[.int .i64 ra, .int .i64 rb]])) (ho : OSl lo m w' aL xs) (hp : OSl m n w' aM ys) (hlo : w.heap.size ≤ lo) (hm : lo ≤ m) (hn : n ≤ w'.heap.size) (hkx : xs.length ≤ kL) (hky : ys.length ≤ kM) (hb : Below w.heap.size w w') : SsR q w e w' := by
  subst hq
  exact ⟨aL, aM, kL, kM, lo, m, n, he, ho, hp, hlo, hm, hn, hkx, hky, hb⟩
set_option maxRecDepth 8000 in
set_option maxHeartbeats 2000000 in
theorem drawBestD_any (B : Nat) (a : Option Addr) (len cap : Nat) (w : World) (hB : B ≤ w.heap.size) (hlen : len ≤ 1048576) (bs : Nat → Int) (hcode : CodeIs B w a len bs) :
    Calls Tryz.prog 13 #[.slice a len cap] w (SsR (bqV len bs) w) := by
  obtain ⟨BZ, BY, hb, hz⟩ := two_new w #[.int .i64 0, .int .i64 0, .int .i64 0, .int .i64 0] #[.int .i64 0, .int .i64 0] 25 39
  have hl0 := BZ.lt
  have hc1 := hcode.below (hb.mono hB)
  go_enter Tryz.func13, Tryz.ntmps13
  go_wp2_with fail
  have hz0 : ((w.alloc (.cells #[.int .i64 0, .int .i64 0, .int .i64 0, .int .i64 0] 25)).alloc (.cells #[.int .i64 0, .int .i64 0] 39)).heap.size = w.heap.size + 1 + 1 := by rw [hz]
  clear hz
  generalize ((w.alloc (.cells #[.int .i64 0, .int .i64 0, .int .i64 0, .int .i64 0] 25)).alloc (.cells #[.int .i64 0, .int .i64 0] 39)) = v0 at *
  refine (fromD_any B a len cap bs _ (by omega) hlen hc1).mono ?_
  rintro e w1 ⟨g, rfl, hg, hS, hb1⟩
  replace BZ := BZ.below hb1
  replace BY := BY.below hb1
  replace hb := chain hb hb1
  have hs1 := hb1.size
  clear hb1 hc1 hcode
  go_wp2_with fail
  have HV := l12DrawD_any B g a len cap _ bs _ hS
  have hsb := lds_bnd len bs (frS len bs)
  obtain ⟨⟨⟨⟨p, c, h, s⟩, xs, ys⟩, t3⟩, q2⟩ : ∃ q, ldV len bs (frS len bs) = q := ⟨_, rfl⟩
  rw [q2] at HV hsb
  dsimp only at hsb
  have HQ := Lib.hid q2
  clear q2
  have hgl1 := hS.lt
  refine HV.mono ?_
  clear HV
  rintro e w2 ⟨aL, aM, kL, kM, m, rfl, hO, hP, hm, hkL, hkM, hS, hG⟩
  dsimp only at hO hP hkL hkM hS
  replace BZ := BZ.grown hG (by omega)
  replace BY := BY.grown hG (by omega)
  replace hb := chain_grown hb hG (by omega)
  have hs2 := hG.size
  clear hG
  have BV := Blk.new w2 #[.int .i64 p, .int .i64 c, .int .i64 h, .int .i64 s] 25
  have hal : Below w2.heap.size w2 (w2.alloc (.cells #[.int .i64 p, .int .i64 c, .int .i64 h, .int .i64 s] 25)) := (Below.refl _ _).alloc (Nat.le_refl _) _
  replace BZ := BZ.below hal
  replace BY := BY.below hal
  replace hS := hS.below hal
  replace hO := hO.below hal
  replace hP := hP.below hal
  replace hb := chain hb hal
  have hs3 : w2.heap.size + 1 ≤ (w2.alloc (.cells #[.int .i64 p, .int .i64 c, .int .i64 h, .int .i64 s] 25)).heap.size := by simp
  clear hal
  obtain ⟨bv, hbv⟩ : ∃ bv, w2.heap.size = bv := ⟨_, rfl⟩
  obtain ⟨x0, x1, x2, x3, xf, xl⟩ := BV.four
  go_wp2_with fail
  rw [hbv] at BV hs2 hs3 x0 x1 x2 x3 xf xl hP
  (try rw [hbv])
  generalize (w2.alloc (.cells #[.int .i64 p, .int .i64 c, .int .i64 h, .int .i64 s] 25)) = w4 at *
  clear hbv x0 x1 x2 x3 xf xl
  have hdd : w4.heap.size ≤ w4.drew.heap.size := Nat.le_refl _
  replace BV := BV.drew
  replace BZ := BZ.drew
  replace BY := BY.drew
  replace hS := hS.drew
  replace hb := hb.drew
  replace hO := hO.drew
  replace hP := hP.drew
  refine wp_region_held_drew (S := fun w' => w'.cell? ⟨bv, 0, none⟩ = some (.int .i64 p) ∧ w'.cell? ⟨bv, 1, none⟩ = some (.int .i64 c) ∧ w'.cell? ⟨bv, 2, none⟩ = some (.int .i64 h) ∧ w'.cell? ⟨bv, 3, none⟩ = some (.int .i64 s)) (by kernel_rfl) ⟨BV.four.1, BV.four.2.1, BV.four.2.2.1, BV.four.2.2.2.1⟩ (fun hHeld => ?_)
  clear hHeld
  generalize w4.drew = vd at *
  have hHeld : vd.cell? ⟨bv, 0, none⟩ = some (.int .i64 p) ∧ vd.cell? ⟨bv, 1, none⟩ = some (.int .i64 c) ∧ vd.cell? ⟨bv, 2, none⟩ = some (.int .i64 h) ∧ vd.cell? ⟨bv, 3, none⟩ = some (.int .i64 s) := ⟨BV.four.1, BV.four.2.1, BV.four.2.2.1, BV.four.2.2.2.1⟩
  refine tk 0 18 ?_
  refine tk 1 19 ?_
  refine tk 2 20 ?_
  refine tk 3 21 ?_
  refine tk 4 22 ?_
  refine rdk 5 23 fun K hK => ?_
  go_simp
  have HE := drawRollD_any B g a len cap p c h s hsb.1 hsb.2 vd bs t3 hS
  obtain ⟨⟨⟨ra, rb⟩, t4⟩, q4⟩ : ∃ q, drV len bs s t3 = q := ⟨_, rfl⟩
  rw [q4] at HE
  refine HE.mono ?_
  clear HE
  rintro e w5 ⟨rfl, hS, hg5⟩
  dsimp only at hS
  replace BV := BV.grown hg5 (by omega)
  replace BZ := BZ.grown hg5 (by omega)
  replace BY := BY.grown hg5 (by omega)
  replace hO := hO.grownLo hg5 (by omega)
  replace hP := hP.grownLo hg5 (by omega)
  replace hb := chain_grown hb hg5 (by omega)
  have hsz5 := hg5.size
  clear hg5
  (try go_wp2_with fail)
  refine hko hK (Blk.l4 BV) fun hHeld => ?_
  clear hK K
  refine rdn 6 fun K hK => ?_
  have z0 := BZ.four.1
  have z1 := BZ.four.2.1
  have z2 := BZ.four.2.2.1
  have z3 := BZ.four.2.2.2.1
  have zf := BZ.four.2.2.2.2.1
  have zl := BZ.four.2.2.2.2.2
  go_simp
  (try go_wp2_with fail)
  refine hko hK (Blk.l4 ((((BV.other (by omega)).other (by omega)).other (by omega)).other (by omega))) fun hHeld => ?_
  clear hK K
  refine tk 7 3 ?_
  refine tk 8 4 ?_
  refine rdn 9 fun K hK => ?_
  have u0 := ((((BY.other (g := w.heap.size) (o := 0) (v := .int .i64 p) (by omega)).other (g := w.heap.size) (o := 1) (v := .int .i64 c) (by omega)).other (g := w.heap.size) (o := 2) (v := .int .i64 h) (by omega)).other (g := w.heap.size) (o := 3) (v := .int .i64 s) (by omega)).two.1
  have u1 := ((((BY.other (g := w.heap.size) (o := 0) (v := .int .i64 p) (by omega)).other (g := w.heap.size) (o := 1) (v := .int .i64 c) (by omega)).other (g := w.heap.size) (o := 2) (v := .int .i64 h) (by omega)).other (g := w.heap.size) (o := 3) (v := .int .i64 s) (by omega)).two.2.1
  have uf := ((((BY.other (g := w.heap.size) (o := 0) (v := .int .i64 p) (by omega)).other (g := w.heap.size) (o := 1) (v := .int .i64 c) (by omega)).other (g := w.heap.size) (o := 2) (v := .int .i64 h) (by omega)).other (g := w.heap.size) (o := 3) (v := .int .i64 s) (by omega)).two.2.2.1
  have ul := ((((BY.other (g := w.heap.size) (o := 0) (v := .int .i64 p) (by omega)).other (g := w.heap.size) (o := 1) (v := .int .i64 c) (by omega)).other (g := w.heap.size) (o := 2) (v := .int .i64 h) (by omega)).other (g := w.heap.size) (o := 3) (v := .int .i64 s) (by omega)).two.2.2.2
  go_simp
  (try go_wp2_with fail)
  refine hko hK (Blk.l4 ((((((BV.other (by omega)).other (by omega)).other (by omega)).other (by omega)).other (by omega)).other (by omega))) fun hHeld => ?_
  clear hK K
  refine wpAnyH_done (by kernel_rfl) ?_ _
  go_wp2_with fail
  have HQ2 := Lib.hid (show bqV len bs = (((p, c, h, s), xs, ys), (ra, rb)) by simp [bqV, HQ.out, q4])
  have BZn := BZ.put4 (.int .i64 p) (.int .i64 c) (.int .i64 h) (.int .i64 s)
  have BYn := (((((BY.other (g := w.heap.size) (o := 0) (v := .int .i64 p) (by omega)).other (g := w.heap.size) (o := 1) (v := .int .i64 c) (by omega)).other (g := w.heap.size) (o := 2) (v := .int .i64 h) (by omega)).other (g := w.heap.size) (o := 3) (v := .int .i64 s) (by omega))).put2 (.int .i64 ra) (.int .i64 rb)
  have BZm := (BZn.other (g := w.heap.size + 1) (o := 0) (v := .int .i64 ra) (by omega)).other (g := w.heap.size + 1) (o := 1) (v := .int .i64 rb) (by omega)
  obtain ⟨s0, s1, s2, s3, sf, sl⟩ := BZm.four
  obtain ⟨y0, y1, yf, yl⟩ := BYn.two
  refine bodyPost_ret (v := .tuple #[.agg #[.int .i64 p, .int .i64 c, .int .i64 h, .int .i64 s], .slice aL xs.length kL, .slice aM ys.length kM, .agg #[.int .i64 ra, .int .i64 rb]]) (by simp [results, Tryz.results13, go_sem, s0, s1, s2, s3, y0, y1]) rfl ?_
  exact sr_mk HQ2.out rfl ((((((hO.setLo (by omega)).setLo (by omega)).setLo (by omega)).setLo (by omega)).setLo (by omega)).setLo (by omega)) ((((((hP.setLo (by omega)).setLo (by omega)).setLo (by omega)).setLo (by omega)).setLo (by omega)).setLo (by omega)) (by omega) hm (by simp only [World.size_setCell]; omega) hkL hkM ((((((hb.setCell (by simp) _).setCell (by simp) _).setCell (by simp) _).setCell (by simp) _).setCell (by simp) _).setCell (by simp) _)
end Go.Proofs.YtnlclmlnpkncoaaGreat
