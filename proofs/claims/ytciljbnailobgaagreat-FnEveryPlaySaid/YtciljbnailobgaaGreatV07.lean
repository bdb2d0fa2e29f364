/- Texts of a proof, laid together. -/
import Derived.Test.YtciljbnailobgaaGreatV06
import Derived.BigQuiet
namespace Go.Proofs.YtciljbnailobgaaGreat
open Go.ChangeShapes Go.WideShapes Go.ChangeAt Go.RowKit
set_option linter.unusedVariables false
set_option linter.unusedSimpArgs false
set_option maxRecDepth 4000
set_option maxRecDepth 8000 in
set_option maxHeartbeats 4000000 in
theorem l04Apply_far_true (P : Nat) (c h s : Int) (a1 a2 : Option Addr) (n1 n2 c1 c2 : Nat) (xs ys : List Int) (w : World) (h1 : xs.length = n1) (h2 : ys.length = n2) (p0 : 2 ≤ P) (p1 : P ≤ 24) (N1 : xs.length = P + 1) (N2 : ys.length = P + 1) (hh0 : 1 ≤ h) (hh : h ≤ (P : Int)) (hx : ∀ x ∈ xs, 0 ≤ x ∧ x ≤ 1000) (hy : ∀ y ∈ ys, 0 ≤ y ∧ y ≤ 1000) (r1 : IRow w a1 xs) (r2 : IRow w a2 ys) (f : Nat) (td : Int) (fP : f ≤ P) (t : Nat) (tP : t < P) (hne : ¬ t = f) :
    Calls Tryz.prog 40 #[.agg #[.int .i64 (P : Int), .int .i64 c, .int .i64 h, .int .i64 s], .agg #[.slice a1 n1 c1, .slice a2 n2 c2], stV ((f : Int), (t : Int), td, true)] w (BoardGot (mvX xs f ((t : Int)) 1) (mvY P ys ((t : Int)) true 1) w) := by
  have hK1 := fun W (hr : IRow W a1 xs) => l02Own_any a1 n1 c1 xs W h1 (by omega) (by omega) hr
  have hK2 := fun W (hr : IRow W a2 ys) => l02Own_any a2 n2 c2 ys W h2 (by omega) (by omega) hr
  have HK1 := Lib.hid hK1
  have HK2 := Lib.hid hK2
  clear hK1 hK2
  obtain ⟨BV, BB, BS, BR, hb, hz⟩ := four_new w #[.int .i64 (P : Int), .int .i64 c, .int .i64 h, .int .i64 s] #[.slice a1 n1 c1, .slice a2 n2 c2] #[.int .i64 (f : Int), .int .i64 ((t : Int)), .int .i64 td, .bool true] #[.slice none 0 0, .slice none 0 0] 25 28 55 28
  have hft : (f : Int) < (n1 : Int) := by omega
  have hPt : (P : Int) < (n2 : Int) := by omega
  have hfn : f < n1 := by omega
  have hPn : P < n2 := by omega
  obtain ⟨u, hu⟩ : ∃ u, xs.getD f 0 = u := ⟨_, rfl⟩
  have ub := hx _ (getD_mem (show f < xs.length by omega))
  rw [hu] at ub
  have ua : 0 ≤ u := ub.1
  have uz : u ≤ 1000 := ub.2
  have hm1 : decide ((0 : Int) ≤ (t : Int)) = true := by simp
  have htt : (t : Int) < (n1 : Int) := by omega
  have htn : t < n1 := by omega
  have hne3 : ¬ f = t := fun e => hne e.symm
  obtain ⟨v, hv⟩ : ∃ v, xs.getD t 0 = v := ⟨_, rfl⟩
  have vb := hx _ (getD_mem (show t < xs.length by omega))
  rw [hv] at vb
  have va : 0 ≤ v := vb.1
  have vz : v ≤ 1000 := vb.2
  obtain ⟨K, hKK⟩ : ∃ K, P - 1 - t = K := ⟨_, rfl⟩
  have eK : (P : Int) - 1 - (t : Int) = (K : Int) := by omega
  have hKP : ¬ K = P := by omega
  have hPK : ¬ P = K := by omega
  have hKt : (K : Int) < (n2 : Int) := by omega
  have hKn : K < n2 := by omega
  have wz : IntKind.i64.wrap (IntKind.i64.wrap ((P : Int) - 1) - (t : Int)) = (K : Int) := by rw [IntWalk.i64_in ((P : Int) - 1) (by omega), eK]; exact IntWalk.i64_in _ (by omega)
  obtain ⟨y, hy2⟩ : ∃ y, ys.getD K 0 = y := ⟨_, rfl⟩
  have yb := hy _ (getD_mem (show K < ys.length by omega))
  rw [hy2] at yb
  have ya : 0 ≤ y := yb.1
  have yz : y ≤ 1000 := yb.2
  obtain ⟨z, hz2⟩ : ∃ z, ys.getD P 0 = z := ⟨_, rfl⟩
  have zb := hy _ (getD_mem (show P < ys.length by omega))
  rw [hz2] at zb
  have za : 0 ≤ z := zb.1
  have zz : z ≤ 1000 := zb.2
  obtain ⟨X, hX⟩ : ∃ X, mvX xs (f : Int) ((t : Int)) 1 = X := ⟨_, rfl⟩
  obtain ⟨Y, hY⟩ : ∃ Y, mvY P ys ((t : Int)) true 1 = Y := ⟨_, rfl⟩
  have eX : (xs.set f (u - 1)).set t (v + 1) = X := by
    rw [← hX]
    unfold mvX
    rw [if_neg (by omega)]
    simp only [Int.toNat_natCast]
    rw [hu, getD_set_ne xs _ hne, hv]
  have eY : (ys.set K (y - 1)).set P (z + 1) = Y := by
    rw [← hY]
    unfold mvY
    rw [if_pos rfl, eK, Int.toNat_natCast, hy2, getD_set_ne ys _ hPK, hz2]
  have hXl : X.length = P + 1 := by rw [← hX, mvX_length, N1]
  have hYl : Y.length = P + 1 := by rw [← hY, mvY_length, N2]
  rw [hX, hY]
  have Hu := Lib.hid hu
  have Hv := Lib.hid hv
  have Hy := Lib.hid hy2
  have Hz := Lib.hid hz2
  have EX := Lib.hid eX
  have EY := Lib.hid eY
  have HXl := Lib.hid hXl
  have HYl := Lib.hid hYl
  clear hX hY eX eY hXl hYl
  clear hu ub
  clear hv vb
  clear hy2 yb
  clear hz2 zb
  go_enter Tryz.func40, Tryz.ntmps40
  go_wp2_with fail
  replace r1 := r1.below hb
  replace r2 := r2.below hb
  clear hz
  obtain ⟨xn1, hn1⟩ : ∃ z, xs.length = z := ⟨_, rfl⟩
  obtain ⟨yn1, hn2⟩ : ∃ z, ys.length = z := ⟨_, rfl⟩
  generalize ((((w.alloc (.cells #[.int .i64 (P : Int), .int .i64 c, .int .i64 h, .int .i64 s] 25)).alloc (.cells #[.slice a1 n1 c1, .slice a2 n2 c2] 28)).alloc (.cells #[.int .i64 (f : Int), .int .i64 ((t : Int)), .int .i64 td, .bool true] 55)).alloc (.cells #[.slice none 0 0, .slice none 0 0] 28)) = v0 at *
  have hz4 := BR.lt
  have hz5 : v0.drew.heap.size = v0.heap.size := rfl
  replace BV := BV.drew
  replace BB := BB.drew
  replace BS := BS.drew
  replace BR := BR.drew
  replace r1 := r1.drew
  replace r2 := r2.drew
  replace hb := hb.drew
  refine wp_region_held_drew (S := fun w' => w'.cell? ⟨w.heap.size, 0, none⟩ = some (.int .i64 (P : Int)) ∧ w'.cell? ⟨w.heap.size, 1, none⟩ = some (.int .i64 c) ∧ w'.cell? ⟨w.heap.size, 2, none⟩ = some (.int .i64 h) ∧ w'.cell? ⟨w.heap.size, 3, none⟩ = some (.int .i64 s) ∧ w'.cell? ⟨(w.heap.size + 1), 0, none⟩ = some (.slice a1 n1 c1) ∧ w'.cell? ⟨(w.heap.size + 1), 1, none⟩ = some (.slice a2 n2 c2) ∧ w'.cell? ⟨(w.heap.size + 1 + 1), 0, none⟩ = some (.int .i64 (f : Int)) ∧ w'.cell? ⟨(w.heap.size + 1 + 1), 1, none⟩ = some (.int .i64 ((t : Int))) ∧ w'.cell? ⟨(w.heap.size + 1 + 1), 2, none⟩ = some (.int .i64 td) ∧ w'.cell? ⟨(w.heap.size + 1 + 1), 3, none⟩ = some (.bool true) ∧ w'.cell? ⟨(w.heap.size + 1 + 1 + 1), 0, none⟩ = some (.slice none 0 0) ∧ w'.cell? ⟨(w.heap.size + 1 + 1 + 1), 1, none⟩ = some (.slice none 0 0) ∧ Blk w' w.heap.size #[.int .i64 (P : Int), .int .i64 c, .int .i64 h, .int .i64 s] 25 ∧ Blk w' ((w.heap.size + 1)) #[.slice a1 n1 c1, .slice a2 n2 c2] 28 ∧ Blk w' ((w.heap.size + 1 + 1)) #[.int .i64 (f : Int), .int .i64 ((t : Int)), .int .i64 td, .bool true] 55 ∧ Blk w' ((w.heap.size + 1 + 1 + 1)) #[.slice none 0 0, .slice none 0 0] 28 ∧ (IRow w' a1 xs) ∧ (IRow w' a2 ys) ∧ Below w.heap.size w w') (by kernel_rfl) ⟨BV.four.1, BV.four.2.1, BV.four.2.2.1, BV.four.2.2.2.1, BB.two.1, BB.two.2.1, BS.four.1, BS.four.2.1, BS.four.2.2.1, BS.four.2.2.2.1, BR.two.1, BR.two.2.1, BV, BB, BS, BR, r1, r2, hb⟩ (fun hHeld => ?_)
  refine tk 0 10 ?_
  refine tk 1 11 ?_
  refine tk 3 13 ?_
  refine tk 4 14 ?_
  refine rdk 2 12 fun K hK => ?_
  go_simp
  -- call
  have BV := hHeld.2.2.2.2.2.2.2.2.2.2.2.2.1
  have BB := hHeld.2.2.2.2.2.2.2.2.2.2.2.2.2.1
  have BS := hHeld.2.2.2.2.2.2.2.2.2.2.2.2.2.2.1
  have BR := hHeld.2.2.2.2.2.2.2.2.2.2.2.2.2.2.2.1
  have r1 := hHeld.2.2.2.2.2.2.2.2.2.2.2.2.2.2.2.2.1
  have r2 := hHeld.2.2.2.2.2.2.2.2.2.2.2.2.2.2.2.2.2.1
  have hb := hHeld.2.2.2.2.2.2.2.2.2.2.2.2.2.2.2.2.2.2
  clear hHeld
  refine (HK1.out _ r1).mono ?_
  rintro e wq1 ⟨g1, k1, rfl, gg1, R1, hq1⟩
  replace BV := BV.below hq1
  replace BB := BB.below hq1
  replace BS := BS.below hq1
  replace BR := BR.below hq1
  replace r1 := r1.below hq1
  replace r2 := r2.below hq1
  replace hb := chain hb hq1
  have hs1 := hb.size
  have gl1 := R1.lt
  (try go_wp2_with fail)
  refine hko hK (Blk.f4 BV (Blk.f2 BB (Blk.f4 BS (Blk.f2 BR ⟨BV, BB, BS, BR, r1, r2, hb⟩)))) fun hHeld => ?_
  clear hK K
  refine rdk 5 15 fun K hK => ?_
  go_simp
  -- call
  have BV := hHeld.2.2.2.2.2.2.2.2.2.2.2.2.1
  have BB := hHeld.2.2.2.2.2.2.2.2.2.2.2.2.2.1
  have BS := hHeld.2.2.2.2.2.2.2.2.2.2.2.2.2.2.1
  have BR := hHeld.2.2.2.2.2.2.2.2.2.2.2.2.2.2.2.1
  have r1 := hHeld.2.2.2.2.2.2.2.2.2.2.2.2.2.2.2.2.1
  have r2 := hHeld.2.2.2.2.2.2.2.2.2.2.2.2.2.2.2.2.2.1
  have hb := hHeld.2.2.2.2.2.2.2.2.2.2.2.2.2.2.2.2.2.2
  clear hHeld
  refine (HK2.out _ r2).mono ?_
  rintro e wq2 ⟨g2, k2, rfl, gg2, R2, hq2⟩
  replace BV := BV.below hq2
  replace BB := BB.below hq2
  replace BS := BS.below hq2
  replace BR := BR.below hq2
  replace r1 := r1.below hq2
  replace r2 := r2.below hq2
  replace hb := chain hb hq2
  replace R1 := R1.below hq2
  (try go_wp2_with fail)
  refine hko hK (Blk.f4 BV (Blk.f2 BB (Blk.f4 BS (Blk.f2 BR ⟨BV, BB, BS, BR, r1, r2, hb⟩)))) fun hHeld => ?_
  clear hK K
  refine tk 6 7 ?_
  refine tk 7 8 ?_
  refine wpAnyH_done (by kernel_rfl) ?_ _
  have BV := hHeld.2.2.2.2.2.2.2.2.2.2.2.2.1
  have BB := hHeld.2.2.2.2.2.2.2.2.2.2.2.2.2.1
  have BS := hHeld.2.2.2.2.2.2.2.2.2.2.2.2.2.2.1
  have BR := hHeld.2.2.2.2.2.2.2.2.2.2.2.2.2.2.2.1
  have r1 := hHeld.2.2.2.2.2.2.2.2.2.2.2.2.2.2.2.2.1
  have r2 := hHeld.2.2.2.2.2.2.2.2.2.2.2.2.2.2.2.2.2.1
  have hb := hHeld.2.2.2.2.2.2.2.2.2.2.2.2.2.2.2.2.2.2
  clear hHeld
  have gl2 := R2.lt
  have gl1b := R1.lt
  have hne1 : ¬ g1 = g2 := by omega
  have hne2 : ¬ g2 = g1 := by omega
  have hng10a : ¬ g1 = w.heap.size := by omega
  have hng10b : ¬ w.heap.size = g1 := by omega
  have hng11a : ¬ g1 = w.heap.size + 1 := by omega
  have hng11b : ¬ w.heap.size + 1 = g1 := by omega
  have hng12a : ¬ g1 = w.heap.size + 1 + 1 := by omega
  have hng12b : ¬ w.heap.size + 1 + 1 = g1 := by omega
  have hng13a : ¬ g1 = w.heap.size + 1 + 1 + 1 := by omega
  have hng13b : ¬ w.heap.size + 1 + 1 + 1 = g1 := by omega
  have hng20a : ¬ g2 = w.heap.size := by omega
  have hng20b : ¬ w.heap.size = g2 := by omega
  have hng21a : ¬ g2 = w.heap.size + 1 := by omega
  have hng21b : ¬ w.heap.size + 1 = g2 := by omega
  have hng22a : ¬ g2 = w.heap.size + 1 + 1 := by omega
  have hng22b : ¬ w.heap.size + 1 + 1 = g2 := by omega
  have hng23a : ¬ g2 = w.heap.size + 1 + 1 + 1 := by omega
  have hng23b : ¬ w.heap.size + 1 + 1 + 1 = g2 := by omega
  have fr1 := fun i => R1.free i
  have fr2 := fun i => R2.free i
  obtain ⟨x0, x1, x2, x3, xf, xl⟩ := BV.four
  obtain ⟨s0, s1, s2, s3, sf, sl⟩ := BS.four
  obtain ⟨u0, u1, uf, ul⟩ := BR.two
  have cu := R1.cell f (by omega); rw [Hu.out] at cu
  have cv := R1.cell t (by omega); rw [Hv.out] at cv
  have cy := R2.cell K (by omega); rw [Hy.out] at cy
  have cz := R2.cell P (by omega); rw [Hz.out] at cz
  go_wp2_with fail
  go_region
  go_wp2_with fail
  go_region
  go_wp2_with fail
  go_region
  go_wp2
  refine bodyPost_ret (v := .agg #[.slice (some ⟨g1, 0, none⟩) n1 k1, .slice (some ⟨g2, 0, none⟩) n2 k2]) (by first | (simp [results, Tryz.results40, go_sem, u0, u1]; done) | (simp [results, Tryz.results40, go_sem, *]; done)) rfl ?_
  exact ⟨some ⟨g1, 0, none⟩, some ⟨g2, 0, none⟩, k1, k2, by rw [HXl.out, HYl.out, show n1 = P + 1 by omega, show n2 = P + 1 by omega], .inr ⟨g1, g2, rfl, rfl, by omega, by omega, by simpa using gl1b, by omega, by simpa using gl2, ((((((R1.set f (u - 1)).set t (v + 1)).other (by omega)).other (by omega)).other (by omega)).other (by omega)).drew.drew.drew.wf EX.out, ((((((R2.other (by omega)).other (by omega)).set K (y - 1)).set P (z + 1)).other (by omega)).other (by omega)).drew.drew.drew.wf EY.out⟩, ((((((hb.setCell (by simp; omega) _).setCell (by simp; omega) _).setCell (by simp; omega) _).setCell (by simp; omega) _).setCell (by simp; omega) _).setCell (by simp; omega) _).drew.drew.drew⟩
set_option maxRecDepth 8000 in
set_option maxHeartbeats 4000000 in
theorem l04Apply_far_false (P : Nat) (c h s : Int) (a1 a2 : Option Addr) (n1 n2 c1 c2 : Nat) (xs ys : List Int) (w : World) (h1 : xs.length = n1) (h2 : ys.length = n2) (p0 : 2 ≤ P) (p1 : P ≤ 24) (N1 : xs.length = P + 1) (N2 : ys.length = P + 1) (hh0 : 1 ≤ h) (hh : h ≤ (P : Int)) (hx : ∀ x ∈ xs, 0 ≤ x ∧ x ≤ 1000) (hy : ∀ y ∈ ys, 0 ≤ y ∧ y ≤ 1000) (r1 : IRow w a1 xs) (r2 : IRow w a2 ys) (f : Nat) (td : Int) (fP : f ≤ P) (t : Nat) (tP : t < P) (hne : ¬ t = f) :
    Calls Tryz.prog 40 #[.agg #[.int .i64 (P : Int), .int .i64 c, .int .i64 h, .int .i64 s], .agg #[.slice a1 n1 c1, .slice a2 n2 c2], stV ((f : Int), (t : Int), td, false)] w (BoardGot (mvX xs f ((t : Int)) 1) (mvY P ys ((t : Int)) false 1) w) := by
  have hK1 := fun W (hr : IRow W a1 xs) => l02Own_any a1 n1 c1 xs W h1 (by omega) (by omega) hr
  have hK2 := fun W (hr : IRow W a2 ys) => l02Own_any a2 n2 c2 ys W h2 (by omega) (by omega) hr
  have HK1 := Lib.hid hK1
  have HK2 := Lib.hid hK2
  clear hK1 hK2
  obtain ⟨BV, BB, BS, BR, hb, hz⟩ := four_new w #[.int .i64 (P : Int), .int .i64 c, .int .i64 h, .int .i64 s] #[.slice a1 n1 c1, .slice a2 n2 c2] #[.int .i64 (f : Int), .int .i64 ((t : Int)), .int .i64 td, .bool false] #[.slice none 0 0, .slice none 0 0] 25 28 55 28
  have hft : (f : Int) < (n1 : Int) := by omega
  have hPt : (P : Int) < (n2 : Int) := by omega
  have hfn : f < n1 := by omega
  have hPn : P < n2 := by omega
  obtain ⟨u, hu⟩ : ∃ u, xs.getD f 0 = u := ⟨_, rfl⟩
  have ub := hx _ (getD_mem (show f < xs.length by omega))
  rw [hu] at ub
  have ua : 0 ≤ u := ub.1
  have uz : u ≤ 1000 := ub.2
  have hm1 : decide ((0 : Int) ≤ (t : Int)) = true := by simp
  have htt : (t : Int) < (n1 : Int) := by omega
  have htn : t < n1 := by omega
  have hne3 : ¬ f = t := fun e => hne e.symm
  obtain ⟨v, hv⟩ : ∃ v, xs.getD t 0 = v := ⟨_, rfl⟩
  have vb := hx _ (getD_mem (show t < xs.length by omega))
  rw [hv] at vb
  have va : 0 ≤ v := vb.1
  have vz : v ≤ 1000 := vb.2
  obtain ⟨X, hX⟩ : ∃ X, mvX xs (f : Int) ((t : Int)) 1 = X := ⟨_, rfl⟩
  obtain ⟨Y, hY⟩ : ∃ Y, mvY P ys ((t : Int)) false 1 = Y := ⟨_, rfl⟩
  have eX : (xs.set f (u - 1)).set t (v + 1) = X := by
    rw [← hX]
    unfold mvX
    rw [if_neg (by omega)]
    simp only [Int.toNat_natCast]
    rw [hu, getD_set_ne xs _ hne, hv]
  have eY : ys = Y := by
    rw [← hY]
    unfold mvY
    rw [if_neg (by simp)]
  have hXl : X.length = P + 1 := by rw [← hX, mvX_length, N1]
  have hYl : Y.length = P + 1 := by rw [← hY, mvY_length, N2]
  rw [hX, hY]
  have Hu := Lib.hid hu
  have Hv := Lib.hid hv
  have EX := Lib.hid eX
  have EY := Lib.hid eY
  have HXl := Lib.hid hXl
  have HYl := Lib.hid hYl
  clear hX hY eX eY hXl hYl
  clear hu ub
  clear hv vb
  go_enter Tryz.func40, Tryz.ntmps40
  go_wp2_with fail
  replace r1 := r1.below hb
  replace r2 := r2.below hb
  clear hz
  obtain ⟨xn1, hn1⟩ : ∃ z, xs.length = z := ⟨_, rfl⟩
  obtain ⟨yn1, hn2⟩ : ∃ z, ys.length = z := ⟨_, rfl⟩
  generalize ((((w.alloc (.cells #[.int .i64 (P : Int), .int .i64 c, .int .i64 h, .int .i64 s] 25)).alloc (.cells #[.slice a1 n1 c1, .slice a2 n2 c2] 28)).alloc (.cells #[.int .i64 (f : Int), .int .i64 ((t : Int)), .int .i64 td, .bool false] 55)).alloc (.cells #[.slice none 0 0, .slice none 0 0] 28)) = v0 at *
  have hz4 := BR.lt
  have hz5 : v0.drew.heap.size = v0.heap.size := rfl
  replace BV := BV.drew
  replace BB := BB.drew
  replace BS := BS.drew
  replace BR := BR.drew
  replace r1 := r1.drew
  replace r2 := r2.drew
  replace hb := hb.drew
  refine wp_region_held_drew (S := fun w' => w'.cell? ⟨w.heap.size, 0, none⟩ = some (.int .i64 (P : Int)) ∧ w'.cell? ⟨w.heap.size, 1, none⟩ = some (.int .i64 c) ∧ w'.cell? ⟨w.heap.size, 2, none⟩ = some (.int .i64 h) ∧ w'.cell? ⟨w.heap.size, 3, none⟩ = some (.int .i64 s) ∧ w'.cell? ⟨(w.heap.size + 1), 0, none⟩ = some (.slice a1 n1 c1) ∧ w'.cell? ⟨(w.heap.size + 1), 1, none⟩ = some (.slice a2 n2 c2) ∧ w'.cell? ⟨(w.heap.size + 1 + 1), 0, none⟩ = some (.int .i64 (f : Int)) ∧ w'.cell? ⟨(w.heap.size + 1 + 1), 1, none⟩ = some (.int .i64 ((t : Int))) ∧ w'.cell? ⟨(w.heap.size + 1 + 1), 2, none⟩ = some (.int .i64 td) ∧ w'.cell? ⟨(w.heap.size + 1 + 1), 3, none⟩ = some (.bool false) ∧ w'.cell? ⟨(w.heap.size + 1 + 1 + 1), 0, none⟩ = some (.slice none 0 0) ∧ w'.cell? ⟨(w.heap.size + 1 + 1 + 1), 1, none⟩ = some (.slice none 0 0) ∧ Blk w' w.heap.size #[.int .i64 (P : Int), .int .i64 c, .int .i64 h, .int .i64 s] 25 ∧ Blk w' ((w.heap.size + 1)) #[.slice a1 n1 c1, .slice a2 n2 c2] 28 ∧ Blk w' ((w.heap.size + 1 + 1)) #[.int .i64 (f : Int), .int .i64 ((t : Int)), .int .i64 td, .bool false] 55 ∧ Blk w' ((w.heap.size + 1 + 1 + 1)) #[.slice none 0 0, .slice none 0 0] 28 ∧ (IRow w' a1 xs) ∧ (IRow w' a2 ys) ∧ Below w.heap.size w w') (by kernel_rfl) ⟨BV.four.1, BV.four.2.1, BV.four.2.2.1, BV.four.2.2.2.1, BB.two.1, BB.two.2.1, BS.four.1, BS.four.2.1, BS.four.2.2.1, BS.four.2.2.2.1, BR.two.1, BR.two.2.1, BV, BB, BS, BR, r1, r2, hb⟩ (fun hHeld => ?_)
  refine tk 0 10 ?_
  refine tk 1 11 ?_
  refine tk 3 13 ?_
  refine tk 4 14 ?_
  refine rdk 2 12 fun K hK => ?_
  go_simp
  -- call
  have BV := hHeld.2.2.2.2.2.2.2.2.2.2.2.2.1
  have BB := hHeld.2.2.2.2.2.2.2.2.2.2.2.2.2.1
  have BS := hHeld.2.2.2.2.2.2.2.2.2.2.2.2.2.2.1
  have BR := hHeld.2.2.2.2.2.2.2.2.2.2.2.2.2.2.2.1
  have r1 := hHeld.2.2.2.2.2.2.2.2.2.2.2.2.2.2.2.2.1
  have r2 := hHeld.2.2.2.2.2.2.2.2.2.2.2.2.2.2.2.2.2.1
  have hb := hHeld.2.2.2.2.2.2.2.2.2.2.2.2.2.2.2.2.2.2
  clear hHeld
  refine (HK1.out _ r1).mono ?_
  rintro e wq1 ⟨g1, k1, rfl, gg1, R1, hq1⟩
  replace BV := BV.below hq1
  replace BB := BB.below hq1
  replace BS := BS.below hq1
  replace BR := BR.below hq1
  replace r1 := r1.below hq1
  replace r2 := r2.below hq1
  replace hb := chain hb hq1
  have hs1 := hb.size
  have gl1 := R1.lt
  (try go_wp2_with fail)
  refine hko hK (Blk.f4 BV (Blk.f2 BB (Blk.f4 BS (Blk.f2 BR ⟨BV, BB, BS, BR, r1, r2, hb⟩)))) fun hHeld => ?_
  clear hK K
  refine rdk 5 15 fun K hK => ?_
  go_simp
  -- call
  have BV := hHeld.2.2.2.2.2.2.2.2.2.2.2.2.1
  have BB := hHeld.2.2.2.2.2.2.2.2.2.2.2.2.2.1
  have BS := hHeld.2.2.2.2.2.2.2.2.2.2.2.2.2.2.1
  have BR := hHeld.2.2.2.2.2.2.2.2.2.2.2.2.2.2.2.1
  have r1 := hHeld.2.2.2.2.2.2.2.2.2.2.2.2.2.2.2.2.1
  have r2 := hHeld.2.2.2.2.2.2.2.2.2.2.2.2.2.2.2.2.2.1
  have hb := hHeld.2.2.2.2.2.2.2.2.2.2.2.2.2.2.2.2.2.2
  clear hHeld
  refine (HK2.out _ r2).mono ?_
  rintro e wq2 ⟨g2, k2, rfl, gg2, R2, hq2⟩
  replace BV := BV.below hq2
  replace BB := BB.below hq2
  replace BS := BS.below hq2
  replace BR := BR.below hq2
  replace r1 := r1.below hq2
  replace r2 := r2.below hq2
  replace hb := chain hb hq2
  replace R1 := R1.below hq2
  (try go_wp2_with fail)
  refine hko hK (Blk.f4 BV (Blk.f2 BB (Blk.f4 BS (Blk.f2 BR ⟨BV, BB, BS, BR, r1, r2, hb⟩)))) fun hHeld => ?_
  clear hK K
  refine tk 6 7 ?_
  refine tk 7 8 ?_
  refine wpAnyH_done (by kernel_rfl) ?_ _
  have BV := hHeld.2.2.2.2.2.2.2.2.2.2.2.2.1
  have BB := hHeld.2.2.2.2.2.2.2.2.2.2.2.2.2.1
  have BS := hHeld.2.2.2.2.2.2.2.2.2.2.2.2.2.2.1
  have BR := hHeld.2.2.2.2.2.2.2.2.2.2.2.2.2.2.2.1
  have r1 := hHeld.2.2.2.2.2.2.2.2.2.2.2.2.2.2.2.2.1
  have r2 := hHeld.2.2.2.2.2.2.2.2.2.2.2.2.2.2.2.2.2.1
  have hb := hHeld.2.2.2.2.2.2.2.2.2.2.2.2.2.2.2.2.2.2
  clear hHeld
  have gl2 := R2.lt
  have gl1b := R1.lt
  have hne1 : ¬ g1 = g2 := by omega
  have hne2 : ¬ g2 = g1 := by omega
  have hng10a : ¬ g1 = w.heap.size := by omega
  have hng10b : ¬ w.heap.size = g1 := by omega
  have hng11a : ¬ g1 = w.heap.size + 1 := by omega
  have hng11b : ¬ w.heap.size + 1 = g1 := by omega
  have hng12a : ¬ g1 = w.heap.size + 1 + 1 := by omega
  have hng12b : ¬ w.heap.size + 1 + 1 = g1 := by omega
  have hng13a : ¬ g1 = w.heap.size + 1 + 1 + 1 := by omega
  have hng13b : ¬ w.heap.size + 1 + 1 + 1 = g1 := by omega
  have hng20a : ¬ g2 = w.heap.size := by omega
  have hng20b : ¬ w.heap.size = g2 := by omega
  have hng21a : ¬ g2 = w.heap.size + 1 := by omega
  have hng21b : ¬ w.heap.size + 1 = g2 := by omega
  have hng22a : ¬ g2 = w.heap.size + 1 + 1 := by omega
  have hng22b : ¬ w.heap.size + 1 + 1 = g2 := by omega
  have hng23a : ¬ g2 = w.heap.size + 1 + 1 + 1 := by omega
  have hng23b : ¬ w.heap.size + 1 + 1 + 1 = g2 := by omega
  have fr1 := fun i => R1.free i
  have fr2 := fun i => R2.free i
  obtain ⟨x0, x1, x2, x3, xf, xl⟩ := BV.four
  obtain ⟨s0, s1, s2, s3, sf, sl⟩ := BS.four
  obtain ⟨u0, u1, uf, ul⟩ := BR.two
  have cu := R1.cell f (by omega); rw [Hu.out] at cu
  have cv := R1.cell t (by omega); rw [Hv.out] at cv
  go_wp2_with fail
  go_region
  go_wp2_with fail
  go_region
  go_wp2
  refine bodyPost_ret (v := .agg #[.slice (some ⟨g1, 0, none⟩) n1 k1, .slice (some ⟨g2, 0, none⟩) n2 k2]) (by first | (simp [results, Tryz.results40, go_sem, u0, u1]; done) | (simp [results, Tryz.results40, go_sem, *]; done)) rfl ?_
  exact ⟨some ⟨g1, 0, none⟩, some ⟨g2, 0, none⟩, k1, k2, by rw [HXl.out, HYl.out, show n1 = P + 1 by omega, show n2 = P + 1 by omega], .inr ⟨g1, g2, rfl, rfl, by omega, by omega, by simpa using gl1b, by omega, by simpa using gl2, ((((R1.set f (u - 1)).set t (v + 1)).other (by omega)).other (by omega)).drew.drew.wf EX.out, ((((R2.other (by omega)).other (by omega)).other (by omega)).other (by omega)).drew.drew.wf EY.out⟩, ((((hb.setCell (by simp; omega) _).setCell (by simp; omega) _).setCell (by simp; omega) _).setCell (by simp; omega) _).drew.drew⟩
set_option maxRecDepth 8000 in
set_option maxHeartbeats 4000000 in
theorem l04Apply_off_false (P : Nat) (c h s : Int) (a1 a2 : Option Addr) (n1 n2 c1 c2 : Nat) (xs ys : List Int) (w : World) (h1 : xs.length = n1) (h2 : ys.length = n2) (p0 : 2 ≤ P) (p1 : P ≤ 24) (N1 : xs.length = P + 1) (N2 : ys.length = P + 1) (hh0 : 1 ≤ h) (hh : h ≤ (P : Int)) (hx : ∀ x ∈ xs, 0 ≤ x ∧ x ≤ 1000) (hy : ∀ y ∈ ys, 0 ≤ y ∧ y ≤ 1000) (r1 : IRow w a1 xs) (r2 : IRow w a2 ys) (f : Nat) (td : Int) (fP : f ≤ P)  :
    Calls Tryz.prog 40 #[.agg #[.int .i64 (P : Int), .int .i64 c, .int .i64 h, .int .i64 s], .agg #[.slice a1 n1 c1, .slice a2 n2 c2], stV ((f : Int), -1, td, false)] w (BoardGot (mvX xs f (-1) 1) (mvY P ys (-1) false 1) w) := by
  have hK1 := fun W (hr : IRow W a1 xs) => l02Own_any a1 n1 c1 xs W h1 (by omega) (by omega) hr
  have hK2 := fun W (hr : IRow W a2 ys) => l02Own_any a2 n2 c2 ys W h2 (by omega) (by omega) hr
  have HK1 := Lib.hid hK1
  have HK2 := Lib.hid hK2
  clear hK1 hK2
  obtain ⟨BV, BB, BS, BR, hb, hz⟩ := four_new w #[.int .i64 (P : Int), .int .i64 c, .int .i64 h, .int .i64 s] #[.slice a1 n1 c1, .slice a2 n2 c2] #[.int .i64 (f : Int), .int .i64 (-1), .int .i64 td, .bool false] #[.slice none 0 0, .slice none 0 0] 25 28 55 28
  have hft : (f : Int) < (n1 : Int) := by omega
  have hPt : (P : Int) < (n2 : Int) := by omega
  have hfn : f < n1 := by omega
  have hPn : P < n2 := by omega
  obtain ⟨u, hu⟩ : ∃ u, xs.getD f 0 = u := ⟨_, rfl⟩
  have ub := hx _ (getD_mem (show f < xs.length by omega))
  rw [hu] at ub
  have ua : 0 ≤ u := ub.1
  have uz : u ≤ 1000 := ub.2
  obtain ⟨X, hX⟩ : ∃ X, mvX xs (f : Int) (-1) 1 = X := ⟨_, rfl⟩
  obtain ⟨Y, hY⟩ : ∃ Y, mvY P ys (-1) false 1 = Y := ⟨_, rfl⟩
  have eX : xs.set f (u - 1) = X := by
    rw [← hX]
    unfold mvX
    rw [if_pos rfl]
    simp only [Int.toNat_natCast]
    rw [hu]
  have eY : ys = Y := by
    rw [← hY]
    unfold mvY
    rw [if_neg (by simp)]
  have hXl : X.length = P + 1 := by rw [← hX, mvX_length, N1]
  have hYl : Y.length = P + 1 := by rw [← hY, mvY_length, N2]
  rw [hX, hY]
  have Hu := Lib.hid hu
  have EX := Lib.hid eX
  have EY := Lib.hid eY
  have HXl := Lib.hid hXl
  have HYl := Lib.hid hYl
  clear hX hY eX eY hXl hYl
  clear hu ub
  go_enter Tryz.func40, Tryz.ntmps40
  go_wp2_with fail
  replace r1 := r1.below hb
  replace r2 := r2.below hb
  clear hz
  obtain ⟨xn1, hn1⟩ : ∃ z, xs.length = z := ⟨_, rfl⟩
  obtain ⟨yn1, hn2⟩ : ∃ z, ys.length = z := ⟨_, rfl⟩
  generalize ((((w.alloc (.cells #[.int .i64 (P : Int), .int .i64 c, .int .i64 h, .int .i64 s] 25)).alloc (.cells #[.slice a1 n1 c1, .slice a2 n2 c2] 28)).alloc (.cells #[.int .i64 (f : Int), .int .i64 (-1), .int .i64 td, .bool false] 55)).alloc (.cells #[.slice none 0 0, .slice none 0 0] 28)) = v0 at *
  have hz4 := BR.lt
  have hz5 : v0.drew.heap.size = v0.heap.size := rfl
  replace BV := BV.drew
  replace BB := BB.drew
  replace BS := BS.drew
  replace BR := BR.drew
  replace r1 := r1.drew
  replace r2 := r2.drew
  replace hb := hb.drew
  refine wp_region_held_drew (S := fun w' => w'.cell? ⟨w.heap.size, 0, none⟩ = some (.int .i64 (P : Int)) ∧ w'.cell? ⟨w.heap.size, 1, none⟩ = some (.int .i64 c) ∧ w'.cell? ⟨w.heap.size, 2, none⟩ = some (.int .i64 h) ∧ w'.cell? ⟨w.heap.size, 3, none⟩ = some (.int .i64 s) ∧ w'.cell? ⟨(w.heap.size + 1), 0, none⟩ = some (.slice a1 n1 c1) ∧ w'.cell? ⟨(w.heap.size + 1), 1, none⟩ = some (.slice a2 n2 c2) ∧ w'.cell? ⟨(w.heap.size + 1 + 1), 0, none⟩ = some (.int .i64 (f : Int)) ∧ w'.cell? ⟨(w.heap.size + 1 + 1), 1, none⟩ = some (.int .i64 (-1)) ∧ w'.cell? ⟨(w.heap.size + 1 + 1), 2, none⟩ = some (.int .i64 td) ∧ w'.cell? ⟨(w.heap.size + 1 + 1), 3, none⟩ = some (.bool false) ∧ w'.cell? ⟨(w.heap.size + 1 + 1 + 1), 0, none⟩ = some (.slice none 0 0) ∧ w'.cell? ⟨(w.heap.size + 1 + 1 + 1), 1, none⟩ = some (.slice none 0 0) ∧ Blk w' w.heap.size #[.int .i64 (P : Int), .int .i64 c, .int .i64 h, .int .i64 s] 25 ∧ Blk w' ((w.heap.size + 1)) #[.slice a1 n1 c1, .slice a2 n2 c2] 28 ∧ Blk w' ((w.heap.size + 1 + 1)) #[.int .i64 (f : Int), .int .i64 (-1), .int .i64 td, .bool false] 55 ∧ Blk w' ((w.heap.size + 1 + 1 + 1)) #[.slice none 0 0, .slice none 0 0] 28 ∧ (IRow w' a1 xs) ∧ (IRow w' a2 ys) ∧ Below w.heap.size w w') (by kernel_rfl) ⟨BV.four.1, BV.four.2.1, BV.four.2.2.1, BV.four.2.2.2.1, BB.two.1, BB.two.2.1, BS.four.1, BS.four.2.1, BS.four.2.2.1, BS.four.2.2.2.1, BR.two.1, BR.two.2.1, BV, BB, BS, BR, r1, r2, hb⟩ (fun hHeld => ?_)
  refine tk 0 10 ?_
  refine tk 1 11 ?_
  refine tk 3 13 ?_
  refine tk 4 14 ?_
  refine rdk 2 12 fun K hK => ?_
  go_simp
  -- call
  have BV := hHeld.2.2.2.2.2.2.2.2.2.2.2.2.1
  have BB := hHeld.2.2.2.2.2.2.2.2.2.2.2.2.2.1
  have BS := hHeld.2.2.2.2.2.2.2.2.2.2.2.2.2.2.1
  have BR := hHeld.2.2.2.2.2.2.2.2.2.2.2.2.2.2.2.1
  have r1 := hHeld.2.2.2.2.2.2.2.2.2.2.2.2.2.2.2.2.1
  have r2 := hHeld.2.2.2.2.2.2.2.2.2.2.2.2.2.2.2.2.2.1
  have hb := hHeld.2.2.2.2.2.2.2.2.2.2.2.2.2.2.2.2.2.2
  clear hHeld
  refine (HK1.out _ r1).mono ?_
  rintro e wq1 ⟨g1, k1, rfl, gg1, R1, hq1⟩
  replace BV := BV.below hq1
  replace BB := BB.below hq1
  replace BS := BS.below hq1
  replace BR := BR.below hq1
  replace r1 := r1.below hq1
  replace r2 := r2.below hq1
  replace hb := chain hb hq1
  have hs1 := hb.size
  have gl1 := R1.lt
  (try go_wp2_with fail)
  refine hko hK (Blk.f4 BV (Blk.f2 BB (Blk.f4 BS (Blk.f2 BR ⟨BV, BB, BS, BR, r1, r2, hb⟩)))) fun hHeld => ?_
  clear hK K
  refine rdk 5 15 fun K hK => ?_
  go_simp
  -- call
  have BV := hHeld.2.2.2.2.2.2.2.2.2.2.2.2.1
  have BB := hHeld.2.2.2.2.2.2.2.2.2.2.2.2.2.1
  have BS := hHeld.2.2.2.2.2.2.2.2.2.2.2.2.2.2.1
  have BR := hHeld.2.2.2.2.2.2.2.2.2.2.2.2.2.2.2.1
  have r1 := hHeld.2.2.2.2.2.2.2.2.2.2.2.2.2.2.2.2.1
  have r2 := hHeld.2.2.2.2.2.2.2.2.2.2.2.2.2.2.2.2.2.1
  have hb := hHeld.2.2.2.2.2.2.2.2.2.2.2.2.2.2.2.2.2.2
  clear hHeld
  refine (HK2.out _ r2).mono ?_
  rintro e wq2 ⟨g2, k2, rfl, gg2, R2, hq2⟩
  replace BV := BV.below hq2
  replace BB := BB.below hq2
  replace BS := BS.below hq2
  replace BR := BR.below hq2
  replace r1 := r1.below hq2
  replace r2 := r2.below hq2
  replace hb := chain hb hq2
  replace R1 := R1.below hq2
  (try go_wp2_with fail)
  refine hko hK (Blk.f4 BV (Blk.f2 BB (Blk.f4 BS (Blk.f2 BR ⟨BV, BB, BS, BR, r1, r2, hb⟩)))) fun hHeld => ?_
  clear hK K
  refine tk 6 7 ?_
  refine tk 7 8 ?_
  refine wpAnyH_done (by kernel_rfl) ?_ _
  have BV := hHeld.2.2.2.2.2.2.2.2.2.2.2.2.1
  have BB := hHeld.2.2.2.2.2.2.2.2.2.2.2.2.2.1
  have BS := hHeld.2.2.2.2.2.2.2.2.2.2.2.2.2.2.1
  have BR := hHeld.2.2.2.2.2.2.2.2.2.2.2.2.2.2.2.1
  have r1 := hHeld.2.2.2.2.2.2.2.2.2.2.2.2.2.2.2.2.1
  have r2 := hHeld.2.2.2.2.2.2.2.2.2.2.2.2.2.2.2.2.2.1
  have hb := hHeld.2.2.2.2.2.2.2.2.2.2.2.2.2.2.2.2.2.2
  clear hHeld
  have gl2 := R2.lt
  have gl1b := R1.lt
  have hne1 : ¬ g1 = g2 := by omega
  have hne2 : ¬ g2 = g1 := by omega
  have hng10a : ¬ g1 = w.heap.size := by omega
  have hng10b : ¬ w.heap.size = g1 := by omega
  have hng11a : ¬ g1 = w.heap.size + 1 := by omega
  have hng11b : ¬ w.heap.size + 1 = g1 := by omega
  have hng12a : ¬ g1 = w.heap.size + 1 + 1 := by omega
  have hng12b : ¬ w.heap.size + 1 + 1 = g1 := by omega
  have hng13a : ¬ g1 = w.heap.size + 1 + 1 + 1 := by omega
  have hng13b : ¬ w.heap.size + 1 + 1 + 1 = g1 := by omega
  have hng20a : ¬ g2 = w.heap.size := by omega
  have hng20b : ¬ w.heap.size = g2 := by omega
  have hng21a : ¬ g2 = w.heap.size + 1 := by omega
  have hng21b : ¬ w.heap.size + 1 = g2 := by omega
  have hng22a : ¬ g2 = w.heap.size + 1 + 1 := by omega
  have hng22b : ¬ w.heap.size + 1 + 1 = g2 := by omega
  have hng23a : ¬ g2 = w.heap.size + 1 + 1 + 1 := by omega
  have hng23b : ¬ w.heap.size + 1 + 1 + 1 = g2 := by omega
  have fr1 := fun i => R1.free i
  have fr2 := fun i => R2.free i
  obtain ⟨x0, x1, x2, x3, xf, xl⟩ := BV.four
  obtain ⟨s0, s1, s2, s3, sf, sl⟩ := BS.four
  obtain ⟨u0, u1, uf, ul⟩ := BR.two
  have cu := R1.cell f (by omega); rw [Hu.out] at cu
  go_wp2_with fail
  go_region
  go_wp2
  refine bodyPost_ret (v := .agg #[.slice (some ⟨g1, 0, none⟩) n1 k1, .slice (some ⟨g2, 0, none⟩) n2 k2]) (by first | (simp [results, Tryz.results40, go_sem, u0, u1]; done) | (simp [results, Tryz.results40, go_sem, *]; done)) rfl ?_
  exact ⟨some ⟨g1, 0, none⟩, some ⟨g2, 0, none⟩, k1, k2, by rw [HXl.out, HYl.out, show n1 = P + 1 by omega, show n2 = P + 1 by omega], .inr ⟨g1, g2, rfl, rfl, by omega, by omega, by simpa using gl1b, by omega, by simpa using gl2, (((R1.set f (u - 1)).other (by omega)).other (by omega)).drew.wf EX.out, (((R2.other (by omega)).other (by omega)).other (by omega)).drew.wf EY.out⟩, (((hb.setCell (by simp; omega) _).setCell (by simp; omega) _).setCell (by simp; omega) _).drew⟩
theorem legB_form {P : Nat} {h s : Int} {xs ys : List Int} {a b d : Int} {q : Bool} (g : legB P h s xs ys (a, b, d, q) = true) : ∃ f : Nat, a = (f : Int) ∧ f ≤ P ∧ ((b = -1 ∧ q = false) ∨ ∃ t : Nat, b = (t : Int) ∧ t < P ∧ ¬ t = f) := by
  have hp := legB_places g
  unfold legB at g
  simp only [placesB, Bool.and_eq_true, decide_eq_true_eq] at g hp
  obtain ⟨g1, _, _, g2⟩ := g
  have g1' : 1 ≤ d ∧ d ≤ s := by simpa [inB] using g1
  obtain ⟨p1, p2, p3, p4⟩ := hp
  obtain ⟨f, rfl⟩ := Int.eq_ofNat_of_zero_le p1
  refine ⟨f, rfl, by omega, ?_⟩
  rw [show (f : Int).toNat = f by simp] at g2
  unfold stepI at g2
  split at g2
  · simp at g2
  · split at g2
    · simp only [Option.some.injEq, Prod.mk.injEq] at g2
      obtain ⟨_, g3, _, g4⟩ := g2
      by_cases hb : b = -1
      · left
        refine ⟨hb, ?_⟩
        rw [← g4, g3, hb]
        rfl
      · right
        obtain ⟨t, rfl⟩ := Int.eq_ofNat_of_zero_le (by omega : 0 ≤ b)
        refine ⟨t, rfl, by omega, ?_⟩
        unfold toI at g3
        split at g3
        · omega
        · omega
    · simp at g2
theorem l04Apply_any (P : Nat) (c h s : Int) (a1 a2 : Option Addr) (n1 n2 c1 c2 : Nat) (xs ys : List Int) (w : World) (h1 : xs.length = n1) (h2 : ys.length = n2) (p0 : 2 ≤ P) (p1 : P ≤ 24) (N1 : xs.length = P + 1) (N2 : ys.length = P + 1) (hh0 : 1 ≤ h) (hh : h ≤ (P : Int)) (hx : ∀ x ∈ xs, 0 ≤ x ∧ x ≤ 1000) (hy : ∀ y ∈ ys, 0 ≤ y ∧ y ≤ 1000) (r1 : IRow w a1 xs) (r2 : IRow w a2 ys) (t : Stp) (gl : legB P h s xs ys t = true) :
    Calls Tryz.prog 40 #[.agg #[.int .i64 (P : Int), .int .i64 c, .int .i64 h, .int .i64 s], .agg #[.slice a1 n1 c1, .slice a2 n2 c2], stV t] w (BoardGot (mvX xs t.1 t.2.1 1) (mvY P ys t.2.1 t.2.2.2 1) w) := by
  obtain ⟨a, b, d, q⟩ := t
  obtain ⟨f, rfl, fP, hc⟩ := legB_form gl
  dsimp only
  rcases hc with ⟨rfl, rfl⟩ | ⟨t, rfl, tP, hne⟩
  · exact l04Apply_off_false P c h s a1 a2 n1 n2 c1 c2 xs ys w h1 h2 p0 p1 N1 N2 hh0 hh hx hy r1 r2 f d fP
  · cases q with
    | true => exact l04Apply_far_true P c h s a1 a2 n1 n2 c1 c2 xs ys w h1 h2 p0 p1 N1 N2 hh0 hh hx hy r1 r2 f d fP t tP hne
    | false => exact l04Apply_far_false P c h s a1 a2 n1 n2 c1 c2 xs ys w h1 h2 p0 p1 N1 N2 hh0 hh hx hy r1 r2 f d fP t tP hne
theorem getD_set (l : List Int) {i : Nat} (j : Nat) (v : Int) (hi : i < l.length) : (l.set i v).getD j 0 = if j = i then v else l.getD j 0 := by
  by_cases h : j = i
  · rw [if_pos h, h]
    exact getD_set_eq l v hi
  · rw [if_neg h]
    exact getD_set_ne l v h
theorem sum_set : ∀ (l : List Int) (i : Nat) (v : Int), i < l.length → (l.set i v).sum = l.sum - l.getD i 0 + v
  | [], i, v, h => by simp at h
  | x :: l, 0, v, h => by simp; omega
  | x :: l, i + 1, v, h => by
    have ih := sum_set l i v (by simpa using h)
    rw [List.set_cons_succ, List.sum_cons, List.sum_cons, ih, List.getD_cons_succ]
    omega
theorem pips_set (l : List Int) (i : Nat) (v : Int) (hi : i < l.length) : ∀ n : Nat, pipsL (l.set i v) n = pipsL l n + (if i < n then ((i : Int) + 1) * (v - l.getD i 0) else 0)
  | 0 => by simp [pipsL]
  | n + 1 => by
    have ih := pips_set l i v hi n
    rw [pipsL, pipsL, ih, getD_set l n v hi]
    by_cases h : n = i
    · subst h
      rw [if_pos rfl, if_neg (by omega), if_pos (by omega), Int.mul_sub]
      omega
    · rw [if_neg h]
      by_cases h2 : i < n
      · rw [if_pos h2, if_pos (by omega)]
        omega
      · rw [if_neg h2, if_neg (by omega)]
        omega
theorem elem_le_sum : ∀ (l : List Int), (∀ x ∈ l, 0 ≤ x) → ∀ x ∈ l, x ≤ l.sum
  | [], _, x, h => by simp at h
  | y :: l, h0, x, h => by
    have hs : 0 ≤ l.sum := by
      have : ∀ (m : List Int), (∀ x ∈ m, 0 ≤ x) → 0 ≤ m.sum := by
        intro m
        induction m with
        | nil => simp
        | cons a m ih =>
          intro hm
          have := hm a (by simp)
          have := ih (fun x hx => hm x (by simp [hx]))
          simp
          omega
      exact this l (fun x hx => h0 x (by simp [hx]))
    have hy := h0 y (by simp)
    rw [List.sum_cons]
    rcases List.mem_cons.1 h with rfl | h
    · omega
    · have := elem_le_sum l (fun x hx => h0 x (by simp [hx])) x h
      omega
theorem lastL_zero {l : List Int} (h : ∀ j, l.getD j 0 = 0) : ∀ n, lastL l n = -1
  | 0 => rfl
  | n + 1 => by rw [lastL_not (h n), lastL_zero h n]
theorem side_of {p c : Int} {l : List Int} (hl : (l.length : Int) = p + 1) (h0 : ∀ j, 0 ≤ l.getD j 0) (hs : l.sum ≤ c) : sideB p c l = true := by
  have hm : ∀ x ∈ l, 0 ≤ x := by
    intro x hx
    obtain ⟨j, hj, rfl⟩ := List.getElem_of_mem hx
    have := h0 j
    rw [List.getD_eq_getElem?_getD, List.getElem?_eq_getElem hj] at this
    simpa using this
  exact sideB_iff.2 ⟨hl, fun x hx => ⟨hm x hx, Int.le_trans (elem_le_sum l hm x hx) hs⟩, hs⟩
theorem leg_parts {P : Nat} {c h s : Int} {xs ys : List Int} {a b d : Int} {q : Bool} (g : isB (P : Int) c h s xs ys = true) (gl : legB P h s xs ys (a, b, d, q) = true) :
    ∃ f : Nat, a = (f : Int) ∧ f ≤ P ∧ 1 ≤ d ∧ d ≤ s ∧ 1 ≤ xs.getD f 0 ∧ 1 ≤ ys.sum ∧ ((b = -1 ∧ q = false ∧ (f : Int) < d) ∨ ∃ t : Nat, b = (t : Int) ∧ t < P ∧ ¬ t = f ∧ (t : Int) = (f : Int) - d ∧ ys.getD (P - 1 - t) 0 ≤ 1 ∧ q = decide (0 < ys.getD (P - 1 - t) 0)) := by
  obtain ⟨f, rfl, fP, hc⟩ := legB_form gl
  obtain ⟨p0, p1, k0, k1, k2, k3, N1, N2, hx, hy, s0, s1, s2, s3⟩ := isB_parts g
  unfold legB at gl
  simp only [Bool.and_eq_true, Bool.not_eq_true', decide_eq_true_eq] at gl
  obtain ⟨g1, -, g3, g4⟩ := gl
  have g1' : 1 ≤ d ∧ d ≤ s := by simpa [inB] using g1
  rw [show ((f : Int)).toNat = f by simp] at g4
  obtain ⟨-, e2, -, e4, e5, e6⟩ := stepI_form g4
  have e7 := stepI_hitA g4
  dsimp only at e2 e5 e7
  have hxf := (hx _ (getD_mem (show f < xs.length by omega))).1
  have hys : 1 ≤ ys.sum := by
    apply Classical.byContradiction
    intro hn
    have h0 : ys.sum = 0 := by omega
    have hz : ∀ j, ys.getD j 0 = 0 := by
      intro j
      have h1 := nonneg_getD (fun x hx => (hy x hx).1) j
      by_cases hj : j < ys.length
      · have h2 := elem_le_sum ys (fun x hx => (hy x hx).1) _ (getD_mem hj)
        omega
      · rw [getD_out (by omega)]
    have : overB xs ys = true := by
      unfold overB
      rw [lastL_zero hz]
      simp
    rw [this] at g3
    simp at g3
  refine ⟨f, rfl, fP, g1'.1, g1'.2, by omega, hys, ?_⟩
  rcases hc with ⟨rfl, rfl⟩ | ⟨t, rfl, tP, hne⟩
  · left
    refine ⟨rfl, rfl, ?_⟩
    unfold toI at e5
    split at e5
    · rename_i hk
      unfold alB at e6
      by_cases hp : f = P
      · rw [if_pos hp] at e6
        simp only [openB, Bool.and_eq_true, decide_eq_true_eq] at e6
        omega
      · omega
    · omega
  · right
    have ht : (t : Int) = (f : Int) - d := by omega
    refine ⟨t, rfl, tP, hne, ht, ?_, ?_⟩
    · have ho : openB P ys ((f : Int) - d) = true := by
        unfold alB at e6
        split at e6
        · exact e6
        · split at e6
          · simp only [Bool.and_eq_true] at e6
            exact e6.2
          · omega
      simp only [openB, Bool.and_eq_true, decide_eq_true_eq] at ho
      have := ho.2.2
      rw [← ht] at this
      simpa using this
    · rw [e7]
      have : decide ((t : Int) ≠ -1) = true := by simp
      rw [this, Bool.true_and]
      simp
theorem step_facts {P : Nat} {c h s : Int} {xs ys : List Int} {a b d : Int} {q : Bool} (g : isB (P : Int) c h s xs ys = true) (gl : legB P h s xs ys (a, b, d, q) = true) :
    isB (P : Int) c h s (mvX xs a b 1) (mvY P ys b q 1) = true ∧ mvX (mvX xs a b 1) a b (-1) = xs ∧ mvY P (mvY P ys b q 1) b q (-1) = ys ∧
    (1 ≤ pipsL xs xs.length - pipsL (mvX xs a b 1) (mvX xs a b 1).length ∧ pipsL xs xs.length - pipsL (mvX xs a b 1) (mvX xs a b 1).length ≤ d) ∧
    (if q = true then pipsL ys ys.length < pipsL (mvY P ys b q 1) (mvY P ys b q 1).length else pipsL (mvY P ys b q 1) (mvY P ys b q 1).length = pipsL ys ys.length) ∧
    (mvY P ys b q 1).getD P 0 - ys.getD P 0 = (if q = true then 1 else 0) := by
  obtain ⟨f, rfl, fP, d1, ds, hf, hys, hc⟩ := leg_parts g gl
  obtain ⟨p0, p1, k0, k1, k2, k3, N1, N2, hx, hy, s0, s1, s2, s3⟩ := isB_parts g
  have gap : apartB P xs ys = true := by
    simp only [isB, Bool.and_eq_true] at g
    simpa using g.2.2.2.2
  have gv : vB (P : Int) c h s = true := by
    simp only [isB, Bool.and_eq_true] at g
    exact g.1
  have hfn : f < xs.length := by omega
  have hPn : P < ys.length := by omega
  have hx0 := nonneg_getD (fun x hm => (hx x hm).1)
  have hy0 := nonneg_getD (fun x hm => (hy x hm).1)
  have hap := apart_iff.1 gap
  have mk : ∀ X Y : List Int, X.length = xs.length → Y.length = ys.length → (∀ j, 0 ≤ X.getD j 0) → (∀ j, 0 ≤ Y.getD j 0) → X.sum ≤ c → Y.sum ≤ c → 0 ≤ X.sum → 1 ≤ Y.sum → (∀ i, i < P → ¬ (0 < X.getD i 0 ∧ 0 < Y.getD (P - 1 - i) 0)) → isB (P : Int) c h s X Y = true := by
    intro X Y l1 l2 h1 h2 h3 h4 h5 h6 h7
    have hsum : decide (X.sum + Y.sum = 0) = false := by simp; omega
    rw [isB, gv, side_of (by omega) h1 h3, side_of (by omega) h2 h4, hsum, show ((P : Int)).toNat = P by simp, apart_iff.2 h7]
    rfl
  rcases hc with ⟨rfl, rfl, hd⟩ | ⟨t, rfl, tP, hne, ht, ho, rfl⟩
  · have eX : mvX xs (f : Int) (-1) 1 = xs.set f (xs.getD f 0 - 1) := by simp [mvX]
    have eY : mvY P ys (-1) false 1 = ys := by simp [mvY]
    have eX2 : mvX (xs.set f (xs.getD f 0 - 1)) (f : Int) (-1) (-1) = xs := by
      have : mvX (xs.set f (xs.getD f 0 - 1)) (f : Int) (-1) (-1) = (xs.set f (xs.getD f 0 - 1)).set f ((xs.set f (xs.getD f 0 - 1)).getD f 0 + 1) := by simp [mvX]
      rw [this, getD_set _ f _ hfn, if_pos rfl, List.set_set]
      apply ext_getD (by simp)
      intro j
      rw [getD_set _ j _ hfn]
      split
      · rename_i e; subst e; omega
      · rfl
    rw [eX, eY, eX2]
    have hsum := sum_set xs f (xs.getD f 0 - 1) hfn
    have hle := elem_le_sum xs (fun x hm => (hx x hm).1) _ (getD_mem hfn)
    have hp := pips_set xs f (xs.getD f 0 - 1) hfn xs.length
    rw [if_pos hfn, show xs.getD f 0 - 1 - xs.getD f 0 = -1 by omega, Int.mul_neg_one] at hp
    refine ⟨mk _ _ (by simp) rfl ?_ hy0 (by omega) s3 (by omega) hys ?_, rfl, by simp [mvY], ?_, by simp, by simp⟩
    · intro j
      rw [getD_set _ j _ hfn]
      have := hx0 j
      split <;> omega
    · intro i hi
      rw [getD_set _ i _ hfn]
      have := hap i hi
      split
      · rename_i e; subst e; omega
      · exact this
    · rw [List.length_set, hp]
      omega
  · obtain ⟨K, hK⟩ : ∃ K, P - 1 - t = K := ⟨_, rfl⟩
    have eK : ((P : Int) - 1 - (t : Int)).toNat = K := by omega
    have hKn : K < ys.length := by omega
    have htn : t < xs.length := by omega
    have hKP : ¬ K = P := by omega
    have hft : ¬ f = t := fun e => hne e.symm
    rw [hK] at ho ⊢
    have tn1 : ¬ ((t : Int) = -1) := by omega
    have eX : mvX xs (f : Int) (t : Int) 1 = (xs.set f (xs.getD f 0 - 1)).set t (xs.getD t 0 + 1) := by
      rw [mvX, if_neg tn1, show ((f : Int)).toNat = f by simp, show ((t : Int)).toNat = t by simp, getD_set _ t _ hfn, if_neg hne]
    have hX2 : ∀ j, ((xs.set f (xs.getD f 0 - 1)).set t (xs.getD t 0 + 1)).getD j 0 = if j = t then xs.getD t 0 + 1 else if j = f then xs.getD f 0 - 1 else xs.getD j 0 := by
      intro j
      rw [getD_set _ j _ (by rw [List.length_set]; exact htn), getD_set _ j _ hfn]
    have eX2 : mvX ((xs.set f (xs.getD f 0 - 1)).set t (xs.getD t 0 + 1)) (f : Int) (t : Int) (-1) = xs := by
      rw [mvX, if_neg tn1, show ((f : Int)).toNat = f by simp, show ((t : Int)).toNat = t by simp]
      apply ext_getD (by simp)
      intro j
      rw [getD_set _ j _ (by simp; exact htn), getD_set _ j _ (by simp; exact hfn), getD_set _ t _ (by simp; exact hfn), hX2, hX2, hX2, if_neg hft, if_pos rfl, if_neg hne, if_pos rfl]
      by_cases e1 : j = t
      · subst e1; rw [if_pos rfl]; omega
      · rw [if_neg e1]
        by_cases e2 : j = f
        · subst e2; rw [if_pos rfl]; omega
        · rw [if_neg e2, if_neg e1, if_neg e2]
    have hsum1 := sum_set xs f (xs.getD f 0 - 1) hfn
    have hsum2 := sum_set (xs.set f (xs.getD f 0 - 1)) t (xs.getD t 0 + 1) (by rw [List.length_set]; exact htn)
    rw [getD_set _ t _ hfn, if_neg hne] at hsum2
    have hp1 := pips_set xs f (xs.getD f 0 - 1) hfn xs.length
    have hp2 := pips_set (xs.set f (xs.getD f 0 - 1)) t (xs.getD t 0 + 1) (by rw [List.length_set]; exact htn) xs.length
    rw [if_pos hfn, show xs.getD f 0 - 1 - xs.getD f 0 = -1 by omega, Int.mul_neg_one] at hp1
    rw [getD_set _ t _ hfn, if_neg hne, if_pos htn, show xs.getD t 0 + 1 - xs.getD t 0 = 1 by omega, Int.mul_one, hp1] at hp2
    have hXn : ∀ j, 0 ≤ ((xs.set f (xs.getD f 0 - 1)).set t (xs.getD t 0 + 1)).getD j 0 := by
      intro j
      rw [hX2 j]
      have := hx0 j
      have := hx0 t
      split
      · omega
      · split <;> omega
    rw [eX, eX2]
    have hyK := hy0 K
    by_cases hq : 0 < ys.getD K 0
    · rw [decide_eq_true hq]
      have hy1 : ys.getD K 0 = 1 := by omega
      have hPK : ¬ P = K := fun e => hKP e.symm
      have eY : mvY P ys (t : Int) true 1 = (ys.set K (ys.getD K 0 - 1)).set P (ys.getD P 0 + 1) := by
        rw [mvY, if_pos rfl, eK, getD_set _ P _ hKn, if_neg hPK]
      have hY2 : ∀ j, ((ys.set K (ys.getD K 0 - 1)).set P (ys.getD P 0 + 1)).getD j 0 = if j = P then ys.getD P 0 + 1 else if j = K then ys.getD K 0 - 1 else ys.getD j 0 := by
        intro j
        rw [getD_set _ j _ (by rw [List.length_set]; exact hPn), getD_set _ j _ hKn]
      have eY2 : mvY P ((ys.set K (ys.getD K 0 - 1)).set P (ys.getD P 0 + 1)) (t : Int) true (-1) = ys := by
        rw [mvY, if_pos rfl, eK]
        apply ext_getD (by simp)
        intro j
        rw [getD_set _ j _ (by simp; exact hPn), getD_set _ j _ (by simp; exact hKn), getD_set _ P _ (by simp; exact hKn), hY2, hY2, hY2, if_neg hKP, if_pos rfl, if_neg hPK, if_pos rfl]
        by_cases e1 : j = P
        · subst e1; rw [if_pos rfl]; omega
        · rw [if_neg e1]
          by_cases e2 : j = K
          · subst e2; rw [if_pos rfl]; omega
          · rw [if_neg e2, if_neg e1, if_neg e2]
      have hsy1 := sum_set ys K (ys.getD K 0 - 1) hKn
      have hsy2 := sum_set (ys.set K (ys.getD K 0 - 1)) P (ys.getD P 0 + 1) (by rw [List.length_set]; exact hPn)
      rw [getD_set _ P _ hKn, if_neg hPK] at hsy2
      have hq1 := pips_set ys K (ys.getD K 0 - 1) hKn ys.length
      have hq2 := pips_set (ys.set K (ys.getD K 0 - 1)) P (ys.getD P 0 + 1) (by rw [List.length_set]; exact hPn) ys.length
      rw [if_pos hKn, show ys.getD K 0 - 1 - ys.getD K 0 = -1 by omega, Int.mul_neg_one] at hq1
      rw [getD_set _ P _ hKn, if_neg hPK, if_pos hPn, show ys.getD P 0 + 1 - ys.getD P 0 = 1 by omega, Int.mul_one, hq1] at hq2
      rw [eY, eY2]
      refine ⟨mk _ _ (by simp) (by simp) hXn ?_ (by omega) (by omega) (by omega) (by omega) ?_, rfl, rfl, ?_, ?_, ?_⟩
      · intro j
        rw [hY2 j]
        have := hy0 j
        have := hy0 P
        split
        · omega
        · split <;> omega
      · intro i hi
        rw [hX2, hY2]
        have h1 := hap i hi
        rw [if_neg (show ¬ P - 1 - i = P by omega)]
        by_cases e : i = t
        · subst e
          rw [if_pos rfl, if_pos hK]
          omega
        · rw [if_neg e, if_neg (show ¬ P - 1 - i = K by omega)]
          split
          · rename_i e2; subst e2; omega
          · exact h1
      · rw [List.length_set, List.length_set, hp2]
        omega
      · rw [if_pos rfl, List.length_set, List.length_set, hq2]
        omega
      · rw [if_pos rfl, hY2, if_pos rfl]
        omega
    · rw [decide_eq_false hq]
      have eY : mvY P ys (t : Int) false 1 = ys := by simp [mvY]
      rw [eY]
      refine ⟨mk _ _ (by simp) rfl hXn hy0 (by omega) s3 (by omega) hys ?_, rfl, by simp [mvY], ?_, by simp, by simp⟩
      · intro i hi
        rw [hX2]
        have h1 := hap i hi
        by_cases e : i = t
        · subst e
          rw [if_pos rfl, hK]
          omega
        · rw [if_neg e]
          split
          · rename_i e2; subst e2; omega
          · exact h1
      · rw [List.length_set, List.length_set, hp2]
        omega
end Go.Proofs.YtciljbnailobgaaGreat
