/- Texts of a proof, laid together. -/
import Derived.Test.YtciljbnailobgaaGreatV08
import Derived.Test.YtciljbnailobgaaGreatV05
import Derived.Test.YtciljbnailobgaaGreatV06
import Derived.Test.YtciljbnailobgaaGreatV01
import Derived.Test.YtciljbnailobgaaGreatV02
import Derived.Deep.LoopGhost
import Derived.Laws.Rows
import Derived.Laws.Tables
import Derived.Laws.CopyOwn
import Derived.Maps.OwnIn
import Derived.DeepKeys4
namespace Go.Proofs.YtciljbnailobgaaGreat
open Go.ChangeShapes Go.WideShapes Go.ChangeAt Go.RowKit
set_option linter.unusedVariables false
set_option linter.unusedSimpArgs false
set_option maxRecDepth 4000
def FolGot (r : Option (List Int × List Int)) (w : World) (e : Ending) (w' : World) : Prop := match r with
  | some b => ∃ g1 g2, e = .returned (.tuple #[.agg #[.slice (some ⟨g1, 0, none⟩) b.1.length b.1.length, .slice (some ⟨g2, 0, none⟩) b.2.length b.2.length], .bool true]) ∧ w.heap.size ≤ g1 ∧ w.heap.size ≤ g2 ∧ g1 ≠ g2 ∧ Row w' g1 b.1 ∧ Row w' g2 b.2 ∧ Below w.heap.size w w'
  | none => e = .returned (.tuple #[.agg #[.slice none 0 0, .slice none 0 0], .bool false]) ∧ Below w.heap.size w w'
theorem rowNe {w : World} {g g2 : Nat} {xs : List Int} {vs : Array Value} {t : TypeId} (h : Row w g xs) (hB : Blk w g2 vs t) (ht : t ≠ 2) : g ≠ g2 := by
  rintro rfl
  obtain ⟨cur, h1, _⟩ := h
  have h1' : w.heap[g]? = some (.cells cur 2 (0, 0)) := h1
  have h2' : w.heap[g]? = some (.cells vs t (0, 0)) := hB
  rw [h1'] at h2'
  simp at h2'
  exact ht h2'.2.symm
set_option maxRecDepth 8000 in
set_option maxHeartbeats 2000000 in
theorem follow_any (P : Nat) (c h s : Int) (a1 a2 : Option Addr) (n1 n2 c1 c2 : Nat) (xs ys : List Int) (ao : Option Addr) (no co : Nat) (os : List Int) (at_ : Option Addr) (nt ct : Nat) (ts : List Stp) (w : World) (h1 : xs.length = n1) (h2 : ys.length = n2) (g : isB (P : Int) c h s xs ys = true) (r1 : IRow w a1 xs) (r2 : IRow w a2 ys)
    (hno : os.length = no) (ro : IRow w ao os) (hts : ts.length = nt) (hnt : nt ≤ no) (hn4 : no ≤ 1000) (rt : 0 < nt → ∃ gt, at_ = some ⟨gt, 0, none⟩ ∧ SRow w gt ts) :
    Calls Tryz.prog 30 #[.agg #[.int .i64 (P : Int), .int .i64 c, .int .i64 h, .int .i64 s], .agg #[.slice a1 n1 c1, .slice a2 n2 c2], .slice ao no co, .slice at_ nt ct] w (FolGot (folN P h s os ts (xs, ys)) w) := by
  subst h1 h2
  obtain ⟨p0, p1, k0, k1, k2, k3, N1, N2, hx, hy, s0, s1, s2, s3⟩ := isB_parts g
  have hs6 := isB_sides g
  have hc := fun W (q1 : IRow W a1 xs) (q2 : IRow W a2 ys) => copied_any a1 a2 _ _ c1 c2 xs ys W rfl rfl (by omega) (by omega) (by omega) (by omega) q1 q2
  have HC := Lib.hid hc
  have HG := Lib.hid g
  have HNO := Lib.hid hno
  have HTS := Lib.hid hts
  have HRO := Lib.hid ro
  have HRT := Lib.hid rt
  obtain ⟨BV, BB, BO, hb, hz⟩ := three_new w #[.int .i64 (P : Int), .int .i64 c, .int .i64 h, .int .i64 s] #[.slice a1 xs.length c1, .slice a2 ys.length c2] #[.slice none 0 0, .slice none 0 0] 25 28 28
  clear hz hc g hno hts ro rt hx hy N1 N2 s0 s1 s2 s3
  replace r1 := r1.below hb
  replace r2 := r2.below hb
  obtain ⟨R, hR⟩ : ∃ R, folN P h s os ts (xs, ys) = R := ⟨_, rfl⟩
  have HFN := Lib.hid hR
  rw [hR]
  clear hR
  obtain ⟨x0, x1, x2, x3, xf, xl⟩ := BV.four
  obtain ⟨y0, y1, yf, yl⟩ := BB.two
  go_enter Tryz.func30, Tryz.ntmps30
  go_wp2_with fail
  clear x0 x1 x2 x3 xf xl y0 y1 yf yl
  generalize (((w.alloc (.cells #[.int .i64 (P : Int), .int .i64 c, .int .i64 h, .int .i64 s] 25)).alloc (.cells #[.slice a1 xs.length c1, .slice a2 ys.length c2] 28)).alloc (.cells #[.slice none 0 0, .slice none 0 0] 28)) = v0 at *
  refine (HC.out _ r1 r2).mono ?_
  rintro e w1 ⟨ga, gb, rfl, hne, hga, hgb, RA, RB, hb1⟩
  have hz1 := BO.lt
  have hga' : w.heap.size ≤ ga := by omega
  have hgb' : w.heap.size ≤ gb := by omega
  replace BV := BV.below hb1
  replace BO := BO.below hb1
  replace hb := chain hb hb1
  clear HC hb1 BB hga hgb
  have BA := Blk.new w1 #[.slice (some ⟨ga, 0, none⟩) xs.length xs.length, .slice (some ⟨gb, 0, none⟩) ys.length ys.length] 28
  have hal : Below w1.heap.size w1 (w1.alloc (.cells #[.slice (some ⟨ga, 0, none⟩) xs.length xs.length, .slice (some ⟨gb, 0, none⟩) ys.length ys.length] 28)) := (Below.refl _ _).alloc (Nat.le_refl _) _
  have hw1 : w.heap.size + 1 + 1 < w1.heap.size := BO.lt
  replace BV := BV.below hal
  replace BO := BO.below hal
  replace RA := RA.below hal
  replace RB := RB.below hal
  replace hb := chain hb hal
  clear hal r1 r2
  go_wp2_with fail
  generalize (w1.alloc (.cells #[.slice (some ⟨ga, 0, none⟩) xs.length xs.length, .slice (some ⟨gb, 0, none⟩) ys.length ys.length] 28)) = v1 at *
  go_loopg [18] nt (fun m i wr => ∃ (k : Nat) (bx bz : List Int) (ga gb : Nat), k ≤ nt ∧ m = nt - k ∧ i = .int .i64 k ∧ R = folN P h s (os.drop k) (ts.drop k) (bx, bz) ∧ isB (P : Int) c h s bx bz = true ∧ (w.heap.size ≤ ga ∧ w.heap.size ≤ gb ∧ ga ≠ gb) ∧ Blk wr w.heap.size #[.int .i64 (P : Int), .int .i64 c, .int .i64 h, .int .i64 s] 25 ∧ Blk wr (w.heap.size + 1 + 1) #[.slice none 0 0, .slice none 0 0] 28 ∧ Blk wr w1.heap.size #[.slice (some ⟨ga, 0, none⟩) bx.length bx.length, .slice (some ⟨gb, 0, none⟩) bz.length bz.length] 28 ∧ Row wr ga bx ∧ Row wr gb bz ∧ Below w.heap.size w wr)
  case atStart => exact ⟨0, xs, ys, ga, gb, by omega, by omega, rfl, by rw [← HFN.out]; rfl, HG.out, ⟨hga', hgb', hne⟩, BV, BO, BA, RA, RB, hb⟩
  case round =>
    clear BV BO BA RA RB hb hne hga' hgb'
    obtain ⟨k, bx, bz, ga, gb, hk, hm, rfl, hF, hgi, ⟨hga, hgb, hne⟩, BV, BO, BA, RA, RB, hb⟩ := hrel
    by_cases hlt : k < nt
    · have hlt' : (k : Int) < (nt : Int) := by omega
      have hkn : (k : Int) < (no : Int) := by omega
      have hk0 : (0 : Int) ≤ (k : Int) := by omega
      have hk4 : (k : Int) ≤ 1000 := by omega
      obtain ⟨gt, rfl, SR⟩ := HRT.out (by omega)
      have hk1 : k < ts.length := by have := HTS.out; omega
      have hk2 : k < os.length := by have := HNO.out; omega
      obtain ⟨⟨ta, tb, td, tq⟩, htk⟩ : ∃ t, ts[k]? = some t := ⟨ts[k]'hk1, List.getElem?_eq_getElem hk1⟩
      have SR' : SRow wr gt ts := VRow.below SR hb
      obtain ⟨s0, s1, s2, s3⟩ := SRow.four SR' k _ htk
      obtain ⟨b, oo, rfl, ho_⟩ := (HRO.out.below hb) k hk2
      obtain ⟨ox, hox⟩ : ∃ ox, os.getD k 0 = ox := ⟨_, rfl⟩
      rw [hox] at ho_
      have hd1 : os.drop k = ox :: os.drop (k + 1) := by
        rw [List.drop_eq_getElem_cons hk2]
        congr 1
        rw [← hox]
        simp [List.getD, hk2]
      have hd2 : ts.drop k = (ta, tb, td, tq) :: ts.drop (k + 1) := by
        rw [List.drop_eq_getElem_cons hk1]
        congr 1
        exact (List.getElem?_eq_some_iff.1 htk).2
      rw [hd1, hd2, folN] at hF
      dsimp only at hF s0 s1 s2 s3
      obtain ⟨-, -, -, -, -, -, N1, N2, hx, hy, -, -, -, -⟩ := isB_parts hgi
      have hil := fun B W (q1 : Pays 88 B bx W) (q2 : Pays 89 B bz W) => isLegal_any P c h s 88 89 B bx bz W (by omega) (by omega) (by omega) (by omega) hx hy q1 q2 (by omega) (ta, tb, td, tq)
      have hmv := fun (hp : placesB (P : Int) (ta, tb, td, tq) = true) B W (q1 : Pays 88 B bx W) (q2 : Pays 89 B bz W) => moved_any P 88 89 B bx bz W (by omega) (by omega) (by omega) (by omega) hx hy q1 q2 (ta, tb, td, tq) 1 (by omega) (by omega) hp
      have hpl : legB P h s bx bz (ta, tb, td, tq) = true → placesB (P : Int) (ta, tb, td, tq) = true := fun q => by
        unfold legB at q
        simp only [Bool.and_eq_true] at q
        exact q.2.1
      have hsf := fun (q : legB P h s bx bz (ta, tb, td, tq) = true) => (step_facts hgi q).1
      obtain ⟨LB, hLB⟩ : ∃ LB, legB P h s bx bz (ta, tb, td, tq) = LB := ⟨_, rfl⟩
      rw [hLB] at hil hpl hsf hF
      have HIL0 := Lib.hid hil
      have HMV0 := Lib.hid hmv
      have HPL := Lib.hid hpl
      have HSF := Lib.hid hsf
      have HF := Lib.hid hF
      clear hil hmv hpl hsf hF hd1 hd2 hox htk hLB N1 N2 hx hy hgi SR'
      obtain ⟨x0, x1, x2, x3, xf, xl⟩ := BV.four
      obtain ⟨y0, y1, yf, yl⟩ := BA.two
      have BS := Blk.new wr #[.int .i64 ta, .int .i64 tb, .int .i64 td, .bool tq] 55
      have hal : Below wr.heap.size wr (wr.alloc (.cells #[.int .i64 ta, .int .i64 tb, .int .i64 td, .bool tq] 55)) := (Below.refl _ _).alloc (Nat.le_refl _) _
      have ho1 : CellIs wr b (oo + k) (.int .i64 ox) := ho_
      clear ho_
      go_wp2_with fail
      clear x0 x1 x2 x3 xf xl y0 y1 yf yl s0 s1 s2 s3
      have hzr : w1.heap.size < wr.heap.size := BA.lt
      replace BV := BV.below hal
      replace BO := BO.below hal
      replace BA := BA.below hal
      replace RA := RA.below hal
      replace RB := RB.below hal
      replace ho1 := CellIs.below ho1 hal
      replace hb := chain hb hal
      clear hal
      generalize (wr.alloc (.cells #[.int .i64 ta, .int .i64 tb, .int .i64 td, .bool tq] 55)) = v2 at *
      refine (countsOf_any (P : Int) c h s _ _ _ _ _ _ bx bz _ rfl rfl RA.irow RB.irow).mono ?_
      rintro e w2 ⟨B, rfl, q1, q2, hb2⟩
      have BT := Blk.new w2 #[.int .i64 (P : Int), fv 88 B, fv 89 B] 109
      have hal : Below w2.heap.size w2 (w2.alloc (.cells #[.int .i64 (P : Int), fv 88 B, fv 89 B] 109)) := (Below.refl _ _).alloc (Nat.le_refl _) _
      have hbt := hb2.trans (hal.mono hb2.size)
      have hz2 : wr.heap.size < v2.heap.size := BS.lt
      have hz3 := hb2.size
      replace BV := BV.below hbt
      replace BO := BO.below hbt
      replace BA := BA.below hbt
      replace BS := BS.below hbt
      replace RA := RA.below hbt
      replace RB := RB.below hbt
      replace ho1 := CellIs.below ho1 hbt
      replace q1 := q1.below hal
      replace q2 := q2.below hal
      replace hb := chain hb hbt
      clear hal hbt hb2
      go_wp2_with fail
      generalize (w2.alloc (.cells #[.int .i64 (P : Int), fv 88 B, fv 89 B] 109)) = w3 at *
      by_cases hd : td = ox
      · have f0 : (td != ox) = false := by rw [hd]; simp
        cases LB with
        | false =>
          have hF := HF.out
          rw [if_neg (by simp)] at hF
          clear HF HMV0 HPL HSF
          have HF := Lib.hid hF
          have hil := HIL0.out
          have HIL := Lib.hid hil
          clear hF hil HIL0 hd
          have hd_ : w3.drew.heap.size = w3.heap.size := rfl
          replace BV := BV.drew
          replace BS := BS.drew
          replace BT := BT.drew
          replace BO := BO.drew
          replace BA := BA.drew
          replace RA := RA.drew
          replace RB := RB.drew
          replace q1 := q1.drew
          replace q2 := q2.drew
          replace hb := hb.drew
          replace ho1 := CellIs.drew ho1
          refine wp_region_held_drew (S := fun w' => w'.cell? ⟨w.heap.size, 0, none⟩ = some (.int .i64 (P : Int)) ∧ w'.cell? ⟨w.heap.size, 1, none⟩ = some (.int .i64 c) ∧ w'.cell? ⟨w.heap.size, 2, none⟩ = some (.int .i64 h) ∧ w'.cell? ⟨w.heap.size, 3, none⟩ = some (.int .i64 s) ∧ w'.cell? ⟨wr.heap.size, 0, none⟩ = some (.int .i64 ta) ∧ w'.cell? ⟨wr.heap.size, 1, none⟩ = some (.int .i64 tb) ∧ w'.cell? ⟨wr.heap.size, 2, none⟩ = some (.int .i64 td) ∧ w'.cell? ⟨wr.heap.size, 3, none⟩ = some (.bool tq) ∧ w'.cell? ⟨w2.heap.size, 0, none⟩ = some (.int .i64 (P : Int)) ∧ w'.cell? ⟨w2.heap.size, 1, none⟩ = some (fv 88 B) ∧ w'.cell? ⟨w2.heap.size, 2, none⟩ = some (fv 89 B) ∧ w'.cell? ⟨b, oo + k, none⟩ = some (.int .i64 ox)) (by kernel_rfl) ⟨BV.four.1, BV.four.2.1, BV.four.2.2.1, BV.four.2.2.2.1, BS.four.1, BS.four.2.1, BS.four.2.2.1, BS.four.2.2.2.1, BT.tri.1, BT.tri.2.1, BT.tri.2.2.1, ho1⟩ (fun hHeld => ?_)
          clear hHeld
          generalize w3.drew = vd at *
          have hHeld : vd.cell? ⟨w.heap.size, 0, none⟩ = some (.int .i64 (P : Int)) ∧ vd.cell? ⟨w.heap.size, 1, none⟩ = some (.int .i64 c) ∧ vd.cell? ⟨w.heap.size, 2, none⟩ = some (.int .i64 h) ∧ vd.cell? ⟨w.heap.size, 3, none⟩ = some (.int .i64 s) ∧ vd.cell? ⟨wr.heap.size, 0, none⟩ = some (.int .i64 ta) ∧ vd.cell? ⟨wr.heap.size, 1, none⟩ = some (.int .i64 tb) ∧ vd.cell? ⟨wr.heap.size, 2, none⟩ = some (.int .i64 td) ∧ vd.cell? ⟨wr.heap.size, 3, none⟩ = some (.bool tq) ∧ vd.cell? ⟨w2.heap.size, 0, none⟩ = some (.int .i64 (P : Int)) ∧ vd.cell? ⟨w2.heap.size, 1, none⟩ = some (fv 88 B) ∧ vd.cell? ⟨w2.heap.size, 2, none⟩ = some (fv 89 B) ∧ vd.cell? ⟨b, oo + k, none⟩ = some (.int .i64 ox) := ⟨BV.four.1, BV.four.2.1, BV.four.2.2.1, BV.four.2.2.2.1, BS.four.1, BS.four.2.1, BS.four.2.2.1, BS.four.2.2.2.1, BT.tri.1, BT.tri.2.1, BT.tri.2.2.1, ho1⟩
          refine tk 0 26 ?_
          refine tk 1 27 ?_
          refine tk 2 28 ?_
          refine tk 3 29 ?_
          refine tk 4 30 ?_
          refine tk 5 31 ?_
          refine tk 6 32 ?_
          refine tk 7 33 ?_
          refine tk 8 34 ?_
          refine tk 9 35 ?_
          refine tk 10 36 ?_
          refine rdk 11 37 fun K hK => ?_
          go_simp
          refine (HIL.out _ _ q1 q2).mono ?_
          rintro e w4 ⟨rfl, hb4⟩
          replace BV := BV.below hb4
          replace BO := BO.below hb4
          replace BA := BA.below hb4
          replace BS := BS.below hb4
          replace BT := BT.below hb4
          replace RA := RA.below hb4
          replace RB := RB.below hb4
          replace q1 := q1.below hb4
          replace q2 := q2.below hb4
          replace ho1 := CellIs.below ho1 hb4
          replace hb := chain hb hb4
          clear hb4
          (try go_wp2_with fail)
          refine hko hK (Blk.f4 BV (Blk.f4 BS (Blk.f3 BT ho1))) fun hHeld => ?_
          clear hK K
          refine tk 12 38 ?_
          refine tk 13 39 ?_
          refine wpAnyH_done (by kernel_rfl) ?_ _
          clear hHeld
          obtain ⟨z0, z1, zf, zl⟩ := BO.two
          go_wp2_with fail
          have MO := (BO.set (i := 0) (.slice none 0 0)).set (i := 1) (.slice none 0 0)
          simp only [List.setIfInBounds_toArray, List.set_cons_zero, List.set_cons_succ] at MO
          have hM := (hb.setCell (p := ⟨w.heap.size + 1 + 1, 0, none⟩) (by simp; omega) (.slice none 0 0)).setCell (p := ⟨w.heap.size + 1 + 1, 1, none⟩) (by simp; omega) (.slice none 0 0)
          clear z0 z1 zf zl
          generalize ((w4.setCell ⟨w.heap.size + 1 + 1, 0, none⟩ (.slice none 0 0)).setCell ⟨w.heap.size + 1 + 1, 1, none⟩ (.slice none 0 0)) = we at *
          obtain ⟨z0, z1, zf, zl⟩ := MO.two
          refine bodyPost_ret (v := .tuple #[.agg #[.slice none 0 0, .slice none 0 0], .bool false]) (by simp [results, Tryz.results30, go_sem, z0, z1]) rfl ?_
          rw [HF.out]
          exact ⟨rfl, hM⟩
        | true =>
          have hF := HF.out
          rw [if_pos ⟨hd, rfl⟩] at hF
          clear HF
          have HF := Lib.hid hF
          have hil := HIL0.out
          have HIL := Lib.hid hil
          have HMV := Lib.hid (HMV0.out (HPL.out rfl))
          have HSFt := Lib.hid (HSF.out rfl)
          clear hF hil HIL0 hd HMV0 HPL HSF
          have hd_ : w3.drew.heap.size = w3.heap.size := rfl
          replace BV := BV.drew
          replace BS := BS.drew
          replace BT := BT.drew
          replace BO := BO.drew
          replace BA := BA.drew
          replace RA := RA.drew
          replace RB := RB.drew
          replace q1 := q1.drew
          replace q2 := q2.drew
          replace hb := hb.drew
          replace ho1 := CellIs.drew ho1
          refine wp_region_held_drew (S := fun w' => w'.cell? ⟨w.heap.size, 0, none⟩ = some (.int .i64 (P : Int)) ∧ w'.cell? ⟨w.heap.size, 1, none⟩ = some (.int .i64 c) ∧ w'.cell? ⟨w.heap.size, 2, none⟩ = some (.int .i64 h) ∧ w'.cell? ⟨w.heap.size, 3, none⟩ = some (.int .i64 s) ∧ w'.cell? ⟨wr.heap.size, 0, none⟩ = some (.int .i64 ta) ∧ w'.cell? ⟨wr.heap.size, 1, none⟩ = some (.int .i64 tb) ∧ w'.cell? ⟨wr.heap.size, 2, none⟩ = some (.int .i64 td) ∧ w'.cell? ⟨wr.heap.size, 3, none⟩ = some (.bool tq) ∧ w'.cell? ⟨w2.heap.size, 0, none⟩ = some (.int .i64 (P : Int)) ∧ w'.cell? ⟨w2.heap.size, 1, none⟩ = some (fv 88 B) ∧ w'.cell? ⟨w2.heap.size, 2, none⟩ = some (fv 89 B) ∧ w'.cell? ⟨b, oo + k, none⟩ = some (.int .i64 ox)) (by kernel_rfl) ⟨BV.four.1, BV.four.2.1, BV.four.2.2.1, BV.four.2.2.2.1, BS.four.1, BS.four.2.1, BS.four.2.2.1, BS.four.2.2.2.1, BT.tri.1, BT.tri.2.1, BT.tri.2.2.1, ho1⟩ (fun hHeld => ?_)
          clear hHeld
          generalize w3.drew = vd at *
          have hHeld : vd.cell? ⟨w.heap.size, 0, none⟩ = some (.int .i64 (P : Int)) ∧ vd.cell? ⟨w.heap.size, 1, none⟩ = some (.int .i64 c) ∧ vd.cell? ⟨w.heap.size, 2, none⟩ = some (.int .i64 h) ∧ vd.cell? ⟨w.heap.size, 3, none⟩ = some (.int .i64 s) ∧ vd.cell? ⟨wr.heap.size, 0, none⟩ = some (.int .i64 ta) ∧ vd.cell? ⟨wr.heap.size, 1, none⟩ = some (.int .i64 tb) ∧ vd.cell? ⟨wr.heap.size, 2, none⟩ = some (.int .i64 td) ∧ vd.cell? ⟨wr.heap.size, 3, none⟩ = some (.bool tq) ∧ vd.cell? ⟨w2.heap.size, 0, none⟩ = some (.int .i64 (P : Int)) ∧ vd.cell? ⟨w2.heap.size, 1, none⟩ = some (fv 88 B) ∧ vd.cell? ⟨w2.heap.size, 2, none⟩ = some (fv 89 B) ∧ vd.cell? ⟨b, oo + k, none⟩ = some (.int .i64 ox) := ⟨BV.four.1, BV.four.2.1, BV.four.2.2.1, BV.four.2.2.2.1, BS.four.1, BS.four.2.1, BS.four.2.2.1, BS.four.2.2.2.1, BT.tri.1, BT.tri.2.1, BT.tri.2.2.1, ho1⟩
          refine tk 0 26 ?_
          refine tk 1 27 ?_
          refine tk 2 28 ?_
          refine tk 3 29 ?_
          refine tk 4 30 ?_
          refine tk 5 31 ?_
          refine tk 6 32 ?_
          refine tk 7 33 ?_
          refine tk 8 34 ?_
          refine tk 9 35 ?_
          refine tk 10 36 ?_
          refine rdk 11 37 fun K hK => ?_
          go_simp
          refine (HIL.out _ _ q1 q2).mono ?_
          rintro e w4 ⟨rfl, hb4⟩
          replace BV := BV.below hb4
          replace BO := BO.below hb4
          replace BA := BA.below hb4
          replace BS := BS.below hb4
          replace BT := BT.below hb4
          replace RA := RA.below hb4
          replace RB := RB.below hb4
          replace q1 := q1.below hb4
          replace q2 := q2.below hb4
          replace ho1 := CellIs.below ho1 hb4
          replace hb := chain hb hb4
          clear hb4
          (try go_wp2_with fail)
          refine hko hK (Blk.f4 BV (Blk.f4 BS (Blk.f3 BT ho1))) fun hHeld => ?_
          clear hK K
          refine tk 12 38 ?_
          refine tk 13 39 ?_
          refine wpAnyH_done (by kernel_rfl) ?_ _
          clear hHeld
          obtain ⟨y0, y1, yf, yl⟩ := BA.two
          obtain ⟨t0, t1, t2, tf, tl⟩ := BT.tri
          obtain ⟨s0, s1, s2, s3, sf, sl⟩ := BS.four
          go_wp2_with fail
          clear y0 y1 yf yl t0 t1 t2 tf tl s0 s1 s2 s3 sf sl
          refine (HMV.out _ _ q1 q2).mono ?_
          rintro e w5 ⟨g1, g2, rfl, hg1, hg2, R1, R2, hb5⟩
          have hz4 := hb.size
          replace BV := BV.below hb5
          replace BO := BO.below hb5
          replace BA := BA.below hb5
          replace hb := chain hb hb5
          have n1 := rowNe R1 BA (by decide)
          have n2 := rowNe R2 BA (by decide)
          clear hb5 RA RB BS BT q1 q2 ho1 HMV HIL
          obtain ⟨y0, y1, yf, yl⟩ := BA.two
          go_wp2_with fail
          go_roundg (nt - (k + 1))
          case measure => omega
          case rel => exact ⟨k + 1, _, _, g1, g2, by omega, rfl, by go_num, HF.out, HSFt.out, ⟨by omega, by omega, by omega⟩, (BV.other (by omega)).other (by omega), (BO.other (by omega)).other (by omega), (BA.set (i := 0) _).set (i := 1) _, (R1.other n1).other n1, (R2.other n2).other n2, (hb.setCell (p := ⟨w1.heap.size, 0, none⟩) (by simp; omega) _).setCell (p := ⟨w1.heap.size, 1, none⟩) (by simp; omega) _⟩
      · have f0 : (td != ox) = true := by rw [bne_iff_ne]; exact hd
        have hF := HF.out
        rw [if_neg (fun q => hd q.1)] at hF
        clear HF HMV0 HPL HSF HIL0 hd
        have HF := Lib.hid hF
        clear hF
        have hd_ : w3.drew.heap.size = w3.heap.size := rfl
        replace BV := BV.drew
        replace BS := BS.drew
        replace BT := BT.drew
        replace BO := BO.drew
        replace BA := BA.drew
        replace RA := RA.drew
        replace RB := RB.drew
        replace q1 := q1.drew
        replace q2 := q2.drew
        replace hb := hb.drew
        replace ho1 := CellIs.drew ho1
        refine wp_region_held_drew (S := fun w' => w'.cell? ⟨w.heap.size, 0, none⟩ = some (.int .i64 (P : Int)) ∧ w'.cell? ⟨w.heap.size, 1, none⟩ = some (.int .i64 c) ∧ w'.cell? ⟨w.heap.size, 2, none⟩ = some (.int .i64 h) ∧ w'.cell? ⟨w.heap.size, 3, none⟩ = some (.int .i64 s) ∧ w'.cell? ⟨wr.heap.size, 0, none⟩ = some (.int .i64 ta) ∧ w'.cell? ⟨wr.heap.size, 1, none⟩ = some (.int .i64 tb) ∧ w'.cell? ⟨wr.heap.size, 2, none⟩ = some (.int .i64 td) ∧ w'.cell? ⟨wr.heap.size, 3, none⟩ = some (.bool tq) ∧ w'.cell? ⟨w2.heap.size, 0, none⟩ = some (.int .i64 (P : Int)) ∧ w'.cell? ⟨w2.heap.size, 1, none⟩ = some (fv 88 B) ∧ w'.cell? ⟨w2.heap.size, 2, none⟩ = some (fv 89 B) ∧ w'.cell? ⟨b, oo + k, none⟩ = some (.int .i64 ox)) (by kernel_rfl) ⟨BV.four.1, BV.four.2.1, BV.four.2.2.1, BV.four.2.2.2.1, BS.four.1, BS.four.2.1, BS.four.2.2.1, BS.four.2.2.2.1, BT.tri.1, BT.tri.2.1, BT.tri.2.2.1, ho1⟩ (fun hHeld => ?_)
        clear hHeld
        generalize w3.drew = vd at *
        have hHeld : vd.cell? ⟨w.heap.size, 0, none⟩ = some (.int .i64 (P : Int)) ∧ vd.cell? ⟨w.heap.size, 1, none⟩ = some (.int .i64 c) ∧ vd.cell? ⟨w.heap.size, 2, none⟩ = some (.int .i64 h) ∧ vd.cell? ⟨w.heap.size, 3, none⟩ = some (.int .i64 s) ∧ vd.cell? ⟨wr.heap.size, 0, none⟩ = some (.int .i64 ta) ∧ vd.cell? ⟨wr.heap.size, 1, none⟩ = some (.int .i64 tb) ∧ vd.cell? ⟨wr.heap.size, 2, none⟩ = some (.int .i64 td) ∧ vd.cell? ⟨wr.heap.size, 3, none⟩ = some (.bool tq) ∧ vd.cell? ⟨w2.heap.size, 0, none⟩ = some (.int .i64 (P : Int)) ∧ vd.cell? ⟨w2.heap.size, 1, none⟩ = some (fv 88 B) ∧ vd.cell? ⟨w2.heap.size, 2, none⟩ = some (fv 89 B) ∧ vd.cell? ⟨b, oo + k, none⟩ = some (.int .i64 ox) := ⟨BV.four.1, BV.four.2.1, BV.four.2.2.1, BV.four.2.2.2.1, BS.four.1, BS.four.2.1, BS.four.2.2.1, BS.four.2.2.2.1, BT.tri.1, BT.tri.2.1, BT.tri.2.2.1, ho1⟩
        refine tk 0 26 ?_
        refine tk 1 27 ?_
        refine tk 2 28 ?_
        refine tk 3 29 ?_
        refine tk 4 30 ?_
        refine tk 5 31 ?_
        refine tk 6 32 ?_
        refine tk 7 33 ?_
        refine tkv 8 34 ?_
        refine tkv 9 35 ?_
        refine tkv 10 36 ?_
        refine tkv 11 37 ?_
        refine tkv 12 38 ?_
        refine tk 13 39 ?_
        refine wpAnyH_done (by kernel_rfl) ?_ _
        clear hHeld
        obtain ⟨z0, z1, zf, zl⟩ := BO.two
        go_wp2_with fail
        have MO := (BO.set (i := 0) (.slice none 0 0)).set (i := 1) (.slice none 0 0)
        simp only [List.setIfInBounds_toArray, List.set_cons_zero, List.set_cons_succ] at MO
        have hM := (hb.setCell (p := ⟨w.heap.size + 1 + 1, 0, none⟩) (by simp; omega) (.slice none 0 0)).setCell (p := ⟨w.heap.size + 1 + 1, 1, none⟩) (by simp; omega) (.slice none 0 0)
        clear z0 z1 zf zl
        generalize ((vd.setCell ⟨w.heap.size + 1 + 1, 0, none⟩ (.slice none 0 0)).setCell ⟨w.heap.size + 1 + 1, 1, none⟩ (.slice none 0 0)) = we at *
        obtain ⟨z0, z1, zf, zl⟩ := MO.two
        refine bodyPost_ret (v := .tuple #[.agg #[.slice none 0 0, .slice none 0 0], .bool false]) (by simp [results, Tryz.results30, go_sem, z0, z1]) rfl ?_
        rw [HF.out]
        exact ⟨rfl, hM⟩
    · obtain rfl : k = nt := by omega
      have hlt' : ¬ ((k : Nat) : Int) < (k : Int) := by omega
      have hF2 : R = some (bx, bz) := by
        rw [hF, List.drop_eq_nil_of_le (show ts.length ≤ k by have := HTS.out; omega)]
        cases os.drop k <;> rfl
      have HF := Lib.hid hF2
      have n1 := rowNe RA BO (by decide)
      have n2 := rowNe RB BO (by decide)
      clear hF hF2 hgi
      obtain ⟨y0, y1, yf, yl⟩ := BA.two
      obtain ⟨z0, z1, zf, zl⟩ := BO.two
      go_wp2_with fail
      have MO := (BO.set (i := 0) (.slice (some ⟨ga, 0, none⟩) bx.length bx.length)).set (i := 1) (.slice (some ⟨gb, 0, none⟩) bz.length bz.length)
      simp only [List.setIfInBounds_toArray, List.set_cons_zero, List.set_cons_succ] at MO
      have hM := (hb.setCell (p := ⟨w.heap.size + 1 + 1, 0, none⟩) (by simp; omega) (.slice (some ⟨ga, 0, none⟩) bx.length bx.length)).setCell (p := ⟨w.heap.size + 1 + 1, 1, none⟩) (by simp; omega) (.slice (some ⟨gb, 0, none⟩) bz.length bz.length)
      have M1 := (RA.other (g := w.heap.size + 1 + 1) (o := 0) (v := .slice (some ⟨ga, 0, none⟩) bx.length bx.length) n1).other (g := w.heap.size + 1 + 1) (o := 1) (v := .slice (some ⟨gb, 0, none⟩) bz.length bz.length) n1
      have M2 := (RB.other (g := w.heap.size + 1 + 1) (o := 0) (v := .slice (some ⟨ga, 0, none⟩) bx.length bx.length) n2).other (g := w.heap.size + 1 + 1) (o := 1) (v := .slice (some ⟨gb, 0, none⟩) bz.length bz.length) n2
      clear y0 y1 yf yl z0 z1 zf zl BO BA BV RA RB hb
      generalize ((wr.setCell ⟨w.heap.size + 1 + 1, 0, none⟩ (.slice (some ⟨ga, 0, none⟩) bx.length bx.length)).setCell ⟨w.heap.size + 1 + 1, 1, none⟩ (.slice (some ⟨gb, 0, none⟩) bz.length bz.length)) = we at *
      obtain ⟨z0, z1, zf, zl⟩ := MO.two
      refine bodyPost_ret (v := .tuple #[.agg #[.slice (some ⟨ga, 0, none⟩) bx.length bx.length, .slice (some ⟨gb, 0, none⟩) bz.length bz.length], .bool true]) (by simp [results, Tryz.results30, go_sem, z0, z1]) rfl ?_
      rw [HF.out]
      exact ⟨ga, gb, rfl, hga, hgb, hne, M1, M2, hM⟩
def i8s (L : List Int) : List Value := L.map (Value.int .i8)
theorem i8s_set (L : List Int) (k : Nat) (v : Int) : (i8s L).toArray.setIfInBounds k (.int .i8 v) = (i8s (L.set k v)).toArray := by
  rw [List.setIfInBounds_toArray, i8s, i8s, List.map_set]
def pad25 (xs : List Int) : List Int := xs ++ List.replicate (25 - xs.length) 0
def plcL (xs ys : List Int) : List Int := pad25 xs ++ pad25 ys
def segL (zs : List Int) (k : Nat) : List Int := zs.take k ++ List.replicate (25 - k) 0
theorem segL_length (zs : List Int) (k : Nat) (h : k ≤ zs.length) (h2 : k ≤ 25) : (segL zs k).length = 25 := by
  unfold segL
  rw [List.length_append, List.length_take, List.length_replicate]
  omega
theorem segL_end (zs : List Int) : segL zs zs.length = pad25 zs := by unfold segL pad25; rw [List.take_length]
theorem pad25_length (zs : List Int) (h : zs.length ≤ 25) : (pad25 zs).length = 25 := by rw [← segL_end, segL_length zs _ (Nat.le_refl _) h]
theorem segL_step (pre zs suf : List Int) (k : Nat) (hk : k < zs.length) (h25 : zs.length ≤ 25) : (pre ++ (segL zs k ++ suf)).set (pre.length + k) (zs.getD k 0) = pre ++ (segL zs (k + 1) ++ suf) := by
  rw [List.set_append_right _ _ (by omega), show pre.length + k - pre.length = k by omega]
  congr 1
  have hs : k < (segL zs k).length := by rw [segL_length zs k (by omega) (by omega)]; omega
  rw [List.set_append_left _ _ hs]
  congr 1
  unfold segL
  have hl : (zs.take k).length = k := by rw [List.length_take]; omega
  rw [List.set_append_right _ _ (by omega), hl, Nat.sub_self, show 25 - k = (25 - (k + 1)) + 1 by omega, List.replicate_succ, List.set_cons_zero]
  have ht : zs.take (k + 1) = zs.take k ++ [zs.getD k 0] := by
    rw [List.take_add_one]
    congr 1
    rw [List.getD_eq_getElem?_getD, List.getElem?_eq_getElem hk]
    rfl
  rw [ht, List.append_assoc]
  rfl
theorem infoPlc : (Tryz.prog.info? 144).map (·.size) = some 50 := by kernel_rfl
set_option maxRecDepth 8000 in
set_option maxHeartbeats 2000000 in
theorem placement_any (a1 a2 : Option Addr) (n1 n2 c1 c2 : Nat) (xs ys : List Int) (w : World) (h1 : xs.length = n1) (h2 : ys.length = n2) (l1 : n1 ≤ 25) (l2 : n2 ≤ 25) (hx : ∀ x ∈ xs, 0 ≤ x ∧ x ≤ 100) (hy : ∀ y ∈ ys, 0 ≤ y ∧ y ≤ 100) (r1 : IRow w a1 xs) (r2 : IRow w a2 ys) :
    Calls Tryz.prog 102 #[.agg #[.slice a1 n1 c1, .slice a2 n2 c2]] w fun e w' => e = .returned (.agg (i8s (plcL xs ys)).toArray) ∧ Below w.heap.size w w' := by
  have BB := ((Blk.new w #[.slice a1 n1 c1, .slice a2 n2 c2] 28).alloc (.cells #[.int .i8 0, .int .i8 0, .int .i8 0, .int .i8 0, .int .i8 0, .int .i8 0, .int .i8 0, .int .i8 0, .int .i8 0, .int .i8 0, .int .i8 0, .int .i8 0, .int .i8 0, .int .i8 0, .int .i8 0, .int .i8 0, .int .i8 0, .int .i8 0, .int .i8 0, .int .i8 0, .int .i8 0, .int .i8 0, .int .i8 0, .int .i8 0, .int .i8 0, .int .i8 0, .int .i8 0, .int .i8 0, .int .i8 0, .int .i8 0, .int .i8 0, .int .i8 0, .int .i8 0, .int .i8 0, .int .i8 0, .int .i8 0, .int .i8 0, .int .i8 0, .int .i8 0, .int .i8 0, .int .i8 0, .int .i8 0, .int .i8 0, .int .i8 0, .int .i8 0, .int .i8 0, .int .i8 0, .int .i8 0, .int .i8 0, .int .i8 0] 144)).alloc (.cells #[.int .i8 0, .int .i8 0, .int .i8 0, .int .i8 0, .int .i8 0, .int .i8 0, .int .i8 0, .int .i8 0, .int .i8 0, .int .i8 0, .int .i8 0, .int .i8 0, .int .i8 0, .int .i8 0, .int .i8 0, .int .i8 0, .int .i8 0, .int .i8 0, .int .i8 0, .int .i8 0, .int .i8 0, .int .i8 0, .int .i8 0, .int .i8 0, .int .i8 0, .int .i8 0, .int .i8 0, .int .i8 0, .int .i8 0, .int .i8 0, .int .i8 0, .int .i8 0, .int .i8 0, .int .i8 0, .int .i8 0, .int .i8 0, .int .i8 0, .int .i8 0, .int .i8 0, .int .i8 0, .int .i8 0, .int .i8 0, .int .i8 0, .int .i8 0, .int .i8 0, .int .i8 0, .int .i8 0, .int .i8 0, .int .i8 0, .int .i8 0] 144)
  have BR := (Blk.new (w.alloc (.cells #[.slice a1 n1 c1, .slice a2 n2 c2] 28)) #[.int .i8 0, .int .i8 0, .int .i8 0, .int .i8 0, .int .i8 0, .int .i8 0, .int .i8 0, .int .i8 0, .int .i8 0, .int .i8 0, .int .i8 0, .int .i8 0, .int .i8 0, .int .i8 0, .int .i8 0, .int .i8 0, .int .i8 0, .int .i8 0, .int .i8 0, .int .i8 0, .int .i8 0, .int .i8 0, .int .i8 0, .int .i8 0, .int .i8 0, .int .i8 0, .int .i8 0, .int .i8 0, .int .i8 0, .int .i8 0, .int .i8 0, .int .i8 0, .int .i8 0, .int .i8 0, .int .i8 0, .int .i8 0, .int .i8 0, .int .i8 0, .int .i8 0, .int .i8 0, .int .i8 0, .int .i8 0, .int .i8 0, .int .i8 0, .int .i8 0, .int .i8 0, .int .i8 0, .int .i8 0, .int .i8 0, .int .i8 0] 144).alloc (.cells #[.int .i8 0, .int .i8 0, .int .i8 0, .int .i8 0, .int .i8 0, .int .i8 0, .int .i8 0, .int .i8 0, .int .i8 0, .int .i8 0, .int .i8 0, .int .i8 0, .int .i8 0, .int .i8 0, .int .i8 0, .int .i8 0, .int .i8 0, .int .i8 0, .int .i8 0, .int .i8 0, .int .i8 0, .int .i8 0, .int .i8 0, .int .i8 0, .int .i8 0, .int .i8 0, .int .i8 0, .int .i8 0, .int .i8 0, .int .i8 0, .int .i8 0, .int .i8 0, .int .i8 0, .int .i8 0, .int .i8 0, .int .i8 0, .int .i8 0, .int .i8 0, .int .i8 0, .int .i8 0, .int .i8 0, .int .i8 0, .int .i8 0, .int .i8 0, .int .i8 0, .int .i8 0, .int .i8 0, .int .i8 0, .int .i8 0, .int .i8 0] 144)
  have BP := Blk.new ((w.alloc (.cells #[.slice a1 n1 c1, .slice a2 n2 c2] 28)).alloc (.cells #[.int .i8 0, .int .i8 0, .int .i8 0, .int .i8 0, .int .i8 0, .int .i8 0, .int .i8 0, .int .i8 0, .int .i8 0, .int .i8 0, .int .i8 0, .int .i8 0, .int .i8 0, .int .i8 0, .int .i8 0, .int .i8 0, .int .i8 0, .int .i8 0, .int .i8 0, .int .i8 0, .int .i8 0, .int .i8 0, .int .i8 0, .int .i8 0, .int .i8 0, .int .i8 0, .int .i8 0, .int .i8 0, .int .i8 0, .int .i8 0, .int .i8 0, .int .i8 0, .int .i8 0, .int .i8 0, .int .i8 0, .int .i8 0, .int .i8 0, .int .i8 0, .int .i8 0, .int .i8 0, .int .i8 0, .int .i8 0, .int .i8 0, .int .i8 0, .int .i8 0, .int .i8 0, .int .i8 0, .int .i8 0, .int .i8 0, .int .i8 0] 144)) #[.int .i8 0, .int .i8 0, .int .i8 0, .int .i8 0, .int .i8 0, .int .i8 0, .int .i8 0, .int .i8 0, .int .i8 0, .int .i8 0, .int .i8 0, .int .i8 0, .int .i8 0, .int .i8 0, .int .i8 0, .int .i8 0, .int .i8 0, .int .i8 0, .int .i8 0, .int .i8 0, .int .i8 0, .int .i8 0, .int .i8 0, .int .i8 0, .int .i8 0, .int .i8 0, .int .i8 0, .int .i8 0, .int .i8 0, .int .i8 0, .int .i8 0, .int .i8 0, .int .i8 0, .int .i8 0, .int .i8 0, .int .i8 0, .int .i8 0, .int .i8 0, .int .i8 0, .int .i8 0, .int .i8 0, .int .i8 0, .int .i8 0, .int .i8 0, .int .i8 0, .int .i8 0, .int .i8 0, .int .i8 0, .int .i8 0, .int .i8 0] 144
  have hb : Below w.heap.size w (((w.alloc (.cells #[.slice a1 n1 c1, .slice a2 n2 c2] 28)).alloc (.cells #[.int .i8 0, .int .i8 0, .int .i8 0, .int .i8 0, .int .i8 0, .int .i8 0, .int .i8 0, .int .i8 0, .int .i8 0, .int .i8 0, .int .i8 0, .int .i8 0, .int .i8 0, .int .i8 0, .int .i8 0, .int .i8 0, .int .i8 0, .int .i8 0, .int .i8 0, .int .i8 0, .int .i8 0, .int .i8 0, .int .i8 0, .int .i8 0, .int .i8 0, .int .i8 0, .int .i8 0, .int .i8 0, .int .i8 0, .int .i8 0, .int .i8 0, .int .i8 0, .int .i8 0, .int .i8 0, .int .i8 0, .int .i8 0, .int .i8 0, .int .i8 0, .int .i8 0, .int .i8 0, .int .i8 0, .int .i8 0, .int .i8 0, .int .i8 0, .int .i8 0, .int .i8 0, .int .i8 0, .int .i8 0, .int .i8 0, .int .i8 0] 144)).alloc (.cells #[.int .i8 0, .int .i8 0, .int .i8 0, .int .i8 0, .int .i8 0, .int .i8 0, .int .i8 0, .int .i8 0, .int .i8 0, .int .i8 0, .int .i8 0, .int .i8 0, .int .i8 0, .int .i8 0, .int .i8 0, .int .i8 0, .int .i8 0, .int .i8 0, .int .i8 0, .int .i8 0, .int .i8 0, .int .i8 0, .int .i8 0, .int .i8 0, .int .i8 0, .int .i8 0, .int .i8 0, .int .i8 0, .int .i8 0, .int .i8 0, .int .i8 0, .int .i8 0, .int .i8 0, .int .i8 0, .int .i8 0, .int .i8 0, .int .i8 0, .int .i8 0, .int .i8 0, .int .i8 0, .int .i8 0, .int .i8 0, .int .i8 0, .int .i8 0, .int .i8 0, .int .i8 0, .int .i8 0, .int .i8 0, .int .i8 0, .int .i8 0] 144)) := (((Below.refl _ _).alloc (Nat.le_refl _) _).alloc (by simp) _).alloc (by simp; omega) _
  have hz : (((w.alloc (.cells #[.slice a1 n1 c1, .slice a2 n2 c2] 28)).alloc (.cells #[.int .i8 0, .int .i8 0, .int .i8 0, .int .i8 0, .int .i8 0, .int .i8 0, .int .i8 0, .int .i8 0, .int .i8 0, .int .i8 0, .int .i8 0, .int .i8 0, .int .i8 0, .int .i8 0, .int .i8 0, .int .i8 0, .int .i8 0, .int .i8 0, .int .i8 0, .int .i8 0, .int .i8 0, .int .i8 0, .int .i8 0, .int .i8 0, .int .i8 0, .int .i8 0, .int .i8 0, .int .i8 0, .int .i8 0, .int .i8 0, .int .i8 0, .int .i8 0, .int .i8 0, .int .i8 0, .int .i8 0, .int .i8 0, .int .i8 0, .int .i8 0, .int .i8 0, .int .i8 0, .int .i8 0, .int .i8 0, .int .i8 0, .int .i8 0, .int .i8 0, .int .i8 0, .int .i8 0, .int .i8 0, .int .i8 0, .int .i8 0] 144)).alloc (.cells #[.int .i8 0, .int .i8 0, .int .i8 0, .int .i8 0, .int .i8 0, .int .i8 0, .int .i8 0, .int .i8 0, .int .i8 0, .int .i8 0, .int .i8 0, .int .i8 0, .int .i8 0, .int .i8 0, .int .i8 0, .int .i8 0, .int .i8 0, .int .i8 0, .int .i8 0, .int .i8 0, .int .i8 0, .int .i8 0, .int .i8 0, .int .i8 0, .int .i8 0, .int .i8 0, .int .i8 0, .int .i8 0, .int .i8 0, .int .i8 0, .int .i8 0, .int .i8 0, .int .i8 0, .int .i8 0, .int .i8 0, .int .i8 0, .int .i8 0, .int .i8 0, .int .i8 0, .int .i8 0, .int .i8 0, .int .i8 0, .int .i8 0, .int .i8 0, .int .i8 0, .int .i8 0, .int .i8 0, .int .i8 0, .int .i8 0, .int .i8 0] 144)).heap.size = w.heap.size + 1 + 1 + 1 := by simp
  rw [show (w.alloc (.cells #[.slice a1 n1 c1, .slice a2 n2 c2] 28)).heap.size = w.heap.size + 1 by simp] at BR
  rw [show ((w.alloc (.cells #[.slice a1 n1 c1, .slice a2 n2 c2] 28)).alloc (.cells #[.int .i8 0, .int .i8 0, .int .i8 0, .int .i8 0, .int .i8 0, .int .i8 0, .int .i8 0, .int .i8 0, .int .i8 0, .int .i8 0, .int .i8 0, .int .i8 0, .int .i8 0, .int .i8 0, .int .i8 0, .int .i8 0, .int .i8 0, .int .i8 0, .int .i8 0, .int .i8 0, .int .i8 0, .int .i8 0, .int .i8 0, .int .i8 0, .int .i8 0, .int .i8 0, .int .i8 0, .int .i8 0, .int .i8 0, .int .i8 0, .int .i8 0, .int .i8 0, .int .i8 0, .int .i8 0, .int .i8 0, .int .i8 0, .int .i8 0, .int .i8 0, .int .i8 0, .int .i8 0, .int .i8 0, .int .i8 0, .int .i8 0, .int .i8 0, .int .i8 0, .int .i8 0, .int .i8 0, .int .i8 0, .int .i8 0, .int .i8 0] 144)).heap.size = w.heap.size + 1 + 1 by simp] at BP
  have BR : Blk (((w.alloc (.cells #[.slice a1 n1 c1, .slice a2 n2 c2] 28)).alloc (.cells #[.int .i8 0, .int .i8 0, .int .i8 0, .int .i8 0, .int .i8 0, .int .i8 0, .int .i8 0, .int .i8 0, .int .i8 0, .int .i8 0, .int .i8 0, .int .i8 0, .int .i8 0, .int .i8 0, .int .i8 0, .int .i8 0, .int .i8 0, .int .i8 0, .int .i8 0, .int .i8 0, .int .i8 0, .int .i8 0, .int .i8 0, .int .i8 0, .int .i8 0, .int .i8 0, .int .i8 0, .int .i8 0, .int .i8 0, .int .i8 0, .int .i8 0, .int .i8 0, .int .i8 0, .int .i8 0, .int .i8 0, .int .i8 0, .int .i8 0, .int .i8 0, .int .i8 0, .int .i8 0, .int .i8 0, .int .i8 0, .int .i8 0, .int .i8 0, .int .i8 0, .int .i8 0, .int .i8 0, .int .i8 0, .int .i8 0, .int .i8 0] 144)).alloc (.cells #[.int .i8 0, .int .i8 0, .int .i8 0, .int .i8 0, .int .i8 0, .int .i8 0, .int .i8 0, .int .i8 0, .int .i8 0, .int .i8 0, .int .i8 0, .int .i8 0, .int .i8 0, .int .i8 0, .int .i8 0, .int .i8 0, .int .i8 0, .int .i8 0, .int .i8 0, .int .i8 0, .int .i8 0, .int .i8 0, .int .i8 0, .int .i8 0, .int .i8 0, .int .i8 0, .int .i8 0, .int .i8 0, .int .i8 0, .int .i8 0, .int .i8 0, .int .i8 0, .int .i8 0, .int .i8 0, .int .i8 0, .int .i8 0, .int .i8 0, .int .i8 0, .int .i8 0, .int .i8 0, .int .i8 0, .int .i8 0, .int .i8 0, .int .i8 0, .int .i8 0, .int .i8 0, .int .i8 0, .int .i8 0, .int .i8 0, .int .i8 0] 144)) (w.heap.size + 1) (i8s (List.replicate 50 0)).toArray 144 := BR
  have BP : Blk (((w.alloc (.cells #[.slice a1 n1 c1, .slice a2 n2 c2] 28)).alloc (.cells #[.int .i8 0, .int .i8 0, .int .i8 0, .int .i8 0, .int .i8 0, .int .i8 0, .int .i8 0, .int .i8 0, .int .i8 0, .int .i8 0, .int .i8 0, .int .i8 0, .int .i8 0, .int .i8 0, .int .i8 0, .int .i8 0, .int .i8 0, .int .i8 0, .int .i8 0, .int .i8 0, .int .i8 0, .int .i8 0, .int .i8 0, .int .i8 0, .int .i8 0, .int .i8 0, .int .i8 0, .int .i8 0, .int .i8 0, .int .i8 0, .int .i8 0, .int .i8 0, .int .i8 0, .int .i8 0, .int .i8 0, .int .i8 0, .int .i8 0, .int .i8 0, .int .i8 0, .int .i8 0, .int .i8 0, .int .i8 0, .int .i8 0, .int .i8 0, .int .i8 0, .int .i8 0, .int .i8 0, .int .i8 0, .int .i8 0, .int .i8 0] 144)).alloc (.cells #[.int .i8 0, .int .i8 0, .int .i8 0, .int .i8 0, .int .i8 0, .int .i8 0, .int .i8 0, .int .i8 0, .int .i8 0, .int .i8 0, .int .i8 0, .int .i8 0, .int .i8 0, .int .i8 0, .int .i8 0, .int .i8 0, .int .i8 0, .int .i8 0, .int .i8 0, .int .i8 0, .int .i8 0, .int .i8 0, .int .i8 0, .int .i8 0, .int .i8 0, .int .i8 0, .int .i8 0, .int .i8 0, .int .i8 0, .int .i8 0, .int .i8 0, .int .i8 0, .int .i8 0, .int .i8 0, .int .i8 0, .int .i8 0, .int .i8 0, .int .i8 0, .int .i8 0, .int .i8 0, .int .i8 0, .int .i8 0, .int .i8 0, .int .i8 0, .int .i8 0, .int .i8 0, .int .i8 0, .int .i8 0, .int .i8 0, .int .i8 0] 144)) (w.heap.size + 1 + 1) (i8s (([] : List Int) ++ (segL xs 0 ++ List.replicate 25 0))).toArray 144 := BP
  go_enter Tryz.func102, Tryz.ntmps102
  obtain ⟨y0, y1, yf, yl⟩ := BB.two
  go_wp2_with fail
  clear y0 y1 yf yl
  generalize (((w.alloc (.cells #[.slice a1 n1 c1, .slice a2 n2 c2] 28)).alloc (.cells #[.int .i8 0, .int .i8 0, .int .i8 0, .int .i8 0, .int .i8 0, .int .i8 0, .int .i8 0, .int .i8 0, .int .i8 0, .int .i8 0, .int .i8 0, .int .i8 0, .int .i8 0, .int .i8 0, .int .i8 0, .int .i8 0, .int .i8 0, .int .i8 0, .int .i8 0, .int .i8 0, .int .i8 0, .int .i8 0, .int .i8 0, .int .i8 0, .int .i8 0, .int .i8 0, .int .i8 0, .int .i8 0, .int .i8 0, .int .i8 0, .int .i8 0, .int .i8 0, .int .i8 0, .int .i8 0, .int .i8 0, .int .i8 0, .int .i8 0, .int .i8 0, .int .i8 0, .int .i8 0, .int .i8 0, .int .i8 0, .int .i8 0, .int .i8 0, .int .i8 0, .int .i8 0, .int .i8 0, .int .i8 0, .int .i8 0, .int .i8 0] 144)).alloc (.cells #[.int .i8 0, .int .i8 0, .int .i8 0, .int .i8 0, .int .i8 0, .int .i8 0, .int .i8 0, .int .i8 0, .int .i8 0, .int .i8 0, .int .i8 0, .int .i8 0, .int .i8 0, .int .i8 0, .int .i8 0, .int .i8 0, .int .i8 0, .int .i8 0, .int .i8 0, .int .i8 0, .int .i8 0, .int .i8 0, .int .i8 0, .int .i8 0, .int .i8 0, .int .i8 0, .int .i8 0, .int .i8 0, .int .i8 0, .int .i8 0, .int .i8 0, .int .i8 0, .int .i8 0, .int .i8 0, .int .i8 0, .int .i8 0, .int .i8 0, .int .i8 0, .int .i8 0, .int .i8 0, .int .i8 0, .int .i8 0, .int .i8 0, .int .i8 0, .int .i8 0, .int .i8 0, .int .i8 0, .int .i8 0, .int .i8 0, .int .i8 0] 144)) = v0 at *
  obtain ⟨gR, hgR⟩ : ∃ gR, w.heap.size + 1 = gR := ⟨_, rfl⟩
  rw [hgR] at BR BP ⊢
  obtain ⟨gP, hgP⟩ : ∃ gP, gR + 1 = gP := ⟨_, rfl⟩
  rw [hgP] at BP
  simp only [hgP]
  go_loopg [4, 5, 11] n1 (fun m q1 q2 i wr => ∃ k : Nat, k ≤ n1 ∧ m = n1 - k ∧ i = .int .i64 k ∧ Blk wr gP (i8s (([] : List Int) ++ (segL xs k ++ List.replicate 25 0))).toArray 144 ∧ Blk wr gR (i8s (List.replicate 50 0)).toArray 144 ∧ Blk wr w.heap.size #[.slice a1 n1 c1, .slice a2 n2 c2] 28 ∧ Below w.heap.size w wr)
  case atStart => exact ⟨0, by omega, by omega, rfl, BP, BR, BB, hb⟩
  case round =>
    clear BP BR BB hb
    obtain ⟨k, hk, hm, rfl, BP, BR, BB, hb⟩ := hrel
    by_cases hlt : k < n1
    · have hlt' : (k : Int) < (n1 : Int) := by omega
      have hk0 : (0 : Int) ≤ (k : Int) := by omega
      have hk25 : (k : Int) < 25 := by omega
      obtain ⟨b, o, rfl, hc⟩ := (r1.below hb) k (by omega)
      have hv := hx _ (getD_mem (xs := xs) (k := k) (by omega))
      have hst := segL_step (([] : List Int)) xs (List.replicate 25 0) k (by omega) (by omega)
      obtain ⟨v, hv'⟩ : ∃ v, xs.getD k 0 = v := ⟨_, rfl⟩
      rw [hv'] at hc hv hst
      have wz : IntKind.i8.wrap v = v := by unfold IntKind.wrap; simp [IntKind.bits, IntKind.signed]; omega
      have hf := fun i => BP.free i
      have hlen : (i8s (([] : List Int) ++ (segL xs k ++ List.replicate 25 0))).toArray.size = 50 := by
        have := segL_length xs k (by omega) (by omega)
        simp [i8s]
        omega
      obtain ⟨old, hold⟩ : ∃ old, wr.cell? ⟨gP, k, none⟩ = some old := ⟨_, (BP.cell k).trans (Array.getElem?_eq_getElem (by omega))⟩
      have HST := Lib.hid hst
      have HV := Lib.hid hv
      clear hst hv hv' hlen
      go_wp2
      go_roundg (n1 - (k + 1))
      case measure => omega
      case rel =>
        refine ⟨k + 1, by omega, rfl, by go_num, ?_, BR.other (by omega), BB.other (by omega), hb.setCell (p := ⟨gP, k, none⟩) (by simp; omega) _⟩
        have t := BP.set (i := k) (.int .i8 v)
        rw [i8s_set] at t
        have e := HST.out
        rw [List.length_nil, Nat.zero_add] at e
        rw [e] at t
        exact t
    · obtain rfl : n1 = k := by omega
      have hlt' : ¬ (n1 : Int) < (n1 : Int) := by omega
      rw [← h1, segL_end, List.nil_append] at BP
      have hpx : (pad25 xs).length = 25 := pad25_length xs (by omega)
      have HPX := Lib.hid hpx
      clear hpx hlt
      obtain ⟨y0, y1, yf, yl⟩ := BB.two
      go_wp2_with fail
      clear y0 y1 yf yl
      have BP2 : Blk wr gP (i8s (pad25 xs ++ (segL ys 0 ++ ([] : List Int)))).toArray 144 := by rw [List.append_nil]; exact BP
      go_loopg [6, 7, 25] n2 (fun m q1 q2 i wr => ∃ k : Nat, k ≤ n2 ∧ m = n2 - k ∧ i = .int .i64 k ∧ Blk wr gP (i8s (pad25 xs ++ (segL ys k ++ []))).toArray 144 ∧ Blk wr gR (i8s (List.replicate 50 0)).toArray 144 ∧ Blk wr w.heap.size #[.slice a1 n1 c1, .slice a2 n2 c2] 28 ∧ Below w.heap.size w wr)
      case atStart => exact ⟨0, by omega, by omega, rfl, BP2, BR, BB, hb⟩
      case round =>
        clear BP2 BR BB hb
        obtain ⟨k, hk, hm, rfl, BP, BR, BB, hb⟩ := hrel
        by_cases hlt : k < n2
        · have hlt' : (k : Int) < (n2 : Int) := by omega
          have hk0 : (0 : Int) ≤ (k : Int) := by omega
          have hk25 : (k : Int) < 25 := by omega
          obtain ⟨b, o, rfl, hc⟩ := (r2.below hb) k (by omega)
          have hv := hy _ (getD_mem (xs := ys) (k := k) (by omega))
          have hst := segL_step (pad25 xs) ys ([]) k (by omega) (by omega)
          obtain ⟨v, hv'⟩ : ∃ v, ys.getD k 0 = v := ⟨_, rfl⟩
          rw [hv'] at hc hv hst
          have wz : IntKind.i8.wrap v = v := by unfold IntKind.wrap; simp [IntKind.bits, IntKind.signed]; omega
          have hf := fun i => BP.free i
          have hlen : (i8s (pad25 xs ++ (segL ys k ++ []))).toArray.size = 50 := by
            have := segL_length ys k (by omega) (by omega)
            have := HPX.out
            simp [i8s]
            omega
          obtain ⟨old, hold⟩ : ∃ old, wr.cell? ⟨gP, (25 + k), none⟩ = some old := ⟨_, (BP.cell (25 + k)).trans (Array.getElem?_eq_getElem (by omega))⟩
          have HST := Lib.hid hst
          have HV := Lib.hid hv
          clear hst hv hv' hlen
          go_wp2
          go_roundg (n2 - (k + 1))
          case measure => omega
          case rel =>
            refine ⟨k + 1, by omega, rfl, by go_num, ?_, BR.other (by omega), BB.other (by omega), hb.setCell (p := ⟨gP, (25 + k), none⟩) (by simp; omega) _⟩
            have t := BP.set (i := (25 + k)) (.int .i8 v)
            rw [i8s_set] at t
            have e := HST.out
            rw [HPX.out] at e
            rw [e] at t
            exact t
        · obtain rfl : n2 = k := by omega
          have hlt' : ¬ (n2 : Int) < (n2 : Int) := by omega
          rw [← h2, segL_end, List.append_nil] at BP
          clear hlt
          obtain ⟨ARR, hARR⟩ : ∃ q, (i8s (pad25 xs ++ pad25 ys)).toArray = q := ⟨_, rfl⟩
          have hsz : ARR.size = 50 := by
            rw [← hARR]
            have := pad25_length ys (by omega)
            have := HPX.out
            simp [i8s]
            omega
          have hone : ARR.all (·.oneCell') = true := by
            rw [← hARR]
            rw [List.all_toArray, List.all_eq_true]
            intro x hx
            obtain ⟨y, _, rfl⟩ := List.mem_map.1 hx
            rfl
          rw [hARR] at BP
          have hinfo : (Tryz.prog.info? 144).map (·.size) = some ARR.size := by rw [hsz]; exact infoPlc
          have hRET : (i8s (plcL xs ys)).toArray = ARR := hARR
          have HRET := Lib.hid hRET
          clear hARR hRET HPX
          have hPB : wr.heap[gP]? = some (.cells ARR 144 (0, 0)) := BP
          have hRB : wr.heap[gR]? = some (.cells (i8s (List.replicate 50 0)).toArray 144 (0, 0)) := BR
          have hold : (i8s (List.replicate 50 0)).toArray.size = ARR.size := by rw [hsz]; simp [i8s]
          go_wp2_with (first | (refine wpList_load_row rfl _ (.tmp 3) rfl gP rfl _ ARR (0, 0) (.array 2 142) hPB Tryz.underlying144 rfl hinfo ?_) | (refine wpList_store_row rfl _ (.tmp 2) (.tmp 36) rfl gR ARR rfl rfl _ _ hRB hinfo hold hone ?_))
          refine bodyPost_ret (v := .agg ARR) ?_ rfl ?_
          · exact results_cell_row rfl _ _ gR _ ARR (0, 0) (.array 2 142) rfl (setRow_heap wr gR _ _ _ _ hRB) Tryz.underlying144 rfl hinfo
          rw [HRET.out]
          exact ⟨rfl, below_setRow hb (by omega) _⟩
end Go.Proofs.YtciljbnailobgaaGreat
namespace Go.Proofs.YtciljbnailobgaaGreat
open Go.ChangeShapes Go.WideShapes Go.ChangeAt Go.RowKit
set_option linter.unusedVariables false
set_option linter.unusedSimpArgs false
set_option maxRecDepth 4000
open Go.Maps (Keyed)
theorem plcLaidOut : laidOutB Tryz.prog = true := by kernel_rfl
theorem plcRow : (144 : TypeId) < Tryz.prog.types.size := of_decide_eq_true (by kernel_rfl)
theorem plcWide : (match Tryz.prog.underlying 144 with | some (.array _ _) | some (.struct _) => true | _ => false) = true := by rw [Tryz.underlying144]
set_option maxRecDepth 100000 in
theorem plcLaw : WideMaps.KeyLaw Tryz.prog 144 := deep_law_laid plcLaidOut (m := 3) (by omega) plcRow (by kernel_rfl) plcWide
theorem plcKeyed : Keyed Tryz.prog 144 := Keyed.of_law plcLaw
theorem plcCells : Tryz.prog.cellsOf 144 = 50 := by kernel_rfl
theorem plcCells25 : Tryz.prog.cellsOf 142 = 25 := by kernel_rfl
theorem plcCells1 : Tryz.prog.cellsOf 141 = 1 := by kernel_rfl
theorem plcDeep : Tryz.prog.keyType 144 = true := by kernel_rfl
theorem mapM_all {α β : Type} (g : α → Option β) (f : α → β) : ∀ l : List α, (∀ i ∈ l, g i = some (f i)) → l.mapM g = some (l.map f)
  | [], _ => rfl
  | a :: l, h => by
    rw [List.mapM_cons, h a (by simp), mapM_all g f l (fun i hi => h i (by simp [hi]))]
    rfl
def Tiny (L : List Int) : Prop := ∀ x ∈ L, -128 ≤ x ∧ x ≤ 127
theorem tiny_wf {x : Int} (h : -128 ≤ x ∧ x ≤ 127) : (Lit.int .i8 x).wf = true := by
  simp [Lit.wf, IntKind.min, IntKind.max, IntKind.signed, IntKind.bits]
  omega
theorem drop_one (L : List Int) (i : Nat) (hi : i < L.length) : ((i8s L).drop (i * 1)).take 1 = [.int .i8 (L.getD i 0)] := by
  rw [Nat.mul_one]
  apply List.ext_getElem?
  intro j
  rw [List.getElem?_take, List.getElem?_drop]
  cases j with
  | zero => simp [i8s, hi]
  | succ j => simp
theorem flat_one (L : List Int) : (L.map (fun x => [Lit.int .i8 x])).flatten = L.map (Lit.int .i8) := by
  induction L with
  | nil => rfl
  | cons a l ih => rw [List.map_cons, List.flatten_cons, ih]; rfl
theorem flat_getD (L : List Int) (n : Nat) (hn : L.length = n) : ((List.range n).map (fun i => [Lit.int .i8 (L.getD i 0)])).flatten = L.map (Lit.int .i8) := by
  subst hn
  rw [← flat_one]
  congr 1
  apply List.ext_getElem
  · simp
  · intro i h1 h2
    have : i < L.length := by simpa using h2
    simp [List.getD, this]
theorem keyLits_one (d : Nat) (x : Int) (h : -128 ≤ x ∧ x ≤ 127) : Tryz.prog.keyLits (d + 1) 141 [.int .i8 x] = some [Lit.int .i8 x] := by
  unfold Program.keyLits
  rw [Tryz.underlying141]
  simp [tiny_wf h]
theorem keyLits_25 (d : Nat) (L : List Int) (hL : L.length = 25) (ht : Tiny L) : Tryz.prog.keyLits (d + 2) 142 (i8s L) = some (L.map (Lit.int .i8)) := by
  unfold Program.keyLits
  rw [Tryz.underlying142]
  simp only
  rw [if_pos (by rw [plcCells25]; simp [i8s, hL]), plcCells1]
  rw [mapM_all _ (fun i => [Lit.int .i8 (L.getD i 0)]) _ (fun i hi => by
    have hi' : i < L.length := by rw [hL]; simpa using hi
    rw [drop_one L i hi']
    exact keyLits_one d _ (ht _ (by simp [List.getD, hi'])))]
  rw [Option.map_some, flat_getD L 25 hL]
theorem keyLits_50 (d : Nat) (A B : List Int) (hA : A.length = 25) (hB : B.length = 25) (ha : Tiny A) (hb : Tiny B) : Tryz.prog.keyLits (d + 3) 144 (i8s (A ++ B)) = some ((A ++ B).map (Lit.int .i8)) := by
  unfold Program.keyLits
  rw [Tryz.underlying144]
  simp only
  rw [if_pos (by rw [plcCells]; simp [i8s, hA, hB]), plcCells25]
  have e0 : ((i8s (A ++ B)).drop (0 * 25)).take 25 = i8s A := by simp [i8s, List.take_append, hA]
  have e1 : ((i8s (A ++ B)).drop (1 * 25)).take 25 = i8s B := by
    rw [i8s, List.map_append, List.drop_append_of_le_length (by simp [hA]), List.drop_eq_nil_of_le (by simp [hA]), List.nil_append]
    exact List.take_of_length_le (by simp [hB])
  have hr : List.range 2 = [0, 1] := rfl
  rw [hr, List.mapM_cons, List.mapM_cons, List.mapM_nil, e0, e1, keyLits_25 d A hA ha, keyLits_25 d B hB hb]
  simp
def keyB (L : List Int) : Lit := .string (keyBytes (L.map (Lit.int .i8)))
theorem keyOf_plc (A B : List Int) (hA : A.length = 25) (hB : B.length = 25) (ha : Tiny A) (hb : Tiny B) : keyOf Tryz.prog 144 (.agg (i8s (A ++ B)).toArray) = some (keyB (A ++ B)) := by
  unfold keyOf
  rw [Tryz.underlying144]
  simp only
  have hf : (Value.agg (i8s (A ++ B)).toArray).formed Tryz.prog 144 = true := by
    unfold Value.formed
    rw [Tryz.underlying144]
    simp [plcCells, i8s, hA, hB]
  rw [plcDeep, hf]
  obtain ⟨d, hd⟩ : ∃ d, Tryz.prog.types.size + 1 = d + 3 := ⟨Tryz.prog.types.size - 2, by have : (144 : Nat) < Tryz.prog.types.size := plcRow; omega⟩
  rw [hd]
  have hc : (Value.agg (i8s (A ++ B)).toArray).cells.toList = i8s (A ++ B) := by simp [Value.cells]
  rw [hc, keyLits_50 d A B hA hB ha hb]
  rfl
theorem keyB_inj (A B A' B' : List Int) (hA : A.length = 25) (hB : B.length = 25) (ha : Tiny A) (hb : Tiny B) (hA' : A'.length = 25) (hB' : B'.length = 25) (ha' : Tiny A') (hb' : Tiny B') (e : keyB (A ++ B) = keyB (A' ++ B')) : A ++ B = A' ++ B' := by
  have h1 := keyOf_plc A B hA hB ha hb
  have h2 := keyOf_plc A' B' hA' hB' ha' hb'
  rw [← e] at h2
  have := plcKeyed.inj h1 h2
  simp only [Value.agg.injEq] at this
  have h3 := congrArg Array.toList this
  simp only at h3
  unfold i8s at h3
  exact List.map_inj_right (fun x y h => by simpa using h) |>.1 h3
end Go.Proofs.YtciljbnailobgaaGreat
