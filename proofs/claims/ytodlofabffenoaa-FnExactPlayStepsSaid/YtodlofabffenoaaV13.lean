/- Texts of a proof, laid together. -/
import Derived.Test.YtodlofabffenoaaV11
import Derived.Test.YtodlofabffenoaaV08
import Derived.Test.YtodlofabffenoaaV09
import Derived.Test.YtodlofabffenoaaV12
import Derived.Test.YtodlofabffenoaaV01
namespace Go.Proofs.Ytodlofabffenoaa
open Go.ChangeShapes Go.WideShapes Go.ChangeAt Go.RowKit
set_option linter.unusedVariables false
set_option linter.unusedSimpArgs false
set_option maxRecDepth 4000
def FolGot (r : Option (List Int × List Int)) (w : World) (e : Ending) (w' : World) : Prop := match r with
  | some b => ∃ g1 g2, e = .returned (.tuple #[.agg #[.slice (some ⟨g1, 0, none⟩) b.1.length b.1.length, .slice (some ⟨g2, 0, none⟩) b.2.length b.2.length], .bool true]) ∧ w.heap.size ≤ g1 ∧ w.heap.size ≤ g2 ∧ g1 ≠ g2 ∧ Row w' g1 b.1 ∧ Row w' g2 b.2 ∧ Below w.heap.size w w'
  | none => e = .returned (.tuple #[.agg #[.slice none 0 0, .slice none 0 0], .bool false]) ∧ Below w.heap.size w w'
theorem rowNe {w : World} {g g2 : Nat} {xs : List Int} {vs : Array Value} {t : TypeId} (h : Row w g xs) (hB : Blk w g2 vs t) (ht : t ≠ 2) : g ≠ g2 := by
  rintro rfl
  obtain ⟨cur, h1, _⟩ := h
  have h1' : w.heap[g]? = some (.cells cur 2 (0, 0)) := h1
  have h2' : w.heap[g]? = some (.cells vs t (0, 0)) := hB
  rw [h1'] at h2'
  simp at h2'
  exact ht h2'.2.symm
set_option maxRecDepth 8000 in
set_option maxHeartbeats 2000000 in
theorem follow_any (P : Nat) (c h s : Int) (a1 a2 : Option Addr) (n1 n2 c1 c2 : Nat) (xs ys : List Int) (ao : Option Addr) (no co : Nat) (os : List Int) (at_ : Option Addr) (nt ct : Nat) (ts : List Stp) (w : World) (h1 : xs.length = n1) (h2 : ys.length = n2) (g : isB (P : Int) c h s xs ys = true) (r1 : IRow w a1 xs) (r2 : IRow w a2 ys)
    (hno : os.length = no) (ro : IRow w ao os) (hts : ts.length = nt) (hnt : nt ≤ no) (hn4 : no ≤ 1000) (rt : 0 < nt → ∃ gt, at_ = some ⟨gt, 0, none⟩ ∧ SRow w gt ts) :
    Calls Try.prog 29 #[.agg #[.int .i64 (P : Int), .int .i64 c, .int .i64 h, .int .i64 s], .agg #[.slice a1 n1 c1, .slice a2 n2 c2], .slice ao no co, .slice at_ nt ct] w (FolGot (folN P h s os ts (xs, ys)) w) := by
  subst h1 h2
  obtain ⟨p0, p1, k0, k1, k2, k3, N1, N2, hx, hy, s0, s1, s2, s3⟩ := isB_parts g
  have hs6 := isB_sides g
  have hc := fun W (q1 : IRow W a1 xs) (q2 : IRow W a2 ys) => copied_any a1 a2 _ _ c1 c2 xs ys W rfl rfl (by omega) (by omega) (by omega) (by omega) q1 q2
  have HC := Lib.hid hc
  have HG := Lib.hid g
  have HNO := Lib.hid hno
  have HTS := Lib.hid hts
  have HRO := Lib.hid ro
  have HRT := Lib.hid rt
  obtain ⟨BV, BB, BO, hb, hz⟩ := three_new w #[.int .i64 (P : Int), .int .i64 c, .int .i64 h, .int .i64 s] #[.slice a1 xs.length c1, .slice a2 ys.length c2] #[.slice none 0 0, .slice none 0 0] 35 32 32
  clear hz hc g hno hts ro rt hx hy N1 N2 s0 s1 s2 s3
  replace r1 := r1.below hb
  replace r2 := r2.below hb
  obtain ⟨R, hR⟩ : ∃ R, folN P h s os ts (xs, ys) = R := ⟨_, rfl⟩
  have HFN := Lib.hid hR
  rw [hR]
  clear hR
  obtain ⟨x0, x1, x2, x3, xf, xl⟩ := BV.four
  obtain ⟨y0, y1, yf, yl⟩ := BB.two
  go_enter Try.func29, Try.ntmps29
  go_wp2_with fail
  clear x0 x1 x2 x3 xf xl y0 y1 yf yl
  generalize (((w.alloc (.cells #[.int .i64 (P : Int), .int .i64 c, .int .i64 h, .int .i64 s] 35)).alloc (.cells #[.slice a1 xs.length c1, .slice a2 ys.length c2] 32)).alloc (.cells #[.slice none 0 0, .slice none 0 0] 32)) = v0 at *
  refine (HC.out _ r1 r2).mono ?_
  rintro e w1 ⟨ga, gb, rfl, hne, hga, hgb, RA, RB, hb1⟩
  have hz1 := BO.lt
  have hga' : w.heap.size ≤ ga := by omega
  have hgb' : w.heap.size ≤ gb := by omega
  replace BV := BV.below hb1
  replace BO := BO.below hb1
  replace hb := chain hb hb1
  clear HC hb1 BB hga hgb
  have BA := Blk.new w1 #[.slice (some ⟨ga, 0, none⟩) xs.length xs.length, .slice (some ⟨gb, 0, none⟩) ys.length ys.length] 32
  have hal : Below w1.heap.size w1 (w1.alloc (.cells #[.slice (some ⟨ga, 0, none⟩) xs.length xs.length, .slice (some ⟨gb, 0, none⟩) ys.length ys.length] 32)) := (Below.refl _ _).alloc (Nat.le_refl _) _
  have hw1 : w.heap.size + 1 + 1 < w1.heap.size := BO.lt
  replace BV := BV.below hal
  replace BO := BO.below hal
  replace RA := RA.below hal
  replace RB := RB.below hal
  replace hb := chain hb hal
  clear hal r1 r2
  go_wp2_with fail
  generalize (w1.alloc (.cells #[.slice (some ⟨ga, 0, none⟩) xs.length xs.length, .slice (some ⟨gb, 0, none⟩) ys.length ys.length] 32)) = v1 at *
  go_loopg [18] nt (fun m i wr => ∃ (k : Nat) (bx bz : List Int) (ga gb : Nat), k ≤ nt ∧ m = nt - k ∧ i = .int .i64 k ∧ R = folN P h s (os.drop k) (ts.drop k) (bx, bz) ∧ isB (P : Int) c h s bx bz = true ∧ (w.heap.size ≤ ga ∧ w.heap.size ≤ gb ∧ ga ≠ gb) ∧ Blk wr w.heap.size #[.int .i64 (P : Int), .int .i64 c, .int .i64 h, .int .i64 s] 35 ∧ Blk wr (w.heap.size + 1 + 1) #[.slice none 0 0, .slice none 0 0] 32 ∧ Blk wr w1.heap.size #[.slice (some ⟨ga, 0, none⟩) bx.length bx.length, .slice (some ⟨gb, 0, none⟩) bz.length bz.length] 32 ∧ Row wr ga bx ∧ Row wr gb bz ∧ Below w.heap.size w wr)
  case atStart => exact ⟨0, xs, ys, ga, gb, by omega, by omega, rfl, by rw [← HFN.out]; rfl, HG.out, ⟨hga', hgb', hne⟩, BV, BO, BA, RA, RB, hb⟩
  case round =>
    clear BV BO BA RA RB hb hne hga' hgb'
    obtain ⟨k, bx, bz, ga, gb, hk, hm, rfl, hF, hgi, ⟨hga, hgb, hne⟩, BV, BO, BA, RA, RB, hb⟩ := hrel
    by_cases hlt : k < nt
    · have hlt' : (k : Int) < (nt : Int) := by omega
      have hkn : (k : Int) < (no : Int) := by omega
      have hk0 : (0 : Int) ≤ (k : Int) := by omega
      have hk4 : (k : Int) ≤ 1000 := by omega
      obtain ⟨gt, rfl, SR⟩ := HRT.out (by omega)
      have hk1 : k < ts.length := by have := HTS.out; omega
      have hk2 : k < os.length := by have := HNO.out; omega
      obtain ⟨⟨ta, tb, td, tq⟩, htk⟩ : ∃ t, ts[k]? = some t := ⟨ts[k]'hk1, List.getElem?_eq_getElem hk1⟩
      have SR' : SRow wr gt ts := VRow.below SR hb
      obtain ⟨s0, s1, s2, s3⟩ := SRow.four SR' k _ htk
      obtain ⟨b, oo, rfl, ho_⟩ := (HRO.out.below hb) k hk2
      obtain ⟨ox, hox⟩ : ∃ ox, os.getD k 0 = ox := ⟨_, rfl⟩
      rw [hox] at ho_
      have hd1 : os.drop k = ox :: os.drop (k + 1) := by
        rw [List.drop_eq_getElem_cons hk2]
        congr 1
        rw [← hox]
        simp [List.getD, hk2]
      have hd2 : ts.drop k = (ta, tb, td, tq) :: ts.drop (k + 1) := by
        rw [List.drop_eq_getElem_cons hk1]
        congr 1
        exact (List.getElem?_eq_some_iff.1 htk).2
      rw [hd1, hd2, folN] at hF
      dsimp only at hF s0 s1 s2 s3
      obtain ⟨-, -, -, -, -, -, N1, N2, hx, hy, -, -, -, -⟩ := isB_parts hgi
      have hil := fun B W (q1 : Pays 67 B bx W) (q2 : Pays 68 B bz W) => isLegal_any P c h s 67 68 B bx bz W (by omega) (by omega) (by omega) (by omega) hx hy q1 q2 (by omega) (ta, tb, td, tq)
      have hmv := fun (hp : placesB (P : Int) (ta, tb, td, tq) = true) B W (q1 : Pays 67 B bx W) (q2 : Pays 68 B bz W) => moved_any P 67 68 B bx bz W (by omega) (by omega) (by omega) (by omega) hx hy q1 q2 (ta, tb, td, tq) 1 (by omega) (by omega) hp
      have hpl : legB P h s bx bz (ta, tb, td, tq) = true → placesB (P : Int) (ta, tb, td, tq) = true := fun q => by
        unfold legB at q
        simp only [Bool.and_eq_true] at q
        exact q.2.1
      have hsf := fun (q : legB P h s bx bz (ta, tb, td, tq) = true) => (step_facts hgi q).1
      obtain ⟨LB, hLB⟩ : ∃ LB, legB P h s bx bz (ta, tb, td, tq) = LB := ⟨_, rfl⟩
      rw [hLB] at hil hpl hsf hF
      have HIL0 := Lib.hid hil
      have HMV0 := Lib.hid hmv
      have HPL := Lib.hid hpl
      have HSF := Lib.hid hsf
      have HF := Lib.hid hF
      clear hil hmv hpl hsf hF hd1 hd2 hox htk hLB N1 N2 hx hy hgi SR'
      obtain ⟨x0, x1, x2, x3, xf, xl⟩ := BV.four
      obtain ⟨y0, y1, yf, yl⟩ := BA.two
      have BS := Blk.new wr #[.int .i64 ta, .int .i64 tb, .int .i64 td, .bool tq] 56
      have hal : Below wr.heap.size wr (wr.alloc (.cells #[.int .i64 ta, .int .i64 tb, .int .i64 td, .bool tq] 56)) := (Below.refl _ _).alloc (Nat.le_refl _) _
      have ho1 : CellIs wr b (oo + k) (.int .i64 ox) := ho_
      clear ho_
      go_wp2_with fail
      clear x0 x1 x2 x3 xf xl y0 y1 yf yl s0 s1 s2 s3
      have hzr : w1.heap.size < wr.heap.size := BA.lt
      replace BV := BV.below hal
      replace BO := BO.below hal
      replace BA := BA.below hal
      replace RA := RA.below hal
      replace RB := RB.below hal
      replace ho1 := CellIs.below ho1 hal
      replace hb := chain hb hal
      clear hal
      generalize (wr.alloc (.cells #[.int .i64 ta, .int .i64 tb, .int .i64 td, .bool tq] 56)) = v2 at *
      refine (countsOf_any (P : Int) c h s _ _ _ _ _ _ bx bz _ rfl rfl RA.irow RB.irow).mono ?_
      rintro e w2 ⟨B, rfl, q1, q2, hb2⟩
      have BT := Blk.new w2 #[.int .i64 (P : Int), fv 67 B, fv 68 B] 86
      have hal : Below w2.heap.size w2 (w2.alloc (.cells #[.int .i64 (P : Int), fv 67 B, fv 68 B] 86)) := (Below.refl _ _).alloc (Nat.le_refl _) _
      have hbt := hb2.trans (hal.mono hb2.size)
      have hz2 : wr.heap.size < v2.heap.size := BS.lt
      have hz3 := hb2.size
      replace BV := BV.below hbt
      replace BO := BO.below hbt
      replace BA := BA.below hbt
      replace BS := BS.below hbt
      replace RA := RA.below hbt
      replace RB := RB.below hbt
      replace ho1 := CellIs.below ho1 hbt
      replace q1 := q1.below hal
      replace q2 := q2.below hal
      replace hb := chain hb hbt
      clear hal hbt hb2
      go_wp2_with fail
      generalize (w2.alloc (.cells #[.int .i64 (P : Int), fv 67 B, fv 68 B] 86)) = w3 at *
      by_cases hd : td = ox
      · have f0 : (td != ox) = false := by rw [hd]; simp
        cases LB with
        | false =>
          have hF := HF.out
          rw [if_neg (by simp)] at hF
          clear HF HMV0 HPL HSF
          have HF := Lib.hid hF
          have hil := HIL0.out
          have HIL := Lib.hid hil
          clear hF hil HIL0 hd
          have hd_ : w3.drew.heap.size = w3.heap.size := rfl
          replace BV := BV.drew
          replace BS := BS.drew
          replace BT := BT.drew
          replace BO := BO.drew
          replace BA := BA.drew
          replace RA := RA.drew
          replace RB := RB.drew
          replace q1 := q1.drew
          replace q2 := q2.drew
          replace hb := hb.drew
          replace ho1 := CellIs.drew ho1
          refine wp_region_held_drew (S := fun w' => w'.cell? ⟨w.heap.size, 0, none⟩ = some (.int .i64 (P : Int)) ∧ w'.cell? ⟨w.heap.size, 1, none⟩ = some (.int .i64 c) ∧ w'.cell? ⟨w.heap.size, 2, none⟩ = some (.int .i64 h) ∧ w'.cell? ⟨w.heap.size, 3, none⟩ = some (.int .i64 s) ∧ w'.cell? ⟨wr.heap.size, 0, none⟩ = some (.int .i64 ta) ∧ w'.cell? ⟨wr.heap.size, 1, none⟩ = some (.int .i64 tb) ∧ w'.cell? ⟨wr.heap.size, 2, none⟩ = some (.int .i64 td) ∧ w'.cell? ⟨wr.heap.size, 3, none⟩ = some (.bool tq) ∧ w'.cell? ⟨w2.heap.size, 0, none⟩ = some (.int .i64 (P : Int)) ∧ w'.cell? ⟨w2.heap.size, 1, none⟩ = some (fv 67 B) ∧ w'.cell? ⟨w2.heap.size, 2, none⟩ = some (fv 68 B) ∧ w'.cell? ⟨b, oo + k, none⟩ = some (.int .i64 ox)) (by kernel_rfl) ⟨BV.four.1, BV.four.2.1, BV.four.2.2.1, BV.four.2.2.2.1, BS.four.1, BS.four.2.1, BS.four.2.2.1, BS.four.2.2.2.1, BT.tri.1, BT.tri.2.1, BT.tri.2.2.1, ho1⟩ (fun hHeld => ?_)
          clear hHeld
          generalize w3.drew = vd at *
          have hHeld : vd.cell? ⟨w.heap.size, 0, none⟩ = some (.int .i64 (P : Int)) ∧ vd.cell? ⟨w.heap.size, 1, none⟩ = some (.int .i64 c) ∧ vd.cell? ⟨w.heap.size, 2, none⟩ = some (.int .i64 h) ∧ vd.cell? ⟨w.heap.size, 3, none⟩ = some (.int .i64 s) ∧ vd.cell? ⟨wr.heap.size, 0, none⟩ = some (.int .i64 ta) ∧ vd.cell? ⟨wr.heap.size, 1, none⟩ = some (.int .i64 tb) ∧ vd.cell? ⟨wr.heap.size, 2, none⟩ = some (.int .i64 td) ∧ vd.cell? ⟨wr.heap.size, 3, none⟩ = some (.bool tq) ∧ vd.cell? ⟨w2.heap.size, 0, none⟩ = some (.int .i64 (P : Int)) ∧ vd.cell? ⟨w2.heap.size, 1, none⟩ = some (fv 67 B) ∧ vd.cell? ⟨w2.heap.size, 2, none⟩ = some (fv 68 B) ∧ vd.cell? ⟨b, oo + k, none⟩ = some (.int .i64 ox) := ⟨BV.four.1, BV.four.2.1, BV.four.2.2.1, BV.four.2.2.2.1, BS.four.1, BS.four.2.1, BS.four.2.2.1, BS.four.2.2.2.1, BT.tri.1, BT.tri.2.1, BT.tri.2.2.1, ho1⟩
          refine wpAnyH_take (i := 0) (oi := ⟨some 26, _, _, _, _, _⟩) (v := ?_) rfl (by kernel_rfl) (by kernel_rfl) (by kernel_rfl) (fun _ _ _ h => h) (Or.inl ⟨by rfl, ?_⟩) (by assumption) ?_
          rotate_left
          · intro w hSw; (try dsimp only at hSw); go_simp; (try (with_reducible rfl))
          try simp only [Act.put, List.setIfInBounds_toArray, List.set_cons_zero, List.set_cons_succ]
          refine wpAnyH_take (i := 1) (oi := ⟨some 27, _, _, _, _, _⟩) (v := ?_) rfl (by kernel_rfl) (by kernel_rfl) (by kernel_rfl) (fun _ _ _ h => h) (Or.inl ⟨by rfl, ?_⟩) (by assumption) ?_
          rotate_left
          · intro w hSw; (try dsimp only at hSw); go_simp; (try (with_reducible rfl))
          try simp only [Act.put, List.setIfInBounds_toArray, List.set_cons_zero, List.set_cons_succ]
          refine wpAnyH_take (i := 2) (oi := ⟨some 28, _, _, _, _, _⟩) (v := ?_) rfl (by kernel_rfl) (by kernel_rfl) (by kernel_rfl) (fun _ _ _ h => h) (Or.inl ⟨by rfl, ?_⟩) (by assumption) ?_
          rotate_left
          · intro w hSw; (try dsimp only at hSw); go_simp; (try (with_reducible rfl))
          try simp only [Act.put, List.setIfInBounds_toArray, List.set_cons_zero, List.set_cons_succ]
          refine wpAnyH_take (i := 3) (oi := ⟨some 29, _, _, _, _, _⟩) (v := ?_) rfl (by kernel_rfl) (by kernel_rfl) (by kernel_rfl) (fun _ _ _ h => h) (Or.inl ⟨by rfl, ?_⟩) (by assumption) ?_
          rotate_left
          · intro w hSw; (try dsimp only at hSw); go_simp; (try (with_reducible rfl))
          try simp only [Act.put, List.setIfInBounds_toArray, List.set_cons_zero, List.set_cons_succ]
          refine wpAnyH_take (i := 4) (oi := ⟨some 30, _, _, _, _, _⟩) (v := ?_) rfl (by kernel_rfl) (by kernel_rfl) (by kernel_rfl) (fun _ _ _ h => h) (Or.inl ⟨by rfl, ?_⟩) (by assumption) ?_
          rotate_left
          · intro w hSw; (try dsimp only at hSw); go_simp; (try (with_reducible rfl))
          try simp only [Act.put, List.setIfInBounds_toArray, List.set_cons_zero, List.set_cons_succ]
          refine wpAnyH_take (i := 5) (oi := ⟨some 31, _, _, _, _, _⟩) (v := ?_) rfl (by kernel_rfl) (by kernel_rfl) (by kernel_rfl) (fun _ _ _ h => h) (Or.inl ⟨by rfl, ?_⟩) (by assumption) ?_
          rotate_left
          · intro w hSw; (try dsimp only at hSw); go_simp; (try (with_reducible rfl))
          try simp only [Act.put, List.setIfInBounds_toArray, List.set_cons_zero, List.set_cons_succ]
          refine wpAnyH_take (i := 6) (oi := ⟨some 32, _, _, _, _, _⟩) (v := ?_) rfl (by kernel_rfl) (by kernel_rfl) (by kernel_rfl) (fun _ _ _ h => h) (Or.inl ⟨by rfl, ?_⟩) (by assumption) ?_
          rotate_left
          · intro w hSw; (try dsimp only at hSw); go_simp; (try (with_reducible rfl))
          try simp only [Act.put, List.setIfInBounds_toArray, List.set_cons_zero, List.set_cons_succ]
          refine wpAnyH_take (i := 7) (oi := ⟨some 33, _, _, _, _, _⟩) (v := ?_) rfl (by kernel_rfl) (by kernel_rfl) (by kernel_rfl) (fun _ _ _ h => h) (Or.inl ⟨by rfl, ?_⟩) (by assumption) ?_
          rotate_left
          · intro w hSw; (try dsimp only at hSw); go_simp; (try (with_reducible rfl))
          try simp only [Act.put, List.setIfInBounds_toArray, List.set_cons_zero, List.set_cons_succ]
          refine wpAnyH_take (i := 8) (oi := ⟨some 34, _, _, _, _, _⟩) (v := ?_) rfl (by kernel_rfl) (by kernel_rfl) (by kernel_rfl) (fun _ _ _ h => h) (Or.inl ⟨by rfl, ?_⟩) (by assumption) ?_
          rotate_left
          · intro w hSw; (try dsimp only at hSw); go_simp; (try (with_reducible rfl))
          try simp only [Act.put, List.setIfInBounds_toArray, List.set_cons_zero, List.set_cons_succ]
          refine wpAnyH_take (i := 9) (oi := ⟨some 35, _, _, _, _, _⟩) (v := ?_) rfl (by kernel_rfl) (by kernel_rfl) (by kernel_rfl) (fun _ _ _ h => h) (Or.inl ⟨by rfl, ?_⟩) (by assumption) ?_
          rotate_left
          · intro w hSw; (try dsimp only at hSw); go_simp; (try (with_reducible rfl))
          try simp only [Act.put, List.setIfInBounds_toArray, List.set_cons_zero, List.set_cons_succ]
          refine wpAnyH_take (i := 10) (oi := ⟨some 36, _, _, _, _, _⟩) (v := ?_) rfl (by kernel_rfl) (by kernel_rfl) (by kernel_rfl) (fun _ _ _ h => h) (Or.inl ⟨by rfl, ?_⟩) (by assumption) ?_
          rotate_left
          · intro w hSw; (try dsimp only at hSw); go_simp; (try (with_reducible rfl))
          try simp only [Act.put, List.setIfInBounds_toArray, List.set_cons_zero, List.set_cons_succ]
          refine wpAnyH_ready (rs := [11]) (by kernel_rfl) (by simp) ?_
          refine AllReadyH.cons (o := ⟨some 37, _, _, _, _, _⟩) rfl (fun K hK => ?_) AllReadyH.nil
          go_simp
          refine (HIL.out _ _ q1 q2).mono ?_
          rintro e w4 ⟨rfl, hb4⟩
          replace BV := BV.below hb4
          replace BO := BO.below hb4
          replace BA := BA.below hb4
          replace BS := BS.below hb4
          replace BT := BT.below hb4
          replace RA := RA.below hb4
          replace RB := RB.below hb4
          replace q1 := q1.below hb4
          replace q2 := q2.below hb4
          replace ho1 := CellIs.below ho1 hb4
          replace hb := chain hb hb4
          clear hb4
          (try go_wp2_with fail)
          refine hK.out _ _ ⟨BV.four.1, BV.four.2.1, BV.four.2.2.1, BV.four.2.2.2.1, BS.four.1, BS.four.2.1, BS.four.2.2.1, BS.four.2.2.2.1, BT.tri.1, BT.tri.2.1, BT.tri.2.2.1, ho1⟩ (fun hHeld => ?_)
          clear hK K
          try simp only [Act.put, List.setIfInBounds_toArray, List.set_cons_zero, List.set_cons_succ]
          refine wpAnyH_take (i := 12) (oi := ⟨some 38, _, _, _, _, _⟩) (v := ?_) rfl (by kernel_rfl) (by kernel_rfl) (by kernel_rfl) (fun _ _ _ h => h) (Or.inl ⟨by rfl, ?_⟩) (by assumption) ?_
          rotate_left
          · intro w hSw; (try dsimp only at hSw); go_simp; (try (with_reducible rfl))
          try simp only [Act.put, List.setIfInBounds_toArray, List.set_cons_zero, List.set_cons_succ]
          refine wpAnyH_take (i := 13) (oi := ⟨some 39, _, _, _, _, _⟩) (v := ?_) rfl (by kernel_rfl) (by kernel_rfl) (by kernel_rfl) (fun _ _ _ h => h) (Or.inl ⟨by rfl, ?_⟩) (by assumption) ?_
          rotate_left
          · intro w hSw; (try dsimp only at hSw); go_simp; (try (with_reducible rfl))
          try simp only [Act.put, List.setIfInBounds_toArray, List.set_cons_zero, List.set_cons_succ]
          refine wpAnyH_done (by kernel_rfl) ?_ _
          clear hHeld
          obtain ⟨z0, z1, zf, zl⟩ := BO.two
          go_wp2_with fail
          have MO := (BO.set (i := 0) (.slice none 0 0)).set (i := 1) (.slice none 0 0)
          simp only [List.setIfInBounds_toArray, List.set_cons_zero, List.set_cons_succ] at MO
          have hM := (hb.setCell (p := ⟨w.heap.size + 1 + 1, 0, none⟩) (by simp; omega) (.slice none 0 0)).setCell (p := ⟨w.heap.size + 1 + 1, 1, none⟩) (by simp; omega) (.slice none 0 0)
          clear z0 z1 zf zl
          generalize ((w4.setCell ⟨w.heap.size + 1 + 1, 0, none⟩ (.slice none 0 0)).setCell ⟨w.heap.size + 1 + 1, 1, none⟩ (.slice none 0 0)) = we at *
          obtain ⟨z0, z1, zf, zl⟩ := MO.two
          refine bodyPost_ret (v := .tuple #[.agg #[.slice none 0 0, .slice none 0 0], .bool false]) (by simp [results, Try.results29, go_sem, z0, z1]) rfl ?_
          rw [HF.out]
          exact ⟨rfl, hM⟩
        | true =>
          have hF := HF.out
          rw [if_pos ⟨hd, rfl⟩] at hF
          clear HF
          have HF := Lib.hid hF
          have hil := HIL0.out
          have HIL := Lib.hid hil
          have HMV := Lib.hid (HMV0.out (HPL.out rfl))
          have HSFt := Lib.hid (HSF.out rfl)
          clear hF hil HIL0 hd HMV0 HPL HSF
          have hd_ : w3.drew.heap.size = w3.heap.size := rfl
          replace BV := BV.drew
          replace BS := BS.drew
          replace BT := BT.drew
          replace BO := BO.drew
          replace BA := BA.drew
          replace RA := RA.drew
          replace RB := RB.drew
          replace q1 := q1.drew
          replace q2 := q2.drew
          replace hb := hb.drew
          replace ho1 := CellIs.drew ho1
          refine wp_region_held_drew (S := fun w' => w'.cell? ⟨w.heap.size, 0, none⟩ = some (.int .i64 (P : Int)) ∧ w'.cell? ⟨w.heap.size, 1, none⟩ = some (.int .i64 c) ∧ w'.cell? ⟨w.heap.size, 2, none⟩ = some (.int .i64 h) ∧ w'.cell? ⟨w.heap.size, 3, none⟩ = some (.int .i64 s) ∧ w'.cell? ⟨wr.heap.size, 0, none⟩ = some (.int .i64 ta) ∧ w'.cell? ⟨wr.heap.size, 1, none⟩ = some (.int .i64 tb) ∧ w'.cell? ⟨wr.heap.size, 2, none⟩ = some (.int .i64 td) ∧ w'.cell? ⟨wr.heap.size, 3, none⟩ = some (.bool tq) ∧ w'.cell? ⟨w2.heap.size, 0, none⟩ = some (.int .i64 (P : Int)) ∧ w'.cell? ⟨w2.heap.size, 1, none⟩ = some (fv 67 B) ∧ w'.cell? ⟨w2.heap.size, 2, none⟩ = some (fv 68 B) ∧ w'.cell? ⟨b, oo + k, none⟩ = some (.int .i64 ox)) (by kernel_rfl) ⟨BV.four.1, BV.four.2.1, BV.four.2.2.1, BV.four.2.2.2.1, BS.four.1, BS.four.2.1, BS.four.2.2.1, BS.four.2.2.2.1, BT.tri.1, BT.tri.2.1, BT.tri.2.2.1, ho1⟩ (fun hHeld => ?_)
          clear hHeld
          generalize w3.drew = vd at *
          have hHeld : vd.cell? ⟨w.heap.size, 0, none⟩ = some (.int .i64 (P : Int)) ∧ vd.cell? ⟨w.heap.size, 1, none⟩ = some (.int .i64 c) ∧ vd.cell? ⟨w.heap.size, 2, none⟩ = some (.int .i64 h) ∧ vd.cell? ⟨w.heap.size, 3, none⟩ = some (.int .i64 s) ∧ vd.cell? ⟨wr.heap.size, 0, none⟩ = some (.int .i64 ta) ∧ vd.cell? ⟨wr.heap.size, 1, none⟩ = some (.int .i64 tb) ∧ vd.cell? ⟨wr.heap.size, 2, none⟩ = some (.int .i64 td) ∧ vd.cell? ⟨wr.heap.size, 3, none⟩ = some (.bool tq) ∧ vd.cell? ⟨w2.heap.size, 0, none⟩ = some (.int .i64 (P : Int)) ∧ vd.cell? ⟨w2.heap.size, 1, none⟩ = some (fv 67 B) ∧ vd.cell? ⟨w2.heap.size, 2, none⟩ = some (fv 68 B) ∧ vd.cell? ⟨b, oo + k, none⟩ = some (.int .i64 ox) := ⟨BV.four.1, BV.four.2.1, BV.four.2.2.1, BV.four.2.2.2.1, BS.four.1, BS.four.2.1, BS.four.2.2.1, BS.four.2.2.2.1, BT.tri.1, BT.tri.2.1, BT.tri.2.2.1, ho1⟩
          refine wpAnyH_take (i := 0) (oi := ⟨some 26, _, _, _, _, _⟩) (v := ?_) rfl (by kernel_rfl) (by kernel_rfl) (by kernel_rfl) (fun _ _ _ h => h) (Or.inl ⟨by rfl, ?_⟩) (by assumption) ?_
          rotate_left
          · intro w hSw; (try dsimp only at hSw); go_simp; (try (with_reducible rfl))
          try simp only [Act.put, List.setIfInBounds_toArray, List.set_cons_zero, List.set_cons_succ]
          refine wpAnyH_take (i := 1) (oi := ⟨some 27, _, _, _, _, _⟩) (v := ?_) rfl (by kernel_rfl) (by kernel_rfl) (by kernel_rfl) (fun _ _ _ h => h) (Or.inl ⟨by rfl, ?_⟩) (by assumption) ?_
          rotate_left
          · intro w hSw; (try dsimp only at hSw); go_simp; (try (with_reducible rfl))
          try simp only [Act.put, List.setIfInBounds_toArray, List.set_cons_zero, List.set_cons_succ]
          refine wpAnyH_take (i := 2) (oi := ⟨some 28, _, _, _, _, _⟩) (v := ?_) rfl (by kernel_rfl) (by kernel_rfl) (by kernel_rfl) (fun _ _ _ h => h) (Or.inl ⟨by rfl, ?_⟩) (by assumption) ?_
          rotate_left
          · intro w hSw; (try dsimp only at hSw); go_simp; (try (with_reducible rfl))
          try simp only [Act.put, List.setIfInBounds_toArray, List.set_cons_zero, List.set_cons_succ]
          refine wpAnyH_take (i := 3) (oi := ⟨some 29, _, _, _, _, _⟩) (v := ?_) rfl (by kernel_rfl) (by kernel_rfl) (by kernel_rfl) (fun _ _ _ h => h) (Or.inl ⟨by rfl, ?_⟩) (by assumption) ?_
          rotate_left
          · intro w hSw; (try dsimp only at hSw); go_simp; (try (with_reducible rfl))
          try simp only [Act.put, List.setIfInBounds_toArray, List.set_cons_zero, List.set_cons_succ]
          refine wpAnyH_take (i := 4) (oi := ⟨some 30, _, _, _, _, _⟩) (v := ?_) rfl (by kernel_rfl) (by kernel_rfl) (by kernel_rfl) (fun _ _ _ h => h) (Or.inl ⟨by rfl, ?_⟩) (by assumption) ?_
          rotate_left
          · intro w hSw; (try dsimp only at hSw); go_simp; (try (with_reducible rfl))
          try simp only [Act.put, List.setIfInBounds_toArray, List.set_cons_zero, List.set_cons_succ]
          refine wpAnyH_take (i := 5) (oi := ⟨some 31, _, _, _, _, _⟩) (v := ?_) rfl (by kernel_rfl) (by kernel_rfl) (by kernel_rfl) (fun _ _ _ h => h) (Or.inl ⟨by rfl, ?_⟩) (by assumption) ?_
          rotate_left
          · intro w hSw; (try dsimp only at hSw); go_simp; (try (with_reducible rfl))
          try simp only [Act.put, List.setIfInBounds_toArray, List.set_cons_zero, List.set_cons_succ]
          refine wpAnyH_take (i := 6) (oi := ⟨some 32, _, _, _, _, _⟩) (v := ?_) rfl (by kernel_rfl) (by kernel_rfl) (by kernel_rfl) (fun _ _ _ h => h) (Or.inl ⟨by rfl, ?_⟩) (by assumption) ?_
          rotate_left
          · intro w hSw; (try dsimp only at hSw); go_simp; (try (with_reducible rfl))
          try simp only [Act.put, List.setIfInBounds_toArray, List.set_cons_zero, List.set_cons_succ]
          refine wpAnyH_take (i := 7) (oi := ⟨some 33, _, _, _, _, _⟩) (v := ?_) rfl (by kernel_rfl) (by kernel_rfl) (by kernel_rfl) (fun _ _ _ h => h) (Or.inl ⟨by rfl, ?_⟩) (by assumption) ?_
          rotate_left
          · intro w hSw; (try dsimp only at hSw); go_simp; (try (with_reducible rfl))
          try simp only [Act.put, List.setIfInBounds_toArray, List.set_cons_zero, List.set_cons_succ]
          refine wpAnyH_take (i := 8) (oi := ⟨some 34, _, _, _, _, _⟩) (v := ?_) rfl (by kernel_rfl) (by kernel_rfl) (by kernel_rfl) (fun _ _ _ h => h) (Or.inl ⟨by rfl, ?_⟩) (by assumption) ?_
          rotate_left
          · intro w hSw; (try dsimp only at hSw); go_simp; (try (with_reducible rfl))
          try simp only [Act.put, List.setIfInBounds_toArray, List.set_cons_zero, List.set_cons_succ]
          refine wpAnyH_take (i := 9) (oi := ⟨some 35, _, _, _, _, _⟩) (v := ?_) rfl (by kernel_rfl) (by kernel_rfl) (by kernel_rfl) (fun _ _ _ h => h) (Or.inl ⟨by rfl, ?_⟩) (by assumption) ?_
          rotate_left
          · intro w hSw; (try dsimp only at hSw); go_simp; (try (with_reducible rfl))
          try simp only [Act.put, List.setIfInBounds_toArray, List.set_cons_zero, List.set_cons_succ]
          refine wpAnyH_take (i := 10) (oi := ⟨some 36, _, _, _, _, _⟩) (v := ?_) rfl (by kernel_rfl) (by kernel_rfl) (by kernel_rfl) (fun _ _ _ h => h) (Or.inl ⟨by rfl, ?_⟩) (by assumption) ?_
          rotate_left
          · intro w hSw; (try dsimp only at hSw); go_simp; (try (with_reducible rfl))
          try simp only [Act.put, List.setIfInBounds_toArray, List.set_cons_zero, List.set_cons_succ]
          refine wpAnyH_ready (rs := [11]) (by kernel_rfl) (by simp) ?_
          refine AllReadyH.cons (o := ⟨some 37, _, _, _, _, _⟩) rfl (fun K hK => ?_) AllReadyH.nil
          go_simp
          refine (HIL.out _ _ q1 q2).mono ?_
          rintro e w4 ⟨rfl, hb4⟩
          replace BV := BV.below hb4
          replace BO := BO.below hb4
          replace BA := BA.below hb4
          replace BS := BS.below hb4
          replace BT := BT.below hb4
          replace RA := RA.below hb4
          replace RB := RB.below hb4
          replace q1 := q1.below hb4
          replace q2 := q2.below hb4
          replace ho1 := CellIs.below ho1 hb4
          replace hb := chain hb hb4
          clear hb4
          (try go_wp2_with fail)
          refine hK.out _ _ ⟨BV.four.1, BV.four.2.1, BV.four.2.2.1, BV.four.2.2.2.1, BS.four.1, BS.four.2.1, BS.four.2.2.1, BS.four.2.2.2.1, BT.tri.1, BT.tri.2.1, BT.tri.2.2.1, ho1⟩ (fun hHeld => ?_)
          clear hK K
          try simp only [Act.put, List.setIfInBounds_toArray, List.set_cons_zero, List.set_cons_succ]
          refine wpAnyH_take (i := 12) (oi := ⟨some 38, _, _, _, _, _⟩) (v := ?_) rfl (by kernel_rfl) (by kernel_rfl) (by kernel_rfl) (fun _ _ _ h => h) (Or.inl ⟨by rfl, ?_⟩) (by assumption) ?_
          rotate_left
          · intro w hSw; (try dsimp only at hSw); go_simp; (try (with_reducible rfl))
          try simp only [Act.put, List.setIfInBounds_toArray, List.set_cons_zero, List.set_cons_succ]
          refine wpAnyH_take (i := 13) (oi := ⟨some 39, _, _, _, _, _⟩) (v := ?_) rfl (by kernel_rfl) (by kernel_rfl) (by kernel_rfl) (fun _ _ _ h => h) (Or.inl ⟨by rfl, ?_⟩) (by assumption) ?_
          rotate_left
          · intro w hSw; (try dsimp only at hSw); go_simp; (try (with_reducible rfl))
          try simp only [Act.put, List.setIfInBounds_toArray, List.set_cons_zero, List.set_cons_succ]
          refine wpAnyH_done (by kernel_rfl) ?_ _
          clear hHeld
          obtain ⟨y0, y1, yf, yl⟩ := BA.two
          obtain ⟨t0, t1, t2, tf, tl⟩ := BT.tri
          obtain ⟨s0, s1, s2, s3, sf, sl⟩ := BS.four
          go_wp2_with fail
          clear y0 y1 yf yl t0 t1 t2 tf tl s0 s1 s2 s3 sf sl
          refine (HMV.out _ _ q1 q2).mono ?_
          rintro e w5 ⟨g1, g2, rfl, hg1, hg2, R1, R2, hb5⟩
          have hz4 := hb.size
          replace BV := BV.below hb5
          replace BO := BO.below hb5
          replace BA := BA.below hb5
          replace hb := chain hb hb5
          have n1 := rowNe R1 BA (by decide)
          have n2 := rowNe R2 BA (by decide)
          clear hb5 RA RB BS BT q1 q2 ho1 HMV HIL
          obtain ⟨y0, y1, yf, yl⟩ := BA.two
          go_wp2_with fail
          go_roundg (nt - (k + 1))
          case measure => omega
          case rel => exact ⟨k + 1, _, _, g1, g2, by omega, rfl, by go_num, HF.out, HSFt.out, ⟨by omega, by omega, by omega⟩, (BV.other (by omega)).other (by omega), (BO.other (by omega)).other (by omega), (BA.set (i := 0) _).set (i := 1) _, (R1.other n1).other n1, (R2.other n2).other n2, (hb.setCell (p := ⟨w1.heap.size, 0, none⟩) (by simp; omega) _).setCell (p := ⟨w1.heap.size, 1, none⟩) (by simp; omega) _⟩
      · have f0 : (td != ox) = true := by rw [bne_iff_ne]; exact hd
        have hF := HF.out
        rw [if_neg (fun q => hd q.1)] at hF
        clear HF HMV0 HPL HSF HIL0 hd
        have HF := Lib.hid hF
        clear hF
        have hd_ : w3.drew.heap.size = w3.heap.size := rfl
        replace BV := BV.drew
        replace BS := BS.drew
        replace BT := BT.drew
        replace BO := BO.drew
        replace BA := BA.drew
        replace RA := RA.drew
        replace RB := RB.drew
        replace q1 := q1.drew
        replace q2 := q2.drew
        replace hb := hb.drew
        replace ho1 := CellIs.drew ho1
        refine wp_region_held_drew (S := fun w' => w'.cell? ⟨w.heap.size, 0, none⟩ = some (.int .i64 (P : Int)) ∧ w'.cell? ⟨w.heap.size, 1, none⟩ = some (.int .i64 c) ∧ w'.cell? ⟨w.heap.size, 2, none⟩ = some (.int .i64 h) ∧ w'.cell? ⟨w.heap.size, 3, none⟩ = some (.int .i64 s) ∧ w'.cell? ⟨wr.heap.size, 0, none⟩ = some (.int .i64 ta) ∧ w'.cell? ⟨wr.heap.size, 1, none⟩ = some (.int .i64 tb) ∧ w'.cell? ⟨wr.heap.size, 2, none⟩ = some (.int .i64 td) ∧ w'.cell? ⟨wr.heap.size, 3, none⟩ = some (.bool tq) ∧ w'.cell? ⟨w2.heap.size, 0, none⟩ = some (.int .i64 (P : Int)) ∧ w'.cell? ⟨w2.heap.size, 1, none⟩ = some (fv 67 B) ∧ w'.cell? ⟨w2.heap.size, 2, none⟩ = some (fv 68 B) ∧ w'.cell? ⟨b, oo + k, none⟩ = some (.int .i64 ox)) (by kernel_rfl) ⟨BV.four.1, BV.four.2.1, BV.four.2.2.1, BV.four.2.2.2.1, BS.four.1, BS.four.2.1, BS.four.2.2.1, BS.four.2.2.2.1, BT.tri.1, BT.tri.2.1, BT.tri.2.2.1, ho1⟩ (fun hHeld => ?_)
        clear hHeld
        generalize w3.drew = vd at *
        have hHeld : vd.cell? ⟨w.heap.size, 0, none⟩ = some (.int .i64 (P : Int)) ∧ vd.cell? ⟨w.heap.size, 1, none⟩ = some (.int .i64 c) ∧ vd.cell? ⟨w.heap.size, 2, none⟩ = some (.int .i64 h) ∧ vd.cell? ⟨w.heap.size, 3, none⟩ = some (.int .i64 s) ∧ vd.cell? ⟨wr.heap.size, 0, none⟩ = some (.int .i64 ta) ∧ vd.cell? ⟨wr.heap.size, 1, none⟩ = some (.int .i64 tb) ∧ vd.cell? ⟨wr.heap.size, 2, none⟩ = some (.int .i64 td) ∧ vd.cell? ⟨wr.heap.size, 3, none⟩ = some (.bool tq) ∧ vd.cell? ⟨w2.heap.size, 0, none⟩ = some (.int .i64 (P : Int)) ∧ vd.cell? ⟨w2.heap.size, 1, none⟩ = some (fv 67 B) ∧ vd.cell? ⟨w2.heap.size, 2, none⟩ = some (fv 68 B) ∧ vd.cell? ⟨b, oo + k, none⟩ = some (.int .i64 ox) := ⟨BV.four.1, BV.four.2.1, BV.four.2.2.1, BV.four.2.2.2.1, BS.four.1, BS.four.2.1, BS.four.2.2.1, BS.four.2.2.2.1, BT.tri.1, BT.tri.2.1, BT.tri.2.2.1, ho1⟩
        refine wpAnyH_take (i := 0) (oi := ⟨some 26, _, _, _, _, _⟩) (v := ?_) rfl (by kernel_rfl) (by kernel_rfl) (by kernel_rfl) (fun _ _ _ h => h) (Or.inl ⟨by rfl, ?_⟩) (by assumption) ?_
        rotate_left
        · intro w hSw; (try dsimp only at hSw); go_simp; (try (with_reducible rfl))
        try simp only [Act.put, List.setIfInBounds_toArray, List.set_cons_zero, List.set_cons_succ]
        refine wpAnyH_take (i := 1) (oi := ⟨some 27, _, _, _, _, _⟩) (v := ?_) rfl (by kernel_rfl) (by kernel_rfl) (by kernel_rfl) (fun _ _ _ h => h) (Or.inl ⟨by rfl, ?_⟩) (by assumption) ?_
        rotate_left
        · intro w hSw; (try dsimp only at hSw); go_simp; (try (with_reducible rfl))
        try simp only [Act.put, List.setIfInBounds_toArray, List.set_cons_zero, List.set_cons_succ]
        refine wpAnyH_take (i := 2) (oi := ⟨some 28, _, _, _, _, _⟩) (v := ?_) rfl (by kernel_rfl) (by kernel_rfl) (by kernel_rfl) (fun _ _ _ h => h) (Or.inl ⟨by rfl, ?_⟩) (by assumption) ?_
        rotate_left
        · intro w hSw; (try dsimp only at hSw); go_simp; (try (with_reducible rfl))
        try simp only [Act.put, List.setIfInBounds_toArray, List.set_cons_zero, List.set_cons_succ]
        refine wpAnyH_take (i := 3) (oi := ⟨some 29, _, _, _, _, _⟩) (v := ?_) rfl (by kernel_rfl) (by kernel_rfl) (by kernel_rfl) (fun _ _ _ h => h) (Or.inl ⟨by rfl, ?_⟩) (by assumption) ?_
        rotate_left
        · intro w hSw; (try dsimp only at hSw); go_simp; (try (with_reducible rfl))
        try simp only [Act.put, List.setIfInBounds_toArray, List.set_cons_zero, List.set_cons_succ]
        refine wpAnyH_take (i := 4) (oi := ⟨some 30, _, _, _, _, _⟩) (v := ?_) rfl (by kernel_rfl) (by kernel_rfl) (by kernel_rfl) (fun _ _ _ h => h) (Or.inl ⟨by rfl, ?_⟩) (by assumption) ?_
        rotate_left
        · intro w hSw; (try dsimp only at hSw); go_simp; (try (with_reducible rfl))
        try simp only [Act.put, List.setIfInBounds_toArray, List.set_cons_zero, List.set_cons_succ]
        refine wpAnyH_take (i := 5) (oi := ⟨some 31, _, _, _, _, _⟩) (v := ?_) rfl (by kernel_rfl) (by kernel_rfl) (by kernel_rfl) (fun _ _ _ h => h) (Or.inl ⟨by rfl, ?_⟩) (by assumption) ?_
        rotate_left
        · intro w hSw; (try dsimp only at hSw); go_simp; (try (with_reducible rfl))
        try simp only [Act.put, List.setIfInBounds_toArray, List.set_cons_zero, List.set_cons_succ]
        refine wpAnyH_take (i := 6) (oi := ⟨some 32, _, _, _, _, _⟩) (v := ?_) rfl (by kernel_rfl) (by kernel_rfl) (by kernel_rfl) (fun _ _ _ h => h) (Or.inl ⟨by rfl, ?_⟩) (by assumption) ?_
        rotate_left
        · intro w hSw; (try dsimp only at hSw); go_simp; (try (with_reducible rfl))
        try simp only [Act.put, List.setIfInBounds_toArray, List.set_cons_zero, List.set_cons_succ]
        refine wpAnyH_take (i := 7) (oi := ⟨some 33, _, _, _, _, _⟩) (v := ?_) rfl (by kernel_rfl) (by kernel_rfl) (by kernel_rfl) (fun _ _ _ h => h) (Or.inl ⟨by rfl, ?_⟩) (by assumption) ?_
        rotate_left
        · intro w hSw; (try dsimp only at hSw); go_simp; (try (with_reducible rfl))
        try simp only [Act.put, List.setIfInBounds_toArray, List.set_cons_zero, List.set_cons_succ]
        refine wpAnyH_take (i := 8) (oi := ⟨some 34, _, _, _, _, _⟩) (v := undef) rfl (by kernel_rfl) (by kernel_rfl) (by kernel_rfl) (fun _ _ _ h => h) (Or.inr ⟨by rfl, rfl⟩) (by assumption) ?_
        try simp only [Act.put, List.setIfInBounds_toArray, List.set_cons_zero, List.set_cons_succ]
        refine wpAnyH_take (i := 9) (oi := ⟨some 35, _, _, _, _, _⟩) (v := undef) rfl (by kernel_rfl) (by kernel_rfl) (by kernel_rfl) (fun _ _ _ h => h) (Or.inr ⟨by rfl, rfl⟩) (by assumption) ?_
        try simp only [Act.put, List.setIfInBounds_toArray, List.set_cons_zero, List.set_cons_succ]
        refine wpAnyH_take (i := 10) (oi := ⟨some 36, _, _, _, _, _⟩) (v := undef) rfl (by kernel_rfl) (by kernel_rfl) (by kernel_rfl) (fun _ _ _ h => h) (Or.inr ⟨by rfl, rfl⟩) (by assumption) ?_
        try simp only [Act.put, List.setIfInBounds_toArray, List.set_cons_zero, List.set_cons_succ]
        refine wpAnyH_take (i := 11) (oi := ⟨some 37, _, _, _, _, _⟩) (v := undef) rfl (by kernel_rfl) (by kernel_rfl) (by kernel_rfl) (fun _ _ _ h => h) (Or.inr ⟨by rfl, rfl⟩) (by assumption) ?_
        try simp only [Act.put, List.setIfInBounds_toArray, List.set_cons_zero, List.set_cons_succ]
        refine wpAnyH_take (i := 12) (oi := ⟨some 38, _, _, _, _, _⟩) (v := undef) rfl (by kernel_rfl) (by kernel_rfl) (by kernel_rfl) (fun _ _ _ h => h) (Or.inr ⟨by rfl, rfl⟩) (by assumption) ?_
        try simp only [Act.put, List.setIfInBounds_toArray, List.set_cons_zero, List.set_cons_succ]
        refine wpAnyH_take (i := 13) (oi := ⟨some 39, _, _, _, _, _⟩) (v := ?_) rfl (by kernel_rfl) (by kernel_rfl) (by kernel_rfl) (fun _ _ _ h => h) (Or.inl ⟨by rfl, ?_⟩) (by assumption) ?_
        rotate_left
        · intro w hSw; (try dsimp only at hSw); go_simp; (try (with_reducible rfl))
        try simp only [Act.put, List.setIfInBounds_toArray, List.set_cons_zero, List.set_cons_succ]
        refine wpAnyH_done (by kernel_rfl) ?_ _
        clear hHeld
        obtain ⟨z0, z1, zf, zl⟩ := BO.two
        go_wp2_with fail
        have MO := (BO.set (i := 0) (.slice none 0 0)).set (i := 1) (.slice none 0 0)
        simp only [List.setIfInBounds_toArray, List.set_cons_zero, List.set_cons_succ] at MO
        have hM := (hb.setCell (p := ⟨w.heap.size + 1 + 1, 0, none⟩) (by simp; omega) (.slice none 0 0)).setCell (p := ⟨w.heap.size + 1 + 1, 1, none⟩) (by simp; omega) (.slice none 0 0)
        clear z0 z1 zf zl
        generalize ((vd.setCell ⟨w.heap.size + 1 + 1, 0, none⟩ (.slice none 0 0)).setCell ⟨w.heap.size + 1 + 1, 1, none⟩ (.slice none 0 0)) = we at *
        obtain ⟨z0, z1, zf, zl⟩ := MO.two
        refine bodyPost_ret (v := .tuple #[.agg #[.slice none 0 0, .slice none 0 0], .bool false]) (by simp [results, Try.results29, go_sem, z0, z1]) rfl ?_
        rw [HF.out]
        exact ⟨rfl, hM⟩
    · obtain rfl : k = nt := by omega
      have hlt' : ¬ ((k : Nat) : Int) < (k : Int) := by omega
      have hF2 : R = some (bx, bz) := by
        rw [hF, List.drop_eq_nil_of_le (show ts.length ≤ k by have := HTS.out; omega)]
        cases os.drop k <;> rfl
      have HF := Lib.hid hF2
      have n1 := rowNe RA BO (by decide)
      have n2 := rowNe RB BO (by decide)
      clear hF hF2 hgi
      obtain ⟨y0, y1, yf, yl⟩ := BA.two
      obtain ⟨z0, z1, zf, zl⟩ := BO.two
      go_wp2_with fail
      have MO := (BO.set (i := 0) (.slice (some ⟨ga, 0, none⟩) bx.length bx.length)).set (i := 1) (.slice (some ⟨gb, 0, none⟩) bz.length bz.length)
      simp only [List.setIfInBounds_toArray, List.set_cons_zero, List.set_cons_succ] at MO
      have hM := (hb.setCell (p := ⟨w.heap.size + 1 + 1, 0, none⟩) (by simp; omega) (.slice (some ⟨ga, 0, none⟩) bx.length bx.length)).setCell (p := ⟨w.heap.size + 1 + 1, 1, none⟩) (by simp; omega) (.slice (some ⟨gb, 0, none⟩) bz.length bz.length)
      have M1 := (RA.other (g := w.heap.size + 1 + 1) (o := 0) (v := .slice (some ⟨ga, 0, none⟩) bx.length bx.length) n1).other (g := w.heap.size + 1 + 1) (o := 1) (v := .slice (some ⟨gb, 0, none⟩) bz.length bz.length) n1
      have M2 := (RB.other (g := w.heap.size + 1 + 1) (o := 0) (v := .slice (some ⟨ga, 0, none⟩) bx.length bx.length) n2).other (g := w.heap.size + 1 + 1) (o := 1) (v := .slice (some ⟨gb, 0, none⟩) bz.length bz.length) n2
      clear y0 y1 yf yl z0 z1 zf zl BO BA BV RA RB hb
      generalize ((wr.setCell ⟨w.heap.size + 1 + 1, 0, none⟩ (.slice (some ⟨ga, 0, none⟩) bx.length bx.length)).setCell ⟨w.heap.size + 1 + 1, 1, none⟩ (.slice (some ⟨gb, 0, none⟩) bz.length bz.length)) = we at *
      obtain ⟨z0, z1, zf, zl⟩ := MO.two
      refine bodyPost_ret (v := .tuple #[.agg #[.slice (some ⟨ga, 0, none⟩) bx.length bx.length, .slice (some ⟨gb, 0, none⟩) bz.length bz.length], .bool true]) (by simp [results, Try.results29, go_sem, z0, z1]) rfl ?_
      rw [HF.out]
      exact ⟨ga, gb, rfl, hga, hgb, hne, M1, M2, hM⟩
end Go.Proofs.Ytodlofabffenoaa
