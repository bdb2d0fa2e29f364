/- Texts of a proof, laid together. -/
import Derived.Test.YtnlclmlnpkncoaaGreatW24
import Derived.Deep.LoopGhost
import Derived.Test.YtnlclmlnpkncoaaGreatW11
import Derived.Test.YtnlclmlnpkncoaaGreatW05
namespace Go.Proofs.YtnlclmlnpkncoaaGreat
open Go.ChangeShapes Go.WideShapes Go.ChangeAt Go.RowKit
set_option linter.unusedVariables false
set_option linter.unusedSimpArgs false
set_option maxRecDepth 4000
theorem bstA_none {T : Int} {f : List Int → Option Int} {L : List (List Int)} {j : Nat} (h : bstA T f L j = none) : ∀ k, j ≤ k → bstA T f L k = none
  | 0, hk => by
    obtain rfl : j = 0 := by omega
    exact h
  | k + 1, hk => by
    by_cases e : j = k + 1
    · rw [← e]; exact h
    · rw [bstA, bstA_none h k (by omega)]
def BGot (t : Tb) (b : Option (Nat × Int)) (L : List (List Int)) (w : World) (e : Ending) (w' : World) : Prop := ∃ (f : Int) (y cd : Int), e = .returned (.tuple #[.int .i64 f, .agg #[.int .i64 y, .int .i64 cd]]) ∧ TabI t w' ∧ GA t w w' ∧
  PV t.S (b.map fun q => q.2) y cd ∧ ∀ q, b = some q → f = (nm t.c (L.getD q.1 []) : Int) ∧ q.1 < L.length
set_option maxRecDepth 8000 in
set_option maxHeartbeats 2000000 in
theorem best_any (t : Tb) (hS : 1 ≤ t.S ∧ t.S ≤ 6) (n : Int) (IH : WinOk t n) (L : List (List Int)) (N : Nat) (ys : List Int) (Y gl k : Nat) (w : World) (hI : TabI t w) (hN : L.length = N) (h0 : 0 < N) (hle : N ≤ 1048576) (hL : ∀ z ∈ L, t.In z ∧ pwT ys + pwT z < n) (hy : t.In ys) (eY : nm t.c ys = Y) (hR : Row w gl (L.map fun z => (nm t.c z : Int))) :
    Calls Tryz.prog 26 #[.pointer (some ⟨t.g, 0, none⟩), .slice (some ⟨gl, 0, none⟩) N k, .int .i64 Y] w (BGot t (bst (tp t.S) (wc t.S ys) L) L w) := by
  have htp := tp_in hS
  have hin : ∀ z ∈ L, ∀ x, wc t.S ys z = some x → 0 ≤ x ∧ x ≤ tp t.S := fun z hz x h => by
    obtain ⟨a1, a2, a3, -⟩ := hy.1.po
    exact wc_in hS a2 a3 a1 (hL z hz).1.1.po.1 h
  have HN := Lib.hid hN
  have HL := Lib.hid hL
  have HIN := Lib.hid hin
  have HY := Lib.hid hy
  have HEY := Lib.hid eY
  have n0 : (N : Int) ≤ 1048576 := by omega
  obtain ⟨z7, hz7e⟩ : ∃ z, w.heap.size = z := ⟨_, rfl⟩
  obtain ⟨z9, hz9e⟩ : ∃ z, w.heap.size + 1 = z := ⟨_, rfl⟩
  obtain ⟨BZ, BG, hal, hz⟩ := two_new w #[.int .i64 0, .int .i64 0] #[.int .i64 (-1), .int .i64 0] 67 67
  have aZ := (Aw.fresh hI.ch (Nat.le_refl w.heap.size)).below hal
  have aG : Aw t _ (w.heap.size + 1) := (Aw.fresh hI.ch (Nat.le_succ w.heap.size)).below hal
  have HT1 := Lib.hid hI.tab
  have HR := Lib.hid hR
  replace hI := hI.below hal
  have hg : GA t w ((w.alloc (.cells #[.int .i64 0, .int .i64 0] 67)).alloc (.cells #[.int .i64 (-1), .int .i64 0] 67)) := GA.of hal
  have hzs : w.heap.size + 1 < ((w.alloc (.cells #[.int .i64 0, .int .i64 0] 67)).alloc (.cells #[.int .i64 (-1), .int .i64 0] 67)).heap.size := by rw [hz]; omega
  have hz7 : w.heap.size ≤ z7 := by omega
  have hz9 : w.heap.size ≤ z9 := by omega
  have hz79 : z7 < z9 := by omega
  clear hal hz hL hin hy eY hN
  go_enter Tryz.func26, Tryz.ntmps26
  go_wp2_with fail
  rw [hz7e] at BZ aZ
  rw [hz9e] at BG aG hzs
  (try rw [hz7e])
  (try rw [hz9e])
  (try rw [show z7 + 1 = z9 by omega])
  generalize ((w.alloc (.cells #[.int .i64 0, .int .i64 0] 67)).alloc (.cells #[.int .i64 (-1), .int .i64 0] 67)) = w1 at *
  clear hz7e hz9e
  clear hR
  go_loopg [8, 16] N (fun m fv i wr => ∃ (W : World) (j : Nat) (q : Nat × Int) (f : Int), W = wr ∧ j ≤ N ∧ m = N - j ∧ i = .int .i64 j ∧ fv = .int .i64 f ∧ bstA (tp t.S) (wc t.S ys) L j = some q ∧ (0 < j → f = (nm t.c (L.getD q.1 []) : Int) ∧ q.1 < j) ∧ (-1 ≤ q.2 ∧ q.2 ≤ tp t.S ∧ (j = 0 → q.2 = -1) ∧ (0 < j → 0 ≤ q.2)) ∧ TabI t W ∧ GA t w W ∧ Blk W z7 #[.int .i64 0, .int .i64 0] 67 ∧ Blk W z9 #[.int .i64 q.2, .int .i64 0] 67 ∧ Aw t W z7 ∧ Aw t W z9 ∧ z9 < W.heap.size)
  case atStart => exact ⟨w1, 0, (0, -1), 0, rfl, by omega, by omega, by go_num, rfl, rfl, fun h => absurd h (by omega), ⟨by dsimp only; omega, by dsimp only; omega, fun _ => rfl, fun h => by omega⟩, hI, hg, BZ, BG, aZ, aG, hzs⟩
  case round =>
    clear hI BZ BG aZ aG hg
    obtain ⟨wr, j, ⟨qi, qv⟩, f, hWW, hj, hm, rfl, rfl, hq, hf, hqb, hI, hg, BZ, BG, aZ, aG, hsz⟩ := hrel
    subst hWW
    dsimp only at hf hqb BG
    have HQ := Lib.hid hq
    have HF := Lib.hid hf
    have HQB := Lib.hid hqb
    clear hq hf hqb
    by_cases hlt : j < N
    · have hlt' : (j : Int) < (N : Int) := by omega
      have j0 : (0 : Int) ≤ (j : Int) := by omega
      obtain ⟨zs, hzs2⟩ : ∃ z, L[j]? = some z := ⟨_, List.getElem?_eq_getElem (by rw [HN.out]; exact hlt)⟩
      have hzm := HL.out _ (List.mem_of_getElem? hzs2)
      have hin := HIN.out _ (List.mem_of_getElem? hzs2)
      have hgd : L.getD j [] = zs := by rw [List.getD_eq_getElem?_getD, hzs2]; rfl
      have hRw := HR.out.gr HT1.out hg.gr
      have c0 := hRw.cell j (by rw [List.length_map, HN.out]; exact hlt)
      have e0 : (L.map fun z => (nm t.c z : Int)).getD j 0 = (nm t.c zs : Int) := by
        rw [List.getD_eq_getElem?_getD, List.getElem?_map, hzs2]
        rfl
      rw [e0] at c0
      have hst : bstA (tp t.S) (wc t.S ys) L (j + 1) = match wc t.S ys zs with | none => none | some x => if qv < tp t.S - x then some (j, tp t.S - x) else some (qi, qv) := by
        rw [bstA, HQ.out]
        dsimp only
        rw [hgd]
        cases wc t.S ys zs <;> rfl
      have HST := Lib.hid hst
      obtain ⟨Z, hZ⟩ : ∃ Z, nm t.c zs = Z := ⟨_, rfl⟩
      rw [hZ] at c0
      have hA := Lib.hid (after_any t hS n IH zs ys Z Y wr hI hzm.1 HY.out hZ HEY.out hzm.2)
      have HGD := Lib.hid hgd
      have HZ := Lib.hid hZ
      have HIN2 := Lib.hid hin
      clear hzs2 hzm hRw e0 hst hgd hZ hin
      go_wp2_with fail
      refine (hA.out).mono ?_
      rintro e w3 ⟨y, cd, rfl, hp, hI3, hga⟩
      have hs3 := hga.gr.size
      replace BZ := hI.blk hga BZ
      replace BG := hI.blk hga BG
      replace aZ := hga.aw _ (by omega) aZ
      replace aG := hga.aw _ (by omega) aG
      replace hg := hg.trans hga
      clear hI hga c0
      have hal : Below w3.heap.size w3 (w3.alloc (.cells #[.int .i64 y, .int .i64 cd] 67)) := (Below.refl _ _).alloc (Nat.le_refl _) _
      have BX := Blk.new w3 #[.int .i64 y, .int .i64 cd] 67
      replace BZ := BZ.below hal
      replace BG := BG.below hal
      replace aZ := aZ.below hal
      replace aG := aG.below hal
      have hI := hI3.below hal
      replace hg := hg.then hal
      have hs4 := hal.size
      obtain ⟨z12, hz12⟩ : ∃ z, w3.heap.size = z := ⟨_, rfl⟩
      rw [hz12] at BX
      have hb := hp.in (fun x hx => by
        rw [Option.map_eq_some_iff] at hx
        obtain ⟨a, ha, rfl⟩ := hx
        have := HIN2.out a ha
        omega)
      obtain ⟨x0, x1, xf, xl⟩ := BX.two
      obtain ⟨g0, g1, gf, gll⟩ := BG.two
      clear hI3 hal
      by_cases hcd : cd = 0
      · have f0 : (cd != 0) = false := by rw [hcd]; rfl
        have hv : ∃ x, wc t.S ys zs = some x ∧ y = tp t.S - x := by
          cases hw : wc t.S ys zs with
          | none => rw [hw] at hp; unfold PV at hp; dsimp only [Option.map] at hp; omega
          | some x => rw [hw] at hp; unfold PV at hp; dsimp only [Option.map] at hp; exact ⟨x, rfl, hp.1⟩
        obtain ⟨x, hx, hyx⟩ := hv
        have hst := HST.out
        rw [hx] at hst
        dsimp only at hst
        rw [← hyx] at hst
        subst hcd
        by_cases hgt : qv < y
        · rw [if_pos hgt] at hst
          have HS2 := Lib.hid hst
          clear hp hx hyx hst
          go_wp2_with fail
          (try rw [hz12])
          generalize (w3.alloc (.cells #[.int .i64 y, .int .i64 0] 67)) = w4 at *
          clear x0 x1 xf xl g0 g1 gf gll
          replace hI := hI.drew
          replace hg := hg.drew
          replace BZ := BZ.drew
          replace BX := BX.drew
          replace BG := BG.drew
          replace aZ := aZ.drew
          replace aG := aG.drew
          refine wp_region_held_drew (S := fun w' => w'.cell? ⟨z12, 0, none⟩ = some (.int .i64 y) ∧ w'.cell? ⟨z12, 1, none⟩ = some (.int .i64 0)) (by kernel_rfl) ⟨BX.two.1, BX.two.2.1⟩ (fun hHeld => ?_)
          clear hHeld
          have hz_vd : w4.drew.heap.size = w4.heap.size := rfl
          generalize w4.drew = vd at *
          have hHeld : vd.cell? ⟨z12, 0, none⟩ = some (.int .i64 y) ∧ vd.cell? ⟨z12, 1, none⟩ = some (.int .i64 0) := ⟨BX.two.1, BX.two.2.1⟩
          refine tk 0 33 ?_
          refine tk 1 34 ?_
          refine tk 2 8 ?_
          refine rdn 3 fun K hK => ?_
          have z0 := BG.two.1
          have z1 := BG.two.2.1
          have zf := BG.two.2.2.1
          have zl := BG.two.2.2.2
          have HI3 := Lib.hid ((hI.away (o := 0) (u := .int .i64 y) aG BG).away (o := 1) (u := .int .i64 0) (aG.away BG) (BG.set (i := 0) (.int .i64 y)))
          have HG3 := Lib.hid ((hg.away (o := 0) (u := .int .i64 y) hz9 BG).away (o := 1) (u := .int .i64 0) hz9 (BG.set (i := 0) (.int .i64 y)))
          have BGn := (BG.set (i := 0) (.int .i64 y)).set (i := 1) (.int .i64 0)
          simp only [List.setIfInBounds_toArray, List.set_cons_zero, List.set_cons_succ] at BGn
          have HBG := Lib.hid BGn
          have HBZ := Lib.hid ((BZ.other (g := z9) (o := 0) (v := .int .i64 y) (by omega)).other (g := z9) (o := 1) (v := .int .i64 0) (by omega))
          have HAZ := Lib.hid ((aZ.away (o := 0) (u := .int .i64 y) BG).away (o := 1) (u := .int .i64 0) (BG.set (i := 0) (.int .i64 y)))
          have HAG := Lib.hid ((aG.away (o := 0) (u := .int .i64 y) BG).away (o := 1) (u := .int .i64 0) (BG.set (i := 0) (.int .i64 y)))
          clear BGn
          go_simp
          (try go_wp2_with fail)
          refine hko hK (Blk.l2 ((BX.other (by omega)).other (by omega))) fun hHeld => ?_
          clear hK K
          refine wpAnyH_done (by kernel_rfl) ?_ _
          clear hHeld
          go_wp2
          go_roundg (N - (j + 1))
          case measure => omega
          case rel => exact ⟨_, j + 1, (j, y), (Z : Int), rfl, by omega, rfl, by go_num, rfl, HS2.out, fun _ => ⟨by dsimp only; rw [HGD.out, HZ.out], by dsimp only; omega⟩, ⟨by dsimp only; omega, by dsimp only; omega, fun h => by omega, fun _ => by dsimp only; omega⟩, HI3.out, HG3.out, HBZ.out, HBG.out, HAZ.out, HAG.out, by simp; omega⟩
        · rw [if_neg hgt] at hst
          have HS2 := Lib.hid hst
          have hj0 : 0 < j := by
            rcases Nat.eq_zero_or_pos j with h | h
            · have := HQB.out.2.2.1 h
              omega
            · exact h
          clear hp hx hyx hst
          go_wp2_with fail
          (try rw [hz12])
          generalize (w3.alloc (.cells #[.int .i64 y, .int .i64 0] 67)) = w4 at *
          clear x0 x1 xf xl g0 g1 gf gll
          go_wp2
          go_roundg (N - (j + 1))
          case measure => omega
          case rel => exact ⟨_, j + 1, (qi, qv), f, rfl, by omega, rfl, by go_num, rfl, HS2.out, fun _ => ⟨(HF.out hj0).1, by have := (HF.out hj0).2; dsimp only; omega⟩, ⟨HQB.out.1, HQB.out.2.1, fun h => by omega, fun _ => HQB.out.2.2.2 hj0⟩, hI, hg, BZ, BG, aZ, aG, by omega⟩
      · have f0 : (cd != 0) = true := by rw [bne_iff_ne]; exact hcd
        have hv : wc t.S ys zs = none := by
          cases hw : wc t.S ys zs with
          | none => rfl
          | some x => rw [hw] at hp; unfold PV at hp; dsimp only [Option.map] at hp; exact absurd hp.2 hcd
        have hst := HST.out
        rw [hv] at hst
        have hnone : bst (tp t.S) (wc t.S ys) L = none := bstA_none hst _ (by rw [HN.out]; omega)
        have hpv : PV t.S none y cd := by rw [hv] at hp; exact hp
        have HNO := Lib.hid hnone
        have HPV := Lib.hid hpv
        clear hp hv hst hnone hpv hcd
        go_wp2_with fail
        (try rw [hz12])
        generalize (w3.alloc (.cells #[.int .i64 y, .int .i64 cd] 67)) = w4 at *
        clear x0 x1 xf xl g0 g1 gf gll
        replace hI := hI.drew
        replace hg := hg.drew
        replace BZ := BZ.drew
        replace BX := BX.drew
        replace aZ := aZ.drew
        refine wp_region_held_drew (S := fun w' => w'.cell? ⟨z12, 0, none⟩ = some (.int .i64 y) ∧ w'.cell? ⟨z12, 1, none⟩ = some (.int .i64 cd)) (by kernel_rfl) ⟨BX.two.1, BX.two.2.1⟩ (fun hHeld => ?_)
        clear hHeld
        have hz_vd : w4.drew.heap.size = w4.heap.size := rfl
        generalize w4.drew = vd at *
        have hHeld : vd.cell? ⟨z12, 0, none⟩ = some (.int .i64 y) ∧ vd.cell? ⟨z12, 1, none⟩ = some (.int .i64 cd) := ⟨BX.two.1, BX.two.2.1⟩
        refine tk 0 27 ?_
        refine tk 1 6 ?_
        refine rdn 2 fun K hK => ?_
        have z0 := BZ.two.1
        have z1 := BZ.two.2.1
        have zf := BZ.two.2.2.1
        have zl := BZ.two.2.2.2
        have HI3 := Lib.hid ((hI.away (o := 0) (u := .int .i64 y) aZ BZ).away (o := 1) (u := .int .i64 cd) (aZ.away BZ) (BZ.set (i := 0) (.int .i64 y)))
        have HG3 := Lib.hid ((hg.away (o := 0) (u := .int .i64 y) hz7 BZ).away (o := 1) (u := .int .i64 cd) hz7 (BZ.set (i := 0) (.int .i64 y)))
        have BZn := (BZ.set (i := 0) (.int .i64 y)).set (i := 1) (.int .i64 cd)
        simp only [List.setIfInBounds_toArray, List.set_cons_zero, List.set_cons_succ] at BZn
        have HBZ := Lib.hid BZn
        clear BZn
        go_simp
        (try go_wp2_with fail)
        refine hko hK (Blk.l2 ((BX.other (by omega)).other (by omega))) fun hHeld => ?_
        clear hK K
        refine wpAnyH_done (by kernel_rfl) ?_ _
        clear hHeld
        go_wp2_with fail
        obtain ⟨t0, t1, tf, tl⟩ := HBZ.out.two
        refine bodyPost_ret (v := .tuple #[.int .i64 0, .agg #[.int .i64 y, .int .i64 cd]]) (by simp [results, Tryz.results26, go_sem, t0, t1]) rfl ?_
        rw [HNO.out]
        exact ⟨0, y, cd, rfl, HI3.out, HG3.out, HPV.out, fun q h => by cases h⟩
    · obtain rfl : j = N := by omega
      have hfin : bst (tp t.S) (wc t.S ys) L = some (qi, qv) := by
        have := HQ.out
        rw [← HN.out] at this
        exact this
      have HFI := Lib.hid hfin
      clear hfin
      obtain ⟨g0, g1, gf, gll⟩ := BG.two
      obtain ⟨x0, x1, xf, xl⟩ := BZ.two
      go_wp2_with fail
      clear g0 g1 gf gll x0 x1 xf xl
      replace hI := hI.drew
      replace hg := hg.drew
      replace BZ := BZ.drew
      replace BG := BG.drew
      replace aZ := aZ.drew
      refine wp_region_held_drew (S := fun w' => w'.cell? ⟨z9, 0, none⟩ = some (.int .i64 qv) ∧ w'.cell? ⟨z9, 1, none⟩ = some (.int .i64 0)) (by kernel_rfl) ⟨BG.two.1, BG.two.2.1⟩ (fun hHeld => ?_)
      clear hHeld
      have hz_vd : wr.drew.heap.size = wr.heap.size := rfl
      generalize wr.drew = vd at *
      have hHeld : vd.cell? ⟨z9, 0, none⟩ = some (.int .i64 qv) ∧ vd.cell? ⟨z9, 1, none⟩ = some (.int .i64 0) := ⟨BG.two.1, BG.two.2.1⟩
      refine tk 0 36 ?_
      refine tk 1 37 ?_
      refine tk 2 6 ?_
      refine rdn 3 fun K hK => ?_
      have z0 := BZ.two.1
      have z1 := BZ.two.2.1
      have zf := BZ.two.2.2.1
      have zl := BZ.two.2.2.2
      have HI3 := Lib.hid ((hI.away (o := 0) (u := .int .i64 qv) aZ BZ).away (o := 1) (u := .int .i64 0) (aZ.away BZ) (BZ.set (i := 0) (.int .i64 qv)))
      have HG3 := Lib.hid ((hg.away (o := 0) (u := .int .i64 qv) hz7 BZ).away (o := 1) (u := .int .i64 0) hz7 (BZ.set (i := 0) (.int .i64 qv)))
      have BZn := (BZ.set (i := 0) (.int .i64 qv)).set (i := 1) (.int .i64 0)
      simp only [List.setIfInBounds_toArray, List.set_cons_zero, List.set_cons_succ] at BZn
      have HBZ := Lib.hid BZn
      clear BZn
      go_simp
      (try go_wp2_with fail)
      refine hko hK (Blk.l2 ((BG.other (by omega)).other (by omega))) fun hHeld => ?_
      clear hK K
      refine wpAnyH_done (by kernel_rfl) ?_ _
      clear hHeld
      go_wp2_with fail
      obtain ⟨t0, t1, tf, tl⟩ := HBZ.out.two
      refine bodyPost_ret (v := .tuple #[.int .i64 f, .agg #[.int .i64 qv, .int .i64 0]]) (by simp [results, Tryz.results26, go_sem, t0, t1]) rfl ?_
      rw [HFI.out]
      exact ⟨f, qv, 0, rfl, HI3.out, HG3.out, ⟨rfl, rfl⟩, fun q h => by
        injection h with h
        subst h
        exact ⟨(HF.out h0).1, by rw [HN.out]; exact (HF.out h0).2⟩⟩
theorem blA_none {T : Int} {f : List Int → Option Int} {own : List Int} {R : List Rl} {j : Nat} (h : blA T f own R j = none) : ∀ k, j ≤ k → blA T f own R k = none
  | 0, hk => by
    obtain rfl : j = 0 := by omega
    exact h
  | k + 1, hk => by
    by_cases e : j = k + 1
    · rw [← e]; exact h
    · rw [blA, blA_none h k (by omega)]
set_option maxRecDepth 8000 in
set_option maxHeartbeats 2000000 in
theorem mean_any (t : Tb) (hS : 1 ≤ t.S ∧ t.S ≤ 6) (few : fewB t.c t.h = true) (xs ys : List Int) (X Y : Nat) (IH : WinOk t (pwT xs + pwT ys)) (w : World) (hI : TabI t w) (hx : t.In xs) (hy : t.In ys) (eX : nm t.c xs = X) (eY : nm t.c ys = Y) (hne : xs.sum ≠ 0) :
    Calls Tryz.prog 74 #[.pointer (some ⟨t.g, 0, none⟩), .int .i64 X, .int .i64 Y] w (PGot t (mnP t.S (blA (tp t.S) (wc t.S ys) xs (rollsTo t.S) (rollsTo t.S).length)) w) := by
  have htp := tp_in hS
  have hB := base_range hS
  have hlen2 := rollsTo_len2 t.S
  have hlen3 := rollsTo_length t.S
  have hpos : 0 < (rollsTo t.S).length := by
    have := Nat.mul_pos hS.1 (show 0 < t.S + 1 by omega)
    omega
  have hsq : t.S * t.S ≤ 6 * 6 := Nat.mul_le_mul hS.2 hS.2
  obtain ⟨gr, har, hRR⟩ : ∃ gr, t.ar = some ⟨gr, 0, none⟩ ∧ RRow w gr (rollsTo t.S) := by
    rcases hI.st.2.2.2 with ⟨_, q⟩ | q
    · rw [q] at hpos
      simp at hpos
    · exact q
  have hwc := fun z (hz : Ps t.p t.c t.h (t.S : Int) z) x (h : wc t.S ys z = some x) => by
    obtain ⟨a1, a2, a3, -⟩ := hy.1.po
    exact wc_in hS a2 a3 a1 hz.po.1 h
  have hres : ∀ r ∈ rollsTo t.S, 0 < (resI xs (ordersP r.1 r.2)).length ∧ (resI xs (ordersP r.1 r.2)).length ≤ 1048576 ∧ ∀ z ∈ resI xs (ordersP r.1 r.2), t.In z ∧ pwT ys + pwT z < pwT xs + pwT ys := fun r hr => by
    obtain ⟨r1, r2, r3⟩ := rolls_in hS hr
    obtain ⟨a1, a2, a3, -⟩ := hx.1.po
    refine ⟨resI_ne a2 a3 a1 r1 r2 r3, by have := resI_len a2 a3 a1 r1 r2 r3; omega, fun z hz => ?_⟩
    obtain ⟨b1, b2, b3, b4⟩ := hx.1.res r1 r2 r3 z hz
    exact ⟨⟨b1, by have := hx.2; omega⟩, by have := b4 hne; omega⟩
  have hbl : ∀ (j : Nat) (L : List Int), j ≤ (rollsTo t.S).length → blA (tp t.S) (wc t.S ys) xs (rollsTo t.S) j = some L → (∀ P ∈ L, 0 ≤ P ∧ P ≤ tp t.S) ∧ 0 ≤ wsum ((rollsTo t.S).zip L) ∧ wsum ((rollsTo t.S).zip L) ≤ 36000000000000000 := fun j L hj h => by
    haveI inst : ∀ z, Decidable (Ps t.p t.c t.h (t.S : Int) z) := fun z => Classical.propDecidable _
    have hc : blA (tp t.S) (wc t.S ys) xs (rollsTo t.S) j = blA (tp t.S) (fun z => if Ps t.p t.c t.h (t.S : Int) z then wc t.S ys z else none) xs (rollsTo t.S) j := bl_congr (fun r hr z hz => by rw [if_pos ((hres r hr).2.2 z hz).1.1]) j hj
    rw [hc] at h
    have hb := blA_in (fun z y hy => by
      split at hy
      · rename_i hz
        exact hwc z hz y hy
      · cases hy) (fun r hr => (hres r hr).1) hj h
    have := mnP_in hS hb
    have hm := Int.mul_le_mul htp.2 (show ((t.S * t.S : Nat) : Int) ≤ 36 by omega) (by omega) (by omega)
    exact ⟨hb, by omega, by omega⟩
  have hro := Lib.hid (fun W (h : TabI t W) => resultsOf_any t xs X W h hx hS few eX)
  obtain ⟨RL, hRL⟩ : ∃ RL, rollsTo t.S = RL := ⟨_, rfl⟩
  obtain ⟨n, hn⟩ : ∃ n, RL.length = n := ⟨_, rfl⟩
  have HBT := Lib.hid (show ∀ W, Blk W t.g t.cells 71 → Blk W t.g #[.int .i64 t.p, .int .i64 t.c, .int .i64 t.h, .int .i64 (t.S : Int), .pointer (some ⟨t.gw, 0, none⟩), .map (some t.b), .slice (some ⟨gr, 0, none⟩) n t.kr, .int .i64 (dm t.S : Int), .int .i64 (tp t.S), .int .i64 0, .int .i64 (t.K : Int), .slice (some ⟨t.gR, 0, none⟩) t.K t.K, .slice (some ⟨t.gC, 0, none⟩) (t.K * t.K) (t.K * t.K)] 71 from fun W q => by
    rw [Tb.cells, har, hRL, hn] at q
    exact q)
  rw [hRL] at hpos hlen3 hRR hres hbl ⊢
  rw [hn] at hpos hlen3 hbl ⊢
  have HRES := Lib.hid hres
  have HBL := Lib.hid hbl
  have HRL := Lib.hid hRL
  have HN := Lib.hid hn
  have HRR := Lib.hid hRR
  have HT0 := Lib.hid hI.tab
  have HY := Lib.hid hy
  have HEY := Lib.hid eY
  have HIH := Lib.hid IH
  have HS := Lib.hid hS
  have n36 : n ≤ 36 := by omega
  have n36i : (n : Int) ≤ 36 := by omega
  clear hres hbl hwc hlen2 hsq hRR hx hy eY IH few har hRL hn eX hne
  have BZ := Blk.new w #[.int .i64 0, .int .i64 0] 67
  have hal : Below w.heap.size w (w.alloc (.cells #[.int .i64 0, .int .i64 0] 67)) := (Below.refl _ _).alloc (Nat.le_refl _) _
  have aZ := (Aw.fresh hI.ch (Nat.le_refl w.heap.size)).below hal
  replace hI := hI.below hal
  have hg : GA t w (w.alloc (.cells #[.int .i64 0, .int .i64 0] 67)) := GA.of hal
  obtain ⟨z6, hz6e⟩ : ∃ z, w.heap.size = z := ⟨_, rfl⟩
  have hz6 : w.heap.size ≤ z6 := by omega
  have hz1 : z6 < (w.alloc (.cells #[.int .i64 0, .int .i64 0] 67)).heap.size := by simp; omega
  go_enter Tryz.func74, Tryz.ntmps74
  go_wp2_with fail
  rw [hz6e] at BZ aZ
  (try rw [hz6e])
  generalize (w.alloc (.cells #[.int .i64 0, .int .i64 0] 67)) = w1 at *
  clear hal hz6e
  refine (hro.out _ hI).mono ?_
  rintro e w2 ⟨q, k, l, rfl, hQ, hnl, hrw, hI2, hga⟩
  have hs2 := hga.gr.size
  replace BZ := hI.blk hga BZ
  replace aZ := hga.aw _ hz1 aZ
  replace hg := hg.trans hga
  replace hz1 : z6 < w2.heap.size := by omega
  clear hI hga hro
  have hI := hI2
  clear hI2
  rw [HRL.out] at hnl
  rw [HRL.out]
  rw [HN.out]
  have hll : l.length = n := by
    have := congrArg List.length hnl
    rw [List.length_map, List.length_map, HN.out] at this
    exact this
  have HLL := Lib.hid hll
  have HNL := Lib.hid hnl
  have HQ := Lib.hid hQ
  have HRW := Lib.hid hrw
  have HT2 := Lib.hid hI.tab
  have hg2 := GA.refl t w2
  have HG2 := Lib.hid hg
  clear hll hnl hQ hrw
  go_wp2_with fail
  go_loopg [7, 16] n (fun m sv i wr => ∃ (W : World) (j : Nat) (L : List Int), W = wr ∧ j ≤ n ∧ m = n - j ∧ i = .int .i64 j ∧ sv = .int .i64 (wsum (RL.zip L)) ∧ blA (tp t.S) (wc t.S ys) xs RL j = some L ∧ TabI t W ∧ GA t w W ∧ GA t w2 W ∧ Blk W z6 #[.int .i64 0, .int .i64 0] 67 ∧ Aw t W z6 ∧ z6 < W.heap.size)
  case atStart => exact ⟨w2, 0, [], rfl, by omega, by omega, by go_num, by cases RL <;> rfl, rfl, hI, hg, hg2, BZ, aZ, hz1⟩
  case round =>
    clear hI BZ aZ hg hg2
    obtain ⟨wr, j, L, hWW, hj, hm, rfl, rfl, hbl, hI, hg, hg2, BZ, aZ, hsz⟩ := hrel
    subst hWW
    have hbb := HBL.out j L hj hbl
    obtain ⟨s, hs⟩ : ∃ s, wsum (RL.zip L) = s := ⟨_, rfl⟩
    rw [hs] at hbb ⊢
    obtain ⟨hb1, hb2, hb3⟩ := hbb
    by_cases hlt : j < n
    · have hlt' : (j : Int) < (n : Int) := by omega
      have j0 : (0 : Int) ≤ (j : Int) := by omega
      obtain ⟨⟨ra, rb⟩, hr⟩ : ∃ r, RL[j]? = some r := ⟨_, List.getElem?_eq_getElem (by rw [HN.out]; exact hlt)⟩
      obtain ⟨⟨gj, kj, zj⟩, hx⟩ : ∃ x, l[j]? = some x := ⟨_, List.getElem?_eq_getElem (by rw [HLL.out]; exact hlt)⟩
      have hzj : zj = nmR t xs (ra, rb) := by
        have e1 : (nmQ l)[j]? = some zj := by rw [List.getElem?_map, hx]; rfl
        rw [HNL.out, List.getElem?_map, hr] at e1
        exact (Option.some.inj e1).symm
      have hrs := HRES.out _ (List.mem_of_getElem? hr)
      have HR := Lib.hid hr
      have hRj : Row wr gj zj := (HRW.out _ (List.mem_of_getElem? hx)).gr HT2.out hg2.gr
      have u2 : CellIs wr q j (.slice (some ⟨gj, 0, none⟩) zj.length kj) := QRow.at (VRow.gr HQ.out HT2.out hg2.gr (by decide) (by decide)) j _ hx
      have hgd : RL.getD j (0, 0) = (ra, rb) := by rw [List.getD_eq_getElem?_getD, hr]; rfl
      have hst : blA (tp t.S) (wc t.S ys) xs RL (j + 1) = match bst (tp t.S) (wc t.S ys) (resI xs (ordersP ra rb)) with | none => none | some q => some (L ++ [q.2]) := by
        rw [blA, hbl]
        dsimp only
        rw [hgd]
        cases bst (tp t.S) (wc t.S ys) (resI xs (ordersP ra rb)) <;> rfl
      have hLj := blA_length hbl
      have hwsn := fun (x : Int) => wsum_snoc RL L x (ra, rb) (by rw [hLj]; exact hr)
      rw [hs] at hwsn
      have hRRw : RRow wr gr RL := VRow.gr HRR.out HT0.out hg.gr (by decide) (by decide)
      obtain ⟨u0, u1⟩ := RRow.two hRRw j _ hr
      dsimp only at hrs u0 u1
      have hzl : zj.length = (resI xs (ordersP ra rb)).length := by rw [hzj]; simp [nmR]
      rw [hzj] at hRj
      rw [hzl] at u2
      have hBE := Lib.hid (best_any t HS.out (pwT xs + pwT ys) HIH.out (resI xs (ordersP ra rb)) _ ys Y gj kj wr hI rfl hrs.1 hrs.2.1 hrs.2.2 HY.out HEY.out hRj)
      obtain ⟨NR, hNR⟩ : ∃ NR, (resI xs (ordersP ra rb)).length = NR := ⟨_, rfl⟩
      rw [hNR] at hBE u2
      have HST := Lib.hid hst
      have HWS := Lib.hid hwsn
      have HBLJ := Lib.hid (⟨hb1, hs⟩ : (∀ P ∈ L, 0 ≤ P ∧ P ≤ tp t.S) ∧ wsum (RL.zip L) = s)
      have BT := HBT.out _ hI.st.1
      unfold CellIs at u2
      obtain ⟨c0, c1, c2, c3, c4, c5, c6, c7, c8, c9, c10, c11, c12, cf, cl⟩ := BT.thirteen
      clear hr hx hzj hrs hRj hgd hst hLj hwsn hRRw hzl hNR hbl hb1 hs
      go_wp2_with fail
      refine (hBE.out).mono ?_
      rintro e w3 ⟨f, y, cd, rfl, hI3, hga, hp, hbf⟩
      clear c0 c1 c2 c3 c4 c5 c6 c7 c8 c9 c10 c11 c12 cf cl
      have hs3 := hga.gr.size
      have hb : (∃ q, bst (tp t.S) (wc t.S ys) (resI xs (ordersP ra rb)) = some q ∧ y = q.2 ∧ cd = 0) ∨ (bst (tp t.S) (wc t.S ys) (resI xs (ordersP ra rb)) = none ∧ cd = 3 ∧ 0 ≤ y ∧ y ≤ tp t.S) := by
        cases hq : bst (tp t.S) (wc t.S ys) (resI xs (ordersP ra rb)) with
        | none => rw [hq] at hp; unfold PV at hp; exact .inr ⟨rfl, hp⟩
        | some q => rw [hq] at hp; unfold PV at hp; exact .inl ⟨q, rfl, hp⟩
      have hT := hI.tab
      replace BZ := hI.blk hga BZ
      replace BT := hT.gr BT hga.gr (by decide) (by decide)
      replace aZ := hga.aw _ hsz aZ
      replace hg := hg.trans hga
      replace hg2 := hg2.trans hga
      have hal : Below w3.heap.size w3 (w3.alloc (.cells #[.int .i64 y, .int .i64 cd] 67)) := (Below.refl _ _).alloc (Nat.le_refl _) _
      have BX := Blk.new w3 #[.int .i64 y, .int .i64 cd] 67
      replace BZ := BZ.below hal
      replace BT := BT.below hal
      replace aZ := aZ.below hal
      clear hI u0 u1 u2
      have hI := hI3.below hal
      replace hg := hg.then hal
      replace hg2 := hg2.then hal
      have hs4 := hal.size
      obtain ⟨z11, hz11⟩ : ∃ z, w3.heap.size = z := ⟨_, rfl⟩
      rw [hz11] at BX
      obtain ⟨x0, x1, xf, xl⟩ := BX.two
      clear hI3 hal hp hbf hT hga
      rcases hb with ⟨⟨qi, qv⟩, hbq, rfl, rfl⟩ | ⟨hbn, rfl, hy0, hy1⟩
      · have hst := HST.out
        rw [hbq] at hst
        dsimp only at hst
        have hbb2 := HBL.out (j + 1) _ hlt hst
        rw [HWS.out] at hbb2
        have hqv := hbb2.1 y (by simp)
        dsimp only at x0 x1 BX hqv ⊢
        obtain ⟨wv, hwv⟩ : ∃ wv, wgt (ra, rb) = wv := ⟨_, rfl⟩
        have hwi := wgt_in (ra, rb)
        rw [hwv] at hbb2 hwi
        have hmb : 0 ≤ y * wv ∧ y * wv ≤ 2000000000000000 := by
          have hw2 : wv = 1 ∨ wv = 2 := by omega
          rcases hw2 with e | e <;> rw [e] <;> omega
        have wm : IntKind.i64.wrap (y * wv) = y * wv := IntWalk.i64_in _ (by omega)
        obtain ⟨P, hP⟩ : ∃ P, y * wv = P := ⟨_, rfl⟩
        have hb4 := hbb2.2.1
        have hb5 := hbb2.2.2
        rw [hP] at hb4 hb5 hmb wm
        have wa : IntKind.i64.wrap (s + P) = s + P := IntWalk.i64_in _ (by omega)
        have HST2 := Lib.hid hst
        have HP := Lib.hid hP
        have HWV := Lib.hid hwv
        clear hst hbb2 hbq hP hwv
        go_wp2_with fail
        (try rw [hz11])
        generalize (w3.alloc (.cells #[.int .i64 y, .int .i64 0] 67)) = w4 at *
        have hRRw : RRow w4 gr RL := VRow.gr HRR.out HT0.out hg.gr (by decide) (by decide)
        obtain ⟨u0, u1⟩ := RRow.two hRRw j _ HR.out
        dsimp only at u0 u1
        clear hRRw x0 x1 xf xl
        replace hI := hI.drew
        replace hg := hg.drew
        replace hg2 := hg2.drew
        replace BZ := BZ.drew
        replace BX := BX.drew
        replace BT := BT.drew
        replace aZ := aZ.drew
        have u0 : CellIs w4.drew gr (j * 2) (.int .i64 ra) := u0
        have u1 : CellIs w4.drew gr (j * 2 + 1) (.int .i64 rb) := u1
        unfold CellIs at u0 u1
        refine wp_region_held_drew (S := fun w' => w'.cell? ⟨t.g, 6, none⟩ = some (.slice (some ⟨gr, 0, none⟩) n t.kr) ∧ w'.cell? ⟨gr, j * 2, none⟩ = some (.int .i64 ra) ∧ w'.cell? ⟨gr, j * 2 + 1, none⟩ = some (.int .i64 rb) ∧ w'.cell? ⟨z11, 0, none⟩ = some (.int .i64 y)) (by kernel_rfl) ⟨BT.thirteen.2.2.2.2.2.2.1, u0, u1, BX.two.1⟩ (fun hHeld => ?_)
        clear hHeld
        have hz_vd : w4.drew.heap.size = w4.heap.size := rfl
        generalize w4.drew = vd at *
        have hHeld : vd.cell? ⟨t.g, 6, none⟩ = some (.slice (some ⟨gr, 0, none⟩) n t.kr) ∧ vd.cell? ⟨gr, j * 2, none⟩ = some (.int .i64 ra) ∧ vd.cell? ⟨gr, j * 2 + 1, none⟩ = some (.int .i64 rb) ∧ vd.cell? ⟨z11, 0, none⟩ = some (.int .i64 y) := ⟨BT.thirteen.2.2.2.2.2.2.1, u0, u1, BX.two.1⟩
        refine tk 0 32 ?_
        refine tk 1 33 ?_
        refine tk 2 34 ?_
        refine tk 3 35 ?_
        refine tk 4 36 ?_
        refine tk 5 37 ?_
        refine tk 6 38 ?_
        refine tk 7 39 ?_
        refine tk 8 40 ?_
        refine tk 9 41 ?_
        refine rdk 10 42 fun K hK => ?_
        go_simp
        refine (implWeight_any ra rb _).mono ?_
        rintro e w5 ⟨rfl, hb5⟩
        have hs5 := hb5.size
        replace hI := hI.below hb5
        replace BZ := BZ.below hb5
        replace BX := BX.below hb5
        replace BT := BT.below hb5
        replace aZ := aZ.below hb5
        replace hg := hg.then hb5
        replace hg2 := hg2.then hb5
        replace u0 := CellIs.below (b := gr) (o := j * 2) u0 hb5
        replace u1 := CellIs.below (b := gr) (o := j * 2 + 1) u1 hb5
        unfold CellIs at u0 u1
        clear hb5
        rw [show (if ra = rb then (1 : Int) else 2) = wv from HWV.out]
        (try go_wp2_with fail)
        refine hko hK ⟨BT.thirteen.2.2.2.2.2.2.1, u0, u1, BX.two.1⟩ fun hHeld => ?_
        clear hK K
        refine tk 11 43 ?_
        refine tk 12 44 ?_
        refine tk 13 7 ?_
        refine wpAnyH_done (by kernel_rfl) ?_ _
        clear hHeld
        go_wp2
        go_roundg (n - (j + 1))
        case measure => omega
        case rel => exact ⟨_, j + 1, L ++ [y], rfl, by omega, rfl, by go_num, by rw [HP.out, wm, wa, HWS.out, HWV.out, HP.out], HST2.out, hI, hg, hg2, BZ, aZ, by omega⟩
      · have hst := HST.out
        rw [hbn] at hst
        dsimp only at hst
        have HNO := Lib.hid (blA_none hst n (by omega))
        have HYB := Lib.hid (⟨hy0, hy1⟩ : 0 ≤ y ∧ y ≤ tp t.S)
        clear hst hbn hy0 hy1
        have HI3 := Lib.hid ((hI.away (o := 0) (u := .int .i64 y) aZ BZ).away (o := 1) (u := .int .i64 3) (aZ.away BZ) (BZ.set (i := 0) (.int .i64 y)))
        have HG3 := Lib.hid ((hg.away (o := 0) (u := .int .i64 y) hz6 BZ).away (o := 1) (u := .int .i64 3) hz6 (BZ.set (i := 0) (.int .i64 y)))
        have BZn := (BZ.set (i := 0) (.int .i64 y)).set (i := 1) (.int .i64 3)
        simp only [List.setIfInBounds_toArray, List.set_cons_zero, List.set_cons_succ] at BZn
        obtain ⟨z0, z1, zf, zl⟩ := BZ.two
        have HBZ := Lib.hid BZn
        clear BZn
        go_wp2_with fail
        obtain ⟨t0, t1, tf, tl⟩ := HBZ.out.two
        refine bodyPost_ret (v := .agg #[.int .i64 y, .int .i64 3]) (by simp [results, Tryz.results74, go_sem, t0, t1]) rfl ?_
        rw [HNO.out]
        exact ⟨y, 3, rfl, ⟨rfl, HYB.out.1, HYB.out.2⟩, HI3.out, HG3.out⟩
    · obtain rfl : j = n := by omega
      have hfin : blA (tp t.S) (wc t.S ys) xs RL j = some L := hbl
      have hmp : mnP t.S (blA (tp t.S) (wc t.S ys) xs RL j) = if s % ((t.S * t.S : Nat) : Int) = 0 then some (s / ((t.S * t.S : Nat) : Int)) else none := by
        rw [hbl]
        unfold mnP
        dsimp only
        rw [HRL.out, hs]
      have hbs := fun W (h : ScM W t.b t.S (nn t.S)) => base_any t.b t.S HS.out W h
      have hq1 : 0 ≤ s / ((t.S * t.S : Nat) : Int) := Int.ediv_nonneg hb2 (by omega)
      have hq2 : s / ((t.S * t.S : Nat) : Int) ≤ s := Int.ediv_le_self _ hb2
      have HSM := Lib.hid hI.st.2.2.1
      have BT := HBT.out _ hI.st.1
      obtain ⟨B, hBe⟩ : ∃ B : Int, ((t.S * t.S : Nat) : Int) = B := ⟨_, rfl⟩
      rw [hBe] at hbs hq1 hq2 hmp
      have hB1 : 1 ≤ B ∧ B ≤ 36 := by omega
      have HBS := Lib.hid hbs
      clear hbs hBe hfin hbl hs
      obtain ⟨c0, c1, c2, c3, c4, c5, c6, c7, c8, c9, c10, c11, c12, cf, cl⟩ := BT.thirteen
      by_cases hmod : s % B = 0
      · rw [if_pos hmod] at hmp
        have f0 : (s % B != 0) = false := by rw [hmod]; rfl
        have f1 : s.tmod B = 0 := by rw [Int.tmod_eq_emod_of_nonneg hb2]; exact hmod
        have f2 : s.tdiv B = s / B := Int.tdiv_eq_ediv_of_nonneg hb2
        have f3 : (B == 0) = false := by rw [beq_eq_false_iff_ne]; omega
        have f4 : (s.tmod B != 0) = false := by rw [f1]; rfl
        obtain ⟨Q, hQ⟩ : ∃ Q, s / B = Q := ⟨_, rfl⟩
        rw [hQ] at hq1 hq2 f2 hmp
        have HMP := Lib.hid hmp
        clear hmp hQ
        go_wp2_with fail
        refine (HBS.out _ HSM.out).mono ?_
        rintro e wq ⟨rfl, rfl⟩
        go_wp2_with fail
        refine (HBS.out _ HSM.out).mono ?_
        rintro e wq ⟨rfl, rfl⟩
        have HI3 := Lib.hid ((hI.away (o := 0) (u := .int .i64 Q) aZ BZ).away (o := 1) (u := .int .i64 0) (aZ.away BZ) (BZ.set (i := 0) (.int .i64 Q)))
        have HG3 := Lib.hid ((hg.away (o := 0) (u := .int .i64 Q) hz6 BZ).away (o := 1) (u := .int .i64 0) hz6 (BZ.set (i := 0) (.int .i64 Q)))
        have BZn := (BZ.set (i := 0) (.int .i64 Q)).set (i := 1) (.int .i64 0)
        simp only [List.setIfInBounds_toArray, List.set_cons_zero, List.set_cons_succ] at BZn
        obtain ⟨z0, z1, zf, zl⟩ := BZ.two
        have HBZ := Lib.hid BZn
        clear BZn
        go_wp2_with fail
        obtain ⟨t0, t1, tf, tl⟩ := HBZ.out.two
        refine bodyPost_ret (v := .agg #[.int .i64 Q, .int .i64 0]) (by simp [results, Tryz.results74, go_sem, t0, t1]) rfl ?_
        rw [HMP.out]
        exact ⟨Q, 0, rfl, ⟨rfl, rfl⟩, HI3.out, HG3.out⟩
      · rw [if_neg hmod] at hmp
        have HMP := Lib.hid hmp
        clear hmp
        have f0 : (s % B != 0) = true := by rw [bne_iff_ne]; exact hmod
        have f1 : s.tmod B = s % B := Int.tmod_eq_emod_of_nonneg hb2
        have f3 : (B == 0) = false := by rw [beq_eq_false_iff_ne]; omega
        have f4 : (s.tmod B != 0) = true := by rw [f1]; exact f0
        go_wp2_with fail
        refine (HBS.out _ HSM.out).mono ?_
        rintro e wq ⟨rfl, rfl⟩
        have HI3 := Lib.hid ((hI.away (o := 0) (u := .int .i64 0) aZ BZ).away (o := 1) (u := .int .i64 3) (aZ.away BZ) (BZ.set (i := 0) (.int .i64 0)))
        have HG3 := Lib.hid ((hg.away (o := 0) (u := .int .i64 0) hz6 BZ).away (o := 1) (u := .int .i64 3) hz6 (BZ.set (i := 0) (.int .i64 0)))
        have BZn := (BZ.set (i := 0) (.int .i64 0)).set (i := 1) (.int .i64 3)
        simp only [List.setIfInBounds_toArray, List.set_cons_zero, List.set_cons_succ] at BZn
        obtain ⟨z0, z1, zf, zl⟩ := BZ.two
        have HBZ := Lib.hid BZn
        clear BZn
        go_wp2_with fail
        obtain ⟨t0, t1, tf, tl⟩ := HBZ.out.two
        refine bodyPost_ret (v := .agg #[.int .i64 0, .int .i64 3]) (by simp [results, Tryz.results74, go_sem, t0, t1]) rfl ?_
        rw [HMP.out]
        exact ⟨0, 3, rfl, ⟨rfl, by omega, by omega⟩, HI3.out, HG3.out⟩
end Go.Proofs.YtnlclmlnpkncoaaGreat
