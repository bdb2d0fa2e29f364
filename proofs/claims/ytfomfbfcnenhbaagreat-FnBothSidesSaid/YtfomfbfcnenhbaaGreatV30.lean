/- Texts of a proof, laid together. -/
import Derived.Test.YtfomfbfcnenhbaaGreatV29
import Derived.Deep.LoopGhost
namespace Go.Proofs.YtfomfbfcnenhbaaGreat
open Go.ChangeShapes Go.WideShapes Go.ChangeAt Go.RowKit
set_option linter.unusedVariables false
set_option linter.unusedSimpArgs false
set_option maxRecDepth 4000
theorem bstA_none {T : Int} {f : List Int → Option Int} {L : List (List Int)} {j : Nat} (h : bstA T f L j = none) : ∀ k, j ≤ k → bstA T f L k = none
  | 0, hk => by
    obtain rfl : j = 0 := by omega
    exact h
  | k + 1, hk => by
    by_cases e : j = k + 1
    · rw [← e]; exact h
    · rw [bstA, bstA_none h k (by omega)]
def BGot (t : Tb) (b : Option (Nat × Int)) (L : List (List Int)) (w : World) (e : Ending) (w' : World) : Prop := ∃ (f : Int) (y cd : Int), e = .returned (.tuple #[.int .i64 f, .agg #[.int .i64 y, .int .i64 cd]]) ∧ TabI t w' ∧ GA t w w' ∧
  PV t.S (b.map fun q => q.2) y cd ∧ ∀ q, b = some q → f = (nm t.c (L.getD q.1 []) : Int) ∧ q.1 < L.length
set_option maxRecDepth 8000 in
set_option maxHeartbeats 2000000 in
theorem best_any (t : Tb) (hS : 1 ≤ t.S ∧ t.S ≤ 6) (n : Int) (IH : WinOk t n) (L : List (List Int)) (N : Nat) (ys : List Int) (Y gl k : Nat) (w : World) (hI : TabI t w) (hN : L.length = N) (h0 : 0 < N) (hle : N ≤ 1048576) (hL : ∀ z ∈ L, t.In z ∧ pwT ys + pwT z < n) (hy : t.In ys) (eY : nm t.c ys = Y) (hR : Row w gl (L.map fun z => (nm t.c z : Int))) :
    Calls Tryz.prog 63 #[.pointer (some ⟨t.g, 0, none⟩), .slice (some ⟨gl, 0, none⟩) N k, .int .i64 Y] w (BGot t (bst (tp t.S) (wc t.S ys) L) L w) := by
  have htp := tp_in hS
  have hin : ∀ z ∈ L, ∀ x, wc t.S ys z = some x → 0 ≤ x ∧ x ≤ tp t.S := fun z hz x h => by
    obtain ⟨a1, a2, a3, -⟩ := hy.1.po
    exact wc_in hS a2 a3 a1 (hL z hz).1.1.po.1 h
  have HN := Lib.hid hN
  have HL := Lib.hid hL
  have HIN := Lib.hid hin
  have HY := Lib.hid hy
  have HEY := Lib.hid eY
  have n0 : (N : Int) ≤ 1048576 := by omega
  obtain ⟨z7, hz7e⟩ : ∃ z, w.heap.size = z := ⟨_, rfl⟩
  obtain ⟨z9, hz9e⟩ : ∃ z, w.heap.size + 1 = z := ⟨_, rfl⟩
  obtain ⟨BZ, BG, hal, hz⟩ := two_new w #[.int .i64 0, .int .i64 0] #[.int .i64 (-1), .int .i64 0] 73 73
  have aZ := (Aw.fresh hI.ch (Nat.le_refl w.heap.size)).below hal
  have aG : Aw t _ (w.heap.size + 1) := (Aw.fresh hI.ch (Nat.le_succ w.heap.size)).below hal
  have HT1 := Lib.hid hI.tab
  have HR := Lib.hid hR
  replace hI := hI.below hal
  have hg : GA t w ((w.alloc (.cells #[.int .i64 0, .int .i64 0] 73)).alloc (.cells #[.int .i64 (-1), .int .i64 0] 73)) := GA.of hal
  have hzs : w.heap.size + 1 < ((w.alloc (.cells #[.int .i64 0, .int .i64 0] 73)).alloc (.cells #[.int .i64 (-1), .int .i64 0] 73)).heap.size := by rw [hz]; omega
  have hz7 : w.heap.size ≤ z7 := by omega
  have hz9 : w.heap.size ≤ z9 := by omega
  have hz79 : z7 < z9 := by omega
  clear hal hz hL hin hy eY hN
  go_enter Tryz.func63, Tryz.ntmps63
  go_wp2_with fail
  rw [hz7e] at BZ aZ
  rw [hz9e] at BG aG hzs
  (try rw [hz7e])
  (try rw [hz9e])
  (try rw [show z7 + 1 = z9 by omega])
  generalize ((w.alloc (.cells #[.int .i64 0, .int .i64 0] 73)).alloc (.cells #[.int .i64 (-1), .int .i64 0] 73)) = w1 at *
  clear hz7e hz9e
  clear hR
  go_loopg [8, 16] N (fun m fv i wr => ∃ (W : World) (j : Nat) (q : Nat × Int) (f : Int), W = wr ∧ j ≤ N ∧ m = N - j ∧ i = .int .i64 j ∧ fv = .int .i64 f ∧ bstA (tp t.S) (wc t.S ys) L j = some q ∧ (0 < j → f = (nm t.c (L.getD q.1 []) : Int) ∧ q.1 < j) ∧ (-1 ≤ q.2 ∧ q.2 ≤ tp t.S ∧ (j = 0 → q.2 = -1) ∧ (0 < j → 0 ≤ q.2)) ∧ TabI t W ∧ GA t w W ∧ Blk W z7 #[.int .i64 0, .int .i64 0] 73 ∧ Blk W z9 #[.int .i64 q.2, .int .i64 0] 73 ∧ Aw t W z7 ∧ Aw t W z9 ∧ z9 < W.heap.size)
  case atStart => exact ⟨w1, 0, (0, -1), 0, rfl, by omega, by omega, by go_num, rfl, rfl, fun h => absurd h (by omega), ⟨by dsimp only; omega, by dsimp only; omega, fun _ => rfl, fun h => by omega⟩, hI, hg, BZ, BG, aZ, aG, hzs⟩
  case round =>
    clear hI BZ BG aZ aG hg
    obtain ⟨wr, j, ⟨qi, qv⟩, f, hWW, hj, hm, rfl, rfl, hq, hf, hqb, hI, hg, BZ, BG, aZ, aG, hsz⟩ := hrel
    subst hWW
    dsimp only at hf hqb BG
    have HQ := Lib.hid hq
    have HF := Lib.hid hf
    have HQB := Lib.hid hqb
    clear hq hf hqb
    by_cases hlt : j < N
    · have hlt' : (j : Int) < (N : Int) := by omega
      have j0 : (0 : Int) ≤ (j : Int) := by omega
      obtain ⟨zs, hzs2⟩ : ∃ z, L[j]? = some z := ⟨_, List.getElem?_eq_getElem (by rw [HN.out]; exact hlt)⟩
      have hzm := HL.out _ (List.mem_of_getElem? hzs2)
      have hin := HIN.out _ (List.mem_of_getElem? hzs2)
      have hgd : L.getD j [] = zs := by rw [List.getD_eq_getElem?_getD, hzs2]; rfl
      have hRw := HR.out.gr HT1.out hg.gr
      have c0 := hRw.cell j (by rw [List.length_map, HN.out]; exact hlt)
      have e0 : (L.map fun z => (nm t.c z : Int)).getD j 0 = (nm t.c zs : Int) := by
        rw [List.getD_eq_getElem?_getD, List.getElem?_map, hzs2]
        rfl
      rw [e0] at c0
      have hst : bstA (tp t.S) (wc t.S ys) L (j + 1) = match wc t.S ys zs with | none => none | some x => if qv < tp t.S - x then some (j, tp t.S - x) else some (qi, qv) := by
        rw [bstA, HQ.out]
        dsimp only
        rw [hgd]
        cases wc t.S ys zs <;> rfl
      have HST := Lib.hid hst
      obtain ⟨Z, hZ⟩ : ∃ Z, nm t.c zs = Z := ⟨_, rfl⟩
      rw [hZ] at c0
      have hA := Lib.hid (after_any t hS n IH zs ys Z Y wr hI hzm.1 HY.out hZ HEY.out hzm.2)
      have HGD := Lib.hid hgd
      have HZ := Lib.hid hZ
      have HIN2 := Lib.hid hin
      clear hzs2 hzm hRw e0 hst hgd hZ hin
      go_wp2_with fail
      refine (hA.out).mono ?_
      rintro e w3 ⟨y, cd, rfl, hp, hI3, hga⟩
      have hs3 := hga.gr.size
      replace BZ := hI.blk hga BZ
      replace BG := hI.blk hga BG
      replace aZ := hga.aw _ (by omega) aZ
      replace aG := hga.aw _ (by omega) aG
      replace hg := hg.trans hga
      clear hI hga c0
      have hal : Below w3.heap.size w3 (w3.alloc (.cells #[.int .i64 y, .int .i64 cd] 73)) := (Below.refl _ _).alloc (Nat.le_refl _) _
      have BX := Blk.new w3 #[.int .i64 y, .int .i64 cd] 73
      replace BZ := BZ.below hal
      replace BG := BG.below hal
      replace aZ := aZ.below hal
      replace aG := aG.below hal
      have hI := hI3.below hal
      replace hg := hg.then hal
      have hs4 := hal.size
      obtain ⟨z12, hz12⟩ : ∃ z, w3.heap.size = z := ⟨_, rfl⟩
      rw [hz12] at BX
      have hb := hp.in (fun x hx => by
        rw [Option.map_eq_some_iff] at hx
        obtain ⟨a, ha, rfl⟩ := hx
        have := HIN2.out a ha
        omega)
      obtain ⟨x0, x1, xf, xl⟩ := BX.two
      obtain ⟨g0, g1, gf, gll⟩ := BG.two
      clear hI3 hal
      by_cases hcd : cd = 0
      · have f0 : (cd != 0) = false := by rw [hcd]; rfl
        have hv : ∃ x, wc t.S ys zs = some x ∧ y = tp t.S - x := by
          cases hw : wc t.S ys zs with
          | none => rw [hw] at hp; unfold PV at hp; dsimp only [Option.map] at hp; omega
          | some x => rw [hw] at hp; unfold PV at hp; dsimp only [Option.map] at hp; exact ⟨x, rfl, hp.1⟩
        obtain ⟨x, hx, hyx⟩ := hv
        have hst := HST.out
        rw [hx] at hst
        dsimp only at hst
        rw [← hyx] at hst
        subst hcd
        by_cases hgt : qv < y
        · rw [if_pos hgt] at hst
          have HS2 := Lib.hid hst
          clear hp hx hyx hst
          go_wp2_with fail
          (try rw [hz12])
          generalize (w3.alloc (.cells #[.int .i64 y, .int .i64 0] 73)) = w4 at *
          clear x0 x1 xf xl g0 g1 gf gll
          replace hI := hI.drew
          replace hg := hg.drew
          replace BZ := BZ.drew
          replace BX := BX.drew
          replace BG := BG.drew
          replace aZ := aZ.drew
          replace aG := aG.drew
          refine wp_region_held_drew (S := fun w' => w'.cell? ⟨z12, 0, none⟩ = some (.int .i64 y) ∧ w'.cell? ⟨z12, 1, none⟩ = some (.int .i64 0)) (by kernel_rfl) ⟨BX.two.1, BX.two.2.1⟩ (fun hHeld => ?_)
          clear hHeld
          have hz_vd : w4.drew.heap.size = w4.heap.size := rfl
          generalize w4.drew = vd at *
          have hHeld : vd.cell? ⟨z12, 0, none⟩ = some (.int .i64 y) ∧ vd.cell? ⟨z12, 1, none⟩ = some (.int .i64 0) := ⟨BX.two.1, BX.two.2.1⟩
          refine wpAnyH_take (i := 0) (oi := ⟨some 33, _, _, _, _, _⟩) (v := ?_) rfl (by kernel_rfl) (by kernel_rfl) (by kernel_rfl) (fun _ _ _ h => h) (Or.inl ⟨by rfl, ?_⟩) (by assumption) ?_
          rotate_left
          · intro w hSw; (try dsimp only at hSw); go_simp; (try (with_reducible rfl))
          try simp only [Act.put, List.setIfInBounds_toArray, List.set_cons_zero, List.set_cons_succ]
          refine wpAnyH_take (i := 1) (oi := ⟨some 34, _, _, _, _, _⟩) (v := ?_) rfl (by kernel_rfl) (by kernel_rfl) (by kernel_rfl) (fun _ _ _ h => h) (Or.inl ⟨by rfl, ?_⟩) (by assumption) ?_
          rotate_left
          · intro w hSw; (try dsimp only at hSw); go_simp; (try (with_reducible rfl))
          try simp only [Act.put, List.setIfInBounds_toArray, List.set_cons_zero, List.set_cons_succ]
          refine wpAnyH_take (i := 2) (oi := ⟨some 8, _, _, _, _, _⟩) (v := ?_) rfl (by kernel_rfl) (by kernel_rfl) (by kernel_rfl) (fun _ _ _ h => h) (Or.inl ⟨by rfl, ?_⟩) (by assumption) ?_
          rotate_left
          · intro w hSw; (try dsimp only at hSw); go_simp; (try (with_reducible rfl))
          try simp only [Act.put, List.setIfInBounds_toArray, List.set_cons_zero, List.set_cons_succ]
          refine wpAnyH_ready (rs := [3]) (by kernel_rfl) (by simp) ?_
          refine AllReadyH.cons (o := ⟨none, _, _, _, _, _⟩) rfl (fun K hK => ?_) AllReadyH.nil
          have z0 := BG.two.1
          have z1 := BG.two.2.1
          have zf := BG.two.2.2.1
          have zl := BG.two.2.2.2
          have HI3 := Lib.hid ((hI.away (o := 0) (u := .int .i64 y) aG BG).away (o := 1) (u := .int .i64 0) (aG.away BG) (BG.set (i := 0) (.int .i64 y)))
          have HG3 := Lib.hid ((hg.away (o := 0) (u := .int .i64 y) hz9 BG).away (o := 1) (u := .int .i64 0) hz9 (BG.set (i := 0) (.int .i64 y)))
          have BGn := (BG.set (i := 0) (.int .i64 y)).set (i := 1) (.int .i64 0)
          simp only [List.setIfInBounds_toArray, List.set_cons_zero, List.set_cons_succ] at BGn
          have HBG := Lib.hid BGn
          have HBZ := Lib.hid ((BZ.other (g := z9) (o := 0) (v := .int .i64 y) (by omega)).other (g := z9) (o := 1) (v := .int .i64 0) (by omega))
          have HAZ := Lib.hid ((aZ.away (o := 0) (u := .int .i64 y) BG).away (o := 1) (u := .int .i64 0) (BG.set (i := 0) (.int .i64 y)))
          have HAG := Lib.hid ((aG.away (o := 0) (u := .int .i64 y) BG).away (o := 1) (u := .int .i64 0) (BG.set (i := 0) (.int .i64 y)))
          clear BGn
          go_simp
          (try go_wp2_with fail)
          refine hK.out _ _ ⟨((BX.other (by omega)).other (by omega)).two.1, ((BX.other (by omega)).other (by omega)).two.2.1⟩ (fun hHeld => ?_)
          clear hK K
          try simp only [Act.put, List.setIfInBounds_toArray, List.set_cons_zero, List.set_cons_succ]
          refine wpAnyH_done (by kernel_rfl) ?_ _
          clear hHeld
          go_wp2
          go_roundg (N - (j + 1))
          case measure => omega
          case rel => exact ⟨_, j + 1, (j, y), (Z : Int), rfl, by omega, rfl, by go_num, rfl, HS2.out, fun _ => ⟨by dsimp only; rw [HGD.out, HZ.out], by dsimp only; omega⟩, ⟨by dsimp only; omega, by dsimp only; omega, fun h => by omega, fun _ => by dsimp only; omega⟩, HI3.out, HG3.out, HBZ.out, HBG.out, HAZ.out, HAG.out, by simp; omega⟩
        · rw [if_neg hgt] at hst
          have HS2 := Lib.hid hst
          have hj0 : 0 < j := by
            rcases Nat.eq_zero_or_pos j with h | h
            · have := HQB.out.2.2.1 h
              omega
            · exact h
          clear hp hx hyx hst
          go_wp2_with fail
          (try rw [hz12])
          generalize (w3.alloc (.cells #[.int .i64 y, .int .i64 0] 73)) = w4 at *
          clear x0 x1 xf xl g0 g1 gf gll
          go_wp2
          go_roundg (N - (j + 1))
          case measure => omega
          case rel => exact ⟨_, j + 1, (qi, qv), f, rfl, by omega, rfl, by go_num, rfl, HS2.out, fun _ => ⟨(HF.out hj0).1, by have := (HF.out hj0).2; dsimp only; omega⟩, ⟨HQB.out.1, HQB.out.2.1, fun h => by omega, fun _ => HQB.out.2.2.2 hj0⟩, hI, hg, BZ, BG, aZ, aG, by omega⟩
      · have f0 : (cd != 0) = true := by rw [bne_iff_ne]; exact hcd
        have hv : wc t.S ys zs = none := by
          cases hw : wc t.S ys zs with
          | none => rfl
          | some x => rw [hw] at hp; unfold PV at hp; dsimp only [Option.map] at hp; exact absurd hp.2 hcd
        have hst := HST.out
        rw [hv] at hst
        have hnone : bst (tp t.S) (wc t.S ys) L = none := bstA_none hst _ (by rw [HN.out]; omega)
        have hpv : PV t.S none y cd := by rw [hv] at hp; exact hp
        have HNO := Lib.hid hnone
        have HPV := Lib.hid hpv
        clear hp hv hst hnone hpv hcd
        go_wp2_with fail
        (try rw [hz12])
        generalize (w3.alloc (.cells #[.int .i64 y, .int .i64 cd] 73)) = w4 at *
        clear x0 x1 xf xl g0 g1 gf gll
        replace hI := hI.drew
        replace hg := hg.drew
        replace BZ := BZ.drew
        replace BX := BX.drew
        replace aZ := aZ.drew
        refine wp_region_held_drew (S := fun w' => w'.cell? ⟨z12, 0, none⟩ = some (.int .i64 y) ∧ w'.cell? ⟨z12, 1, none⟩ = some (.int .i64 cd)) (by kernel_rfl) ⟨BX.two.1, BX.two.2.1⟩ (fun hHeld => ?_)
        clear hHeld
        have hz_vd : w4.drew.heap.size = w4.heap.size := rfl
        generalize w4.drew = vd at *
        have hHeld : vd.cell? ⟨z12, 0, none⟩ = some (.int .i64 y) ∧ vd.cell? ⟨z12, 1, none⟩ = some (.int .i64 cd) := ⟨BX.two.1, BX.two.2.1⟩
        refine wpAnyH_take (i := 0) (oi := ⟨some 27, _, _, _, _, _⟩) (v := ?_) rfl (by kernel_rfl) (by kernel_rfl) (by kernel_rfl) (fun _ _ _ h => h) (Or.inl ⟨by rfl, ?_⟩) (by assumption) ?_
        rotate_left
        · intro w hSw; (try dsimp only at hSw); go_simp; (try (with_reducible rfl))
        try simp only [Act.put, List.setIfInBounds_toArray, List.set_cons_zero, List.set_cons_succ]
        refine wpAnyH_take (i := 1) (oi := ⟨some 6, _, _, _, _, _⟩) (v := ?_) rfl (by kernel_rfl) (by kernel_rfl) (by kernel_rfl) (fun _ _ _ h => h) (Or.inl ⟨by rfl, ?_⟩) (by assumption) ?_
        rotate_left
        · intro w hSw; (try dsimp only at hSw); go_simp; (try (with_reducible rfl))
        try simp only [Act.put, List.setIfInBounds_toArray, List.set_cons_zero, List.set_cons_succ]
        refine wpAnyH_ready (rs := [2]) (by kernel_rfl) (by simp) ?_
        refine AllReadyH.cons (o := ⟨none, _, _, _, _, _⟩) rfl (fun K hK => ?_) AllReadyH.nil
        have z0 := BZ.two.1
        have z1 := BZ.two.2.1
        have zf := BZ.two.2.2.1
        have zl := BZ.two.2.2.2
        have HI3 := Lib.hid ((hI.away (o := 0) (u := .int .i64 y) aZ BZ).away (o := 1) (u := .int .i64 cd) (aZ.away BZ) (BZ.set (i := 0) (.int .i64 y)))
        have HG3 := Lib.hid ((hg.away (o := 0) (u := .int .i64 y) hz7 BZ).away (o := 1) (u := .int .i64 cd) hz7 (BZ.set (i := 0) (.int .i64 y)))
        have BZn := (BZ.set (i := 0) (.int .i64 y)).set (i := 1) (.int .i64 cd)
        simp only [List.setIfInBounds_toArray, List.set_cons_zero, List.set_cons_succ] at BZn
        have HBZ := Lib.hid BZn
        clear BZn
        go_simp
        (try go_wp2_with fail)
        refine hK.out _ _ ⟨((BX.other (by omega)).other (by omega)).two.1, ((BX.other (by omega)).other (by omega)).two.2.1⟩ (fun hHeld => ?_)
        clear hK K
        try simp only [Act.put, List.setIfInBounds_toArray, List.set_cons_zero, List.set_cons_succ]
        refine wpAnyH_done (by kernel_rfl) ?_ _
        clear hHeld
        go_wp2_with fail
        obtain ⟨t0, t1, tf, tl⟩ := HBZ.out.two
        refine bodyPost_ret (v := .tuple #[.int .i64 0, .agg #[.int .i64 y, .int .i64 cd]]) (by simp [results, Tryz.results63, go_sem, t0, t1]) rfl ?_
        rw [HNO.out]
        exact ⟨0, y, cd, rfl, HI3.out, HG3.out, HPV.out, fun q h => by cases h⟩
    · obtain rfl : j = N := by omega
      have hfin : bst (tp t.S) (wc t.S ys) L = some (qi, qv) := by
        have := HQ.out
        rw [← HN.out] at this
        exact this
      have HFI := Lib.hid hfin
      clear hfin
      obtain ⟨g0, g1, gf, gll⟩ := BG.two
      obtain ⟨x0, x1, xf, xl⟩ := BZ.two
      go_wp2_with fail
      clear g0 g1 gf gll x0 x1 xf xl
      replace hI := hI.drew
      replace hg := hg.drew
      replace BZ := BZ.drew
      replace BG := BG.drew
      replace aZ := aZ.drew
      refine wp_region_held_drew (S := fun w' => w'.cell? ⟨z9, 0, none⟩ = some (.int .i64 qv) ∧ w'.cell? ⟨z9, 1, none⟩ = some (.int .i64 0)) (by kernel_rfl) ⟨BG.two.1, BG.two.2.1⟩ (fun hHeld => ?_)
      clear hHeld
      have hz_vd : wr.drew.heap.size = wr.heap.size := rfl
      generalize wr.drew = vd at *
      have hHeld : vd.cell? ⟨z9, 0, none⟩ = some (.int .i64 qv) ∧ vd.cell? ⟨z9, 1, none⟩ = some (.int .i64 0) := ⟨BG.two.1, BG.two.2.1⟩
      refine wpAnyH_take (i := 0) (oi := ⟨some 36, _, _, _, _, _⟩) (v := ?_) rfl (by kernel_rfl) (by kernel_rfl) (by kernel_rfl) (fun _ _ _ h => h) (Or.inl ⟨by rfl, ?_⟩) (by assumption) ?_
      rotate_left
      · intro w hSw; (try dsimp only at hSw); go_simp; (try (with_reducible rfl))
      try simp only [Act.put, List.setIfInBounds_toArray, List.set_cons_zero, List.set_cons_succ]
      refine wpAnyH_take (i := 1) (oi := ⟨some 37, _, _, _, _, _⟩) (v := ?_) rfl (by kernel_rfl) (by kernel_rfl) (by kernel_rfl) (fun _ _ _ h => h) (Or.inl ⟨by rfl, ?_⟩) (by assumption) ?_
      rotate_left
      · intro w hSw; (try dsimp only at hSw); go_simp; (try (with_reducible rfl))
      try simp only [Act.put, List.setIfInBounds_toArray, List.set_cons_zero, List.set_cons_succ]
      refine wpAnyH_take (i := 2) (oi := ⟨some 6, _, _, _, _, _⟩) (v := ?_) rfl (by kernel_rfl) (by kernel_rfl) (by kernel_rfl) (fun _ _ _ h => h) (Or.inl ⟨by rfl, ?_⟩) (by assumption) ?_
      rotate_left
      · intro w hSw; (try dsimp only at hSw); go_simp; (try (with_reducible rfl))
      try simp only [Act.put, List.setIfInBounds_toArray, List.set_cons_zero, List.set_cons_succ]
      refine wpAnyH_ready (rs := [3]) (by kernel_rfl) (by simp) ?_
      refine AllReadyH.cons (o := ⟨none, _, _, _, _, _⟩) rfl (fun K hK => ?_) AllReadyH.nil
      have z0 := BZ.two.1
      have z1 := BZ.two.2.1
      have zf := BZ.two.2.2.1
      have zl := BZ.two.2.2.2
      have HI3 := Lib.hid ((hI.away (o := 0) (u := .int .i64 qv) aZ BZ).away (o := 1) (u := .int .i64 0) (aZ.away BZ) (BZ.set (i := 0) (.int .i64 qv)))
      have HG3 := Lib.hid ((hg.away (o := 0) (u := .int .i64 qv) hz7 BZ).away (o := 1) (u := .int .i64 0) hz7 (BZ.set (i := 0) (.int .i64 qv)))
      have BZn := (BZ.set (i := 0) (.int .i64 qv)).set (i := 1) (.int .i64 0)
      simp only [List.setIfInBounds_toArray, List.set_cons_zero, List.set_cons_succ] at BZn
      have HBZ := Lib.hid BZn
      clear BZn
      go_simp
      (try go_wp2_with fail)
      refine hK.out _ _ ⟨((BG.other (by omega)).other (by omega)).two.1, ((BG.other (by omega)).other (by omega)).two.2.1⟩ (fun hHeld => ?_)
      clear hK K
      try simp only [Act.put, List.setIfInBounds_toArray, List.set_cons_zero, List.set_cons_succ]
      refine wpAnyH_done (by kernel_rfl) ?_ _
      clear hHeld
      go_wp2_with fail
      obtain ⟨t0, t1, tf, tl⟩ := HBZ.out.two
      refine bodyPost_ret (v := .tuple #[.int .i64 f, .agg #[.int .i64 qv, .int .i64 0]]) (by simp [results, Tryz.results63, go_sem, t0, t1]) rfl ?_
      rw [HFI.out]
      exact ⟨f, qv, 0, rfl, HI3.out, HG3.out, ⟨rfl, rfl⟩, fun q h => by
        injection h with h
        subst h
        exact ⟨(HF.out h0).1, by rw [HN.out]; exact (HF.out h0).2⟩⟩
end Go.Proofs.YtfomfbfcnenhbaaGreat
