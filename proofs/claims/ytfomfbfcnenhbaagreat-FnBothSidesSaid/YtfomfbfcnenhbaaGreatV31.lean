/- Texts of a proof, laid together. -/
import Derived.Test.YtfomfbfcnenhbaaGreatV30
import Derived.Test.YtfomfbfcnenhbaaGreatV17
import Derived.Test.YtfomfbfcnenhbaaGreatV10
import Derived.Deep.LoopGhost
namespace Go.Proofs.YtfomfbfcnenhbaaGreat
open Go.ChangeShapes Go.WideShapes Go.ChangeAt Go.RowKit
set_option linter.unusedVariables false
set_option linter.unusedSimpArgs false
set_option maxRecDepth 4000
theorem blA_none {T : Int} {f : List Int → Option Int} {own : List Int} {R : List Rl} {j : Nat} (h : blA T f own R j = none) : ∀ k, j ≤ k → blA T f own R k = none
  | 0, hk => by
    obtain rfl : j = 0 := by omega
    exact h
  | k + 1, hk => by
    by_cases e : j = k + 1
    · rw [← e]; exact h
    · rw [blA, blA_none h k (by omega)]
set_option maxRecDepth 8000 in
set_option maxHeartbeats 2000000 in
theorem mean_any (t : Tb) (hS : 1 ≤ t.S ∧ t.S ≤ 6) (few : fewB t.c t.h = true) (xs ys : List Int) (X Y : Nat) (IH : WinOk t (pwT xs + pwT ys)) (w : World) (hI : TabI t w) (hx : t.In xs) (hy : t.In ys) (eX : nm t.c xs = X) (eY : nm t.c ys = Y) (hne : xs.sum ≠ 0) :
    Calls Tryz.prog 103 #[.pointer (some ⟨t.g, 0, none⟩), .int .i64 X, .int .i64 Y] w (PGot t (mnP t.S (blA (tp t.S) (wc t.S ys) xs (rollsTo t.S) (rollsTo t.S).length)) w) := by
  have htp := tp_in hS
  have hB := base_range hS
  have hlen2 := rollsTo_len2 t.S
  have hlen3 := rollsTo_length t.S
  have hpos : 0 < (rollsTo t.S).length := by
    have := Nat.mul_pos hS.1 (show 0 < t.S + 1 by omega)
    omega
  have hsq : t.S * t.S ≤ 6 * 6 := Nat.mul_le_mul hS.2 hS.2
  obtain ⟨gr, har, hRR⟩ : ∃ gr, t.ar = some ⟨gr, 0, none⟩ ∧ RRow w gr (rollsTo t.S) := by
    rcases hI.st.2.2.2 with ⟨_, q⟩ | q
    · rw [q] at hpos
      simp at hpos
    · exact q
  have hwc := fun z (hz : Ps t.p t.c t.h (t.S : Int) z) x (h : wc t.S ys z = some x) => by
    obtain ⟨a1, a2, a3, -⟩ := hy.1.po
    exact wc_in hS a2 a3 a1 hz.po.1 h
  have hres : ∀ r ∈ rollsTo t.S, 0 < (resI xs (ordersP r.1 r.2)).length ∧ (resI xs (ordersP r.1 r.2)).length ≤ 1048576 ∧ ∀ z ∈ resI xs (ordersP r.1 r.2), t.In z ∧ pwT ys + pwT z < pwT xs + pwT ys := fun r hr => by
    obtain ⟨r1, r2, r3⟩ := rolls_in hS hr
    obtain ⟨a1, a2, a3, -⟩ := hx.1.po
    refine ⟨resI_ne a2 a3 a1 r1 r2 r3, by have := resI_len a2 a3 a1 r1 r2 r3; omega, fun z hz => ?_⟩
    obtain ⟨b1, b2, b3, b4⟩ := hx.1.res r1 r2 r3 z hz
    exact ⟨⟨b1, by have := hx.2; omega⟩, by have := b4 hne; omega⟩
  have hbl : ∀ (j : Nat) (L : List Int), j ≤ (rollsTo t.S).length → blA (tp t.S) (wc t.S ys) xs (rollsTo t.S) j = some L → (∀ P ∈ L, 0 ≤ P ∧ P ≤ tp t.S) ∧ 0 ≤ wsum ((rollsTo t.S).zip L) ∧ wsum ((rollsTo t.S).zip L) ≤ 36000000000000000 := fun j L hj h => by
    haveI inst : ∀ z, Decidable (Ps t.p t.c t.h (t.S : Int) z) := fun z => Classical.propDecidable _
    have hc : blA (tp t.S) (wc t.S ys) xs (rollsTo t.S) j = blA (tp t.S) (fun z => if Ps t.p t.c t.h (t.S : Int) z then wc t.S ys z else none) xs (rollsTo t.S) j := bl_congr (fun r hr z hz => by rw [if_pos ((hres r hr).2.2 z hz).1.1]) j hj
    rw [hc] at h
    have hb := blA_in (fun z y hy => by
      split at hy
      · rename_i hz
        exact hwc z hz y hy
      · cases hy) (fun r hr => (hres r hr).1) hj h
    have := mnP_in hS hb
    have hm := Int.mul_le_mul htp.2 (show ((t.S * t.S : Nat) : Int) ≤ 36 by omega) (by omega) (by omega)
    exact ⟨hb, by omega, by omega⟩
  have hro := Lib.hid (fun W (h : TabI t W) => resultsOf_any t xs X W h hx hS few eX)
  obtain ⟨RL, hRL⟩ : ∃ RL, rollsTo t.S = RL := ⟨_, rfl⟩
  obtain ⟨n, hn⟩ : ∃ n, RL.length = n := ⟨_, rfl⟩
  have HBT := Lib.hid (show ∀ W, Blk W t.g t.cells 84 → Blk W t.g #[.int .i64 t.p, .int .i64 t.c, .int .i64 t.h, .int .i64 (t.S : Int), .pointer (some ⟨t.gw, 0, none⟩), .map (some t.b), .slice (some ⟨gr, 0, none⟩) n t.kr, .int .i64 (dm t.S : Int), .int .i64 (tp t.S), .int .i64 0, .int .i64 (t.K : Int), .slice (some ⟨t.gR, 0, none⟩) t.K t.K, .slice (some ⟨t.gC, 0, none⟩) (t.K * t.K) (t.K * t.K)] 84 from fun W q => by
    rw [Tb.cells, har, hRL, hn] at q
    exact q)
  rw [hRL] at hpos hlen3 hRR hres hbl ⊢
  rw [hn] at hpos hlen3 hbl ⊢
  have HRES := Lib.hid hres
  have HBL := Lib.hid hbl
  have HRL := Lib.hid hRL
  have HN := Lib.hid hn
  have HRR := Lib.hid hRR
  have HT0 := Lib.hid hI.tab
  have HY := Lib.hid hy
  have HEY := Lib.hid eY
  have HIH := Lib.hid IH
  have HS := Lib.hid hS
  have n36 : n ≤ 36 := by omega
  have n36i : (n : Int) ≤ 36 := by omega
  clear hres hbl hwc hlen2 hsq hRR hx hy eY IH few har hRL hn eX hne
  have BZ := Blk.new w #[.int .i64 0, .int .i64 0] 73
  have hal : Below w.heap.size w (w.alloc (.cells #[.int .i64 0, .int .i64 0] 73)) := (Below.refl _ _).alloc (Nat.le_refl _) _
  have aZ := (Aw.fresh hI.ch (Nat.le_refl w.heap.size)).below hal
  replace hI := hI.below hal
  have hg : GA t w (w.alloc (.cells #[.int .i64 0, .int .i64 0] 73)) := GA.of hal
  obtain ⟨z6, hz6e⟩ : ∃ z, w.heap.size = z := ⟨_, rfl⟩
  have hz6 : w.heap.size ≤ z6 := by omega
  have hz1 : z6 < (w.alloc (.cells #[.int .i64 0, .int .i64 0] 73)).heap.size := by simp; omega
  go_enter Tryz.func103, Tryz.ntmps103
  go_wp2_with fail
  rw [hz6e] at BZ aZ
  (try rw [hz6e])
  generalize (w.alloc (.cells #[.int .i64 0, .int .i64 0] 73)) = w1 at *
  clear hal hz6e
  refine (hro.out _ hI).mono ?_
  rintro e w2 ⟨q, k, l, rfl, hQ, hnl, hrw, hI2, hga⟩
  have hs2 := hga.gr.size
  replace BZ := hI.blk hga BZ
  replace aZ := hga.aw _ hz1 aZ
  replace hg := hg.trans hga
  replace hz1 : z6 < w2.heap.size := by omega
  clear hI hga hro
  have hI := hI2
  clear hI2
  rw [HRL.out] at hnl
  rw [HRL.out]
  rw [HN.out]
  have hll : l.length = n := by
    have := congrArg List.length hnl
    rw [List.length_map, List.length_map, HN.out] at this
    exact this
  have HLL := Lib.hid hll
  have HNL := Lib.hid hnl
  have HQ := Lib.hid hQ
  have HRW := Lib.hid hrw
  have HT2 := Lib.hid hI.tab
  have hg2 := GA.refl t w2
  have HG2 := Lib.hid hg
  clear hll hnl hQ hrw
  go_wp2_with fail
  go_loopg [7, 16] n (fun m sv i wr => ∃ (W : World) (j : Nat) (L : List Int), W = wr ∧ j ≤ n ∧ m = n - j ∧ i = .int .i64 j ∧ sv = .int .i64 (wsum (RL.zip L)) ∧ blA (tp t.S) (wc t.S ys) xs RL j = some L ∧ TabI t W ∧ GA t w W ∧ GA t w2 W ∧ Blk W z6 #[.int .i64 0, .int .i64 0] 73 ∧ Aw t W z6 ∧ z6 < W.heap.size)
  case atStart => exact ⟨w2, 0, [], rfl, by omega, by omega, by go_num, by cases RL <;> rfl, rfl, hI, hg, hg2, BZ, aZ, hz1⟩
  case round =>
    clear hI BZ aZ hg hg2
    obtain ⟨wr, j, L, hWW, hj, hm, rfl, rfl, hbl, hI, hg, hg2, BZ, aZ, hsz⟩ := hrel
    subst hWW
    have hbb := HBL.out j L hj hbl
    obtain ⟨s, hs⟩ : ∃ s, wsum (RL.zip L) = s := ⟨_, rfl⟩
    rw [hs] at hbb ⊢
    obtain ⟨hb1, hb2, hb3⟩ := hbb
    by_cases hlt : j < n
    · have hlt' : (j : Int) < (n : Int) := by omega
      have j0 : (0 : Int) ≤ (j : Int) := by omega
      obtain ⟨⟨ra, rb⟩, hr⟩ : ∃ r, RL[j]? = some r := ⟨_, List.getElem?_eq_getElem (by rw [HN.out]; exact hlt)⟩
      obtain ⟨⟨gj, kj, zj⟩, hx⟩ : ∃ x, l[j]? = some x := ⟨_, List.getElem?_eq_getElem (by rw [HLL.out]; exact hlt)⟩
      have hzj : zj = nmR t xs (ra, rb) := by
        have e1 : (nmQ l)[j]? = some zj := by rw [List.getElem?_map, hx]; rfl
        rw [HNL.out, List.getElem?_map, hr] at e1
        exact (Option.some.inj e1).symm
      have hrs := HRES.out _ (List.mem_of_getElem? hr)
      have HR := Lib.hid hr
      have hRj : Row wr gj zj := (HRW.out _ (List.mem_of_getElem? hx)).gr HT2.out hg2.gr
      have u2 : CellIs wr q j (.slice (some ⟨gj, 0, none⟩) zj.length kj) := QRow.at (VRow.gr HQ.out HT2.out hg2.gr (by decide) (by decide)) j _ hx
      have hgd : RL.getD j (0, 0) = (ra, rb) := by rw [List.getD_eq_getElem?_getD, hr]; rfl
      have hst : blA (tp t.S) (wc t.S ys) xs RL (j + 1) = match bst (tp t.S) (wc t.S ys) (resI xs (ordersP ra rb)) with | none => none | some q => some (L ++ [q.2]) := by
        rw [blA, hbl]
        dsimp only
        rw [hgd]
        cases bst (tp t.S) (wc t.S ys) (resI xs (ordersP ra rb)) <;> rfl
      have hLj := blA_length hbl
      have hwsn := fun (x : Int) => wsum_snoc RL L x (ra, rb) (by rw [hLj]; exact hr)
      rw [hs] at hwsn
      have hRRw : RRow wr gr RL := VRow.gr HRR.out HT0.out hg.gr (by decide) (by decide)
      obtain ⟨u0, u1⟩ := RRow.two hRRw j _ hr
      dsimp only at hrs u0 u1
      have hzl : zj.length = (resI xs (ordersP ra rb)).length := by rw [hzj]; simp [nmR]
      rw [hzj] at hRj
      rw [hzl] at u2
      have hBE := Lib.hid (best_any t HS.out (pwT xs + pwT ys) HIH.out (resI xs (ordersP ra rb)) _ ys Y gj kj wr hI rfl hrs.1 hrs.2.1 hrs.2.2 HY.out HEY.out hRj)
      obtain ⟨NR, hNR⟩ : ∃ NR, (resI xs (ordersP ra rb)).length = NR := ⟨_, rfl⟩
      rw [hNR] at hBE u2
      have HST := Lib.hid hst
      have HWS := Lib.hid hwsn
      have HBLJ := Lib.hid (⟨hb1, hs⟩ : (∀ P ∈ L, 0 ≤ P ∧ P ≤ tp t.S) ∧ wsum (RL.zip L) = s)
      have BT := HBT.out _ hI.st.1
      unfold CellIs at u2
      obtain ⟨c0, c1, c2, c3, c4, c5, c6, c7, c8, c9, c10, c11, c12, cf, cl⟩ := BT.thirteen
      clear hr hx hzj hrs hRj hgd hst hLj hwsn hRRw hzl hNR hbl hb1 hs
      go_wp2_with fail
      refine (hBE.out).mono ?_
      rintro e w3 ⟨f, y, cd, rfl, hI3, hga, hp, hbf⟩
      clear c0 c1 c2 c3 c4 c5 c6 c7 c8 c9 c10 c11 c12 cf cl
      have hs3 := hga.gr.size
      have hb : (∃ q, bst (tp t.S) (wc t.S ys) (resI xs (ordersP ra rb)) = some q ∧ y = q.2 ∧ cd = 0) ∨ (bst (tp t.S) (wc t.S ys) (resI xs (ordersP ra rb)) = none ∧ cd = 3 ∧ 0 ≤ y ∧ y ≤ tp t.S) := by
        cases hq : bst (tp t.S) (wc t.S ys) (resI xs (ordersP ra rb)) with
        | none => rw [hq] at hp; unfold PV at hp; exact .inr ⟨rfl, hp⟩
        | some q => rw [hq] at hp; unfold PV at hp; exact .inl ⟨q, rfl, hp⟩
      have hT := hI.tab
      replace BZ := hI.blk hga BZ
      replace BT := hT.gr BT hga.gr (by decide) (by decide)
      replace aZ := hga.aw _ hsz aZ
      replace hg := hg.trans hga
      replace hg2 := hg2.trans hga
      have hal : Below w3.heap.size w3 (w3.alloc (.cells #[.int .i64 y, .int .i64 cd] 73)) := (Below.refl _ _).alloc (Nat.le_refl _) _
      have BX := Blk.new w3 #[.int .i64 y, .int .i64 cd] 73
      replace BZ := BZ.below hal
      replace BT := BT.below hal
      replace aZ := aZ.below hal
      clear hI u0 u1 u2
      have hI := hI3.below hal
      replace hg := hg.then hal
      replace hg2 := hg2.then hal
      have hs4 := hal.size
      obtain ⟨z11, hz11⟩ : ∃ z, w3.heap.size = z := ⟨_, rfl⟩
      rw [hz11] at BX
      obtain ⟨x0, x1, xf, xl⟩ := BX.two
      clear hI3 hal hp hbf hT hga
      rcases hb with ⟨⟨qi, qv⟩, hbq, rfl, rfl⟩ | ⟨hbn, rfl, hy0, hy1⟩
      · have hst := HST.out
        rw [hbq] at hst
        dsimp only at hst
        have hbb2 := HBL.out (j + 1) _ hlt hst
        rw [HWS.out] at hbb2
        have hqv := hbb2.1 y (by simp)
        dsimp only at x0 x1 BX hqv ⊢
        obtain ⟨wv, hwv⟩ : ∃ wv, wgt (ra, rb) = wv := ⟨_, rfl⟩
        have hwi := wgt_in (ra, rb)
        rw [hwv] at hbb2 hwi
        have hmb : 0 ≤ y * wv ∧ y * wv ≤ 2000000000000000 := by
          have hw2 : wv = 1 ∨ wv = 2 := by omega
          rcases hw2 with e | e <;> rw [e] <;> omega
        have wm : IntKind.i64.wrap (y * wv) = y * wv := IntWalk.i64_in _ (by omega)
        obtain ⟨P, hP⟩ : ∃ P, y * wv = P := ⟨_, rfl⟩
        have hb4 := hbb2.2.1
        have hb5 := hbb2.2.2
        rw [hP] at hb4 hb5 hmb wm
        have wa : IntKind.i64.wrap (s + P) = s + P := IntWalk.i64_in _ (by omega)
        have HST2 := Lib.hid hst
        have HP := Lib.hid hP
        have HWV := Lib.hid hwv
        clear hst hbb2 hbq hP hwv
        go_wp2_with fail
        (try rw [hz11])
        generalize (w3.alloc (.cells #[.int .i64 y, .int .i64 0] 73)) = w4 at *
        have hRRw : RRow w4 gr RL := VRow.gr HRR.out HT0.out hg.gr (by decide) (by decide)
        obtain ⟨u0, u1⟩ := RRow.two hRRw j _ HR.out
        dsimp only at u0 u1
        clear hRRw x0 x1 xf xl
        replace hI := hI.drew
        replace hg := hg.drew
        replace hg2 := hg2.drew
        replace BZ := BZ.drew
        replace BX := BX.drew
        replace BT := BT.drew
        replace aZ := aZ.drew
        have u0 : CellIs w4.drew gr (j * 2) (.int .i64 ra) := u0
        have u1 : CellIs w4.drew gr (j * 2 + 1) (.int .i64 rb) := u1
        unfold CellIs at u0 u1
        refine wp_region_held_drew (S := fun w' => w'.cell? ⟨t.g, 6, none⟩ = some (.slice (some ⟨gr, 0, none⟩) n t.kr) ∧ w'.cell? ⟨gr, j * 2, none⟩ = some (.int .i64 ra) ∧ w'.cell? ⟨gr, j * 2 + 1, none⟩ = some (.int .i64 rb) ∧ w'.cell? ⟨z11, 0, none⟩ = some (.int .i64 y)) (by kernel_rfl) ⟨BT.thirteen.2.2.2.2.2.2.1, u0, u1, BX.two.1⟩ (fun hHeld => ?_)
        clear hHeld
        have hz_vd : w4.drew.heap.size = w4.heap.size := rfl
        generalize w4.drew = vd at *
        have hHeld : vd.cell? ⟨t.g, 6, none⟩ = some (.slice (some ⟨gr, 0, none⟩) n t.kr) ∧ vd.cell? ⟨gr, j * 2, none⟩ = some (.int .i64 ra) ∧ vd.cell? ⟨gr, j * 2 + 1, none⟩ = some (.int .i64 rb) ∧ vd.cell? ⟨z11, 0, none⟩ = some (.int .i64 y) := ⟨BT.thirteen.2.2.2.2.2.2.1, u0, u1, BX.two.1⟩
        refine wpAnyH_take (i := 0) (oi := ⟨some 32, _, _, _, _, _⟩) (v := ?_) rfl (by kernel_rfl) (by kernel_rfl) (by kernel_rfl) (fun _ _ _ h => h) (Or.inl ⟨by rfl, ?_⟩) (by assumption) ?_
        rotate_left
        · intro w hSw; (try dsimp only at hSw); go_simp; (try (with_reducible rfl))
        try simp only [Act.put, List.setIfInBounds_toArray, List.set_cons_zero, List.set_cons_succ]
        refine wpAnyH_take (i := 1) (oi := ⟨some 33, _, _, _, _, _⟩) (v := ?_) rfl (by kernel_rfl) (by kernel_rfl) (by kernel_rfl) (fun _ _ _ h => h) (Or.inl ⟨by rfl, ?_⟩) (by assumption) ?_
        rotate_left
        · intro w hSw; (try dsimp only at hSw); go_simp; (try (with_reducible rfl))
        try simp only [Act.put, List.setIfInBounds_toArray, List.set_cons_zero, List.set_cons_succ]
        refine wpAnyH_take (i := 2) (oi := ⟨some 34, _, _, _, _, _⟩) (v := ?_) rfl (by kernel_rfl) (by kernel_rfl) (by kernel_rfl) (fun _ _ _ h => h) (Or.inl ⟨by rfl, ?_⟩) (by assumption) ?_
        rotate_left
        · intro w hSw; (try dsimp only at hSw); go_simp; (try (with_reducible rfl))
        try simp only [Act.put, List.setIfInBounds_toArray, List.set_cons_zero, List.set_cons_succ]
        refine wpAnyH_take (i := 3) (oi := ⟨some 35, _, _, _, _, _⟩) (v := ?_) rfl (by kernel_rfl) (by kernel_rfl) (by kernel_rfl) (fun _ _ _ h => h) (Or.inl ⟨by rfl, ?_⟩) (by assumption) ?_
        rotate_left
        · intro w hSw; (try dsimp only at hSw); go_simp; (try (with_reducible rfl))
        try simp only [Act.put, List.setIfInBounds_toArray, List.set_cons_zero, List.set_cons_succ]
        refine wpAnyH_take (i := 4) (oi := ⟨some 36, _, _, _, _, _⟩) (v := ?_) rfl (by kernel_rfl) (by kernel_rfl) (by kernel_rfl) (fun _ _ _ h => h) (Or.inl ⟨by rfl, ?_⟩) (by assumption) ?_
        rotate_left
        · intro w hSw; (try dsimp only at hSw); go_simp; (try (with_reducible rfl))
        try simp only [Act.put, List.setIfInBounds_toArray, List.set_cons_zero, List.set_cons_succ]
        refine wpAnyH_take (i := 5) (oi := ⟨some 37, _, _, _, _, _⟩) (v := ?_) rfl (by kernel_rfl) (by kernel_rfl) (by kernel_rfl) (fun _ _ _ h => h) (Or.inl ⟨by rfl, ?_⟩) (by assumption) ?_
        rotate_left
        · intro w hSw; (try dsimp only at hSw); go_simp; (try (with_reducible rfl))
        try simp only [Act.put, List.setIfInBounds_toArray, List.set_cons_zero, List.set_cons_succ]
        refine wpAnyH_take (i := 6) (oi := ⟨some 38, _, _, _, _, _⟩) (v := ?_) rfl (by kernel_rfl) (by kernel_rfl) (by kernel_rfl) (fun _ _ _ h => h) (Or.inl ⟨by rfl, ?_⟩) (by assumption) ?_
        rotate_left
        · intro w hSw; (try dsimp only at hSw); go_simp; (try (with_reducible rfl))
        try simp only [Act.put, List.setIfInBounds_toArray, List.set_cons_zero, List.set_cons_succ]
        refine wpAnyH_take (i := 7) (oi := ⟨some 39, _, _, _, _, _⟩) (v := ?_) rfl (by kernel_rfl) (by kernel_rfl) (by kernel_rfl) (fun _ _ _ h => h) (Or.inl ⟨by rfl, ?_⟩) (by assumption) ?_
        rotate_left
        · intro w hSw; (try dsimp only at hSw); go_simp; (try (with_reducible rfl))
        try simp only [Act.put, List.setIfInBounds_toArray, List.set_cons_zero, List.set_cons_succ]
        refine wpAnyH_take (i := 8) (oi := ⟨some 40, _, _, _, _, _⟩) (v := ?_) rfl (by kernel_rfl) (by kernel_rfl) (by kernel_rfl) (fun _ _ _ h => h) (Or.inl ⟨by rfl, ?_⟩) (by assumption) ?_
        rotate_left
        · intro w hSw; (try dsimp only at hSw); go_simp; (try (with_reducible rfl))
        try simp only [Act.put, List.setIfInBounds_toArray, List.set_cons_zero, List.set_cons_succ]
        refine wpAnyH_take (i := 9) (oi := ⟨some 41, _, _, _, _, _⟩) (v := ?_) rfl (by kernel_rfl) (by kernel_rfl) (by kernel_rfl) (fun _ _ _ h => h) (Or.inl ⟨by rfl, ?_⟩) (by assumption) ?_
        rotate_left
        · intro w hSw; (try dsimp only at hSw); go_simp; (try (with_reducible rfl))
        try simp only [Act.put, List.setIfInBounds_toArray, List.set_cons_zero, List.set_cons_succ]
        refine wpAnyH_ready (rs := [10]) (by kernel_rfl) (by simp) ?_
        refine AllReadyH.cons (o := ⟨some 42, _, _, _, _, _⟩) rfl (fun K hK => ?_) AllReadyH.nil
        go_simp
        refine (implWeight_any ra rb _).mono ?_
        rintro e w5 ⟨rfl, hb5⟩
        have hs5 := hb5.size
        replace hI := hI.below hb5
        replace BZ := BZ.below hb5
        replace BX := BX.below hb5
        replace BT := BT.below hb5
        replace aZ := aZ.below hb5
        replace hg := hg.then hb5
        replace hg2 := hg2.then hb5
        replace u0 := CellIs.below (b := gr) (o := j * 2) u0 hb5
        replace u1 := CellIs.below (b := gr) (o := j * 2 + 1) u1 hb5
        unfold CellIs at u0 u1
        clear hb5
        rw [show (if ra = rb then (1 : Int) else 2) = wv from HWV.out]
        (try go_wp2_with fail)
        refine hK.out _ _ ⟨BT.thirteen.2.2.2.2.2.2.1, u0, u1, BX.two.1⟩ (fun hHeld => ?_)
        clear hK K
        try simp only [Act.put, List.setIfInBounds_toArray, List.set_cons_zero, List.set_cons_succ]
        refine wpAnyH_take (i := 11) (oi := ⟨some 43, _, _, _, _, _⟩) (v := ?_) rfl (by kernel_rfl) (by kernel_rfl) (by kernel_rfl) (fun _ _ _ h => h) (Or.inl ⟨by rfl, ?_⟩) (by assumption) ?_
        rotate_left
        · intro w hSw; (try dsimp only at hSw); go_simp; (try (with_reducible rfl))
        try simp only [Act.put, List.setIfInBounds_toArray, List.set_cons_zero, List.set_cons_succ]
        refine wpAnyH_take (i := 12) (oi := ⟨some 44, _, _, _, _, _⟩) (v := ?_) rfl (by kernel_rfl) (by kernel_rfl) (by kernel_rfl) (fun _ _ _ h => h) (Or.inl ⟨by rfl, ?_⟩) (by assumption) ?_
        rotate_left
        · intro w hSw; (try dsimp only at hSw); go_simp; (try (with_reducible rfl))
        try simp only [Act.put, List.setIfInBounds_toArray, List.set_cons_zero, List.set_cons_succ]
        refine wpAnyH_take (i := 13) (oi := ⟨some 7, _, _, _, _, _⟩) (v := ?_) rfl (by kernel_rfl) (by kernel_rfl) (by kernel_rfl) (fun _ _ _ h => h) (Or.inl ⟨by rfl, ?_⟩) (by assumption) ?_
        rotate_left
        · intro w hSw; (try dsimp only at hSw); go_simp; (try (with_reducible rfl))
        try simp only [Act.put, List.setIfInBounds_toArray, List.set_cons_zero, List.set_cons_succ]
        refine wpAnyH_done (by kernel_rfl) ?_ _
        clear hHeld
        go_wp2
        go_roundg (n - (j + 1))
        case measure => omega
        case rel => exact ⟨_, j + 1, L ++ [y], rfl, by omega, rfl, by go_num, by rw [HP.out, wm, wa, HWS.out, HWV.out, HP.out], HST2.out, hI, hg, hg2, BZ, aZ, by omega⟩
      · have hst := HST.out
        rw [hbn] at hst
        dsimp only at hst
        have HNO := Lib.hid (blA_none hst n (by omega))
        have HYB := Lib.hid (⟨hy0, hy1⟩ : 0 ≤ y ∧ y ≤ tp t.S)
        clear hst hbn hy0 hy1
        have HI3 := Lib.hid ((hI.away (o := 0) (u := .int .i64 y) aZ BZ).away (o := 1) (u := .int .i64 3) (aZ.away BZ) (BZ.set (i := 0) (.int .i64 y)))
        have HG3 := Lib.hid ((hg.away (o := 0) (u := .int .i64 y) hz6 BZ).away (o := 1) (u := .int .i64 3) hz6 (BZ.set (i := 0) (.int .i64 y)))
        have BZn := (BZ.set (i := 0) (.int .i64 y)).set (i := 1) (.int .i64 3)
        simp only [List.setIfInBounds_toArray, List.set_cons_zero, List.set_cons_succ] at BZn
        obtain ⟨z0, z1, zf, zl⟩ := BZ.two
        have HBZ := Lib.hid BZn
        clear BZn
        go_wp2_with fail
        obtain ⟨t0, t1, tf, tl⟩ := HBZ.out.two
        refine bodyPost_ret (v := .agg #[.int .i64 y, .int .i64 3]) (by simp [results, Tryz.results103, go_sem, t0, t1]) rfl ?_
        rw [HNO.out]
        exact ⟨y, 3, rfl, ⟨rfl, HYB.out.1, HYB.out.2⟩, HI3.out, HG3.out⟩
    · obtain rfl : j = n := by omega
      have hfin : blA (tp t.S) (wc t.S ys) xs RL j = some L := hbl
      have hmp : mnP t.S (blA (tp t.S) (wc t.S ys) xs RL j) = if s % ((t.S * t.S : Nat) : Int) = 0 then some (s / ((t.S * t.S : Nat) : Int)) else none := by
        rw [hbl]
        unfold mnP
        dsimp only
        rw [HRL.out, hs]
      have hbs := fun W (h : ScM W t.b t.S (nn t.S)) => base_any t.b t.S HS.out W h
      have hq1 : 0 ≤ s / ((t.S * t.S : Nat) : Int) := Int.ediv_nonneg hb2 (by omega)
      have hq2 : s / ((t.S * t.S : Nat) : Int) ≤ s := Int.ediv_le_self _ hb2
      have HSM := Lib.hid hI.st.2.2.1
      have BT := HBT.out _ hI.st.1
      obtain ⟨B, hBe⟩ : ∃ B : Int, ((t.S * t.S : Nat) : Int) = B := ⟨_, rfl⟩
      rw [hBe] at hbs hq1 hq2 hmp
      have hB1 : 1 ≤ B ∧ B ≤ 36 := by omega
      have HBS := Lib.hid hbs
      clear hbs hBe hfin hbl hs
      obtain ⟨c0, c1, c2, c3, c4, c5, c6, c7, c8, c9, c10, c11, c12, cf, cl⟩ := BT.thirteen
      by_cases hmod : s % B = 0
      · rw [if_pos hmod] at hmp
        have f0 : (s % B != 0) = false := by rw [hmod]; rfl
        have f1 : s.tmod B = 0 := by rw [Int.tmod_eq_emod_of_nonneg hb2]; exact hmod
        have f2 : s.tdiv B = s / B := Int.tdiv_eq_ediv_of_nonneg hb2
        have f3 : (B == 0) = false := by rw [beq_eq_false_iff_ne]; omega
        have f4 : (s.tmod B != 0) = false := by rw [f1]; rfl
        obtain ⟨Q, hQ⟩ : ∃ Q, s / B = Q := ⟨_, rfl⟩
        rw [hQ] at hq1 hq2 f2 hmp
        have HMP := Lib.hid hmp
        clear hmp hQ
        go_wp2_with fail
        refine (HBS.out _ HSM.out).mono ?_
        rintro e wq ⟨rfl, rfl⟩
        go_wp2_with fail
        refine (HBS.out _ HSM.out).mono ?_
        rintro e wq ⟨rfl, rfl⟩
        have HI3 := Lib.hid ((hI.away (o := 0) (u := .int .i64 Q) aZ BZ).away (o := 1) (u := .int .i64 0) (aZ.away BZ) (BZ.set (i := 0) (.int .i64 Q)))
        have HG3 := Lib.hid ((hg.away (o := 0) (u := .int .i64 Q) hz6 BZ).away (o := 1) (u := .int .i64 0) hz6 (BZ.set (i := 0) (.int .i64 Q)))
        have BZn := (BZ.set (i := 0) (.int .i64 Q)).set (i := 1) (.int .i64 0)
        simp only [List.setIfInBounds_toArray, List.set_cons_zero, List.set_cons_succ] at BZn
        obtain ⟨z0, z1, zf, zl⟩ := BZ.two
        have HBZ := Lib.hid BZn
        clear BZn
        go_wp2_with fail
        obtain ⟨t0, t1, tf, tl⟩ := HBZ.out.two
        refine bodyPost_ret (v := .agg #[.int .i64 Q, .int .i64 0]) (by simp [results, Tryz.results103, go_sem, t0, t1]) rfl ?_
        rw [HMP.out]
        exact ⟨Q, 0, rfl, ⟨rfl, rfl⟩, HI3.out, HG3.out⟩
      · rw [if_neg hmod] at hmp
        have HMP := Lib.hid hmp
        clear hmp
        have f0 : (s % B != 0) = true := by rw [bne_iff_ne]; exact hmod
        have f1 : s.tmod B = s % B := Int.tmod_eq_emod_of_nonneg hb2
        have f3 : (B == 0) = false := by rw [beq_eq_false_iff_ne]; omega
        have f4 : (s.tmod B != 0) = true := by rw [f1]; exact f0
        go_wp2_with fail
        refine (HBS.out _ HSM.out).mono ?_
        rintro e wq ⟨rfl, rfl⟩
        have HI3 := Lib.hid ((hI.away (o := 0) (u := .int .i64 0) aZ BZ).away (o := 1) (u := .int .i64 3) (aZ.away BZ) (BZ.set (i := 0) (.int .i64 0)))
        have HG3 := Lib.hid ((hg.away (o := 0) (u := .int .i64 0) hz6 BZ).away (o := 1) (u := .int .i64 3) hz6 (BZ.set (i := 0) (.int .i64 0)))
        have BZn := (BZ.set (i := 0) (.int .i64 0)).set (i := 1) (.int .i64 3)
        simp only [List.setIfInBounds_toArray, List.set_cons_zero, List.set_cons_succ] at BZn
        obtain ⟨z0, z1, zf, zl⟩ := BZ.two
        have HBZ := Lib.hid BZn
        clear BZn
        go_wp2_with fail
        obtain ⟨t0, t1, tf, tl⟩ := HBZ.out.two
        refine bodyPost_ret (v := .agg #[.int .i64 0, .int .i64 3]) (by simp [results, Tryz.results103, go_sem, t0, t1]) rfl ?_
        rw [HMP.out]
        exact ⟨0, 3, rfl, ⟨rfl, by omega, by omega⟩, HI3.out, HG3.out⟩
theorem TabI.put {t : Tb} {w : World} {xs ys : List Int} {q : Nat} {y cd : Int} (h : TabI t w) (h1 : t.In xs) (h2 : t.In ys) (hq : Blk w q #[.int .i64 y, .int .i64 cd] 73) (hv : PV t.S (wc t.S xs ys) y cd) :
    TabI t (w.setCell ⟨t.gC, nm t.c xs * t.K + nm t.c ys, none⟩ (.pointer (some ⟨q, 0, none⟩))) := by
  have hT := h.tab
  have hg : Gr t.gR t.gC w (w.setCell ⟨t.gC, nm t.c xs * t.K + nm t.c ys, none⟩ (.pointer (some ⟨q, 0, none⟩))) := Gr.grownC (grown_set (show w.grownBy w (some t.gC) from ⟨rfl, rfl, rfl, Nat.le_refl _, fun _ _ _ => rfl⟩))
  refine ⟨h.st.gr hT hg, h.ch.put h.rs h1 h2 hq hv, ?_⟩
  obtain ⟨cur, hB, r⟩ := h.rs
  obtain ⟨_, ⟨cC, bC⟩⟩ := id hT
  refine ⟨cur, hB.other (hB.ne bC (by decide)), fun us k1 => ?_⟩
  obtain ⟨v, e, c⟩ := r us k1
  exact ⟨v, e, c.gr hT hg⟩
theorem GA.put {t : Tb} {w w' : World} {i q : Nat} (h : GA t w w') (hq : w.heap.size ≤ q) : GA t w (w'.setCell ⟨t.gC, i, none⟩ (.pointer (some ⟨q, 0, none⟩))) := by
  have hg : Gr t.gR t.gC w' (w'.setCell ⟨t.gC, i, none⟩ (.pointer (some ⟨q, 0, none⟩))) := Gr.grownC (grown_set (show w'.grownBy w' (some t.gC) from ⟨rfl, rfl, rfl, Nat.le_refl _, fun _ _ _ => rfl⟩))
  refine ⟨h.gr.trans hg, fun z hz a => ?_⟩
  obtain ⟨cur, hB, r⟩ := h.aw z hz a
  refine ⟨_, hB.set _, fun xs ys h1 h2 e => ?_⟩
  by_cases c : i = nm t.c xs * t.K + nm t.c ys
  · subst c
    rw [Array.getElem?_setIfInBounds_self] at e
    split at e
    · injection e with e
      simp at e <;> omega
    · cases e
  · rw [Array.getElem?_setIfInBounds_ne c] at e
    exact r xs ys h1 h2 e
theorem Aw.put {t : Tb} {w : World} {z i q : Nat} (h : Aw t w z) (hne : z ≠ q) : Aw t (w.setCell ⟨t.gC, i, none⟩ (.pointer (some ⟨q, 0, none⟩))) z := by
  obtain ⟨cur, hB, r⟩ := h
  refine ⟨_, hB.set _, fun xs ys h1 h2 e => ?_⟩
  by_cases c : i = nm t.c xs * t.K + nm t.c ys
  · subst c
    rw [Array.getElem?_setIfInBounds_self] at e
    split at e
    · injection e with e
      simp at e <;> omega
    · cases e
  · rw [Array.getElem?_setIfInBounds_ne c] at e
    exact r xs ys h1 h2 e
set_option maxRecDepth 8000 in
set_option maxHeartbeats 2000000 in
theorem win_step (t : Tb) (hS : 1 ≤ t.S ∧ t.S ≤ 6) (few : fewB t.c t.h = true) (hK : t.K ≤ 1000) (xs ys : List Int) (X Y : Nat) (IH : WinOk t (pwT xs + pwT ys)) (w : World) (hI : TabI t w) (hx : t.In xs) (hy : t.In ys) (eX : nm t.c xs = X) (eY : nm t.c ys = Y) :
    Calls Tryz.prog 57 #[.pointer (some ⟨t.g, 0, none⟩), .int .i64 X, .int .i64 Y] w (PGot t (wc t.S xs ys) w) := by
  have hXK : X < t.K := by rw [← eX]; exact hx.2
  have hYK : Y < t.K := by rw [← eY]; exact hy.2
  have hzx := nm_zero hx.1
  have hzy := nm_zero hy.1
  rw [eX] at hzx
  rw [eY] at hzy
  by_cases c1 : X = 0
  · have hw : wc t.S xs ys = some (tp t.S) := wc_own (hzx.1 c1)
    rw [hw]
    subst c1
    clear hw hzx hzy few IH hx hy eX eY hXK hYK hK
    have HI0 := Lib.hid hI
    have BZ := Blk.new w #[.int .i64 0, .int .i64 0] 73
    have hal : Below w.heap.size w (w.alloc (.cells #[.int .i64 0, .int .i64 0] 73)) := (Below.refl _ _).alloc (Nat.le_refl _) _
    have aZ := (Aw.fresh hI.ch (Nat.le_refl w.heap.size)).below hal
    replace hI := hI.below hal
    have hg : GA t w (w.alloc (.cells #[.int .i64 0, .int .i64 0] 73)) := GA.of hal
    obtain ⟨z6, hz6e⟩ : ∃ z, w.heap.size = z := ⟨_, rfl⟩
    have hz6 : w.heap.size ≤ z6 := by omega
    have hz1 : z6 < (w.alloc (.cells #[.int .i64 0, .int .i64 0] 73)).heap.size := by simp; omega
    rw [hz6e] at BZ aZ
    have BT := hI.st.1
    obtain ⟨c0, c1, c2, c3, c4, c5, c6, c7, c8, c9, c10, c11, c12, cf, cl⟩ := BT.thirteen
    go_enter Tryz.func57, Tryz.ntmps57
    have hal0 : Below w.heap.size w (w.alloc (.cells #[.int .i64 (tp t.S), .int .i64 0] 73)) := (Below.refl _ _).alloc (Nat.le_refl _) _
    have HI3 := Lib.hid (HI0.out.below hal0)
    have HG3 := Lib.hid (show GA t w (w.alloc (.cells #[.int .i64 (tp t.S), .int .i64 0] 73)) from GA.of hal0)
    have HBZ := Lib.hid (Blk.new w #[.int .i64 (tp t.S), .int .i64 0] 73)
    clear hal0
    go_wp2_with fail
    obtain ⟨t0, t1, tf, tl⟩ := HBZ.out.two
    rw [hz6e] at t0 t1
    refine bodyPost_ret (v := .agg #[.int .i64 (tp t.S), .int .i64 0]) (by simp [results, Tryz.results57, go_sem, t0, t1]) rfl ?_
    exact ⟨tp t.S, 0, rfl, ⟨rfl, rfl⟩, HI3.out, HG3.out⟩
  · have f1 : ((X : Int) == 0) = false := by rw [beq_eq_false_iff_ne]; omega
    by_cases c2 : Y = 0
    · have hw : wc t.S xs ys = some 0 := wc_other (fun e => c1 (hzx.2 e)) (hzy.1 c2)
      rw [hw]
      subst c2
      clear hw hzx hzy few IH hx hy eX eY hXK hYK hK
      have HI0 := Lib.hid hI
      have BZ := Blk.new w #[.int .i64 0, .int .i64 0] 73
      have hal : Below w.heap.size w (w.alloc (.cells #[.int .i64 0, .int .i64 0] 73)) := (Below.refl _ _).alloc (Nat.le_refl _) _
      have aZ := (Aw.fresh hI.ch (Nat.le_refl w.heap.size)).below hal
      replace hI := hI.below hal
      have hg : GA t w (w.alloc (.cells #[.int .i64 0, .int .i64 0] 73)) := GA.of hal
      obtain ⟨z6, hz6e⟩ : ∃ z, w.heap.size = z := ⟨_, rfl⟩
      have hz6 : w.heap.size ≤ z6 := by omega
      have hz1 : z6 < (w.alloc (.cells #[.int .i64 0, .int .i64 0] 73)).heap.size := by simp; omega
      rw [hz6e] at BZ aZ
      have BT := hI.st.1
      go_enter Tryz.func57, Tryz.ntmps57
      have hal0 : Below w.heap.size w (w.alloc (.cells #[.int .i64 0, .int .i64 0] 73)) := (Below.refl _ _).alloc (Nat.le_refl _) _
      have HI3 := Lib.hid (HI0.out.below hal0)
      have HG3 := Lib.hid (show GA t w (w.alloc (.cells #[.int .i64 0, .int .i64 0] 73)) from GA.of hal0)
      have HBZ := Lib.hid (Blk.new w #[.int .i64 0, .int .i64 0] 73)
      clear hal0
      go_wp2_with fail
      obtain ⟨t0, t1, tf, tl⟩ := HBZ.out.two
      rw [hz6e] at t0 t1
      refine bodyPost_ret (v := .agg #[.int .i64 0, .int .i64 0]) (by simp [results, Tryz.results57, go_sem, t0, t1]) rfl ?_
      exact ⟨0, 0, rfl, ⟨rfl, rfl⟩, HI3.out, HG3.out⟩
    · have f2 : ((Y : Int) == 0) = false := by rw [beq_eq_false_iff_ne]; omega
      have hxs : xs.sum ≠ 0 := fun e => c1 (hzx.2 e)
      have hys : ys.sum ≠ 0 := fun e => c2 (hzy.2 e)
      obtain ⟨a1, a2, a3, -⟩ := hx.1.po
      have hw := wc_step hS a2 a3 a1 hy.1.po.1 hxs hys
      have HM := Lib.hid (fun W (h : TabI t W) => mean_any t hS few xs ys X Y IH W h hx hy eX eY hxs)
      have HW := Lib.hid hw
      have hmul : X * t.K + Y < t.K * t.K := by
        have h1 := Nat.mul_le_mul_right t.K (show X + 1 ≤ t.K by omega)
        rw [Nat.add_mul] at h1
        omega
      have hkk : t.K * t.K ≤ 1000 * 1000 := Nat.mul_le_mul hK hK
      obtain ⟨KK, hKK⟩ : ∃ KK, t.K * t.K = KK := ⟨_, rfl⟩
      obtain ⟨M, hM⟩ : ∃ M, X * t.K = M := ⟨_, rfl⟩
      obtain ⟨I, hIe⟩ : ∃ I, M + Y = I := ⟨_, rfl⟩
      rw [hKK] at hmul hkk
      rw [hM, hIe] at hmul
      have w1_ : IntKind.i64.wrap ((X : Int) * (t.K : Int)) = (M : Int) := by
        rw [← Int.natCast_mul, hM]
        exact IntWalk.i64_in _ (by omega)
      have w2_ : IntKind.i64.wrap ((M : Int) + (Y : Int)) = (I : Int) := by
        rw [← Int.natCast_add, hIe]
        exact IntWalk.i64_in _ (by omega)
      have i0 : (0 : Int) ≤ (I : Int) := by omega
      have i1 : (I : Int) < (KK : Int) := by omega
      have eI : nm t.c xs * t.K + nm t.c ys = I := by rw [eX, eY, hM, hIe]
      have HBT := Lib.hid (show ∀ W, Blk W t.g t.cells 84 → Blk W t.g #[.int .i64 t.p, .int .i64 t.c, .int .i64 t.h, .int .i64 (t.S : Int), .pointer (some ⟨t.gw, 0, none⟩), .map (some t.b), .slice t.ar (rollsTo t.S).length t.kr, .int .i64 (dm t.S : Int), .int .i64 (tp t.S), .int .i64 0, .int .i64 (t.K : Int), .slice (some ⟨t.gR, 0, none⟩) t.K t.K, .slice (some ⟨t.gC, 0, none⟩) KK KK] 84 from fun W q => by
        rw [Tb.cells, hKK] at q
        exact q)
      have HX := Lib.hid (⟨hx, hy⟩ : t.In xs ∧ t.In ys)
      have HEI := Lib.hid eI
      have HCH := Lib.hid (show ∀ W, TabI t W → ∃ v, W.cell? ⟨t.gC, I, none⟩ = some v ∧ (∀ i, W.frozen? ⟨t.gC, i, none⟩ = false) ∧ ChC t W v xs ys from fun W h => by
        obtain ⟨cur, hB, r⟩ := h.ch
        obtain ⟨v, hv, hc⟩ := r xs ys hx hy
        rw [eI] at hv
        exact ⟨v, by rw [hB.cell I, hv], fun i => hB.free i, hc⟩)
      clear hw hzx hzy few IH eX eY hK hXK hYK hmul hkk hKK hM hIe c1 c2 hxs hys a1 a2 a3 hx hy eI
      have HI0 := Lib.hid hI
      have BZ := Blk.new w #[.int .i64 0, .int .i64 0] 73
      have hal : Below w.heap.size w (w.alloc (.cells #[.int .i64 0, .int .i64 0] 73)) := (Below.refl _ _).alloc (Nat.le_refl _) _
      have aZ := (Aw.fresh hI.ch (Nat.le_refl w.heap.size)).below hal
      replace hI := hI.below hal
      have hg : GA t w (w.alloc (.cells #[.int .i64 0, .int .i64 0] 73)) := GA.of hal
      obtain ⟨z6, hz6e⟩ : ∃ z, w.heap.size = z := ⟨_, rfl⟩
      have hz6 : w.heap.size ≤ z6 := by omega
      have hz1 : z6 < (w.alloc (.cells #[.int .i64 0, .int .i64 0] 73)).heap.size := by simp; omega
      rw [hz6e] at BZ aZ
      have BT := HBT.out _ hI.st.1
      obtain ⟨v, cC, cF, hc⟩ := HCH.out _ hI
      rcases hc with rfl | ⟨q, y, cd, rfl, hq, hp⟩
      rotate_left
      · obtain ⟨q0, q1, qf, ql⟩ := hq.two
        obtain ⟨c0, c1, c2, c3, c4, c5, c6, c7, c8, c9, c10, c11, c12, cf, cl⟩ := BT.thirteen
        have HP := Lib.hid hp
        clear hp
        go_enter Tryz.func57, Tryz.ntmps57
        have hal0 : Below w.heap.size w (w.alloc (.cells #[.int .i64 y, .int .i64 cd] 73)) := (Below.refl _ _).alloc (Nat.le_refl _) _
        have HI3 := Lib.hid (HI0.out.below hal0)
        have HG3 := Lib.hid (show GA t w (w.alloc (.cells #[.int .i64 y, .int .i64 cd] 73)) from GA.of hal0)
        have HBZ := Lib.hid (Blk.new w #[.int .i64 y, .int .i64 cd] 73)
        clear hal0
        go_wp2_with fail
        obtain ⟨t0, t1, tf, tl⟩ := HBZ.out.two
        rw [hz6e] at t0 t1
        refine bodyPost_ret (v := .agg #[.int .i64 y, .int .i64 cd]) (by simp [results, Tryz.results57, go_sem, t0, t1]) rfl ?_
        skip
        exact ⟨y, cd, rfl, HP.out, HI3.out, HG3.out⟩
      · obtain ⟨c0, c1, c2, c3, c4, c5, c6, c7, c8, c9, c10, c11, c12, cf, cl⟩ := BT.thirteen
        go_enter Tryz.func57, Tryz.ntmps57
        go_wp2_with fail
        refine (HM.out _ hI).mono ?_
        rintro e w3 ⟨y, cd, rfl, hp, hI3, hga⟩
        clear c0 c1 c2 c3 c4 c5 c6 c7 c8 c9 c10 c11 c12 cf cl
        have hs3 := hga.gr.size
        have hz63 : z6 < w3.heap.size := by omega
        rw [← HW.out] at hp
        replace BZ := hI.blk hga BZ
        replace aZ := hga.aw _ hz1 aZ
        replace hg := hg.trans hga
        clear hga hI BT cC cF hz1
        have BX := Blk.new w3 #[.int .i64 y, .int .i64 cd] 73
        have hal2 : Below w3.heap.size w3 (w3.alloc (.cells #[.int .i64 y, .int .i64 cd] 73)) := (Below.refl _ _).alloc (Nat.le_refl _) _
        replace BZ := BZ.below hal2
        replace aZ := aZ.below hal2
        replace hg := hg.then hal2
        have hI4 := hI3.below hal2
        clear hI3 hal2
        obtain ⟨z8, hz8⟩ : ∃ z, w3.heap.size = z := ⟨_, rfl⟩
        rw [hz8] at BX
        have hne : z6 ≠ z8 := by omega
        have hz8w : w.heap.size ≤ z8 := by omega
        obtain ⟨cur, hB, hr⟩ := hI4.ch
        have hT4 := hI4.tab
        obtain ⟨v4, c4, f4, -⟩ := HCH.out _ hI4
        have hI5 := hI4.put HX.out.1 HX.out.2 BX hp
        rw [HEI.out] at hI5
        have hB5 := hB.set (i := I) (.pointer (some ⟨z8, 0, none⟩))
        have c5 : ((w3.alloc (.cells #[.int .i64 y, .int .i64 cd] 73)).setCell ⟨t.gC, I, none⟩ (.pointer (some ⟨z8, 0, none⟩))).cell? ⟨t.gC, I, none⟩ = some (.pointer (some ⟨z8, 0, none⟩)) := by
          rw [hB5.cell I, Array.getElem?_setIfInBounds_self, if_pos]
          rw [hB.cell I] at c4
          exact (Array.getElem?_eq_some_iff.1 c4).1
        have BX5 := BX.other (g := t.gC) (o := I) (v := .pointer (some ⟨z8, 0, none⟩)) (BX.ne hB (by decide))
        have BZ5 := BZ.other (g := t.gC) (o := I) (v := .pointer (some ⟨z8, 0, none⟩)) (BZ.ne hB (by decide))
        have aZ5 := aZ.put (i := I) hne
        have hg5 := hg.put (i := I) hz8w
        have BT4 := HBT.out _ hI4.st.1
        have BT5 := HBT.out _ hI5.st.1
        have HP := Lib.hid hp
        obtain ⟨x0, x1, xf, xl⟩ := BX5.two
        obtain ⟨z0, z1, zf, zl⟩ := BZ5.two
        obtain ⟨c0, c1, c2, c3, c4, c5, c6, c7, c8, c9, c10, c11, c12, cf, cl⟩ := BT4.thirteen
        obtain ⟨d0, d1, d2, d3, d4, d5, d6, d7, d8, d9, d10, d11, d12, df, dl⟩ := BT5.thirteen
        have HI3 := Lib.hid ((hI5.away (o := 0) (u := .int .i64 y) aZ5 BZ5).away (o := 1) (u := .int .i64 cd) (aZ5.away BZ5) (BZ5.set (i := 0) (.int .i64 y)))
        have HG3 := Lib.hid ((hg5.away (o := 0) (u := .int .i64 y) hz6 BZ5).away (o := 1) (u := .int .i64 cd) hz6 (BZ5.set (i := 0) (.int .i64 y)))
        have BZn := (BZ5.set (i := 0) (.int .i64 y)).set (i := 1) (.int .i64 cd)
        simp only [List.setIfInBounds_toArray, List.set_cons_zero, List.set_cons_succ] at BZn
        have HBZ := Lib.hid BZn
        clear BZn hp hI4 hI5 hB hr hB5 BX BX5 BZ BZ5 aZ aZ5 hg hg5 BT4 BT5 hT4
        go_wp2_with fail
        obtain ⟨t0, t1, tf, tl⟩ := HBZ.out.two
        refine bodyPost_ret (v := .agg #[.int .i64 y, .int .i64 cd]) (by simp [results, Tryz.results57, go_sem, t0, t1]) rfl ?_
        exact ⟨y, cd, rfl, HP.out, HI3.out, HG3.out⟩
theorem win_all (t : Tb) (hS : 1 ≤ t.S ∧ t.S ≤ 6) (few : fewB t.c t.h = true) (hK : t.K ≤ 1000) : ∀ n : Nat, WinOk t (n : Int)
  | 0, xs, ys, X, Y, w, hI, hx, hy, eX, eY, hlt => by
    have h1 := pw_pos hx.1.po.1
    have h2 := pw_pos hy.1.po.1
    omega
  | n + 1, xs, ys, X, Y, w, hI, hx, hy, eX, eY, hlt => by
    refine win_step t hS few hK xs ys X Y ?_ w hI hx hy eX eY
    intro us vs U V W k1 k2 k3 k4 k5 k6
    exact win_all t hS few hK n us vs U V W k1 k2 k3 k4 k5 (by omega)
theorem win_any (t : Tb) (hS : 1 ≤ t.S ∧ t.S ≤ 6) (few : fewB t.c t.h = true) (hK : t.K ≤ 1000) (m : Int) : WinOk t m := fun xs ys X Y w hI hx hy eX eY hlt =>
  win_all t hS few hK ((pwT xs + pwT ys).toNat + 1) xs ys X Y w hI hx hy eX eY (by omega)
end Go.Proofs.YtfomfbfcnenhbaaGreat
