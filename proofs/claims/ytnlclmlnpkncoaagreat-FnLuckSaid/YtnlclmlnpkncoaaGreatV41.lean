/- Texts of a proof, laid together. -/
import Derived.Test.YtnlclmlnpkncoaaGreatV40
import Derived.Test.YtnlclmlnpkncoaaGreatV31
import Derived.Test.YtnlclmlnpkncoaaGreatV39
import Derived.Test.YtnlclmlnpkncoaaGreatV18
import Derived.Test.YtnlclmlnpkncoaaGreatV11
namespace Go.Proofs.YtnlclmlnpkncoaaGreat
open Go.ChangeShapes Go.WideShapes Go.ChangeAt Go.RowKit
set_option linter.unusedVariables false
set_option linter.unusedSimpArgs false
set_option maxRecDepth 4000
def LcGot (t : Tm) (os : List (Option Int)) (w : World) (e : Ending) (w' : World) : Prop := ∃ (v : Value) (ok : Bool), e = .returned (.tuple #[v, .bool ok]) ∧ TmI t w' ∧ Gr t.gk t.gv w w' ∧ (ok = false → xsV t.S os = ([], 3)) ∧ (ok = true → ∃ a k L, v = .slice a L.length k ∧ OXl w.heap.size w'.heap.size w' a L ∧ xsV t.S os = (L, 0))
set_option maxRecDepth 8000 in
set_option maxHeartbeats 4000000 in
theorem l12Chances_any (t : Tm) (hS : 1 ≤ t.S ∧ t.S ≤ 6) (xs ys : List Int) (a1 a2 : Option Addr) (n1 n2 c1 c2 : Nat) (w : World) (hI : TmI t w) (hx : t.In xs) (hy : t.In ys) (kx : xs.sum ≠ 0) (ky : ys.sum ≠ 0) (hn1 : xs.length = n1) (hn2 : ys.length = n2) (hc1 : n1 ≤ c1) (hc2 : n2 ≤ c2) (hr1 : RF t w a1 xs) (hr2 : RF t w a2 ys) :
    Calls Tryz.prog 29 #[.pointer (some ⟨t.g, 0, none⟩), .slice a1 n1 c1, .slice a2 n2 c2] w (LcGot t (rlO t.S xs ys) w) := by
  have IH := wm_any t hS (pwT xs + pwT ys)
  have HR1 := Lib.hid hr1
  have HR2 := Lib.hid hr2
  have hl := hI.lts
  have hx' : Ps t.p t.c t.h (t.S : Int) xs := hx
  have hnum := hI.num
  have hlx := nm_lt hx'
  clear hr1 hr2 hlx hnum hx'
  obtain ⟨t0, t1, t2, t3, t4, t5, t6, tf, tl⟩ := hI.st.seven
  go_enter Tryz.func29, Tryz.ntmps29
  go_wp2_with fail
  clear t0 t1 t2 t3 t4 t5 t6 tf tl
  refine (l09Rolls_any t.p t.c t.h t.S w (by omega)).mono ?_
  rintro e wB ⟨ra_, kr, rfl, hOR, hbB⟩
  have hRI := hOR.rin
  have hsB := hbB.size
  replace hI := hI.below hbB
  have hg := Gr.of (gR := t.gk) (gC := t.gv) hbB
  clear hOR hbB
  have hlen2 := rollsTo_len2 t.S
  have hlen3 := rollsTo_length t.S
  have hpos : 0 < (rollsTo t.S).length := by
    have := Nat.mul_pos hS.1 (show 0 < t.S + 1 by omega)
    omega
  have hsq : t.S * t.S ≤ 6 * 6 := Nat.mul_le_mul hS.2 hS.2
  obtain ⟨gr, rfl, hRR⟩ : ∃ gr, ra_ = some ⟨gr, 0, none⟩ ∧ RRow wB gr (rollsTo t.S) := by
    rcases hRI with ⟨_, q⟩ | q
    · rw [q] at hpos
      simp at hpos
    · exact q
  have hroll : ∀ r ∈ rollsTo t.S, 1 ≤ r.2 ∧ r.2 ≤ r.1 ∧ r.1 ≤ 6 := fun r hr => rolls_in hS hr
  have hrl0 : rlO t.S xs ys = (rollsTo t.S).map fun r => (bst (tp t.S) (wc t.S ys) (resI xs (ordersP r.1 r.2))).map fun q => q.2 := rfl
  obtain ⟨RL, hRL⟩ : ∃ RL, rollsTo t.S = RL := ⟨_, rfl⟩
  obtain ⟨n, hn⟩ : ∃ n, RL.length = n := ⟨_, rfl⟩
  rw [hRL] at hpos hlen3 hRR hroll hrl0
  rw [hRL]
  rw [hn] at hpos hlen3
  rw [hn]
  have HN := Lib.hid hn
  have HRLO := Lib.hid hrl0
  have HRLL := Lib.hid (show (rlO t.S xs ys).length = n by rw [hrl0, List.length_map, hn])
  have HROLL := Lib.hid hroll
  have HRR := Lib.hid hRR
  have HIB := Lib.hid hI
  have HGB := Lib.hid hg
  have HX := Lib.hid hx
  have HYY := Lib.hid hy
  have n36 : n ≤ 36 := by omega
  obtain ⟨base, hbase⟩ : ∃ z, wB.heap.size = z := ⟨_, rfl⟩
  have hbz : t.g < base ∧ t.gk < base ∧ t.gv < base := by have := hI.lts; omega
  have hbw : w.heap.size ≤ base := by omega
  have hal : Below wB.heap.size wB (wB.alloc (.cells #[] 35)) := (Below.refl _ _).alloc (Nat.le_refl _) _
  have hO := OwnX.start wB
  have hgB : Gr t.gk t.gv wB (wB.alloc (.cells #[] 35)) := Gr.of hal
  replace hI := hI.below hal
  rw [hbase] at hO
  clear hRI hlen2 hlen3 hsq hRR hroll hRL hn hx hy hal hg hrl0
  go_wp2_with fail
  (try rw [hbase])
  generalize (wB.alloc (.cells #[] 35)) = wC at *
  go_loopg [9, 10] n (fun m sv i wr => ∃ (W : World) (j : Nat) (X : List Rl), W = wr ∧ j ≤ n ∧ m = n - j ∧ i = .int .i64 j ∧ OwnX W base sv X ∧ X = (xsL t.S (rlO t.S xs ys)).take j ∧ (∀ i o, i < j → (rlO t.S xs ys)[i]? = some o → o.isSome = true) ∧ TmI t W ∧ Gr t.gk t.gv wB W)
  case atStart => exact ⟨wC, 0, [], rfl, by omega, by omega, by go_num, hO, rfl, fun i o h => by omega, hI, hgB⟩
  case round =>
    clear hI hO hgB
    obtain ⟨wr, j, XL, hWW, hj, hm, rfl, hO, hXl, hsm, hI, hgB⟩ := hrel
    subst hWW
    have HXL := Lib.hid hXl
    have HSM := Lib.hid hsm
    have hxl : XL.length = j := by
      rw [hXl, List.length_take, xsL, List.length_map, HRLL.out]
      omega
    have HXN := Lib.hid hxl
    clear hXl hsm hxl
    by_cases hlt : j < n
    · have hlt' : (j : Int) < (n : Int) := by omega
      have j0 : (0 : Int) ≤ (j : Int) := by omega
      obtain ⟨⟨ra, rb⟩, hr⟩ : ∃ r, RL[j]? = some r := ⟨_, List.getElem?_eq_getElem (by rw [HN.out]; exact hlt)⟩
      obtain ⟨r1, r2, r3⟩ := HROLL.out _ (List.mem_of_getElem? hr)
      have HFS := Lib.hid (resS_facts (ys := ys) HX.out kx r1 r2 r3)
      have HRJ := Lib.hid hr
      have HOJ := Lib.hid (show (rlO t.S xs ys)[j]? = some ((bst (tp t.S) (wc t.S ys) (resS xs ra rb)).map fun q => q.2) by
        have hx' : Ps t.p t.c t.h (t.S : Int) xs := HX.out
        rw [HRLO.out, List.getElem?_map, hr, resS_I hx'.po.1 r1 r2]
        rfl)
      have hres := fun W (r : IRow W a1 xs) => by
        have hx' : Ps t.p t.c t.h (t.S : Int) xs := HX.out
        obtain ⟨q1, q2, q3, -⟩ := hx'.po
        exact l10Results_any t.p t.c t.h (t.S : Int) t.h.toNat a1 c1 xs ra rb W q2 q3 q1 (by omega) r1 r2 r3 r
      rw [hn1] at hres
      have HRES := Lib.hid hres
      have HRR2 := Lib.hid (show ∀ W, Gr t.gk t.gv wB W → RRow W gr RL from fun W h => VRow.grm HIB.out HRR.out h (by decide) (by decide))
      have HOO := Lib.hid hO
      have hgr := Gr.refl t.gk t.gv wr
      have hsr := hgB.size
      have RR0 := RRow.two (HRR2.out _ hgB) j _ hr
      clear hr hres hO
      obtain ⟨rr0, rr1⟩ := RR0
      obtain ⟨t0, t1, t2, t3, t4, t5, t6, tf, tl⟩ := hI.st.seven
      go_wp2_with fail
      clear rr0 rr1 t0 t1 t2 t3 t4 t5 t6 tf tl
      refine wp_region_held_drew (S := fun w' => w'.cell? ⟨t.g, 0, none⟩ = some (.int .i64 t.p) ∧ w'.cell? ⟨t.g, 1, none⟩ = some (.int .i64 t.c) ∧ w'.cell? ⟨t.g, 2, none⟩ = some (.int .i64 t.h) ∧ w'.cell? ⟨t.g, 3, none⟩ = some (.int .i64 (t.S : Int)) ∧ w'.cell? ⟨gr, j * 2, none⟩ = some (.int .i64 ra) ∧ w'.cell? ⟨gr, j * 2 + 1, none⟩ = some (.int .i64 rb)) (by kernel_rfl) ⟨hI.drew.st.seven.1, hI.drew.st.seven.2.1, hI.drew.st.seven.2.2.1, hI.drew.st.seven.2.2.2.1, (RRow.two (HRR2.out _ hgB.drew) j _ HRJ.out).1, (RRow.two (HRR2.out _ hgB.drew) j _ HRJ.out).2⟩ (fun hHeld => ?_)
      clear hHeld
      replace hI := hI.drew
      replace hgB := hgB.drew
      replace hgr := hgr.drew
      generalize wr.drew = vd at *
      have hHeld : vd.cell? ⟨t.g, 0, none⟩ = some (.int .i64 t.p) ∧ vd.cell? ⟨t.g, 1, none⟩ = some (.int .i64 t.c) ∧ vd.cell? ⟨t.g, 2, none⟩ = some (.int .i64 t.h) ∧ vd.cell? ⟨t.g, 3, none⟩ = some (.int .i64 (t.S : Int)) ∧ vd.cell? ⟨gr, j * 2, none⟩ = some (.int .i64 ra) ∧ vd.cell? ⟨gr, j * 2 + 1, none⟩ = some (.int .i64 rb) := ⟨hI.st.seven.1, hI.st.seven.2.1, hI.st.seven.2.2.1, hI.st.seven.2.2.2.1, (RRow.two (HRR2.out _ hgB) j _ HRJ.out).1, (RRow.two (HRR2.out _ hgB) j _ HRJ.out).2⟩
      refine tk 0 27 ?_
      refine tk 1 28 ?_
      refine tk 2 29 ?_
      refine tk 3 30 ?_
      refine tk 4 31 ?_
      refine tk 5 32 ?_
      refine tk 6 33 ?_
      refine tk 7 34 ?_
      refine tk 8 35 ?_
      refine tk 9 36 ?_
      refine tk 11 38 ?_
      refine wpAnyH_ready (rs := [10, 17]) (by kernel_rfl) (by simp) ?_
      refine AllReadyH.cons (o := ⟨some 37, _, _, _, _, _⟩) rfl (fun K hK => ?_) (AllReadyH.cons (o := ⟨some 12, _, _, _, _, _⟩) rfl (fun K hK => ?_) AllReadyH.nil)
      · go_simp
        refine (HRES.out _ (HR1.out.gr (HGB.out.trans hgB)).irow).mono ?_
        rintro e w10 ⟨gl, kl, l, rfl, hkl, hQ, hnm, hA, hC, hb10⟩
        have hrw : ∀ x ∈ l, Row w10 x.1 x.2.2 := fun x hx => (hA x hx).2.2
        clear hA
        replace hI := hI.below hb10
        replace hgB := hgB.then hb10
        replace hgr := hgr.then hb10
        clear hb10
        have hll : l.length = (resS xs ra rb).length := by rw [← hnm, List.length_map]
        have HLL := Lib.hid hll
        have HNM := Lib.hid hnm
        clear hll hnm
        (try go_wp2_with fail)
        refine hko hK ⟨hI.st.seven.1, hI.st.seven.2.1, hI.st.seven.2.2.1, hI.st.seven.2.2.2.1, (RRow.two (HRR2.out _ hgB) j _ HRJ.out).1, (RRow.two (HRR2.out _ hgB) j _ HRJ.out).2⟩ fun hHeld => ?_
        clear hK K
        refine wpAnyH_ready (rs := [12, 17]) (by kernel_rfl) (by simp) ?_
        refine AllReadyH.cons (o := ⟨some 39, _, _, _, _, _⟩) rfl (fun K hK => ?_) (AllReadyH.cons (o := ⟨some 12, _, _, _, _, _⟩) rfl (fun K hK => ?_) AllReadyH.nil)
        · go_simp
          refine (l12Best_any t hS (pwT xs + pwT ys) IH l l.length ys gl kl a2 n2 c2 _ hI rfl (by rw [HLL.out]; exact HFS.out.1) (by rw [HLL.out]; exact HFS.out.2.1) hQ hrw hC (by rw [HNM.out]; exact HFS.out.2.2) HYY.out ky hn2 hc2 (HR2.out.gr (HGB.out.trans hgB))).mono ?_
          rintro e w12 ⟨i0_, n0, d0, b0, rfl, hI2, hga, hbm⟩
          replace hgB := hgB.trans hga
          replace hgr := hgr.trans hga
          clear hI hga hQ hrw hC
          rename TmI t w12 => hI
          rw [HNM.out] at hbm
          have HBM := Lib.hid hbm
          clear hbm
          (try go_wp2_with fail)
          refine hko hK ⟨hI.st.seven.1, hI.st.seven.2.1, hI.st.seven.2.2.1, hI.st.seven.2.2.2.1, (RRow.two (HRR2.out _ hgB) j _ HRJ.out).1, (RRow.two (HRR2.out _ hgB) j _ HRJ.out).2⟩ fun hHeld => ?_
          clear hK K
          refine tk 13 26 ?_
          refine tk 14 40 ?_
          refine tk 15 41 ?_
          refine tk 16 42 ?_
          refine rdk 17 12 fun K hK => ?_
          go_simp
          have hs8 := hgr.size
          have hal : Below w12.heap.size w12 (w12.alloc (.cells #[.int .i64 0, .int .i64 0] 35)) := (Below.refl _ _).alloc (Nat.le_refl _) _
          replace hI := hI.below hal
          replace hgB := hgB.then hal
          replace hgr := hgr.then hal
          have B8 := Blk.new w12 #[.int .i64 0, .int .i64 0] 35
          obtain ⟨g8, hg8⟩ : ∃ g, w12.heap.size = g := ⟨_, rfl⟩
          rw [hg8] at B8 hs8
          clear hal
          (try go_wp2_with fail)
          refine hko hK ⟨hI.st.seven.1, hI.st.seven.2.1, hI.st.seven.2.2.1, hI.st.seven.2.2.2.1, (RRow.two (HRR2.out _ hgB) j _ HRJ.out).1, (RRow.two (HRR2.out _ hgB) j _ HRJ.out).2⟩ fun hHeld => ?_
          clear hK K
          (try rw [hg8])
          generalize w12.alloc (.cells #[.int .i64 0, .int .i64 0] 35) = wA at *
          clear hg8
          refine tk 18 11 ?_
          refine rdn 19 fun K hK => ?_
          clear hHeld
          obtain ⟨z0, z1, zf, zl⟩ := B8.two
          have SI := (hI.other (z := g8) (o := 0) (u := .int .i64 n0) (by omega) (by omega) (by omega)).other (z := g8) (o := 1) (u := .int .i64 d0) (by omega) (by omega) (by omega)
          have SG := (hgB.set (z := g8) (o := 0) (u := .int .i64 n0) (by omega)).set (z := g8) (o := 1) (u := .int .i64 d0) (by omega)
          have SR := (hgr.set (z := g8) (o := 0) (u := .int .i64 n0) (by omega)).set (z := g8) (o := 1) (u := .int .i64 d0) (by omega)
          have SB := B8.set2 (.int .i64 n0) (.int .i64 d0)
          go_simp
          (try go_wp2_with fail)
          refine hko hK ⟨SI.st.seven.1, SI.st.seven.2.1, SI.st.seven.2.2.1, SI.st.seven.2.2.2.1, (RRow.two (HRR2.out _ SG) j _ HRJ.out).1, (RRow.two (HRR2.out _ SG) j _ HRJ.out).2⟩ fun hHeld => ?_
          clear hK K
          clear z0 z1 zf zl hI hgB hgr B8
          generalize ((wA.setCell ⟨g8, 0, none⟩ (.int .i64 n0)).setCell ⟨g8, 1, none⟩ (.int .i64 d0)) = wS at *
          have hI := SI
          have hgB := SG
          have hgr := SR
          have B8 := SB
          clear SI SG SR SB
          refine tk 20 13 ?_
          refine wpAnyH_done (by kernel_rfl) ?_ _
          clear hHeld
          have hO := HOO.out.grm hgr (by omega) (by omega)
          have hbm := HBM.out
          have hsz : base ≤ wS.heap.size := by have := hgB.size; omega
          obtain ⟨y0, y1, yf, yl⟩ := B8.two
          cases hq : bst (tp t.S) (wc t.S ys) (resS xs ra rb) with
          | none =>
            rw [hq] at hbm
            obtain rfl : b0 = false := hbm
            have HV := Lib.hid (xsV_none (S := t.S) (HOJ.out.trans (congrArg some (by rw [hq]; rfl))))
            have hG9 := HGB.out.trans hgB
            clear hq HBM
            go_wp2_with fail
            go_ret2
            exact ⟨_, _, rfl, hI, hG9, fun _ => HV.out, fun e => by cases e⟩
          | some q =>
            rw [hq] at hbm
            obtain ⟨rfl, -, -, hPq⟩ := hbm
            have HOP := Lib.hid (HOJ.out.trans (congrArg some (show _ = some q.2 by rw [hq]; rfl)))
            have HNX := Lib.hid (xsL_next hS HOP.out hPq)
            have HSM2 : Hid (∀ i o, i < j + 1 → (rlO t.S xs ys)[i]? = some o → o.isSome = true) := Lib.hid fun i o h1 h2 => by
              rcases Nat.lt_or_ge i j with h | h
              · exact HSM.out i o h h2
              · obtain rfl : i = j := by omega
                rw [HOP.out] at h2
                injection h2 with h2
                subst h2
                rfl
            have hLl : XL.length ≤ 1048576 := by rw [HXN.out]; omega
            clear hPq hq HBM
            go_wp2_with (at_builtin; go_loud (refine wp_pushX rfl (.tmp 45) (.tmp 47) rfl base _ XL rfl hO (n0, d0) rfl (by first | rfl | simp) hLl hsz ?_; intro v2 w9 hO2 hb9))
            go_roundg (n - (j + 1))
            case measure => omega
            case rel => exact ⟨_, j + 1, XL ++ [(n0, d0)], rfl, by omega, rfl, by go_num, hO2, by rw [HNX.out, ← HXL.out], HSM2.out, hI.keepB hb9 (by omega), hgB.thenB (by rw [hbase]; exact hb9)⟩
        · go_simp
          have hs8 := hgr.size
          have hal : Below w10.heap.size w10 (w10.alloc (.cells #[.int .i64 0, .int .i64 0] 35)) := (Below.refl _ _).alloc (Nat.le_refl _) _
          replace hI := hI.below hal
          replace hgB := hgB.then hal
          replace hgr := hgr.then hal
          have B8 := Blk.new w10 #[.int .i64 0, .int .i64 0] 35
          replace hQ := VRow.below hQ hal
          replace hrw : ∀ x ∈ l, Row (w10.alloc (.cells #[.int .i64 0, .int .i64 0] 35)) x.1 x.2.2 := fun x hx => (hrw x hx).below hal
          obtain ⟨g8, hg8⟩ : ∃ g, w10.heap.size = g := ⟨_, rfl⟩
          rw [hg8] at B8 hs8
          clear hal
          (try go_wp2_with fail)
          refine hko hK ⟨hI.st.seven.1, hI.st.seven.2.1, hI.st.seven.2.2.1, hI.st.seven.2.2.2.1, (RRow.two (HRR2.out _ hgB) j _ HRJ.out).1, (RRow.two (HRR2.out _ hgB) j _ HRJ.out).2⟩ fun hHeld => ?_
          clear hK K
          (try rw [hg8])
          generalize w10.alloc (.cells #[.int .i64 0, .int .i64 0] 35) = wA at *
          clear hg8
          refine rdk 12 39 fun K hK => ?_
          go_simp
          refine (l12Best_any t hS (pwT xs + pwT ys) IH l l.length ys gl kl a2 n2 c2 _ hI rfl (by rw [HLL.out]; exact HFS.out.1) (by rw [HLL.out]; exact HFS.out.2.1) hQ hrw hC (by rw [HNM.out]; exact HFS.out.2.2) HYY.out ky hn2 hc2 (HR2.out.gr (HGB.out.trans hgB))).mono ?_
          rintro e w12 ⟨i0_, n0, d0, b0, rfl, hI2, hga, hbm⟩
          replace B8 := B8.gr hga (by omega) (by omega)
          replace hgB := hgB.trans hga
          replace hgr := hgr.trans hga
          clear hI hga hQ hrw hC
          rename TmI t w12 => hI
          rw [HNM.out] at hbm
          have HBM := Lib.hid hbm
          clear hbm
          (try go_wp2_with fail)
          refine hko hK ⟨hI.st.seven.1, hI.st.seven.2.1, hI.st.seven.2.2.1, hI.st.seven.2.2.2.1, (RRow.two (HRR2.out _ hgB) j _ HRJ.out).1, (RRow.two (HRR2.out _ hgB) j _ HRJ.out).2⟩ fun hHeld => ?_
          clear hK K
          refine tk 13 26 ?_
          refine tk 14 40 ?_
          refine tk 15 41 ?_
          refine tk 16 42 ?_
          refine tk 18 11 ?_
          refine rdn 19 fun K hK => ?_
          clear hHeld
          obtain ⟨z0, z1, zf, zl⟩ := B8.two
          have SI := (hI.other (z := g8) (o := 0) (u := .int .i64 n0) (by omega) (by omega) (by omega)).other (z := g8) (o := 1) (u := .int .i64 d0) (by omega) (by omega) (by omega)
          have SG := (hgB.set (z := g8) (o := 0) (u := .int .i64 n0) (by omega)).set (z := g8) (o := 1) (u := .int .i64 d0) (by omega)
          have SR := (hgr.set (z := g8) (o := 0) (u := .int .i64 n0) (by omega)).set (z := g8) (o := 1) (u := .int .i64 d0) (by omega)
          have SB := B8.set2 (.int .i64 n0) (.int .i64 d0)
          go_simp
          (try go_wp2_with fail)
          refine hko hK ⟨SI.st.seven.1, SI.st.seven.2.1, SI.st.seven.2.2.1, SI.st.seven.2.2.2.1, (RRow.two (HRR2.out _ SG) j _ HRJ.out).1, (RRow.two (HRR2.out _ SG) j _ HRJ.out).2⟩ fun hHeld => ?_
          clear hK K
          clear z0 z1 zf zl hI hgB hgr B8
          generalize ((w12.setCell ⟨g8, 0, none⟩ (.int .i64 n0)).setCell ⟨g8, 1, none⟩ (.int .i64 d0)) = wS at *
          have hI := SI
          have hgB := SG
          have hgr := SR
          have B8 := SB
          clear SI SG SR SB
          refine tk 20 13 ?_
          refine wpAnyH_done (by kernel_rfl) ?_ _
          clear hHeld
          have hO := HOO.out.grm hgr (by omega) (by omega)
          have hbm := HBM.out
          have hsz : base ≤ wS.heap.size := by have := hgB.size; omega
          obtain ⟨y0, y1, yf, yl⟩ := B8.two
          cases hq : bst (tp t.S) (wc t.S ys) (resS xs ra rb) with
          | none =>
            rw [hq] at hbm
            obtain rfl : b0 = false := hbm
            have HV := Lib.hid (xsV_none (S := t.S) (HOJ.out.trans (congrArg some (by rw [hq]; rfl))))
            have hG9 := HGB.out.trans hgB
            clear hq HBM
            go_wp2_with fail
            go_ret2
            exact ⟨_, _, rfl, hI, hG9, fun _ => HV.out, fun e => by cases e⟩
          | some q =>
            rw [hq] at hbm
            obtain ⟨rfl, -, -, hPq⟩ := hbm
            have HOP := Lib.hid (HOJ.out.trans (congrArg some (show _ = some q.2 by rw [hq]; rfl)))
            have HNX := Lib.hid (xsL_next hS HOP.out hPq)
            have HSM2 : Hid (∀ i o, i < j + 1 → (rlO t.S xs ys)[i]? = some o → o.isSome = true) := Lib.hid fun i o h1 h2 => by
              rcases Nat.lt_or_ge i j with h | h
              · exact HSM.out i o h h2
              · obtain rfl : i = j := by omega
                rw [HOP.out] at h2
                injection h2 with h2
                subst h2
                rfl
            have hLl : XL.length ≤ 1048576 := by rw [HXN.out]; omega
            clear hPq hq HBM
            go_wp2_with (at_builtin; go_loud (refine wp_pushX rfl (.tmp 45) (.tmp 47) rfl base _ XL rfl hO (n0, d0) rfl (by first | rfl | simp) hLl hsz ?_; intro v2 w9 hO2 hb9))
            go_roundg (n - (j + 1))
            case measure => omega
            case rel => exact ⟨_, j + 1, XL ++ [(n0, d0)], rfl, by omega, rfl, by go_num, hO2, by rw [HNX.out, ← HXL.out], HSM2.out, hI.keepB hb9 (by omega), hgB.thenB (by rw [hbase]; exact hb9)⟩
      · go_simp
        have hs8 := hgr.size
        have hal : Below vd.heap.size vd (vd.alloc (.cells #[.int .i64 0, .int .i64 0] 35)) := (Below.refl _ _).alloc (Nat.le_refl _) _
        replace hI := hI.below hal
        replace hgB := hgB.then hal
        replace hgr := hgr.then hal
        have B8 := Blk.new vd #[.int .i64 0, .int .i64 0] 35
        obtain ⟨g8, hg8⟩ : ∃ g, vd.heap.size = g := ⟨_, rfl⟩
        rw [hg8] at B8 hs8
        clear hal
        (try go_wp2_with fail)
        refine hko hK ⟨hI.st.seven.1, hI.st.seven.2.1, hI.st.seven.2.2.1, hI.st.seven.2.2.2.1, (RRow.two (HRR2.out _ hgB) j _ HRJ.out).1, (RRow.two (HRR2.out _ hgB) j _ HRJ.out).2⟩ fun hHeld => ?_
        clear hK K
        (try rw [hg8])
        generalize vd.alloc (.cells #[.int .i64 0, .int .i64 0] 35) = wA at *
        clear hg8
        refine rdk 10 37 fun K hK => ?_
        go_simp
        refine (HRES.out _ (HR1.out.gr (HGB.out.trans hgB)).irow).mono ?_
        rintro e w10 ⟨gl, kl, l, rfl, hkl, hQ, hnm, hA, hC, hb10⟩
        have hrw : ∀ x ∈ l, Row w10 x.1 x.2.2 := fun x hx => (hA x hx).2.2
        clear hA
        replace hI := hI.below hb10
        replace hgB := hgB.then hb10
        replace hgr := hgr.then hb10
        replace B8 := B8.below hb10
        clear hb10
        have hll : l.length = (resS xs ra rb).length := by rw [← hnm, List.length_map]
        have HLL := Lib.hid hll
        have HNM := Lib.hid hnm
        clear hll hnm
        (try go_wp2_with fail)
        refine hko hK ⟨hI.st.seven.1, hI.st.seven.2.1, hI.st.seven.2.2.1, hI.st.seven.2.2.2.1, (RRow.two (HRR2.out _ hgB) j _ HRJ.out).1, (RRow.two (HRR2.out _ hgB) j _ HRJ.out).2⟩ fun hHeld => ?_
        clear hK K
        refine rdk 12 39 fun K hK => ?_
        go_simp
        refine (l12Best_any t hS (pwT xs + pwT ys) IH l l.length ys gl kl a2 n2 c2 _ hI rfl (by rw [HLL.out]; exact HFS.out.1) (by rw [HLL.out]; exact HFS.out.2.1) hQ hrw hC (by rw [HNM.out]; exact HFS.out.2.2) HYY.out ky hn2 hc2 (HR2.out.gr (HGB.out.trans hgB))).mono ?_
        rintro e w12 ⟨i0_, n0, d0, b0, rfl, hI2, hga, hbm⟩
        replace B8 := B8.gr hga (by omega) (by omega)
        replace hgB := hgB.trans hga
        replace hgr := hgr.trans hga
        clear hI hga hQ hrw hC
        rename TmI t w12 => hI
        rw [HNM.out] at hbm
        have HBM := Lib.hid hbm
        clear hbm
        (try go_wp2_with fail)
        refine hko hK ⟨hI.st.seven.1, hI.st.seven.2.1, hI.st.seven.2.2.1, hI.st.seven.2.2.2.1, (RRow.two (HRR2.out _ hgB) j _ HRJ.out).1, (RRow.two (HRR2.out _ hgB) j _ HRJ.out).2⟩ fun hHeld => ?_
        clear hK K
        refine tk 13 26 ?_
        refine tk 14 40 ?_
        refine tk 15 41 ?_
        refine tk 16 42 ?_
        refine tk 18 11 ?_
        refine rdn 19 fun K hK => ?_
        clear hHeld
        obtain ⟨z0, z1, zf, zl⟩ := B8.two
        have SI := (hI.other (z := g8) (o := 0) (u := .int .i64 n0) (by omega) (by omega) (by omega)).other (z := g8) (o := 1) (u := .int .i64 d0) (by omega) (by omega) (by omega)
        have SG := (hgB.set (z := g8) (o := 0) (u := .int .i64 n0) (by omega)).set (z := g8) (o := 1) (u := .int .i64 d0) (by omega)
        have SR := (hgr.set (z := g8) (o := 0) (u := .int .i64 n0) (by omega)).set (z := g8) (o := 1) (u := .int .i64 d0) (by omega)
        have SB := B8.set2 (.int .i64 n0) (.int .i64 d0)
        go_simp
        (try go_wp2_with fail)
        refine hko hK ⟨SI.st.seven.1, SI.st.seven.2.1, SI.st.seven.2.2.1, SI.st.seven.2.2.2.1, (RRow.two (HRR2.out _ SG) j _ HRJ.out).1, (RRow.two (HRR2.out _ SG) j _ HRJ.out).2⟩ fun hHeld => ?_
        clear hK K
        clear z0 z1 zf zl hI hgB hgr B8
        generalize ((w12.setCell ⟨g8, 0, none⟩ (.int .i64 n0)).setCell ⟨g8, 1, none⟩ (.int .i64 d0)) = wS at *
        have hI := SI
        have hgB := SG
        have hgr := SR
        have B8 := SB
        clear SI SG SR SB
        refine tk 20 13 ?_
        refine wpAnyH_done (by kernel_rfl) ?_ _
        clear hHeld
        have hO := HOO.out.grm hgr (by omega) (by omega)
        have hbm := HBM.out
        have hsz : base ≤ wS.heap.size := by have := hgB.size; omega
        obtain ⟨y0, y1, yf, yl⟩ := B8.two
        cases hq : bst (tp t.S) (wc t.S ys) (resS xs ra rb) with
        | none =>
          rw [hq] at hbm
          obtain rfl : b0 = false := hbm
          have HV := Lib.hid (xsV_none (S := t.S) (HOJ.out.trans (congrArg some (by rw [hq]; rfl))))
          have hG9 := HGB.out.trans hgB
          clear hq HBM
          go_wp2_with fail
          go_ret2
          exact ⟨_, _, rfl, hI, hG9, fun _ => HV.out, fun e => by cases e⟩
        | some q =>
          rw [hq] at hbm
          obtain ⟨rfl, -, -, hPq⟩ := hbm
          have HOP := Lib.hid (HOJ.out.trans (congrArg some (show _ = some q.2 by rw [hq]; rfl)))
          have HNX := Lib.hid (xsL_next hS HOP.out hPq)
          have HSM2 : Hid (∀ i o, i < j + 1 → (rlO t.S xs ys)[i]? = some o → o.isSome = true) := Lib.hid fun i o h1 h2 => by
            rcases Nat.lt_or_ge i j with h | h
            · exact HSM.out i o h h2
            · obtain rfl : i = j := by omega
              rw [HOP.out] at h2
              injection h2 with h2
              subst h2
              rfl
          have hLl : XL.length ≤ 1048576 := by rw [HXN.out]; omega
          clear hPq hq HBM
          go_wp2_with (at_builtin; go_loud (refine wp_pushX rfl (.tmp 45) (.tmp 47) rfl base _ XL rfl hO (n0, d0) rfl (by first | rfl | simp) hLl hsz ?_; intro v2 w9 hO2 hb9))
          go_roundg (n - (j + 1))
          case measure => omega
          case rel => exact ⟨_, j + 1, XL ++ [(n0, d0)], rfl, by omega, rfl, by go_num, hO2, by rw [HNX.out, ← HXL.out], HSM2.out, hI.keepB hb9 (by omega), hgB.thenB (by rw [hbase]; exact hb9)⟩
    · obtain rfl : j = n := by omega
      obtain ⟨va, kv, rfl⟩ := hO.form
      have hXf : XL = xsL t.S (rlO t.S xs ys) := by
        rw [HXL.out]
        exact List.take_of_length_le (by rw [xsL, List.length_map, HRLL.out]; exact Nat.le_refl _)
      have HV := Lib.hid (show xsV t.S (rlO t.S xs ys) = (XL, 0) by rw [xsV_all (fun i o h1 h2 => HSM.out i o (by rw [HRLL.out] at h1; exact h1) h2), hXf])
      obtain ⟨-, hox⟩ := hO.oxl
      have HOX := Lib.hid (hox.mono hbw (Nat.le_refl _))
      have hG9 := HGB.out.trans hgB
      clear hO hox hXf hgB
      go_wp2_with fail
      go_ret2
      exact ⟨_, _, rfl, hI, hG9, (fun e => by cases e), fun _ => ⟨va, kv, XL, rfl, HOX.out, HV.out⟩⟩
set_option maxRecDepth 8000 in
set_option maxHeartbeats 2000000 in
theorem specRollChances_any (p c h s : Int) (a1 a2 : Option Addr) (n1 n2 c1 c2 : Nat) (xs ys : List Int) (w : World) (hn1 : xs.length = n1) (hn2 : ys.length = n2) (hl1 : n1 ≤ 1048576) (hl2 : n2 ≤ 1048576) (hc1 : n1 ≤ c1) (hc2 : n2 ≤ c2) (hr1 : IRow w a1 xs) (hr2 : IRow w a2 ys) :
    Calls Tryz.prog 8 #[.agg #[.int .i64 p, .int .i64 c, .int .i64 h, .int .i64 s], .slice a1 n1 c1, .slice a2 n2 c2] w (XGot (rlcV p c h s xs ys) w) := by
  have BV := Blk.new w #[.int .i64 p, .int .i64 c, .int .i64 h, .int .i64 s] 25
  have hb : Below w.heap.size w (w.alloc (.cells #[.int .i64 p, .int .i64 c, .int .i64 h, .int .i64 s] 25)) := (Below.refl _ _).alloc (Nat.le_refl _) _
  have HRO1 := Lib.hid hr1
  have HRO2 := Lib.hid hr2
  have HC := Lib.hid (l12Code_any p c h s a1 a2 n1 n2 c1 c2 xs ys 0 0 false true _ hn1 hn2 hl1 hl2 (hr1.below hb) (hr2.below hb))
  rw [lcE_oc] at HC
  clear hr1 hr2
  obtain ⟨x0, x1, x2, x3, xf, xl⟩ := BV.four
  by_cases k0 : ocE p c h s xs ys = 0
  · rw [rlcV, if_pos k0]
    rw [k0] at HC
    have hx0 := (ocE_zero k0).2.1
    have hy0 := (ocE_zero k0).2.2
    have hvB := (okP_v (rcB_zero (rcE_zero (ocE_zero k0).1).1).1).1
    obtain ⟨S, rfl, hS, hxp, hyp, hcn, few⟩ := rc_ready (rcE_zero (ocE_zero k0).1).1
    rw [Int.toNat_natCast]
    have HNW := Lib.hid (fun W => l12New_any p c h S hvB hcn W)
    have HX0 := Lib.hid hx0
    have HY0 := Lib.hid hy0
    clear k0 hvB hx0 hy0
    go_enter Tryz.func8, Tryz.ntmps8
    go_wp2_with fail
    refine (HC.out).mono ?_
    rintro e w1 ⟨rfl, hb1⟩
    clear x0 x1 x2 x3 xf xl
    have hz1 := hb1.size
    replace BV := BV.below hb1
    replace hb := chain hb hb1
    clear HC hb1
    obtain ⟨x0, x1, x2, x3, xf, xl⟩ := BV.four
    go_wp2_with fail
    refine (HNW.out _).mono ?_
    rintro e w2 ⟨t, rfl, rfl, rfl, rfl, rfl, hI, hgk, hgv, hb2⟩
    clear x0 x1 x2 x3 xf xl
    have hzb := hb.size
    have r1 : RF t w2 a1 xs := (RF.of (m := w1.heap.size) (HRO1.out.below hb) (Nat.le_refl _) hgk hgv).gr (Gr.of hb2)
    have r2 : RF t w2 a2 ys := (RF.of (m := w1.heap.size) (HRO2.out.below hb) (Nat.le_refl _) hgk hgv).gr (Gr.of hb2)
    have hs2 := hb2.size
    replace hb := chain hb hb2
    have HLC := Lib.hid (l12Chances_any t hS xs ys a1 a2 n1 n2 c1 c2 w2 hI hxp hyp HX0.out HY0.out hn1 hn2 hc1 hc2 r1 r2)
    clear HNW hb2 r1 r2 hI BV
    go_wp2_with fail
    refine (HLC.out).mono ?_
    rintro e w3 ⟨v, ok, rfl, -, hg3, hno, hyes⟩
    have hs3 := hg3.size
    replace hb := hb.trans (hg3.below (base := w.heap.size) (by omega) (by omega) hb.size)
    clear hg3 HLC
    cases ok with
    | false =>
      have HV := Lib.hid (hno rfl)
      clear hno hyes
      go_wp2_with fail
      go_ret2
      rw [HV.out]
      exact ⟨none, 0, rfl, .inl ⟨rfl, rfl⟩, hb⟩
    | true =>
      obtain ⟨a, k, L, rfl, hox, hv⟩ := hyes rfl
      have HV := Lib.hid hv
      have HOX := Lib.hid (hox.mono (by omega) (Nat.le_refl _) : OXl w.heap.size w3.heap.size w3 a L)
      clear hno hyes hv hox
      go_wp2_with fail
      go_ret2
      rw [HV.out]
      exact ⟨a, k, rfl, HOX.out, hb⟩
  · rw [rlcV, if_neg k0]
    obtain ⟨K, hK⟩ : ∃ K, ocE p c h s xs ys = K := ⟨_, rfl⟩
    rw [hK] at HC k0 ⊢
    have f0 : (K != 0) = true := by rw [bne_iff_ne]; exact k0
    clear hK
    go_enter Tryz.func8, Tryz.ntmps8
    go_wp2_with fail
    refine (HC.out).mono ?_
    rintro e w1 ⟨rfl, hb1⟩
    clear x0 x1 x2 x3 xf xl
    go_wp2_with fail
    go_ret2
    exact ⟨none, 0, rfl, .inl ⟨rfl, rfl⟩, chain hb hb1⟩
def arL (p c h s : Int) : List Rl := if vB p c h s = true then rollsTo s.toNat else []
theorem vB_sides {p c h s : Int} (g : vB p c h s = true) : 1 ≤ s ∧ s ≤ 6 := by
  have := vB_iff.1 g
  omega
set_option maxRecDepth 8000 in
theorem specAllRolls_any (p c h s : Int) (w : World) : Calls Tryz.prog 9 #[.agg #[.int .i64 p, .int .i64 c, .int .i64 h, .int .i64 s]] w (RollsGot (arL p c h s) w) := by
  have BV := Blk.new w #[.int .i64 p, .int .i64 c, .int .i64 h, .int .i64 s] 25
  have hb : Below w.heap.size w (w.alloc (.cells #[.int .i64 p, .int .i64 c, .int .i64 h, .int .i64 s] 25)) := (Below.refl _ _).alloc (Nat.le_refl _) _
  obtain ⟨x0, x1, x2, x3, xf, xl⟩ := BV.four
  have hv := fun W => specIsVariant_any p c h s W
  unfold arL
  cases g : vB p c h s with
  | true =>
    have hs := vB_sides g
    rw [g] at hv
    rw [if_pos rfl]
    obtain ⟨S, rfl⟩ := Int.eq_ofNat_of_zero_le (by omega : 0 ≤ s)
    rw [show ((S : Int)).toNat = S by simp]
    have hl := fun W => l07All_any p c h S W (by omega)
    have HV := Lib.hid hv
    have HL := Lib.hid hl
    clear hv g hl hs
    go_enter Tryz.func9, Tryz.ntmps9
    go_wp2_with (first | (go_at_call 31; refine (HV.out _).mono ?_; clear HV; rintro e w1 ⟨rfl, hb1⟩; obtain ⟨x0, x1, x2, x3, xf, xl⟩ := (BV.below hb1).four) | (go_at_call 32; refine (HL.out _).mono ?_; clear HL; rintro e w2 ⟨a, k, rfl, hO, hb2⟩))
    go_ret
    exact ⟨a, k, rfl, hO.mono (chain hb hb1).size (Nat.le_refl _), chain (chain hb hb1) hb2⟩
  | false =>
    rw [g] at hv
    rw [if_neg (by simp)]
    have HV := Lib.hid hv
    clear hv g
    go_enter Tryz.func9, Tryz.ntmps9
    go_wp2_with (go_at_call 31; refine (HV.out _).mono ?_; clear HV; rintro e w1 ⟨rfl, hb1⟩)
    go_ret
    exact ⟨some ⟨w1.heap.size, 0, none⟩, 0, rfl, .inr ⟨w1.heap.size, rfl, (chain hb hb1).size, by simp, #[], Blk.new w1 #[] 39, by simp [rlsC], rfl⟩, (chain hb hb1).alloc (chain hb hb1).size _⟩
end Go.Proofs.YtnlclmlnpkncoaaGreat
