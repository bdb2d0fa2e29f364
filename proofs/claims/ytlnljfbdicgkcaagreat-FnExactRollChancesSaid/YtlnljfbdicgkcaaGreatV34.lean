/- Texts of a proof, laid together. -/
import Derived.Test.YtlnljfbdicgkcaaGreatV32
import Derived.Test.YtlnljfbdicgkcaaGreatV26
import Derived.Test.YtlnljfbdicgkcaaGreatV33
import Derived.Test.YtlnljfbdicgkcaaGreatV23
import Derived.Deep.LoopGhost
namespace Go.Proofs.YtlnljfbdicgkcaaGreat
open Go.ChangeShapes Go.WideShapes Go.ChangeAt Go.RowKit
set_option linter.unusedVariables false
set_option linter.unusedSimpArgs false
set_option maxRecDepth 4000
theorem OwnX.oxl {w : World} {base : Nat} {a : Option Addr} {n k : Nat} {l : List Rl} (h : OwnX w base (.slice a n k) l) : n = l.length ∧ OXl base w.heap.size w a l := by
  obtain ⟨hl, h1 | ⟨g, cap, cur, hv, hb, hh, hc, hm, hs, ht⟩⟩ := h
  · obtain ⟨h1, h2⟩ := h1
    simp at h1
    exact ⟨by omega, .inl ⟨h1.1, List.eq_nil_of_length_eq_zero h2⟩⟩
  · simp at hv
    obtain ⟨rfl, rfl, rfl⟩ := hv
    exact ⟨rfl, .inr ⟨g, rfl, hb, (Array.getElem?_eq_some_iff.1 hh).1, cur, hh, by rw [hl, hs]; exact Nat.mul_le_mul_right _ hc, by rw [hl]; exact ht⟩⟩
theorem OwnX.gr {gR gC : Nat} {w w' : World} {base : Nat} {v : Value} {l : List Rl} (h : OwnX w base v l) (hg : Gr gR gC w w') (h1 : gR < base) (h2 : gC < base) : OwnX w' base v l := h.by fun i k1 k2 => hg.block i k2 (by omega) (by omega)
theorem xsL_next {S : Nat} (hS : 1 ≤ S ∧ S ≤ 6) {os : List (Option Int)} {j : Nat} {P n d : Int} (ho : os[j]? = some (some P)) (hP : IsP S n d P) : (xsL S os).take (j + 1) = (xsL S os).take j ++ [(n, d)] := by
  rw [List.take_add_one]
  unfold xsL
  rw [List.getElem?_map, ho]
  have hv : exO S (some P) = (n, d, 0) := by
    unfold exO
    dsimp only
    rw [ex_of hS hP]
    rfl
  simp [hv]
theorem xsV_none {S : Nat} {os : List (Option Int)} {j : Nat} (ho : os[j]? = some none) : xsV S os = ([], 3) := by
  have hall : os.all Option.isSome = false := by
    rw [List.all_eq_false]
    exact ⟨none, List.mem_of_getElem? ho, by simp⟩
  rw [xsV, hall]
  rfl
theorem xsV_all {S : Nat} {os : List (Option Int)} (h : ∀ i o, i < os.length → os[i]? = some o → o.isSome = true) : xsV S os = (xsL S os, 0) := by
  have hall : os.all Option.isSome = true := by
    rw [List.all_eq_true]
    intro o ho
    obtain ⟨i, hi2, he⟩ := List.mem_iff_getElem.1 ho
    exact h i o hi2 (by rw [List.getElem?_eq_getElem hi2, he])
  rw [xsV, if_pos hall]
set_option maxRecDepth 8000 in
set_option maxHeartbeats 2000000 in
theorem specResultChances_any (p c h s : Int) (a1 a2 : Option Addr) (n1 n2 c1 c2 : Nat) (xs ys : List Int) (ra rb : Int) (w : World) (hn1 : xs.length = n1) (hn2 : ys.length = n2) (hl1 : n1 ≤ 1048576) (hl2 : n2 ≤ 1048576) (hc1 : n1 ≤ c1) (hc2 : n2 ≤ c2) (hr1 : IRow w a1 xs) (hr2 : IRow w a2 ys) :
    Calls Tryz.prog 37 #[.agg #[.int .i64 p, .int .i64 c, .int .i64 h, .int .i64 s], .slice a1 n1 c1, .slice a2 n2 c2, .agg #[.int .i64 ra, .int .i64 rb]] w (XGot (rcV p c h s xs ys ra rb) w) := by
  obtain ⟨BV, BR, hb, hz⟩ := two_new w #[.int .i64 p, .int .i64 c, .int .i64 h, .int .i64 s] #[.int .i64 ra, .int .i64 rb] 25 39
  have hzz : w.heap.size + 1 < ((w.alloc (.cells #[.int .i64 p, .int .i64 c, .int .i64 h, .int .i64 s] 25)).alloc (.cells #[.int .i64 ra, .int .i64 rb] 39)).heap.size := by rw [hz]; omega
  clear hz
  have HRO1 := Lib.hid hr1
  have HRO2 := Lib.hid hr2
  have HC := Lib.hid (l12Code_any p c h s a1 a2 n1 n2 c1 c2 xs ys ra rb true true _ hn1 hn2 hl1 hl2 (hr1.below hb) (hr2.below hb))
  rw [lcE_tn] at HC
  clear hr1 hr2
  obtain ⟨x0, x1, x2, x3, xf, xl⟩ := BV.four
  obtain ⟨y0, y1, yf, yl⟩ := BR.two
  by_cases k0 : tnE p c h s xs ys ra rb = 0
  · rw [rcV, if_pos k0]
    rw [k0] at HC
    obtain ⟨kO, hrl⟩ := tnE_zero k0
    have hx0 := (ocE_zero kO).2.1
    have hy0 := (ocE_zero kO).2.2
    have hvB := (okP_v (rcB_zero (rcE_zero (ocE_zero kO).1).1).1).1
    obtain ⟨S, rfl, hS, hxp, hyp, hcn, few⟩ := rc_ready (rcE_zero (ocE_zero kO).1).1
    rw [Int.toNat_natCast]
    have HNW := Lib.hid (fun W => l12New_any p c h S hvB hcn W)
    obtain ⟨r1, r2, r3⟩ : 1 ≤ rb ∧ rb ≤ ra ∧ ra ≤ 6 := by
      simp only [rlB, inB, Bool.and_eq_true, decide_eq_true_eq] at hrl
      omega
    have hsi := resS_I hxp.po.1 r1 r2
    obtain ⟨p1, p2, p3, p4, -⟩ := hxp.po
    have HSI := Lib.hid hsi
    have HRES := Lib.hid (fun W (r : IRow W a1 xs) => l10Results_any p c h (S : Int) h.toNat a1 c1 xs ra rb W p2 p3 p1 (by omega) r1 r2 r3 r)
    rw [hn1] at HRES
    have HX0 := Lib.hid hx0
    have HY0 := Lib.hid hy0
    have HRR := Lib.hid (And.intro r1 (And.intro r2 r3))
    clear k0 hvB kO hrl hsi p1 p2 p3 p4 hx0 hy0 r1 r2 r3
    go_enter Tryz.func37, Tryz.ntmps37
    go_wp2_with fail
    refine (HC.out).mono ?_
    rintro e w1 ⟨rfl, hb1⟩
    clear x0 x1 x2 x3 xf xl y0 y1 yf yl
    have hs_hb1 := hb1.size
    replace BV := BV.below hb1
    replace BR := BR.below hb1
    replace hb := chain hb hb1
    clear hb1
    clear HC
    obtain ⟨x0, x1, x2, x3, xf, xl⟩ := BV.four
    obtain ⟨y0, y1, yf, yl⟩ := BR.two
    go_wp2_with fail
    refine (HNW.out _).mono ?_
    rintro e w2 ⟨t, rfl, rfl, rfl, rfl, rfl, hI, hgk, hgv, hb2⟩
    clear x0 x1 x2 x3 xf xl y0 y1 yf yl
    have hlt := hI.lts
    have hzb := hb.size
    have r2 : RF t w2 a2 ys := (RF.of (m := w1.heap.size) (HRO2.out.below hb) (Nat.le_refl _) hgk hgv).gr (Gr.of hb2)
    have hs_hb2 := hb2.size
    replace BV := BV.below hb2
    replace BR := BR.below hb2
    replace hb := chain hb hb2
    clear hb2
    clear HNW
    obtain ⟨x0, x1, x2, x3, xf, xl⟩ := BV.four
    obtain ⟨y0, y1, yf, yl⟩ := BR.two
    go_wp2_with fail
    refine (HRES.out _ (HRO1.out.below hb)).mono ?_
    rintro e w3 ⟨gl, kl, l, rfl, hkl, hQ, hnm, hA, hC, hb3⟩
    clear x0 x1 x2 x3 xf xl y0 y1 yf yl
    have hrw : ∀ x ∈ l, Row w3 x.1 x.2.2 := fun x hx => (hA x hx).2.2
    clear hA hkl
    have r3 := r2.gr (Gr.of hb3)
    have hs3 := hb3.size
    replace hI := hI.below hb3
    replace hb := chain hb hb3
    clear hb3 r2 BV BR
    have HFS := Lib.hid (resS_facts (t := t) (ys := ys) hxp HX0.out HRR.out.1 HRR.out.2.1 HRR.out.2.2)
    have hll : l.length = (resS xs ra rb).length := by rw [← hnm, List.length_map]
    have hN1 : 0 < l.length ∧ l.length ≤ 1048576 := by rw [hll]; exact ⟨HFS.out.1, HFS.out.2.1⟩
    obtain ⟨N, hN⟩ : ∃ N, l.length = N := ⟨_, rfl⟩
    rw [hN] at hN1
    (try rw [hN])
    have hrc : rcO t.S xs ys ra rb = (nmQ l).map fun z => (wc t.S ys z).map fun x => tp t.S - x := by rw [hnm, HSI.out]; rfl
    have HRCL := Lib.hid (show (rcO t.S xs ys ra rb).length = N by rw [hrc, List.length_map, List.length_map, hN])
    have HRCO := Lib.hid hrc
    have HMEM := Lib.hid (show ∀ x ∈ l, t.In x.2.2 ∧ pwT ys + pwT x.2.2 < pwT xs + pwT ys from fun x hx => HFS.out.2.2 x.2.2 (by rw [← hnm]; exact List.mem_map.2 ⟨x, hx, rfl⟩))
    have HN := Lib.hid hN
    have HQ := Lib.hid hQ
    have HRW := Lib.hid hrw
    have HCP := Lib.hid hC
    have HI0 := Lib.hid hI
    have HR2 := Lib.hid r3
    have HYP := Lib.hid hyp
    have n0 : (N : Int) ≤ 1048576 := by omega
    have hlts := hI.lts
    clear hQ hrw hC hnm hll hrc hN r3 hxp hyp
    go_wp2_with fail
    have hO := OwnX.start w3
    have hal : Below w3.heap.size w3 (w3.alloc (.cells #[] 35)) := (Below.refl _ _).alloc (Nat.le_refl _) _
    have hg : Gr t.gk t.gv w3 (w3.alloc (.cells #[] 35)) := Gr.of hal
    replace hI := hI.below hal
    have hbw : w.heap.size ≤ w3.heap.size := hb.size
    replace hb := chain hb hal
    obtain ⟨base, hbase⟩ : ∃ z, w3.heap.size = z := ⟨_, rfl⟩
    rw [hbase] at hO hlts hbw
    (try rw [hbase])
    have hbs : base ≤ (w3.alloc (.cells #[] 35)).heap.size := by simp; omega
    have HBS := Lib.hid hbase
    clear hal hbase
    generalize (w3.alloc (.cells #[] 35)) = w4 at *
    go_loopg [13, 14] N (fun m q13 q14 wr => ∃ (W : World) (j : Nat) (XL : List Rl), W = wr ∧ j ≤ N ∧ m = N - j ∧ q14 = .int .i64 (j : Int) ∧ OwnX W base q13 XL ∧ XL = (xsL t.S (rcO t.S xs ys ra rb)).take j ∧ (∀ i o, i < j → (rcO t.S xs ys ra rb)[i]? = some o → o.isSome = true) ∧ TmI t W ∧ Gr t.gk t.gv w3 W ∧ base ≤ W.heap.size ∧ Below w.heap.size w W)
    case atStart => exact ⟨_, 0, [], rfl, by omega, by omega, rfl, hO, rfl, fun i o h => by omega, hI, hg, hbs, hb⟩
    case round =>
      clear hI hO hg hbs hb
      obtain ⟨wr, j, XL, hWW, hj, hm, rfl, hO, hXL, hsm, hI, hg, hbs, hb⟩ := hrel
      subst hWW
      have HXL := Lib.hid hXL
      have HSM := Lib.hid hsm
      have hxl : XL.length = j := by
        rw [hXL, List.length_take, xsL, List.length_map, HRCL.out]
        omega
      have HXN := Lib.hid hxl
      clear hXL hsm hxl
      obtain ⟨av, kv, hv⟩ := hO.form
      subst hv
      by_cases hlt : j < N
      · have hlt' : (j : Int) < (N : Int) := by omega
        have j0 : (0 : Int) ≤ (j : Int) := by omega
        obtain ⟨⟨gx, kx, z⟩, hx⟩ : ∃ x, l[j]? = some x := ⟨_, List.getElem?_eq_getElem (by rw [HN.out]; exact hlt)⟩
        have hxm := List.mem_of_getElem? hx
        have u0 : CellIs wr gl j (.slice (some ⟨gx, 0, none⟩) z.length kx) := QRow.at (HQ.out.grm HI0.out hg) j _ hx
        unfold CellIs at u0
        have hmz := HMEM.out _ hxm
        have hcz := HCP.out _ hxm
        dsimp only at hmz hcz
        have HA := Lib.hid (l12After_any t hS (pwT xs + pwT ys) (wm_any t hS _) z ys (some ⟨gx, 0, none⟩) a2 z.length n2 kx c2 wr hI hmz.1 HYP.out rfl hn2 hcz hc2 ((RF.row HI0.out (HRW.out _ hxm)).gr hg) (HR2.out.gr hg) hmz.2 HY0.out)
        have HOJ := Lib.hid (show (rcO t.S xs ys ra rb)[j]? = some ((wc t.S ys z).map fun x => tp t.S - x) by rw [HRCO.out, List.getElem?_map, List.getElem?_map, hx]; rfl)
        obtain ⟨LZ, hLZ⟩ : ∃ z_, z.length = z_ := ⟨_, rfl⟩
        rw [hLZ] at HA u0
        clear hx hxm hmz hcz hLZ
        go_wp2_with fail
        refine (HA.out).mono ?_
        rintro e w5 ⟨m0, e0, b0, rfl, hxv, hI5, hg5⟩
        have hs5 := hg5.size
        replace hO := hO.gr hg5 (by omega) (by omega)
        replace hg := hg.trans hg5
        replace hb := hb.trans (hg5.below (base := w.heap.size) (by omega) (by omega) hb.size)
        clear hI hg5 u0
        have hal : Below w5.heap.size w5 (w5.alloc (.cells #[.int .i64 m0, .int .i64 e0] 35)) := (Below.refl _ _).alloc (Nat.le_refl _) _
        have BY := Blk.new w5 #[.int .i64 m0, .int .i64 e0] 35
        have hI6 := hI5.below hal
        replace hO := hO.alloc (.cells #[.int .i64 m0, .int .i64 e0] 35)
        replace hg := hg.then hal
        replace hb := chain hb hal
        have hs6 := hal.size
        clear hal hI5
        cases hoj : ((wc t.S ys z).map fun x => tp t.S - x) with
        | none =>
          rw [hoj] at hxv
          obtain rfl : b0 = false := hxv
          have HV := Lib.hid (xsV_none (S := t.S) (HOJ.out.trans (congrArg some hoj)))
          clear hoj hO hI6 hg
          go_wp2_with fail
          go_ret2
          rw [HV.out]
          exact ⟨none, 0, rfl, .inl ⟨rfl, rfl⟩, hb⟩
        | some P =>
          rw [hoj] at hxv
          obtain ⟨rfl, hP⟩ := hxv
          have HOP := Lib.hid (HOJ.out.trans (congrArg some hoj))
          have HNX := Lib.hid (xsL_next hS HOP.out hP)
          have HSM2 : Hid (∀ i o, i < j + 1 → (rcO t.S xs ys ra rb)[i]? = some o → o.isSome = true) := Lib.hid fun i o h1 h2 => by
            rcases Nat.lt_or_ge i j with h | h
            · exact HSM.out i o h h2
            · obtain rfl : i = j := by omega
              rw [HOP.out] at h2
              injection h2 with h2
              subst h2
              rfl
          have hlm : XL.length ≤ 1048576 := by rw [HXN.out]; omega
          have hbs2 : base ≤ (w5.alloc (.cells #[.int .i64 m0, .int .i64 e0] 35)).heap.size := by omega
          clear hoj hP
          obtain ⟨q0, q1, qf, ql⟩ := BY.two
          go_wp2_with (at_builtin; go_loud (refine wp_pushX rfl (.tmp 50) (.tmp 52) rfl base _ XL rfl hO (m0, e0) rfl (by simp) hlm hbs2 ?_; intro v2 w7 hO7 hb7))
          have hI7 := hI6.keepB hb7 (by omega)
          have hg7 := hg.thenB (by rw [HBS.out]; exact hb7)
          have hb8 := hb.trans (hb7.mono hbw)
          have hs7 := hb7.size
          clear hO hb hb7 hg hI6 q0 q1 qf ql BY
          go_wp2
          go_roundg (N - (j + 1))
          case measure => omega
          case rel => exact ⟨_, j + 1, XL ++ [(m0, e0)], rfl, by omega, rfl, by go_num, hO7, by rw [HNX.out, ← HXL.out], HSM2.out, hI7, hg7, by omega, hb8⟩
      · obtain rfl : j = N := by omega
        have hXf : XL = xsL t.S (rcO t.S xs ys ra rb) := by
          rw [HXL.out]
          exact List.take_of_length_le (by rw [xsL, List.length_map, HRCL.out]; exact Nat.le_refl _)
        have HV := Lib.hid (show xsV t.S (rcO t.S xs ys ra rb) = (XL, 0) by rw [xsV_all (fun i o h1 h2 => HSM.out i o (by rw [HRCL.out] at h1; exact h1) h2), hXf])
        obtain ⟨-, hox⟩ := hO.oxl
        have HOX := Lib.hid (hox.mono hbw (Nat.le_refl _))
        clear hO hox hXf hI hg
        go_wp2_with fail
        go_ret2
        rw [HV.out]
        exact ⟨av, kv, rfl, HOX.out, hb⟩
  · rw [rcV, if_neg k0]
    obtain ⟨K, hK⟩ : ∃ K, tnE p c h s xs ys ra rb = K := ⟨_, rfl⟩
    rw [hK] at HC k0 ⊢
    have f0 : (K != 0) = true := by rw [bne_iff_ne]; exact k0
    clear hK
    go_enter Tryz.func37, Tryz.ntmps37
    go_wp2_with fail
    refine (HC.out).mono ?_
    rintro e w1 ⟨rfl, hb1⟩
    clear x0 x1 x2 x3 xf xl y0 y1 yf yl
    go_wp2_with fail
    go_ret2
    exact ⟨none, 0, rfl, .inl ⟨rfl, rfl⟩, chain hb hb1⟩
end Go.Proofs.YtlnljfbdicgkcaaGreat
