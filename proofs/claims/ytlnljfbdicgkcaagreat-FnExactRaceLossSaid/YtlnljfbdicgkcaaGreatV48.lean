/- Texts of a proof, laid together. -/
import Derived.Test.YtlnljfbdicgkcaaGreatV47
import Derived.Test.YtlnljfbdicgkcaaGreatV27
import Derived.Test.YtlnljfbdicgkcaaGreatV17
import Derived.Deep.LoopGhost
import Derived.Test.YtlnljfbdicgkcaaGreatV26
import Derived.Test.YtlnljfbdicgkcaaGreatV20
namespace Go.Proofs.YtlnljfbdicgkcaaGreat
open Go.ChangeShapes Go.WideShapes Go.ChangeAt Go.RowKit
set_option linter.unusedVariables false
set_option linter.unusedSimpArgs false
set_option maxRecDepth 4000
set_option maxHeartbeats 1000000 in
theorem indexI_any (a : Option Addr) (n cap : Nat) (xs : List Int) (v : Int) (w : World) (hn : xs.length = n) (hle : n ≤ 1048576) (hr : IRow w a xs) :
    Calls Tryz.prog 122 #[.slice a n cap, .int .i64 v] w fun e w' => ∃ r : Int, e = .returned (.int .i64 r) ∧ -1 ≤ r ∧ (0 ≤ r ↔ v ∈ xs) ∧ w = w' := by
  subst hn
  have HR := Lib.hid hr
  have n0 : (xs.length : Int) ≤ 1048576 := by omega
  clear hr
  go_enter Tryz.func122, Tryz.ntmps122
  go_wp2
  go_loopg [8] xs.length (fun m i wr => ∃ k : Nat, w = wr ∧ k ≤ xs.length ∧ m = xs.length - k ∧ i = .int .i64 k ∧ v ∉ xs.take k)
  case atStart => exact ⟨0, rfl, by omega, by omega, rfl, by simp⟩
  case round =>
    obtain ⟨k, rfl, hk, hm, rfl, hno⟩ := hrel
    have HNO := Lib.hid hno
    clear hno
    by_cases hlt : k < xs.length
    · have hlt' : (k : Int) < (xs.length : Int) := by omega
      have hk0 : (0 : Int) ≤ (k : Int) := by omega
      obtain ⟨b, o, rfl, hc⟩ := HR.out k hlt
      obtain ⟨u, hu⟩ : ∃ u, xs.getD k 0 = u := ⟨_, rfl⟩
      have hmem : u ∈ xs := by rw [← hu]; exact getD_mem hlt
      have htk := take_snoc_int xs k hlt
      rw [hu] at hc htk
      by_cases e : v = u
      · have f0 : (v == u) = true := by rw [beq_iff_eq]; exact e
        have HM := Lib.hid (show v ∈ xs from e ▸ hmem)
        clear e hu hmem htk
        go_wp2
        go_ret
        exact ⟨(k : Int), rfl, by omega, ⟨fun _ => HM.out, fun _ => hk0⟩, rfl⟩
      · have f0 : (v == u) = false := by rw [beq_eq_false_iff_ne]; exact e
        have HN2 := Lib.hid (show v ∉ xs.take (k + 1) by
          rw [htk]
          intro h
          rcases List.mem_append.1 h with h | h
          · exact HNO.out h
          · simp at h
            exact e h)
        clear e hu hmem htk
        go_wp2
        go_roundg (xs.length - (k + 1))
        case measure => omega
        case rel => exact ⟨k + 1, rfl, by omega, rfl, by go_num, HN2.out⟩
    · obtain rfl : k = xs.length := by omega
      have HN2 := Lib.hid (show v ∉ xs by have := HNO.out; rwa [List.take_length] at this)
      go_wp2
      go_ret
      exact ⟨-1, rfl, by omega, ⟨fun h => by omega, fun h => absurd h HN2.out⟩, rfl⟩
set_option maxHeartbeats 1000000 in
theorem containsI_any (a : Option Addr) (n cap : Nat) (xs : List Int) (v : Int) (w : World) (hn : xs.length = n) (hle : n ≤ 1048576) (hr : IRow w a xs) :
    Calls Tryz.prog 73 #[.slice a n cap, .int .i64 v] w fun e w' => e = .returned (.bool (decide (v ∈ xs))) ∧ w = w' := by
  have H := Lib.hid (indexI_any a n cap xs v w hn hle hr)
  obtain ⟨R, hR⟩ : ∃ R, decide (v ∈ xs) = R := ⟨_, rfl⟩
  rw [hR]
  have HR := Lib.hid hR
  clear hR hr
  go_enter Tryz.func73, Tryz.ntmps73
  go_wp2_with fail
  refine (H.out).mono ?_
  rintro e w1 ⟨r, rfl, hr1, hr2, rfl⟩
  have hd : decide (0 ≤ r) = R := by rw [← HR.out, decide_eq_decide]; exact hr2
  have HD := Lib.hid hd
  clear hr2 hd
  go_wp2
  go_ret
  exact ⟨by rw [← HD.out]; rfl, rfl⟩
def lsE (p c h s : Int) (xs ys zs : List Int) (ra rb : Int) : Int := if bcE p c h s zs ≠ 0 then bcE p c h s zs else tnE p c h s xs ys ra rb
def lsO (S : Nat) (xs ys zs : List Int) (ra rb : Int) : Option Int := ((bst (tp S) (wc S ys) (resI xs (ordersP ra rb))).map fun q => q.2).bind fun q => ((wc S ys zs).map fun x => tp S - x).map fun x => q - x
def lsR (S : Nat) (xs ys zs : List Int) (ra rb : Int) : Int × Int × Int := if zs ∈ resI xs (ordersP ra rb) then exO S (lsO S xs ys zs ra rb) else (0, 0, 4)
def raceLossV (p c h s : Int) (xs ys zs : List Int) (ra rb : Int) : Int × Int × Int := if lsE p c h s xs ys zs ra rb = 0 then lsR s.toNat xs ys zs ra rb else (0, 0, lsE p c h s xs ys zs ra rb)
theorem lsE_zero {p c h s : Int} {xs ys zs : List Int} {ra rb : Int} (e : lsE p c h s xs ys zs ra rb = 0) : bcE p c h s zs = 0 ∧ tnE p c h s xs ys ra rb = 0 := by
  unfold lsE at e
  split at e
  · rename_i q
    exact absurd e q
  · rename_i q
    exact ⟨by omega, e⟩
theorem mem_nums {p c h s : Int} {L : List (List Int)} {z : List Int} (hz : Ps p c h s z) (hL : ∀ x ∈ L, Ps p c h s x) : ((nm c z : Int) ∈ L.map fun x => (nm c x : Int)) ↔ z ∈ L := by
  constructor
  · intro m
    obtain ⟨x, hx, e⟩ := List.mem_map.1 m
    have e2 : nm c x = nm c z := by exact_mod_cast e
    have := nm_inj (hL x hx) hz e2
    exact this ▸ hx
  · intro m
    exact List.mem_map.2 ⟨z, m, rfl⟩
set_option maxRecDepth 8000 in
set_option maxHeartbeats 2000000 in
theorem raceLoss_any (p c h s : Int) (a1 a2 a3 : Option Addr) (n1 n2 n3 c1 c2 c3 : Nat) (xs ys zs : List Int) (ra rb : Int) (w : World) (hn1 : xs.length = n1) (hn2 : ys.length = n2) (hn3 : zs.length = n3) (hl1 : n1 ≤ 1048576) (hl2 : n2 ≤ 1048576) (hl3 : n3 ≤ 1048576) (hr1 : IRow w a1 xs) (hr2 : IRow w a2 ys) (hr3 : IRow w a3 zs) :
    Calls Tryz.prog 23 #[.agg #[.int .i64 p, .int .i64 c, .int .i64 h, .int .i64 s], .slice a1 n1 c1, .slice a2 n2 c2, .agg #[.int .i64 ra, .int .i64 rb], .slice a3 n3 c3] w fun e w' => e = .returned (xoV (raceLossV p c h s xs ys zs ra rb)) ∧ Below w.heap.size w w' := by
  obtain ⟨BV, BR, BO, hb, hz⟩ := three_new w #[.int .i64 p, .int .i64 c, .int .i64 h, .int .i64 s] #[.int .i64 ra, .int .i64 rb] #[.int .i64 0, .int .i64 0] 25 39 35
  have hzz : w.heap.size + 1 + 1 < (((w.alloc (.cells #[.int .i64 p, .int .i64 c, .int .i64 h, .int .i64 s] 25)).alloc (.cells #[.int .i64 ra, .int .i64 rb] 39)).alloc (.cells #[.int .i64 0, .int .i64 0] 35)).heap.size := by rw [hz]; omega
  clear hz
  have HRO1 := Lib.hid hr1
  have HRO2 := Lib.hid hr2
  have HRO3 := Lib.hid hr3
  have hC3 := fun W (r : IRow W a3 zs) => bearoffCode_any p c h s a3 n3 c3 zs W hn3 hl3 r
  have hTN := fun W (r : IRow W a1 xs) (q : IRow W a2 ys) => turnCode_any p c h s a1 a2 n1 n2 c1 c2 xs ys ra rb W hn1 hn2 hl1 hl2 r q
  obtain ⟨KB, hKB⟩ : ∃ K, bcE p c h s zs = K := ⟨_, rfl⟩
  obtain ⟨KT, hKT⟩ : ∃ K, tnE p c h s xs ys ra rb = K := ⟨_, rfl⟩
  obtain ⟨KK, hKK⟩ : ∃ K, lsE p c h s xs ys zs ra rb = K := ⟨_, rfl⟩
  have hK : (if KB ≠ 0 then KB else KT) = KK := by rw [← hKK, lsE, hKB, hKT]
  rw [hKB] at hC3
  rw [hKT] at hTN
  have HC3 := Lib.hid hC3
  have HTN := Lib.hid hTN
  have HK := Lib.hid hK
  have HO := Lib.hid (fun (W : World) (HB : Blk (W.alloc (.cells #[.int .i64 KB, .int .i64 KT] 2)) W.heap.size #[.int .i64 KB, .int .i64 KT] 2) => or64_any _ KB KT _ HB)
  have HKK := Lib.hid hKK
  clear hr1 hr2 hr3 hC3 hTN hK hKB hKT hKK
  obtain ⟨x0, x1, x2, x3, xf, xl⟩ := BV.four
  obtain ⟨y0, y1, yf, yl⟩ := BR.two
  obtain ⟨z0, z1, zf, zl⟩ := BO.two
  by_cases k0 : KK = 0
  · have hz0 : lsE p c h s xs ys zs ra rb = 0 := by rw [HKK.out]; exact k0
    rw [raceLossV, if_pos hz0]
    obtain ⟨kz, kt⟩ := lsE_zero hz0
    obtain ⟨kO, hrl⟩ := tnE_zero kt
    obtain ⟨S, rfl, hS, hxp, hyp, hcn, few⟩ := rc_ready (rcE_zero (ocE_zero kO).1).1
    rw [Int.toNat_natCast]
    have hzp : Ps p c h (S : Int) zs := okP_of kz
    have HRL := Lib.hid hrl
    have HZP := Lib.hid hzp
    subst k0
    clear hz0 kz kt kO hrl hzp HKK
    go_enter Tryz.func23, Tryz.ntmps23
    go_wp2_with fail
    clear x0 x1 x2 x3 xf xl y0 y1 yf yl z0 z1 zf zl
    generalize (((w.alloc (.cells #[.int .i64 p, .int .i64 c, .int .i64 h, .int .i64 (S : Int)] 25)).alloc (.cells #[.int .i64 ra, .int .i64 rb] 39)).alloc (.cells #[.int .i64 0, .int .i64 0] 35)) = w1 at *
    replace BV := BV.drew
    replace BR := BR.drew
    replace BO := BO.drew
    replace hb := hb.drew
    refine wp_region_held_drew (S := fun w' => w'.cell? ⟨w.heap.size, 0, none⟩ = some (.int .i64 p) ∧ w'.cell? ⟨w.heap.size, 1, none⟩ = some (.int .i64 c) ∧ w'.cell? ⟨w.heap.size, 2, none⟩ = some (.int .i64 h) ∧ w'.cell? ⟨w.heap.size, 3, none⟩ = some (.int .i64 (S : Int)) ∧ w'.cell? ⟨w.heap.size + 1, 0, none⟩ = some (.int .i64 ra) ∧ w'.cell? ⟨w.heap.size + 1, 1, none⟩ = some (.int .i64 rb)) (by kernel_rfl) ⟨BV.four.1, BV.four.2.1, BV.four.2.2.1, BV.four.2.2.2.1, BR.two.1, BR.two.2.1⟩ (fun hHeld => ?_)
    clear hHeld
    have hz_vd : w1.drew.heap.size = w1.heap.size := rfl
    generalize w1.drew = vd at *
    have hHeld : vd.cell? ⟨w.heap.size, 0, none⟩ = some (.int .i64 p) ∧ vd.cell? ⟨w.heap.size, 1, none⟩ = some (.int .i64 c) ∧ vd.cell? ⟨w.heap.size, 2, none⟩ = some (.int .i64 h) ∧ vd.cell? ⟨w.heap.size, 3, none⟩ = some (.int .i64 (S : Int)) ∧ vd.cell? ⟨w.heap.size + 1, 0, none⟩ = some (.int .i64 ra) ∧ vd.cell? ⟨w.heap.size + 1, 1, none⟩ = some (.int .i64 rb) := ⟨BV.four.1, BV.four.2.1, BV.four.2.2.1, BV.four.2.2.2.1, BR.two.1, BR.two.2.1⟩
    refine tk 0 18 ?_
    refine tk 1 19 ?_
    refine tk 3 21 ?_
    refine tk 4 22 ?_
    refine tk 5 23 ?_
    refine tk 6 24 ?_
    refine rdk 2 20 fun K hK => ?_
    go_simp
    refine (HC3.out _ (HRO3.out.below hb)).mono ?_
    rintro e w2 ⟨rfl, hb2⟩
    replace BV := BV.below hb2
    replace BR := BR.below hb2
    replace BO := BO.below hb2
    replace hb := chain hb hb2
    clear hb2
    (try go_wp2_with fail)
    refine hko hK (Blk.f4 BV (Blk.l2 BR)) fun hHeld => ?_
    clear hK K
    refine rdk 7 25 fun K hK => ?_
    go_simp
    refine (HTN.out _ (HRO1.out.below hb) (HRO2.out.below hb)).mono ?_
    rintro e w3 ⟨rfl, hb3⟩
    replace BV := BV.below hb3
    replace BR := BR.below hb3
    replace BO := BO.below hb3
    replace hb := chain hb hb3
    clear hb3
    (try go_wp2_with fail)
    refine hko hK (Blk.f4 BV (Blk.l2 BR)) fun hHeld => ?_
    clear hK K
    refine rdk 8 26 fun K hK => ?_
    go_simp
    (try go_wp2_with fail)
    refine hko hK (Blk.f4 (BV.alloc (.cells #[.int .i64 KB, .int .i64 KT] 2)) (Blk.l2 (BR.alloc (.cells #[.int .i64 KB, .int .i64 KT] 2)))) fun hHeld => ?_
    clear hK K
    refine rdk 9 27 fun K hK => ?_
    go_simp
    have B8 := Blk.new w3 #[.int .i64 KB, .int .i64 KT] 2
    have hal : Below w3.heap.size w3 (w3.alloc (.cells #[.int .i64 KB, .int .i64 KT] 2)) := (Below.refl _ _).alloc (Nat.le_refl _) _
    replace BV := BV.below hal
    replace BR := BR.below hal
    replace BO := BO.below hal
    replace hb := chain hb hal
    clear hal
    refine (HO.out _ B8).mono ?_
    rintro e w4 ⟨rfl, rfl⟩
    rw [HK.out]
    (try go_wp2_with fail)
    refine hko hK (Blk.f4 BV (Blk.l2 BR)) fun hHeld => ?_
    clear hK K
    refine tk 10 12 ?_
    refine wpAnyH_done (by kernel_rfl) ?_ _
    clear hHeld
    obtain ⟨x0, x1, x2, x3, xf, xl⟩ := BV.four
    have HCU := Lib.hid (chancesUpTo_any p c h S hS a1 a2 n1 n2 c1 c2 xs ys _ hxp hyp hcn hn1 hn2 (HRO1.out.below hb) (HRO2.out.below hb))
    go_wp2_with fail
    refine (HCU.out).mono ?_
    rintro e w2 ⟨t, rfl, rfl, rfl, rfl, rfl, hK, hI, hgR0, hgC0, hb2⟩
    clear x0 x1 x2 x3 xf xl HCU
    have hw2 := hb2.size
    have hsw := hb.size
    replace BR := BR.below hb2
    replace BO := BO.below hb2
    replace hb := chain hb hb2
    have hgR : w.heap.size ≤ t.gR := by omega
    have hgC : w.heap.size ≤ t.gC := by omega
    obtain ⟨hx, hy, hK1⟩ := Tb.in_of hxp hyp hcn hK
    obtain ⟨hrb, hrn, hrm, hrp, hrt⟩ := res_ready (ys := ys) hS hx HRL.out
    have hbi := bst_map_in hS hy.1 hrn hrp
    obtain ⟨Y, hY⟩ : ∃ Y, nm t.c ys = Y := ⟨_, rfl⟩
    obtain ⟨Z, hZ⟩ : ∃ Z, nm t.c zs = Z := ⟨_, rfl⟩
    have HBE := Lib.hid (fun (gl k : Nat) W (q : TabI t W) (r : Row W gl ((resI xs (ordersP ra rb)).map fun z => (nm t.c z : Int))) => best_any t hS (pwT xs + pwT ys + 1) (win_any t hS few hK1 _) (resI xs (ordersP ra rb)) _ ys Y gl k W q rfl hrn hrm hrt hy hY r)
    have hAF := fun (hm : zs ∈ resI xs (ordersP ra rb)) W (q : TabI t W) => after_any t hS (pwT xs + pwT ys + 1) (win_any t hS few hK1 _) zs ys Z Y W q (hrt zs hm).1 hy hZ hY (hrt zs hm).2
    have hWI : ∀ x, ((wc t.S ys zs).map fun x => tp t.S - x) = some x → 0 ≤ x ∧ x ≤ tp t.S := fun x e => by
      obtain ⟨a1, a2, a3, -⟩ := hy.1.po
      rw [Option.map_eq_some_iff] at e
      obtain ⟨q, hq, rfl⟩ := e
      have := wc_in hS a2 a3 a1 HZP.out.po.1 hq
      show 0 ≤ tp t.S - q ∧ tp t.S - q ≤ tp t.S
      omega
    have HMN := Lib.hid (mem_nums (c := t.c) HZP.out hrp)
    obtain ⟨p1, p2, p3, p4, -⟩ := hx.1.po
    have HB := Lib.hid (fun (W : World) (r : IRow W a1 xs) => bearoffResultsM_any a1 n1 c1 xs ra rb W hn1 (by omega) (by omega) (by rw [← hn1, p4]; exact p1) hrb.1 hrb.2.1 hrb.2.2 r)
    have HLEN := Lib.hid (And.intro hrn hrm)
    have HPS := Lib.hid hrp
    have HWI := Lib.hid hWI
    have HBI := Lib.hid hbi
    have HY := Lib.hid hY
    have HZ := Lib.hid hZ
    have HYY := Lib.hid hy
    have HAF0 := Lib.hid hAF
    obtain ⟨N, hN⟩ : ∃ N, (resI xs (ordersP ra rb)).length = N := ⟨_, rfl⟩
    have hN1 : N ≤ 1048576 := by omega
    have HNL := Lib.hid hN
    clear hb2 hw2 hsw hgR0 hgC0 hK hrn hrm hrp hrt hbi hrb p1 p2 p3 p4 hY hZ hx hy hxp hyp hcn HRL BV hN hAF hWI
    go_wp2_with fail
    replace hI := hI.drew
    replace BR := BR.drew
    replace BO := BO.drew
    replace hb := hb.drew
    refine wp_region_held_drew (S := fun w' => w'.cell? ⟨t.g, 0, none⟩ = some (.int .i64 t.p) ∧ w'.cell? ⟨t.g, 1, none⟩ = some (.int .i64 t.c) ∧ w'.cell? ⟨t.g, 2, none⟩ = some (.int .i64 t.h) ∧ w'.cell? ⟨t.g, 3, none⟩ = some (.int .i64 (t.S : Int)) ∧ w'.cell? ⟨t.g, 4, none⟩ = some (.pointer (some ⟨t.gw, 0, none⟩)) ∧ w'.cell? ⟨w.heap.size + 1, 0, none⟩ = some (.int .i64 ra) ∧ w'.cell? ⟨w.heap.size + 1, 1, none⟩ = some (.int .i64 rb)) (by kernel_rfl) ⟨hI.st.1.thirteen.1, hI.st.1.thirteen.2.1, hI.st.1.thirteen.2.2.1, hI.st.1.thirteen.2.2.2.1, hI.st.1.thirteen.2.2.2.2.1, BR.two.1, BR.two.2.1⟩ (fun hHeld => ?_)
    clear hHeld
    have hz_v5 : w2.drew.heap.size = w2.heap.size := rfl
    generalize w2.drew = v5 at *
    have hHeld : v5.cell? ⟨t.g, 0, none⟩ = some (.int .i64 t.p) ∧ v5.cell? ⟨t.g, 1, none⟩ = some (.int .i64 t.c) ∧ v5.cell? ⟨t.g, 2, none⟩ = some (.int .i64 t.h) ∧ v5.cell? ⟨t.g, 3, none⟩ = some (.int .i64 (t.S : Int)) ∧ v5.cell? ⟨t.g, 4, none⟩ = some (.pointer (some ⟨t.gw, 0, none⟩)) ∧ v5.cell? ⟨w.heap.size + 1, 0, none⟩ = some (.int .i64 ra) ∧ v5.cell? ⟨w.heap.size + 1, 1, none⟩ = some (.int .i64 rb) := ⟨hI.st.1.thirteen.1, hI.st.1.thirteen.2.1, hI.st.1.thirteen.2.2.1, hI.st.1.thirteen.2.2.2.1, hI.st.1.thirteen.2.2.2.2.1, BR.two.1, BR.two.2.1⟩
    refine tk 0 36 ?_
    refine tk 1 37 ?_
    refine tk 2 38 ?_
    refine tk 3 39 ?_
    refine tk 4 40 ?_
    refine tk 5 41 ?_
    refine tk 8 44 ?_
    refine tk 9 45 ?_
    refine tk 10 46 ?_
    refine tk 11 47 ?_
    refine tk 12 48 ?_
    refine rdk 6 42 fun K hK => ?_
    go_simp
    refine (HB.out _ (HRO1.out.below hb)).mono ?_
    rintro e wd ⟨g5, k5, l5, rfl, -, hQ5, hnm5, hA5, -, hb5⟩
    have hQR : QR wd g5 l5 := ⟨hQ5, fun x hx => (hA5 x hx).2.2⟩
    replace hI := hI.below hb5
    replace BR := BR.below hb5
    replace BO := BO.below hb5
    replace hb := chain hb hb5
    clear hb5
    have HNM := Lib.hid hnm5
    have HL5 := Lib.hid (nm_len hnm5)
    clear hQ5 hA5 hnm5
    (try go_wp2_with fail)
    refine hko hK ⟨hI.st.1.thirteen.1, hI.st.1.thirteen.2.1, hI.st.1.thirteen.2.2.1, hI.st.1.thirteen.2.2.2.1, hI.st.1.thirteen.2.2.2.2.1, (Blk.l2 BR)⟩ fun hHeld => ?_
    clear hK K
    refine rdk 7 43 fun K hK => ?_
    go_simp
    refine (numbersOf_any t g5 l5.length k5 l5 _ rfl (by rw [HL5.out]; exact HLEN.out.2) hI.st.2.1 hQR.1 (fun x hx => ⟨hQR.2 x hx, HPS.out x.2.2 (by rw [← HNM.out]; exact List.mem_map.2 ⟨x, hx, rfl⟩)⟩)).mono ?_
    rintro e we ⟨g6, rfl, -, R6, hb6⟩
    clear hQR
    replace hI := hI.below hb6
    replace BR := BR.below hb6
    replace BO := BO.below hb6
    replace hb := chain hb hb6
    clear hb6
    rw [HNM.out] at R6
    rw [HL5.out, HNL.out]
    (try go_wp2_with fail)
    refine hko hK ⟨hI.st.1.thirteen.1, hI.st.1.thirteen.2.1, hI.st.1.thirteen.2.2.1, hI.st.1.thirteen.2.2.2.1, hI.st.1.thirteen.2.2.2.2.1, (Blk.l2 BR)⟩ fun hHeld => ?_
    clear hK K
    refine rdk 13 49 fun K hK => ?_
    go_simp
    refine (numOf_any t.p t.c t.h (t.S : Int) t.gw a3 n3 c3 zs _ HZP.out hn3 (HRO3.out.below hb) hI.st.2.1).mono ?_
    rintro e wf ⟨rfl, hb7⟩
    replace R6 := R6.below hb7
    replace hI := hI.below hb7
    replace BR := BR.below hb7
    replace BO := BO.below hb7
    replace hb := chain hb hb7
    clear hb7
    rw [HZ.out]
    (try go_wp2_with fail)
    refine hko hK ⟨hI.st.1.thirteen.1, hI.st.1.thirteen.2.1, hI.st.1.thirteen.2.2.1, hI.st.1.thirteen.2.2.2.1, hI.st.1.thirteen.2.2.2.2.1, (Blk.l2 BR)⟩ fun hHeld => ?_
    clear hK K
    refine tk 14 14 ?_
    refine tk 15 15 ?_
    refine wpAnyH_done (by kernel_rfl) ?_ _
    clear hHeld BR
    have HCT := Lib.hid (containsI_any (some ⟨g6, 0, none⟩) N N ((resI xs (ordersP ra rb)).map fun z => (nm t.c z : Int)) (Z : Int) wf (by rw [List.length_map, HNL.out]) hN1 R6.irow)
    obtain ⟨B, hB⟩ : ∃ B, decide ((Z : Int) ∈ (resI xs (ordersP ra rb)).map fun z => (nm t.c z : Int)) = B := ⟨_, rfl⟩
    rw [hB] at HCT
    have hBm : B = decide (zs ∈ resI xs (ordersP ra rb)) := by
      rw [← hB, decide_eq_decide, ← HZ.out]
      exact HMN.out
    have HBM := Lib.hid hBm
    clear hB hBm
    obtain ⟨z0, z1, zf, zl⟩ := BO.two
    go_wp2_with fail
    refine (HCT.out).mono ?_
    rintro e w7 ⟨rfl, rfl⟩
    clear z0 z1 zf zl
    cases B with
    | false =>
      have HV := Lib.hid (show lsR t.S xs ys zs ra rb = (0, 0, 4) by rw [lsR, if_neg (of_decide_eq_false HBM.out.symm)])
      obtain ⟨z0, z1, zf, zl⟩ := BO.two
      go_wp2_with fail
      have BRn := BO.set2 (.int .i64 0) (.int .i64 0)
      obtain ⟨u0, u1, uf, ul⟩ := BRn.two
      refine bodyPost_ret (v := .tuple #[.agg #[.int .i64 0, .int .i64 0], .int .i64 4]) (by simp [results, Tryz.results23, go_sem, u0, u1]) rfl ?_
      exact ⟨by rw [HV.out], belowFar2 hb (by omega) _ _⟩
    | true =>
      have hmz := of_decide_eq_true HBM.out.symm
      obtain ⟨⟨r1, r2, r3⟩, hR⟩ : ∃ r, exO t.S (lsO t.S xs ys zs ra rb) = r := ⟨_, rfl⟩
      have HV := Lib.hid (show lsR t.S xs ys zs ra rb = (r1, r2, r3) by rw [lsR, if_pos hmz, hR])
      unfold lsO at hR
      have HR := Lib.hid hR
      have HAF := Lib.hid (HAF0.out hmz)
      clear hmz hR HAF0
      obtain ⟨c0, c1_, c2_, c3_, c4, c5, c6, c7, c8, c9, cA, cB, cC, cf, cl⟩ := hI.st.1.thirteen
      go_wp2_with fail
      clear c0 c1_ c2_ c3_ c4 c5 c6 c7 c8 c9 cA cB cC cf cl
      refine (numOf_any t.p t.c t.h (t.S : Int) t.gw a2 n2 c2 ys _ HYY.out.1 hn2 (HRO2.out.below hb) hI.st.2.1).mono ?_
      rintro e wg ⟨rfl, hb4⟩
      rw [HY.out]
      replace hI := hI.below hb4
      replace BO := BO.below hb4
      replace R6 := R6.below hb4
      replace hb := chain hb hb4
      clear hb4
      have HBE2 := Lib.hid (HBE.out g6 N wg hI R6)
      rw [HNL.out] at HBE2
      go_wp2_with fail
      refine (HBE2.out).mono ?_
      rintro e wh ⟨f, y, cd, rfl, hI4, hga, hp, -⟩
      replace BO := hI.tab.gr BO hga.gr (by decide) (by decide)
      replace hb := hb.trans (hga.gr.below (base := w.heap.size) hgR hgC hb.size)
      have HP := Lib.hid hp
      clear hI hga hp R6 HBE HBE2
      have hal : Below wh.heap.size wh (wh.alloc (.cells #[.int .i64 y, .int .i64 cd] 87)) := (Below.refl _ _).alloc (Nat.le_refl _) _
      have B8 := Blk.new wh #[.int .i64 y, .int .i64 cd] 87
      have hI := hI4.below hal
      replace BO := BO.below hal
      replace hb := chain hb hal
      obtain ⟨g8, hg8⟩ : ∃ z, wh.heap.size = z := ⟨_, rfl⟩
      rw [hg8] at B8
      clear hal hI4
      go_wp2_with fail
      (try rw [hg8])
      generalize (wh.alloc (.cells #[.int .i64 y, .int .i64 cd] 87)) = w8 at *
      clear hg8
      replace hI := hI.drew
      replace BO := BO.drew
      replace B8 := B8.drew
      replace hb := hb.drew
      refine wp_region_held_drew (S := fun w' => w'.cell? ⟨t.g, 0, none⟩ = some (.int .i64 t.p) ∧ w'.cell? ⟨t.g, 1, none⟩ = some (.int .i64 t.c) ∧ w'.cell? ⟨t.g, 2, none⟩ = some (.int .i64 t.h) ∧ w'.cell? ⟨t.g, 3, none⟩ = some (.int .i64 (t.S : Int)) ∧ w'.cell? ⟨t.g, 4, none⟩ = some (.pointer (some ⟨t.gw, 0, none⟩)) ∧ w'.cell? ⟨g8, 0, none⟩ = some (.int .i64 y) ∧ w'.cell? ⟨g8, 1, none⟩ = some (.int .i64 cd)) (by kernel_rfl) ⟨hI.st.1.thirteen.1, hI.st.1.thirteen.2.1, hI.st.1.thirteen.2.2.1, hI.st.1.thirteen.2.2.2.1, hI.st.1.thirteen.2.2.2.2.1, B8.two.1, B8.two.2.1⟩ (fun hHeld => ?_)
      clear hHeld
      have hz_v9 : w8.drew.heap.size = w8.heap.size := rfl
      generalize w8.drew = v9 at *
      have hHeld : v9.cell? ⟨t.g, 0, none⟩ = some (.int .i64 t.p) ∧ v9.cell? ⟨t.g, 1, none⟩ = some (.int .i64 t.c) ∧ v9.cell? ⟨t.g, 2, none⟩ = some (.int .i64 t.h) ∧ v9.cell? ⟨t.g, 3, none⟩ = some (.int .i64 (t.S : Int)) ∧ v9.cell? ⟨t.g, 4, none⟩ = some (.pointer (some ⟨t.gw, 0, none⟩)) ∧ v9.cell? ⟨g8, 0, none⟩ = some (.int .i64 y) ∧ v9.cell? ⟨g8, 1, none⟩ = some (.int .i64 cd) := ⟨hI.st.1.thirteen.1, hI.st.1.thirteen.2.1, hI.st.1.thirteen.2.2.1, hI.st.1.thirteen.2.2.2.1, hI.st.1.thirteen.2.2.2.2.1, B8.two.1, B8.two.2.1⟩
      refine tk 0 67 ?_
      refine tk 1 68 ?_
      refine tk 2 69 ?_
      refine tk 3 70 ?_
      refine tk 4 71 ?_
      refine tk 5 72 ?_
      refine tk 6 73 ?_
      refine tk 7 74 ?_
      refine tk 8 75 ?_
      refine rdk 9 76 fun K hK => ?_
      go_simp
      refine (numOf_any t.p t.c t.h (t.S : Int) t.gw a2 n2 c2 ys _ HYY.out.1 hn2 (HRO2.out.below hb) hI.st.2.1).mono ?_
      rintro e wk ⟨rfl, hb4⟩
      replace hI := hI.below hb4
      replace BO := BO.below hb4
      replace B8 := B8.below hb4
      replace hb := chain hb hb4
      clear hb4
      rw [HY.out]
      (try go_wp2_with fail)
      refine hko hK ⟨hI.st.1.thirteen.1, hI.st.1.thirteen.2.1, hI.st.1.thirteen.2.2.1, hI.st.1.thirteen.2.2.2.1, hI.st.1.thirteen.2.2.2.2.1, (Blk.l2 B8)⟩ fun hHeld => ?_
      clear hK K
      refine rdk 10 77 fun K hK => ?_
      go_simp
      refine (HAF.out _ hI).mono ?_
      rintro e wl ⟨yw, cw, rfl, hp, hI2, hga⟩
      replace BO := hI.tab.gr BO hga.gr (by decide) (by decide)
      replace B8 := hI.tab.gr B8 hga.gr (by decide) (by decide)
      replace hb := hb.trans (hga.gr.below (base := w.heap.size) hgR hgC hb.size)
      clear hI hga
      rename TabI t wl => hI
      have hpw := hp.in HWI.out
      have hpb := HP.out.in HBI.out
      have htp := tp_in hS
      have HPW := Lib.hid hp
      clear hp
      (try go_wp2_with fail)
      refine hko hK ⟨hI.st.1.thirteen.1, hI.st.1.thirteen.2.1, hI.st.1.thirteen.2.2.1, hI.st.1.thirteen.2.2.2.1, hI.st.1.thirteen.2.2.2.2.1, (Blk.l2 B8)⟩ fun hHeld => ?_
      clear hK K
      refine rdk 11 78 fun K hK => ?_
      go_simp
      refine (minus_any y cd yw cw _ (by omega)).mono ?_
      rintro e wm ⟨rfl, hb6⟩
      replace hI := hI.below hb6
      replace BO := BO.below hb6
      replace B8 := B8.below hb6
      replace hb := chain hb hb6
      clear hb6
      obtain ⟨yy, hyy⟩ : ∃ v, y - yw = v := ⟨_, rfl⟩
      obtain ⟨cc, hcc⟩ : ∃ v, (if cd ≠ 0 then cd else cw) = v := ⟨_, rfl⟩
      have hyb : -1000000000000000000 ≤ yy ∧ yy ≤ 1000000000000000000 := by omega
      have HLK := Lib.hid (lk_ex HP.out HPW.out)
      rw [hyy, hcc] at HLK
      rw [hyy, hcc]
      clear hyy hcc hpw hpb htp
      (try go_wp2_with fail)
      refine hko hK ⟨hI.st.1.thirteen.1, hI.st.1.thirteen.2.1, hI.st.1.thirteen.2.2.1, hI.st.1.thirteen.2.2.2.1, hI.st.1.thirteen.2.2.2.2.1, (Blk.l2 B8)⟩ fun hHeld => ?_
      clear hK K
      refine rdk 12 79 fun K hK => ?_
      go_simp
      refine (exact_any t hS yy cc hyb _ hI).mono ?_
      rintro e wn ⟨rfl, hb7⟩
      replace hI := hI.below hb7
      replace BO := BO.below hb7
      replace B8 := B8.below hb7
      replace hb := chain hb hb7
      clear hb7
      rw [show exV t.S yy cc = (r1, r2, r3) from HLK.out.trans HR.out]
      dsimp only [xoV]
      (try go_wp2_with fail)
      refine hko hK ⟨hI.st.1.thirteen.1, hI.st.1.thirteen.2.1, hI.st.1.thirteen.2.2.1, hI.st.1.thirteen.2.2.2.1, hI.st.1.thirteen.2.2.2.2.1, (Blk.l2 B8)⟩ fun hHeld => ?_
      clear hK K
      refine tk 13 80 ?_
      refine tk 14 81 ?_
      refine rdn 15 fun K hK => ?_
      have u0 := BO.two.1
      have u1 := BO.two.2.1
      have uf := BO.two.2.2.1
      have ul := BO.two.2.2.2
      have BT2 : Blk _ t.g t.cells 91 := (hI.st.1.far2 (B := w.heap.size + 1 + 1) (hI.st.1.ne BO (by decide)) (.int .i64 r1) (.int .i64 r2))
      have B82 := (B8.far2 (B := w.heap.size + 1 + 1) (B8.ne BO (by decide)) (.int .i64 r1) (.int .i64 r2))
      go_simp
      (try go_wp2_with fail)
      refine hko hK ⟨BT2.thirteen.1, BT2.thirteen.2.1, BT2.thirteen.2.2.1, BT2.thirteen.2.2.2.1, BT2.thirteen.2.2.2.2.1, (Blk.l2 B82)⟩ fun hHeld => ?_
      clear hK K
      refine tk 16 11 ?_
      refine wpAnyH_done (by kernel_rfl) ?_ _
      clear hHeld
      go_wp2_with fail
      have BRn := BO.set2 (.int .i64 r1) (.int .i64 r2)
      obtain ⟨u0, u1, uf, ul⟩ := BRn.two
      refine bodyPost_ret (v := .tuple #[.agg #[.int .i64 r1, .int .i64 r2], .int .i64 r3]) (by simp [results, Tryz.results23, go_sem, u0, u1]) rfl ?_
      exact ⟨by rw [HV.out], belowFar2 hb (by omega) _ _⟩
  · have hz0 : lsE p c h s xs ys zs ra rb ≠ 0 := by rw [HKK.out]; exact k0
    rw [raceLossV, if_neg hz0, HKK.out]
    have f0 : (KK != 0) = true := by rw [bne_iff_ne]; exact k0
    clear hz0 HKK k0
    dsimp only [xoV]
    go_enter Tryz.func23, Tryz.ntmps23
    go_wp2_with fail
    clear x0 x1 x2 x3 xf xl y0 y1 yf yl z0 z1 zf zl
    generalize (((w.alloc (.cells #[.int .i64 p, .int .i64 c, .int .i64 h, .int .i64 s] 25)).alloc (.cells #[.int .i64 ra, .int .i64 rb] 39)).alloc (.cells #[.int .i64 0, .int .i64 0] 35)) = w1 at *
    replace BV := BV.drew
    replace BR := BR.drew
    replace BO := BO.drew
    replace hb := hb.drew
    refine wp_region_held_drew (S := fun w' => w'.cell? ⟨w.heap.size, 0, none⟩ = some (.int .i64 p) ∧ w'.cell? ⟨w.heap.size, 1, none⟩ = some (.int .i64 c) ∧ w'.cell? ⟨w.heap.size, 2, none⟩ = some (.int .i64 h) ∧ w'.cell? ⟨w.heap.size, 3, none⟩ = some (.int .i64 s) ∧ w'.cell? ⟨w.heap.size + 1, 0, none⟩ = some (.int .i64 ra) ∧ w'.cell? ⟨w.heap.size + 1, 1, none⟩ = some (.int .i64 rb)) (by kernel_rfl) ⟨BV.four.1, BV.four.2.1, BV.four.2.2.1, BV.four.2.2.2.1, BR.two.1, BR.two.2.1⟩ (fun hHeld => ?_)
    clear hHeld
    have hz_vd : w1.drew.heap.size = w1.heap.size := rfl
    generalize w1.drew = vd at *
    have hHeld : vd.cell? ⟨w.heap.size, 0, none⟩ = some (.int .i64 p) ∧ vd.cell? ⟨w.heap.size, 1, none⟩ = some (.int .i64 c) ∧ vd.cell? ⟨w.heap.size, 2, none⟩ = some (.int .i64 h) ∧ vd.cell? ⟨w.heap.size, 3, none⟩ = some (.int .i64 s) ∧ vd.cell? ⟨w.heap.size + 1, 0, none⟩ = some (.int .i64 ra) ∧ vd.cell? ⟨w.heap.size + 1, 1, none⟩ = some (.int .i64 rb) := ⟨BV.four.1, BV.four.2.1, BV.four.2.2.1, BV.four.2.2.2.1, BR.two.1, BR.two.2.1⟩
    refine tk 0 18 ?_
    refine tk 1 19 ?_
    refine tk 3 21 ?_
    refine tk 4 22 ?_
    refine tk 5 23 ?_
    refine tk 6 24 ?_
    refine rdk 2 20 fun K hK => ?_
    go_simp
    refine (HC3.out _ (HRO3.out.below hb)).mono ?_
    rintro e w2 ⟨rfl, hb2⟩
    replace BV := BV.below hb2
    replace BR := BR.below hb2
    replace BO := BO.below hb2
    replace hb := chain hb hb2
    clear hb2
    (try go_wp2_with fail)
    refine hko hK (Blk.f4 BV (Blk.l2 BR)) fun hHeld => ?_
    clear hK K
    refine rdk 7 25 fun K hK => ?_
    go_simp
    refine (HTN.out _ (HRO1.out.below hb) (HRO2.out.below hb)).mono ?_
    rintro e w3 ⟨rfl, hb3⟩
    replace BV := BV.below hb3
    replace BR := BR.below hb3
    replace BO := BO.below hb3
    replace hb := chain hb hb3
    clear hb3
    (try go_wp2_with fail)
    refine hko hK (Blk.f4 BV (Blk.l2 BR)) fun hHeld => ?_
    clear hK K
    refine rdk 8 26 fun K hK => ?_
    go_simp
    (try go_wp2_with fail)
    refine hko hK (Blk.f4 (BV.alloc (.cells #[.int .i64 KB, .int .i64 KT] 2)) (Blk.l2 (BR.alloc (.cells #[.int .i64 KB, .int .i64 KT] 2)))) fun hHeld => ?_
    clear hK K
    refine rdk 9 27 fun K hK => ?_
    go_simp
    have B8 := Blk.new w3 #[.int .i64 KB, .int .i64 KT] 2
    have hal : Below w3.heap.size w3 (w3.alloc (.cells #[.int .i64 KB, .int .i64 KT] 2)) := (Below.refl _ _).alloc (Nat.le_refl _) _
    replace BV := BV.below hal
    replace BR := BR.below hal
    replace BO := BO.below hal
    replace hb := chain hb hal
    clear hal
    refine (HO.out _ B8).mono ?_
    rintro e w4 ⟨rfl, rfl⟩
    rw [HK.out]
    (try go_wp2_with fail)
    refine hko hK (Blk.f4 BV (Blk.l2 BR)) fun hHeld => ?_
    clear hK K
    refine tk 10 12 ?_
    refine wpAnyH_done (by kernel_rfl) ?_ _
    clear hHeld
    obtain ⟨z0, z1, zf, zl⟩ := BO.two
    go_wp2_with fail
    have BRn := BO.set2 (.int .i64 0) (.int .i64 0)
    obtain ⟨u0, u1, uf, ul⟩ := BRn.two
    refine bodyPost_ret (v := .tuple #[.agg #[.int .i64 0, .int .i64 0], .int .i64 KK]) (by simp [results, Tryz.results23, go_sem, u0, u1]) rfl ?_
    exact ⟨rfl, belowFar2 hb (by omega) _ _⟩
end Go.Proofs.YtlnljfbdicgkcaaGreat
namespace Go.Proofs.YtlnljfbdicgkcaaGreat
open Go.ChangeShapes Go.WideShapes Go.ChangeAt Go.RowKit
set_option linter.unusedVariables false
set_option linter.unusedSimpArgs false
set_option maxRecDepth 4000
theorem tnE_bad {p c h s : Int} {xs ys : List Int} {ra rb : Int} (g : vB p c h s = false) : tnE p c h s xs ys ra rb = 1 := by
  unfold tnE
  rw [if_neg (by simp [g])]
  unfold ocE rcE rcB bcE
  simp [g]
theorem tnE_good {p c h s : Int} {xs ys : List Int} {ra rb : Int} (g : vB p c h s = true) : tnE p c h s xs ys ra rb ≠ 1 := by
  have h1 : rcB p c h s xs ys ≠ 1 := by
    unfold rcB tcE bcE
    simp only [g, if_true]
    split <;> (try split) <;> (try split) <;> (try split) <;> omega
  have h2 : rcE p c h s xs ys ≠ 1 := by
    unfold rcE
    split
    · split <;> omega
    · exact h1
  have h3 : ocE p c h s xs ys ≠ 1 := by
    unfold ocE
    split
    · split <;> omega
    · exact h2
  unfold tnE
  split
  · omega
  · exact h3
set_option maxRecDepth 8000 in
set_option maxHeartbeats 3000000 in
theorem specRaceLoss_any (p c h s : Int) (a1 a2 a3 : Option Addr) (n1 n2 n3 c1 c2 c3 : Nat) (xs ys zs : List Int) (ra rb : Int) (w : World) (hn1 : xs.length = n1) (hn2 : ys.length = n2) (hn3 : zs.length = n3) (hl1 : n1 ≤ 1048576) (hl2 : n2 ≤ 1048576) (hl3 : n3 ≤ 1048576) (hc1 : n1 ≤ c1) (hc2 : n2 ≤ c2) (hc3 : n3 ≤ c3) (hr1 : IRow w a1 xs) (hr2 : IRow w a2 ys) (hr3 : IRow w a3 zs) :
    Calls Tryz.prog 38 #[.agg #[.int .i64 p, .int .i64 c, .int .i64 h, .int .i64 s], .slice a1 n1 c1, .slice a2 n2 c2, .agg #[.int .i64 ra, .int .i64 rb], .slice a3 n3 c3] w fun e w' => e = .returned (xoV (raceLossV p c h s xs ys zs ra rb)) ∧ Below w.heap.size w w' := by
  obtain ⟨BV, BR, BO, hb, hz⟩ := three_new w #[.int .i64 p, .int .i64 c, .int .i64 h, .int .i64 s] #[.int .i64 ra, .int .i64 rb] #[.int .i64 0, .int .i64 0] 25 39 35
  have hzz : w.heap.size + 1 + 1 < (((w.alloc (.cells #[.int .i64 p, .int .i64 c, .int .i64 h, .int .i64 s] 25)).alloc (.cells #[.int .i64 ra, .int .i64 rb] 39)).alloc (.cells #[.int .i64 0, .int .i64 0] 35)).heap.size := by rw [hz]; omega
  clear hz
  have HRO1 := Lib.hid hr1
  have HRO2 := Lib.hid hr2
  have HRO3 := Lib.hid hr3
  have HC := Lib.hid (l12Code_any p c h s a1 a2 n1 n2 c1 c2 xs ys ra rb true true _ hn1 hn2 hl1 hl2 (hr1.below hb) (hr2.below hb))
  rw [lcE_tn] at HC
  obtain ⟨KT, hKT⟩ : ∃ K, tnE p c h s xs ys ra rb = K := ⟨_, rfl⟩
  rw [hKT] at HC
  have HKT := Lib.hid hKT
  have hIV := fun W => specIsVariant_any p c h s W
  clear hr1 hr2 hr3
  cases g : vB p c h s with
  | false =>
    have hK1 : KT = 1 := by rw [← hKT]; exact tnE_bad g
    have HV := Lib.hid (show raceLossV p c h s xs ys zs ra rb = (0, 0, 1) by
      have : lsE p c h s xs ys zs ra rb = 1 := by
        have hb1 : bcE p c h s zs = 1 := by simp [bcE, g]
        rw [lsE, hb1]; rfl
      rw [raceLossV, this]
      rfl)
    subst hK1
    clear hKT hIV
    obtain ⟨x0, x1, x2, x3, xf, xl⟩ := BV.four
    obtain ⟨y0, y1, yf, yl⟩ := BR.two
    obtain ⟨z0, z1, zf, zl⟩ := BO.two
    go_enter Tryz.func38, Tryz.ntmps38
    go_wp2_with fail
    refine (HC.out).mono ?_
    rintro e w1 ⟨rfl, hb1⟩
    clear x0 x1 x2 x3 xf xl y0 y1 yf yl z0 z1 zf zl
    have hs_hb1 := hb1.size
    replace BO := BO.below hb1
    replace hb := chain hb hb1
    clear hb1
    obtain ⟨z0, z1, zf, zl⟩ := BO.two
    go_wp2_with fail
    have BRn := BO.set2 (.int .i64 0) (.int .i64 0)
    obtain ⟨u0, u1, uf, ul⟩ := BRn.two
    refine bodyPost_ret (v := .tuple #[.agg #[.int .i64 0, .int .i64 0], .int .i64 1]) (by simp [results, Tryz.results38, go_sem, u0, u1]) rfl ?_
    exact ⟨by rw [HV.out], belowFar2 hb (by omega) _ _⟩
  | true =>
    have hK1 : KT ≠ 1 := by rw [← hKT]; exact tnE_good g
    have f1 : (KT != 1) = true := by rw [bne_iff_ne]; exact hK1
    rw [g] at hIV
    have HIV := Lib.hid hIV
    have hLV := fun W (r : IRow W a3 zs) => l10Valid_any p c h s a3 n3 c3 zs W g hn3 hl3 r
    cases sd : sideB (h - 1) c zs with
    | false =>
      rw [sd] at hLV
      have HLV := Lib.hid hLV
      have HV := Lib.hid (show raceLossV p c h s xs ys zs ra rb = (0, 0, 2) by
        have : lsE p c h s xs ys zs ra rb = 2 := by rw [lsE, bcE, if_pos g, sd]; rfl
        rw [raceLossV, this]
        rfl)
      clear hKT hIV hLV hK1 g sd
      obtain ⟨x0, x1, x2, x3, xf, xl⟩ := BV.four
      obtain ⟨y0, y1, yf, yl⟩ := BR.two
      obtain ⟨z0, z1, zf, zl⟩ := BO.two
      go_enter Tryz.func38, Tryz.ntmps38
      go_wp2_with fail
      refine (HC.out).mono ?_
      rintro e w1 ⟨rfl, hb1⟩
      clear x0 x1 x2 x3 xf xl y0 y1 yf yl z0 z1 zf zl
      have hs_hb1 := hb1.size
      replace BV := BV.below hb1
      replace BR := BR.below hb1
      replace BO := BO.below hb1
      replace hb := chain hb hb1
      clear hb1
      clear HC
      obtain ⟨x0, x1, x2, x3, xf, xl⟩ := BV.four
      obtain ⟨y0, y1, yf, yl⟩ := BR.two
      obtain ⟨z0, z1, zf, zl⟩ := BO.two
      go_wp2_with fail
      refine (HIV.out _).mono ?_
      rintro e w1b ⟨rfl, hb1b⟩
      clear x0 x1 x2 x3 xf xl y0 y1 yf yl z0 z1 zf zl
      have hs_hb1b := hb1b.size
      replace BV := BV.below hb1b
      replace BR := BR.below hb1b
      replace BO := BO.below hb1b
      replace hb := chain hb hb1b
      clear hb1b
      obtain ⟨x0, x1, x2, x3, xf, xl⟩ := BV.four
      obtain ⟨y0, y1, yf, yl⟩ := BR.two
      obtain ⟨z0, z1, zf, zl⟩ := BO.two
      go_wp2_with fail
      refine (HLV.out _ (HRO3.out.below hb)).mono ?_
      rintro e w1c ⟨rfl, hb1c⟩
      clear x0 x1 x2 x3 xf xl y0 y1 yf yl z0 z1 zf zl
      have hs_hb1c := hb1c.size
      replace BV := BV.below hb1c
      replace BR := BR.below hb1c
      replace BO := BO.below hb1c
      replace hb := chain hb hb1c
      clear hb1c
      obtain ⟨z0, z1, zf, zl⟩ := BO.two
      go_wp2_with fail
      have BRn := BO.set2 (.int .i64 0) (.int .i64 0)
      obtain ⟨u0, u1, uf, ul⟩ := BRn.two
      refine bodyPost_ret (v := .tuple #[.agg #[.int .i64 0, .int .i64 0], .int .i64 2]) (by simp [results, Tryz.results38, go_sem, u0, u1]) rfl ?_
      exact ⟨by rw [HV.out], belowFar2 hb (by omega) _ _⟩
    | true =>
      rw [sd] at hLV
      have HLV := Lib.hid hLV
      have hb0 : bcE p c h s zs = 0 := by rw [bcE, if_pos g, sd]; rfl
      have hls : lsE p c h s xs ys zs ra rb = KT := by rw [lsE, hb0, if_neg (by simp)]; exact hKT
      by_cases k0 : KT = 0
      · subst k0
        have hvB := g
        obtain ⟨kO, hrl⟩ := tnE_zero hKT
        have hx0 := (ocE_zero kO).2.1
        have hy0 := (ocE_zero kO).2.2
        obtain ⟨S, rfl, hS, hxp, hyp, hcn, few⟩ := rc_ready (rcE_zero (ocE_zero kO).1).1
        have hzp : Ps p c h (S : Int) zs := okP_of hb0
        have HVR := Lib.hid (show raceLossV p c h (S : Int) xs ys zs ra rb = lsR S xs ys zs ra rb by rw [raceLossV, if_pos hls, Int.toNat_natCast])
        have HNW := Lib.hid (fun W => l12New_any p c h S hvB hcn W)
        obtain ⟨r1, r2, r3⟩ : 1 ≤ rb ∧ rb ≤ ra ∧ ra ≤ 6 := by
          simp only [rlB, inB, Bool.and_eq_true, decide_eq_true_eq] at hrl
          omega
        have hsi := resS_I hxp.po.1 r1 r2
        obtain ⟨p1, p2, p3, p4, -⟩ := hxp.po
        have hinU := bst_map_in hS hyp (resI_ne p2 p3 p1 r1 r2 r3) (fun z hz => (hxp.res (r := (ra, rb)) r1 r2 r3 z hz).1)
        rw [← hsi] at hinU
        have HSI := Lib.hid hsi
        have HINU := Lib.hid hinU
        have hinO : ∀ x, ((wc S ys zs).map fun x => tp S - x) = some x → 0 ≤ x ∧ x ≤ tp S := fun x e => by
          obtain ⟨q1, q2, q3, -⟩ := hyp.po
          rw [Option.map_eq_some_iff] at e
          obtain ⟨q, hq, rfl⟩ := e
          have := wc_in hS q2 q3 q1 hzp.po.1 hq
          show 0 ≤ tp S - q ∧ tp S - q ≤ tp S
          omega
        have HINO := Lib.hid hinO
        have HRES := Lib.hid (fun W (r : IRow W a1 xs) => l10Results_any p c h (S : Int) h.toNat a1 c1 xs ra rb W p2 p3 p1 (by omega) r1 r2 r3 r)
        rw [hn1] at HRES
        have HLN := Lib.hid (show ∀ z ∈ resS xs ra rb, z.length = zs.length from fun z hz => by
          rw [hsi] at hz
          have e1 := (hxp.res (r := (ra, rb)) r1 r2 r3 z hz).1.po
          have e2 := hzp.po
          omega)
        have HX0 := Lib.hid hx0
        have HY0 := Lib.hid hy0
        have HRR := Lib.hid (And.intro r1 (And.intro r2 r3))
        have HZP := Lib.hid hzp
        clear hKT hIV hLV hK1 g sd hb0 hls kO hrl hvB hsi p1 p2 p3 p4 hx0 hy0 r1 r2 r3 hinU hinO hzp
        obtain ⟨x0, x1, x2, x3, xf, xl⟩ := BV.four
        obtain ⟨y0, y1, yf, yl⟩ := BR.two
        obtain ⟨z0, z1, zf, zl⟩ := BO.two
        go_enter Tryz.func38, Tryz.ntmps38
        go_wp2_with fail
        refine (HC.out).mono ?_
        rintro e w1 ⟨rfl, hb1⟩
        clear x0 x1 x2 x3 xf xl y0 y1 yf yl z0 z1 zf zl
        have hs_hb1 := hb1.size
        replace BV := BV.below hb1
        replace BR := BR.below hb1
        replace BO := BO.below hb1
        replace hb := chain hb hb1
        clear hb1
        clear HC
        obtain ⟨x0, x1, x2, x3, xf, xl⟩ := BV.four
        obtain ⟨y0, y1, yf, yl⟩ := BR.two
        obtain ⟨z0, z1, zf, zl⟩ := BO.two
        go_wp2_with fail
        refine (HIV.out _).mono ?_
        rintro e w1b ⟨rfl, hb1b⟩
        clear x0 x1 x2 x3 xf xl y0 y1 yf yl z0 z1 zf zl
        have hs_hb1b := hb1b.size
        replace BV := BV.below hb1b
        replace BR := BR.below hb1b
        replace BO := BO.below hb1b
        replace hb := chain hb hb1b
        clear hb1b
        obtain ⟨x0, x1, x2, x3, xf, xl⟩ := BV.four
        obtain ⟨y0, y1, yf, yl⟩ := BR.two
        obtain ⟨z0, z1, zf, zl⟩ := BO.two
        go_wp2_with fail
        refine (HLV.out _ (HRO3.out.below hb)).mono ?_
        rintro e w1c ⟨rfl, hb1c⟩
        clear x0 x1 x2 x3 xf xl y0 y1 yf yl z0 z1 zf zl
        have hs_hb1c := hb1c.size
        replace BV := BV.below hb1c
        replace BR := BR.below hb1c
        replace BO := BO.below hb1c
        replace hb := chain hb hb1c
        clear hb1c
        obtain ⟨x0, x1, x2, x3, xf, xl⟩ := BV.four
        obtain ⟨y0, y1, yf, yl⟩ := BR.two
        obtain ⟨z0, z1, zf, zl⟩ := BO.two
        go_wp2_with fail
        refine (HNW.out _).mono ?_
        rintro e w2 ⟨t, rfl, rfl, rfl, rfl, rfl, hI, hgk, hgv, hb2⟩
        clear x0 x1 x2 x3 xf xl y0 y1 yf yl z0 z1 zf zl
        have hlt := hI.lts
        have hzb := hb.size
        have q2_ : RF t w2 a2 ys := (RF.of (m := w1c.heap.size) (HRO2.out.below hb) (Nat.le_refl _) hgk hgv).gr (Gr.of hb2)
        have q3_ : RF t w2 a3 zs := (RF.of (m := w1c.heap.size) (HRO3.out.below hb) (Nat.le_refl _) hgk hgv).gr (Gr.of hb2)
        have hs_hb2 := hb2.size
        replace BV := BV.below hb2
        replace BR := BR.below hb2
        replace BO := BO.below hb2
        replace hb := chain hb hb2
        clear hb2
        clear HNW
        obtain ⟨x0, x1, x2, x3, xf, xl⟩ := BV.four
        obtain ⟨y0, y1, yf, yl⟩ := BR.two
        obtain ⟨z0, z1, zf, zl⟩ := BO.two
        go_wp2_with fail
        refine (HRES.out _ (HRO1.out.below hb)).mono ?_
        rintro e w3 ⟨gl, kl, l, rfl, hkl, hQ, hnm, hA, hC, hb3⟩
        clear x0 x1 x2 x3 xf xl y0 y1 yf yl z0 z1 zf zl
        have hrw : ∀ x ∈ l, Row w3 x.1 x.2.2 := fun x hx => (hA x hx).2.2
        clear hA hkl
        have q2 := q2_.gr (Gr.of hb3)
        have q3 := q3_.gr (Gr.of hb3)
        clear q2_ q3_
        have hs_hb3 := hb3.size
        replace BV := BV.below hb3
        replace BR := BR.below hb3
        replace BO := BO.below hb3
        replace hI := hI.below hb3
        replace hb := chain hb hb3
        clear hb3
        have HFS := Lib.hid (resS_facts (t := t) (ys := ys) hxp HX0.out HRR.out.1 HRR.out.2.1 HRR.out.2.2)
        have hll : l.length = (resS xs ra rb).length := by rw [← hnm, List.length_map]
        obtain ⟨N, hN⟩ : ∃ N, l.length = N := ⟨_, rfl⟩
        have hN1 : 0 < N ∧ N ≤ 1048576 := by rw [← hN, hll]; exact ⟨HFS.out.1, HFS.out.2.1⟩
        have n0 : (N : Int) ≤ 1048576 := by omega
        (try rw [hN])
        have HN := Lib.hid hN
        have HNM := Lib.hid hnm
        have HQ := Lib.hid hQ
        have HRW := Lib.hid hrw
        have HR3 := Lib.hid (show IRow w3 a3 zs from q3.irow)
        have HZL := Lib.hid (show ∀ x ∈ l, x.2.2.length = zs.length from fun x hx => HLN.out x.2.2 (by rw [← hnm]; exact List.mem_map.2 ⟨x, hx, rfl⟩))
        have hs3 := hb.size
        clear hN hll hnm hQ hrw HLN
        have hbL : Below w3.heap.size w3 w3 := Below.refl _ _
        go_wp2_with fail
        go_loopg [15, 16] N (fun m q15 q16 wr => ∃ (W : World) (j : Nat) (fv : Int), W = wr ∧ j ≤ N ∧ m = N - j ∧ q16 = .int .i64 (j : Int) ∧ q15 = .int .i64 fv ∧ -1 ≤ fv ∧ (0 ≤ fv ↔ zs ∈ (nmQ l).take j) ∧ Below w3.heap.size w3 W)
        case atStart => exact ⟨w3, 0, -1, rfl, by omega, by omega, rfl, rfl, by omega, by simp, hbL⟩
        case round =>
          clear hbL
          obtain ⟨wr, j, fv, hWW, hj, hm, rfl, rfl, hf1, hf2, hbL⟩ := hrel
          subst hWW
          have HF2 := Lib.hid hf2
          clear hf2
          by_cases hltj : j < N
          · have hlt' : (j : Int) < (N : Int) := by omega
            have j0 : (0 : Int) ≤ (j : Int) := by omega
            obtain ⟨⟨gx, kx, z⟩, hx⟩ : ∃ x, l[j]? = some x := ⟨_, List.getElem?_eq_getElem (by rw [HN.out]; exact hltj)⟩
            have hxm := List.mem_of_getElem? hx
            have hzl := HZL.out _ hxm
            have u0 : CellIs wr gl j (.slice (some ⟨gx, 0, none⟩) z.length kx) := QRow.at (VRow.below HQ.out hbL) j _ hx
            unfold CellIs at u0
            have hrz := HRW.out _ hxm
            dsimp only at hzl hrz
            have htk : (nmQ l).take (j + 1) = (nmQ l).take j ++ [z] := by
              rw [List.take_add_one, List.getElem?_map, hx]
              rfl
            rw [hzl, hn3] at u0
            have HB1 := Lib.hid (fun W (hW : Below w3.heap.size w3 W) => l10Before_any (some ⟨gx, 0, none⟩) a3 n3 kx c3 z zs W (by rw [hzl, hn3]) hn3 hl3 ((hrz.below hW).irow) (HR3.out.below hW))
            have HB2 := Lib.hid (fun W (hW : Below w3.heap.size w3 W) => l10Before_any a3 (some ⟨gx, 0, none⟩) n3 c3 kx zs z W hn3 (by rw [hzl, hn3]) hl3 (HR3.out.below hW) ((hrz.below hW).irow))
            have HTK := Lib.hid htk
            have HZZ := Lib.hid (show (ltP z zs = true ∨ ltP zs z = true → z ≠ zs) ∧ (ltP z zs = false → ltP zs z = false → z = zs) from ⟨fun h e => (by subst e; rcases h with h | h <;> (rw [ltP_irr] at h; cases h)), fun h1 h2 => ltP_tri hzl h1 h2⟩)
            clear hx hxm hzl hrz htk
            cases hl1z : ltP z zs with
            | true =>
              rw [hl1z] at HB1
              have hne := HZZ.out.1 (.inl hl1z)
              have HF3 := Lib.hid (show 0 ≤ fv ↔ zs ∈ (nmQ l).take (j + 1) by
                rw [HTK.out, List.mem_append]
                exact ⟨fun h => .inl (HF2.out.1 h), fun h => h.elim HF2.out.2 (fun h => by simp at h; exact absurd h.symm hne)⟩)
              clear hl1z hne HZZ
              go_wp2_with fail
              clear u0
              refine (HB1.out _ hbL).mono ?_
              rintro e w5 ⟨rfl, hb5⟩
              have hbL2 := chain hbL hb5
              clear hb5
              go_wp2
              go_roundg (N - (j + 1))
              case measure => omega
              case rel => exact ⟨_, j + 1, fv, rfl, by omega, rfl, by go_num, rfl, hf1, HF3.out, hbL2⟩
            | false =>
              rw [hl1z] at HB1
              go_wp2_with fail
              refine (HB1.out _ hbL).mono ?_
              rintro e w5 ⟨rfl, hb5⟩
              have hbL2 := chain hbL hb5
              obtain ⟨hc5, hf5⟩ := bcell hb5
              have u1 : w5.cell? ⟨gl, j, none⟩ = some (.slice (some ⟨gx, 0, none⟩) n3 kx) := by
                rw [hc5 _ _ (World.block_lt_of_cell? wr _ u0)]
                exact u0
              clear hb5 hc5 hf5 u0
              cases hl2z : ltP zs z with
              | true =>
                rw [hl2z] at HB2
                have hne := HZZ.out.1 (.inr hl2z)
                have HF3 := Lib.hid (show 0 ≤ fv ↔ zs ∈ (nmQ l).take (j + 1) by
                  rw [HTK.out, List.mem_append]
                  exact ⟨fun h => .inl (HF2.out.1 h), fun h => h.elim HF2.out.2 (fun h => by simp at h; exact absurd h.symm hne)⟩)
                clear hl1z hl2z hne HZZ
                go_wp2_with fail
                clear u1
                refine (HB2.out _ hbL2).mono ?_
                rintro e w6 ⟨rfl, hb6⟩
                have hbL3 := chain hbL2 hb6
                clear hb6
                go_wp2
                go_roundg (N - (j + 1))
                case measure => omega
                case rel => exact ⟨_, j + 1, fv, rfl, by omega, rfl, by go_num, rfl, hf1, HF3.out, hbL3⟩
              | false =>
                rw [hl2z] at HB2
                have heq := HZZ.out.2 hl1z hl2z
                have HF3 := Lib.hid (show 0 ≤ (j : Int) ↔ zs ∈ (nmQ l).take (j + 1) by
                  rw [HTK.out, List.mem_append]
                  exact ⟨fun _ => .inr (by rw [heq]; simp), fun _ => by omega⟩)
                clear hl1z hl2z heq HZZ
                go_wp2_with fail
                clear u1
                refine (HB2.out _ hbL2).mono ?_
                rintro e w6 ⟨rfl, hb6⟩
                have hbL3 := chain hbL2 hb6
                clear hb6
                go_wp2
                go_roundg (N - (j + 1))
                case measure => omega
                case rel => exact ⟨_, j + 1, (j : Int), rfl, by omega, rfl, by go_num, rfl, by omega, HF3.out, hbL3⟩
          · obtain rfl : j = N := by omega
            have hmem : 0 ≤ fv ↔ zs ∈ resI xs (ordersP ra rb) := by
              have := HF2.out
              rwa [List.take_of_length_le (by rw [List.length_map, HN.out]; exact Nat.le_refl _), HNM.out, HSI.out] at this
            have HMEM := Lib.hid hmem
            have hg : Gr t.gk t.gv w3 wr := Gr.of hbL
            have hsL := hbL.size
            replace hI := hI.below hbL
            replace BV := BV.below hbL
            replace BR := BR.below hbL
            replace BO := BO.below hbL
            replace hb := chain hb hbL
            have HBL := Lib.hid hbL
            clear hmem hbL
            by_cases hfv : fv < 0
            · have HV := Lib.hid (show raceLossV t.p t.c t.h (t.S : Int) xs ys zs ra rb = (0, 0, 4) by
                rw [HVR.out, lsR, if_neg (fun m => by have := HMEM.out.2 m; omega)])
              obtain ⟨z0, z1, zf, zl⟩ := BO.two
              go_wp2_with fail
              have BRn := BO.set2 (.int .i64 0) (.int .i64 0)
              obtain ⟨u0, u1, uf, ul⟩ := BRn.two
              refine bodyPost_ret (v := .tuple #[.agg #[.int .i64 0, .int .i64 0], .int .i64 4]) (by simp [results, Tryz.results38, go_sem, u0, u1]) rfl ?_
              exact ⟨by rw [HV.out], belowFar2 hb (by omega) _ _⟩
            · have hmz := HMEM.out.1 (by omega)
              have hmS : zs ∈ resS xs ra rb := by rw [HSI.out]; exact hmz
              have HVS := Lib.hid (show raceLossV t.p t.c t.h (t.S : Int) xs ys zs ra rb = exO t.S (((bst (tp t.S) (wc t.S ys) (resS xs ra rb)).map fun q => q.2).bind fun q => ((wc t.S ys zs).map fun x => tp t.S - x).map fun x => q - x) by
                rw [HVR.out, lsR, if_pos hmz, lsO, HSI.out])
              have HB5 := Lib.hid (l12Best_any t hS (pwT xs + pwT ys) (wm_any t hS _) l j ys gl kl a2 n2 c2 wr hI HN.out hN1.1 hN1.2 (VRow.below HQ.out HBL.out) (fun x hx => (HRW.out x hx).below HBL.out) hC (by rw [HNM.out]; exact HFS.out.2.2) hyp HY0.out hn2 hc2 (q2.gr hg))
              rw [HNM.out] at HB5
              have hzf := HFS.out.2.2 zs hmS
              have HZF := Lib.hid hzf
              have HG0 := Lib.hid hg
              clear hmz hmS hzf hg
              have hfv2 : ¬ fv < 0 := hfv
              obtain ⟨x0, x1, x2, x3, xf, xl⟩ := BV.four
              obtain ⟨y0, y1, yf, yl⟩ := BR.two
              obtain ⟨z0, z1, zf, zl⟩ := BO.two
              go_wp2_with fail
              refine (HB5.out).mono ?_
              rintro e w6 ⟨i0_, m0, e0, b1, rfl, hI6, hg6, hbm⟩
              clear x0 x1 x2 x3 xf xl y0 y1 yf yl z0 z1 zf zl
              have hg := HG0.out.trans hg6
              have hs_hg6 := hg6.size
              replace BV := BV.gr hg6 (by omega) (by omega)
              replace BR := BR.gr hg6 (by omega) (by omega)
              replace BO := BO.gr hg6 (by omega) (by omega)
              replace hb := hb.trans (hg6.below (base := w.heap.size) (by omega) (by omega) hb.size)
              clear hg6
              clear hI HB5
              have hI := hI6
              clear hI6
              have hal : Below w6.heap.size w6 (w6.alloc (.cells #[.int .i64 m0, .int .i64 e0] 35)) := (Below.refl _ _).alloc (Nat.le_refl _) _
              have BY := Blk.new w6 #[.int .i64 m0, .int .i64 e0] 35
              replace BV := BV.below hal
              replace BR := BR.below hal
              replace BO := BO.below hal
              replace hI := hI.below hal
              replace hb := chain hb hal
              have hs_BY := hal.size
              obtain ⟨z18, hz18⟩ : ∃ z, w6.heap.size = z := ⟨_, rfl⟩
              rw [hz18] at BY
              clear hal
              replace hg := hg.then ((Below.refl _ _).alloc (Nat.le_refl _) (.cells #[.int .i64 m0, .int .i64 e0] 35))
              have HA := Lib.hid (l12After_any t hS (pwT xs + pwT ys) (wm_any t hS _) zs ys a3 a2 n3 n2 c3 c2 _ hI HZF.out.1 hyp hn3 hn2 hc3 hc2 (q3.gr hg) (q2.gr hg) HZF.out.2 HY0.out)
              obtain ⟨x0, x1, x2, x3, xf, xl⟩ := BV.four
              obtain ⟨y0, y1, yf, yl⟩ := BR.two
              obtain ⟨z0, z1, zf, zl⟩ := BO.two
              obtain ⟨q0_BY, q1_BY, qf_BY, ql_BY⟩ := BY.two
              go_wp2_with fail
              (try rw [hz18])
              generalize (w6.alloc (.cells #[.int .i64 m0, .int .i64 e0] 35)) = w7 at *
              refine (HA.out).mono ?_
              rintro e w8 ⟨n0_, d0, b0, rfl, hx, hI8, hg8⟩
              clear x0 x1 x2 x3 xf xl y0 y1 yf yl z0 z1 zf zl q0_BY q1_BY qf_BY ql_BY
              have hs_hg8 := hg8.size
              replace BV := BV.gr hg8 (by omega) (by omega)
              replace BR := BR.gr hg8 (by omega) (by omega)
              replace BO := BO.gr hg8 (by omega) (by omega)
              replace BY := BY.gr hg8 (by omega) (by omega)
              replace hb := hb.trans (hg8.below (base := w.heap.size) (by omega) (by omega) hb.size)
              clear hg8
              clear hI HA hg hI8
              have hal : Below w8.heap.size w8 (w8.alloc (.cells #[.int .i64 n0_, .int .i64 d0] 35)) := (Below.refl _ _).alloc (Nat.le_refl _) _
              have BX := Blk.new w8 #[.int .i64 n0_, .int .i64 d0] 35
              replace BV := BV.below hal
              replace BR := BR.below hal
              replace BO := BO.below hal
              replace BY := BY.below hal
              replace hb := chain hb hal
              have hs_BX := hal.size
              obtain ⟨z20, hz20⟩ : ∃ z, w8.heap.size = z := ⟨_, rfl⟩
              rw [hz20] at BX
              clear hal
              cases hU : bst (tp t.S) (wc t.S ys) (resS xs ra rb) with
              | none =>
                rw [hU] at hbm
                obtain rfl : b1 = false := hbm
                have HV := Lib.hid (show raceLossV t.p t.c t.h (t.S : Int) xs ys zs ra rb = (0, 0, 3) by rw [HVS.out, hU]; rfl)
                clear hU hx
                obtain ⟨x0, x1, x2, x3, xf, xl⟩ := BV.four
                obtain ⟨y0, y1, yf, yl⟩ := BR.two
                obtain ⟨z0, z1, zf, zl⟩ := BO.two
                obtain ⟨q0_BX, q1_BX, qf_BX, ql_BX⟩ := BX.two
                obtain ⟨q0_BY, q1_BY, qf_BY, ql_BY⟩ := BY.two
                go_wp2_with fail
                (try rw [hz20])
                generalize (w8.alloc (.cells #[.int .i64 n0_, .int .i64 d0] 35)) = w9 at *
                have BRn := BO.set2 (.int .i64 0) (.int .i64 0)
                obtain ⟨u0, u1, uf, ul⟩ := BRn.two
                refine bodyPost_ret (v := .tuple #[.agg #[.int .i64 0, .int .i64 0], .int .i64 3]) (by simp [results, Tryz.results38, go_sem, u0, u1]) rfl ?_
                exact ⟨by rw [HV.out], belowFar2 hb (by omega) _ _⟩
              | some q =>
                rw [hU] at hbm
                obtain ⟨rfl, -, -, hP⟩ := hbm
                cases hO : ((wc t.S ys zs).map fun x => tp t.S - x) with
                | none =>
                  rw [hO] at hx
                  obtain rfl : b0 = false := hx
                  have HV := Lib.hid (show raceLossV t.p t.c t.h (t.S : Int) xs ys zs ra rb = (0, 0, 3) by rw [HVS.out, hU, hO]; rfl)
                  clear hU hO hP
                  obtain ⟨x0, x1, x2, x3, xf, xl⟩ := BV.four
                  obtain ⟨y0, y1, yf, yl⟩ := BR.two
                  obtain ⟨z0, z1, zf, zl⟩ := BO.two
                  obtain ⟨q0_BX, q1_BX, qf_BX, ql_BX⟩ := BX.two
                  obtain ⟨q0_BY, q1_BY, qf_BY, ql_BY⟩ := BY.two
                  go_wp2_with fail
                  (try rw [hz20])
                  generalize (w8.alloc (.cells #[.int .i64 n0_, .int .i64 d0] 35)) = w9 at *
                  have BRn := BO.set2 (.int .i64 0) (.int .i64 0)
                  obtain ⟨u0, u1, uf, ul⟩ := BRn.two
                  refine bodyPost_ret (v := .tuple #[.agg #[.int .i64 0, .int .i64 0], .int .i64 3]) (by simp [results, Tryz.results38, go_sem, u0, u1]) rfl ?_
                  exact ⟨by rw [HV.out], belowFar2 hb (by omega) _ _⟩
                | some Q =>
                  rw [hO] at hx
                  obtain ⟨rfl, hQ_⟩ := hx
                  have htp := tp_in hS
                  have hq1 := HINO.out Q hO
                  have hq2 := HINU.out q.2 (by rw [hU]; rfl)
                  obtain ⟨i0, i1, i2, i3, i4⟩ := isP_depth hS hQ_
                  obtain ⟨j0, j1, j2, j3, j4⟩ := isP_depth hS hP
                  obtain ⟨m1, e1, had, hmf⟩ := isP_add hS hP (isP_neg hQ_) (by omega) (by omega)
                  have hA := fun W => l09Add_any t.p t.c t.h t.S hS m0 e0 (-n0_) d0 (by omega) (by omega) (by omega) (by omega) W
                  rw [had] at hA
                  simp only [xoN, xoD, Option.isSome] at hA
                  have wz : IntKind.i64.wrap (-n0_) = -n0_ := IntWalk.i64_in _ (by omega)
                  have HA := Lib.hid hA
                  have HV := Lib.hid (show raceLossV t.p t.c t.h (t.S : Int) xs ys zs ra rb = (m1, e1, 0) by
                    rw [HVS.out, hU, hO]
                    unfold exO
                    dsimp only [Option.map, Option.bind]
                    rw [show q.2 - Q = q.2 + -Q by omega, ex_of hS hmf]
                    rfl)
                  clear hA had hmf hQ_ hP htp hq1 hq2 i0 i1 i2 i3 i4 j0 j1 j2 j3 j4 hU hO
                  obtain ⟨x0, x1, x2, x3, xf, xl⟩ := BV.four
                  obtain ⟨y0, y1, yf, yl⟩ := BR.two
                  obtain ⟨z0, z1, zf, zl⟩ := BO.two
                  obtain ⟨q0_BX, q1_BX, qf_BX, ql_BX⟩ := BX.two
                  obtain ⟨q0_BY, q1_BY, qf_BY, ql_BY⟩ := BY.two
                  go_wp2_with fail
                  (try rw [hz20])
                  generalize (w8.alloc (.cells #[.int .i64 n0_, .int .i64 d0] 35)) = w9 at *
                  refine (HA.out _).mono ?_
                  rintro e w10 ⟨rfl, hb8⟩
                  clear x0 x1 x2 x3 xf xl y0 y1 yf yl z0 z1 zf zl q0_BX q1_BX qf_BX ql_BX q0_BY q1_BY qf_BY ql_BY
                  have hs_hb8 := hb8.size
                  replace BO := BO.below hb8
                  replace hb := chain hb hb8
                  clear hb8
                  clear BX BY BV BR
                  have hal : Below w10.heap.size w10 (w10.alloc (.cells #[.int .i64 m1, .int .i64 e1] 35)) := (Below.refl _ _).alloc (Nat.le_refl _) _
                  have BZ := Blk.new w10 #[.int .i64 m1, .int .i64 e1] 35
                  replace BO := BO.below hal
                  replace hb := chain hb hal
                  have hs_BZ := hal.size
                  obtain ⟨z22, hz22⟩ : ∃ z, w10.heap.size = z := ⟨_, rfl⟩
                  rw [hz22] at BZ
                  clear hal
                  obtain ⟨z0, z1, zf, zl⟩ := BO.two
                  obtain ⟨q0_BZ, q1_BZ, qf_BZ, ql_BZ⟩ := BZ.two
                  go_wp2_with fail
                  (try rw [hz22])
                  generalize (w10.alloc (.cells #[.int .i64 m1, .int .i64 e1] 35)) = w11 at *
                  have BRn := BO.set2 (.int .i64 m1) (.int .i64 e1)
                  obtain ⟨u0, u1, uf, ul⟩ := BRn.two
                  refine bodyPost_ret (v := .tuple #[.agg #[.int .i64 m1, .int .i64 e1], .int .i64 0]) (by simp [results, Tryz.results38, go_sem, u0, u1]) rfl ?_
                  exact ⟨by rw [HV.out], belowFar2 hb (by omega) _ _⟩
      · have HV := Lib.hid (show raceLossV p c h s xs ys zs ra rb = (0, 0, KT) by rw [raceLossV, if_neg (by rw [hls]; exact k0), hls])
        have f0 : (KT != 0) = true := by rw [bne_iff_ne]; exact k0
        clear hKT hIV hLV hK1 g sd hb0 hls k0
        obtain ⟨x0, x1, x2, x3, xf, xl⟩ := BV.four
        obtain ⟨y0, y1, yf, yl⟩ := BR.two
        obtain ⟨z0, z1, zf, zl⟩ := BO.two
        go_enter Tryz.func38, Tryz.ntmps38
        go_wp2_with fail
        refine (HC.out).mono ?_
        rintro e w1 ⟨rfl, hb1⟩
        clear x0 x1 x2 x3 xf xl y0 y1 yf yl z0 z1 zf zl
        have hs_hb1 := hb1.size
        replace BV := BV.below hb1
        replace BR := BR.below hb1
        replace BO := BO.below hb1
        replace hb := chain hb hb1
        clear hb1
        clear HC
        obtain ⟨x0, x1, x2, x3, xf, xl⟩ := BV.four
        obtain ⟨y0, y1, yf, yl⟩ := BR.two
        obtain ⟨z0, z1, zf, zl⟩ := BO.two
        go_wp2_with fail
        refine (HIV.out _).mono ?_
        rintro e w1b ⟨rfl, hb1b⟩
        clear x0 x1 x2 x3 xf xl y0 y1 yf yl z0 z1 zf zl
        have hs_hb1b := hb1b.size
        replace BV := BV.below hb1b
        replace BR := BR.below hb1b
        replace BO := BO.below hb1b
        replace hb := chain hb hb1b
        clear hb1b
        obtain ⟨x0, x1, x2, x3, xf, xl⟩ := BV.four
        obtain ⟨y0, y1, yf, yl⟩ := BR.two
        obtain ⟨z0, z1, zf, zl⟩ := BO.two
        go_wp2_with fail
        refine (HLV.out _ (HRO3.out.below hb)).mono ?_
        rintro e w1c ⟨rfl, hb1c⟩
        clear x0 x1 x2 x3 xf xl y0 y1 yf yl z0 z1 zf zl
        have hs_hb1c := hb1c.size
        replace BV := BV.below hb1c
        replace BR := BR.below hb1c
        replace BO := BO.below hb1c
        replace hb := chain hb hb1c
        clear hb1c
        obtain ⟨z0, z1, zf, zl⟩ := BO.two
        go_wp2_with fail
        have BRn := BO.set2 (.int .i64 0) (.int .i64 0)
        obtain ⟨u0, u1, uf, ul⟩ := BRn.two
        refine bodyPost_ret (v := .tuple #[.agg #[.int .i64 0, .int .i64 0], .int .i64 KT]) (by simp [results, Tryz.results38, go_sem, u0, u1]) rfl ?_
        exact ⟨by rw [HV.out], belowFar2 hb (by omega) _ _⟩
end Go.Proofs.YtlnljfbdicgkcaaGreat
