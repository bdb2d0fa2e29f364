/- Texts of a proof, laid together. -/
import Derived.Test.YtnlclmlnpkncoaaGreatW28
import Derived.Test.YtnlclmlnpkncoaaGreatW23
import Derived.Deep.LoopGhost
import Derived.Test.YtnlclmlnpkncoaaGreatW01
import Derived.BigQuiet
import Derived.Test.YtnlclmlnpkncoaaGreatW07
import Derived.Deep.Slices
import Derived.Deep.Fields
import Derived.ChangeSame
import Derived.OpenShut
import Derived.Lib.SmallJoins
import Derived.Test.YtnlclmlnpkncoaaGreatW02
namespace Go.Proofs.YtnlclmlnpkncoaaGreat
open Go.ChangeShapes Go.WideShapes Go.ChangeAt Go.RowKit
set_option linter.unusedVariables false
set_option linter.unusedSimpArgs false
set_option maxRecDepth 4000
set_option maxHeartbeats 1000000 in
theorem indexI_any (a : Option Addr) (n cap : Nat) (xs : List Int) (v : Int) (w : World) (hn : xs.length = n) (hle : n ≤ 1048576) (hr : IRow w a xs) :
    Calls Tryz.prog 86 #[.slice a n cap, .int .i64 v] w fun e w' => ∃ r : Int, e = .returned (.int .i64 r) ∧ -1 ≤ r ∧ (0 ≤ r ↔ v ∈ xs) ∧ w = w' := by
  subst hn
  have HR := Lib.hid hr
  have n0 : (xs.length : Int) ≤ 1048576 := by omega
  clear hr
  go_enter Tryz.func86, Tryz.ntmps86
  go_wp2
  go_loopg [8] xs.length (fun m i wr => ∃ k : Nat, w = wr ∧ k ≤ xs.length ∧ m = xs.length - k ∧ i = .int .i64 k ∧ v ∉ xs.take k)
  case atStart => exact ⟨0, rfl, by omega, by omega, rfl, by simp⟩
  case round =>
    obtain ⟨k, rfl, hk, hm, rfl, hno⟩ := hrel
    have HNO := Lib.hid hno
    clear hno
    by_cases hlt : k < xs.length
    · have hlt' : (k : Int) < (xs.length : Int) := by omega
      have hk0 : (0 : Int) ≤ (k : Int) := by omega
      obtain ⟨b, o, rfl, hc⟩ := HR.out k hlt
      obtain ⟨u, hu⟩ : ∃ u, xs.getD k 0 = u := ⟨_, rfl⟩
      have hmem : u ∈ xs := by rw [← hu]; exact getD_mem hlt
      have htk := take_snoc_int xs k hlt
      rw [hu] at hc htk
      by_cases e : v = u
      · have f0 : (v == u) = true := by rw [beq_iff_eq]; exact e
        have HM := Lib.hid (show v ∈ xs from e ▸ hmem)
        clear e hu hmem htk
        go_wp2
        go_ret
        exact ⟨(k : Int), rfl, by omega, ⟨fun _ => HM.out, fun _ => hk0⟩, rfl⟩
      · have f0 : (v == u) = false := by rw [beq_eq_false_iff_ne]; exact e
        have HN2 := Lib.hid (show v ∉ xs.take (k + 1) by
          rw [htk]
          intro h
          rcases List.mem_append.1 h with h | h
          · exact HNO.out h
          · simp at h
            exact e h)
        clear e hu hmem htk
        go_wp2
        go_roundg (xs.length - (k + 1))
        case measure => omega
        case rel => exact ⟨k + 1, rfl, by omega, rfl, by go_num, HN2.out⟩
    · obtain rfl : k = xs.length := by omega
      have HN2 := Lib.hid (show v ∉ xs by have := HNO.out; rwa [List.take_length] at this)
      go_wp2
      go_ret
      exact ⟨-1, rfl, by omega, ⟨fun h => by omega, fun h => absurd h HN2.out⟩, rfl⟩
set_option maxHeartbeats 1000000 in
theorem containsI_any (a : Option Addr) (n cap : Nat) (xs : List Int) (v : Int) (w : World) (hn : xs.length = n) (hle : n ≤ 1048576) (hr : IRow w a xs) :
    Calls Tryz.prog 49 #[.slice a n cap, .int .i64 v] w fun e w' => e = .returned (.bool (decide (v ∈ xs))) ∧ w = w' := by
  have H := Lib.hid (indexI_any a n cap xs v w hn hle hr)
  obtain ⟨R, hR⟩ : ∃ R, decide (v ∈ xs) = R := ⟨_, rfl⟩
  rw [hR]
  have HR := Lib.hid hR
  clear hR hr
  go_enter Tryz.func49, Tryz.ntmps49
  go_wp2_with fail
  refine (H.out).mono ?_
  rintro e w1 ⟨r, rfl, hr1, hr2, rfl⟩
  have hd : decide (0 ≤ r) = R := by rw [← HR.out, decide_eq_decide]; exact hr2
  have HD := Lib.hid hd
  clear hr2 hd
  go_wp2
  go_ret
  exact ⟨by rw [← HD.out]; rfl, rfl⟩
def lsE (p c h s : Int) (xs ys zs : List Int) (ra rb : Int) : Int := if bcE p c h s zs ≠ 0 then bcE p c h s zs else tnE p c h s xs ys ra rb
def lsO (S : Nat) (xs ys zs : List Int) (ra rb : Int) : Option Int := ((bst (tp S) (wc S ys) (resI xs (ordersP ra rb))).map fun q => q.2).bind fun q => ((wc S ys zs).map fun x => tp S - x).map fun x => q - x
def lsR (S : Nat) (xs ys zs : List Int) (ra rb : Int) : Int × Int × Int := if zs ∈ resI xs (ordersP ra rb) then exO S (lsO S xs ys zs ra rb) else (0, 0, 4)
def raceLossV (p c h s : Int) (xs ys zs : List Int) (ra rb : Int) : Int × Int × Int := if lsE p c h s xs ys zs ra rb = 0 then lsR s.toNat xs ys zs ra rb else (0, 0, lsE p c h s xs ys zs ra rb)
theorem lsE_zero {p c h s : Int} {xs ys zs : List Int} {ra rb : Int} (e : lsE p c h s xs ys zs ra rb = 0) : bcE p c h s zs = 0 ∧ tnE p c h s xs ys ra rb = 0 := by
  unfold lsE at e
  split at e
  · rename_i q
    exact absurd e q
  · rename_i q
    exact ⟨by omega, e⟩
theorem mem_nums {p c h s : Int} {L : List (List Int)} {z : List Int} (hz : Ps p c h s z) (hL : ∀ x ∈ L, Ps p c h s x) : ((nm c z : Int) ∈ L.map fun x => (nm c x : Int)) ↔ z ∈ L := by
  constructor
  · intro m
    obtain ⟨x, hx, e⟩ := List.mem_map.1 m
    have e2 : nm c x = nm c z := by exact_mod_cast e
    have := nm_inj (hL x hx) hz e2
    exact this ▸ hx
  · intro m
    exact List.mem_map.2 ⟨z, m, rfl⟩
set_option maxRecDepth 8000 in
set_option maxHeartbeats 2000000 in
theorem raceLoss_any (p c h s : Int) (a1 a2 a3 : Option Addr) (n1 n2 n3 c1 c2 c3 : Nat) (xs ys zs : List Int) (ra rb : Int) (w : World) (hn1 : xs.length = n1) (hn2 : ys.length = n2) (hn3 : zs.length = n3) (hl1 : n1 ≤ 1048576) (hl2 : n2 ≤ 1048576) (hl3 : n3 ≤ 1048576) (hr1 : IRow w a1 xs) (hr2 : IRow w a2 ys) (hr3 : IRow w a3 zs) :
    Calls Tryz.prog 17 #[.agg #[.int .i64 p, .int .i64 c, .int .i64 h, .int .i64 s], .slice a1 n1 c1, .slice a2 n2 c2, .agg #[.int .i64 ra, .int .i64 rb], .slice a3 n3 c3] w fun e w' => e = .returned (xoV (raceLossV p c h s xs ys zs ra rb)) ∧ Below w.heap.size w w' := by
  obtain ⟨BV, BR, BO, hb, hz⟩ := three_new w #[.int .i64 p, .int .i64 c, .int .i64 h, .int .i64 s] #[.int .i64 ra, .int .i64 rb] #[.int .i64 0, .int .i64 0] 25 39 35
  have hzz : w.heap.size + 1 + 1 < (((w.alloc (.cells #[.int .i64 p, .int .i64 c, .int .i64 h, .int .i64 s] 25)).alloc (.cells #[.int .i64 ra, .int .i64 rb] 39)).alloc (.cells #[.int .i64 0, .int .i64 0] 35)).heap.size := by rw [hz]; omega
  clear hz
  have HRO1 := Lib.hid hr1
  have HRO2 := Lib.hid hr2
  have HRO3 := Lib.hid hr3
  have hC3 := fun W (r : IRow W a3 zs) => bearoffCode_any p c h s a3 n3 c3 zs W hn3 hl3 r
  have hTN := fun W (r : IRow W a1 xs) (q : IRow W a2 ys) => turnCode_any p c h s a1 a2 n1 n2 c1 c2 xs ys ra rb W hn1 hn2 hl1 hl2 r q
  obtain ⟨KB, hKB⟩ : ∃ K, bcE p c h s zs = K := ⟨_, rfl⟩
  obtain ⟨KT, hKT⟩ : ∃ K, tnE p c h s xs ys ra rb = K := ⟨_, rfl⟩
  obtain ⟨KK, hKK⟩ : ∃ K, lsE p c h s xs ys zs ra rb = K := ⟨_, rfl⟩
  have hK : (if KB ≠ 0 then KB else KT) = KK := by rw [← hKK, lsE, hKB, hKT]
  rw [hKB] at hC3
  rw [hKT] at hTN
  have HC3 := Lib.hid hC3
  have HTN := Lib.hid hTN
  have HK := Lib.hid hK
  have HO := Lib.hid (fun (W : World) (HB : Blk (W.alloc (.cells #[.int .i64 KB, .int .i64 KT] 2)) W.heap.size #[.int .i64 KB, .int .i64 KT] 2) => or64_any _ KB KT _ HB)
  have HKK := Lib.hid hKK
  clear hr1 hr2 hr3 hC3 hTN hK hKB hKT hKK
  obtain ⟨x0, x1, x2, x3, xf, xl⟩ := BV.four
  obtain ⟨y0, y1, yf, yl⟩ := BR.two
  obtain ⟨z0, z1, zf, zl⟩ := BO.two
  by_cases k0 : KK = 0
  · have hz0 : lsE p c h s xs ys zs ra rb = 0 := by rw [HKK.out]; exact k0
    rw [raceLossV, if_pos hz0]
    obtain ⟨kz, kt⟩ := lsE_zero hz0
    obtain ⟨kO, hrl⟩ := tnE_zero kt
    obtain ⟨S, rfl, hS, hxp, hyp, hcn, few⟩ := rc_ready (rcE_zero (ocE_zero kO).1).1
    rw [Int.toNat_natCast]
    have hzp : Ps p c h (S : Int) zs := okP_of kz
    have HRL := Lib.hid hrl
    have HZP := Lib.hid hzp
    subst k0
    clear hz0 kz kt kO hrl hzp HKK
    go_enter Tryz.func17, Tryz.ntmps17
    go_wp2_with fail
    clear x0 x1 x2 x3 xf xl y0 y1 yf yl z0 z1 zf zl
    generalize (((w.alloc (.cells #[.int .i64 p, .int .i64 c, .int .i64 h, .int .i64 (S : Int)] 25)).alloc (.cells #[.int .i64 ra, .int .i64 rb] 39)).alloc (.cells #[.int .i64 0, .int .i64 0] 35)) = w1 at *
    replace BV := BV.drew
    replace BR := BR.drew
    replace BO := BO.drew
    replace hb := hb.drew
    refine wp_region_held_drew (S := fun w' => w'.cell? ⟨w.heap.size, 0, none⟩ = some (.int .i64 p) ∧ w'.cell? ⟨w.heap.size, 1, none⟩ = some (.int .i64 c) ∧ w'.cell? ⟨w.heap.size, 2, none⟩ = some (.int .i64 h) ∧ w'.cell? ⟨w.heap.size, 3, none⟩ = some (.int .i64 (S : Int)) ∧ w'.cell? ⟨w.heap.size + 1, 0, none⟩ = some (.int .i64 ra) ∧ w'.cell? ⟨w.heap.size + 1, 1, none⟩ = some (.int .i64 rb)) (by kernel_rfl) ⟨BV.four.1, BV.four.2.1, BV.four.2.2.1, BV.four.2.2.2.1, BR.two.1, BR.two.2.1⟩ (fun hHeld => ?_)
    clear hHeld
    have hz_vd : w1.drew.heap.size = w1.heap.size := rfl
    generalize w1.drew = vd at *
    have hHeld : vd.cell? ⟨w.heap.size, 0, none⟩ = some (.int .i64 p) ∧ vd.cell? ⟨w.heap.size, 1, none⟩ = some (.int .i64 c) ∧ vd.cell? ⟨w.heap.size, 2, none⟩ = some (.int .i64 h) ∧ vd.cell? ⟨w.heap.size, 3, none⟩ = some (.int .i64 (S : Int)) ∧ vd.cell? ⟨w.heap.size + 1, 0, none⟩ = some (.int .i64 ra) ∧ vd.cell? ⟨w.heap.size + 1, 1, none⟩ = some (.int .i64 rb) := ⟨BV.four.1, BV.four.2.1, BV.four.2.2.1, BV.four.2.2.2.1, BR.two.1, BR.two.2.1⟩
    refine tk 0 18 ?_
    refine tk 1 19 ?_
    refine tk 3 21 ?_
    refine tk 4 22 ?_
    refine tk 5 23 ?_
    refine tk 6 24 ?_
    refine rdk 2 20 fun K hK => ?_
    go_simp
    refine (HC3.out _ (HRO3.out.below hb)).mono ?_
    rintro e w2 ⟨rfl, hb2⟩
    replace BV := BV.below hb2
    replace BR := BR.below hb2
    replace BO := BO.below hb2
    replace hb := chain hb hb2
    clear hb2
    (try go_wp2_with fail)
    refine hko hK (Blk.f4 BV (Blk.l2 BR)) fun hHeld => ?_
    clear hK K
    refine rdk 7 25 fun K hK => ?_
    go_simp
    refine (HTN.out _ (HRO1.out.below hb) (HRO2.out.below hb)).mono ?_
    rintro e w3 ⟨rfl, hb3⟩
    replace BV := BV.below hb3
    replace BR := BR.below hb3
    replace BO := BO.below hb3
    replace hb := chain hb hb3
    clear hb3
    (try go_wp2_with fail)
    refine hko hK (Blk.f4 BV (Blk.l2 BR)) fun hHeld => ?_
    clear hK K
    refine rdk 8 26 fun K hK => ?_
    go_simp
    (try go_wp2_with fail)
    refine hko hK (Blk.f4 (BV.alloc (.cells #[.int .i64 KB, .int .i64 KT] 2)) (Blk.l2 (BR.alloc (.cells #[.int .i64 KB, .int .i64 KT] 2)))) fun hHeld => ?_
    clear hK K
    refine rdk 9 27 fun K hK => ?_
    go_simp
    have B8 := Blk.new w3 #[.int .i64 KB, .int .i64 KT] 2
    have hal : Below w3.heap.size w3 (w3.alloc (.cells #[.int .i64 KB, .int .i64 KT] 2)) := (Below.refl _ _).alloc (Nat.le_refl _) _
    replace BV := BV.below hal
    replace BR := BR.below hal
    replace BO := BO.below hal
    replace hb := chain hb hal
    clear hal
    refine (HO.out _ B8).mono ?_
    rintro e w4 ⟨rfl, rfl⟩
    rw [HK.out]
    (try go_wp2_with fail)
    refine hko hK (Blk.f4 BV (Blk.l2 BR)) fun hHeld => ?_
    clear hK K
    refine tk 10 12 ?_
    refine wpAnyH_done (by kernel_rfl) ?_ _
    clear hHeld
    obtain ⟨x0, x1, x2, x3, xf, xl⟩ := BV.four
    have HCU := Lib.hid (chancesUpTo_any p c h S hS a1 a2 n1 n2 c1 c2 xs ys _ hxp hyp hcn hn1 hn2 (HRO1.out.below hb) (HRO2.out.below hb))
    go_wp2_with fail
    refine (HCU.out).mono ?_
    rintro e w2 ⟨t, rfl, rfl, rfl, rfl, rfl, hK, hI, hgR0, hgC0, hb2⟩
    clear x0 x1 x2 x3 xf xl HCU
    have hw2 := hb2.size
    have hsw := hb.size
    replace BR := BR.below hb2
    replace BO := BO.below hb2
    replace hb := chain hb hb2
    have hgR : w.heap.size ≤ t.gR := by omega
    have hgC : w.heap.size ≤ t.gC := by omega
    obtain ⟨hx, hy, hK1⟩ := Tb.in_of hxp hyp hcn hK
    obtain ⟨hrb, hrn, hrm, hrp, hrt⟩ := res_ready (ys := ys) hS hx HRL.out
    have hbi := bst_map_in hS hy.1 hrn hrp
    obtain ⟨Y, hY⟩ : ∃ Y, nm t.c ys = Y := ⟨_, rfl⟩
    obtain ⟨Z, hZ⟩ : ∃ Z, nm t.c zs = Z := ⟨_, rfl⟩
    have HBE := Lib.hid (fun (gl k : Nat) W (q : TabI t W) (r : Row W gl ((resI xs (ordersP ra rb)).map fun z => (nm t.c z : Int))) => best_any t hS (pwT xs + pwT ys + 1) (win_any t hS few hK1 _) (resI xs (ordersP ra rb)) _ ys Y gl k W q rfl hrn hrm hrt hy hY r)
    have hAF := fun (hm : zs ∈ resI xs (ordersP ra rb)) W (q : TabI t W) => after_any t hS (pwT xs + pwT ys + 1) (win_any t hS few hK1 _) zs ys Z Y W q (hrt zs hm).1 hy hZ hY (hrt zs hm).2
    have hWI : ∀ x, ((wc t.S ys zs).map fun x => tp t.S - x) = some x → 0 ≤ x ∧ x ≤ tp t.S := fun x e => by
      obtain ⟨a1, a2, a3, -⟩ := hy.1.po
      rw [Option.map_eq_some_iff] at e
      obtain ⟨q, hq, rfl⟩ := e
      have := wc_in hS a2 a3 a1 HZP.out.po.1 hq
      show 0 ≤ tp t.S - q ∧ tp t.S - q ≤ tp t.S
      omega
    have HMN := Lib.hid (mem_nums (c := t.c) HZP.out hrp)
    obtain ⟨p1, p2, p3, p4, -⟩ := hx.1.po
    have HB := Lib.hid (fun (W : World) (r : IRow W a1 xs) => bearoffResultsM_any a1 n1 c1 xs ra rb W hn1 (by omega) (by omega) (by rw [← hn1, p4]; exact p1) hrb.1 hrb.2.1 hrb.2.2 r)
    have HLEN := Lib.hid (And.intro hrn hrm)
    have HPS := Lib.hid hrp
    have HWI := Lib.hid hWI
    have HBI := Lib.hid hbi
    have HY := Lib.hid hY
    have HZ := Lib.hid hZ
    have HYY := Lib.hid hy
    have HAF0 := Lib.hid hAF
    obtain ⟨N, hN⟩ : ∃ N, (resI xs (ordersP ra rb)).length = N := ⟨_, rfl⟩
    have hN1 : N ≤ 1048576 := by omega
    have HNL := Lib.hid hN
    clear hb2 hw2 hsw hgR0 hgC0 hK hrn hrm hrp hrt hbi hrb p1 p2 p3 p4 hY hZ hx hy hxp hyp hcn HRL BV hN hAF hWI
    go_wp2_with fail
    replace hI := hI.drew
    replace BR := BR.drew
    replace BO := BO.drew
    replace hb := hb.drew
    refine wp_region_held_drew (S := fun w' => w'.cell? ⟨t.g, 0, none⟩ = some (.int .i64 t.p) ∧ w'.cell? ⟨t.g, 1, none⟩ = some (.int .i64 t.c) ∧ w'.cell? ⟨t.g, 2, none⟩ = some (.int .i64 t.h) ∧ w'.cell? ⟨t.g, 3, none⟩ = some (.int .i64 (t.S : Int)) ∧ w'.cell? ⟨t.g, 4, none⟩ = some (.pointer (some ⟨t.gw, 0, none⟩)) ∧ w'.cell? ⟨w.heap.size + 1, 0, none⟩ = some (.int .i64 ra) ∧ w'.cell? ⟨w.heap.size + 1, 1, none⟩ = some (.int .i64 rb)) (by kernel_rfl) ⟨hI.st.1.thirteen.1, hI.st.1.thirteen.2.1, hI.st.1.thirteen.2.2.1, hI.st.1.thirteen.2.2.2.1, hI.st.1.thirteen.2.2.2.2.1, BR.two.1, BR.two.2.1⟩ (fun hHeld => ?_)
    clear hHeld
    have hz_v5 : w2.drew.heap.size = w2.heap.size := rfl
    generalize w2.drew = v5 at *
    have hHeld : v5.cell? ⟨t.g, 0, none⟩ = some (.int .i64 t.p) ∧ v5.cell? ⟨t.g, 1, none⟩ = some (.int .i64 t.c) ∧ v5.cell? ⟨t.g, 2, none⟩ = some (.int .i64 t.h) ∧ v5.cell? ⟨t.g, 3, none⟩ = some (.int .i64 (t.S : Int)) ∧ v5.cell? ⟨t.g, 4, none⟩ = some (.pointer (some ⟨t.gw, 0, none⟩)) ∧ v5.cell? ⟨w.heap.size + 1, 0, none⟩ = some (.int .i64 ra) ∧ v5.cell? ⟨w.heap.size + 1, 1, none⟩ = some (.int .i64 rb) := ⟨hI.st.1.thirteen.1, hI.st.1.thirteen.2.1, hI.st.1.thirteen.2.2.1, hI.st.1.thirteen.2.2.2.1, hI.st.1.thirteen.2.2.2.2.1, BR.two.1, BR.two.2.1⟩
    refine tk 0 36 ?_
    refine tk 1 37 ?_
    refine tk 2 38 ?_
    refine tk 3 39 ?_
    refine tk 4 40 ?_
    refine tk 5 41 ?_
    refine tk 8 44 ?_
    refine tk 9 45 ?_
    refine tk 10 46 ?_
    refine tk 11 47 ?_
    refine tk 12 48 ?_
    refine rdk 6 42 fun K hK => ?_
    go_simp
    refine (HB.out _ (HRO1.out.below hb)).mono ?_
    rintro e wd ⟨g5, k5, l5, rfl, -, hQ5, hnm5, hA5, -, hb5⟩
    have hQR : QR wd g5 l5 := ⟨hQ5, fun x hx => (hA5 x hx).2.2⟩
    replace hI := hI.below hb5
    replace BR := BR.below hb5
    replace BO := BO.below hb5
    replace hb := chain hb hb5
    clear hb5
    have HNM := Lib.hid hnm5
    have HL5 := Lib.hid (nm_len hnm5)
    clear hQ5 hA5 hnm5
    (try go_wp2_with fail)
    refine hko hK ⟨hI.st.1.thirteen.1, hI.st.1.thirteen.2.1, hI.st.1.thirteen.2.2.1, hI.st.1.thirteen.2.2.2.1, hI.st.1.thirteen.2.2.2.2.1, (Blk.l2 BR)⟩ fun hHeld => ?_
    clear hK K
    refine rdk 7 43 fun K hK => ?_
    go_simp
    refine (numbersOf_any t g5 l5.length k5 l5 _ rfl (by rw [HL5.out]; exact HLEN.out.2) hI.st.2.1 hQR.1 (fun x hx => ⟨hQR.2 x hx, HPS.out x.2.2 (by rw [← HNM.out]; exact List.mem_map.2 ⟨x, hx, rfl⟩)⟩)).mono ?_
    rintro e we ⟨g6, rfl, -, R6, hb6⟩
    clear hQR
    replace hI := hI.below hb6
    replace BR := BR.below hb6
    replace BO := BO.below hb6
    replace hb := chain hb hb6
    clear hb6
    rw [HNM.out] at R6
    rw [HL5.out, HNL.out]
    (try go_wp2_with fail)
    refine hko hK ⟨hI.st.1.thirteen.1, hI.st.1.thirteen.2.1, hI.st.1.thirteen.2.2.1, hI.st.1.thirteen.2.2.2.1, hI.st.1.thirteen.2.2.2.2.1, (Blk.l2 BR)⟩ fun hHeld => ?_
    clear hK K
    refine rdk 13 49 fun K hK => ?_
    go_simp
    refine (numOf_any t.p t.c t.h (t.S : Int) t.gw a3 n3 c3 zs _ HZP.out hn3 (HRO3.out.below hb) hI.st.2.1).mono ?_
    rintro e wf ⟨rfl, hb7⟩
    replace R6 := R6.below hb7
    replace hI := hI.below hb7
    replace BR := BR.below hb7
    replace BO := BO.below hb7
    replace hb := chain hb hb7
    clear hb7
    rw [HZ.out]
    (try go_wp2_with fail)
    refine hko hK ⟨hI.st.1.thirteen.1, hI.st.1.thirteen.2.1, hI.st.1.thirteen.2.2.1, hI.st.1.thirteen.2.2.2.1, hI.st.1.thirteen.2.2.2.2.1, (Blk.l2 BR)⟩ fun hHeld => ?_
    clear hK K
    refine tk 14 14 ?_
    refine tk 15 15 ?_
    refine wpAnyH_done (by kernel_rfl) ?_ _
    clear hHeld BR
    have HCT := Lib.hid (containsI_any (some ⟨g6, 0, none⟩) N N ((resI xs (ordersP ra rb)).map fun z => (nm t.c z : Int)) (Z : Int) wf (by rw [List.length_map, HNL.out]) hN1 R6.irow)
    obtain ⟨B, hB⟩ : ∃ B, decide ((Z : Int) ∈ (resI xs (ordersP ra rb)).map fun z => (nm t.c z : Int)) = B := ⟨_, rfl⟩
    rw [hB] at HCT
    have hBm : B = decide (zs ∈ resI xs (ordersP ra rb)) := by
      rw [← hB, decide_eq_decide, ← HZ.out]
      exact HMN.out
    have HBM := Lib.hid hBm
    clear hB hBm
    obtain ⟨z0, z1, zf, zl⟩ := BO.two
    go_wp2_with fail
    refine (HCT.out).mono ?_
    rintro e w7 ⟨rfl, rfl⟩
    clear z0 z1 zf zl
    cases B with
    | false =>
      have HV := Lib.hid (show lsR t.S xs ys zs ra rb = (0, 0, 4) by rw [lsR, if_neg (of_decide_eq_false HBM.out.symm)])
      obtain ⟨z0, z1, zf, zl⟩ := BO.two
      go_wp2_with fail
      have BRn := BO.set2 (.int .i64 0) (.int .i64 0)
      obtain ⟨u0, u1, uf, ul⟩ := BRn.two
      refine bodyPost_ret (v := .tuple #[.agg #[.int .i64 0, .int .i64 0], .int .i64 4]) (by simp [results, Tryz.results17, go_sem, u0, u1]) rfl ?_
      exact ⟨by rw [HV.out], belowFar2 hb (by omega) _ _⟩
    | true =>
      have hmz := of_decide_eq_true HBM.out.symm
      obtain ⟨⟨r1, r2, r3⟩, hR⟩ : ∃ r, exO t.S (lsO t.S xs ys zs ra rb) = r := ⟨_, rfl⟩
      have HV := Lib.hid (show lsR t.S xs ys zs ra rb = (r1, r2, r3) by rw [lsR, if_pos hmz, hR])
      unfold lsO at hR
      have HR := Lib.hid hR
      have HAF := Lib.hid (HAF0.out hmz)
      clear hmz hR HAF0
      obtain ⟨c0, c1_, c2_, c3_, c4, c5, c6, c7, c8, c9, cA, cB, cC, cf, cl⟩ := hI.st.1.thirteen
      go_wp2_with fail
      clear c0 c1_ c2_ c3_ c4 c5 c6 c7 c8 c9 cA cB cC cf cl
      refine (numOf_any t.p t.c t.h (t.S : Int) t.gw a2 n2 c2 ys _ HYY.out.1 hn2 (HRO2.out.below hb) hI.st.2.1).mono ?_
      rintro e wg ⟨rfl, hb4⟩
      rw [HY.out]
      replace hI := hI.below hb4
      replace BO := BO.below hb4
      replace R6 := R6.below hb4
      replace hb := chain hb hb4
      clear hb4
      have HBE2 := Lib.hid (HBE.out g6 N wg hI R6)
      rw [HNL.out] at HBE2
      go_wp2_with fail
      refine (HBE2.out).mono ?_
      rintro e wh ⟨f, y, cd, rfl, hI4, hga, hp, -⟩
      replace BO := hI.tab.gr BO hga.gr (by decide) (by decide)
      replace hb := hb.trans (hga.gr.below (base := w.heap.size) hgR hgC hb.size)
      have HP := Lib.hid hp
      clear hI hga hp R6 HBE HBE2
      have hal : Below wh.heap.size wh (wh.alloc (.cells #[.int .i64 y, .int .i64 cd] 67)) := (Below.refl _ _).alloc (Nat.le_refl _) _
      have B8 := Blk.new wh #[.int .i64 y, .int .i64 cd] 67
      have hI := hI4.below hal
      replace BO := BO.below hal
      replace hb := chain hb hal
      obtain ⟨g8, hg8⟩ : ∃ z, wh.heap.size = z := ⟨_, rfl⟩
      rw [hg8] at B8
      clear hal hI4
      go_wp2_with fail
      (try rw [hg8])
      generalize (wh.alloc (.cells #[.int .i64 y, .int .i64 cd] 67)) = w8 at *
      clear hg8
      replace hI := hI.drew
      replace BO := BO.drew
      replace B8 := B8.drew
      replace hb := hb.drew
      refine wp_region_held_drew (S := fun w' => w'.cell? ⟨t.g, 0, none⟩ = some (.int .i64 t.p) ∧ w'.cell? ⟨t.g, 1, none⟩ = some (.int .i64 t.c) ∧ w'.cell? ⟨t.g, 2, none⟩ = some (.int .i64 t.h) ∧ w'.cell? ⟨t.g, 3, none⟩ = some (.int .i64 (t.S : Int)) ∧ w'.cell? ⟨t.g, 4, none⟩ = some (.pointer (some ⟨t.gw, 0, none⟩)) ∧ w'.cell? ⟨g8, 0, none⟩ = some (.int .i64 y) ∧ w'.cell? ⟨g8, 1, none⟩ = some (.int .i64 cd)) (by kernel_rfl) ⟨hI.st.1.thirteen.1, hI.st.1.thirteen.2.1, hI.st.1.thirteen.2.2.1, hI.st.1.thirteen.2.2.2.1, hI.st.1.thirteen.2.2.2.2.1, B8.two.1, B8.two.2.1⟩ (fun hHeld => ?_)
      clear hHeld
      have hz_v9 : w8.drew.heap.size = w8.heap.size := rfl
      generalize w8.drew = v9 at *
      have hHeld : v9.cell? ⟨t.g, 0, none⟩ = some (.int .i64 t.p) ∧ v9.cell? ⟨t.g, 1, none⟩ = some (.int .i64 t.c) ∧ v9.cell? ⟨t.g, 2, none⟩ = some (.int .i64 t.h) ∧ v9.cell? ⟨t.g, 3, none⟩ = some (.int .i64 (t.S : Int)) ∧ v9.cell? ⟨t.g, 4, none⟩ = some (.pointer (some ⟨t.gw, 0, none⟩)) ∧ v9.cell? ⟨g8, 0, none⟩ = some (.int .i64 y) ∧ v9.cell? ⟨g8, 1, none⟩ = some (.int .i64 cd) := ⟨hI.st.1.thirteen.1, hI.st.1.thirteen.2.1, hI.st.1.thirteen.2.2.1, hI.st.1.thirteen.2.2.2.1, hI.st.1.thirteen.2.2.2.2.1, B8.two.1, B8.two.2.1⟩
      refine tk 0 67 ?_
      refine tk 1 68 ?_
      refine tk 2 69 ?_
      refine tk 3 70 ?_
      refine tk 4 71 ?_
      refine tk 5 72 ?_
      refine tk 6 73 ?_
      refine tk 7 74 ?_
      refine tk 8 75 ?_
      refine rdk 9 76 fun K hK => ?_
      go_simp
      refine (numOf_any t.p t.c t.h (t.S : Int) t.gw a2 n2 c2 ys _ HYY.out.1 hn2 (HRO2.out.below hb) hI.st.2.1).mono ?_
      rintro e wk ⟨rfl, hb4⟩
      replace hI := hI.below hb4
      replace BO := BO.below hb4
      replace B8 := B8.below hb4
      replace hb := chain hb hb4
      clear hb4
      rw [HY.out]
      (try go_wp2_with fail)
      refine hko hK ⟨hI.st.1.thirteen.1, hI.st.1.thirteen.2.1, hI.st.1.thirteen.2.2.1, hI.st.1.thirteen.2.2.2.1, hI.st.1.thirteen.2.2.2.2.1, (Blk.l2 B8)⟩ fun hHeld => ?_
      clear hK K
      refine rdk 10 77 fun K hK => ?_
      go_simp
      refine (HAF.out _ hI).mono ?_
      rintro e wl ⟨yw, cw, rfl, hp, hI2, hga⟩
      replace BO := hI.tab.gr BO hga.gr (by decide) (by decide)
      replace B8 := hI.tab.gr B8 hga.gr (by decide) (by decide)
      replace hb := hb.trans (hga.gr.below (base := w.heap.size) hgR hgC hb.size)
      clear hI hga
      rename TabI t wl => hI
      have hpw := hp.in HWI.out
      have hpb := HP.out.in HBI.out
      have htp := tp_in hS
      have HPW := Lib.hid hp
      clear hp
      (try go_wp2_with fail)
      refine hko hK ⟨hI.st.1.thirteen.1, hI.st.1.thirteen.2.1, hI.st.1.thirteen.2.2.1, hI.st.1.thirteen.2.2.2.1, hI.st.1.thirteen.2.2.2.2.1, (Blk.l2 B8)⟩ fun hHeld => ?_
      clear hK K
      refine rdk 11 78 fun K hK => ?_
      go_simp
      refine (minus_any y cd yw cw _ (by omega)).mono ?_
      rintro e wm ⟨rfl, hb6⟩
      replace hI := hI.below hb6
      replace BO := BO.below hb6
      replace B8 := B8.below hb6
      replace hb := chain hb hb6
      clear hb6
      obtain ⟨yy, hyy⟩ : ∃ v, y - yw = v := ⟨_, rfl⟩
      obtain ⟨cc, hcc⟩ : ∃ v, (if cd ≠ 0 then cd else cw) = v := ⟨_, rfl⟩
      have hyb : -1000000000000000000 ≤ yy ∧ yy ≤ 1000000000000000000 := by omega
      have HLK := Lib.hid (lk_ex HP.out HPW.out)
      rw [hyy, hcc] at HLK
      rw [hyy, hcc]
      clear hyy hcc hpw hpb htp
      (try go_wp2_with fail)
      refine hko hK ⟨hI.st.1.thirteen.1, hI.st.1.thirteen.2.1, hI.st.1.thirteen.2.2.1, hI.st.1.thirteen.2.2.2.1, hI.st.1.thirteen.2.2.2.2.1, (Blk.l2 B8)⟩ fun hHeld => ?_
      clear hK K
      refine rdk 12 79 fun K hK => ?_
      go_simp
      refine (exact_any t hS yy cc hyb _ hI).mono ?_
      rintro e wn ⟨rfl, hb7⟩
      replace hI := hI.below hb7
      replace BO := BO.below hb7
      replace B8 := B8.below hb7
      replace hb := chain hb hb7
      clear hb7
      rw [show exV t.S yy cc = (r1, r2, r3) from HLK.out.trans HR.out]
      dsimp only [xoV]
      (try go_wp2_with fail)
      refine hko hK ⟨hI.st.1.thirteen.1, hI.st.1.thirteen.2.1, hI.st.1.thirteen.2.2.1, hI.st.1.thirteen.2.2.2.1, hI.st.1.thirteen.2.2.2.2.1, (Blk.l2 B8)⟩ fun hHeld => ?_
      clear hK K
      refine tk 13 80 ?_
      refine tk 14 81 ?_
      refine rdn 15 fun K hK => ?_
      have u0 := BO.two.1
      have u1 := BO.two.2.1
      have uf := BO.two.2.2.1
      have ul := BO.two.2.2.2
      have BT2 : Blk _ t.g t.cells 71 := (hI.st.1.far2 (B := w.heap.size + 1 + 1) (hI.st.1.ne BO (by decide)) (.int .i64 r1) (.int .i64 r2))
      have B82 := (B8.far2 (B := w.heap.size + 1 + 1) (B8.ne BO (by decide)) (.int .i64 r1) (.int .i64 r2))
      go_simp
      (try go_wp2_with fail)
      refine hko hK ⟨BT2.thirteen.1, BT2.thirteen.2.1, BT2.thirteen.2.2.1, BT2.thirteen.2.2.2.1, BT2.thirteen.2.2.2.2.1, (Blk.l2 B82)⟩ fun hHeld => ?_
      clear hK K
      refine tk 16 11 ?_
      refine wpAnyH_done (by kernel_rfl) ?_ _
      clear hHeld
      go_wp2_with fail
      have BRn := BO.set2 (.int .i64 r1) (.int .i64 r2)
      obtain ⟨u0, u1, uf, ul⟩ := BRn.two
      refine bodyPost_ret (v := .tuple #[.agg #[.int .i64 r1, .int .i64 r2], .int .i64 r3]) (by simp [results, Tryz.results17, go_sem, u0, u1]) rfl ?_
      exact ⟨by rw [HV.out], belowFar2 hb (by omega) _ _⟩
  · have hz0 : lsE p c h s xs ys zs ra rb ≠ 0 := by rw [HKK.out]; exact k0
    rw [raceLossV, if_neg hz0, HKK.out]
    have f0 : (KK != 0) = true := by rw [bne_iff_ne]; exact k0
    clear hz0 HKK k0
    dsimp only [xoV]
    go_enter Tryz.func17, Tryz.ntmps17
    go_wp2_with fail
    clear x0 x1 x2 x3 xf xl y0 y1 yf yl z0 z1 zf zl
    generalize (((w.alloc (.cells #[.int .i64 p, .int .i64 c, .int .i64 h, .int .i64 s] 25)).alloc (.cells #[.int .i64 ra, .int .i64 rb] 39)).alloc (.cells #[.int .i64 0, .int .i64 0] 35)) = w1 at *
    replace BV := BV.drew
    replace BR := BR.drew
    replace BO := BO.drew
    replace hb := hb.drew
    refine wp_region_held_drew (S := fun w' => w'.cell? ⟨w.heap.size, 0, none⟩ = some (.int .i64 p) ∧ w'.cell? ⟨w.heap.size, 1, none⟩ = some (.int .i64 c) ∧ w'.cell? ⟨w.heap.size, 2, none⟩ = some (.int .i64 h) ∧ w'.cell? ⟨w.heap.size, 3, none⟩ = some (.int .i64 s) ∧ w'.cell? ⟨w.heap.size + 1, 0, none⟩ = some (.int .i64 ra) ∧ w'.cell? ⟨w.heap.size + 1, 1, none⟩ = some (.int .i64 rb)) (by kernel_rfl) ⟨BV.four.1, BV.four.2.1, BV.four.2.2.1, BV.four.2.2.2.1, BR.two.1, BR.two.2.1⟩ (fun hHeld => ?_)
    clear hHeld
    have hz_vd : w1.drew.heap.size = w1.heap.size := rfl
    generalize w1.drew = vd at *
    have hHeld : vd.cell? ⟨w.heap.size, 0, none⟩ = some (.int .i64 p) ∧ vd.cell? ⟨w.heap.size, 1, none⟩ = some (.int .i64 c) ∧ vd.cell? ⟨w.heap.size, 2, none⟩ = some (.int .i64 h) ∧ vd.cell? ⟨w.heap.size, 3, none⟩ = some (.int .i64 s) ∧ vd.cell? ⟨w.heap.size + 1, 0, none⟩ = some (.int .i64 ra) ∧ vd.cell? ⟨w.heap.size + 1, 1, none⟩ = some (.int .i64 rb) := ⟨BV.four.1, BV.four.2.1, BV.four.2.2.1, BV.four.2.2.2.1, BR.two.1, BR.two.2.1⟩
    refine tk 0 18 ?_
    refine tk 1 19 ?_
    refine tk 3 21 ?_
    refine tk 4 22 ?_
    refine tk 5 23 ?_
    refine tk 6 24 ?_
    refine rdk 2 20 fun K hK => ?_
    go_simp
    refine (HC3.out _ (HRO3.out.below hb)).mono ?_
    rintro e w2 ⟨rfl, hb2⟩
    replace BV := BV.below hb2
    replace BR := BR.below hb2
    replace BO := BO.below hb2
    replace hb := chain hb hb2
    clear hb2
    (try go_wp2_with fail)
    refine hko hK (Blk.f4 BV (Blk.l2 BR)) fun hHeld => ?_
    clear hK K
    refine rdk 7 25 fun K hK => ?_
    go_simp
    refine (HTN.out _ (HRO1.out.below hb) (HRO2.out.below hb)).mono ?_
    rintro e w3 ⟨rfl, hb3⟩
    replace BV := BV.below hb3
    replace BR := BR.below hb3
    replace BO := BO.below hb3
    replace hb := chain hb hb3
    clear hb3
    (try go_wp2_with fail)
    refine hko hK (Blk.f4 BV (Blk.l2 BR)) fun hHeld => ?_
    clear hK K
    refine rdk 8 26 fun K hK => ?_
    go_simp
    (try go_wp2_with fail)
    refine hko hK (Blk.f4 (BV.alloc (.cells #[.int .i64 KB, .int .i64 KT] 2)) (Blk.l2 (BR.alloc (.cells #[.int .i64 KB, .int .i64 KT] 2)))) fun hHeld => ?_
    clear hK K
    refine rdk 9 27 fun K hK => ?_
    go_simp
    have B8 := Blk.new w3 #[.int .i64 KB, .int .i64 KT] 2
    have hal : Below w3.heap.size w3 (w3.alloc (.cells #[.int .i64 KB, .int .i64 KT] 2)) := (Below.refl _ _).alloc (Nat.le_refl _) _
    replace BV := BV.below hal
    replace BR := BR.below hal
    replace BO := BO.below hal
    replace hb := chain hb hal
    clear hal
    refine (HO.out _ B8).mono ?_
    rintro e w4 ⟨rfl, rfl⟩
    rw [HK.out]
    (try go_wp2_with fail)
    refine hko hK (Blk.f4 BV (Blk.l2 BR)) fun hHeld => ?_
    clear hK K
    refine tk 10 12 ?_
    refine wpAnyH_done (by kernel_rfl) ?_ _
    clear hHeld
    obtain ⟨z0, z1, zf, zl⟩ := BO.two
    go_wp2_with fail
    have BRn := BO.set2 (.int .i64 0) (.int .i64 0)
    obtain ⟨u0, u1, uf, ul⟩ := BRn.two
    refine bodyPost_ret (v := .tuple #[.agg #[.int .i64 0, .int .i64 0], .int .i64 KK]) (by simp [results, Tryz.results17, go_sem, u0, u1]) rfl ?_
    exact ⟨rfl, belowFar2 hb (by omega) _ _⟩
def XIn (w : World) (a : Option Addr) (l : List Rl) : Prop :=
  ∀ (i : Nat) (s : Rl), l[i]? = some s → ∃ b o, a = some ⟨b, o, none⟩ ∧ w.cell? ⟨b, o + i * 2, none⟩ = some (.int .i64 s.1) ∧ w.cell? ⟨b, o + i * 2 + 1, none⟩ = some (.int .i64 s.2)
theorem XIn.below {w w' : World} {a : Option Addr} {l : List Rl} (h : XIn w a l) (hb : Below w.heap.size w w') : XIn w' a l := fun i s hs => by
  obtain ⟨b, o, e, c0, c1⟩ := h i s hs
  have hl := World.block_lt_of_cell? w _ c0
  exact ⟨b, o, e, by rw [hb.cell (p := ⟨b, o + i * 2, none⟩) hl]; exact c0, by rw [hb.cell (p := ⟨b, o + i * 2 + 1, none⟩) hl]; exact c1⟩
theorem infoEx : (Tryz.prog.info? 35).map (fun i => (i.zero, i.size, i.bytes)) = some (some (.agg #[.int .i64 0, .int .i64 0]), 2, 16) := by kernel_rfl
theorem rlsC_zeros : ∀ n : Nat, rlsC (List.replicate n ((0, 0) : Rl)) = (List.replicate n [Value.int .i64 0, .int .i64 0]).flatten
  | 0 => rfl
  | n + 1 => by rw [List.replicate_succ, rlsC, rlsC_zeros n, List.replicate_succ, List.flatten_cons]; rfl
theorem flat_at2 : ∀ (n i : Nat), i < n * 2 → ((List.replicate n [Value.int .i64 0, .int .i64 0]).flatten)[i]? = some (#[Value.int .i64 0, .int .i64 0][i % 2]!)
  | 0, i, h => by omega
  | n + 1, i, h => by
    rw [List.replicate_succ, List.flatten_cons]
    by_cases hi : i < 2
    · rw [List.getElem?_append_left (by simpa using hi), Nat.mod_eq_of_lt hi]
      have h4 : i = 0 ∨ i = 1 := by omega
      rcases h4 with rfl | rfl <;> rfl
    · rw [List.getElem?_append_right (by simp; omega), show [Value.int .i64 0, .int .i64 0].length = 2 from rfl, flat_at2 n (i - 2) (by omega), show i % 2 = (i - 2) % 2 by omega]
theorem made_exs (n : Nat) : (madeCells #[.int .i64 0, .int .i64 0] (n * 2)).toList = rlsC (List.replicate n ((0, 0) : Rl)) := by
  rw [rlsC_zeros]
  apply List.ext_getElem?
  intro i
  by_cases h : i < n * 2
  · rw [flat_at2 n i h]
    have hz : i < (madeCells #[.int .i64 0, .int .i64 0] (n * 2)).toList.length := by simp [madeCells]; omega
    rw [List.getElem?_eq_getElem hz]
    simp [madeCells]
  · rw [List.getElem?_eq_none (by simp [madeCells]; omega), List.getElem?_eq_none (by rw [← rlsC_zeros, rlsC_length, List.length_replicate]; omega)]
theorem rlsC_set2 : ∀ (l : List Rl) (k : Nat) (s : Rl), k < l.length → rlsC (l.set k s) = ((rlsC l).set (k * 2) (.int .i64 s.1)).set (k * 2 + 1) (.int .i64 s.2)
  | [], k, s, h => by simp at h
  | x :: l, 0, s, h => by simp [rlsC, rlC]
  | x :: l, k + 1, s, h => by
    rw [List.set_cons_succ, rlsC, rlsC_set2 l k s (by simpa using h), show (k + 1) * 2 = k * 2 + 2 by omega]
    simp [rlsC, rlC]
theorem copyX_step (l : List Rl) (k : Nat) (s : Rl) (hs : l[k]? = some s) : (l.take k ++ List.replicate (l.length - k) ((0, 0) : Rl)).set k s = l.take (k + 1) ++ List.replicate (l.length - (k + 1)) (0, 0) := by
  obtain ⟨hk, he⟩ := List.getElem?_eq_some_iff.1 hs
  have hlen : (l.take k).length = k := by simp; omega
  obtain ⟨m, hm⟩ : ∃ m, l.length - k = m + 1 := ⟨l.length - k - 1, by omega⟩
  rw [hm, List.replicate_succ, List.set_append_right _ _ (by omega), hlen, Nat.sub_self, List.set_cons_zero, List.take_succ_eq_append_getElem hk, he, show l.length - (k + 1) = m by omega, List.append_assoc]
  rfl
def OXl (lo hi : Nat) (w : World) (a : Option Addr) (l : List Rl) : Prop := (a = none ∧ l = []) ∨ ∃ g, a = some ⟨g, 0, none⟩ ∧ lo ≤ g ∧ g < hi ∧ XRow w g l
theorem OXl.below {lo hi : Nat} {w w' : World} {a : Option Addr} {l : List Rl} (h : OXl lo hi w a l) (hb : Below w.heap.size w w') : OXl lo hi w' a l := by
  rcases h with h | ⟨g, e, h1, h2, r⟩
  · exact .inl h
  · exact .inr ⟨g, e, h1, h2, r.below hb⟩
theorem OXl.drew {lo hi : Nat} {w : World} {a : Option Addr} {l : List Rl} (h : OXl lo hi w a l) : OXl lo hi w.drew a l := h
theorem OXl.alloc {lo hi : Nat} {w : World} {a : Option Addr} {l : List Rl} (h : OXl lo hi w a l) (o : Obj) : OXl lo hi (w.alloc o) a l := h.below ((Below.refl _ _).alloc (Nat.le_refl _) o)
theorem OXl.mono {lo hi lo' hi' : Nat} {w : World} {a : Option Addr} {l : List Rl} (h : OXl lo hi w a l) (h1 : lo' ≤ lo) (h2 : hi ≤ hi') : OXl lo' hi' w a l := by
  rcases h with h | ⟨g, e, q1, q2, r⟩
  · exact .inl h
  · exact .inr ⟨g, e, by omega, by omega, r⟩
theorem OXl.same {lo hi lo2 hi2 : Nat} {w w' : World} {a : Option Addr} {l : List Rl} (h : OXl lo2 hi2 w a l) (hs : Same lo hi w w') (hd : hi2 ≤ lo ∨ hi ≤ lo2) : OXl lo2 hi2 w' a l := by
  rcases h with h | ⟨g, e, q1, q2, r⟩
  · exact .inl h
  · exact .inr ⟨g, e, q1, q2, r.same hs (by omega)⟩
theorem OXl.row {lo hi : Nat} {w : World} {a : Option Addr} {l : List Rl} (h : OXl lo hi w a l) {k : Nat} (hk : k < l.length) : ∃ g, a = some ⟨g, 0, none⟩ ∧ XRow w g l := by
  rcases h with ⟨_, rfl⟩ | ⟨g, e, q1, q2, r⟩
  · simp at hk
  · exact ⟨g, e, r⟩
end Go.Proofs.YtnlclmlnpkncoaaGreat
