/- The law of chapter 11 on greedy results holds: for every code the law returns true and the code reads behind the call as it read before. No conditions. -/
import Derived.Test.Ytpalokkcmpjcmaa11h
import Derived.Test.Ytpalokkcmpjcmaa11k
import Derived.Test.YtpalokkcmpjcmaaDrawD11
import Derived.Test.YtpalokkcmpjcmaaLike
import Derived.Test.YtpalokkcmpjcmaaRows
import Derived.ChangeOld
namespace Go.Proofs.Ytpalokkcmpjcmaa
open Go.ChangeMaps (open_string shut_string)
open Go.ChangeShapes Go.WideShapes Go.ChangeAt Go.RowKit
set_option linter.unusedVariables false
set_option linter.unusedSimpArgs false
set_option maxRecDepth 4000

theorem code_of_ints {w : World} {x : Addr} {len : Nat} {zs : List Int} (hl : len ≤ zs.length) (_hz : True) (hcell : ∀ i, i < zs.length → w.cell? (x.add i) = some (.int .u8 (zs.getD i 0))) (hwz : ∀ n ∈ zs, (Lit.int .u8 n).wf = true) : CodeIn w.heap.size w (some x) len := by
  intro i hi
  obtain ⟨b, o, spot⟩ := x
  have hc := hcell i (by omega)
  have hspot : spot = none := by
    have hc0 := hcell 0 (by omega)
    simpa [Addr.add] using World.cell?_spot hc0
  subst hspot
  rw [show (⟨b, o, none⟩ : Addr).add i = ⟨b, o + i, none⟩ from by unfold Addr.add; split <;> simp_all] at hc
  have hm : zs.getD i 0 ∈ zs := by
    have : i < zs.length := by omega
    simp [List.getD, this]
  have hw := hwz _ hm
  have hr : 0 ≤ zs.getD i 0 ∧ zs.getD i 0 ≤ 255 := by simpa [Lit.wf, IntKind.min, IntKind.max, IntKind.signed, IntKind.bits] using hw
  exact ⟨b, o, zs.getD i 0, rfl, World.block_lt_of_cell? w _ hc, hc, hr.1, hr.2⟩
theorem bigR_any (a : Option Addr) (len cap : Nat) (w : World) :
    Calls Try.prog 7 #[.slice a len cap] w fun e w' => e = .returned (.bool (decide (4096 < (len : Int)))) ∧ w = w' := by
  go_enter Try.func7, Try.ntmps7
  go_wp2
  go_ret
  exact ⟨rfl, rfl⟩
theorem osl_off {lo hi g o : Nat} {w : World} {v : Value} {a : Option Addr} {xs : List Int} (h : OSl lo hi w a xs) (hg : g < lo) : OSl lo hi (w.setCell ⟨g, o, none⟩ v) a xs := by
  rcases h with h | ⟨b, rfl, h1, h2, r⟩
  · exact .inl h
  · have r2 := r.other (g := g) (o := o) (v := v) (show b ≠ g by omega)
    exact .inr ⟨b, rfl, h1, h2, r2⟩
set_option maxRecDepth 8000 in
set_option maxHeartbeats 2000000 in
theorem fnGreedy_walk (a : Option Addr) (len cap : Nat) (w : World) (hcode : CodeIn w.heap.size w a len) :
    Calls Try.prog 4 #[.slice a len cap] w fun e w' => e = .returned (.bool true) ∧ Below w.heap.size w w' := by
  by_cases hbig : 4096 < len
  · have f0 : decide (4096 < (len : Int)) = true := by simp; omega
    go_enter Try.func4, Try.ntmps4
    go_wp2_with fail
    refine (bigR_any _ _ _ _).mono ?_
    rintro e w1 ⟨rfl, rfl⟩
    go_wp2
    go_ret
    exact ⟨rfl, Below.refl _ _⟩
  · have f0 : decide (4096 < (len : Int)) = false := by simp; omega
    go_enter Try.func4, Try.ntmps4
    go_wp2_with fail
    refine (bigR_any _ _ _ _).mono ?_
    rintro e w0 ⟨rfl, rfl⟩
    go_wp2_with fail
    obtain ⟨bs, hcs⟩ := hcode.is
    have hD0 := fun W (hb : Below w.heap.size w W) => drawGreedyD_any w.heap.size a len cap W hb.size (by omega) bs (hcs.below hb)
    have hln := dqV_facts len bs
    obtain ⟨⟨⟨p, c, h, s⟩, xs, ⟨ra, rb⟩⟩, hq⟩ : ∃ q, dqV len bs = q := ⟨_, rfl⟩
    rw [hq] at hD0 hln
    dsimp only at hln
    obtain ⟨⟨hx0, hxl⟩, hra, hrb⟩ := hln
    have hle : xs.length ≤ 1048576 := by omega
    have hD : ∀ W, Below w.heap.size w W → Calls Try.prog 14 #[.slice a len cap] W fun e w' => ∃ (aL : Option Addr) (kL : Nat), e = .returned (.tuple #[.agg #[.int .i64 p, .int .i64 c, .int .i64 h, .int .i64 s], .slice aL xs.length kL, .agg #[.int .i64 ra, .int .i64 rb]]) ∧ ORow (W.heap.size + 1 + 1) w' aL xs ∧ xs.length ≤ kL ∧ Below W.heap.size W w' := hD0
    have HD := Lib.hid hD
    clear hbig f0 hcode hcs hD hD0 hq
    refine (HD.out _ (Below.refl _ _)).mono ?_
    rintro e w1 ⟨a1, k1, rfl, hO1, hk1, hb⟩
    have hw1 := hb.size
    obtain ⟨BV, BR, hb2, hz⟩ := two_new w1 #[.int .i64 p, .int .i64 c, .int .i64 h, .int .i64 s] #[.int .i64 ra, .int .i64 rb] 25 28
    have hr := (show IRow w1 a1 xs from OSl.irow hO1).below hb2
    replace hb := chain hb hb2
    clear hO1 hb2
    obtain ⟨bv, hbv⟩ : ∃ bv, w1.heap.size = bv := ⟨_, rfl⟩
    have hbw : w.heap.size ≤ bv := by omega
    have hib := fun (W : World) (aX : Option Addr) (kX : Nat) (r : IRow W aX xs) => implGreedyResult_any p c h s aX xs.length kX xs ra rb W rfl hle r
    have hsb := fun (W : World) (aX : Option Addr) (kX : Nat) (hk : xs.length ≤ kX) (r : IRow W aX xs) => specGreedyResult_any p c h s aX xs.length kX xs ra rb W rfl hle hk r
    have hfacts := gdL_facts p c h s xs ra rb
    have hrs := rsL_facts p c h s xs ra rb
    have hne := rsL_ne p c h s xs ra rb
    have hgd : rsC p c h s xs ra rb = 0 → gdL p c h s xs ra rb = grL (rsL p c h s xs ra rb) := fun e => by rw [gdL, if_pos e]
    have h3 := fun (W : World) (aX : Option Addr) (kX : Nat) (r : IRow W aX xs) => implBearoffResults_any p c h s aX xs.length kX xs ra rb W rfl hle r
    obtain ⟨G, hG⟩ : ∃ G, gdL p c h s xs ra rb = G := ⟨_, rfl⟩
    obtain ⟨C, hC⟩ : ∃ C, rsC p c h s xs ra rb = C := ⟨_, rfl⟩
    obtain ⟨L, hL⟩ : ∃ L, rsL p c h s xs ra rb = L := ⟨_, rfl⟩
    rw [hG] at hfacts hgd hib hsb
    rw [hC] at hne hgd hib hsb h3
    rw [hL] at hrs hne hgd h3
    have H3 := Lib.hid h3
    have HRS := Lib.hid hrs
    have HNE := Lib.hid hne
    have HGD := Lib.hid hgd
    have HFA := Lib.hid hfacts.2
    have hG24 := hfacts.1
    have hG24i : (G.length : Int) ≤ 24 := by omega
    clear h3 hrs hne hgd hfacts hG hC hL
    have HI := Lib.hid hib
    have HS := Lib.hid hsb
    clear hib hsb
    obtain ⟨x0, x1, x2, x3, xf, xl⟩ := BV.four; obtain ⟨y0, y1, yf, yl⟩ := BR.two
    go_wp2_with fail
    clear x0 x1 x2 x3 xf xl y0 y1 yf yl
    rw [hbv] at BV BR
    (try rw [hbv])
    have hszv : bv + 1 < ((w1.alloc (.cells #[.int .i64 p, .int .i64 c, .int .i64 h, .int .i64 s] 25)).alloc (.cells #[.int .i64 ra, .int .i64 rb] 28)).heap.size := BR.lt
    generalize ((w1.alloc (.cells #[.int .i64 p, .int .i64 c, .int .i64 h, .int .i64 s] 25)).alloc (.cells #[.int .i64 ra, .int .i64 rb] 28)) = w2 at *
    clear hz
    obtain ⟨x0, x1, x2, x3, xf, xl⟩ := BV.four; obtain ⟨y0, y1, yf, yl⟩ := BR.two
    go_wp2_with fail
    refine (HI.out _ _ _ hr).mono ?_
    rintro e w3 ⟨aG, kG, rfl, O1, hb3⟩
    clear x0 x1 x2 x3 xf xl y0 y1 yf yl
    have hs3 := hb3.size
    replace BV := BV.below hb3
    replace BR := BR.below hb3
    replace hb := chain hb hb3
    clear hb3 hr
    obtain ⟨x0, x1, x2, x3, xf, xl⟩ := BV.four; obtain ⟨y0, y1, yf, yl⟩ := BR.two
    go_wp2_with fail
    refine (HD.out _ hb).mono ?_
    rintro e w5 ⟨a2, k2, rfl, hO2, hk2, hb4⟩
    clear x0 x1 x2 x3 xf xl y0 y1 yf yl
    have hs4 := hb4.size
    replace BV := BV.below hb4
    replace BR := BR.below hb4
    replace O1 := O1.below hb4
    replace hb := chain hb hb4
    clear hb4 HD
    obtain ⟨x0, x1, x2, x3, xf, xl⟩ := BV.four; obtain ⟨y0, y1, yf, yl⟩ := BR.two
    go_wp2_with fail
    clear x0 x1 x2 x3 xf xl y0 y1 yf yl
    have BV2 := ((((((BV.set (i := 0) (.int .i64 p)).set (i := 1) (.int .i64 c)).set (i := 2) (.int .i64 h)).set (i := 3) (.int .i64 s)).other (g := (bv + 1)) (o := 0) (v := .int .i64 ra) (by omega)).other (g := (bv + 1)) (o := 1) (v := .int .i64 rb) (by omega))
    have BR2 := (((((BR.other (g := bv) (o := 0) (v := .int .i64 p) (by omega)).other (g := bv) (o := 1) (v := .int .i64 c) (by omega)).other (g := bv) (o := 2) (v := .int .i64 h) (by omega)).other (g := bv) (o := 3) (v := .int .i64 s) (by omega)).set (i := 0) (.int .i64 ra)).set (i := 1) (.int .i64 rb)
    simp only [List.setIfInBounds_toArray, List.set_cons_zero, List.set_cons_succ] at BV2 BR2
    have hO3 := ((((((hO2.setC (g := bv) (o := 0) (v := .int .i64 p) (by omega)).setC (g := bv) (o := 1) (v := .int .i64 c) (by omega)).setC (g := bv) (o := 2) (v := .int .i64 h) (by omega)).setC (g := bv) (o := 3) (v := .int .i64 s) (by omega)).setC (g := (bv + 1)) (o := 0) (v := .int .i64 ra) (by omega)).setC (g := (bv + 1)) (o := 1) (v := .int .i64 rb) (by omega))
    have hr : IRow _ a2 xs := OSl.irow hO3
    replace hb := ((((((hb.setCell (p := ⟨bv, 0, none⟩) (by dsimp only; omega) (.int .i64 p)).setCell (p := ⟨bv, 1, none⟩) (by dsimp only; omega) (.int .i64 c)).setCell (p := ⟨bv, 2, none⟩) (by dsimp only; omega) (.int .i64 h)).setCell (p := ⟨bv, 3, none⟩) (by dsimp only; omega) (.int .i64 s)).setCell (p := ⟨(bv + 1), 0, none⟩) (by dsimp only; omega) (.int .i64 ra)).setCell (p := ⟨(bv + 1), 1, none⟩) (by dsimp only; omega) (.int .i64 rb))
    replace O1 := (osl_off (osl_off (osl_off (osl_off (osl_off (osl_off O1 (g := bv) (o := 0) (v := .int .i64 p) (by omega)) (g := bv) (o := 1) (v := .int .i64 c) (by omega)) (g := bv) (o := 2) (v := .int .i64 h) (by omega)) (g := bv) (o := 3) (v := .int .i64 s) (by omega)) (g := (bv + 1)) (o := 0) (v := .int .i64 ra) (by omega)) (g := (bv + 1)) (o := 1) (v := .int .i64 rb) (by omega))
    replace BV := BV2
    replace BR := BR2
    clear BV2 BR2 hO2 hO3
    generalize ((((((w5.setCell ⟨bv, 0, none⟩ (.int .i64 p)).setCell ⟨bv, 1, none⟩ (.int .i64 c)).setCell ⟨bv, 2, none⟩ (.int .i64 h)).setCell ⟨bv, 3, none⟩ (.int .i64 s)).setCell ⟨(bv + 1), 0, none⟩ (.int .i64 ra)).setCell ⟨(bv + 1), 1, none⟩ (.int .i64 rb)) = w6 at *
    obtain ⟨x0, x1, x2, x3, xf, xl⟩ := BV.four; obtain ⟨y0, y1, yf, yl⟩ := BR.two
    go_wp2_with fail
    refine (HS.out _ _ _ hk2 hr).mono ?_
    rintro e w7 ⟨aS, kS, rfl, O2, hb7⟩
    clear x0 x1 x2 x3 xf xl y0 y1 yf yl
    replace BV := BV.below hb7
    replace BR := BR.below hb7
    replace hr := hr.below hb7
    replace O1 := O1.below hb7
    replace hb := chain hb hb7
    clear hb7 HI HS
    obtain ⟨x0, x1, x2, x3, xf, xl⟩ := BV.four; obtain ⟨y0, y1, yf, yl⟩ := BR.two
    by_cases hz : C = 0
    · subst hz
      have hLG := HGD.out (by simp)
      have hL0 : 0 < L.length := HNE.out (by simp)
      have hmem : G ∈ L := by rw [hLG]; exact grL_mem (by intro q; rw [q] at hL0; simp at hL0)
      have hsum : ∀ y ∈ L, G.sum ≤ y.sum := fun y hy => by rw [hLG]; exact grL_sum y hy
      have HMEM := Lib.hid hmem
      have HSUM := Lib.hid hsum
      clear hLG hmem hsum HGD HNE
      go_wp2_with fail
      refine (likeInts_same _ _ _ _ _ G _ rfl (by omega) O1.irow O2.irow).mono ?_
      rintro e w8 ⟨rfl, hb8⟩
      clear x0 x1 x2 x3 xf xl y0 y1 yf yl
      replace BV := BV.below hb8; replace BR := BR.below hb8; replace O1 := O1.below hb8; replace hr := hr.below hb8; replace hb := chain hb hb8; clear hb8
      obtain ⟨x0, x1, x2, x3, xf, xl⟩ := BV.four; obtain ⟨y0, y1, yf, yl⟩ := BR.two
      clear O2
      go_wp2_with fail
      refine (H3.out _ _ _ hr).mono ?_
      rintro e w9 ⟨a9, k9, l, rfl, ha9, hnm, hA, hD9, hb9⟩
      clear x0 x1 x2 x3 xf xl y0 y1 yf yl
      have hlen : l.length = L.length := by rw [← hnm]; simp
      rcases ha9 with ⟨q, _⟩ | ⟨g9, rfl, hg9, hQ⟩
      · rw [q] at hlen; simp at hlen; omega
      replace O1 := O1.below hb9
      replace hb := chain hb hb9
      have hL7 := HRS.out.1
      have HPO := Lib.hid (fun (x : PQ) (hx : x ∈ l) => HRS.out.2 x.2.2 (by rw [← hnm]; exact List.mem_map.2 ⟨x, hx, rfl⟩))
      have HNM := Lib.hid hnm
      have HAA := Lib.hid hA
      obtain ⟨N, hN⟩ : ∃ N, l.length = N := ⟨_, rfl⟩
      have HN := Lib.hid hN
      rw [hN] at hlen ⊢
      have hn1 : 0 < N := by omega
      have hn2 : N ≤ 700000 := by omega
      have hn3 : (N : Int) ≤ 700000 := by omega
      clear hb9 hnm hA hD9 hN hlen H3 hL7 hL0 BV BR hr
      have hbel0 : Below w9.heap.size w9 w9 := Below.refl _ _
      go_wp2_with fail
      go_loopg [12, 13] N (fun m fd i wr => ∃ (W : World) (j : Nat), W = wr ∧ j ≤ N ∧ m = N - j ∧ i = .int .i64 j ∧ fd = .bool (decide (G ∈ (nmQ l).take j)) ∧ Below w9.heap.size w9 W)
      case atStart => exact ⟨w9, 0, rfl, by omega, by omega, by go_num, by simp, hbel0⟩
      case round =>
        obtain ⟨wr, j, hW, hj, hm, rfl, rfl, hbr⟩ := hrel
        subst hW
        by_cases hlt : j < N
        · have hlt' : (j : Int) < (N : Int) := by omega
          have j0 : (0 : Int) ≤ (j : Int) := by omega
          obtain ⟨⟨gy, ky, ys⟩, hy⟩ : ∃ y, l[j]? = some y := ⟨_, List.getElem?_eq_getElem (by rw [HN.out]; exact hlt)⟩
          have hym := List.mem_of_getElem? hy
          have hpo := HPO.out _ hym
          have hat := (HAA.out _ hym).2.2.below hbr
          have htk : (nmQ l).take (j + 1) = (nmQ l).take j ++ [ys] := by rw [List.take_add_one, List.getElem?_map, hy]; rfl
          have hGx : G ∈ L := HMEM.out
          have hle2 : G.sum ≤ ys.sum := HSUM.out ys (by rw [← HNM.out]; exact List.mem_map.2 ⟨_, hym, rfl⟩)
          have hOw := O1.below hbr
          have hlG : G.length = ys.length := by
            have h1 := (HRS.out.2 G hGx).1.2.1
            have h2 := hpo.1.2.1
            dsimp only at h2
            omega
          have u1 : CellIs wr g9 j (.slice (some ⟨gy, 0, none⟩) G.length ky) := by rw [hlG]; exact QRow.at (VRow.below hQ hbr) j _ hy
          have hE1 := Lib.hid (fun (W : World) (hbW : Below wr.heap.size wr W) => likeInts_any (some ⟨gy, 0, none⟩) aG G.length ky kG ys G W hlG.symm rfl (by omega) (hat.below hbW).irow (hOw.below hbW).irow)
          have hE2 := Lib.hid (fun (W : World) (hbW : Below wr.heap.size wr W) => w6Sum_any (some ⟨gy, 0, none⟩) G.length ky ys W hlG.symm (by omega) (fun z hz => by have := hpo.1.all z hz; omega) (hat.below hbW).irow)
          have hE3 := Lib.hid (fun (W : World) (hbW : Below wr.heap.size wr W) => w6Sum_any aG G.length kG G W rfl (by omega) (fun z hz => HFA.out z hz) (hOw.below hbW).irow)
          have hdec : decide (G ∈ (nmQ l).take (j + 1)) = (decide (G ∈ (nmQ l).take j) || decide (ys = G)) := by
            rw [htk]
            by_cases q1 : G ∈ (nmQ l).take j
            · simp [q1]
            · by_cases q2 : ys = G
              · simp [q2]
              · have q3 : ¬ G = ys := fun q => q2 q.symm
                simp [q1, q2, q3]
          obtain ⟨SY, hSY⟩ : ∃ x, ys.sum = x := ⟨_, rfl⟩
          obtain ⟨SG, hSG⟩ : ∃ x, G.sum = x := ⟨_, rfl⟩
          rw [hSY] at hE2 hle2
          rw [hSG] at hE3 hle2
          have hge : ¬ SY < SG := by omega
          obtain ⟨Fd, hFd⟩ : ∃ b, decide (G ∈ (nmQ l).take j) = b := ⟨_, rfl⟩
          obtain ⟨Ey, hEy⟩ : ∃ b, decide (ys = G) = b := ⟨_, rfl⟩
          rw [hEy] at hE1
          rw [hFd, hEy] at hdec
          rw [hFd]
          have HDEC := Lib.hid hdec
          unfold CellIs at u1
          clear hy hym hpo hat htk hGx hle2 hOw hSY hSG hFd hEy hdec hlG
          cases Fd with
          | true =>
            go_wp2_with fail
            refine (hE2.out _ (Below.refl _ _)).mono ?_
            rintro e wq ⟨rfl, rfl⟩
            go_wp2_with fail
            refine (hE3.out _ (Below.refl _ _)).mono ?_
            rintro e wq ⟨rfl, rfl⟩
            go_wp2
            go_roundg (N - (j + 1))
            case measure => omega
            case rel => exact ⟨wr, j + 1, rfl, by omega, rfl, by go_num, by rw [HDEC.out]; rfl, hbr⟩
          | false =>
            go_wp2_with fail
            refine (hE1.out _ (Below.refl _ _)).mono ?_
            rintro e wq ⟨rfl, hbq⟩
            have u2 := CellIs.below (b := g9) (o := j) u1 hbq
            unfold CellIs at u2
            go_wp2_with fail
            refine (hE2.out _ hbq).mono ?_
            rintro e wq2 ⟨rfl, rfl⟩
            go_wp2_with fail
            refine (hE3.out _ hbq).mono ?_
            rintro e wq2 ⟨rfl, rfl⟩
            go_wp2
            go_roundg (N - (j + 1))
            case measure => omega
            case rel => exact ⟨wq, j + 1, rfl, by omega, rfl, by go_num, by rw [HDEC.out]; rfl, chain hbr hbq⟩
        · obtain rfl : j = N := by omega
          have hfin : decide (G ∈ (nmQ l).take j) = true := by
            rw [decide_eq_true_eq, List.take_of_length_le (by rw [List.length_map, HN.out]; exact Nat.le_refl _), HNM.out]
            exact HMEM.out
          rw [hfin]
          clear hfin
          go_wp2
          go_ret
          exact ⟨rfl, chain hb hbr⟩
    · have hz1 : (C != 0) = true := by rw [bne_iff_ne]; exact hz
      clear HGD HNE H3
      go_wp2_with fail
      refine (likeInts_same _ _ _ _ _ G _ rfl (by omega) O1.irow O2.irow).mono ?_
      rintro e w8 ⟨rfl, hb8⟩
      clear x0 x1 x2 x3 xf xl y0 y1 yf yl
      replace BV := BV.below hb8; replace BR := BR.below hb8; replace hb := chain hb hb8; clear hb8
      obtain ⟨x0, x1, x2, x3, xf, xl⟩ := BV.four; obtain ⟨y0, y1, yf, yl⟩ := BR.two
      go_wp2_with fail
      go_ret
      exact ⟨rfl, hb⟩
set_option maxRecDepth 100000 in
theorem fnGreedy_lifted (os : Os) (started : os.Started) (H : Type) (enc : TypeId × Value → H) :
    ReturnsInHanded {} Try.checked os 4 .any (Rows.fnGreedySpec.pre6 enc Try.prog Try.f4 Rows.fnGreedyRow.domain false) (Rows.fnGreedySpec.post enc Try.prog Try.f4 false true false false) := by
  refine returnsInHanded_of_change (C := Try.checked) own started (by kernel_rfl) Try.func4
    (ChangeSpec.witness6 (enc := enc) (C := Try.checked) false ⟨#[], #[.slice none 0 0], []⟩ 8 (by kernel_rfl) (by kernel_rfl) (by kernel_rfl) (by kernel_rfl)) ?_
  intro W base args ds gs before hval0 hW hcnd _
  have hval : ∀ (j : Nat) t v, Try.f4.params[j]? = some t → args[j]? = some v → Value.okWide Try.prog W .any base t v := hval0
  have hW' := hW
  obtain ⟨p, q, hA0, hV, rfl, hfz, hnd⟩ := hW
  have hA : DataW.TrodAll enc Try.prog W 0 (fun _ => true) true Try.f4.params.toList args.toList ds p := hA0
  rw [Try.params4] at hA hval
  obtain ⟨v0, vs0, d0, ds0, p0, q0, hargs, rfl, rfl, h0, r0⟩ := trodAll_cons hA
  obtain ⟨rfl, rfl, rfl⟩ := trodAll_nil r0
  obtain rfl : args = #[v0] := by cases args; simp_all
  obtain ⟨rfl, rfl⟩ := trodVars_none hV
  have k0 := h0
  have lt0 : ∀ x ∈ p0, x.block < W.heap.size := by obtain ⟨m, hm⟩ := k0; exact DataW.trod_lt m _ _ _ hm
  obtain ⟨sa_0, sl_0, sc_0, rfl⟩ := okWide_slice Try.underlying22 (hval 0 22 v0 rfl rfl)
  have hcode_0 : CodeIn W.heap.size W sa_0 sl_0 := by
    obtain ⟨fuel, hf⟩ := h0
    rcases open_ints Try.underlying22 Try.underlying5 (by kernel_rfl) hf with ⟨hcs, _⟩ | ⟨x, l, c, zs, hcs, _, hl, hm, hz, _, hcell, hwz⟩
    · simp [Value.cells] at hcs
      obtain ⟨rfl, rfl, rfl⟩ := hcs
      intro i hi
      omega
    · simp [Value.cells] at hcs
      obtain ⟨rfl, rfl, rfl⟩ := hcs
      exact code_of_ints (by have hz2 := hz; simp at hz2; omega) trivial hcell hwz
  clear hA0 hval0
  refine (fnGreedy_walk sa_0 sl_0 sc_0 W hcode_0).mono fun e W' ⟨he, bel⟩ => ?_
  subst he
  exact ⟨_, rfl, _, _, _, [], _, [], hW', trodAll_mk1 (shut_bool Try.underlying4 _), (trodAll_cons_mk (Below.trod laidOut (by kernel_rfl) (of_decide_eq_true (by kernel_rfl)) k0 bel lt0) trodAll_mk0), rfl, bel.frame _, fun h => by cases h⟩
theorem fnGreedy_holds : Rows.FnGreedySaid :=
  OpenClaim.holds_of_wide 4 Try.f4 rfl rfl rfl rfl rfl rfl rfl ⟨rfl, rfl, rfl, rfl, rfl⟩ rfl rfl rfl rfl rfl (by kernel_rfl) Try.func4 (by kernel_rfl)
    (of_decide_eq_true (by kernel_rfl)) (by unfold Func.isWrapper; first | (rw [if_pos (by decide +kernel)]; kernel_rfl) | (rw [if_neg (by decide +kernel)]; exact ⟨rfl, rfl⟩))
    (fun os started H enc _ => fnGreedy_lifted os started H enc)
end Go.Proofs.Ytpalokkcmpjcmaa
