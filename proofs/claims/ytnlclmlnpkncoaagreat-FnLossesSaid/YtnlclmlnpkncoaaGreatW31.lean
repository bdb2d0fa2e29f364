/- Texts of a proof, laid together. -/
import Derived.Test.YtnlclmlnpkncoaaGreatW30
import Derived.Deep.LoopGhost
import Derived.Test.YtnlclmlnpkncoaaGreatW27
import Derived.Test.YtnlclmlnpkncoaaGreatW09
namespace Go.Proofs.YtnlclmlnpkncoaaGreat
open Go.ChangeShapes Go.WideShapes Go.ChangeAt Go.RowKit
set_option linter.unusedVariables false
set_option linter.unusedSimpArgs false
set_option maxRecDepth 4000
theorem TabI.but {t : Tb} {w w' : World} {o : Option Nat} (h : TabI t w) (ha : ∀ z, o = some z → Aw t w z ∧ ∃ vs, Blk w z vs 67) (hk : ∀ k, k < w.heap.size → o ≠ some k → w'.heap[k]? = w.heap[k]?) : TabI t w' := by
  have keep : ∀ (g : Nat) (vs : Array Value) (y : TypeId), Blk w g vs y → y ≠ 67 → Blk w' g vs y := fun g vs y hB hy => by
    refine (hk g hB.lt (fun e => ?_)).trans hB
    obtain ⟨-, us, hz⟩ := ha g e
    exact hB.ne hz hy rfl
  obtain ⟨⟨s1, ⟨cw, sW, s2⟩, s3, s4⟩, ⟨c1, b1, r1⟩, ⟨c2, b2, r2⟩⟩ := h
  have row : ∀ (g : Nat) (xs : List Int), Row w g xs → Row w' g xs := fun g xs hr => by
    obtain ⟨c3, h3, r3⟩ := hr
    exact ⟨c3, keep _ _ _ h3 (by decide), r3⟩
  refine ⟨⟨keep _ _ _ s1 (by decide), ⟨cw, keep _ _ _ sW (by decide), s2⟩, ?_, ?_⟩, ⟨c1, keep _ _ _ b1 (by decide), fun xs ys h1 h2 => ?_⟩, ⟨c2, keep _ _ _ b2 (by decide), fun xs h1 => ?_⟩⟩
  · have hlt := s3.lt
    obtain ⟨es, clock, hb, F, hs, hD⟩ := s3
    refine ⟨es, clock, (hk t.b hlt (fun e => ?_)).trans hb, F, hs, hD⟩
    obtain ⟨-, us, hz⟩ := ha _ e
    have := hz.symm.trans hb
    simp at this
  · rcases s4 with h | ⟨g, e, c3, h3, r3⟩
    · exact .inl h
    · exact .inr ⟨g, e, c3, keep _ _ _ h3 (by decide), r3⟩
  · obtain ⟨v, hv, hc⟩ := r1 xs ys h1 h2
    refine ⟨v, hv, ?_⟩
    rcases hc with hc | ⟨q, y, cd, hc, hq, hp⟩
    · exact .inl hc
    · refine .inr ⟨q, y, cd, hc, (hk q hq.lt (fun e => ?_)).trans hq, hp⟩
      obtain ⟨⟨c4, b4, r4⟩, -⟩ := ha q e
      have e4 := b4.symm.trans b1
      simp at e4
      rw [e4] at r4
      refine r4 xs ys h1 h2 ?_
      rw [hv, hc]
  · obtain ⟨v, hv, hc⟩ := r2 xs h1
    refine ⟨v, hv, ?_⟩
    rcases hc with hc | ⟨q, k, l, hc, ⟨c5, b5, r5⟩, hn, hr⟩
    · exact .inl hc
    · exact .inr ⟨q, k, l, hc, ⟨c5, keep _ _ _ b5 (by decide), r5⟩, hn, fun x hx => row _ _ (hr x hx)⟩
theorem PVs.nil (S : Nat) : PVs S [] [] := ⟨rfl, fun i o y h => by simp at h⟩
theorem PVs.snoc {S : Nat} {os : List (Option Int)} {l : List Rl} {o : Option Int} {y : Rl} (h : PVs S os l) (h1 : PV S o y.1 y.2) (h2 : -1000000000000000000 ≤ y.1 ∧ y.1 ≤ 1000000000000000000) (h3 : ∀ x, o = some x → -1000000000000000000 ≤ x ∧ x ≤ 1000000000000000000) : PVs S (os ++ [o]) (l ++ [y]) := by
  refine ⟨by rw [List.length_append, List.length_append, h.1]; rfl, fun i o' y' e1 e2 => ?_⟩
  rcases Nat.lt_trichotomy i os.length with q | q | q
  · rw [List.getElem?_append_left q] at e1
    rw [List.getElem?_append_left (by rw [← h.1]; exact q)] at e2
    exact h.2 i o' y' e1 e2
  · subst q
    rw [List.getElem?_append_right (Nat.le_refl _), Nat.sub_self] at e1
    rw [h.1, List.getElem?_append_right (Nat.le_refl _), Nat.sub_self] at e2
    simp at e1 e2
    subst e1 e2
    exact ⟨h1, h2, h3⟩
  · rw [List.getElem?_eq_none (by rw [List.length_append]; simp; omega)] at e1
    cases e1
def LoO (t : Tb) (w : World) (base : Nat) (v : Value) (l : List Rl) : Prop := OwnO w base v l ∧ ∀ z, v.ownBlock = some z → Aw t w z ∧ ∃ vs, Blk w z vs 67
theorem LoO.nil (t : Tb) (w : World) (base : Nat) : LoO t w base (.slice none 0 0) [] := ⟨OwnO.nil _ _, fun z h => by cases h⟩
theorem LoO.below {t : Tb} {w w' : World} {base : Nat} {v : Value} {l : List Rl} (h : LoO t w base v l) (hb : Below w.heap.size w w') : LoO t w' base v l :=
  ⟨h.1.by fun i _ h2 => hb.block i h2, fun z e => by
    obtain ⟨a, vs, b⟩ := h.2 z e
    exact ⟨a.below hb, vs, b.below hb⟩⟩
theorem LoO.grow {t : Tb} {w w' : World} {base : Nat} {v : Value} {l : List Rl} (h : LoO t w base v l) (hI : TabI t w) (hg : GA t w w') (h1 : t.gR < base) (h2 : t.gC < base) : LoO t w' base v l :=
  ⟨h.1.by fun i k1 k2 => hg.gr.block i k2 (by omega) (by omega), fun z e => by
    obtain ⟨a, vs, b⟩ := h.2 z e
    exact ⟨hg.aw z b.lt a, vs, hI.blk hg b⟩⟩
theorem LoO.next {t : Tb} {w w' : World} {base : Nat} {v v' : Value} {l l' : List Rl} (h : LoO t w base v l) (hI : TabI t w) (hC : t.gC < base) (hbs : base ≤ w.heap.size) (hO : OwnO w' base v' l') (hb : Below base w w') (hw : v'.ownBlock = v.ownBlock ∨ v'.ownBlock = some (w.heap.size + 1)) (hl : l' ≠ []) : LoO t w' base v' l' := by
  refine ⟨hO, fun z e => ⟨?_, ?_⟩⟩
  · have hs : w'.heap[t.gC]? = w.heap[t.gC]? := hb.block _ hC
    rcases hw with q | q
    · exact (h.2 z (q ▸ e)).1.same hs
    · rw [q] at e
      injection e with e
      exact (Aw.fresh hI.ch (by omega)).same hs
  · obtain ⟨a, k, rfl⟩ := hO.form
    rcases hO.row.2 with ⟨-, q⟩ | ⟨g, rfl, cur, hB, -⟩
    · exact absurd q hl
    · simp [Value.ownBlock] at e
      subst e
      exact ⟨cur, hB⟩
def rcO (S : Nat) (xs ys : List Int) (ra rb : Int) : List (Option Int) := (resI xs (ordersP ra rb)).map fun z => (wc S ys z).map fun x => tp S - x
def rcV (p c h s : Int) (xs ys : List Int) (ra rb : Int) : List Rl × Int := if tnE p c h s xs ys ra rb = 0 then xsV s.toNat (rcO s.toNat xs ys ra rb) else ([], tnE p c h s xs ys ra rb)
theorem tp_all {S : Nat} (hS : 1 ≤ S ∧ S ≤ 6) {x : Int} (h : 0 ≤ x ∧ x ≤ tp S) : -1000000000000000000 ≤ x ∧ x ≤ 1000000000000000000 := by
  have := tp_in hS
  omega
set_option maxRecDepth 8000 in
set_option maxHeartbeats 2000000 in
theorem resultChances_any (p c h s : Int) (a1 a2 : Option Addr) (n1 n2 c1 c2 : Nat) (xs ys : List Int) (ra rb : Int) (w : World) (hn1 : xs.length = n1) (hn2 : ys.length = n2) (hl1 : n1 ≤ 1048576) (hl2 : n2 ≤ 1048576) (hr1 : IRow w a1 xs) (hr2 : IRow w a2 ys) :
    Calls Tryz.prog 19 #[.agg #[.int .i64 p, .int .i64 c, .int .i64 h, .int .i64 s], .slice a1 n1 c1, .slice a2 n2 c2, .agg #[.int .i64 ra, .int .i64 rb]] w (XGot (rcV p c h s xs ys ra rb) w) := by
  obtain ⟨BV, BR, hb, hz⟩ := two_new w #[.int .i64 p, .int .i64 c, .int .i64 h, .int .i64 s] #[.int .i64 ra, .int .i64 rb] 25 39
  have hzz : w.heap.size + 1 < ((w.alloc (.cells #[.int .i64 p, .int .i64 c, .int .i64 h, .int .i64 s] 25)).alloc (.cells #[.int .i64 ra, .int .i64 rb] 39)).heap.size := by rw [hz]; omega
  clear hz
  have HRO1 := Lib.hid hr1
  have HRO2 := Lib.hid hr2
  have HC := Lib.hid (turnCode_any p c h s a1 a2 n1 n2 c1 c2 xs ys ra rb _ hn1 hn2 hl1 hl2 (hr1.below hb) (hr2.below hb))
  clear hr1 hr2
  obtain ⟨x0, x1, x2, x3, xf, xl⟩ := BV.four
  obtain ⟨y0, y1, yf, yl⟩ := BR.two
  by_cases k0 : tnE p c h s xs ys ra rb = 0
  · rw [rcV, if_pos k0]
    rw [k0] at HC
    obtain ⟨kO, hrl⟩ := tnE_zero k0
    obtain ⟨S, rfl, hS, hxp, hyp, hcn, few⟩ := rc_ready (rcE_zero (ocE_zero kO).1).1
    rw [Int.toNat_natCast]
    have HRL := Lib.hid hrl
    clear k0 kO hrl
    go_enter Tryz.func19, Tryz.ntmps19
    go_wp2_with fail
    refine (HC.out).mono ?_
    rintro e w1 ⟨rfl, hb1⟩
    have hz1 := hb1.size
    replace BV := BV.below hb1
    replace BR := BR.below hb1
    replace hb := chain hb hb1
    clear x0 x1 x2 x3 xf xl y0 y1 yf yl hb1 HC
    obtain ⟨x0, x1, x2, x3, xf, xl⟩ := BV.four
    have HCU := Lib.hid (chancesUpTo_any p c h S hS a1 a2 n1 n2 c1 c2 xs ys w1 hxp hyp hcn hn1 hn2 (HRO1.out.below hb) (HRO2.out.below hb))
    go_wp2_with fail
    refine (HCU.out).mono ?_
    rintro e w2 ⟨t, rfl, rfl, rfl, rfl, rfl, hK, hI, hgR0, hgC0, hb2⟩
    clear x0 x1 x2 x3 xf xl HCU
    have hw2 := hb2.size
    have hsw := hb.size
    replace BR := BR.below hb2
    replace hb := chain hb hb2
    have hgR : w.heap.size ≤ t.gR := by omega
    have hgC : w.heap.size ≤ t.gC := by omega
    obtain ⟨hx, hy, hK1⟩ := Tb.in_of hxp hyp hcn hK
    obtain ⟨hrb, hrn, hrm, hrp, hrt⟩ := res_ready (ys := ys) hS hx HRL.out
    obtain ⟨Y, hY⟩ : ∃ Y, nm t.c ys = Y := ⟨_, rfl⟩
    have HAF := Lib.hid (fun z (hz : z ∈ resI xs (ordersP ra rb)) W (q : TabI t W) => after_any t hS (pwT xs + pwT ys + 1) (win_any t hS few hK1 _) z ys (nm t.c z) Y W q (hrt z hz).1 hy rfl hY (hrt z hz).2)
    have HIN := Lib.hid (show ∀ z ∈ resI xs (ordersP ra rb), ∀ x, ((wc t.S ys z).map fun x => tp t.S - x) = some x → 0 ≤ x ∧ x ≤ tp t.S from fun z hz x e => by
      obtain ⟨a1, a2, a3, -⟩ := hy.1.po
      rw [Option.map_eq_some_iff] at e
      obtain ⟨q, hq, rfl⟩ := e
      have := wc_in hS a2 a3 a1 (hrp z hz).po.1 hq
      show 0 ≤ tp t.S - q ∧ tp t.S - q ≤ tp t.S
      omega)
    obtain ⟨p1, p2, p3, p4, -⟩ := hx.1.po
    have HB := Lib.hid (fun (W : World) (r : IRow W a1 xs) => bearoffResultsM_any a1 n1 c1 xs ra rb W hn1 (by omega) (by omega) (by rw [← hn1, p4]; exact p1) hrb.1 hrb.2.1 hrb.2.2 r)
    have HLEN := Lib.hid (And.intro hrn hrm)
    have HPS := Lib.hid hrp
    have HY := Lib.hid hY
    have HYY := Lib.hid hy
    obtain ⟨N, hN⟩ : ∃ N, (resI xs (ordersP ra rb)).length = N := ⟨_, rfl⟩
    have hN1 : 0 < N ∧ N ≤ 1048576 := by omega
    have n0 : (N : Int) ≤ 1048576 := by omega
    have HNL := Lib.hid hN
    clear hb2 hw2 hsw hgR0 hgC0 hK hrn hrm hrp hrt hrb p1 p2 p3 p4 hY hx hy hxp hyp hcn HRL BV hN
    go_wp2_with fail
    replace hI := hI.drew
    replace BR := BR.drew
    replace hb := hb.drew
    refine wp_region_held_drew (S := fun w' => w'.cell? ⟨t.g, 0, none⟩ = some (.int .i64 t.p) ∧ w'.cell? ⟨t.g, 1, none⟩ = some (.int .i64 t.c) ∧ w'.cell? ⟨t.g, 2, none⟩ = some (.int .i64 t.h) ∧ w'.cell? ⟨t.g, 3, none⟩ = some (.int .i64 (t.S : Int)) ∧ w'.cell? ⟨t.g, 4, none⟩ = some (.pointer (some ⟨t.gw, 0, none⟩)) ∧ w'.cell? ⟨w.heap.size + 1, 0, none⟩ = some (.int .i64 ra) ∧ w'.cell? ⟨w.heap.size + 1, 1, none⟩ = some (.int .i64 rb)) (by kernel_rfl) ⟨hI.st.1.thirteen.1, hI.st.1.thirteen.2.1, hI.st.1.thirteen.2.2.1, hI.st.1.thirteen.2.2.2.1, hI.st.1.thirteen.2.2.2.2.1, BR.two.1, BR.two.2.1⟩ (fun hHeld => ?_)
    clear hHeld
    have hz_vd : w2.drew.heap.size = w2.heap.size := rfl
    generalize w2.drew = vd at *
    have hHeld : vd.cell? ⟨t.g, 0, none⟩ = some (.int .i64 t.p) ∧ vd.cell? ⟨t.g, 1, none⟩ = some (.int .i64 t.c) ∧ vd.cell? ⟨t.g, 2, none⟩ = some (.int .i64 t.h) ∧ vd.cell? ⟨t.g, 3, none⟩ = some (.int .i64 (t.S : Int)) ∧ vd.cell? ⟨t.g, 4, none⟩ = some (.pointer (some ⟨t.gw, 0, none⟩)) ∧ vd.cell? ⟨w.heap.size + 1, 0, none⟩ = some (.int .i64 ra) ∧ vd.cell? ⟨w.heap.size + 1, 1, none⟩ = some (.int .i64 rb) := ⟨hI.st.1.thirteen.1, hI.st.1.thirteen.2.1, hI.st.1.thirteen.2.2.1, hI.st.1.thirteen.2.2.2.1, hI.st.1.thirteen.2.2.2.2.1, BR.two.1, BR.two.2.1⟩
    refine tk 0 27 ?_
    refine tk 1 28 ?_
    refine tk 2 29 ?_
    refine tk 3 30 ?_
    refine tk 4 31 ?_
    refine tk 5 32 ?_
    refine tk 9 36 ?_
    refine rdk 6 33 fun K hK => ?_
    go_simp
    refine (HB.out _ (HRO1.out.below hb)).mono ?_
    rintro e wd ⟨g5, k5, l5, rfl, -, hQ5, hnm5, hA5, -, hb5⟩
    have hQR : QR wd g5 l5 := ⟨hQ5, fun x hx => (hA5 x hx).2.2⟩
    replace hI := hI.below hb5
    replace BR := BR.below hb5
    replace hb := chain hb hb5
    clear hb5
    have HNM := Lib.hid hnm5
    have HL5 := Lib.hid (nm_len hnm5)
    clear hQ5 hA5 hnm5
    (try go_wp2_with fail)
    refine hko hK ⟨hI.st.1.thirteen.1, hI.st.1.thirteen.2.1, hI.st.1.thirteen.2.2.1, hI.st.1.thirteen.2.2.2.1, hI.st.1.thirteen.2.2.2.2.1, (Blk.l2 BR)⟩ fun hHeld => ?_
    clear hK K
    refine rdk 7 34 fun K hK => ?_
    go_simp
    refine (numbersOf_any t g5 l5.length k5 l5 _ rfl (by rw [HL5.out]; exact HLEN.out.2) hI.st.2.1 hQR.1 (fun x hx => ⟨hQR.2 x hx, HPS.out x.2.2 (by rw [← HNM.out]; exact List.mem_map.2 ⟨x, hx, rfl⟩)⟩)).mono ?_
    rintro e we ⟨g6, rfl, -, R6, hb6⟩
    clear hQR
    replace hI := hI.below hb6
    replace BR := BR.below hb6
    replace hb := chain hb hb6
    clear hb6
    rw [HNM.out] at R6
    rw [HL5.out, HNL.out]
    (try go_wp2_with fail)
    refine hko hK ⟨hI.st.1.thirteen.1, hI.st.1.thirteen.2.1, hI.st.1.thirteen.2.2.1, hI.st.1.thirteen.2.2.2.1, hI.st.1.thirteen.2.2.2.2.1, (Blk.l2 BR)⟩ fun hHeld => ?_
    clear hK K
    refine tk 8 35 ?_
    refine wpAnyH_done (by kernel_rfl) ?_ _
    clear hHeld BR
    obtain ⟨base, hbase⟩ : ∃ z, we.heap.size = z := ⟨_, rfl⟩
    have hgb : t.gR < base ∧ t.gC < base := by
      obtain ⟨⟨_, q1⟩, ⟨_, q2⟩⟩ := hI.tab
      have := q1.lt
      have := q2.lt
      omega
    have hg6 : g6 < base := by have := R6.lt; omega
    have hbw : w.heap.size ≤ base := by have := hb.size; omega
    have hbs : base ≤ we.heap.size := by omega
    go_wp2_with fail
    go_loopg [12, 36] N (fun m q12 q36 wr => ∃ (W : World) (j : Nat) (l : List Rl), W = wr ∧ j ≤ N ∧ m = N - j ∧ q36 = .int .i64 (j : Int) ∧ LoO t W base q12 l ∧ PVs t.S ((rcO t.S xs ys ra rb).take j) l ∧ TabI t W ∧ Row W g6 ((resI xs (ordersP ra rb)).map fun z => (nm t.c z : Int)) ∧ base ≤ W.heap.size ∧ Below w.heap.size w W)
    case atStart => exact ⟨_, 0, [], rfl, by omega, by omega, rfl, LoO.nil _ _ _, PVs.nil _, hI, R6, hbs, hb⟩
    case round =>
      clear hI R6 hb hbs hbase
      obtain ⟨wr, j, l, hWW, hj, hm, rfl, hO, hP, hI, R6, hbs, hb⟩ := hrel
      subst hWW
      have hll : l.length = j := by
        rw [← hP.1, List.length_take, rcO, List.length_map, HNL.out]
        omega
      have HLL := Lib.hid hll
      have HP := Lib.hid hP
      clear hll hP
      by_cases hlt : j < N
      · have hlt' : (j : Int) < (N : Int) := by omega
        have j0 : (0 : Int) ≤ (j : Int) := by omega
        obtain ⟨z, hz⟩ : ∃ z, (resI xs (ordersP ra rb))[j]? = some z := ⟨_, List.getElem?_eq_getElem (by rw [HNL.out]; exact hlt)⟩
        have hzm := List.mem_of_getElem? hz
        have hcz := R6.cell j (by rw [List.length_map, HNL.out]; exact hlt)
        have e0 : ((resI xs (ordersP ra rb)).map fun z => (nm t.c z : Int)).getD j 0 = (nm t.c z : Int) := by
          rw [List.getD_eq_getElem?_getD, List.getElem?_map, hz]
          rfl
        rw [e0] at hcz
        have htk : (rcO t.S xs ys ra rb).take (j + 1) = (rcO t.S xs ys ra rb).take j ++ [(wc t.S ys z).map fun x => tp t.S - x] := by
          rw [List.take_add_one, rcO, List.getElem?_map, hz]
          rfl
        have HTK := Lib.hid htk
        have HA := Lib.hid (HAF.out z hzm)
        have HI2 := Lib.hid (HIN.out z hzm)
        obtain ⟨Z, hZ⟩ : ∃ Z, nm t.c z = Z := ⟨_, rfl⟩
        rw [hZ] at HA hcz
        obtain ⟨av, kv, hv⟩ := hO.1.form
        subst hv
        clear hz hzm e0 htk hZ
        obtain ⟨c0, c1, c2_, c3, c4, c5, c6, c7, c8, c9, cA, cB, cC, cf, cl⟩ := hI.st.1.thirteen
        go_wp2_with fail
        clear c0 c1 c2_ c3 c4 c5 c6 c7 c8 c9 cA cB cC cf cl
        clear hcz
        refine (numOf_any t.p t.c t.h (t.S : Int) t.gw a2 n2 c2 ys _ HYY.out.1 hn2 (HRO2.out.below hb) hI.st.2.1).mono ?_
        rintro e w3 ⟨rfl, hb4⟩
        rw [HY.out]
        have hs4 := hb4.size
        replace hI := hI.below hb4
        replace hO := hO.below hb4
        replace R6 := R6.below hb4
        replace hb := chain hb hb4
        clear hb4
        go_wp2_with fail
        refine (HA.out _ hI).mono ?_
        rintro e w4 ⟨y, cd, rfl, hp, hI4, hga⟩
        have hs5 := hga.gr.size
        replace hO := hO.grow hI hga hgb.1 hgb.2
        replace R6 := R6.gr hI.tab hga.gr
        replace hb := hb.trans (hga.gr.below (base := w.heap.size) hgR hgC hb.size)
        have hyb := hp.in HI2.out
        have hPn : PVs t.S ((rcO t.S xs ys ra rb).take (j + 1)) (l ++ [(y, cd)]) := by
          rw [HTK.out]
          exact HP.out.snoc hp (tp_all hS ⟨hyb.1, hyb.2.1⟩) (fun x e => tp_all hS (HI2.out x e))
        have HPN := Lib.hid hPn
        have hbs2 : base ≤ w4.heap.size := by omega
        have hlm : l.length ≤ 1048576 := by rw [HLL.out]; omega
        clear hI hga hp hyb hPn HP
        go_wp2_with (at_builtin; go_loud (refine wp_pushOW rfl _ _ rfl base _ l rfl hO.1 (y, cd) rfl rfl hlm hbs2 ?_; intro v2 w5 hO5 hb5 hk5 hw5))
        have hI5 : TabI t w5 := hI4.but hO.2 hk5
        have hO6 := hO.next hI4 hgb.2 hbs2 hO5 hb5 hw5 (by simp)
        have R7 : Row w5 g6 ((resI xs (ordersP ra rb)).map fun z => (nm t.c z : Int)) := by
          obtain ⟨cur, hB, r⟩ := R6
          exact ⟨cur, (hb5.block g6 hg6).trans hB, r⟩
        have hb7 := hb.trans (hb5.mono hbw)
        have hs7 := hb5.size
        clear hO hO5 R6 hb hb5 hk5 hw5 hI4
        go_wp2
        go_roundg (N - (j + 1))
        case measure => omega
        case rel => exact ⟨_, j + 1, l ++ [(y, cd)], rfl, by omega, rfl, by go_num, hO6, HPN.out, hI5, R7, by omega, hb7⟩
      · obtain rfl : j = N := by omega
        obtain ⟨av, kv, hv⟩ := hO.1.form
        subst hv
        have hPf : PVs t.S (rcO t.S xs ys ra rb) l := by
          have := HP.out
          rwa [List.take_of_length_le (by rw [rcO, List.length_map, HNL.out]; exact Nat.le_refl _)] at this
        rcases hO.1.row.2 with ⟨-, q⟩ | ⟨g, rfl, hR⟩
        · have := HLL.out
          rw [q] at this
          simp at this
          omega
        · have HX := Lib.hid (exacts_any t hS g l.length kv (rcO t.S xs ys ra rb) l wr rfl (by rw [HLL.out]; omega) hI hPf hR)
          have HSZ := Lib.hid hb.size
          clear hPf hR hO HP
          go_wp2_with fail
          refine (HX.out).mono ?_
          rintro e w9 ⟨av, kv, rfl, hOx, hb9⟩
          go_wp2_with fail
          go_ret2
          exact ⟨av, kv, rfl, hOx.mono HSZ.out (Nat.le_refl _), chain hb hb9⟩
  · rw [rcV, if_neg k0]
    obtain ⟨K, hK⟩ : ∃ K, tnE p c h s xs ys ra rb = K := ⟨_, rfl⟩
    rw [hK] at HC k0 ⊢
    have f0 : (K != 0) = true := by rw [bne_iff_ne]; exact k0
    clear hK
    go_enter Tryz.func19, Tryz.ntmps19
    go_wp2_with fail
    refine (HC.out).mono ?_
    rintro e w1 ⟨rfl, hb1⟩
    clear x0 x1 x2 x3 xf xl y0 y1 yf yl
    go_wp2_with fail
    go_ret2
    exact ⟨none, 0, rfl, .inl ⟨rfl, rfl⟩, chain hb hb1⟩
theorem QR.gr {t : Tb} {w w' : World} {g : Nat} {l : List PQ} (h : QR w g l) (hT : TabT t w) (hg : Gr t.gR t.gC w w') : QR w' g l := ⟨VRow.gr h.1 hT hg (by decide) (by decide), fun x hx => (h.2 x hx).gr hT hg⟩
theorem QR.keep {w w' : World} {g base : Nat} {l : List PQ} (h : QR w g l) (hb : Below base w w') (hg : g < base) (hx : ∀ x ∈ l, x.1 < base) : QR w' g l := by
  obtain ⟨⟨cur, hB, r⟩, hr⟩ := h
  refine ⟨⟨cur, (hb.block g hg).trans hB, r⟩, fun x m => ?_⟩
  obtain ⟨c2, h2, r2⟩ := hr x m
  exact ⟨c2, (hb.block x.1 (hx x m)).trans h2, r2⟩
set_option maxHeartbeats 1000000 in
theorem l11One_any (w : World) :
    Calls Tryz.prog 115 #[] w fun e w' => e = .returned (.agg #[.int .i64 1, .int .i64 0]) ∧ Below w.heap.size w w' := by
  have BO := Blk.new w #[.int .i64 1, .int .i64 0] 35
  have hb : Below w.heap.size w (w.alloc (.cells #[.int .i64 1, .int .i64 0] 35)) := (Below.refl _ _).alloc (Nat.le_refl _) _
  obtain ⟨z0, z1, zf, zl⟩ := BO.two
  go_enter Tryz.func115, Tryz.ntmps115
  go_wp2_with fail
  refine bodyPost_ret (v := .agg #[.int .i64 1, .int .i64 0]) (by simp [results, Tryz.results115, go_sem, z0, z1]) rfl ?_
  exact ⟨rfl, hb⟩
set_option maxRecDepth 8000 in
set_option maxHeartbeats 2000000 in
theorem l12Minus_any (p c h : Int) (S : Nat) (hS : 1 ≤ S ∧ S ≤ 6) (n d Q : Int) (hQ : IsP S n d Q) (hin : 0 ≤ Q ∧ Q ≤ tp S) (w : World) :
    Calls Tryz.prog 116 #[.agg #[.int .i64 p, .int .i64 c, .int .i64 h, .int .i64 (S : Int)], .agg #[.int .i64 n, .int .i64 d]] w fun e w' => ∃ m f, e = .returned (.tuple #[.agg #[.int .i64 m, .int .i64 f], .bool true]) ∧ IsP S m f (tp S - Q) ∧ Below w.heap.size w w' := by
  have htp := tp_in hS
  obtain ⟨i0, i1, i2, i3, i4⟩ := isP_depth hS hQ
  obtain ⟨m, f, had, hmf⟩ := isP_add hS (isP_one hS) (isP_neg hQ) (by omega) (by omega)
  rw [show tp S + -Q = tp S - Q by omega] at hmf
  have hA := fun W => l09Add_any p c h S hS 1 0 (-n) d (by omega) (by omega) (by omega) (by omega) W
  rw [had] at hA
  simp only [xoN, xoD, Option.isSome] at hA
  have wz : IntKind.i64.wrap (-n) = -n := IntWalk.i64_in _ (by omega)
  have HA := Lib.hid hA
  have HM := Lib.hid hmf
  obtain ⟨BV, BX, BO, hb, hz⟩ := three_new w #[.int .i64 p, .int .i64 c, .int .i64 h, .int .i64 (S : Int)] #[.int .i64 n, .int .i64 d] #[.int .i64 0, .int .i64 0] 25 35 35
  clear hA hmf had hin hQ hS htp i0 i1 i2 i3 i4 hz
  obtain ⟨x0, x1, x2, x3, xf, xl⟩ := BV.four
  obtain ⟨y0, y1, yf, yl⟩ := BX.two
  obtain ⟨z0, z1, zf, zl⟩ := BO.two
  go_enter Tryz.func116, Tryz.ntmps116
  go_wp2_with fail
  clear x0 x1 x2 x3 xf xl y0 y1 yf yl z0 z1 zf zl
  generalize (((w.alloc (.cells #[.int .i64 p, .int .i64 c, .int .i64 h, .int .i64 (S : Int)] 25)).alloc (.cells #[.int .i64 n, .int .i64 d] 35)).alloc (.cells #[.int .i64 0, .int .i64 0] 35)) = w1 at *
  replace BV := BV.drew
  replace BX := BX.drew
  replace BO := BO.drew
  replace hb := hb.drew
  refine wp_region_held_drew (S := fun w' => w'.cell? ⟨w.heap.size, 0, none⟩ = some (.int .i64 p) ∧ w'.cell? ⟨w.heap.size, 1, none⟩ = some (.int .i64 c) ∧ w'.cell? ⟨w.heap.size, 2, none⟩ = some (.int .i64 h) ∧ w'.cell? ⟨w.heap.size, 3, none⟩ = some (.int .i64 (S : Int)) ∧ w'.cell? ⟨w.heap.size + 1, 0, none⟩ = some (.int .i64 n) ∧ w'.cell? ⟨w.heap.size + 1, 1, none⟩ = some (.int .i64 d)) (by kernel_rfl) ⟨BV.four.1, BV.four.2.1, BV.four.2.2.1, BV.four.2.2.2.1, BX.two.1, BX.two.2.1⟩ (fun hHeld => ?_)
  clear hHeld
  have hz_vd : w1.drew.heap.size = w1.heap.size := rfl
  generalize w1.drew = vd at *
  have hHeld : vd.cell? ⟨w.heap.size, 0, none⟩ = some (.int .i64 p) ∧ vd.cell? ⟨w.heap.size, 1, none⟩ = some (.int .i64 c) ∧ vd.cell? ⟨w.heap.size, 2, none⟩ = some (.int .i64 h) ∧ vd.cell? ⟨w.heap.size, 3, none⟩ = some (.int .i64 (S : Int)) ∧ vd.cell? ⟨w.heap.size + 1, 0, none⟩ = some (.int .i64 n) ∧ vd.cell? ⟨w.heap.size + 1, 1, none⟩ = some (.int .i64 d) := ⟨BV.four.1, BV.four.2.1, BV.four.2.2.1, BV.four.2.2.2.1, BX.two.1, BX.two.2.1⟩
  refine tk 0 6 ?_
  refine tk 2 8 ?_
  refine tk 3 9 ?_
  refine tk 4 10 ?_
  refine tk 5 11 ?_
  refine tk 6 12 ?_
  refine tk 7 13 ?_
  refine rdk 1 7 fun K hK => ?_
  go_simp
  refine (l11One_any _).mono ?_
  rintro e wa ⟨rfl, hb1⟩
  replace BV := BV.below hb1
  replace BX := BX.below hb1
  replace BO := BO.below hb1
  replace hb := chain hb hb1
  clear hb1
  (try go_wp2_with fail)
  refine hko hK (Blk.f4 BV (Blk.l2 BX)) fun hHeld => ?_
  clear hK K
  refine rdk 8 14 fun K hK => ?_
  go_simp
  refine (HA.out _).mono ?_
  rintro e wb ⟨rfl, hb2⟩
  replace BV := BV.below hb2
  replace BX := BX.below hb2
  replace BO := BO.below hb2
  replace hb := chain hb hb2
  clear hb2
  (try go_wp2_with fail)
  refine hko hK (Blk.f4 BV (Blk.l2 BX)) fun hHeld => ?_
  clear hK K
  refine tk 9 15 ?_
  refine tk 10 16 ?_
  refine rdn 11 fun K hK => ?_
  have u0 := BO.two.1
  have u1 := BO.two.2.1
  have uf := BO.two.2.2.1
  have ul := BO.two.2.2.2
  go_simp
  (try go_wp2_with fail)
  refine hko hK (Blk.f4 (BV.far2 (B := w.heap.size + 1 + 1) (by omega) (.int .i64 m) (.int .i64 f)) (Blk.l2 (BX.far2 (B := w.heap.size + 1 + 1) (by omega) (.int .i64 m) (.int .i64 f)))) fun hHeld => ?_
  clear hK K
  refine tk 12 5 ?_
  refine wpAnyH_done (by kernel_rfl) ?_ _
  clear hHeld
  go_wp2_with fail
  have BRn := BO.set2 (.int .i64 m) (.int .i64 f)
  obtain ⟨u0, u1, uf, ul⟩ := BRn.two
  refine bodyPost_ret (v := .tuple #[.agg #[.int .i64 m, .int .i64 f], .bool true]) (by simp [results, Tryz.results116, go_sem, u0, u1]) rfl ?_
  exact ⟨m, f, rfl, HM.out, belowFar2 hb (by omega) _ _⟩
end Go.Proofs.YtnlclmlnpkncoaaGreat
