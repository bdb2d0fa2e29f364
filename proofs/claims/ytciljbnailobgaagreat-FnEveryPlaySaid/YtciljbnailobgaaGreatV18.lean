/- Texts of a proof, laid together. -/
import Derived.Test.YtciljbnailobgaaGreatV17
import Derived.Test.YtciljbnailobgaaGreatV10
namespace Go.Proofs.YtciljbnailobgaaGreat
open Go.ChangeShapes Go.WideShapes Go.ChangeAt Go.RowKit
set_option linter.unusedVariables false
set_option linter.unusedSimpArgs false
set_option maxRecDepth 4000
theorem longP_long {P : Nat} (hP : P ≤ 24) (h : Int) : ∀ (o : List Int) (l : List Ply), (longP P h o l).length ≤ l.length * 25 ^ o.length
  | [], l => by simp [longP]
  | d :: ds, l => by
    rw [longP, List.length_cons, Nat.pow_succ]
    have h1 := longP_long hP h ds (nextP P h d l)
    have h2 := nextP_length P h d l
    have h3 : l.length * (P + 1) ≤ l.length * 25 := Nat.mul_le_mul_left _ (by omega)
    have h4 : (nextP P h d l).length * 25 ^ ds.length ≤ l.length * 25 * 25 ^ ds.length := Nat.mul_le_mul_right _ (by omega)
    have h5 : l.length * 25 * 25 ^ ds.length = l.length * (25 ^ ds.length * 25) := by rw [Nat.mul_assoc, Nat.mul_comm 25]
    have h6 : l.length * 1 ≤ l.length * (25 ^ ds.length * 25) := Nat.mul_le_mul_left _ (by have := Nat.pow_pos (n := ds.length) (show 0 < 25 by omega); omega)
    split <;> omega
theorem longP_four {P : Nat} (hP : P ≤ 24) (h : Int) (o : List Int) (xs ys : List Int) (ho : o.length ≤ 4) : (longP P h o (startP xs ys)).length ≤ 390625 := by
  have h1 := longP_long hP h o (startP xs ys)
  have h2 : 25 ^ o.length ≤ 25 ^ 4 := Nat.pow_le_pow_right (by omega) ho
  have h3 : (startP xs ys).length = 1 := rfl
  rw [h3] at h1
  omega
theorem allTo_length (P : Nat) (h : Int) (xs ys : List Int) (U Q : Nat) (l : List (List Int)) (hl : ∀ o ∈ l, (longP P h o (startP xs ys)).length ≤ Q) : ∀ k : Nat, (allTo P h xs ys U l k).length ≤ k * Q
  | 0 => by simp [allTo]
  | k + 1 => by
    have ih := allTo_length P h xs ys U Q l hl k
    rw [allTo, Nat.add_mul]
    cases e : l[k]? with
    | none => dsimp only; omega
    | some o =>
      dsimp only
      unfold allStep
      have h1 := hl o (List.mem_of_getElem? e)
      have h2 := addAll_length (longP P h o (startP xs ys)) (allTo P h xs ys U l k)
      split <;> omega
def AllGot (ps : List Ply) (f : Bool) (w : World) (e : Ending) (w' : World) : Prop :=
  ∃ (a : Option Addr) (k : Nat) (l : List PP), e = .returned (.tuple #[.slice a l.length k, .bool f]) ∧ l.map Prod.snd = ps ∧ OPl w.heap.size w'.heap.size w' a l ∧ PAll w.heap.size w'.heap.size w' l ∧ Below w.heap.size w w'
set_option maxRecDepth 8000 in
set_option maxHeartbeats 2000000 in
theorem l05All_any (P : Nat) (c h s ra rb : Int) (a1 a2 : Option Addr) (n1 n2 c1 c2 : Nat) (xs ys : List Int) (w : World) (h1 : xs.length = n1) (h2 : ys.length = n2) (r1 : IRow w a1 xs) (r2 : IRow w a2 ys) (g : isB (P : Int) c h s xs ys = true) (ha : inB ra 1 s = true) (hbb : inB rb 1 s = true) :
    Calls Tryz.prog 25 #[.agg #[.int .i64 (P : Int), .int .i64 c, .int .i64 h, .int .i64 s], .agg #[.slice a1 n1 c1, .slice a2 n2 c2], .agg #[.int .i64 ra, .int .i64 rb]] w (AllGot (allP P h xs ys ra rb) (allOk P h xs ys ra rb) w) := by
  obtain ⟨p0, p1, k0, k1, k2, k3, N1, N2, hx, hy, s0, s1, s2, s3⟩ := isB_parts g
  have p24 : P ≤ 24 := by omega
  clear hx hy
  obtain ⟨BV, BB, BR, hb, hz⟩ := three_new w #[.int .i64 (P : Int), .int .i64 c, .int .i64 h, .int .i64 s] #[.slice a1 n1 c1, .slice a2 n2 c2] #[.int .i64 ra, .int .i64 rb] 25 28 30
  have hz1 : w.heap.size + 1 + 1 + 1 ≤ (((w.alloc (.cells #[.int .i64 (P : Int), .int .i64 c, .int .i64 h, .int .i64 s] 25)).alloc (.cells #[.slice a1 n1 c1, .slice a2 n2 c2] 28)).alloc (.cells #[.int .i64 ra, .int .i64 rb] 30)).heap.size := by rw [hz]; omega
  clear hz
  replace r1 := r1.below hb
  replace r2 := r2.below hb
  have hus := fun W (q1 : IRow W a1 xs) (q2 : IRow W a2 ys) => l05Used_any P c h s ra rb a1 a2 n1 n2 c1 c2 xs ys W h1 h2 q1 q2 g ha hbb
  have hor := fun W => l05Orders_any ra rb W
  have HG := Lib.hid g
  have HOM := Lib.hid (fun j o ho => ordersP_mem (j := j) (o := o) ha hbb ho)
  have HOL := ordersP_length ra rb
  have hol : ∀ o ∈ ordersP ra rb, o.length ≤ 4 := fun o ho => by obtain ⟨j, hj⟩ := List.mem_iff_getElem?.1 ho; exact (ordersP_mem ha hbb hj).1
  have hAll : allTo P h xs ys (usedP P h xs ys ra rb) (ordersP ra rb) (ordersP ra rb).length = allP P h xs ys ra rb := rfl
  have hAok : okTo P h xs ys (ordersP ra rb) (ordersP ra rb).length = allOk P h xs ys ra rb := rfl
  have hU4 := usedTo_le P h xs ys ra rb (ordersP ra rb).length
  rw [usedTo_all] at hU4
  have hfin := fun k => allTo_fine (U := usedP P h xs ys ra rb) (l := ordersP ra rb) g (fun o ho => by obtain ⟨j, hj⟩ := List.mem_iff_getElem?.1 ho; exact (ordersP_mem ha hbb hj).2) k
  obtain ⟨RP, hRP⟩ : ∃ z, allP P h xs ys ra rb = z := ⟨_, rfl⟩
  obtain ⟨RK, hRK⟩ : ∃ z, allOk P h xs ys ra rb = z := ⟨_, rfl⟩
  rw [hRP] at hAll ⊢
  rw [hRK] at hAok ⊢
  obtain ⟨U, hU⟩ : ∃ z, usedP P h xs ys ra rb = z := ⟨_, rfl⟩
  rw [hU] at hus hAll hU4 hfin
  obtain ⟨OS, hOS⟩ : ∃ z, ordersP ra rb = z := ⟨_, rfl⟩
  rw [hOS] at hor HOM HOL hol hAll hAok hfin
  have hlen := allTo_length P h xs ys U 390625 OS (fun o ho => longP_four p24 h o xs ys (hol o ho))
  have HUS := Lib.hid hus
  have HOR := Lib.hid hor
  have HALL := Lib.hid hAll
  have HAOK := Lib.hid hAok
  have HLEN := Lib.hid hlen
  have HFIN := Lib.hid hfin
  clear hus hor hAll hAok hlen hfin hU hOS hRP hRK hol g ha hbb
  obtain ⟨x0, x1, x2, x3, xf, xl⟩ := BV.four
  obtain ⟨y0, y1, yf, yl⟩ := BB.two
  obtain ⟨z0, z1, zf, zl⟩ := BR.two
  go_enter Tryz.func25, Tryz.ntmps25
  go_wp2_with fail
  clear x0 x1 x2 x3 xf xl y0 y1 yf yl z0 z1 zf zl
  generalize (((w.alloc (.cells #[.int .i64 (P : Int), .int .i64 c, .int .i64 h, .int .i64 s] 25)).alloc (.cells #[.slice a1 n1 c1, .slice a2 n2 c2] 28)).alloc (.cells #[.int .i64 ra, .int .i64 rb] 30)) = v0 at *
  refine (HUS.out _ r1 r2).mono ?_
  rintro e w1 ⟨rfl, hb1⟩
  have hz2 := hb1.size
  obtain ⟨z0, z1, zf, zl⟩ := (BR.below hb1).two
  have hs1 : (w1.alloc (.cells #[] 44)).heap.size = w1.heap.size + 1 := by simp
  have hal : Below w1.heap.size w1 (w1.alloc (.cells #[] 44)) := (Below.refl _ _).alloc (Nat.le_refl _) _
  have OW := OwnP.start w1
  obtain ⟨z0, z1, zf, zl⟩ := (BR.below (chain hb1 hal)).two
  go_wp2_with fail
  clear z0 z1 zf zl
  refine (HOR.out _).mono ?_
  rintro e w2 ⟨gO, rfl, hcells, hb2⟩
  have HC := Lib.hid hcells
  clear hcells
  replace OW := OW.below hb2
  have hbl := chain (chain hb1 hal) hb2
  have hz3 := hb2.size
  rw [hs1] at hz3
  go_wp2_with fail
  go_loopg [9, 10, 12, 13, 14, 15, 16] OS.length (fun m q9 q10 q12 q13 q14 q15 q16 wr => ∃ (i : Nat) (D : List PP), i ≤ OS.length ∧ m = OS.length - i ∧ q12 = .int .i64 i ∧ q10 = .bool (okTo P h xs ys OS i) ∧ OutP w2.heap.size w1.heap.size wr q9 D ∧ PAll w2.heap.size wr.heap.size wr D ∧ D.map Prod.snd = allTo P h xs ys U OS i ∧ Below w2.heap.size w2 wr)
  case atStart => exact ⟨0, [], by omega, by omega, rfl, rfl, .inl ⟨rfl, rfl⟩, PAll.nil _ _ _, rfl, Below.refl _ _⟩
  case round =>
    obtain ⟨i, D, hi, hm, rfl, rfl, hO, hPA, hDm, hbq⟩ := hrel
    have hbel := chain hbl hbq
    by_cases hlt : i < OS.length
    · have hlt' : (i : Int) < (OS.length : Int) := by omega
      have hi0 : (0 : Int) ≤ (i : Int) := by omega
      obtain ⟨od, hod⟩ : ∃ o, OS[i]? = some o := ⟨_, List.getElem?_eq_getElem hlt⟩
      obtain ⟨gj, hcj, hRj⟩ := HC.out i od hod
      obtain ⟨ho4, hodd⟩ := HOM.out i od hod
      have hlg := fun W (hW : Below wr.heap.size wr W) => l05Longest_any P c h s a1 a2 (some ⟨gj, 0, none⟩) n1 n2 od.length c1 c2 od.length xs ys od W h1 h2 rfl ho4 (r1.below (chain hbel hW)) (r2.below (chain hbel hW)) (hRj.below (chain hbq hW)).irow HG.out hodd
      have hstep := allTo_succ P h xs ys U OS i od hod
      have hoks := okTo_succ P h xs ys OS i od hod
      have hl4 := longP_four p24 h od xs ys ho4
      have hfl := longP_isB (start_fine HG.out) hodd
      obtain ⟨NN, hNN⟩ : ∃ z, longN P h od (startP xs ys) = z := ⟨_, rfl⟩
      obtain ⟨FF, hFF⟩ : ∃ z, fineP P h od (startP xs ys) = z := ⟨_, rfl⟩
      obtain ⟨LP, hLP⟩ : ∃ z, longP P h od (startP xs ys) = z := ⟨_, rfl⟩
      obtain ⟨OK, hOK⟩ : ∃ z, okTo P h xs ys OS i = z := ⟨_, rfl⟩
      rw [hNN, hFF, hLP] at hlg
      rw [hFF, hOK] at hoks
      rw [hLP] at hl4 hfl
      have HFL := Lib.hid hfl
      clear hfl
      rw [hOK]
      have HLG := Lib.hid hlg
      have HSTEP := Lib.hid hstep
      have HOKS := Lib.hid hoks
      have HNN0 := Lib.hid hNN
      have HLP0 := Lib.hid hLP
      clear hlg hstep hoks hNN hFF hLP hOK hRj hodd hod
      obtain ⟨x0, x1, x2, x3, xf, xl⟩ := (BV.below hbel).four
      obtain ⟨y0, y1, yf, yl⟩ := (BB.below hbel).two
      go_wp2_with fail
      clear x0 x1 x2 x3 xf xl y0 y1 yf yl
      refine wp_region_held_drew (S := fun w' => w'.cell? ⟨w.heap.size, 0, none⟩ = some (.int .i64 (P : Int)) ∧ w'.cell? ⟨w.heap.size, 1, none⟩ = some (.int .i64 c) ∧ w'.cell? ⟨w.heap.size, 2, none⟩ = some (.int .i64 h) ∧ w'.cell? ⟨w.heap.size, 3, none⟩ = some (.int .i64 s) ∧ w'.cell? ⟨w.heap.size + 1, 0, none⟩ = some (.slice a1 n1 c1) ∧ w'.cell? ⟨w.heap.size + 1, 1, none⟩ = some (.slice a2 n2 c2) ∧ w'.cell? ⟨gO, i, none⟩ = some (.slice (some ⟨gj, 0, none⟩) od.length od.length)) (by kernel_rfl) ⟨(BV.below (chain hbel (Below.refl _ _).drew)).four.1, (BV.below (chain hbel (Below.refl _ _).drew)).four.2.1, (BV.below (chain hbel (Below.refl _ _).drew)).four.2.2.1, (BV.below (chain hbel (Below.refl _ _).drew)).four.2.2.2.1, (BB.below (chain hbel (Below.refl _ _).drew)).two.1, (BB.below (chain hbel (Below.refl _ _).drew)).two.2.1, CellIs.below hcj (chain hbq (Below.refl _ _).drew)⟩ (fun hHeld => ?_)
      refine tk 0 31 ?_
      refine tk 1 32 ?_
      refine tk 2 33 ?_
      refine tk 3 34 ?_
      refine tk 4 35 ?_
      refine tk 5 36 ?_
      refine rdk 6 37 fun K hK => ?_
      go_simp
      refine (HLG.out _ (Below.refl _ _).drew).mono ?_
      rintro e w5 ⟨aL, kL, LL, rfl, hLm, hLO, hLA, -, hb5⟩
      have hb5 := from_drew hb5
      (try go_wp2_with fail)
      refine hko hK (Blk.f4 (BV.below (chain hbel hb5)) (Blk.f2 (BB.below (chain hbel hb5)) (CellIs.below hcj (chain hbq hb5)))) fun hHeld => ?_
      clear hK K
      refine tk 7 30 ?_
      refine tk 8 38 ?_
      refine tk 9 39 ?_
      refine tk 10 40 ?_
      refine tk 11 13 ?_
      refine tk 12 14 ?_
      refine tk 13 15 ?_
      refine wpAnyH_done (by kernel_rfl) ?_ _
      clear hHeld
      have hO5 := hO.below hb5
      have hPA5 := (hPA.below hb5).mono (Nat.le_refl _) hb5.size
      have hbq5 := chain hbq hb5
      have hNE5 := fun gl (e : aL = some ⟨gl, 0, none⟩) => hO.ne (g := gl) (by rcases hLO with ⟨e2, _⟩ | ⟨g2, e2, l2, _, _⟩; (rw [e2] at e; exact absurd e (by simp)); (rw [e] at e2; injection e2 with e2; injection e2 with e2; have l3 : wr.heap.size ≤ g2 := l2; omega)) (by have := hbq.size; omega)
      have hszq := hbq.size
      replace hLO := hLO.mono (show w2.heap.size ≤ wr.heap.size by omega) (Nat.le_refl _)
      replace hLA := hLA.mono (show w2.heap.size ≤ wr.heap.size by omega) (Nat.le_refl _)
      have HLM := Lib.hid hLm
      have hLL : LP.length = LL.length := by rw [← hLm, List.length_map]
      have hll4 : LL.length ≤ 390625 := by omega
      have HLL := Lib.hid hLL
      clear hLL hLm
      clear hO hPA
      obtain ⟨aD, kD, rfl⟩ := hO5.form
      cases OK with
      | false =>
        by_cases eN : NN = U
        · have f0 : ((NN : Int) == (U : Int)) = true := by rw [beq_iff_eq]; omega
          have f0b : ((NN : Int) != (U : Int)) = false := by rw [bne_eq_false_iff_eq]; omega
          by_cases eU : U = 1
          · have f1 : ((U : Int) == 1) = true := by rw [beq_iff_eq]; omega
            by_cases ei : i = 1
            · have f2 : ((i : Int) == 1) = true := by rw [beq_iff_eq]; omega
              by_cases eD : 0 < D.length
              · have f3 : (0 : Int) < (D.length : Int) := by omega
                have f4 : decide ((0 : Int) < (D.length : Int)) = true := decide_eq_true f3
                have f5 : decide (0 < D.length) = true := decide_eq_true eD
                have HSK := Lib.hid (show U = 1 ∧ i = 1 ∧ 0 < (allTo P h xs ys U OS i).length from ⟨eU, ei, by rw [← hDm, List.length_map]; exact eD⟩)
                clear eN eU ei eD
                go_wp2
                go_roundg (OS.length - (i + 1))
                case measure => omega
                case rel => exact ⟨i + 1, D, by omega, rfl, by go_num, by rw [HOKS.out]; rfl, hO5, hPA5, by rw [HSTEP.out, allStep, HNN0.out, if_pos (by first | exact .inl HNE.out | exact .inr HSK.out)]; exact hDm, hbq5⟩
              · have f3 : ¬ ((0 : Int) < (D.length : Int)) := by omega
                have f4 : decide ((0 : Int) < (D.length : Int)) = false := decide_eq_false f3
                have f5 : decide (0 < D.length) = false := decide_eq_false eD
                have HGO := Lib.hid (show ¬ (NN ≠ U ∨ (U = 1 ∧ i = 1 ∧ 0 < (allTo P h xs ys U OS i).length)) from by rw [← hDm, List.length_map]; omega)
                clear eN eU ei eD
                have hgo : allStep P h xs ys U (allTo P h xs ys U OS i) i od = addAll (allTo P h xs ys U OS i) LP := by rw [allStep, HNN0.out, HLP0.out, if_neg HGO.out]
                have HGOE := Lib.hid hgo
                clear hgo
                go_wp2_with fail
                go_loopg [9, 16] LL.length (fun m q9 q16 wr2 => ∃ (k : Nat) (D2 : List PP), k ≤ LL.length ∧ m = LL.length - k ∧ q16 = .int .i64 k ∧ OutP w2.heap.size w1.heap.size wr2 q9 D2 ∧ (∀ gl, aL = some ⟨gl, 0, none⟩ → q9.ownBlock ≠ some gl) ∧ PAll w2.heap.size wr2.heap.size wr2 D2 ∧ D2.map Prod.snd = addAll (allTo P h xs ys U OS i) (LP.take k) ∧ OPl w2.heap.size w5.heap.size wr2 aL LL ∧ PAll w2.heap.size w5.heap.size wr2 LL ∧ w5.heap.size ≤ wr2.heap.size ∧ Below w2.heap.size w2 wr2)
                case atStart => exact ⟨0, D, by omega, by omega, rfl, hO5, hNE5, hPA5, by rw [hDm]; simp [addAll], hLO, hLA, Nat.le_refl _, hbq5⟩
                case round =>
                  clear hO5 hNE5 hPA5 hDm hLO hLA hbq5
                  obtain ⟨k, D2, hk, hm2, rfl, hO, hNE, hPA, hDk, hLO, hLA, hwz, hbq2⟩ := hrel
                  by_cases hlk : k < LL.length
                  · have hlk' : (k : Int) < (LL.length : Int) := by omega
                    have hk0 : (0 : Int) ≤ (k : Int) := by omega
                    obtain ⟨x, hx⟩ : ∃ x, LL[k]? = some x := ⟨_, List.getElem?_eq_getElem hlk⟩
                    have hLk : LP[k]? = some x.2 := by rw [← HLM.out, List.getElem?_map, hx]; rfl
                    have hgx := HFL.out x.2 (List.mem_of_getElem? hLk)
                    have hAx := hLA x (List.mem_of_getElem? hx)
                    obtain ⟨gl, ea, Rw⟩ := hLO.row hlk
                    obtain ⟨u0, u1, u2⟩ := Rw.three k x hx
                    have hD2l : D2.length ≤ 781250 := by
                      have e1 := addAll_length (LP.take k) (allTo P h xs ys U OS i)
                      rw [← hDk, List.length_map, List.length_take] at e1
                      have e2 := HLEN.out i
                      omega
                    have hlen : ∀ x ∈ D2, x.2.2.1.length ≤ 1048576 ∧ x.2.2.2.length ≤ 1048576 := fun x hx => by
                      have g1 := addAll_fine (HFIN.out i) (fun q hq => HFL.out q (List.mem_of_mem_take hq)) x.2 (by rw [← hDk]; exact List.mem_map.2 ⟨x, hx, rfl⟩)
                      obtain ⟨-, -, -, -, -, -, m1, m2, -, -, -, -, -, -⟩ := isB_parts g1
                      omega
                    obtain ⟨-, -, -, -, -, -, m1, m2, -, -, -, -, -, -⟩ := isB_parts hgx
                    have hds : addAll (allTo P h xs ys U OS i) (LP.take (k + 1)) = addP (D2.map Prod.snd) x.2 := by rw [List.take_add_one, hLk, hDk]; exact addAll_snoc _ _ _
                    obtain ⟨⟨sa, sc, b1, k1, b2, k2⟩, st, X, Y⟩ := x
                    dsimp only at u0 u1 u2 hAx m1 m2 hds
                    obtain ⟨aO, kO, rfl⟩ := hO.form
                    have OWr := OW.below hbq2
                    have hfd := l05Find_any w1.heap.size wr.heap.size aO D2.length kO D2 b1 b2 X.length Y.length k1 k2 X Y wr rfl (by omega) (hO.opl OWr (by omega)) (hPA.mono (by omega) (Nat.le_refl _)) hlen rfl rfl (by omega) (by omega) hAx.2.irow1 hAx.2.irow2
                    have hneg := findP_neg (X, Y) (D2.map Prod.snd) 0
                    obtain ⟨FV, hFV⟩ : ∃ z, findP (X, Y) (D2.map Prod.snd) 0 = z := ⟨_, rfl⟩
                    rw [hFV] at hfd hneg
                    have HNEG := Lib.hid hneg
                    have HDS := Lib.hid hds
                    have HDK := Lib.hid hDk
                    have HEA := Lib.hid ea
                    clear hFV hneg hds hDk hgx hLk hlen Rw
                    subst ea
                    go_wp2_with fail
                    refine hfd.mono ?_
                    rintro e w10 ⟨rfl, hb10⟩
                    clear hfd
                    have hwz10 := hb10.size
                    replace hO := hO.below hb10
                    replace hPA := (hPA.below hb10).mono (Nat.le_refl _) hb10.size
                    replace hLO := hLO.below hb10
                    replace hLA := hLA.below hb10
                    replace hAx := hAx.below hb10
                    replace u0 := CellIs.below u0 hb10
                    replace u1 := CellIs.below u1 hb10
                    replace u2 := CellIs.below u2 hb10
                    unfold CellIs at u0 u1 u2
                    replace hbq2 := chain hbq2 hb10
                    have hsz2 := hbq2.size
                    clear hb10
                    by_cases hF0 : FV < 0
                    · have hng := HNEG.out.1 hF0
                      have HNG := Lib.hid hng
                      clear hng
                      rcases hO with ⟨hD0, hv⟩ | hO
                      · obtain rfl : D2 = [] := hD0
                        injection hv with v1 v2 v3
                        subst v1 v3
                        go_wp2_with (at_builtin; go_loud (refine wp_pushP0 rfl (.tmp 75) (.tmp 80) rfl w2.heap.size w1.heap.size rfl (⟨sa, sc, b1, k1, b2, k2⟩, (st, X, Y)) rfl rfl (by omega) ?_; intro v2 w6 hO2 hb6 hn6))
                        have hz6 := hb6.size
                        go_roundg (LL.length - (k + 1))
                        case measure => omega
                        case rel => exact ⟨k + 1, [(⟨sa, sc, b1, k1, b2, k2⟩, (st, X, Y))], by omega, rfl, by go_num, .inr hO2, fun g eg => hn6 g (by have := (hLO.row hlk); obtain ⟨g2, e2, _⟩ := this; rcases hLO with ⟨e, _⟩ | ⟨g3, e3, _, l3, _⟩; (exact absurd e (by simp)); (rw [eg] at e3; injection e3 with e3; injection e3 with e3; omega)), (PAll.nil _ _ _).snoc ((hAx.below hb6).mono (Nat.le_refl _) (by omega)), by rw [HDS.out, addP, if_neg HNG.out]; rfl, hLO.below hb6, hLA.below hb6, by omega, chain hbq2 hb6⟩
                      · go_wp2_with (at_builtin; go_loud (refine wp_pushPW rfl (.tmp 75) (.tmp 80) rfl w2.heap.size _ D2 rfl hO (⟨sa, sc, b1, k1, b2, k2⟩, (st, X, Y)) rfl rfl (by omega) (by omega) ?_; intro v2 w6 hO2 hb6 hk6 hn6))
                        have hz6 := hb6.size
                        go_roundg (LL.length - (k + 1))
                        case measure => omega
                        case rel => exact ⟨k + 1, D2 ++ [(⟨sa, sc, b1, k1, b2, k2⟩, (st, X, Y))], by omega, rfl, by go_num, .inr hO2, fun g eg => hn6 g (by rcases hLO with ⟨e, _⟩ | ⟨g3, e3, _, l3, _⟩; (exact absurd e (by simp)); (rw [eg] at e3; injection e3 with e3; injection e3 with e3; omega)) (hNE g eg), (((hPA.push hO hk6).mono (Nat.le_refl _) hz6).snoc ((hAx.push hO hk6).mono (Nat.le_refl _) (by omega))), by rw [HDS.out, addP, if_neg HNG.out, List.map_append]; rfl, hLO.keep (by omega) hNE hk6, hLA.push hO hk6, by omega, hbq2.trans hb6⟩
                    · have hng : (D2.map Prod.snd).any (fun q => decide (q.2 = (X, Y))) = true := by
                        have := HNEG.out
                        rcases Bool.eq_false_or_eq_true ((D2.map Prod.snd).any (fun q => decide (q.2 = (X, Y)))) with h | h
                        · exact h
                        · rw [h] at this
                          exact absurd (this.2 (by simp)) hF0
                      have HNG := Lib.hid hng
                      clear hng
                      go_wp2
                      go_roundg (LL.length - (k + 1))
                      case measure => omega
                      case rel => exact ⟨k + 1, D2, by omega, rfl, by go_num, hO, hNE, hPA, by rw [HDS.out, addP, if_pos HNG.out], hLO, hLA, by omega, hbq2⟩
                  · obtain rfl : k = LL.length := by omega
                    have hend : D2.map Prod.snd = allTo P h xs ys U OS (i + 1) := by rw [hDk, HSTEP.out, HGOE.out, ← HLL.out, List.take_length]
                    go_wp2
                    go_roundg (OS.length - (i + 1))
                    case measure => omega
                    case rel => exact ⟨i + 1, D2, by omega, rfl, by go_num, by rw [HOKS.out]; rfl, hO, hPA, hend, hbq2⟩
            · have f2 : ((i : Int) == 1) = false := by rw [beq_eq_false_iff_ne]; omega
              have HGO := Lib.hid (show ¬ (NN ≠ U ∨ (U = 1 ∧ i = 1 ∧ 0 < (allTo P h xs ys U OS i).length)) from by omega)
              clear eN eU ei
              have hgo : allStep P h xs ys U (allTo P h xs ys U OS i) i od = addAll (allTo P h xs ys U OS i) LP := by rw [allStep, HNN0.out, HLP0.out, if_neg HGO.out]
              have HGOE := Lib.hid hgo
              clear hgo
              go_wp2_with fail
              go_loopg [9, 16] LL.length (fun m q9 q16 wr2 => ∃ (k : Nat) (D2 : List PP), k ≤ LL.length ∧ m = LL.length - k ∧ q16 = .int .i64 k ∧ OutP w2.heap.size w1.heap.size wr2 q9 D2 ∧ (∀ gl, aL = some ⟨gl, 0, none⟩ → q9.ownBlock ≠ some gl) ∧ PAll w2.heap.size wr2.heap.size wr2 D2 ∧ D2.map Prod.snd = addAll (allTo P h xs ys U OS i) (LP.take k) ∧ OPl w2.heap.size w5.heap.size wr2 aL LL ∧ PAll w2.heap.size w5.heap.size wr2 LL ∧ w5.heap.size ≤ wr2.heap.size ∧ Below w2.heap.size w2 wr2)
              case atStart => exact ⟨0, D, by omega, by omega, rfl, hO5, hNE5, hPA5, by rw [hDm]; simp [addAll], hLO, hLA, Nat.le_refl _, hbq5⟩
              case round =>
                clear hO5 hNE5 hPA5 hDm hLO hLA hbq5
                obtain ⟨k, D2, hk, hm2, rfl, hO, hNE, hPA, hDk, hLO, hLA, hwz, hbq2⟩ := hrel
                by_cases hlk : k < LL.length
                · have hlk' : (k : Int) < (LL.length : Int) := by omega
                  have hk0 : (0 : Int) ≤ (k : Int) := by omega
                  obtain ⟨x, hx⟩ : ∃ x, LL[k]? = some x := ⟨_, List.getElem?_eq_getElem hlk⟩
                  have hLk : LP[k]? = some x.2 := by rw [← HLM.out, List.getElem?_map, hx]; rfl
                  have hgx := HFL.out x.2 (List.mem_of_getElem? hLk)
                  have hAx := hLA x (List.mem_of_getElem? hx)
                  obtain ⟨gl, ea, Rw⟩ := hLO.row hlk
                  obtain ⟨u0, u1, u2⟩ := Rw.three k x hx
                  have hD2l : D2.length ≤ 781250 := by
                    have e1 := addAll_length (LP.take k) (allTo P h xs ys U OS i)
                    rw [← hDk, List.length_map, List.length_take] at e1
                    have e2 := HLEN.out i
                    omega
                  have hlen : ∀ x ∈ D2, x.2.2.1.length ≤ 1048576 ∧ x.2.2.2.length ≤ 1048576 := fun x hx => by
                    have g1 := addAll_fine (HFIN.out i) (fun q hq => HFL.out q (List.mem_of_mem_take hq)) x.2 (by rw [← hDk]; exact List.mem_map.2 ⟨x, hx, rfl⟩)
                    obtain ⟨-, -, -, -, -, -, m1, m2, -, -, -, -, -, -⟩ := isB_parts g1
                    omega
                  obtain ⟨-, -, -, -, -, -, m1, m2, -, -, -, -, -, -⟩ := isB_parts hgx
                  have hds : addAll (allTo P h xs ys U OS i) (LP.take (k + 1)) = addP (D2.map Prod.snd) x.2 := by rw [List.take_add_one, hLk, hDk]; exact addAll_snoc _ _ _
                  obtain ⟨⟨sa, sc, b1, k1, b2, k2⟩, st, X, Y⟩ := x
                  dsimp only at u0 u1 u2 hAx m1 m2 hds
                  obtain ⟨aO, kO, rfl⟩ := hO.form
                  have OWr := OW.below hbq2
                  have hfd := l05Find_any w1.heap.size wr.heap.size aO D2.length kO D2 b1 b2 X.length Y.length k1 k2 X Y wr rfl (by omega) (hO.opl OWr (by omega)) (hPA.mono (by omega) (Nat.le_refl _)) hlen rfl rfl (by omega) (by omega) hAx.2.irow1 hAx.2.irow2
                  have hneg := findP_neg (X, Y) (D2.map Prod.snd) 0
                  obtain ⟨FV, hFV⟩ : ∃ z, findP (X, Y) (D2.map Prod.snd) 0 = z := ⟨_, rfl⟩
                  rw [hFV] at hfd hneg
                  have HNEG := Lib.hid hneg
                  have HDS := Lib.hid hds
                  have HDK := Lib.hid hDk
                  have HEA := Lib.hid ea
                  clear hFV hneg hds hDk hgx hLk hlen Rw
                  subst ea
                  go_wp2_with fail
                  refine hfd.mono ?_
                  rintro e w10 ⟨rfl, hb10⟩
                  clear hfd
                  have hwz10 := hb10.size
                  replace hO := hO.below hb10
                  replace hPA := (hPA.below hb10).mono (Nat.le_refl _) hb10.size
                  replace hLO := hLO.below hb10
                  replace hLA := hLA.below hb10
                  replace hAx := hAx.below hb10
                  replace u0 := CellIs.below u0 hb10
                  replace u1 := CellIs.below u1 hb10
                  replace u2 := CellIs.below u2 hb10
                  unfold CellIs at u0 u1 u2
                  replace hbq2 := chain hbq2 hb10
                  have hsz2 := hbq2.size
                  clear hb10
                  by_cases hF0 : FV < 0
                  · have hng := HNEG.out.1 hF0
                    have HNG := Lib.hid hng
                    clear hng
                    rcases hO with ⟨hD0, hv⟩ | hO
                    · obtain rfl : D2 = [] := hD0
                      injection hv with v1 v2 v3
                      subst v1 v3
                      go_wp2_with (at_builtin; go_loud (refine wp_pushP0 rfl (.tmp 75) (.tmp 80) rfl w2.heap.size w1.heap.size rfl (⟨sa, sc, b1, k1, b2, k2⟩, (st, X, Y)) rfl rfl (by omega) ?_; intro v2 w6 hO2 hb6 hn6))
                      have hz6 := hb6.size
                      go_roundg (LL.length - (k + 1))
                      case measure => omega
                      case rel => exact ⟨k + 1, [(⟨sa, sc, b1, k1, b2, k2⟩, (st, X, Y))], by omega, rfl, by go_num, .inr hO2, fun g eg => hn6 g (by have := (hLO.row hlk); obtain ⟨g2, e2, _⟩ := this; rcases hLO with ⟨e, _⟩ | ⟨g3, e3, _, l3, _⟩; (exact absurd e (by simp)); (rw [eg] at e3; injection e3 with e3; injection e3 with e3; omega)), (PAll.nil _ _ _).snoc ((hAx.below hb6).mono (Nat.le_refl _) (by omega)), by rw [HDS.out, addP, if_neg HNG.out]; rfl, hLO.below hb6, hLA.below hb6, by omega, chain hbq2 hb6⟩
                    · go_wp2_with (at_builtin; go_loud (refine wp_pushPW rfl (.tmp 75) (.tmp 80) rfl w2.heap.size _ D2 rfl hO (⟨sa, sc, b1, k1, b2, k2⟩, (st, X, Y)) rfl rfl (by omega) (by omega) ?_; intro v2 w6 hO2 hb6 hk6 hn6))
                      have hz6 := hb6.size
                      go_roundg (LL.length - (k + 1))
                      case measure => omega
                      case rel => exact ⟨k + 1, D2 ++ [(⟨sa, sc, b1, k1, b2, k2⟩, (st, X, Y))], by omega, rfl, by go_num, .inr hO2, fun g eg => hn6 g (by rcases hLO with ⟨e, _⟩ | ⟨g3, e3, _, l3, _⟩; (exact absurd e (by simp)); (rw [eg] at e3; injection e3 with e3; injection e3 with e3; omega)) (hNE g eg), (((hPA.push hO hk6).mono (Nat.le_refl _) hz6).snoc ((hAx.push hO hk6).mono (Nat.le_refl _) (by omega))), by rw [HDS.out, addP, if_neg HNG.out, List.map_append]; rfl, hLO.keep (by omega) hNE hk6, hLA.push hO hk6, by omega, hbq2.trans hb6⟩
                  · have hng : (D2.map Prod.snd).any (fun q => decide (q.2 = (X, Y))) = true := by
                      have := HNEG.out
                      rcases Bool.eq_false_or_eq_true ((D2.map Prod.snd).any (fun q => decide (q.2 = (X, Y)))) with h | h
                      · exact h
                      · rw [h] at this
                        exact absurd (this.2 (by simp)) hF0
                    have HNG := Lib.hid hng
                    clear hng
                    go_wp2
                    go_roundg (LL.length - (k + 1))
                    case measure => omega
                    case rel => exact ⟨k + 1, D2, by omega, rfl, by go_num, hO, hNE, hPA, by rw [HDS.out, addP, if_pos HNG.out], hLO, hLA, by omega, hbq2⟩
                · obtain rfl : k = LL.length := by omega
                  have hend : D2.map Prod.snd = allTo P h xs ys U OS (i + 1) := by rw [hDk, HSTEP.out, HGOE.out, ← HLL.out, List.take_length]
                  go_wp2
                  go_roundg (OS.length - (i + 1))
                  case measure => omega
                  case rel => exact ⟨i + 1, D2, by omega, rfl, by go_num, by rw [HOKS.out]; rfl, hO, hPA, hend, hbq2⟩
          · have f1 : ((U : Int) == 1) = false := by rw [beq_eq_false_iff_ne]; omega
            have HGO := Lib.hid (show ¬ (NN ≠ U ∨ (U = 1 ∧ i = 1 ∧ 0 < (allTo P h xs ys U OS i).length)) from by omega)
            clear eN eU
            have hgo : allStep P h xs ys U (allTo P h xs ys U OS i) i od = addAll (allTo P h xs ys U OS i) LP := by rw [allStep, HNN0.out, HLP0.out, if_neg HGO.out]
            have HGOE := Lib.hid hgo
            clear hgo
            go_wp2_with fail
            go_loopg [9, 16] LL.length (fun m q9 q16 wr2 => ∃ (k : Nat) (D2 : List PP), k ≤ LL.length ∧ m = LL.length - k ∧ q16 = .int .i64 k ∧ OutP w2.heap.size w1.heap.size wr2 q9 D2 ∧ (∀ gl, aL = some ⟨gl, 0, none⟩ → q9.ownBlock ≠ some gl) ∧ PAll w2.heap.size wr2.heap.size wr2 D2 ∧ D2.map Prod.snd = addAll (allTo P h xs ys U OS i) (LP.take k) ∧ OPl w2.heap.size w5.heap.size wr2 aL LL ∧ PAll w2.heap.size w5.heap.size wr2 LL ∧ w5.heap.size ≤ wr2.heap.size ∧ Below w2.heap.size w2 wr2)
            case atStart => exact ⟨0, D, by omega, by omega, rfl, hO5, hNE5, hPA5, by rw [hDm]; simp [addAll], hLO, hLA, Nat.le_refl _, hbq5⟩
            case round =>
              clear hO5 hNE5 hPA5 hDm hLO hLA hbq5
              obtain ⟨k, D2, hk, hm2, rfl, hO, hNE, hPA, hDk, hLO, hLA, hwz, hbq2⟩ := hrel
              by_cases hlk : k < LL.length
              · have hlk' : (k : Int) < (LL.length : Int) := by omega
                have hk0 : (0 : Int) ≤ (k : Int) := by omega
                obtain ⟨x, hx⟩ : ∃ x, LL[k]? = some x := ⟨_, List.getElem?_eq_getElem hlk⟩
                have hLk : LP[k]? = some x.2 := by rw [← HLM.out, List.getElem?_map, hx]; rfl
                have hgx := HFL.out x.2 (List.mem_of_getElem? hLk)
                have hAx := hLA x (List.mem_of_getElem? hx)
                obtain ⟨gl, ea, Rw⟩ := hLO.row hlk
                obtain ⟨u0, u1, u2⟩ := Rw.three k x hx
                have hD2l : D2.length ≤ 781250 := by
                  have e1 := addAll_length (LP.take k) (allTo P h xs ys U OS i)
                  rw [← hDk, List.length_map, List.length_take] at e1
                  have e2 := HLEN.out i
                  omega
                have hlen : ∀ x ∈ D2, x.2.2.1.length ≤ 1048576 ∧ x.2.2.2.length ≤ 1048576 := fun x hx => by
                  have g1 := addAll_fine (HFIN.out i) (fun q hq => HFL.out q (List.mem_of_mem_take hq)) x.2 (by rw [← hDk]; exact List.mem_map.2 ⟨x, hx, rfl⟩)
                  obtain ⟨-, -, -, -, -, -, m1, m2, -, -, -, -, -, -⟩ := isB_parts g1
                  omega
                obtain ⟨-, -, -, -, -, -, m1, m2, -, -, -, -, -, -⟩ := isB_parts hgx
                have hds : addAll (allTo P h xs ys U OS i) (LP.take (k + 1)) = addP (D2.map Prod.snd) x.2 := by rw [List.take_add_one, hLk, hDk]; exact addAll_snoc _ _ _
                obtain ⟨⟨sa, sc, b1, k1, b2, k2⟩, st, X, Y⟩ := x
                dsimp only at u0 u1 u2 hAx m1 m2 hds
                obtain ⟨aO, kO, rfl⟩ := hO.form
                have OWr := OW.below hbq2
                have hfd := l05Find_any w1.heap.size wr.heap.size aO D2.length kO D2 b1 b2 X.length Y.length k1 k2 X Y wr rfl (by omega) (hO.opl OWr (by omega)) (hPA.mono (by omega) (Nat.le_refl _)) hlen rfl rfl (by omega) (by omega) hAx.2.irow1 hAx.2.irow2
                have hneg := findP_neg (X, Y) (D2.map Prod.snd) 0
                obtain ⟨FV, hFV⟩ : ∃ z, findP (X, Y) (D2.map Prod.snd) 0 = z := ⟨_, rfl⟩
                rw [hFV] at hfd hneg
                have HNEG := Lib.hid hneg
                have HDS := Lib.hid hds
                have HDK := Lib.hid hDk
                have HEA := Lib.hid ea
                clear hFV hneg hds hDk hgx hLk hlen Rw
                subst ea
                go_wp2_with fail
                refine hfd.mono ?_
                rintro e w10 ⟨rfl, hb10⟩
                clear hfd
                have hwz10 := hb10.size
                replace hO := hO.below hb10
                replace hPA := (hPA.below hb10).mono (Nat.le_refl _) hb10.size
                replace hLO := hLO.below hb10
                replace hLA := hLA.below hb10
                replace hAx := hAx.below hb10
                replace u0 := CellIs.below u0 hb10
                replace u1 := CellIs.below u1 hb10
                replace u2 := CellIs.below u2 hb10
                unfold CellIs at u0 u1 u2
                replace hbq2 := chain hbq2 hb10
                have hsz2 := hbq2.size
                clear hb10
                by_cases hF0 : FV < 0
                · have hng := HNEG.out.1 hF0
                  have HNG := Lib.hid hng
                  clear hng
                  rcases hO with ⟨hD0, hv⟩ | hO
                  · obtain rfl : D2 = [] := hD0
                    injection hv with v1 v2 v3
                    subst v1 v3
                    go_wp2_with (at_builtin; go_loud (refine wp_pushP0 rfl (.tmp 75) (.tmp 80) rfl w2.heap.size w1.heap.size rfl (⟨sa, sc, b1, k1, b2, k2⟩, (st, X, Y)) rfl rfl (by omega) ?_; intro v2 w6 hO2 hb6 hn6))
                    have hz6 := hb6.size
                    go_roundg (LL.length - (k + 1))
                    case measure => omega
                    case rel => exact ⟨k + 1, [(⟨sa, sc, b1, k1, b2, k2⟩, (st, X, Y))], by omega, rfl, by go_num, .inr hO2, fun g eg => hn6 g (by have := (hLO.row hlk); obtain ⟨g2, e2, _⟩ := this; rcases hLO with ⟨e, _⟩ | ⟨g3, e3, _, l3, _⟩; (exact absurd e (by simp)); (rw [eg] at e3; injection e3 with e3; injection e3 with e3; omega)), (PAll.nil _ _ _).snoc ((hAx.below hb6).mono (Nat.le_refl _) (by omega)), by rw [HDS.out, addP, if_neg HNG.out]; rfl, hLO.below hb6, hLA.below hb6, by omega, chain hbq2 hb6⟩
                  · go_wp2_with (at_builtin; go_loud (refine wp_pushPW rfl (.tmp 75) (.tmp 80) rfl w2.heap.size _ D2 rfl hO (⟨sa, sc, b1, k1, b2, k2⟩, (st, X, Y)) rfl rfl (by omega) (by omega) ?_; intro v2 w6 hO2 hb6 hk6 hn6))
                    have hz6 := hb6.size
                    go_roundg (LL.length - (k + 1))
                    case measure => omega
                    case rel => exact ⟨k + 1, D2 ++ [(⟨sa, sc, b1, k1, b2, k2⟩, (st, X, Y))], by omega, rfl, by go_num, .inr hO2, fun g eg => hn6 g (by rcases hLO with ⟨e, _⟩ | ⟨g3, e3, _, l3, _⟩; (exact absurd e (by simp)); (rw [eg] at e3; injection e3 with e3; injection e3 with e3; omega)) (hNE g eg), (((hPA.push hO hk6).mono (Nat.le_refl _) hz6).snoc ((hAx.push hO hk6).mono (Nat.le_refl _) (by omega))), by rw [HDS.out, addP, if_neg HNG.out, List.map_append]; rfl, hLO.keep (by omega) hNE hk6, hLA.push hO hk6, by omega, hbq2.trans hb6⟩
                · have hng : (D2.map Prod.snd).any (fun q => decide (q.2 = (X, Y))) = true := by
                    have := HNEG.out
                    rcases Bool.eq_false_or_eq_true ((D2.map Prod.snd).any (fun q => decide (q.2 = (X, Y)))) with h | h
                    · exact h
                    · rw [h] at this
                      exact absurd (this.2 (by simp)) hF0
                  have HNG := Lib.hid hng
                  clear hng
                  go_wp2
                  go_roundg (LL.length - (k + 1))
                  case measure => omega
                  case rel => exact ⟨k + 1, D2, by omega, rfl, by go_num, hO, hNE, hPA, by rw [HDS.out, addP, if_pos HNG.out], hLO, hLA, by omega, hbq2⟩
              · obtain rfl : k = LL.length := by omega
                have hend : D2.map Prod.snd = allTo P h xs ys U OS (i + 1) := by rw [hDk, HSTEP.out, HGOE.out, ← HLL.out, List.take_length]
                go_wp2
                go_roundg (OS.length - (i + 1))
                case measure => omega
                case rel => exact ⟨i + 1, D2, by omega, rfl, by go_num, by rw [HOKS.out]; rfl, hO, hPA, hend, hbq2⟩
        · have f0 : ((NN : Int) == (U : Int)) = false := by rw [beq_eq_false_iff_ne]; omega
          have f0b : ((NN : Int) != (U : Int)) = true := by rw [bne_iff_ne]; omega
          have HNE := Lib.hid eN
          clear eN
          go_wp2
          go_roundg (OS.length - (i + 1))
          case measure => omega
          case rel => exact ⟨i + 1, D, by omega, rfl, by go_num, by rw [HOKS.out]; rfl, hO5, hPA5, by rw [HSTEP.out, allStep, HNN0.out, if_pos (by first | exact .inl HNE.out | exact .inr HSK.out)]; exact hDm, hbq5⟩
      | true =>
        by_cases eN : NN = U
        · have f0 : ((NN : Int) == (U : Int)) = true := by rw [beq_iff_eq]; omega
          have f0b : ((NN : Int) != (U : Int)) = false := by rw [bne_eq_false_iff_eq]; omega
          by_cases eU : U = 1
          · have f1 : ((U : Int) == 1) = true := by rw [beq_iff_eq]; omega
            by_cases ei : i = 1
            · have f2 : ((i : Int) == 1) = true := by rw [beq_iff_eq]; omega
              by_cases eD : 0 < D.length
              · have f3 : (0 : Int) < (D.length : Int) := by omega
                have f4 : decide ((0 : Int) < (D.length : Int)) = true := decide_eq_true f3
                have f5 : decide (0 < D.length) = true := decide_eq_true eD
                have HSK := Lib.hid (show U = 1 ∧ i = 1 ∧ 0 < (allTo P h xs ys U OS i).length from ⟨eU, ei, by rw [← hDm, List.length_map]; exact eD⟩)
                clear eN eU ei eD
                go_wp2
                go_roundg (OS.length - (i + 1))
                case measure => omega
                case rel => exact ⟨i + 1, D, by omega, rfl, by go_num, by rw [HOKS.out]; rfl, hO5, hPA5, by rw [HSTEP.out, allStep, HNN0.out, if_pos (by first | exact .inl HNE.out | exact .inr HSK.out)]; exact hDm, hbq5⟩
              · have f3 : ¬ ((0 : Int) < (D.length : Int)) := by omega
                have f4 : decide ((0 : Int) < (D.length : Int)) = false := decide_eq_false f3
                have f5 : decide (0 < D.length) = false := decide_eq_false eD
                have HGO := Lib.hid (show ¬ (NN ≠ U ∨ (U = 1 ∧ i = 1 ∧ 0 < (allTo P h xs ys U OS i).length)) from by rw [← hDm, List.length_map]; omega)
                clear eN eU ei eD
                have hgo : allStep P h xs ys U (allTo P h xs ys U OS i) i od = addAll (allTo P h xs ys U OS i) LP := by rw [allStep, HNN0.out, HLP0.out, if_neg HGO.out]
                have HGOE := Lib.hid hgo
                clear hgo
                go_wp2_with fail
                go_loopg [9, 16] LL.length (fun m q9 q16 wr2 => ∃ (k : Nat) (D2 : List PP), k ≤ LL.length ∧ m = LL.length - k ∧ q16 = .int .i64 k ∧ OutP w2.heap.size w1.heap.size wr2 q9 D2 ∧ (∀ gl, aL = some ⟨gl, 0, none⟩ → q9.ownBlock ≠ some gl) ∧ PAll w2.heap.size wr2.heap.size wr2 D2 ∧ D2.map Prod.snd = addAll (allTo P h xs ys U OS i) (LP.take k) ∧ OPl w2.heap.size w5.heap.size wr2 aL LL ∧ PAll w2.heap.size w5.heap.size wr2 LL ∧ w5.heap.size ≤ wr2.heap.size ∧ Below w2.heap.size w2 wr2)
                case atStart => exact ⟨0, D, by omega, by omega, rfl, hO5, hNE5, hPA5, by rw [hDm]; simp [addAll], hLO, hLA, Nat.le_refl _, hbq5⟩
                case round =>
                  clear hO5 hNE5 hPA5 hDm hLO hLA hbq5
                  obtain ⟨k, D2, hk, hm2, rfl, hO, hNE, hPA, hDk, hLO, hLA, hwz, hbq2⟩ := hrel
                  by_cases hlk : k < LL.length
                  · have hlk' : (k : Int) < (LL.length : Int) := by omega
                    have hk0 : (0 : Int) ≤ (k : Int) := by omega
                    obtain ⟨x, hx⟩ : ∃ x, LL[k]? = some x := ⟨_, List.getElem?_eq_getElem hlk⟩
                    have hLk : LP[k]? = some x.2 := by rw [← HLM.out, List.getElem?_map, hx]; rfl
                    have hgx := HFL.out x.2 (List.mem_of_getElem? hLk)
                    have hAx := hLA x (List.mem_of_getElem? hx)
                    obtain ⟨gl, ea, Rw⟩ := hLO.row hlk
                    obtain ⟨u0, u1, u2⟩ := Rw.three k x hx
                    have hD2l : D2.length ≤ 781250 := by
                      have e1 := addAll_length (LP.take k) (allTo P h xs ys U OS i)
                      rw [← hDk, List.length_map, List.length_take] at e1
                      have e2 := HLEN.out i
                      omega
                    have hlen : ∀ x ∈ D2, x.2.2.1.length ≤ 1048576 ∧ x.2.2.2.length ≤ 1048576 := fun x hx => by
                      have g1 := addAll_fine (HFIN.out i) (fun q hq => HFL.out q (List.mem_of_mem_take hq)) x.2 (by rw [← hDk]; exact List.mem_map.2 ⟨x, hx, rfl⟩)
                      obtain ⟨-, -, -, -, -, -, m1, m2, -, -, -, -, -, -⟩ := isB_parts g1
                      omega
                    obtain ⟨-, -, -, -, -, -, m1, m2, -, -, -, -, -, -⟩ := isB_parts hgx
                    have hds : addAll (allTo P h xs ys U OS i) (LP.take (k + 1)) = addP (D2.map Prod.snd) x.2 := by rw [List.take_add_one, hLk, hDk]; exact addAll_snoc _ _ _
                    obtain ⟨⟨sa, sc, b1, k1, b2, k2⟩, st, X, Y⟩ := x
                    dsimp only at u0 u1 u2 hAx m1 m2 hds
                    obtain ⟨aO, kO, rfl⟩ := hO.form
                    have OWr := OW.below hbq2
                    have hfd := l05Find_any w1.heap.size wr.heap.size aO D2.length kO D2 b1 b2 X.length Y.length k1 k2 X Y wr rfl (by omega) (hO.opl OWr (by omega)) (hPA.mono (by omega) (Nat.le_refl _)) hlen rfl rfl (by omega) (by omega) hAx.2.irow1 hAx.2.irow2
                    have hneg := findP_neg (X, Y) (D2.map Prod.snd) 0
                    obtain ⟨FV, hFV⟩ : ∃ z, findP (X, Y) (D2.map Prod.snd) 0 = z := ⟨_, rfl⟩
                    rw [hFV] at hfd hneg
                    have HNEG := Lib.hid hneg
                    have HDS := Lib.hid hds
                    have HDK := Lib.hid hDk
                    have HEA := Lib.hid ea
                    clear hFV hneg hds hDk hgx hLk hlen Rw
                    subst ea
                    go_wp2_with fail
                    refine hfd.mono ?_
                    rintro e w10 ⟨rfl, hb10⟩
                    clear hfd
                    have hwz10 := hb10.size
                    replace hO := hO.below hb10
                    replace hPA := (hPA.below hb10).mono (Nat.le_refl _) hb10.size
                    replace hLO := hLO.below hb10
                    replace hLA := hLA.below hb10
                    replace hAx := hAx.below hb10
                    replace u0 := CellIs.below u0 hb10
                    replace u1 := CellIs.below u1 hb10
                    replace u2 := CellIs.below u2 hb10
                    unfold CellIs at u0 u1 u2
                    replace hbq2 := chain hbq2 hb10
                    have hsz2 := hbq2.size
                    clear hb10
                    by_cases hF0 : FV < 0
                    · have hng := HNEG.out.1 hF0
                      have HNG := Lib.hid hng
                      clear hng
                      rcases hO with ⟨hD0, hv⟩ | hO
                      · obtain rfl : D2 = [] := hD0
                        injection hv with v1 v2 v3
                        subst v1 v3
                        go_wp2_with (at_builtin; go_loud (refine wp_pushP0 rfl (.tmp 75) (.tmp 80) rfl w2.heap.size w1.heap.size rfl (⟨sa, sc, b1, k1, b2, k2⟩, (st, X, Y)) rfl rfl (by omega) ?_; intro v2 w6 hO2 hb6 hn6))
                        have hz6 := hb6.size
                        go_roundg (LL.length - (k + 1))
                        case measure => omega
                        case rel => exact ⟨k + 1, [(⟨sa, sc, b1, k1, b2, k2⟩, (st, X, Y))], by omega, rfl, by go_num, .inr hO2, fun g eg => hn6 g (by have := (hLO.row hlk); obtain ⟨g2, e2, _⟩ := this; rcases hLO with ⟨e, _⟩ | ⟨g3, e3, _, l3, _⟩; (exact absurd e (by simp)); (rw [eg] at e3; injection e3 with e3; injection e3 with e3; omega)), (PAll.nil _ _ _).snoc ((hAx.below hb6).mono (Nat.le_refl _) (by omega)), by rw [HDS.out, addP, if_neg HNG.out]; rfl, hLO.below hb6, hLA.below hb6, by omega, chain hbq2 hb6⟩
                      · go_wp2_with (at_builtin; go_loud (refine wp_pushPW rfl (.tmp 75) (.tmp 80) rfl w2.heap.size _ D2 rfl hO (⟨sa, sc, b1, k1, b2, k2⟩, (st, X, Y)) rfl rfl (by omega) (by omega) ?_; intro v2 w6 hO2 hb6 hk6 hn6))
                        have hz6 := hb6.size
                        go_roundg (LL.length - (k + 1))
                        case measure => omega
                        case rel => exact ⟨k + 1, D2 ++ [(⟨sa, sc, b1, k1, b2, k2⟩, (st, X, Y))], by omega, rfl, by go_num, .inr hO2, fun g eg => hn6 g (by rcases hLO with ⟨e, _⟩ | ⟨g3, e3, _, l3, _⟩; (exact absurd e (by simp)); (rw [eg] at e3; injection e3 with e3; injection e3 with e3; omega)) (hNE g eg), (((hPA.push hO hk6).mono (Nat.le_refl _) hz6).snoc ((hAx.push hO hk6).mono (Nat.le_refl _) (by omega))), by rw [HDS.out, addP, if_neg HNG.out, List.map_append]; rfl, hLO.keep (by omega) hNE hk6, hLA.push hO hk6, by omega, hbq2.trans hb6⟩
                    · have hng : (D2.map Prod.snd).any (fun q => decide (q.2 = (X, Y))) = true := by
                        have := HNEG.out
                        rcases Bool.eq_false_or_eq_true ((D2.map Prod.snd).any (fun q => decide (q.2 = (X, Y)))) with h | h
                        · exact h
                        · rw [h] at this
                          exact absurd (this.2 (by simp)) hF0
                      have HNG := Lib.hid hng
                      clear hng
                      go_wp2
                      go_roundg (LL.length - (k + 1))
                      case measure => omega
                      case rel => exact ⟨k + 1, D2, by omega, rfl, by go_num, hO, hNE, hPA, by rw [HDS.out, addP, if_pos HNG.out], hLO, hLA, by omega, hbq2⟩
                  · obtain rfl : k = LL.length := by omega
                    have hend : D2.map Prod.snd = allTo P h xs ys U OS (i + 1) := by rw [hDk, HSTEP.out, HGOE.out, ← HLL.out, List.take_length]
                    go_wp2
                    go_roundg (OS.length - (i + 1))
                    case measure => omega
                    case rel => exact ⟨i + 1, D2, by omega, rfl, by go_num, by rw [HOKS.out]; rfl, hO, hPA, hend, hbq2⟩
            · have f2 : ((i : Int) == 1) = false := by rw [beq_eq_false_iff_ne]; omega
              have HGO := Lib.hid (show ¬ (NN ≠ U ∨ (U = 1 ∧ i = 1 ∧ 0 < (allTo P h xs ys U OS i).length)) from by omega)
              clear eN eU ei
              have hgo : allStep P h xs ys U (allTo P h xs ys U OS i) i od = addAll (allTo P h xs ys U OS i) LP := by rw [allStep, HNN0.out, HLP0.out, if_neg HGO.out]
              have HGOE := Lib.hid hgo
              clear hgo
              go_wp2_with fail
              go_loopg [9, 16] LL.length (fun m q9 q16 wr2 => ∃ (k : Nat) (D2 : List PP), k ≤ LL.length ∧ m = LL.length - k ∧ q16 = .int .i64 k ∧ OutP w2.heap.size w1.heap.size wr2 q9 D2 ∧ (∀ gl, aL = some ⟨gl, 0, none⟩ → q9.ownBlock ≠ some gl) ∧ PAll w2.heap.size wr2.heap.size wr2 D2 ∧ D2.map Prod.snd = addAll (allTo P h xs ys U OS i) (LP.take k) ∧ OPl w2.heap.size w5.heap.size wr2 aL LL ∧ PAll w2.heap.size w5.heap.size wr2 LL ∧ w5.heap.size ≤ wr2.heap.size ∧ Below w2.heap.size w2 wr2)
              case atStart => exact ⟨0, D, by omega, by omega, rfl, hO5, hNE5, hPA5, by rw [hDm]; simp [addAll], hLO, hLA, Nat.le_refl _, hbq5⟩
              case round =>
                clear hO5 hNE5 hPA5 hDm hLO hLA hbq5
                obtain ⟨k, D2, hk, hm2, rfl, hO, hNE, hPA, hDk, hLO, hLA, hwz, hbq2⟩ := hrel
                by_cases hlk : k < LL.length
                · have hlk' : (k : Int) < (LL.length : Int) := by omega
                  have hk0 : (0 : Int) ≤ (k : Int) := by omega
                  obtain ⟨x, hx⟩ : ∃ x, LL[k]? = some x := ⟨_, List.getElem?_eq_getElem hlk⟩
                  have hLk : LP[k]? = some x.2 := by rw [← HLM.out, List.getElem?_map, hx]; rfl
                  have hgx := HFL.out x.2 (List.mem_of_getElem? hLk)
                  have hAx := hLA x (List.mem_of_getElem? hx)
                  obtain ⟨gl, ea, Rw⟩ := hLO.row hlk
                  obtain ⟨u0, u1, u2⟩ := Rw.three k x hx
                  have hD2l : D2.length ≤ 781250 := by
                    have e1 := addAll_length (LP.take k) (allTo P h xs ys U OS i)
                    rw [← hDk, List.length_map, List.length_take] at e1
                    have e2 := HLEN.out i
                    omega
                  have hlen : ∀ x ∈ D2, x.2.2.1.length ≤ 1048576 ∧ x.2.2.2.length ≤ 1048576 := fun x hx => by
                    have g1 := addAll_fine (HFIN.out i) (fun q hq => HFL.out q (List.mem_of_mem_take hq)) x.2 (by rw [← hDk]; exact List.mem_map.2 ⟨x, hx, rfl⟩)
                    obtain ⟨-, -, -, -, -, -, m1, m2, -, -, -, -, -, -⟩ := isB_parts g1
                    omega
                  obtain ⟨-, -, -, -, -, -, m1, m2, -, -, -, -, -, -⟩ := isB_parts hgx
                  have hds : addAll (allTo P h xs ys U OS i) (LP.take (k + 1)) = addP (D2.map Prod.snd) x.2 := by rw [List.take_add_one, hLk, hDk]; exact addAll_snoc _ _ _
                  obtain ⟨⟨sa, sc, b1, k1, b2, k2⟩, st, X, Y⟩ := x
                  dsimp only at u0 u1 u2 hAx m1 m2 hds
                  obtain ⟨aO, kO, rfl⟩ := hO.form
                  have OWr := OW.below hbq2
                  have hfd := l05Find_any w1.heap.size wr.heap.size aO D2.length kO D2 b1 b2 X.length Y.length k1 k2 X Y wr rfl (by omega) (hO.opl OWr (by omega)) (hPA.mono (by omega) (Nat.le_refl _)) hlen rfl rfl (by omega) (by omega) hAx.2.irow1 hAx.2.irow2
                  have hneg := findP_neg (X, Y) (D2.map Prod.snd) 0
                  obtain ⟨FV, hFV⟩ : ∃ z, findP (X, Y) (D2.map Prod.snd) 0 = z := ⟨_, rfl⟩
                  rw [hFV] at hfd hneg
                  have HNEG := Lib.hid hneg
                  have HDS := Lib.hid hds
                  have HDK := Lib.hid hDk
                  have HEA := Lib.hid ea
                  clear hFV hneg hds hDk hgx hLk hlen Rw
                  subst ea
                  go_wp2_with fail
                  refine hfd.mono ?_
                  rintro e w10 ⟨rfl, hb10⟩
                  clear hfd
                  have hwz10 := hb10.size
                  replace hO := hO.below hb10
                  replace hPA := (hPA.below hb10).mono (Nat.le_refl _) hb10.size
                  replace hLO := hLO.below hb10
                  replace hLA := hLA.below hb10
                  replace hAx := hAx.below hb10
                  replace u0 := CellIs.below u0 hb10
                  replace u1 := CellIs.below u1 hb10
                  replace u2 := CellIs.below u2 hb10
                  unfold CellIs at u0 u1 u2
                  replace hbq2 := chain hbq2 hb10
                  have hsz2 := hbq2.size
                  clear hb10
                  by_cases hF0 : FV < 0
                  · have hng := HNEG.out.1 hF0
                    have HNG := Lib.hid hng
                    clear hng
                    rcases hO with ⟨hD0, hv⟩ | hO
                    · obtain rfl : D2 = [] := hD0
                      injection hv with v1 v2 v3
                      subst v1 v3
                      go_wp2_with (at_builtin; go_loud (refine wp_pushP0 rfl (.tmp 75) (.tmp 80) rfl w2.heap.size w1.heap.size rfl (⟨sa, sc, b1, k1, b2, k2⟩, (st, X, Y)) rfl rfl (by omega) ?_; intro v2 w6 hO2 hb6 hn6))
                      have hz6 := hb6.size
                      go_roundg (LL.length - (k + 1))
                      case measure => omega
                      case rel => exact ⟨k + 1, [(⟨sa, sc, b1, k1, b2, k2⟩, (st, X, Y))], by omega, rfl, by go_num, .inr hO2, fun g eg => hn6 g (by have := (hLO.row hlk); obtain ⟨g2, e2, _⟩ := this; rcases hLO with ⟨e, _⟩ | ⟨g3, e3, _, l3, _⟩; (exact absurd e (by simp)); (rw [eg] at e3; injection e3 with e3; injection e3 with e3; omega)), (PAll.nil _ _ _).snoc ((hAx.below hb6).mono (Nat.le_refl _) (by omega)), by rw [HDS.out, addP, if_neg HNG.out]; rfl, hLO.below hb6, hLA.below hb6, by omega, chain hbq2 hb6⟩
                    · go_wp2_with (at_builtin; go_loud (refine wp_pushPW rfl (.tmp 75) (.tmp 80) rfl w2.heap.size _ D2 rfl hO (⟨sa, sc, b1, k1, b2, k2⟩, (st, X, Y)) rfl rfl (by omega) (by omega) ?_; intro v2 w6 hO2 hb6 hk6 hn6))
                      have hz6 := hb6.size
                      go_roundg (LL.length - (k + 1))
                      case measure => omega
                      case rel => exact ⟨k + 1, D2 ++ [(⟨sa, sc, b1, k1, b2, k2⟩, (st, X, Y))], by omega, rfl, by go_num, .inr hO2, fun g eg => hn6 g (by rcases hLO with ⟨e, _⟩ | ⟨g3, e3, _, l3, _⟩; (exact absurd e (by simp)); (rw [eg] at e3; injection e3 with e3; injection e3 with e3; omega)) (hNE g eg), (((hPA.push hO hk6).mono (Nat.le_refl _) hz6).snoc ((hAx.push hO hk6).mono (Nat.le_refl _) (by omega))), by rw [HDS.out, addP, if_neg HNG.out, List.map_append]; rfl, hLO.keep (by omega) hNE hk6, hLA.push hO hk6, by omega, hbq2.trans hb6⟩
                  · have hng : (D2.map Prod.snd).any (fun q => decide (q.2 = (X, Y))) = true := by
                      have := HNEG.out
                      rcases Bool.eq_false_or_eq_true ((D2.map Prod.snd).any (fun q => decide (q.2 = (X, Y)))) with h | h
                      · exact h
                      · rw [h] at this
                        exact absurd (this.2 (by simp)) hF0
                    have HNG := Lib.hid hng
                    clear hng
                    go_wp2
                    go_roundg (LL.length - (k + 1))
                    case measure => omega
                    case rel => exact ⟨k + 1, D2, by omega, rfl, by go_num, hO, hNE, hPA, by rw [HDS.out, addP, if_pos HNG.out], hLO, hLA, by omega, hbq2⟩
                · obtain rfl : k = LL.length := by omega
                  have hend : D2.map Prod.snd = allTo P h xs ys U OS (i + 1) := by rw [hDk, HSTEP.out, HGOE.out, ← HLL.out, List.take_length]
                  go_wp2
                  go_roundg (OS.length - (i + 1))
                  case measure => omega
                  case rel => exact ⟨i + 1, D2, by omega, rfl, by go_num, by rw [HOKS.out]; rfl, hO, hPA, hend, hbq2⟩
          · have f1 : ((U : Int) == 1) = false := by rw [beq_eq_false_iff_ne]; omega
            have HGO := Lib.hid (show ¬ (NN ≠ U ∨ (U = 1 ∧ i = 1 ∧ 0 < (allTo P h xs ys U OS i).length)) from by omega)
            clear eN eU
            have hgo : allStep P h xs ys U (allTo P h xs ys U OS i) i od = addAll (allTo P h xs ys U OS i) LP := by rw [allStep, HNN0.out, HLP0.out, if_neg HGO.out]
            have HGOE := Lib.hid hgo
            clear hgo
            go_wp2_with fail
            go_loopg [9, 16] LL.length (fun m q9 q16 wr2 => ∃ (k : Nat) (D2 : List PP), k ≤ LL.length ∧ m = LL.length - k ∧ q16 = .int .i64 k ∧ OutP w2.heap.size w1.heap.size wr2 q9 D2 ∧ (∀ gl, aL = some ⟨gl, 0, none⟩ → q9.ownBlock ≠ some gl) ∧ PAll w2.heap.size wr2.heap.size wr2 D2 ∧ D2.map Prod.snd = addAll (allTo P h xs ys U OS i) (LP.take k) ∧ OPl w2.heap.size w5.heap.size wr2 aL LL ∧ PAll w2.heap.size w5.heap.size wr2 LL ∧ w5.heap.size ≤ wr2.heap.size ∧ Below w2.heap.size w2 wr2)
            case atStart => exact ⟨0, D, by omega, by omega, rfl, hO5, hNE5, hPA5, by rw [hDm]; simp [addAll], hLO, hLA, Nat.le_refl _, hbq5⟩
            case round =>
              clear hO5 hNE5 hPA5 hDm hLO hLA hbq5
              obtain ⟨k, D2, hk, hm2, rfl, hO, hNE, hPA, hDk, hLO, hLA, hwz, hbq2⟩ := hrel
              by_cases hlk : k < LL.length
              · have hlk' : (k : Int) < (LL.length : Int) := by omega
                have hk0 : (0 : Int) ≤ (k : Int) := by omega
                obtain ⟨x, hx⟩ : ∃ x, LL[k]? = some x := ⟨_, List.getElem?_eq_getElem hlk⟩
                have hLk : LP[k]? = some x.2 := by rw [← HLM.out, List.getElem?_map, hx]; rfl
                have hgx := HFL.out x.2 (List.mem_of_getElem? hLk)
                have hAx := hLA x (List.mem_of_getElem? hx)
                obtain ⟨gl, ea, Rw⟩ := hLO.row hlk
                obtain ⟨u0, u1, u2⟩ := Rw.three k x hx
                have hD2l : D2.length ≤ 781250 := by
                  have e1 := addAll_length (LP.take k) (allTo P h xs ys U OS i)
                  rw [← hDk, List.length_map, List.length_take] at e1
                  have e2 := HLEN.out i
                  omega
                have hlen : ∀ x ∈ D2, x.2.2.1.length ≤ 1048576 ∧ x.2.2.2.length ≤ 1048576 := fun x hx => by
                  have g1 := addAll_fine (HFIN.out i) (fun q hq => HFL.out q (List.mem_of_mem_take hq)) x.2 (by rw [← hDk]; exact List.mem_map.2 ⟨x, hx, rfl⟩)
                  obtain ⟨-, -, -, -, -, -, m1, m2, -, -, -, -, -, -⟩ := isB_parts g1
                  omega
                obtain ⟨-, -, -, -, -, -, m1, m2, -, -, -, -, -, -⟩ := isB_parts hgx
                have hds : addAll (allTo P h xs ys U OS i) (LP.take (k + 1)) = addP (D2.map Prod.snd) x.2 := by rw [List.take_add_one, hLk, hDk]; exact addAll_snoc _ _ _
                obtain ⟨⟨sa, sc, b1, k1, b2, k2⟩, st, X, Y⟩ := x
                dsimp only at u0 u1 u2 hAx m1 m2 hds
                obtain ⟨aO, kO, rfl⟩ := hO.form
                have OWr := OW.below hbq2
                have hfd := l05Find_any w1.heap.size wr.heap.size aO D2.length kO D2 b1 b2 X.length Y.length k1 k2 X Y wr rfl (by omega) (hO.opl OWr (by omega)) (hPA.mono (by omega) (Nat.le_refl _)) hlen rfl rfl (by omega) (by omega) hAx.2.irow1 hAx.2.irow2
                have hneg := findP_neg (X, Y) (D2.map Prod.snd) 0
                obtain ⟨FV, hFV⟩ : ∃ z, findP (X, Y) (D2.map Prod.snd) 0 = z := ⟨_, rfl⟩
                rw [hFV] at hfd hneg
                have HNEG := Lib.hid hneg
                have HDS := Lib.hid hds
                have HDK := Lib.hid hDk
                have HEA := Lib.hid ea
                clear hFV hneg hds hDk hgx hLk hlen Rw
                subst ea
                go_wp2_with fail
                refine hfd.mono ?_
                rintro e w10 ⟨rfl, hb10⟩
                clear hfd
                have hwz10 := hb10.size
                replace hO := hO.below hb10
                replace hPA := (hPA.below hb10).mono (Nat.le_refl _) hb10.size
                replace hLO := hLO.below hb10
                replace hLA := hLA.below hb10
                replace hAx := hAx.below hb10
                replace u0 := CellIs.below u0 hb10
                replace u1 := CellIs.below u1 hb10
                replace u2 := CellIs.below u2 hb10
                unfold CellIs at u0 u1 u2
                replace hbq2 := chain hbq2 hb10
                have hsz2 := hbq2.size
                clear hb10
                by_cases hF0 : FV < 0
                · have hng := HNEG.out.1 hF0
                  have HNG := Lib.hid hng
                  clear hng
                  rcases hO with ⟨hD0, hv⟩ | hO
                  · obtain rfl : D2 = [] := hD0
                    injection hv with v1 v2 v3
                    subst v1 v3
                    go_wp2_with (at_builtin; go_loud (refine wp_pushP0 rfl (.tmp 75) (.tmp 80) rfl w2.heap.size w1.heap.size rfl (⟨sa, sc, b1, k1, b2, k2⟩, (st, X, Y)) rfl rfl (by omega) ?_; intro v2 w6 hO2 hb6 hn6))
                    have hz6 := hb6.size
                    go_roundg (LL.length - (k + 1))
                    case measure => omega
                    case rel => exact ⟨k + 1, [(⟨sa, sc, b1, k1, b2, k2⟩, (st, X, Y))], by omega, rfl, by go_num, .inr hO2, fun g eg => hn6 g (by have := (hLO.row hlk); obtain ⟨g2, e2, _⟩ := this; rcases hLO with ⟨e, _⟩ | ⟨g3, e3, _, l3, _⟩; (exact absurd e (by simp)); (rw [eg] at e3; injection e3 with e3; injection e3 with e3; omega)), (PAll.nil _ _ _).snoc ((hAx.below hb6).mono (Nat.le_refl _) (by omega)), by rw [HDS.out, addP, if_neg HNG.out]; rfl, hLO.below hb6, hLA.below hb6, by omega, chain hbq2 hb6⟩
                  · go_wp2_with (at_builtin; go_loud (refine wp_pushPW rfl (.tmp 75) (.tmp 80) rfl w2.heap.size _ D2 rfl hO (⟨sa, sc, b1, k1, b2, k2⟩, (st, X, Y)) rfl rfl (by omega) (by omega) ?_; intro v2 w6 hO2 hb6 hk6 hn6))
                    have hz6 := hb6.size
                    go_roundg (LL.length - (k + 1))
                    case measure => omega
                    case rel => exact ⟨k + 1, D2 ++ [(⟨sa, sc, b1, k1, b2, k2⟩, (st, X, Y))], by omega, rfl, by go_num, .inr hO2, fun g eg => hn6 g (by rcases hLO with ⟨e, _⟩ | ⟨g3, e3, _, l3, _⟩; (exact absurd e (by simp)); (rw [eg] at e3; injection e3 with e3; injection e3 with e3; omega)) (hNE g eg), (((hPA.push hO hk6).mono (Nat.le_refl _) hz6).snoc ((hAx.push hO hk6).mono (Nat.le_refl _) (by omega))), by rw [HDS.out, addP, if_neg HNG.out, List.map_append]; rfl, hLO.keep (by omega) hNE hk6, hLA.push hO hk6, by omega, hbq2.trans hb6⟩
                · have hng : (D2.map Prod.snd).any (fun q => decide (q.2 = (X, Y))) = true := by
                    have := HNEG.out
                    rcases Bool.eq_false_or_eq_true ((D2.map Prod.snd).any (fun q => decide (q.2 = (X, Y)))) with h | h
                    · exact h
                    · rw [h] at this
                      exact absurd (this.2 (by simp)) hF0
                  have HNG := Lib.hid hng
                  clear hng
                  go_wp2
                  go_roundg (LL.length - (k + 1))
                  case measure => omega
                  case rel => exact ⟨k + 1, D2, by omega, rfl, by go_num, hO, hNE, hPA, by rw [HDS.out, addP, if_pos HNG.out], hLO, hLA, by omega, hbq2⟩
              · obtain rfl : k = LL.length := by omega
                have hend : D2.map Prod.snd = allTo P h xs ys U OS (i + 1) := by rw [hDk, HSTEP.out, HGOE.out, ← HLL.out, List.take_length]
                go_wp2
                go_roundg (OS.length - (i + 1))
                case measure => omega
                case rel => exact ⟨i + 1, D2, by omega, rfl, by go_num, by rw [HOKS.out]; rfl, hO, hPA, hend, hbq2⟩
        · have f0 : ((NN : Int) == (U : Int)) = false := by rw [beq_eq_false_iff_ne]; omega
          have f0b : ((NN : Int) != (U : Int)) = true := by rw [bne_iff_ne]; omega
          have HNE := Lib.hid eN
          clear eN
          go_wp2
          go_roundg (OS.length - (i + 1))
          case measure => omega
          case rel => exact ⟨i + 1, D, by omega, rfl, by go_num, by rw [HOKS.out]; rfl, hO5, hPA5, by rw [HSTEP.out, allStep, HNN0.out, if_pos (by first | exact .inl HNE.out | exact .inr HSK.out)]; exact hDm, hbq5⟩
    · obtain rfl : i = OS.length := by omega
      obtain ⟨aO, kO, rfl⟩ := hO.form
      rw [HALL.out] at hDm
      rw [HAOK.out]
      have hbw := chain hb hbel
      have hOE := hO.opl (OW.below hbq) (by omega)
      have hwz := hbq.size
      go_wp2
      go_ret2
      exact ⟨aO, kO, D, rfl, hDm, hOE.mono (by omega) (Nat.le_refl _), hPA.mono (by omega) (Nat.le_refl _), hbw⟩
end Go.Proofs.YtciljbnailobgaaGreat
