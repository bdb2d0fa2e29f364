/- Contract of the model on the board behind a play's steps. -/
import Derived.Test.YtodlofabffenoaaV23
import Derived.Test.YtodlofabffenoaaV24
import Derived.Test.YtodlofabffenoaaV20
import Derived.Test.YtodlofabffenoaaV21
import Derived.Test.YtodlofabffenoaaV09
import Derived.Deep.CutRange
namespace Go.Proofs.Ytodlofabffenoaa
open Go.ChangeShapes Go.WideShapes Go.ChangeAt Go.RowKit
set_option linter.unusedVariables false
set_option linter.unusedSimpArgs false
set_option maxRecDepth 4000
def mOrd (P : Nat) (h : Int) (xs ys : List Int) (ra rb : Int) : List (List Int) := if usedP P h xs ys ra rb = 1 ∧ (ordersP ra rb).length = 2 ∧ 0 < (legL P h xs ys ra).length then (ordersP ra rb).take 1 else ordersP ra rb
theorem longN_pos {P : Nat} {h d : Int} {o xs ys : List Int} : 0 < longN P h (d :: o) (startP xs ys) ↔ 0 < (legL P h xs ys d).length := by
  rw [longN]
  constructor
  · intro q
    split at q
    · omega
    · rename_i hn
      refine List.length_pos_iff.2 (fun e => hn ?_)
      unfold nextP startP
      simp [cand, e, addAll]
  · intro q
    rw [if_neg]
    · omega
    · intro e
      obtain ⟨t, ht⟩ := List.exists_mem_of_length_pos q
      have h4 : oneMore P ([], xs, ys) t ∈ (startP xs ys).flatMap (cand P h d) := List.mem_flatMap.2 ⟨([], xs, ys), by simp [startP], List.mem_map.2 ⟨t, ht, rfl⟩⟩
      obtain ⟨q', hq', -⟩ := addAll_has ((startP xs ys).flatMap (cand P h d)) [] h4
      have : q' ∈ nextP P h d (startP xs ys) := hq'
      rw [e] at this
      simp at this
theorem used_le_len (P : Nat) (h : Int) (xs ys : List Int) (ra rb : Int) : ∀ o ∈ ordersP ra rb, usedP P h xs ys ra rb ≤ o.length := by
  intro o ho
  unfold usedP
  have l1 := longN_le P h [ra, ra, ra, ra] (startP xs ys)
  have l2 := longN_le P h [ra, rb] (startP xs ys)
  have l3 := longN_le P h [rb, ra] (startP xs ys)
  simp only [List.length_cons, List.length_nil] at l1 l2 l3
  unfold ordersP at ho ⊢
  split at ho
  · rename_i e
    simp only [List.mem_cons, List.not_mem_nil, or_false] at ho
    subst ho
    rw [if_pos e]
    simp only [List.map_cons, List.map_nil, List.foldl_cons, List.foldl_nil, List.length_cons, List.length_nil]
    omega
  · rename_i e
    simp only [List.mem_cons, List.not_mem_nil, or_false] at ho
    rw [if_neg e]
    simp only [List.map_cons, List.map_nil, List.foldl_cons, List.foldl_nil]
    rcases ho with rfl | rfl <;> (simp only [List.length_cons, List.length_nil]; omega)
theorem firstF_m (P : Nat) (h s : Int) (xs ys : List Int) (ra rb : Int) (ts : List Stp) (hU : ts.length = usedP P h xs ys ra rb) : firstF P h s xs ys ts (legalO P h xs ys (usedP P h xs ys ra rb) (ordersP ra rb)) = firstF P h s xs ys ts (mOrd P h xs ys ra rb) := by
  have hl := longN_used P h xs ys ra rb
  have hf := firstF_filter P h s xs ys ts _ hU (ordersP ra rb) hl
  unfold legalO mOrd
  by_cases u1 : usedP P h xs ys ra rb = 1
  · rw [if_pos u1]
    by_cases hc : (ordersP ra rb).length = 2 ∧ 0 < (legL P h xs ys ra).length
    · rw [if_pos ⟨u1, hc⟩]
      obtain ⟨h2, h3⟩ := hc
      have hO : ordersP ra rb = [[ra, rb], [rb, ra]] := by
        unfold ordersP at h2 ⊢
        split at h2
        · simp at h2
        · rename_i e
          rw [if_neg e]
      have h4 : longN P h [ra, rb] (startP xs ys) = 1 := by
        have q1 := (longN_pos (P := P) (h := h) (d := ra) (o := [rb]) (xs := xs) (ys := ys)).2 h3
        have q2 := hl [ra, rb] (by rw [hO]; simp)
        omega
      rw [u1, hO, List.filter_cons_of_pos (by rw [h4]; rfl)]
      rfl
    · rw [if_neg (fun q => hc q.2), ← hf]
      congr 1
      apply List.take_of_length_le
      by_cases e : ra = rb
      · have hO : (ordersP ra rb).length = 1 := by unfold ordersP; rw [if_pos e]; rfl
        exact Nat.le_trans (List.length_filter_le _ _) (by omega)
      · have hO : ordersP ra rb = [[ra, rb], [rb, ra]] := by unfold ordersP; rw [if_neg e]
        have h3 : ¬ 0 < (legL P h xs ys ra).length := fun q => hc ⟨by rw [hO]; rfl, q⟩
        have h4 : ¬ 0 < longN P h [ra, rb] (startP xs ys) := fun q => h3 (longN_pos.1 q)
        rw [u1, hO, List.filter_cons_of_neg (by simp; omega)]
        exact Nat.le_trans (List.length_filter_le _ _) (by simp)
  · rw [if_neg u1, if_neg (fun q => u1 q.1)]
    exact hf
def ORw (w : World) (g : Nat) (os : List (List Int)) : Prop := ∀ j o, os[j]? = some o → ∃ gj, CellIs w g j (.slice (some ⟨gj, 0, none⟩) o.length o.length) ∧ Row w gj o
theorem ORw.below {w w' : World} {g : Nat} {os : List (List Int)} (h : ORw w g os) (hb : Below w.heap.size w w') : ORw w' g os := fun j o hj => by
  obtain ⟨gj, h1, h2⟩ := h j o hj
  exact ⟨gj, CellIs.below h1 hb, h2.below hb⟩
theorem ORw.take {w : World} {g : Nat} {os : List (List Int)} (h : ORw w g os) (n : Nat) : ORw w g (os.take n) := fun j o hj => by
  rw [List.getElem?_take] at hj
  split at hj
  · exact h j o hj
  · cases hj
def PmGot (r : Option (List Int × List Int)) (k : Int) (w : World) (e : Ending) (w' : World) : Prop := match r with
  | some b => ∃ g1 g2 k1 k2, e = .returned (.tuple #[.agg #[.slice (some ⟨g1, 0, none⟩) b.1.length k1, .slice (some ⟨g2, 0, none⟩) b.2.length k2], .int .i64 0]) ∧ w.heap.size ≤ g1 ∧ w.heap.size ≤ g2 ∧ g1 ≠ g2 ∧ Row w' g1 b.1 ∧ Row w' g2 b.2 ∧ Below w.heap.size w w'
  | none => e = .returned (.tuple #[.agg #[.slice none 0 0, .slice none 0 0], .int .i64 k]) ∧ Below w.heap.size w w'
set_option maxRecDepth 100000 in
set_option maxHeartbeats 3000000 in
theorem specPlaySteps_any (p c h s : Int) (a1 a2 : Option Addr) (n1 n2 c1 c2 : Nat) (xs ys : List Int) (ra rb : Int) (at_ : Option Addr) (nt ct : Nat) (ts : List Stp) (w : World) (h1 : xs.length = n1) (h2 : ys.length = n2) (l1 : n1 ≤ 1048576) (l2 : n2 ≤ 1048576) (r1 : IRow w a1 xs) (r2 : IRow w a2 ys) (hts : ts.length = nt) (hle : nt ≤ 1048576) (rt : 0 < nt → ∃ gt, at_ = some ⟨gt, 0, none⟩ ∧ SRow w gt ts) :
    Calls Try.prog 6 #[.agg #[.int .i64 p, .int .i64 c, .int .i64 h, .int .i64 s], .agg #[.slice a1 n1 c1, .slice a2 n2 c2], .agg #[.int .i64 ra, .int .i64 rb], .slice at_ nt ct] w (PmGot (psR p c h s xs ys ra rb ts) (psK p c h s xs ys ra rb) w) := by
  subst h1 h2
  have hrc := fun W (q1 : IRow W a1 xs) (q2 : IRow W a2 ys) => l05Code_any ra rb p c h s a1 a2 _ _ c1 c2 xs ys W rfl rfl l1 l2 q1 q2
  have HRT := Lib.hid rt
  have HTS := Lib.hid hts
  obtain ⟨BV, BB, BR, BO, hb⟩ := four_newB w #[.int .i64 p, .int .i64 c, .int .i64 h, .int .i64 s] #[.slice a1 xs.length c1, .slice a2 ys.length c2] #[.int .i64 ra, .int .i64 rb] #[.slice none 0 0, .slice none 0 0] 35 32 38 32
  replace r1 := r1.below hb
  replace r2 := r2.below hb
  clear rt hts
  obtain ⟨x0, x1, x2, x3, xf, xl⟩ := BV.four; obtain ⟨y0, y1, yf, yl⟩ := BB.two; obtain ⟨u0, u1, uf, ul⟩ := BR.two; obtain ⟨z0, z1, zf, zl⟩ := BO.two
  by_cases k0 : codeB p c h s xs ys ra rb = 0
  · have e1 : psR p c h s xs ys ra rb ts = psO p.toNat h s xs ys ra rb ts := by unfold psR; rw [if_pos k0]
    have e2 : psK p c h s xs ys ra rb = 5 := by unfold psK; rw [if_pos k0]
    rw [e1, e2]
    rw [k0] at hrc
    have g : isB p c h s xs ys = true := by
      by_cases g : isB p c h s xs ys = true
      · exact g
      · unfold codeB at k0; rw [if_neg g] at k0; cases k0
    have gr : rlB s ra rb = true := by
      unfold codeB at k0
      rw [if_pos g] at k0
      by_cases gr : rlB s ra rb = true
      · exact gr
      · rw [if_neg gr] at k0; cases k0
    obtain ⟨P, rfl⟩ := Int.eq_ofNat_of_zero_le (by have := (isB_parts g).1; omega : 0 ≤ p)
    rw [show ((P : Nat) : Int).toNat = P from rfl]
    obtain ⟨ga, gbb⟩ := rlB_two gr
    have hus := fun W (q1 : IRow W a1 xs) (q2 : IRow W a2 ys) => l05Used_any P c h s ra rb a1 a2 _ _ c1 c2 xs ys W rfl rfl q1 q2 g ga gbb
    obtain ⟨R, hR⟩ : ∃ R, psO P h s xs ys ra rb ts = R := ⟨_, rfl⟩
    rw [hR]
    have HRC := Lib.hid hrc
    by_cases hnu : nt = usedP P h xs ys ra rb
    · have hRR : R = firstF P h s xs ys ts (mOrd P h xs ys ra rb) := by
        rw [← hR, psO, if_pos (by rw [HTS.out]; exact hnu), firstF_m P h s xs ys ra rb ts (by rw [HTS.out]; exact hnu)]
      have hor := fun W => l05Orders_any ra rb W
      have ga2 : 1 ≤ ra ∧ ra ≤ 1000 := by
        have q1 := inB_iff.1 ga
        have q2 := (isB_sides g).2
        omega
      have hll : ∀ W, IRow W a1 xs → IRow W a2 ys → Calls Try.prog 21 #[.agg #[.int .i64 (P : Int), .int .i64 c, .int .i64 h, .int .i64 s], .agg #[.slice a1 xs.length c1, .slice a2 ys.length c2], .int .i64 ra] W (StepsGot (legL P h xs ys ra) W) := fun W q1 q2 => by
        obtain ⟨p0, p1, k0, k1, k2, k3, N1, N2, hx, hy, s0, s1, s2, s3⟩ := isB_parts g
        exact l04Legal_any P c h s a1 a2 _ _ c1 c2 xs ys W rfl rfl (by omega) (by omega) (by omega) (by omega) (by omega) (by omega) hx hy q1 q2 ra (by omega) (by omega)
      have hmem : ∀ o ∈ mOrd P h xs ys ra rb, o ∈ ordersP ra rb := fun o ho => by
        unfold mOrd at ho
        split at ho
        · exact List.mem_of_mem_take ho
        · exact ho
      have hln : ∀ o ∈ mOrd P h xs ys ra rb, nt ≤ o.length ∧ o.length ≤ 4 := fun o ho => by
        have q1 := used_le_len P h xs ys ra rb o (hmem o ho)
        obtain ⟨j, hj⟩ := List.getElem?_of_mem (hmem o ho)
        exact ⟨by omega, (ordersP_mem ga gbb hj).1⟩
      have hmo : mOrd P h xs ys ra rb = if usedP P h xs ys ra rb = 1 ∧ (ordersP ra rb).length = 2 ∧ 0 < (legL P h xs ys ra).length then (ordersP ra rb).take 1 else ordersP ra rb := rfl
      have hO2 := ordersP_length ra rb
      obtain ⟨OM, hOM⟩ : ∃ z, mOrd P h xs ys ra rb = z := ⟨_, rfl⟩
      rw [hOM] at hRR hln hmo
      obtain ⟨OS, hOS⟩ : ∃ z, ordersP ra rb = z := ⟨_, rfl⟩
      rw [hOS] at hor hmo hO2
      obtain ⟨U, hU⟩ : ∃ z, usedP P h xs ys ra rb = z := ⟨_, rfl⟩
      rw [hU] at hmo hus hnu
      obtain ⟨LG, hLG⟩ : ∃ z, legL P h xs ys ra = z := ⟨_, rfl⟩
      rw [hLG] at hmo hll
      subst hnu
      have hU4 : nt ≤ 4 := by
        rw [← hU, ← usedTo_all]
        exact usedTo_le P h xs ys ra rb _
      have HRR := Lib.hid hRR
      have HLN := Lib.hid hln
      have HMO := Lib.hid hmo
      have HUS := Lib.hid hus
      have HOR := Lib.hid hor
      have HLL := Lib.hid hll
      have HG := Lib.hid g
      clear hRR hln hmo hus hor hll g hR hrc e1 e2 k0 gr ga gbb hmem hOM hOS hU hLG
      go_enter Try.func6, Try.ntmps6
      go_upto_region 8 with (first | (go_at_call 18; refine (HRC.out _ r1 r2).mono ?_; rintro e w1 ⟨rfl, hb1⟩; replace BV := BV.below hb1; replace BB := BB.below hb1; replace BR := BR.below hb1; replace BO := BO.below hb1; replace r1 := r1.below hb1; replace r2 := r2.below hb1; replace hb := chain hb hb1; clear x0 x1 x2 x3 xf xl y0 y1 yf yl u0 u1 uf ul z0 z1 zf zl; obtain ⟨x0, x1, x2, x3, xf, xl⟩ := BV.four; obtain ⟨y0, y1, yf, yl⟩ := BB.two; obtain ⟨u0, u1, uf, ul⟩ := BR.two; obtain ⟨z0, z1, zf, zl⟩ := BO.two) | (go_at_call 19; refine (HUS.out _ r1 r2).mono ?_; rintro e w2 ⟨rfl, hb2⟩; replace BV := BV.below hb2; replace BB := BB.below hb2; replace BR := BR.below hb2; replace BO := BO.below hb2; replace r1 := r1.below hb2; replace r2 := r2.below hb2; replace hb := chain hb hb2; clear x0 x1 x2 x3 xf xl y0 y1 yf yl u0 u1 uf ul z0 z1 zf zl; obtain ⟨x0, x1, x2, x3, xf, xl⟩ := BV.four; obtain ⟨y0, y1, yf, yl⟩ := BB.two; obtain ⟨u0, u1, uf, ul⟩ := BR.two; obtain ⟨z0, z1, zf, zl⟩ := BO.two) | (go_at_call 20; refine (HOR.out _).mono ?_; rintro e w3 ⟨gO, rfl, hcells, hb3⟩; replace BV := BV.below hb3; replace BB := BB.below hb3; replace BR := BR.below hb3; replace BO := BO.below hb3; replace r1 := r1.below hb3; replace r2 := r2.below hb3; replace hb := chain hb hb3; clear x0 x1 x2 x3 xf xl y0 y1 yf yl u0 u1 uf ul z0 z1 zf zl; obtain ⟨x0, x1, x2, x3, xf, xl⟩ := BV.four; obtain ⟨y0, y1, yf, yl⟩ := BB.two; obtain ⟨u0, u1, uf, ul⟩ := BR.two; obtain ⟨z0, z1, zf, zl⟩ := BO.two))
      have RO : ORw w3 gO OS := hcells
      clear hcells
      obtain ⟨BQ, hBQ⟩ : ∃ z, decide (nt = 1 ∧ OS.length = 2 ∧ 0 < LG.length) = z := ⟨_, rfl⟩
      have HBQ := Lib.hid hBQ
      clear hBQ
      go_cut [50] from 35 to 49 (fun q50 wc_ => q50 = .bool BQ ∧ ORw wc_ gO OS ∧ Blk wc_ w.heap.size #[.int .i64 (P : Int), .int .i64 c, .int .i64 h, .int .i64 s] 35 ∧ Blk wc_ (w.heap.size + 1) #[.slice a1 xs.length c1, .slice a2 ys.length c2] 32 ∧ Blk wc_ (w.heap.size + 1 + 1 + 1) #[.slice none 0 0, .slice none 0 0] 32 ∧ IRow wc_ a1 xs ∧ IRow wc_ a2 ys ∧ Below w.heap.size w wc_)
      case first =>
        by_cases b1 : nt = 1
        · have v1 : ((nt : Int) == 1) = true := by rw [b1]; rfl
          have B1 := Lib.hid b1
          clear b1
          by_cases b2 : OS.length = 2
          · have v2 : ((OS.length : Int) == 2) = true := by rw [b2]; rfl
            have B2 := Lib.hid b2
            clear b2
            by_cases b3 : 0 < LG.length
            · have v3 : decide ((0 : Int) < (LG.length : Int)) = true := by rw [decide_eq_true_eq]; omega
              go_wp2_with (go_at_call 21; refine (HLL.out _ r1 r2).mono ?_; rintro e w4 ⟨aL, kL, rfl, -, hb4⟩; replace BV := BV.below hb4; replace BB := BB.below hb4; replace BR := BR.below hb4; replace BO := BO.below hb4; replace r1 := r1.below hb4; replace r2 := r2.below hb4; replace RO := RO.below hb4; replace hb := chain hb hb4; clear x0 x1 x2 x3 xf xl y0 y1 yf yl u0 u1 uf ul z0 z1 zf zl; obtain ⟨x0, x1, x2, x3, xf, xl⟩ := BV.four; obtain ⟨y0, y1, yf, yl⟩ := BB.two; obtain ⟨u0, u1, uf, ul⟩ := BR.two; obtain ⟨z0, z1, zf, zl⟩ := BO.two)
              go_meet
              case rel => exact ⟨by rw [← HBQ.out]; simp [B1.out, B2.out, b3], RO, BV, BB, BO, r1, r2, hb⟩
            · have v3 : decide ((0 : Int) < (LG.length : Int)) = false := by rw [decide_eq_false_iff_not]; omega
              go_wp2_with (go_at_call 21; refine (HLL.out _ r1 r2).mono ?_; rintro e w4 ⟨aL, kL, rfl, -, hb4⟩; replace BV := BV.below hb4; replace BB := BB.below hb4; replace BR := BR.below hb4; replace BO := BO.below hb4; replace r1 := r1.below hb4; replace r2 := r2.below hb4; replace RO := RO.below hb4; replace hb := chain hb hb4; clear x0 x1 x2 x3 xf xl y0 y1 yf yl u0 u1 uf ul z0 z1 zf zl; obtain ⟨x0, x1, x2, x3, xf, xl⟩ := BV.four; obtain ⟨y0, y1, yf, yl⟩ := BB.two; obtain ⟨u0, u1, uf, ul⟩ := BR.two; obtain ⟨z0, z1, zf, zl⟩ := BO.two)
              go_meet
              case rel => exact ⟨by rw [← HBQ.out]; simp [b3], RO, BV, BB, BO, r1, r2, hb⟩
          · have v2 : ((OS.length : Int) == 2) = false := by rw [beq_eq_false_iff_ne]; omega
            go_wp2_with fail
            go_meet
            case rel => exact ⟨by rw [← HBQ.out]; simp [b2], RO, BV, BB, BO, r1, r2, hb⟩
        · have v1 : ((nt : Int) == 1) = false := by rw [beq_eq_false_iff_ne]; omega
          go_wp2_with fail
          go_meet
          case rel => exact ⟨by rw [← HBQ.out]; simp [b1], RO, BV, BB, BO, r1, r2, hb⟩
      clear x0 x1 x2 x3 xf xl y0 y1 yf yl u0 u1 uf ul z0 z1 zf zl
      clear RO BV BB BR BO r1 r2 hb
      obtain ⟨rfl, RO, BV, BB, BO, r1, r2, hb⟩ := hcut
      go_upto_if 50 with (fail)
      go_cut [12] from 51 to 52 (fun q12 wc_ => ∃ kO, q12 = .slice (some ⟨gO, 0, none⟩) OM.length kO ∧ ORw wc_ gO OM ∧ Blk wc_ w.heap.size #[.int .i64 (P : Int), .int .i64 c, .int .i64 h, .int .i64 s] 35 ∧ Blk wc_ (w.heap.size + 1) #[.slice a1 xs.length c1, .slice a2 ys.length c2] 32 ∧ Blk wc_ (w.heap.size + 1 + 1 + 1) #[.slice none 0 0, .slice none 0 0] 32 ∧ IRow wc_ a1 xs ∧ IRow wc_ a2 ys ∧ Below w.heap.size w wc_)
      case first =>
        cases BQ with
        | true =>
          have hb3 := of_decide_eq_true HBQ.out
          have hom : OM = OS.take 1 := by rw [HMO.out, if_pos hb3]
          have hol : OM.length = 1 := by rw [hom, List.length_take, hb3.2.1]; rfl
          have hs1 : 1 ≤ OS.length := by rw [hb3.2.1]; omega
          have hs1i : (1 : Int) ≤ (OS.length : Int) := by omega
          have HOL := Lib.hid hol
          have HOM := Lib.hid hom
          clear hom hol hb3
          go_wp2_with fail
          go_meet
          case rel => exact ⟨_, by rw [HOL.out], by rw [HOM.out]; exact RO.take 1, BV, BB, BO, r1, r2, hb⟩
        | false =>
          have hb3 := of_decide_eq_false HBQ.out
          have hom : OM = OS := by rw [HMO.out, if_neg hb3]
          subst hom
          clear hb3
          go_wp2_with fail
          go_meet
          case rel => exact ⟨_, rfl, RO, BV, BB, BO, r1, r2, hb⟩
      case rest =>
        clear RO BV BB BO r1 r2 hb
        obtain ⟨kO, rfl, RO, BV, BB, BO, r1, r2, hb⟩ := hcut
        have hom2 : OM.length ≤ 2 := by
          rw [HMO.out]
          split
          · rw [List.length_take]; omega
          · omega
        go_wp2_with fail
        go_loopg [13] OM.length (fun m i wr => ∃ k : Nat, k ≤ OM.length ∧ m = OM.length - k ∧ i = .int .i64 k ∧ R = firstF P h s xs ys ts (OM.drop k) ∧ ORw wr gO OM ∧ Blk wr w.heap.size #[.int .i64 (P : Int), .int .i64 c, .int .i64 h, .int .i64 s] 35 ∧ Blk wr (w.heap.size + 1) #[.slice a1 xs.length c1, .slice a2 ys.length c2] 32 ∧ Blk wr (w.heap.size + 1 + 1 + 1) #[.slice none 0 0, .slice none 0 0] 32 ∧ IRow wr a1 xs ∧ IRow wr a2 ys ∧ Below w.heap.size w wr)
        case atStart => exact ⟨0, by omega, by omega, rfl, by rw [HRR.out]; rfl, RO, BV, BB, BO, r1, r2, hb⟩
        case round =>
          clear RO BV BB BO r1 r2 hb
          obtain ⟨k, hk, hm, rfl, hRk, RO, BV, BB, BO, r1, r2, hb⟩ := hrel
          have hB4w : w.heap.size + 1 + 1 + 1 < wr.heap.size := BO.lt
          by_cases hlt : k < OM.length
          · have hlt' : (k : Int) < (OM.length : Int) := by omega
            have hk0 : (0 : Int) ≤ (k : Int) := by omega
            obtain ⟨od, hod⟩ : ∃ x, OM[k]? = some x := ⟨OM[k]'hlt, List.getElem?_eq_getElem hlt⟩
            obtain ⟨gj, hcj, Rj⟩ := RO k od hod
            have hl2 := HLN.out od (List.mem_of_getElem? hod)
            have hdr : OM.drop k = od :: OM.drop (k + 1) := by
              rw [List.drop_eq_getElem_cons hlt]
              congr 1
              exact (List.getElem?_eq_some_iff.1 hod).2
            rw [hdr, firstF] at hRk
            have hle := fun W (hW : Below wr.heap.size wr W) => l05Legal_any P c h s a1 a2 _ _ c1 c2 xs ys (some ⟨gj, 0, none⟩) od.length od.length od at_ nt ct ts W rfl rfl HG.out (r1.below hW) (r2.below hW) rfl (Rj.below hW).irow HTS.out hl2.1 (by omega) (fun q => by
              obtain ⟨gt, e, SR⟩ := HRT.out q
              exact ⟨gt, e, VRow.below SR (chain hb hW)⟩)
            unfold LeGot at hle
            cases hfn : folN P h s od ts (xs, ys) with
            | some bd =>
              rw [hfn] at hRk
              simp only [hfn] at hle
              dsimp only at hRk
              obtain ⟨X, Y⟩ := bd
              dsimp only at hle
              have HLE := Lib.hid hle
              have HRS := Lib.hid hRk
              clear hle hRk hfn hdr hod hl2
              go_wp2_with fail
              refine wp_region_held_drew (S := fun w' => w'.cell? ⟨w.heap.size, 0, none⟩ = some (.int .i64 (P : Int)) ∧ w'.cell? ⟨w.heap.size, 1, none⟩ = some (.int .i64 c) ∧ w'.cell? ⟨w.heap.size, 2, none⟩ = some (.int .i64 h) ∧ w'.cell? ⟨w.heap.size, 3, none⟩ = some (.int .i64 s) ∧ w'.cell? ⟨(w.heap.size + 1), 0, none⟩ = some (.slice a1 xs.length c1) ∧ w'.cell? ⟨(w.heap.size + 1), 1, none⟩ = some (.slice a2 ys.length c2) ∧ w'.cell? ⟨gO, k, none⟩ = some (.slice (some ⟨gj, 0, none⟩) od.length od.length)) (by kernel_rfl) ⟨(BV.below (Below.refl _ _).drew).four.1, (BV.below (Below.refl _ _).drew).four.2.1, (BV.below (Below.refl _ _).drew).four.2.2.1, (BV.below (Below.refl _ _).drew).four.2.2.2.1, (BB.below (Below.refl _ _).drew).two.1, (BB.below (Below.refl _ _).drew).two.2.1, CellIs.below hcj (Below.refl _ _).drew⟩ (fun hHeld => ?_)
              clear hHeld
              have hbr : Below wr.heap.size wr wr.drew := (Below.refl _ _).drew
              generalize wr.drew = vd at *
              have hHeld : vd.cell? ⟨w.heap.size, 0, none⟩ = some (.int .i64 (P : Int)) ∧ vd.cell? ⟨w.heap.size, 1, none⟩ = some (.int .i64 c) ∧ vd.cell? ⟨w.heap.size, 2, none⟩ = some (.int .i64 h) ∧ vd.cell? ⟨w.heap.size, 3, none⟩ = some (.int .i64 s) ∧ vd.cell? ⟨(w.heap.size + 1), 0, none⟩ = some (.slice a1 xs.length c1) ∧ vd.cell? ⟨(w.heap.size + 1), 1, none⟩ = some (.slice a2 ys.length c2) ∧ vd.cell? ⟨gO, k, none⟩ = some (.slice (some ⟨gj, 0, none⟩) od.length od.length) := ⟨(BV.below hbr).four.1, (BV.below hbr).four.2.1, (BV.below hbr).four.2.2.1, (BV.below hbr).four.2.2.2.1, (BB.below hbr).two.1, (BB.below hbr).two.2.1, CellIs.below hcj hbr⟩
              refine wpAnyH_take (i := 0) (oi := ⟨some 60, _, _, _, _, _⟩) (v := ?_) rfl (by kernel_rfl) (by kernel_rfl) (by kernel_rfl) (fun _ _ _ h => h) (Or.inl ⟨by rfl, ?_⟩) (by assumption) ?_
              rotate_left
              · intro w hSw; (try dsimp only at hSw); go_simp; (try (with_reducible rfl))
              try simp only [Act.put, List.setIfInBounds_toArray, List.set_cons_zero, List.set_cons_succ]
              refine wpAnyH_take (i := 1) (oi := ⟨some 61, _, _, _, _, _⟩) (v := ?_) rfl (by kernel_rfl) (by kernel_rfl) (by kernel_rfl) (fun _ _ _ h => h) (Or.inl ⟨by rfl, ?_⟩) (by assumption) ?_
              rotate_left
              · intro w hSw; (try dsimp only at hSw); go_simp; (try (with_reducible rfl))
              try simp only [Act.put, List.setIfInBounds_toArray, List.set_cons_zero, List.set_cons_succ]
              refine wpAnyH_take (i := 2) (oi := ⟨some 62, _, _, _, _, _⟩) (v := ?_) rfl (by kernel_rfl) (by kernel_rfl) (by kernel_rfl) (fun _ _ _ h => h) (Or.inl ⟨by rfl, ?_⟩) (by assumption) ?_
              rotate_left
              · intro w hSw; (try dsimp only at hSw); go_simp; (try (with_reducible rfl))
              try simp only [Act.put, List.setIfInBounds_toArray, List.set_cons_zero, List.set_cons_succ]
              refine wpAnyH_take (i := 3) (oi := ⟨some 63, _, _, _, _, _⟩) (v := ?_) rfl (by kernel_rfl) (by kernel_rfl) (by kernel_rfl) (fun _ _ _ h => h) (Or.inl ⟨by rfl, ?_⟩) (by assumption) ?_
              rotate_left
              · intro w hSw; (try dsimp only at hSw); go_simp; (try (with_reducible rfl))
              try simp only [Act.put, List.setIfInBounds_toArray, List.set_cons_zero, List.set_cons_succ]
              refine wpAnyH_take (i := 4) (oi := ⟨some 64, _, _, _, _, _⟩) (v := ?_) rfl (by kernel_rfl) (by kernel_rfl) (by kernel_rfl) (fun _ _ _ h => h) (Or.inl ⟨by rfl, ?_⟩) (by assumption) ?_
              rotate_left
              · intro w hSw; (try dsimp only at hSw); go_simp; (try (with_reducible rfl))
              try simp only [Act.put, List.setIfInBounds_toArray, List.set_cons_zero, List.set_cons_succ]
              refine wpAnyH_take (i := 5) (oi := ⟨some 65, _, _, _, _, _⟩) (v := ?_) rfl (by kernel_rfl) (by kernel_rfl) (by kernel_rfl) (fun _ _ _ h => h) (Or.inl ⟨by rfl, ?_⟩) (by assumption) ?_
              rotate_left
              · intro w hSw; (try dsimp only at hSw); go_simp; (try (with_reducible rfl))
              try simp only [Act.put, List.setIfInBounds_toArray, List.set_cons_zero, List.set_cons_succ]
              refine wpAnyH_take (i := 6) (oi := ⟨some 66, _, _, _, _, _⟩) (v := ?_) rfl (by kernel_rfl) (by kernel_rfl) (by kernel_rfl) (fun _ _ _ h => h) (Or.inl ⟨by rfl, ?_⟩) (by assumption) ?_
              rotate_left
              · intro w hSw; (try dsimp only at hSw); go_simp; (try (with_reducible rfl))
              try simp only [Act.put, List.setIfInBounds_toArray, List.set_cons_zero, List.set_cons_succ]
              refine wpAnyH_ready (rs := [7, 11]) (by kernel_rfl) (by simp) ?_
              refine AllReadyH.cons (o := ⟨some 67, _, _, _, _, _⟩) rfl (fun K hK => ?_) (AllReadyH.cons (o := ⟨some 14, _, _, _, _, _⟩) rfl (fun K hK => ?_) AllReadyH.nil)
              · go_simp
                refine (HLE.out _ hbr).mono ?_
                rintro e w7 ⟨g1, g2, k1, k2, rfl, hg1, hg2, hne, R1, R2, hb7⟩
                have hz7 := hbr.size
                replace hbr := chain hbr hb7
                clear hb7
                (try go_wp2_with fail)
                refine hK.out _ _ ⟨(BV.below hbr).four.1, (BV.below hbr).four.2.1, (BV.below hbr).four.2.2.1, (BV.below hbr).four.2.2.2.1, (BB.below hbr).two.1, (BB.below hbr).two.2.1, CellIs.below hcj hbr⟩ (fun hHeld => ?_)
                clear hK K
                try simp only [Act.put, List.setIfInBounds_toArray, List.set_cons_zero, List.set_cons_succ]
                refine wpAnyH_take (i := 8) (oi := ⟨some 59, _, _, _, _, _⟩) (v := ?_) rfl (by kernel_rfl) (by kernel_rfl) (by kernel_rfl) (fun _ _ _ h => h) (Or.inl ⟨by rfl, ?_⟩) (by assumption) ?_
                rotate_left
                · intro w hSw; (try dsimp only at hSw); go_simp; (try (with_reducible rfl))
                try simp only [Act.put, List.setIfInBounds_toArray, List.set_cons_zero, List.set_cons_succ]
                refine wpAnyH_take (i := 9) (oi := ⟨some 68, _, _, _, _, _⟩) (v := ?_) rfl (by kernel_rfl) (by kernel_rfl) (by kernel_rfl) (fun _ _ _ h => h) (Or.inl ⟨by rfl, ?_⟩) (by assumption) ?_
                rotate_left
                · intro w hSw; (try dsimp only at hSw); go_simp; (try (with_reducible rfl))
                try simp only [Act.put, List.setIfInBounds_toArray, List.set_cons_zero, List.set_cons_succ]
                refine wpAnyH_take (i := 10) (oi := ⟨some 69, _, _, _, _, _⟩) (v := ?_) rfl (by kernel_rfl) (by kernel_rfl) (by kernel_rfl) (fun _ _ _ h => h) (Or.inl ⟨by rfl, ?_⟩) (by assumption) ?_
                rotate_left
                · intro w hSw; (try dsimp only at hSw); go_simp; (try (with_reducible rfl))
                try simp only [Act.put, List.setIfInBounds_toArray, List.set_cons_zero, List.set_cons_succ]
                refine wpAnyH_ready (rs := [11]) (by kernel_rfl) (by simp) ?_
                refine AllReadyH.cons (o := ⟨some 14, _, _, _, _, _⟩) rfl (fun K hK => ?_) AllReadyH.nil
                go_simp
                have hal : Below w7.heap.size w7 (w7.alloc (.cells #[.slice none 0 0, .slice none 0 0] 32)) := (Below.refl _ _).alloc (Nat.le_refl _) _
                have h8 := hbr.size
                (try go_wp2_with fail)
                refine hK.out _ _ ⟨(BV.below (chain hbr hal)).four.1, (BV.below (chain hbr hal)).four.2.1, (BV.below (chain hbr hal)).four.2.2.1, (BV.below (chain hbr hal)).four.2.2.2.1, (BB.below (chain hbr hal)).two.1, (BB.below (chain hbr hal)).two.2.1, CellIs.below hcj (chain hbr hal)⟩ (fun hHeld => ?_)
                clear hK K
                try simp only [Act.put, List.setIfInBounds_toArray, List.set_cons_zero, List.set_cons_succ]
                have B8 := Blk.new w7 #[.slice none 0 0, .slice none 0 0] 32
                replace R1 := R1.below hal
                replace R2 := R2.below hal
                replace hbr := chain hbr hal
                clear hal
                generalize w7.alloc (.cells #[.slice none 0 0, .slice none 0 0] 32) = wA at *
                generalize w7.heap.size = g8 at *
                refine wpAnyH_ready (rs := [12]) (by kernel_rfl) (by simp) ?_
                refine AllReadyH.cons (o := ⟨none, _, _, _, _, _⟩) rfl (fun K hK => ?_) AllReadyH.nil
                clear hHeld
                obtain ⟨t0, t1, tf, tl⟩ := B8.two
                have n81 := rowNe R1 B8 (by decide)
                have n82 := rowNe R2 B8 (by decide)
                have SR1 := (R1.other (g := g8) (o := 0) (v := (.slice (some ⟨g1, 0, none⟩) X.length k1)) n81).other (g := g8) (o := 1) (v := (.slice (some ⟨g2, 0, none⟩) Y.length k2)) n81
                have SR2 := (R2.other (g := g8) (o := 0) (v := (.slice (some ⟨g1, 0, none⟩) X.length k1)) n82).other (g := g8) (o := 1) (v := (.slice (some ⟨g2, 0, none⟩) Y.length k2)) n82
                have Shb := (hbr.setCell (p := ⟨g8, 0, none⟩) (by simp; omega) (.slice (some ⟨g1, 0, none⟩) X.length k1)).setCell (p := ⟨g8, 1, none⟩) (by simp; omega) (.slice (some ⟨g2, 0, none⟩) Y.length k2)
                have SB8 := (B8.set (i := 0) (.slice (some ⟨g1, 0, none⟩) X.length k1)).set (i := 1) (.slice (some ⟨g2, 0, none⟩) Y.length k2)
                simp only [List.setIfInBounds_toArray, List.set_cons_zero, List.set_cons_succ] at SB8
                go_simp
                (try go_wp2_with fail)
                refine hK.out _ _ ⟨(BV.below Shb).four.1, (BV.below Shb).four.2.1, (BV.below Shb).four.2.2.1, (BV.below Shb).four.2.2.2.1, (BB.below Shb).two.1, (BB.below Shb).two.2.1, CellIs.below hcj Shb⟩ (fun hHeld => ?_)
                clear hK K
                try simp only [Act.put, List.setIfInBounds_toArray, List.set_cons_zero, List.set_cons_succ]
                clear t0 t1 tf tl hbr B8 n81 n82 R1 R2
                generalize ((wA.setCell ⟨g8, 0, none⟩ (.slice (some ⟨g1, 0, none⟩) X.length k1)).setCell ⟨g8, 1, none⟩ (.slice (some ⟨g2, 0, none⟩) Y.length k2)) = wS at *
                refine wpAnyH_take (i := 13) (oi := ⟨some 15, _, _, _, _, _⟩) (v := ?_) rfl (by kernel_rfl) (by kernel_rfl) (by kernel_rfl) (fun _ _ _ h => h) (Or.inl ⟨by rfl, ?_⟩) (by assumption) ?_
                rotate_left
                · intro w hSw; (try dsimp only at hSw); go_simp; (try (with_reducible rfl))
                try simp only [Act.put, List.setIfInBounds_toArray, List.set_cons_zero, List.set_cons_succ]
                refine wpAnyH_done (by kernel_rfl) ?_ _
                clear hHeld
                have hz4 := hb.size
                replace BO := BO.below Shb
                replace hb := chain hb Shb
                have n1 := rowNe SR1 BO (by decide)
                have n2 := rowNe SR2 BO (by decide)
                obtain ⟨t0, t1, tf, tl⟩ := SB8.two
                obtain ⟨z0, z1, zf, zl⟩ := BO.two
                (try go_wp2_with fail)
                have MO := (BO.set (i := 0) (.slice (some ⟨g1, 0, none⟩) X.length k1)).set (i := 1) (.slice (some ⟨g2, 0, none⟩) Y.length k2)
                simp only [List.setIfInBounds_toArray, List.set_cons_zero, List.set_cons_succ] at MO
                have hM := (hb.setCell (p := ⟨w.heap.size + 1 + 1 + 1, 0, none⟩) (by simp <;> omega) (.slice (some ⟨g1, 0, none⟩) X.length k1)).setCell (p := ⟨w.heap.size + 1 + 1 + 1, 1, none⟩) (by simp <;> omega) (.slice (some ⟨g2, 0, none⟩) Y.length k2)
                have M1 := (SR1.other (g := w.heap.size + 1 + 1 + 1) (o := 0) (v := (.slice (some ⟨g1, 0, none⟩) X.length k1)) n1).other (g := w.heap.size + 1 + 1 + 1) (o := 1) (v := (.slice (some ⟨g2, 0, none⟩) Y.length k2)) n1
                have M2 := (SR2.other (g := w.heap.size + 1 + 1 + 1) (o := 0) (v := (.slice (some ⟨g1, 0, none⟩) X.length k1)) n2).other (g := w.heap.size + 1 + 1 + 1) (o := 1) (v := (.slice (some ⟨g2, 0, none⟩) Y.length k2)) n2
                clear t0 t1 tf tl z0 z1 zf zl BO SR1 SR2 hb
                generalize ((wS.setCell ⟨w.heap.size + 1 + 1 + 1, 0, none⟩ (.slice (some ⟨g1, 0, none⟩) X.length k1)).setCell ⟨w.heap.size + 1 + 1 + 1, 1, none⟩ (.slice (some ⟨g2, 0, none⟩) Y.length k2)) = we at *
                obtain ⟨z0, z1, zf, zl⟩ := MO.two
                refine bodyPost_ret (v := .tuple #[.agg #[.slice (some ⟨g1, 0, none⟩) X.length k1, .slice (some ⟨g2, 0, none⟩) Y.length k2], .int .i64 0]) (by simp [results, Try.results6, go_sem, z0, z1]) rfl ?_
                rw [HRS.out]
                exact ⟨g1, g2, k1, k2, rfl, by omega, by omega, hne, M1, M2, hM⟩
              · go_simp
                have hal : Below vd.heap.size vd (vd.alloc (.cells #[.slice none 0 0, .slice none 0 0] 32)) := (Below.refl _ _).alloc (Nat.le_refl _) _
                have h8 := hbr.size
                (try go_wp2_with fail)
                refine hK.out _ _ ⟨(BV.below (chain hbr hal)).four.1, (BV.below (chain hbr hal)).four.2.1, (BV.below (chain hbr hal)).four.2.2.1, (BV.below (chain hbr hal)).four.2.2.2.1, (BB.below (chain hbr hal)).two.1, (BB.below (chain hbr hal)).two.2.1, CellIs.below hcj (chain hbr hal)⟩ (fun hHeld => ?_)
                clear hK K
                try simp only [Act.put, List.setIfInBounds_toArray, List.set_cons_zero, List.set_cons_succ]
                have B8 := Blk.new vd #[.slice none 0 0, .slice none 0 0] 32
                replace hbr := chain hbr hal
                clear hal
                generalize vd.alloc (.cells #[.slice none 0 0, .slice none 0 0] 32) = wA at *
                generalize vd.heap.size = g8 at *
                refine wpAnyH_ready (rs := [7]) (by kernel_rfl) (by simp) ?_
                refine AllReadyH.cons (o := ⟨some 67, _, _, _, _, _⟩) rfl (fun K hK => ?_) AllReadyH.nil
                go_simp
                refine (HLE.out _ hbr).mono ?_
                rintro e w7 ⟨g1, g2, k1, k2, rfl, hg1, hg2, hne, R1, R2, hb7⟩
                have hz7 := hbr.size
                replace B8 := B8.below hb7
                replace hbr := chain hbr hb7
                clear hb7
                (try go_wp2_with fail)
                refine hK.out _ _ ⟨(BV.below hbr).four.1, (BV.below hbr).four.2.1, (BV.below hbr).four.2.2.1, (BV.below hbr).four.2.2.2.1, (BB.below hbr).two.1, (BB.below hbr).two.2.1, CellIs.below hcj hbr⟩ (fun hHeld => ?_)
                clear hK K
                try simp only [Act.put, List.setIfInBounds_toArray, List.set_cons_zero, List.set_cons_succ]
                refine wpAnyH_take (i := 8) (oi := ⟨some 59, _, _, _, _, _⟩) (v := ?_) rfl (by kernel_rfl) (by kernel_rfl) (by kernel_rfl) (fun _ _ _ h => h) (Or.inl ⟨by rfl, ?_⟩) (by assumption) ?_
                rotate_left
                · intro w hSw; (try dsimp only at hSw); go_simp; (try (with_reducible rfl))
                try simp only [Act.put, List.setIfInBounds_toArray, List.set_cons_zero, List.set_cons_succ]
                refine wpAnyH_take (i := 9) (oi := ⟨some 68, _, _, _, _, _⟩) (v := ?_) rfl (by kernel_rfl) (by kernel_rfl) (by kernel_rfl) (fun _ _ _ h => h) (Or.inl ⟨by rfl, ?_⟩) (by assumption) ?_
                rotate_left
                · intro w hSw; (try dsimp only at hSw); go_simp; (try (with_reducible rfl))
                try simp only [Act.put, List.setIfInBounds_toArray, List.set_cons_zero, List.set_cons_succ]
                refine wpAnyH_take (i := 10) (oi := ⟨some 69, _, _, _, _, _⟩) (v := ?_) rfl (by kernel_rfl) (by kernel_rfl) (by kernel_rfl) (fun _ _ _ h => h) (Or.inl ⟨by rfl, ?_⟩) (by assumption) ?_
                rotate_left
                · intro w hSw; (try dsimp only at hSw); go_simp; (try (with_reducible rfl))
                try simp only [Act.put, List.setIfInBounds_toArray, List.set_cons_zero, List.set_cons_succ]
                refine wpAnyH_ready (rs := [12]) (by kernel_rfl) (by simp) ?_
                refine AllReadyH.cons (o := ⟨none, _, _, _, _, _⟩) rfl (fun K hK => ?_) AllReadyH.nil
                clear hHeld
                obtain ⟨t0, t1, tf, tl⟩ := B8.two
                have n81 := rowNe R1 B8 (by decide)
                have n82 := rowNe R2 B8 (by decide)
                have SR1 := (R1.other (g := g8) (o := 0) (v := (.slice (some ⟨g1, 0, none⟩) X.length k1)) n81).other (g := g8) (o := 1) (v := (.slice (some ⟨g2, 0, none⟩) Y.length k2)) n81
                have SR2 := (R2.other (g := g8) (o := 0) (v := (.slice (some ⟨g1, 0, none⟩) X.length k1)) n82).other (g := g8) (o := 1) (v := (.slice (some ⟨g2, 0, none⟩) Y.length k2)) n82
                have Shb := (hbr.setCell (p := ⟨g8, 0, none⟩) (by simp; omega) (.slice (some ⟨g1, 0, none⟩) X.length k1)).setCell (p := ⟨g8, 1, none⟩) (by simp; omega) (.slice (some ⟨g2, 0, none⟩) Y.length k2)
                have SB8 := (B8.set (i := 0) (.slice (some ⟨g1, 0, none⟩) X.length k1)).set (i := 1) (.slice (some ⟨g2, 0, none⟩) Y.length k2)
                simp only [List.setIfInBounds_toArray, List.set_cons_zero, List.set_cons_succ] at SB8
                go_simp
                (try go_wp2_with fail)
                refine hK.out _ _ ⟨(BV.below Shb).four.1, (BV.below Shb).four.2.1, (BV.below Shb).four.2.2.1, (BV.below Shb).four.2.2.2.1, (BB.below Shb).two.1, (BB.below Shb).two.2.1, CellIs.below hcj Shb⟩ (fun hHeld => ?_)
                clear hK K
                try simp only [Act.put, List.setIfInBounds_toArray, List.set_cons_zero, List.set_cons_succ]
                clear t0 t1 tf tl hbr B8 n81 n82 R1 R2
                generalize ((w7.setCell ⟨g8, 0, none⟩ (.slice (some ⟨g1, 0, none⟩) X.length k1)).setCell ⟨g8, 1, none⟩ (.slice (some ⟨g2, 0, none⟩) Y.length k2)) = wS at *
                refine wpAnyH_take (i := 13) (oi := ⟨some 15, _, _, _, _, _⟩) (v := ?_) rfl (by kernel_rfl) (by kernel_rfl) (by kernel_rfl) (fun _ _ _ h => h) (Or.inl ⟨by rfl, ?_⟩) (by assumption) ?_
                rotate_left
                · intro w hSw; (try dsimp only at hSw); go_simp; (try (with_reducible rfl))
                try simp only [Act.put, List.setIfInBounds_toArray, List.set_cons_zero, List.set_cons_succ]
                refine wpAnyH_done (by kernel_rfl) ?_ _
                clear hHeld
                have hz4 := hb.size
                replace BO := BO.below Shb
                replace hb := chain hb Shb
                have n1 := rowNe SR1 BO (by decide)
                have n2 := rowNe SR2 BO (by decide)
                obtain ⟨t0, t1, tf, tl⟩ := SB8.two
                obtain ⟨z0, z1, zf, zl⟩ := BO.two
                (try go_wp2_with fail)
                have MO := (BO.set (i := 0) (.slice (some ⟨g1, 0, none⟩) X.length k1)).set (i := 1) (.slice (some ⟨g2, 0, none⟩) Y.length k2)
                simp only [List.setIfInBounds_toArray, List.set_cons_zero, List.set_cons_succ] at MO
                have hM := (hb.setCell (p := ⟨w.heap.size + 1 + 1 + 1, 0, none⟩) (by simp <;> omega) (.slice (some ⟨g1, 0, none⟩) X.length k1)).setCell (p := ⟨w.heap.size + 1 + 1 + 1, 1, none⟩) (by simp <;> omega) (.slice (some ⟨g2, 0, none⟩) Y.length k2)
                have M1 := (SR1.other (g := w.heap.size + 1 + 1 + 1) (o := 0) (v := (.slice (some ⟨g1, 0, none⟩) X.length k1)) n1).other (g := w.heap.size + 1 + 1 + 1) (o := 1) (v := (.slice (some ⟨g2, 0, none⟩) Y.length k2)) n1
                have M2 := (SR2.other (g := w.heap.size + 1 + 1 + 1) (o := 0) (v := (.slice (some ⟨g1, 0, none⟩) X.length k1)) n2).other (g := w.heap.size + 1 + 1 + 1) (o := 1) (v := (.slice (some ⟨g2, 0, none⟩) Y.length k2)) n2
                clear t0 t1 tf tl z0 z1 zf zl BO SR1 SR2 hb
                generalize ((wS.setCell ⟨w.heap.size + 1 + 1 + 1, 0, none⟩ (.slice (some ⟨g1, 0, none⟩) X.length k1)).setCell ⟨w.heap.size + 1 + 1 + 1, 1, none⟩ (.slice (some ⟨g2, 0, none⟩) Y.length k2)) = we at *
                obtain ⟨z0, z1, zf, zl⟩ := MO.two
                refine bodyPost_ret (v := .tuple #[.agg #[.slice (some ⟨g1, 0, none⟩) X.length k1, .slice (some ⟨g2, 0, none⟩) Y.length k2], .int .i64 0]) (by simp [results, Try.results6, go_sem, z0, z1]) rfl ?_
                rw [HRS.out]
                exact ⟨g1, g2, k1, k2, rfl, by omega, by omega, hne, M1, M2, hM⟩
            | none =>
              rw [hfn] at hRk
              simp only [hfn] at hle
              dsimp only at hRk
              have HLE := Lib.hid hle
              have HRS := Lib.hid hRk
              clear hle hRk hfn hdr hod hl2
              go_wp2_with fail
              refine wp_region_held_drew (S := fun w' => w'.cell? ⟨w.heap.size, 0, none⟩ = some (.int .i64 (P : Int)) ∧ w'.cell? ⟨w.heap.size, 1, none⟩ = some (.int .i64 c) ∧ w'.cell? ⟨w.heap.size, 2, none⟩ = some (.int .i64 h) ∧ w'.cell? ⟨w.heap.size, 3, none⟩ = some (.int .i64 s) ∧ w'.cell? ⟨(w.heap.size + 1), 0, none⟩ = some (.slice a1 xs.length c1) ∧ w'.cell? ⟨(w.heap.size + 1), 1, none⟩ = some (.slice a2 ys.length c2) ∧ w'.cell? ⟨gO, k, none⟩ = some (.slice (some ⟨gj, 0, none⟩) od.length od.length)) (by kernel_rfl) ⟨(BV.below (Below.refl _ _).drew).four.1, (BV.below (Below.refl _ _).drew).four.2.1, (BV.below (Below.refl _ _).drew).four.2.2.1, (BV.below (Below.refl _ _).drew).four.2.2.2.1, (BB.below (Below.refl _ _).drew).two.1, (BB.below (Below.refl _ _).drew).two.2.1, CellIs.below hcj (Below.refl _ _).drew⟩ (fun hHeld => ?_)
              clear hHeld
              have hbr : Below wr.heap.size wr wr.drew := (Below.refl _ _).drew
              generalize wr.drew = vd at *
              have hHeld : vd.cell? ⟨w.heap.size, 0, none⟩ = some (.int .i64 (P : Int)) ∧ vd.cell? ⟨w.heap.size, 1, none⟩ = some (.int .i64 c) ∧ vd.cell? ⟨w.heap.size, 2, none⟩ = some (.int .i64 h) ∧ vd.cell? ⟨w.heap.size, 3, none⟩ = some (.int .i64 s) ∧ vd.cell? ⟨(w.heap.size + 1), 0, none⟩ = some (.slice a1 xs.length c1) ∧ vd.cell? ⟨(w.heap.size + 1), 1, none⟩ = some (.slice a2 ys.length c2) ∧ vd.cell? ⟨gO, k, none⟩ = some (.slice (some ⟨gj, 0, none⟩) od.length od.length) := ⟨(BV.below hbr).four.1, (BV.below hbr).four.2.1, (BV.below hbr).four.2.2.1, (BV.below hbr).four.2.2.2.1, (BB.below hbr).two.1, (BB.below hbr).two.2.1, CellIs.below hcj hbr⟩
              refine wpAnyH_take (i := 0) (oi := ⟨some 60, _, _, _, _, _⟩) (v := ?_) rfl (by kernel_rfl) (by kernel_rfl) (by kernel_rfl) (fun _ _ _ h => h) (Or.inl ⟨by rfl, ?_⟩) (by assumption) ?_
              rotate_left
              · intro w hSw; (try dsimp only at hSw); go_simp; (try (with_reducible rfl))
              try simp only [Act.put, List.setIfInBounds_toArray, List.set_cons_zero, List.set_cons_succ]
              refine wpAnyH_take (i := 1) (oi := ⟨some 61, _, _, _, _, _⟩) (v := ?_) rfl (by kernel_rfl) (by kernel_rfl) (by kernel_rfl) (fun _ _ _ h => h) (Or.inl ⟨by rfl, ?_⟩) (by assumption) ?_
              rotate_left
              · intro w hSw; (try dsimp only at hSw); go_simp; (try (with_reducible rfl))
              try simp only [Act.put, List.setIfInBounds_toArray, List.set_cons_zero, List.set_cons_succ]
              refine wpAnyH_take (i := 2) (oi := ⟨some 62, _, _, _, _, _⟩) (v := ?_) rfl (by kernel_rfl) (by kernel_rfl) (by kernel_rfl) (fun _ _ _ h => h) (Or.inl ⟨by rfl, ?_⟩) (by assumption) ?_
              rotate_left
              · intro w hSw; (try dsimp only at hSw); go_simp; (try (with_reducible rfl))
              try simp only [Act.put, List.setIfInBounds_toArray, List.set_cons_zero, List.set_cons_succ]
              refine wpAnyH_take (i := 3) (oi := ⟨some 63, _, _, _, _, _⟩) (v := ?_) rfl (by kernel_rfl) (by kernel_rfl) (by kernel_rfl) (fun _ _ _ h => h) (Or.inl ⟨by rfl, ?_⟩) (by assumption) ?_
              rotate_left
              · intro w hSw; (try dsimp only at hSw); go_simp; (try (with_reducible rfl))
              try simp only [Act.put, List.setIfInBounds_toArray, List.set_cons_zero, List.set_cons_succ]
              refine wpAnyH_take (i := 4) (oi := ⟨some 64, _, _, _, _, _⟩) (v := ?_) rfl (by kernel_rfl) (by kernel_rfl) (by kernel_rfl) (fun _ _ _ h => h) (Or.inl ⟨by rfl, ?_⟩) (by assumption) ?_
              rotate_left
              · intro w hSw; (try dsimp only at hSw); go_simp; (try (with_reducible rfl))
              try simp only [Act.put, List.setIfInBounds_toArray, List.set_cons_zero, List.set_cons_succ]
              refine wpAnyH_take (i := 5) (oi := ⟨some 65, _, _, _, _, _⟩) (v := ?_) rfl (by kernel_rfl) (by kernel_rfl) (by kernel_rfl) (fun _ _ _ h => h) (Or.inl ⟨by rfl, ?_⟩) (by assumption) ?_
              rotate_left
              · intro w hSw; (try dsimp only at hSw); go_simp; (try (with_reducible rfl))
              try simp only [Act.put, List.setIfInBounds_toArray, List.set_cons_zero, List.set_cons_succ]
              refine wpAnyH_take (i := 6) (oi := ⟨some 66, _, _, _, _, _⟩) (v := ?_) rfl (by kernel_rfl) (by kernel_rfl) (by kernel_rfl) (fun _ _ _ h => h) (Or.inl ⟨by rfl, ?_⟩) (by assumption) ?_
              rotate_left
              · intro w hSw; (try dsimp only at hSw); go_simp; (try (with_reducible rfl))
              try simp only [Act.put, List.setIfInBounds_toArray, List.set_cons_zero, List.set_cons_succ]
              refine wpAnyH_ready (rs := [7, 11]) (by kernel_rfl) (by simp) ?_
              refine AllReadyH.cons (o := ⟨some 67, _, _, _, _, _⟩) rfl (fun K hK => ?_) (AllReadyH.cons (o := ⟨some 14, _, _, _, _, _⟩) rfl (fun K hK => ?_) AllReadyH.nil)
              · go_simp
                refine (HLE.out _ hbr).mono ?_
                rintro e w7 ⟨rfl, hb7⟩
                have hz7 := hbr.size
                replace hbr := chain hbr hb7
                clear hb7
                (try go_wp2_with fail)
                refine hK.out _ _ ⟨(BV.below hbr).four.1, (BV.below hbr).four.2.1, (BV.below hbr).four.2.2.1, (BV.below hbr).four.2.2.2.1, (BB.below hbr).two.1, (BB.below hbr).two.2.1, CellIs.below hcj hbr⟩ (fun hHeld => ?_)
                clear hK K
                try simp only [Act.put, List.setIfInBounds_toArray, List.set_cons_zero, List.set_cons_succ]
                refine wpAnyH_take (i := 8) (oi := ⟨some 59, _, _, _, _, _⟩) (v := ?_) rfl (by kernel_rfl) (by kernel_rfl) (by kernel_rfl) (fun _ _ _ h => h) (Or.inl ⟨by rfl, ?_⟩) (by assumption) ?_
                rotate_left
                · intro w hSw; (try dsimp only at hSw); go_simp; (try (with_reducible rfl))
                try simp only [Act.put, List.setIfInBounds_toArray, List.set_cons_zero, List.set_cons_succ]
                refine wpAnyH_take (i := 9) (oi := ⟨some 68, _, _, _, _, _⟩) (v := ?_) rfl (by kernel_rfl) (by kernel_rfl) (by kernel_rfl) (fun _ _ _ h => h) (Or.inl ⟨by rfl, ?_⟩) (by assumption) ?_
                rotate_left
                · intro w hSw; (try dsimp only at hSw); go_simp; (try (with_reducible rfl))
                try simp only [Act.put, List.setIfInBounds_toArray, List.set_cons_zero, List.set_cons_succ]
                refine wpAnyH_take (i := 10) (oi := ⟨some 69, _, _, _, _, _⟩) (v := ?_) rfl (by kernel_rfl) (by kernel_rfl) (by kernel_rfl) (fun _ _ _ h => h) (Or.inl ⟨by rfl, ?_⟩) (by assumption) ?_
                rotate_left
                · intro w hSw; (try dsimp only at hSw); go_simp; (try (with_reducible rfl))
                try simp only [Act.put, List.setIfInBounds_toArray, List.set_cons_zero, List.set_cons_succ]
                refine wpAnyH_ready (rs := [11]) (by kernel_rfl) (by simp) ?_
                refine AllReadyH.cons (o := ⟨some 14, _, _, _, _, _⟩) rfl (fun K hK => ?_) AllReadyH.nil
                go_simp
                have hal : Below w7.heap.size w7 (w7.alloc (.cells #[.slice none 0 0, .slice none 0 0] 32)) := (Below.refl _ _).alloc (Nat.le_refl _) _
                have h8 := hbr.size
                (try go_wp2_with fail)
                refine hK.out _ _ ⟨(BV.below (chain hbr hal)).four.1, (BV.below (chain hbr hal)).four.2.1, (BV.below (chain hbr hal)).four.2.2.1, (BV.below (chain hbr hal)).four.2.2.2.1, (BB.below (chain hbr hal)).two.1, (BB.below (chain hbr hal)).two.2.1, CellIs.below hcj (chain hbr hal)⟩ (fun hHeld => ?_)
                clear hK K
                try simp only [Act.put, List.setIfInBounds_toArray, List.set_cons_zero, List.set_cons_succ]
                have B8 := Blk.new w7 #[.slice none 0 0, .slice none 0 0] 32
                replace hbr := chain hbr hal
                clear hal
                generalize w7.alloc (.cells #[.slice none 0 0, .slice none 0 0] 32) = wA at *
                generalize w7.heap.size = g8 at *
                refine wpAnyH_ready (rs := [12]) (by kernel_rfl) (by simp) ?_
                refine AllReadyH.cons (o := ⟨none, _, _, _, _, _⟩) rfl (fun K hK => ?_) AllReadyH.nil
                clear hHeld
                obtain ⟨t0, t1, tf, tl⟩ := B8.two
                have Shb := (hbr.setCell (p := ⟨g8, 0, none⟩) (by simp; omega) (.slice none 0 0)).setCell (p := ⟨g8, 1, none⟩) (by simp; omega) (.slice none 0 0)
                have SB8 := (B8.set (i := 0) (.slice none 0 0)).set (i := 1) (.slice none 0 0)
                simp only [List.setIfInBounds_toArray, List.set_cons_zero, List.set_cons_succ] at SB8
                go_simp
                (try go_wp2_with fail)
                refine hK.out _ _ ⟨(BV.below Shb).four.1, (BV.below Shb).four.2.1, (BV.below Shb).four.2.2.1, (BV.below Shb).four.2.2.2.1, (BB.below Shb).two.1, (BB.below Shb).two.2.1, CellIs.below hcj Shb⟩ (fun hHeld => ?_)
                clear hK K
                try simp only [Act.put, List.setIfInBounds_toArray, List.set_cons_zero, List.set_cons_succ]
                clear t0 t1 tf tl hbr B8
                generalize ((wA.setCell ⟨g8, 0, none⟩ (.slice none 0 0)).setCell ⟨g8, 1, none⟩ (.slice none 0 0)) = wS at *
                refine wpAnyH_take (i := 13) (oi := ⟨some 15, _, _, _, _, _⟩) (v := ?_) rfl (by kernel_rfl) (by kernel_rfl) (by kernel_rfl) (fun _ _ _ h => h) (Or.inl ⟨by rfl, ?_⟩) (by assumption) ?_
                rotate_left
                · intro w hSw; (try dsimp only at hSw); go_simp; (try (with_reducible rfl))
                try simp only [Act.put, List.setIfInBounds_toArray, List.set_cons_zero, List.set_cons_succ]
                refine wpAnyH_done (by kernel_rfl) ?_ _
                clear hHeld
                (try go_wp2_with fail)
                go_roundg (OM.length - (k + 1))
                case measure => omega
                case rel => exact ⟨k + 1, by omega, rfl, by go_num, HRS.out, RO.below Shb, BV.below Shb, BB.below Shb, BO.below Shb, r1.below Shb, r2.below Shb, chain hb Shb⟩
              · go_simp
                have hal : Below vd.heap.size vd (vd.alloc (.cells #[.slice none 0 0, .slice none 0 0] 32)) := (Below.refl _ _).alloc (Nat.le_refl _) _
                have h8 := hbr.size
                (try go_wp2_with fail)
                refine hK.out _ _ ⟨(BV.below (chain hbr hal)).four.1, (BV.below (chain hbr hal)).four.2.1, (BV.below (chain hbr hal)).four.2.2.1, (BV.below (chain hbr hal)).four.2.2.2.1, (BB.below (chain hbr hal)).two.1, (BB.below (chain hbr hal)).two.2.1, CellIs.below hcj (chain hbr hal)⟩ (fun hHeld => ?_)
                clear hK K
                try simp only [Act.put, List.setIfInBounds_toArray, List.set_cons_zero, List.set_cons_succ]
                have B8 := Blk.new vd #[.slice none 0 0, .slice none 0 0] 32
                replace hbr := chain hbr hal
                clear hal
                generalize vd.alloc (.cells #[.slice none 0 0, .slice none 0 0] 32) = wA at *
                generalize vd.heap.size = g8 at *
                refine wpAnyH_ready (rs := [7]) (by kernel_rfl) (by simp) ?_
                refine AllReadyH.cons (o := ⟨some 67, _, _, _, _, _⟩) rfl (fun K hK => ?_) AllReadyH.nil
                go_simp
                refine (HLE.out _ hbr).mono ?_
                rintro e w7 ⟨rfl, hb7⟩
                have hz7 := hbr.size
                replace B8 := B8.below hb7
                replace hbr := chain hbr hb7
                clear hb7
                (try go_wp2_with fail)
                refine hK.out _ _ ⟨(BV.below hbr).four.1, (BV.below hbr).four.2.1, (BV.below hbr).four.2.2.1, (BV.below hbr).four.2.2.2.1, (BB.below hbr).two.1, (BB.below hbr).two.2.1, CellIs.below hcj hbr⟩ (fun hHeld => ?_)
                clear hK K
                try simp only [Act.put, List.setIfInBounds_toArray, List.set_cons_zero, List.set_cons_succ]
                refine wpAnyH_take (i := 8) (oi := ⟨some 59, _, _, _, _, _⟩) (v := ?_) rfl (by kernel_rfl) (by kernel_rfl) (by kernel_rfl) (fun _ _ _ h => h) (Or.inl ⟨by rfl, ?_⟩) (by assumption) ?_
                rotate_left
                · intro w hSw; (try dsimp only at hSw); go_simp; (try (with_reducible rfl))
                try simp only [Act.put, List.setIfInBounds_toArray, List.set_cons_zero, List.set_cons_succ]
                refine wpAnyH_take (i := 9) (oi := ⟨some 68, _, _, _, _, _⟩) (v := ?_) rfl (by kernel_rfl) (by kernel_rfl) (by kernel_rfl) (fun _ _ _ h => h) (Or.inl ⟨by rfl, ?_⟩) (by assumption) ?_
                rotate_left
                · intro w hSw; (try dsimp only at hSw); go_simp; (try (with_reducible rfl))
                try simp only [Act.put, List.setIfInBounds_toArray, List.set_cons_zero, List.set_cons_succ]
                refine wpAnyH_take (i := 10) (oi := ⟨some 69, _, _, _, _, _⟩) (v := ?_) rfl (by kernel_rfl) (by kernel_rfl) (by kernel_rfl) (fun _ _ _ h => h) (Or.inl ⟨by rfl, ?_⟩) (by assumption) ?_
                rotate_left
                · intro w hSw; (try dsimp only at hSw); go_simp; (try (with_reducible rfl))
                try simp only [Act.put, List.setIfInBounds_toArray, List.set_cons_zero, List.set_cons_succ]
                refine wpAnyH_ready (rs := [12]) (by kernel_rfl) (by simp) ?_
                refine AllReadyH.cons (o := ⟨none, _, _, _, _, _⟩) rfl (fun K hK => ?_) AllReadyH.nil
                clear hHeld
                obtain ⟨t0, t1, tf, tl⟩ := B8.two
                have Shb := (hbr.setCell (p := ⟨g8, 0, none⟩) (by simp; omega) (.slice none 0 0)).setCell (p := ⟨g8, 1, none⟩) (by simp; omega) (.slice none 0 0)
                have SB8 := (B8.set (i := 0) (.slice none 0 0)).set (i := 1) (.slice none 0 0)
                simp only [List.setIfInBounds_toArray, List.set_cons_zero, List.set_cons_succ] at SB8
                go_simp
                (try go_wp2_with fail)
                refine hK.out _ _ ⟨(BV.below Shb).four.1, (BV.below Shb).four.2.1, (BV.below Shb).four.2.2.1, (BV.below Shb).four.2.2.2.1, (BB.below Shb).two.1, (BB.below Shb).two.2.1, CellIs.below hcj Shb⟩ (fun hHeld => ?_)
                clear hK K
                try simp only [Act.put, List.setIfInBounds_toArray, List.set_cons_zero, List.set_cons_succ]
                clear t0 t1 tf tl hbr B8
                generalize ((w7.setCell ⟨g8, 0, none⟩ (.slice none 0 0)).setCell ⟨g8, 1, none⟩ (.slice none 0 0)) = wS at *
                refine wpAnyH_take (i := 13) (oi := ⟨some 15, _, _, _, _, _⟩) (v := ?_) rfl (by kernel_rfl) (by kernel_rfl) (by kernel_rfl) (fun _ _ _ h => h) (Or.inl ⟨by rfl, ?_⟩) (by assumption) ?_
                rotate_left
                · intro w hSw; (try dsimp only at hSw); go_simp; (try (with_reducible rfl))
                try simp only [Act.put, List.setIfInBounds_toArray, List.set_cons_zero, List.set_cons_succ]
                refine wpAnyH_done (by kernel_rfl) ?_ _
                clear hHeld
                (try go_wp2_with fail)
                go_roundg (OM.length - (k + 1))
                case measure => omega
                case rel => exact ⟨k + 1, by omega, rfl, by go_num, HRS.out, RO.below Shb, BV.below Shb, BB.below Shb, BO.below Shb, r1.below Shb, r2.below Shb, chain hb Shb⟩
          · obtain rfl : k = OM.length := by omega
            have hlt' : ¬ ((OM.length : Nat) : Int) < (OM.length : Int) := by omega
            have hRk2 : R = none := by rw [hRk, List.drop_length]; rfl
            have HPR := Lib.hid hRk2
            clear hRk hRk2
            obtain ⟨z0, z1, zf, zl⟩ := BO.two
            go_wp2_with fail
            have MO := (BO.set (i := 0) (.slice none 0 0)).set (i := 1) (.slice none 0 0)
            simp only [List.setIfInBounds_toArray, List.set_cons_zero, List.set_cons_succ] at MO
            have hM := (hb.setCell (p := ⟨w.heap.size + 1 + 1 + 1, 0, none⟩) (by simp <;> omega) (.slice none 0 0)).setCell (p := ⟨w.heap.size + 1 + 1 + 1, 1, none⟩) (by simp <;> omega) (.slice none 0 0)
            clear z0 z1 zf zl
            generalize ((wr.setCell ⟨w.heap.size + 1 + 1 + 1, 0, none⟩ (.slice none 0 0)).setCell ⟨w.heap.size + 1 + 1 + 1, 1, none⟩ (.slice none 0 0)) = we at *
            obtain ⟨z0, z1, zf, zl⟩ := MO.two
            refine bodyPost_ret (v := .tuple #[.agg #[.slice none 0 0, .slice none 0 0], .int .i64 5]) (by simp [results, Try.results6, go_sem, z0, z1]) rfl ?_
            rw [HPR.out]
            exact ⟨rfl, hM⟩
    · have hRn : R = none := by rw [← hR, psO, if_neg (by rw [HTS.out]; exact hnu)]
      obtain ⟨U, hU⟩ : ∃ z, usedP P h xs ys ra rb = z := ⟨_, rfl⟩
      rw [hU] at hus hnu
      have f0 : ((nt : Int) != (U : Int)) = true := by rw [bne_iff_ne]; omega
      have HPR := Lib.hid hRn
      have HUS := Lib.hid hus
      clear hus hRn hR hU hrc e1 e2 k0 g gr ga gbb
      go_enter Try.func6, Try.ntmps6
      go_wp2_with (first | (go_at_call 18; refine (HRC.out _ r1 r2).mono ?_; rintro e w1 ⟨rfl, hb1⟩; replace BV := BV.below hb1; replace BB := BB.below hb1; replace BR := BR.below hb1; replace BO := BO.below hb1; replace r1 := r1.below hb1; replace r2 := r2.below hb1; replace hb := chain hb hb1; clear x0 x1 x2 x3 xf xl y0 y1 yf yl u0 u1 uf ul z0 z1 zf zl; obtain ⟨x0, x1, x2, x3, xf, xl⟩ := BV.four; obtain ⟨y0, y1, yf, yl⟩ := BB.two; obtain ⟨u0, u1, uf, ul⟩ := BR.two; obtain ⟨z0, z1, zf, zl⟩ := BO.two) | (go_at_call 19; refine (HUS.out _ r1 r2).mono ?_; rintro e w2 ⟨rfl, hb2⟩; replace BV := BV.below hb2; replace BB := BB.below hb2; replace BR := BR.below hb2; replace BO := BO.below hb2; replace r1 := r1.below hb2; replace r2 := r2.below hb2; replace hb := chain hb hb2; clear x0 x1 x2 x3 xf xl y0 y1 yf yl u0 u1 uf ul z0 z1 zf zl; obtain ⟨x0, x1, x2, x3, xf, xl⟩ := BV.four; obtain ⟨y0, y1, yf, yl⟩ := BB.two; obtain ⟨u0, u1, uf, ul⟩ := BR.two; obtain ⟨z0, z1, zf, zl⟩ := BO.two))
      have MO := (BO.set (i := 0) (.slice none 0 0)).set (i := 1) (.slice none 0 0)
      simp only [List.setIfInBounds_toArray, List.set_cons_zero, List.set_cons_succ] at MO
      have hM := (hb.setCell (p := ⟨w.heap.size + 1 + 1 + 1, 0, none⟩) (by simp <;> omega) (.slice none 0 0)).setCell (p := ⟨w.heap.size + 1 + 1 + 1, 1, none⟩) (by simp <;> omega) (.slice none 0 0)
      clear z0 z1 zf zl
      generalize ((w2.setCell ⟨w.heap.size + 1 + 1 + 1, 0, none⟩ (.slice none 0 0)).setCell ⟨w.heap.size + 1 + 1 + 1, 1, none⟩ (.slice none 0 0)) = we at *
      obtain ⟨z0, z1, zf, zl⟩ := MO.two
      refine bodyPost_ret (v := .tuple #[.agg #[.slice none 0 0, .slice none 0 0], .int .i64 5]) (by simp [results, Try.results6, go_sem, z0, z1]) rfl ?_
      rw [HPR.out]
      exact ⟨rfl, hM⟩
  · have e1 : psR p c h s xs ys ra rb ts = none := by unfold psR; rw [if_neg k0]
    have e2 : psK p c h s xs ys ra rb = codeB p c h s xs ys ra rb := by unfold psK; rw [if_neg k0]
    obtain ⟨K, hK⟩ : ∃ K, codeB p c h s xs ys ra rb = K := ⟨_, rfl⟩
    rw [hK] at hrc e2 k0
    have f0 : (K != 0) = true := by rw [bne_iff_ne]; exact k0
    have HPR := Lib.hid e1
    have HPK := Lib.hid e2
    have HRC := Lib.hid hrc
    clear hrc e1 e2 k0 hK
    go_enter Try.func6, Try.ntmps6
    go_wp2_with (go_at_call 18; refine (HRC.out _ r1 r2).mono ?_; rintro e w1 ⟨rfl, hb1⟩; replace BV := BV.below hb1; replace BB := BB.below hb1; replace BR := BR.below hb1; replace BO := BO.below hb1; replace r1 := r1.below hb1; replace r2 := r2.below hb1; replace hb := chain hb hb1; clear x0 x1 x2 x3 xf xl y0 y1 yf yl u0 u1 uf ul z0 z1 zf zl; obtain ⟨x0, x1, x2, x3, xf, xl⟩ := BV.four; obtain ⟨y0, y1, yf, yl⟩ := BB.two; obtain ⟨u0, u1, uf, ul⟩ := BR.two; obtain ⟨z0, z1, zf, zl⟩ := BO.two)
    have MO := (BO.set (i := 0) (.slice none 0 0)).set (i := 1) (.slice none 0 0)
    simp only [List.setIfInBounds_toArray, List.set_cons_zero, List.set_cons_succ] at MO
    have hM := (hb.setCell (p := ⟨w.heap.size + 1 + 1 + 1, 0, none⟩) (by simp <;> omega) (.slice none 0 0)).setCell (p := ⟨w.heap.size + 1 + 1 + 1, 1, none⟩) (by simp <;> omega) (.slice none 0 0)
    clear z0 z1 zf zl
    generalize ((w1.setCell ⟨w.heap.size + 1 + 1 + 1, 0, none⟩ (.slice none 0 0)).setCell ⟨w.heap.size + 1 + 1 + 1, 1, none⟩ (.slice none 0 0)) = we at *
    obtain ⟨z0, z1, zf, zl⟩ := MO.two
    refine bodyPost_ret (v := .tuple #[.agg #[.slice none 0 0, .slice none 0 0], .int .i64 K]) (by simp [results, Try.results6, go_sem, z0, z1]) rfl ?_
    rw [HPR.out, HPK.out]
    exact ⟨rfl, hM⟩
end Go.Proofs.Ytodlofabffenoaa
