/- Texts of a proof, laid together. -/
import Derived.Test.YtnlclmlnpkncoaaGreatW26
import Derived.Test.YtnlclmlnpkncoaaGreatW07
import Derived.Test.YtnlclmlnpkncoaaGreatW21
import Derived.Test.YtnlclmlnpkncoaaGreatW13
import Derived.Test.YtnlclmlnpkncoaaGreatW23
import Derived.Test.YtnlclmlnpkncoaaGreatW18
namespace Go.Proofs.YtnlclmlnpkncoaaGreat
open Go.ChangeShapes Go.WideShapes Go.ChangeAt Go.RowKit
set_option linter.unusedVariables false
set_option linter.unusedSimpArgs false
set_option maxRecDepth 4000
def exV (S : Nat) (y cd : Int) : Int × Int × Int := if cd = 0 then xo3 (rdX S y (dm S)) 3 else (0, 0, cd)
set_option maxRecDepth 8000 in
set_option maxHeartbeats 2000000 in
theorem exact_any (t : Tb) (hS : 1 ≤ t.S ∧ t.S ≤ 6) (y cd : Int) (hy : -1000000000000000000 ≤ y ∧ y ≤ 1000000000000000000) (w : World) (hI : TabI t w) :
    Calls Tryz.prog 36 #[.pointer (some ⟨t.g, 0, none⟩), .agg #[.int .i64 y, .int .i64 cd]] w fun e w' => e = .returned (xoV (exV t.S y cd)) ∧ Below w.heap.size w w' := by
  obtain ⟨BX, BO, hb, hz⟩ := two_new w #[.int .i64 y, .int .i64 cd] #[.int .i64 0, .int .i64 0] 67 35
  have htg := hI.st.1.lt
  replace hI := hI.below hb
  have hz1 : w.heap.size + 1 < ((w.alloc (.cells #[.int .i64 y, .int .i64 cd] 67)).alloc (.cells #[.int .i64 0, .int .i64 0] 35)).heap.size := by rw [hz]; omega
  clear hz
  obtain ⟨x0, x1, xf, xl⟩ := BX.two
  obtain ⟨z0, z1, zf, zl⟩ := BO.two
  by_cases hc : cd = 0
  · subst hc
    rw [exV, if_pos rfl]
    have hp := fun W => product_any y 1 (by omega) (by omega) W
    have hr := fun W hh ll (H : ScM W t.b t.S (nn t.S)) (HW : WD hh ll (y.natAbs * (1 : Int).natAbs)) => product_reduced t.b t.S hS y 1 (dm t.S) (by have := dm_in hS; omega) W hh ll H HW
    rw [Int.mul_one] at hr
    obtain ⟨⟨r1, r2, r3⟩, hv⟩ : ∃ r, xo3 (rdX t.S y (dm t.S)) 3 = r := ⟨_, rfl⟩
    rw [hv] at hr ⊢
    dsimp only [xoV] at hr ⊢
    have HP := Lib.hid hp
    have HR := Lib.hid hr
    have HS := hI.st.2.2.1
    have BT : Blk _ t.g t.cells 71 := hI.st.1
    clear hp hr hv hS hy
    go_enter Tryz.func36, Tryz.ntmps36
    go_wp2_with fail
    clear x0 x1 xf xl z0 z1 zf zl
    generalize ((w.alloc (.cells #[.int .i64 y, .int .i64 0] 67)).alloc (.cells #[.int .i64 0, .int .i64 0] 35)) = w1 at *
    replace BT := BT.drew
    replace HS := HS.drew
    replace BX := BX.drew
    replace BO := BO.drew
    replace hI := hI.drew
    replace hb := hb.drew
    refine wp_region_held_drew (S := fun w' => w'.cell? ⟨t.g, 5, none⟩ = some (.map (some t.b)) ∧ w'.cell? ⟨t.g, 7, none⟩ = some (.int .i64 (dm t.S : Int)) ∧ w'.cell? ⟨w.heap.size, 0, none⟩ = some (.int .i64 y)) (by kernel_rfl) ⟨BT.thirteen.2.2.2.2.2.1, BT.thirteen.2.2.2.2.2.2.2.1, BX.two.1⟩ (fun hHeld => ?_)
    clear hHeld
    have hz_vd : w1.drew.heap.size = w1.heap.size := rfl
    generalize w1.drew = vd at *
    have hHeld : vd.cell? ⟨t.g, 5, none⟩ = some (.map (some t.b)) ∧ vd.cell? ⟨t.g, 7, none⟩ = some (.int .i64 (dm t.S : Int)) ∧ vd.cell? ⟨w.heap.size, 0, none⟩ = some (.int .i64 y) := ⟨BT.thirteen.2.2.2.2.2.1, BT.thirteen.2.2.2.2.2.2.2.1, BX.two.1⟩
    refine tk 0 12 ?_
    refine tk 1 13 ?_
    refine tk 2 14 ?_
    refine tk 3 15 ?_
    refine tk 4 16 ?_
    refine tk 5 17 ?_
    refine tk 7 19 ?_
    refine tk 8 20 ?_
    refine tk 9 21 ?_
    refine tk 10 22 ?_
    refine rdk 6 18 fun K hK => ?_
    go_simp
    refine (HP.out _).mono ?_
    rintro e w2 ⟨hh, ll, rfl, HWD, hb2⟩
    replace BT := BT.below hb2
    replace HS := HS.below hb2
    replace BX := BX.below hb2
    replace BO := BO.below hb2
    replace hI := hI.below hb2
    replace hb := chain hb hb2
    clear hb2
    (try go_wp2_with fail)
    refine hko hK ⟨BT.thirteen.2.2.2.2.2.1, BT.thirteen.2.2.2.2.2.2.2.1, BX.two.1⟩ fun hHeld => ?_
    clear hK K
    refine rdk 11 23 fun K hK => ?_
    go_simp
    refine (HR.out _ _ _ HS HWD).mono ?_
    rintro e w3 ⟨rfl, hb3⟩
    replace BT := BT.below hb3
    replace HS := HS.below hb3
    replace BX := BX.below hb3
    replace BO := BO.below hb3
    replace hI := hI.below hb3
    replace hb := chain hb hb3
    clear hb3
    (try go_wp2_with fail)
    refine hko hK ⟨BT.thirteen.2.2.2.2.2.1, BT.thirteen.2.2.2.2.2.2.2.1, BX.two.1⟩ fun hHeld => ?_
    clear hK K
    refine tk 12 24 ?_
    refine tk 13 25 ?_
    refine rdn 14 fun K hK => ?_
    have u0 := BO.two.1
    have u1 := BO.two.2.1
    have uf := BO.two.2.2.1
    have ul := BO.two.2.2.2
    go_simp
    (try go_wp2_with fail)
    refine hko hK ⟨(BT.far2 (B := w.heap.size + 1) (by omega) (.int .i64 r1) (.int .i64 r2)).thirteen.2.2.2.2.2.1, (BT.far2 (B := w.heap.size + 1) (by omega) (.int .i64 r1) (.int .i64 r2)).thirteen.2.2.2.2.2.2.2.1, (BX.far2 (B := w.heap.size + 1) (by omega) (.int .i64 r1) (.int .i64 r2)).two.1⟩ fun hHeld => ?_
    clear hK K
    refine tk 15 5 ?_
    refine wpAnyH_done (by kernel_rfl) ?_ _
    clear hHeld
    have BRn := BO.set2 (.int .i64 r1) (.int .i64 r2)
    obtain ⟨u0, u1, uf, ul⟩ := BRn.two
    go_wp2_with fail
    refine bodyPost_ret (v := .tuple #[.agg #[.int .i64 r1, .int .i64 r2], .int .i64 r3]) (by simp [results, Tryz.results36, go_sem, u0, u1]) rfl ?_
    exact ⟨rfl, belowFar2 hb (by omega) _ _⟩
  · have f0 : (cd != 0) = true := by rw [bne_iff_ne]; exact hc
    rw [exV, if_neg hc]
    clear hI
    go_enter Tryz.func36, Tryz.ntmps36
    go_wp2_with fail
    clear x0 x1 xf xl z0 z1 zf zl
    generalize ((w.alloc (.cells #[.int .i64 y, .int .i64 cd] 67)).alloc (.cells #[.int .i64 0, .int .i64 0] 35)) = w1 at *
    replace BX := BX.drew
    replace BO := BO.drew
    replace hb := hb.drew
    refine wp_region_held_drew (S := fun w' => w'.cell? ⟨w.heap.size, 1, none⟩ = some (.int .i64 cd)) (by kernel_rfl) BX.two.2.1 (fun hHeld => ?_)
    clear hHeld
    have hz_vd : w1.drew.heap.size = w1.heap.size := rfl
    generalize w1.drew = vd at *
    have hHeld : vd.cell? ⟨w.heap.size, 1, none⟩ = some (.int .i64 cd) := BX.two.2.1
    refine tk 0 9 ?_
    refine tk 1 10 ?_
    refine tk 2 11 ?_
    refine rdn 3 fun K hK => ?_
    have u0 := BO.two.1
    have u1 := BO.two.2.1
    have uf := BO.two.2.2.1
    have ul := BO.two.2.2.2
    go_simp
    (try go_wp2_with fail)
    refine hko hK ((BX.far2 (B := w.heap.size + 1) (by omega) (.int .i64 0) (.int .i64 0)).two.2.1) fun hHeld => ?_
    clear hK K
    refine tk 4 5 ?_
    refine wpAnyH_done (by kernel_rfl) ?_ _
    clear hHeld
    have BRn := BO.set2 (.int .i64 0) (.int .i64 0)
    obtain ⟨u0, u1, uf, ul⟩ := BRn.two
    go_wp2_with fail
    refine bodyPost_ret (v := .tuple #[.agg #[.int .i64 0, .int .i64 0], .int .i64 cd]) (by simp [results, Tryz.results36, go_sem, u0, u1]) rfl ?_
    exact ⟨rfl, belowFar2 hb (by omega) _ _⟩
def tcE (p c h s : Int) (xs : List Int) : Int := if bcE p c h s xs = 0 then (if cnt h.toNat c.toNat ≤ 500 then 0 else 3) else bcE p c h s xs
theorem tcE_zero {p c h s : Int} {xs : List Int} (e : tcE p c h s xs = 0) : bcE p c h s xs = 0 ∧ cnt h.toNat c.toNat ≤ 500 := by
  unfold tcE at e
  split at e
  · rename_i q
    split at e
    · rename_i r
      exact ⟨q, r⟩
    · omega
  · rename_i q
    exact absurd e q
set_option maxHeartbeats 1000000 in
theorem tableCode_any (p c h s : Int) (a : Option Addr) (n cap : Nat) (xs : List Int) (w : World) (hn : xs.length = n) (hle : n ≤ 1048576) (hr : IRow w a xs) :
    Calls Tryz.prog 79 #[.agg #[.int .i64 p, .int .i64 c, .int .i64 h, .int .i64 s], .slice a n cap] w fun e w' => e = .returned (.int .i64 (tcE p c h s xs)) ∧ Below w.heap.size w w' := by
  have BV := Blk.new w #[.int .i64 p, .int .i64 c, .int .i64 h, .int .i64 s] 25
  have hb : Below w.heap.size w (w.alloc (.cells #[.int .i64 p, .int .i64 c, .int .i64 h, .int .i64 s] 25)) := (Below.refl _ _).alloc (Nat.le_refl _) _
  replace hr := hr.below hb
  obtain ⟨x0, x1, x2, x3, xf, xl⟩ := BV.four
  have hC := fun W (r : IRow W a xs) => bearoffCode_any p c h s a n cap xs W hn hle r
  by_cases g : bcE p c h s xs = 0
  · have hv := (okP_parts (okP_of g))
    have hS := fun W gg (q : WaysAt W gg) => bearoffCountM_any p s c.toNat h.toNat gg W (by omega) (by omega) q
    rw [show ((h.toNat : Nat) : Int) = h by omega, show ((c.toNat : Nat) : Int) = c by omega] at hS
    rw [tcE, if_pos g]
    rw [g] at hC
    have HC := Lib.hid hC
    obtain ⟨R, hR⟩ : ∃ R, wyI h.toNat c.toNat = R := ⟨_, rfl⟩
    rw [hR] at hS
    rw [wyI] at hR
    obtain ⟨N, hN⟩ : ∃ N, cnt h.toNat c.toNat = N := ⟨_, rfl⟩
    rw [hN] at hR ⊢
    have HS := Lib.hid hS
    obtain ⟨U, hU⟩ : ∃ U : Int, (if N ≤ 500 then 0 else 3) = U := ⟨_, rfl⟩
    rw [hU]
    have hcases : (U = 0 ∧ 0 ≤ R ∧ R ≤ 500) ∨ (U = 3 ∧ 501 ≤ R) ∨ (U = 3 ∧ R = -1) := by
      split at hR <;> split at hU <;> omega
    clear hC hS g hv hR hN hU
    go_enter Tryz.func79, Tryz.ntmps79
    go_wp2_with fail
    refine (HC.out _ hr).mono ?_
    rintro e w1 ⟨rfl, hb1⟩
    replace BV := BV.below hb1
    replace hb := chain hb hb1
    clear x0 x1 x2 x3 xf xl hb1 hr
    go_wp2_with fail
    have hd_ : w1.drew.heap.size = w1.heap.size := rfl
    replace BV := BV.drew
    replace hb := hb.drew
    refine wp_region_held_drew (S := fun w' => w'.cell? ⟨w.heap.size, 0, none⟩ = some (.int .i64 p) ∧ w'.cell? ⟨w.heap.size, 1, none⟩ = some (.int .i64 c) ∧ w'.cell? ⟨w.heap.size, 2, none⟩ = some (.int .i64 h) ∧ w'.cell? ⟨w.heap.size, 3, none⟩ = some (.int .i64 s)) (by kernel_rfl) ⟨BV.four.1, BV.four.2.1, BV.four.2.2.1, BV.four.2.2.2.1⟩ (fun hHeld => ?_)
    clear hHeld
    generalize w1.drew = vd at *
    have hHeld : vd.cell? ⟨w.heap.size, 0, none⟩ = some (.int .i64 p) ∧ vd.cell? ⟨w.heap.size, 1, none⟩ = some (.int .i64 c) ∧ vd.cell? ⟨w.heap.size, 2, none⟩ = some (.int .i64 h) ∧ vd.cell? ⟨w.heap.size, 3, none⟩ = some (.int .i64 s) := ⟨BV.four.1, BV.four.2.1, BV.four.2.2.1, BV.four.2.2.2.1⟩
    refine tk 1 14 ?_
    refine rdk 0 13 fun K hK => ?_
    go_simp
    refine (countWays_any _).mono ?_
    rintro e w2 ⟨g, rfl, hg, HW, hq⟩
    replace BV := BV.below hq
    replace hb := chain hb hq
    clear hq
    (try go_wp2_with fail)
    refine hko hK (Blk.l4 BV) fun hHeld => ?_
    clear hK K
    refine rdk 2 15 fun K hK => ?_
    go_simp
    refine (HS.out _ g HW).mono ?_
    rintro e w3 ⟨rfl, hq⟩
    replace BV := BV.below hq
    replace hb := chain hb hq
    clear hq
    (try go_wp2_with fail)
    refine hko hK (Blk.l4 BV) fun hHeld => ?_
    clear hK K
    refine tk 3 6 ?_
    refine wpAnyH_done (by kernel_rfl) ?_ _
    clear hHeld
    rcases hcases with ⟨rfl, k2, k3⟩ | ⟨rfl, k2⟩ | ⟨rfl, rfl⟩
    · have f0 : (decide (R < 0)) = false := by rw [decide_eq_false_iff_not]; omega
      have f1 : (decide (500 < R)) = false := by rw [decide_eq_false_iff_not]; omega
      go_wp2
      go_ret
      exact ⟨rfl, hb⟩
    · have f0 : (decide (R < 0)) = false := by rw [decide_eq_false_iff_not]; omega
      have f1 : (decide (500 < R)) = true := by rw [decide_eq_true_iff]; omega
      have f2 : ¬ R < 0 := by omega
      have f3 : 500 < R := by omega
      go_wp2
      go_ret
      exact ⟨rfl, hb⟩
    · go_wp2
      go_ret
      exact ⟨rfl, hb⟩
  · rw [tcE, if_neg g]
    obtain ⟨K, hK⟩ : ∃ K, bcE p c h s xs = K := ⟨_, rfl⟩
    rw [hK] at hC g ⊢
    have HC := Lib.hid hC
    have f0 : (K != 0) = true := by rw [bne_iff_ne]; exact g
    clear hC hK
    go_enter Tryz.func79, Tryz.ntmps79
    go_wp2_with fail
    refine (HC.out _ hr).mono ?_
    rintro e w1 ⟨rfl, hb1⟩
    go_wp2
    go_ret
    exact ⟨rfl, chain hb hb1⟩
def rcB (p c h s : Int) (xs ys : List Int) : Int := if bcE p c h s ys ≠ 0 then bcE p c h s ys else tcE p c h s xs
def rcE (p c h s : Int) (xs ys : List Int) : Int := if rcB p c h s xs ys = 0 then (if xs.sum = 0 ∧ ys.sum = 0 then 5 else 0) else rcB p c h s xs ys
def ocE (p c h s : Int) (xs ys : List Int) : Int := if rcE p c h s xs ys = 0 then (if xs.sum = 0 ∨ ys.sum = 0 then 5 else 0) else rcE p c h s xs ys
def tnE (p c h s : Int) (xs ys : List Int) (ra rb : Int) : Int := if vB p c h s = true ∧ rlB s ra rb = false then 2 else ocE p c h s xs ys
theorem rcB_zero {p c h s : Int} {xs ys : List Int} (e : rcB p c h s xs ys = 0) : Ps p c h s xs ∧ Ps p c h s ys ∧ cnt h.toNat c.toNat ≤ 500 := by
  unfold rcB at e
  split at e
  · rename_i q
    exact absurd e q
  · rename_i q
    replace q : bcE p c h s ys = 0 := by omega
    exact ⟨okP_of (tcE_zero e).1, okP_of q, (tcE_zero e).2⟩
theorem rcE_zero {p c h s : Int} {xs ys : List Int} (e : rcE p c h s xs ys = 0) : rcB p c h s xs ys = 0 ∧ ¬ (xs.sum = 0 ∧ ys.sum = 0) := by
  unfold rcE at e
  split at e
  · rename_i q
    split at e
    · omega
    · rename_i r
      exact ⟨q, r⟩
  · rename_i q
    exact absurd e q
theorem ocE_zero {p c h s : Int} {xs ys : List Int} (e : ocE p c h s xs ys = 0) : rcE p c h s xs ys = 0 ∧ xs.sum ≠ 0 ∧ ys.sum ≠ 0 := by
  unfold ocE at e
  split at e
  · rename_i q
    split at e
    · omega
    · rename_i r
      exact ⟨q, fun k => r (.inl k), fun k => r (.inr k)⟩
  · rename_i q
    exact absurd e q
set_option maxRecDepth 8000 in
set_option maxHeartbeats 1000000 in
theorem raceCode_any (p c h s : Int) (a1 a2 : Option Addr) (n1 n2 c1 c2 : Nat) (xs ys : List Int) (w : World) (hn1 : xs.length = n1) (hn2 : ys.length = n2) (hl1 : n1 ≤ 1048576) (hl2 : n2 ≤ 1048576) (hr1 : IRow w a1 xs) (hr2 : IRow w a2 ys) :
    Calls Tryz.prog 42 #[.agg #[.int .i64 p, .int .i64 c, .int .i64 h, .int .i64 s], .slice a1 n1 c1, .slice a2 n2 c2] w fun e w' => e = .returned (.int .i64 (rcE p c h s xs ys)) ∧ Below w.heap.size w w' := by
  have BV := Blk.new w #[.int .i64 p, .int .i64 c, .int .i64 h, .int .i64 s] 25
  have hb : Below w.heap.size w (w.alloc (.cells #[.int .i64 p, .int .i64 c, .int .i64 h, .int .i64 s] 25)) := (Below.refl _ _).alloc (Nat.le_refl _) _
  replace hr1 := hr1.below hb
  replace hr2 := hr2.below hb
  obtain ⟨x0, x1, x2, x3, xf, xl⟩ := BV.four
  have hC := fun W (r : IRow W a2 ys) => bearoffCode_any p c h s a2 n2 c2 ys W hn2 hl2 r
  have hT := fun W (r : IRow W a1 xs) => tableCode_any p c h s a1 n1 c1 xs W hn1 hl1 r
  have hZ : ∀ W (r1 : IRow W a1 xs) (r2 : IRow W a2 ys), rcB p c h s xs ys = 0 → Calls Tryz.prog 57 #[.slice a1 n1 c1] W (fun e w' => e = .returned (.int .i64 xs.sum) ∧ W = w') ∧ Calls Tryz.prog 57 #[.slice a2 n2 c2] W (fun e w' => e = .returned (.int .i64 ys.sum) ∧ W = w') := fun W r1 r2 e => by
    obtain ⟨q1, q2, -⟩ := rcB_zero e
    obtain ⟨u1, v1, v2, v3, -⟩ := q1.po
    obtain ⟨t1, -, -, t3, -⟩ := q2.po
    exact ⟨checkersOf_any a1 n1 c1 xs W hn1 (by omega) (fun x hx => by have := u1.all x hx; omega) r1, checkersOf_any a2 n2 c2 ys W hn2 (by omega) (fun x hx => by have := t1.all x hx; omega) r2⟩
  unfold rcE
  unfold rcB at *
  obtain ⟨KB, hKB⟩ : ∃ K, bcE p c h s ys = K := ⟨_, rfl⟩
  obtain ⟨KT, hKT⟩ : ∃ K, tcE p c h s xs = K := ⟨_, rfl⟩
  rw [hKB] at hC
  rw [hKT] at hT
  rw [hKB, hKT] at hZ ⊢
  have hO := fun W g (HB : Blk W g #[.int .i64 KB, .int .i64 KT] 2) => or64_any g KB KT W HB
  obtain ⟨K, hK⟩ : ∃ K, (if KB ≠ 0 then KB else KT) = K := ⟨_, rfl⟩
  rw [hK] at hO hZ ⊢
  have HO := Lib.hid (fun (W : World) (HB : Blk (W.alloc (.cells #[.int .i64 KB, .int .i64 KT] 2)) W.heap.size #[.int .i64 KB, .int .i64 KT] 2) => hO _ _ HB)
  have HC := Lib.hid hC
  have HT := Lib.hid hT
  have HZ := Lib.hid hZ
  obtain ⟨X, hX⟩ : ∃ X, xs.sum = X := ⟨_, rfl⟩
  obtain ⟨Y, hY⟩ : ∃ Y, ys.sum = Y := ⟨_, rfl⟩
  rw [hX, hY] at HZ
  rw [hX, hY]
  obtain ⟨E, hE⟩ : ∃ E, (if K = 0 then (if X = 0 ∧ Y = 0 then 5 else 0) else K) = E := ⟨_, rfl⟩
  rw [hE]
  have HE := Lib.hid hE
  clear hE hX hY
  clear hO hC hT hZ hK hKB hKT hn1 hn2 hl1 hl2
  go_enter Tryz.func42, Tryz.ntmps42
  go_wp2_with fail
  clear x0 x1 x2 x3 xf xl
  generalize (w.alloc (.cells #[.int .i64 p, .int .i64 c, .int .i64 h, .int .i64 s] 25)) = w1 at *
  replace BV := BV.drew
  replace hr1 := hr1.drew
  replace hr2 := hr2.drew
  replace hb := hb.drew
  refine wp_region_held_drew (S := fun w' => w'.cell? ⟨w.heap.size, 0, none⟩ = some (.int .i64 p) ∧ w'.cell? ⟨w.heap.size, 1, none⟩ = some (.int .i64 c) ∧ w'.cell? ⟨w.heap.size, 2, none⟩ = some (.int .i64 h) ∧ w'.cell? ⟨w.heap.size, 3, none⟩ = some (.int .i64 s)) (by kernel_rfl) ⟨BV.four.1, BV.four.2.1, BV.four.2.2.1, BV.four.2.2.2.1⟩ (fun hHeld => ?_)
  clear hHeld
  have hz_vd : w1.drew.heap.size = w1.heap.size := rfl
  generalize w1.drew = vd at *
  have hHeld : vd.cell? ⟨w.heap.size, 0, none⟩ = some (.int .i64 p) ∧ vd.cell? ⟨w.heap.size, 1, none⟩ = some (.int .i64 c) ∧ vd.cell? ⟨w.heap.size, 2, none⟩ = some (.int .i64 h) ∧ vd.cell? ⟨w.heap.size, 3, none⟩ = some (.int .i64 s) := ⟨BV.four.1, BV.four.2.1, BV.four.2.2.1, BV.four.2.2.2.1⟩
  refine tk 0 8 ?_
  refine tk 1 9 ?_
  refine tk 3 11 ?_
  refine tk 4 12 ?_
  refine rdk 2 10 fun K hK => ?_
  go_simp
  refine (HC.out _ hr2).mono ?_
  rintro e w2 ⟨rfl, hb2⟩
  replace BV := BV.below hb2
  replace hr1 := hr1.below hb2
  replace hr2 := hr2.below hb2
  replace hb := chain hb hb2
  clear hb2
  (try go_wp2_with fail)
  refine hko hK (Blk.l4 BV) fun hHeld => ?_
  clear hK K
  refine rdk 5 13 fun K hK => ?_
  go_simp
  refine (HT.out _ hr1).mono ?_
  rintro e w3 ⟨rfl, hb3⟩
  replace BV := BV.below hb3
  replace hr1 := hr1.below hb3
  replace hr2 := hr2.below hb3
  replace hb := chain hb hb3
  clear hb3
  (try go_wp2_with fail)
  refine hko hK (Blk.l4 BV) fun hHeld => ?_
  clear hK K
  refine rdk 6 14 fun K hK => ?_
  go_simp
  (try go_wp2_with fail)
  refine hko hK (Blk.l4 (BV.alloc (.cells #[.int .i64 KB, .int .i64 KT] 2))) fun hHeld => ?_
  clear hK K
  refine rdk 7 15 fun K hK => ?_
  go_simp
  have B8 := Blk.new w3 #[.int .i64 KB, .int .i64 KT] 2
  have hal : Below w3.heap.size w3 (w3.alloc (.cells #[.int .i64 KB, .int .i64 KT] 2)) := (Below.refl _ _).alloc (Nat.le_refl _) _
  replace BV := BV.below hal
  replace hr1 := hr1.below hal
  replace hr2 := hr2.below hal
  replace hb := chain hb hal
  clear hal
  refine (HO.out _ B8).mono ?_
  rintro e w4 ⟨rfl, rfl⟩
  (try go_wp2_with fail)
  refine hko hK (Blk.l4 BV) fun hHeld => ?_
  clear hK K
  refine tk 8 7 ?_
  refine wpAnyH_done (by kernel_rfl) ?_ _
  clear hHeld
  by_cases k0 : K = 0
  · subst k0
    have hz := HZ.out _ hr1 hr2 rfl
    have HZ1 := Lib.hid hz.1
    have HZ2 := Lib.hid hz.2
    clear hz HZ
    by_cases kx : X = 0
    · by_cases ky : Y = 0
      · have e := HE.out
        rw [if_pos rfl, if_pos ⟨kx, ky⟩] at e
        subst e kx ky
        clear HE
        go_wp2_with fail
        refine (HZ1.out).mono ?_
        rintro e w5 ⟨rfl, rfl⟩
        go_wp2_with fail
        refine (HZ2.out).mono ?_
        rintro e w5 ⟨rfl, rfl⟩
        go_wp2
        go_ret
        exact ⟨rfl, hb⟩
      · have e := HE.out
        rw [if_pos rfl, if_neg (fun q => ky q.2)] at e
        have f0 : (Y == 0) = false := by rw [beq_eq_false_iff_ne]; exact ky
        subst e kx
        clear HE
        go_wp2_with fail
        refine (HZ1.out).mono ?_
        rintro e w5 ⟨rfl, rfl⟩
        go_wp2_with fail
        refine (HZ2.out).mono ?_
        rintro e w5 ⟨rfl, rfl⟩
        go_wp2
        go_ret
        exact ⟨rfl, hb⟩
    · have e := HE.out
      rw [if_pos rfl, if_neg (fun q => kx q.1)] at e
      have f0 : (X == 0) = false := by rw [beq_eq_false_iff_ne]; exact kx
      subst e
      clear HE
      go_wp2_with fail
      refine (HZ1.out).mono ?_
      rintro e w5 ⟨rfl, rfl⟩
      go_wp2
      go_ret
      exact ⟨rfl, hb⟩
  · have e := HE.out
    rw [if_neg k0] at e
    have f0 : (K == 0) = false := by rw [beq_eq_false_iff_ne]; exact k0
    subst e
    clear HE
    go_wp2
    go_ret
    exact ⟨rfl, hb⟩
set_option maxRecDepth 8000 in
set_option maxHeartbeats 1000000 in
theorem openCode_any (p c h s : Int) (a1 a2 : Option Addr) (n1 n2 c1 c2 : Nat) (xs ys : List Int) (w : World) (hn1 : xs.length = n1) (hn2 : ys.length = n2) (hl1 : n1 ≤ 1048576) (hl2 : n2 ≤ 1048576) (hr1 : IRow w a1 xs) (hr2 : IRow w a2 ys) :
    Calls Tryz.prog 22 #[.agg #[.int .i64 p, .int .i64 c, .int .i64 h, .int .i64 s], .slice a1 n1 c1, .slice a2 n2 c2] w fun e w' => e = .returned (.int .i64 (ocE p c h s xs ys)) ∧ Below w.heap.size w w' := by
  have BV := Blk.new w #[.int .i64 p, .int .i64 c, .int .i64 h, .int .i64 s] 25
  have hb : Below w.heap.size w (w.alloc (.cells #[.int .i64 p, .int .i64 c, .int .i64 h, .int .i64 s] 25)) := (Below.refl _ _).alloc (Nat.le_refl _) _
  replace hr1 := hr1.below hb
  replace hr2 := hr2.below hb
  obtain ⟨x0, x1, x2, x3, xf, xl⟩ := BV.four
  have HC := Lib.hid (raceCode_any p c h s a1 a2 n1 n2 c1 c2 xs ys _ hn1 hn2 hl1 hl2 hr1 hr2)
  have hZ : ∀ W (r1 : IRow W a1 xs) (r2 : IRow W a2 ys), rcE p c h s xs ys = 0 → Calls Tryz.prog 57 #[.slice a1 n1 c1] W (fun e w' => e = .returned (.int .i64 xs.sum) ∧ W = w') ∧ Calls Tryz.prog 57 #[.slice a2 n2 c2] W (fun e w' => e = .returned (.int .i64 ys.sum) ∧ W = w') := fun W r1 r2 e => by
    obtain ⟨q1, q2, -⟩ := rcB_zero (rcE_zero e).1
    obtain ⟨u1, v1, v2, v3, -⟩ := q1.po
    obtain ⟨t1, -, -, t3, -⟩ := q2.po
    exact ⟨checkersOf_any a1 n1 c1 xs W hn1 (by omega) (fun x hx => by have := u1.all x hx; omega) r1, checkersOf_any a2 n2 c2 ys W hn2 (by omega) (fun x hx => by have := t1.all x hx; omega) r2⟩
  unfold ocE
  obtain ⟨K, hK⟩ : ∃ K, rcE p c h s xs ys = K := ⟨_, rfl⟩
  rw [hK] at HC hZ ⊢
  have HZ := Lib.hid hZ
  obtain ⟨X, hX⟩ : ∃ X, xs.sum = X := ⟨_, rfl⟩
  obtain ⟨Y, hY⟩ : ∃ Y, ys.sum = Y := ⟨_, rfl⟩
  rw [hX, hY] at HZ
  rw [hX, hY]
  obtain ⟨E, hE⟩ : ∃ E, (if K = 0 then (if X = 0 ∨ Y = 0 then 5 else 0) else K) = E := ⟨_, rfl⟩
  rw [hE]
  have HE := Lib.hid hE
  clear hE hX hY hZ hK hn1 hn2 hl1 hl2
  go_enter Tryz.func22, Tryz.ntmps22
  go_wp2_with fail
  refine (HC.out).mono ?_
  rintro e w1 ⟨rfl, hb1⟩
  replace hr1 := hr1.below hb1
  replace hr2 := hr2.below hb1
  replace hb := chain hb hb1
  clear x0 x1 x2 x3 xf xl hb1 HC BV
  by_cases k0 : K = 0
  · subst k0
    have hz := HZ.out _ hr1 hr2 rfl
    have HZ1 := Lib.hid hz.1
    have HZ2 := Lib.hid hz.2
    clear hz HZ
    by_cases kx : X = 0
    · have e := HE.out
      rw [if_pos rfl, if_pos (.inl kx)] at e
      subst e kx
      clear HE
      go_wp2_with fail
      refine (HZ1.out).mono ?_
      rintro e w5 ⟨rfl, rfl⟩
      go_wp2
      go_ret
      exact ⟨rfl, hb⟩
    · have f0 : (X == 0) = false := by rw [beq_eq_false_iff_ne]; exact kx
      by_cases ky : Y = 0
      · have e := HE.out
        rw [if_pos rfl, if_pos (.inr ky)] at e
        subst e ky
        clear HE
        go_wp2_with fail
        refine (HZ1.out).mono ?_
        rintro e w5 ⟨rfl, rfl⟩
        go_wp2_with fail
        refine (HZ2.out).mono ?_
        rintro e w5 ⟨rfl, rfl⟩
        go_wp2
        go_ret
        exact ⟨rfl, hb⟩
      · have e := HE.out
        rw [if_pos rfl, if_neg (fun q => q.elim kx ky)] at e
        have f1 : (Y == 0) = false := by rw [beq_eq_false_iff_ne]; exact ky
        subst e
        clear HE
        go_wp2_with fail
        refine (HZ1.out).mono ?_
        rintro e w5 ⟨rfl, rfl⟩
        go_wp2_with fail
        refine (HZ2.out).mono ?_
        rintro e w5 ⟨rfl, rfl⟩
        go_wp2
        go_ret
        exact ⟨rfl, hb⟩
  · have e := HE.out
    rw [if_neg k0] at e
    have f0 : (K == 0) = false := by rw [beq_eq_false_iff_ne]; exact k0
    subst e
    clear HE
    go_wp2
    go_ret
    exact ⟨rfl, hb⟩
set_option maxRecDepth 8000 in
set_option maxHeartbeats 1000000 in
theorem turnCode_any (p c h s : Int) (a1 a2 : Option Addr) (n1 n2 c1 c2 : Nat) (xs ys : List Int) (ra rb : Int) (w : World) (hn1 : xs.length = n1) (hn2 : ys.length = n2) (hl1 : n1 ≤ 1048576) (hl2 : n2 ≤ 1048576) (hr1 : IRow w a1 xs) (hr2 : IRow w a2 ys) :
    Calls Tryz.prog 33 #[.agg #[.int .i64 p, .int .i64 c, .int .i64 h, .int .i64 s], .slice a1 n1 c1, .slice a2 n2 c2, .agg #[.int .i64 ra, .int .i64 rb]] w fun e w' => e = .returned (.int .i64 (tnE p c h s xs ys ra rb)) ∧ Below w.heap.size w w' := by
  obtain ⟨BV, BQ, hb, hz⟩ := two_new w #[.int .i64 p, .int .i64 c, .int .i64 h, .int .i64 s] #[.int .i64 ra, .int .i64 rb] 25 39
  clear hz
  replace hr1 := hr1.below hb
  replace hr2 := hr2.below hb
  have HV := Lib.hid (fun W => valid_any p c h s W)
  have HH := Lib.hid (fun W => hasRoll_any p c h s ra rb W)
  have HC := Lib.hid (fun W r1 r2 => openCode_any p c h s a1 a2 n1 n2 c1 c2 xs ys W hn1 hn2 hl1 hl2 r1 r2)
  unfold tnE
  obtain ⟨K, hK⟩ : ∃ K, ocE p c h s xs ys = K := ⟨_, rfl⟩
  obtain ⟨vb, hvb⟩ : ∃ b, vB p c h s = b := ⟨_, rfl⟩
  obtain ⟨lb, hlb⟩ : ∃ b, rlB s ra rb = b := ⟨_, rfl⟩
  rw [hK] at HC
  rw [hvb] at HV
  rw [hlb] at HH
  rw [hK, hvb, hlb]
  clear hK hvb hlb hn1 hn2 hl1 hl2
  obtain ⟨x0, x1, x2, x3, xf, xl⟩ := BV.four
  obtain ⟨z0, z1, zf, zl⟩ := BQ.two
  cases vb with
  | false =>
    rw [if_neg (by simp)]
    go_enter Tryz.func33, Tryz.ntmps33
    go_wp2_with fail
    refine (HV.out _).mono ?_
    rintro e w1 ⟨rfl, hb1⟩
    clear x0 x1 x2 x3 xf xl z0 z1 zf zl
    obtain ⟨x0, x1, x2, x3, xf, xl⟩ := (BV.below hb1).four
    go_wp2_with fail
    refine (HC.out _ (hr1.below hb1) (hr2.below hb1)).mono ?_
    rintro e w2 ⟨rfl, hb2⟩
    go_wp2
    go_ret
    exact ⟨rfl, chain (chain hb hb1) hb2⟩
  | true =>
    cases lb with
    | false =>
      rw [if_pos ⟨rfl, rfl⟩]
      go_enter Tryz.func33, Tryz.ntmps33
      go_wp2_with fail
      refine (HV.out _).mono ?_
      rintro e w1 ⟨rfl, hb1⟩
      clear x0 x1 x2 x3 xf xl z0 z1 zf zl
      obtain ⟨x0, x1, x2, x3, xf, xl⟩ := (BV.below hb1).four
      obtain ⟨z0, z1, zf, zl⟩ := (BQ.below hb1).two
      go_wp2_with fail
      refine (HH.out _).mono ?_
      rintro e w2 ⟨rfl, hb2⟩
      go_wp2
      go_ret
      exact ⟨rfl, chain (chain hb hb1) hb2⟩
    | true =>
      rw [if_neg (by simp)]
      go_enter Tryz.func33, Tryz.ntmps33
      go_wp2_with fail
      refine (HV.out _).mono ?_
      rintro e w1 ⟨rfl, hb1⟩
      clear x0 x1 x2 x3 xf xl z0 z1 zf zl
      obtain ⟨x0, x1, x2, x3, xf, xl⟩ := (BV.below hb1).four
      obtain ⟨z0, z1, zf, zl⟩ := (BQ.below hb1).two
      go_wp2_with fail
      refine (HH.out _).mono ?_
      rintro e w2 ⟨rfl, hb2⟩
      clear x0 x1 x2 x3 xf xl z0 z1 zf zl
      obtain ⟨x0, x1, x2, x3, xf, xl⟩ := ((BV.below hb1).below hb2).four
      go_wp2_with fail
      refine (HC.out _ ((hr1.below hb1).below hb2) ((hr2.below hb1).below hb2)).mono ?_
      rintro e w3 ⟨rfl, hb3⟩
      go_wp2
      go_ret
      exact ⟨rfl, chain (chain (chain hb hb1) hb2) hb3⟩
def exO (S : Nat) (o : Option Int) : Int × Int × Int := match o with
  | none => (0, 0, 3)
  | some P => xo3 (rdX S P (dm S)) 3
theorem PV.ex {S : Nat} {o : Option Int} {y cd : Int} (h : PV S o y cd) : exV S y cd = exO S o := by
  unfold PV at h
  unfold exV exO
  cases o with
  | none => dsimp only at h ⊢; rw [if_neg (by omega), h.1]
  | some x => dsimp only at h ⊢; rw [if_pos h.2, h.1]
theorem rc_ready {p c h s : Int} {xs ys : List Int} (e : rcB p c h s xs ys = 0) : ∃ S : Nat, s = (S : Int) ∧ (1 ≤ S ∧ S ≤ 6) ∧ Ps p c h (S : Int) xs ∧ Ps p c h (S : Int) ys ∧ cnt h.toNat c.toNat ≤ 500 ∧ fewB c h = true := by
  obtain ⟨hx, hy, hc⟩ := rcB_zero e
  have hv := vB_iff.1 (okP_v hx).1
  obtain ⟨S, rfl⟩ : ∃ S : Nat, s = (S : Int) := ⟨s.toNat, by omega⟩
  exact ⟨S, rfl, by omega, hx, hy, hc, by rw [fewB, decide_eq_true_iff]; omega⟩
theorem Tb.in_of {t : Tb} {xs ys : List Int} (hx : Ps t.p t.c t.h (t.S : Int) xs) (hy : Ps t.p t.c t.h (t.S : Int) ys) (hc : cnt t.h.toNat t.c.toNat ≤ 500) (hK : t.K = max (nm t.c xs) (nm t.c ys) + 1) : t.In xs ∧ t.In ys ∧ t.K ≤ 1000 := by
  have h1 := nm_lt hx
  have h2 := nm_lt hy
  exact ⟨⟨hx, by omega⟩, ⟨hy, by omega⟩, by omega⟩
end Go.Proofs.YtnlclmlnpkncoaaGreat
