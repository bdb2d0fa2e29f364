/- Contracts of chapter 13: the entry of a database, of both sides. -/
import Derived.Test.Ytaimieaegfcdoaa13h
import Derived.Deep.QuietTactic
namespace Go.Proofs.Ytaimieaegfcdoaa
open Go.ChangeShapes Go.WideShapes Go.ChangeAt Go.RowKit
set_option linter.unusedVariables false
set_option linter.unusedSimpArgs false
set_option maxRecDepth 4000

/-- Which entry belongs to a position, or to a pair. -/
def enI (c N kd : Int) (xs ys : List Int) : Int := if kd = 2 then (pnum c xs : Int) * N + (pnum c ys : Int) else (pnum c xs : Int)
def enC (p c h s kd : Int) (L : List Rl) (xs ys : List Int) : Int :=
  if dbB p c h s kd L = true then (if sideB (h - 1) c xs = true ∧ (kd = 2 → sideB (h - 1) c ys = true) then 0 else 2) else 1
def enV (p c h s kd : Int) (L : List Rl) (xs ys : List Int) : Rl :=
  if enC p c h s kd L xs ys = 0 then L.getD (enI c (wyI h.toNat c.toNat) kd xs ys).toNat (0, 0) else (0, 0)
theorem dbB_parts {p c h s kd : Int} {L : List Rl} (g : dbB p c h s kd L = true) : vB p c h s = true ∧ szI (wyI h.toNat c.toNat) kd = (L.length : Int) := by
  unfold dbB at g
  simp only [Bool.and_eq_true, decide_eq_true_eq] at g
  exact ⟨g.1, g.2.2.1⟩
/-- The index of an entry. -/
theorem en_lt {p c h s kd : Int} {L : List Rl} {xs ys : List Int} (g : dbB p c h s kd L = true) (k1 : sideB (h - 1) c xs = true) (k2 : kd = 2 → sideB (h - 1) c ys = true) :
    (0 ≤ wyI h.toNat c.toNat ∧ wyI h.toNat c.toNat ≤ 500 ∧ cnt h.toNat c.toNat ≤ 1000000) ∧ (pnum c xs : Int) < wyI h.toNat c.toNat ∧ (kd = 2 → (pnum c ys : Int) < wyI h.toNat c.toNat) ∧ 0 ≤ enI c (wyI h.toNat c.toNat) kd xs ys ∧ enI c (wyI h.toNat c.toNat) kd xs ys < (L.length : Int) := by
  obtain ⟨gv, gs⟩ := dbB_parts g
  have q1 := pnum_lt gv k1
  have hN : 0 ≤ wyI h.toNat c.toNat ∧ wyI h.toNat c.toNat ≤ 500 := by
    unfold szI at gs
    split at gs
    · assumption
    · omega
  rw [szI_in hN] at gs
  have hc : wyI h.toNat c.toNat = (cnt h.toNat c.toNat : Int) ∧ cnt h.toNat c.toNat ≤ 1000000 := by
    have h0 := hN.1
    unfold wyI at h0 ⊢
    split at h0
    · rename_i q
      exact ⟨by rw [if_pos q], q⟩
    · omega
  have q2 : kd = 2 → (pnum c ys : Int) < wyI h.toNat c.toNat := fun e => by
    have := pnum_lt gv (k2 e)
    omega
  have q1' : (pnum c xs : Int) < wyI h.toNat c.toNat := by omega
  obtain ⟨N, hNN⟩ : ∃ N, wyI h.toNat c.toNat = N := ⟨_, rfl⟩
  rw [hNN] at gs hN q1' q2 ⊢
  refine ⟨⟨hN.1, hN.2, hc.2⟩, q1', q2, ?_⟩
  have hec := ecI_bnd (kd := kd) hN
  split at gs
  · unfold ecI at gs
    unfold enI
    by_cases e : kd = 2
    · rw [if_pos e] at gs ⊢
      have q3 := q2 e
      have h1 : (pnum c xs : Int) * N ≤ (N - 1) * N := Int.mul_le_mul_of_nonneg_right (by omega) hN.1
      have h2 : 0 ≤ (pnum c xs : Int) * N := Int.mul_nonneg (by omega) hN.1
      have h3 : (N - 1) * N = N * N - N := by rw [Int.sub_mul, Int.one_mul]
      omega
    · rw [if_neg e] at gs ⊢
      omega
  · omega
/-- An exact number and a code are handed back. -/
def EnGot (x : Rl) (r : Int) (w : World) (e : Ending) (w' : World) : Prop := e = .returned (.tuple #[.agg #[.int .i64 x.1, .int .i64 x.2], .int .i64 r]) ∧ Below w.heap.size w w'
set_option maxRecDepth 8000 in
set_option maxHeartbeats 4000000 in
theorem implEntryOf_any (p c h s kd : Int) (a : Option Addr) (k : Nat) (L : List Rl) (a1 a2 : Option Addr) (n1 n2 c1 c2 : Nat) (xs ys : List Int) (w : World) (hle : L.length ≤ 1048576) (hm1 : xs.length = n1) (hm2 : ys.length = n2) (hl1 : n1 ≤ 1048576) (hl2 : n2 ≤ 1048576) (HO : OX w a L) (r1 : IRow w a1 xs) (r2 : IRow w a2 ys) (hr : ∀ r ∈ L, -9223372036854775808 ≤ r.2 ∧ r.2 ≤ 9223372036854775807) :
    Calls Try.prog 28 #[.agg #[.int .i64 p, .int .i64 c, .int .i64 h, .int .i64 s, .int .i64 kd, .slice a L.length k], .slice a1 n1 c1, .slice a2 n2 c2] w (EnGot (enV p c h s kd L xs ys) (enC p c h s kd L xs ys) w) := by
  unfold EnGot
  have hf := fun W (q : OX W a L) => hasForm_any p c h s kd a L.length k L W rfl hle q hr
  obtain ⟨BD, BR, BV, hb, hz⟩ := three_new w #[.int .i64 p, .int .i64 c, .int .i64 h, .int .i64 s, .int .i64 kd, .slice a L.length k] #[.int .i64 0, .int .i64 0] #[.int .i64 p, .int .i64 c, .int .i64 h, .int .i64 s] 40 46 37
  have hz0 : w.heap.size + 1 + 1 < (((w.alloc (.cells #[.int .i64 p, .int .i64 c, .int .i64 h, .int .i64 s, .int .i64 kd, .slice a L.length k] 40)).alloc (.cells #[.int .i64 0, .int .i64 0] 46)).alloc (.cells #[.int .i64 p, .int .i64 c, .int .i64 h, .int .i64 s] 37)).heap.size := by rw [hz]; omega
  clear hz
  replace HO := HO.below hb
  replace r1 := r1.below hb
  replace r2 := r2.below hb
  cases g : dbB p c h s kd L with
  | false =>
    have ec : enC p c h s kd L xs ys = 1 := by rw [enC, g]; rfl
    rw [show enV p c h s kd L xs ys = (0, 0) by rw [enV, ec]; rfl, ec]
    rw [g] at hf
    have HF := Lib.hid hf
    clear hf g ec hr
    obtain ⟨q0_BD, q1_BD, q2_BD, q3_BD, q4_BD, q5_BD, qf_BD, ql_BD⟩ := BD.six
    obtain ⟨q0_BR, q1_BR, qf_BR, ql_BR⟩ := BR.two
    obtain ⟨q0_BV, q1_BV, q2_BV, q3_BV, qf_BV, ql_BV⟩ := BV.four
    go_enter Try.func28, Try.ntmps28
    go_wp2_with fail
    clear q0_BD q1_BD q2_BD q3_BD q4_BD q5_BD qf_BD ql_BD q0_BR q1_BR qf_BR ql_BR q0_BV q1_BV q2_BV q3_BV qf_BV ql_BV
    generalize (((w.alloc (.cells #[.int .i64 p, .int .i64 c, .int .i64 h, .int .i64 s, .int .i64 kd, .slice a L.length k] 40)).alloc (.cells #[.int .i64 0, .int .i64 0] 46)).alloc (.cells #[.int .i64 p, .int .i64 c, .int .i64 h, .int .i64 s] 37)) = v0 at *
    refine (HF.out _ HO).mono ?_
    rintro e w1 ⟨rfl, hb1⟩
    replace BD := BD.below hb1
    replace BR := BR.below hb1
    replace BV := BV.below hb1
    replace HO := HO.below hb1
    replace r1 := r1.below hb1
    replace r2 := r2.below hb1
    have hz1 := hb1.size
    replace hb := chain hb hb1
    clear hb1
    obtain ⟨q0_BD, q1_BD, q2_BD, q3_BD, q4_BD, q5_BD, qf_BD, ql_BD⟩ := BD.six
    obtain ⟨q0_BR, q1_BR, qf_BR, ql_BR⟩ := BR.two
    obtain ⟨q0_BV, q1_BV, q2_BV, q3_BV, qf_BV, ql_BV⟩ := BV.four
    go_wp2_with fail
    have BRn := (BR.set (i := 0) (.int .i64 0)).set (i := 1) (.int .i64 0)
    simp only [List.setIfInBounds_toArray, List.set_cons_zero, List.set_cons_succ] at BRn
    obtain ⟨t0, t1, tf, tl⟩ := BRn.two
    refine bodyPost_ret (v := .tuple #[.agg #[.int .i64 0, .int .i64 0], .int .i64 1]) (by simp [results, Try.results28, go_sem, t0, t1]) rfl ?_
    exact ⟨rfl, (hb.setCell (p := ⟨w.heap.size + 1, 0, none⟩) (by dsimp only; omega) (.int .i64 0)).setCell (p := ⟨w.heap.size + 1, 1, none⟩) (by dsimp only; omega) (.int .i64 0)⟩
  | true =>
    obtain ⟨gv, gs⟩ := dbB_parts g
    have hx := fun W (q : IRow W a1 xs) => isBearoffM_any p c h s a1 n1 c1 xs W gv hm1 hl1 q
    have hy := fun W (q : IRow W a2 ys) => isBearoffM_any p c h s a2 n2 c2 ys W gv hm2 hl2 q
    rw [g] at hf
    cases g1 : sideB (h - 1) c xs with
    | false =>
      have ec : enC p c h s kd L xs ys = 2 := by rw [enC, g, g1, if_pos rfl, if_neg (by simp)]
      rw [show enV p c h s kd L xs ys = (0, 0) by rw [enV, ec]; rfl, ec]
      rw [g1] at hx
      have HF := Lib.hid hf
      have HX := Lib.hid hx
      clear hf g g1 ec hx hy gv gs hr
      obtain ⟨q0_BD, q1_BD, q2_BD, q3_BD, q4_BD, q5_BD, qf_BD, ql_BD⟩ := BD.six
      obtain ⟨q0_BR, q1_BR, qf_BR, ql_BR⟩ := BR.two
      obtain ⟨q0_BV, q1_BV, q2_BV, q3_BV, qf_BV, ql_BV⟩ := BV.four
      go_enter Try.func28, Try.ntmps28
      go_wp2_with fail
      clear q0_BD q1_BD q2_BD q3_BD q4_BD q5_BD qf_BD ql_BD q0_BR q1_BR qf_BR ql_BR q0_BV q1_BV q2_BV q3_BV qf_BV ql_BV
      generalize (((w.alloc (.cells #[.int .i64 p, .int .i64 c, .int .i64 h, .int .i64 s, .int .i64 kd, .slice a L.length k] 40)).alloc (.cells #[.int .i64 0, .int .i64 0] 46)).alloc (.cells #[.int .i64 p, .int .i64 c, .int .i64 h, .int .i64 s] 37)) = v0 at *
      refine (HF.out _ HO).mono ?_
      rintro e w1 ⟨rfl, hb1⟩
      replace BD := BD.below hb1
      replace BR := BR.below hb1
      replace BV := BV.below hb1
      replace HO := HO.below hb1
      replace r1 := r1.below hb1
      replace r2 := r2.below hb1
      have hz1 := hb1.size
      replace hb := chain hb hb1
      clear hb1
      obtain ⟨q0_BD, q1_BD, q2_BD, q3_BD, q4_BD, q5_BD, qf_BD, ql_BD⟩ := BD.six
      obtain ⟨q0_BR, q1_BR, qf_BR, ql_BR⟩ := BR.two
      obtain ⟨q0_BV, q1_BV, q2_BV, q3_BV, qf_BV, ql_BV⟩ := BV.four
      go_wp2_with fail
      clear q0_BD q1_BD q2_BD q3_BD q4_BD q5_BD qf_BD ql_BD
      clear q0_BR q1_BR qf_BR ql_BR
      clear q0_BV q1_BV q2_BV q3_BV qf_BV ql_BV
      refine (HX.out _ r1).mono ?_
      rintro e w1 ⟨rfl, hb1⟩
      replace BD := BD.below hb1
      replace BR := BR.below hb1
      replace BV := BV.below hb1
      replace HO := HO.below hb1
      replace r1 := r1.below hb1
      replace r2 := r2.below hb1
      have hz1 := hb1.size
      replace hb := chain hb hb1
      clear hb1
      obtain ⟨q0_BD, q1_BD, q2_BD, q3_BD, q4_BD, q5_BD, qf_BD, ql_BD⟩ := BD.six
      obtain ⟨q0_BR, q1_BR, qf_BR, ql_BR⟩ := BR.two
      obtain ⟨q0_BV, q1_BV, q2_BV, q3_BV, qf_BV, ql_BV⟩ := BV.four
      go_wp2_with fail
      have BRn := (BR.set (i := 0) (.int .i64 0)).set (i := 1) (.int .i64 0)
      simp only [List.setIfInBounds_toArray, List.set_cons_zero, List.set_cons_succ] at BRn
      obtain ⟨t0, t1, tf, tl⟩ := BRn.two
      refine bodyPost_ret (v := .tuple #[.agg #[.int .i64 0, .int .i64 0], .int .i64 2]) (by simp [results, Try.results28, go_sem, t0, t1]) rfl ?_
      exact ⟨rfl, (hb.setCell (p := ⟨w.heap.size + 1, 0, none⟩) (by dsimp only; omega) (.int .i64 0)).setCell (p := ⟨w.heap.size + 1, 1, none⟩) (by dsimp only; omega) (.int .i64 0)⟩
    | true =>
      rw [g1] at hx
      have hnt := fun W => numberTable_any p c h s W
      have hn1 := fun gw W (q : IRow W a1 xs) (q2 : WaysAt W gw) => pnumOf_any p c h s gw a1 n1 c1 xs W gv g1 hm1 q q2
      by_cases g2 : kd = 2
      · cases g3 : sideB (h - 1) c ys with
        | false =>
          have ec : enC p c h s kd L xs ys = 2 := by rw [enC, g, g1, if_pos rfl, if_neg (fun q => by simp [q.2 g2] at g3)]
          rw [show enV p c h s kd L xs ys = (0, 0) by rw [enV, ec]; rfl, ec]
          rw [g3] at hy
          have HF := Lib.hid hf
          have HX := Lib.hid hx
          have HY := Lib.hid hy
          have hk2 : (kd == 2) = true := by simp [g2]
          clear hf g g1 g2 g3 ec hx hy gv gs hr hnt hn1
          obtain ⟨q0_BD, q1_BD, q2_BD, q3_BD, q4_BD, q5_BD, qf_BD, ql_BD⟩ := BD.six
          obtain ⟨q0_BR, q1_BR, qf_BR, ql_BR⟩ := BR.two
          obtain ⟨q0_BV, q1_BV, q2_BV, q3_BV, qf_BV, ql_BV⟩ := BV.four
          go_enter Try.func28, Try.ntmps28
          go_wp2_with fail
          clear q0_BD q1_BD q2_BD q3_BD q4_BD q5_BD qf_BD ql_BD q0_BR q1_BR qf_BR ql_BR q0_BV q1_BV q2_BV q3_BV qf_BV ql_BV
          generalize (((w.alloc (.cells #[.int .i64 p, .int .i64 c, .int .i64 h, .int .i64 s, .int .i64 kd, .slice a L.length k] 40)).alloc (.cells #[.int .i64 0, .int .i64 0] 46)).alloc (.cells #[.int .i64 p, .int .i64 c, .int .i64 h, .int .i64 s] 37)) = v0 at *
          refine (HF.out _ HO).mono ?_
          rintro e w1 ⟨rfl, hb1⟩
          replace BD := BD.below hb1
          replace BR := BR.below hb1
          replace BV := BV.below hb1
          replace HO := HO.below hb1
          replace r1 := r1.below hb1
          replace r2 := r2.below hb1
          have hz1 := hb1.size
          replace hb := chain hb hb1
          clear hb1
          obtain ⟨q0_BD, q1_BD, q2_BD, q3_BD, q4_BD, q5_BD, qf_BD, ql_BD⟩ := BD.six
          obtain ⟨q0_BR, q1_BR, qf_BR, ql_BR⟩ := BR.two
          obtain ⟨q0_BV, q1_BV, q2_BV, q3_BV, qf_BV, ql_BV⟩ := BV.four
          go_wp2_with fail
          clear q0_BD q1_BD q2_BD q3_BD q4_BD q5_BD qf_BD ql_BD
          clear q0_BR q1_BR qf_BR ql_BR
          clear q0_BV q1_BV q2_BV q3_BV qf_BV ql_BV
          refine (HX.out _ r1).mono ?_
          rintro e w1 ⟨rfl, hb1⟩
          replace BD := BD.below hb1
          replace BR := BR.below hb1
          replace BV := BV.below hb1
          replace HO := HO.below hb1
          replace r1 := r1.below hb1
          replace r2 := r2.below hb1
          have hz1 := hb1.size
          replace hb := chain hb hb1
          clear hb1
          obtain ⟨q0_BD, q1_BD, q2_BD, q3_BD, q4_BD, q5_BD, qf_BD, ql_BD⟩ := BD.six
          obtain ⟨q0_BR, q1_BR, qf_BR, ql_BR⟩ := BR.two
          obtain ⟨q0_BV, q1_BV, q2_BV, q3_BV, qf_BV, ql_BV⟩ := BV.four
          go_wp2_with fail
          clear q0_BD q1_BD q2_BD q3_BD q4_BD q5_BD qf_BD ql_BD
          clear q0_BR q1_BR qf_BR ql_BR
          clear q0_BV q1_BV q2_BV q3_BV qf_BV ql_BV
          refine (HY.out _ r2).mono ?_
          rintro e w2 ⟨rfl, hb2⟩
          replace BD := BD.below hb2
          replace BR := BR.below hb2
          replace BV := BV.below hb2
          replace HO := HO.below hb2
          replace r1 := r1.below hb2
          replace r2 := r2.below hb2
          have hz2 := hb2.size
          replace hb := chain hb hb2
          clear hb2
          obtain ⟨q0_BD, q1_BD, q2_BD, q3_BD, q4_BD, q5_BD, qf_BD, ql_BD⟩ := BD.six
          obtain ⟨q0_BR, q1_BR, qf_BR, ql_BR⟩ := BR.two
          obtain ⟨q0_BV, q1_BV, q2_BV, q3_BV, qf_BV, ql_BV⟩ := BV.four
          go_wp2_with fail
          have BRn := (BR.set (i := 0) (.int .i64 0)).set (i := 1) (.int .i64 0)
          simp only [List.setIfInBounds_toArray, List.set_cons_zero, List.set_cons_succ] at BRn
          obtain ⟨t0, t1, tf, tl⟩ := BRn.two
          refine bodyPost_ret (v := .tuple #[.agg #[.int .i64 0, .int .i64 0], .int .i64 2]) (by simp [results, Try.results28, go_sem, t0, t1]) rfl ?_
          exact ⟨rfl, (hb.setCell (p := ⟨w.heap.size + 1, 0, none⟩) (by dsimp only; omega) (.int .i64 0)).setCell (p := ⟨w.heap.size + 1, 1, none⟩) (by dsimp only; omega) (.int .i64 0)⟩
        | true =>
          rw [g3] at hy
          have hn2 := fun gw W (q : IRow W a2 ys) (q2 : WaysAt W gw) => pnumOf_any p c h s gw a2 n2 c2 ys W gv g3 hm2 q q2
          obtain ⟨⟨N0, N1, -⟩, e1, e2, e3, e4⟩ := en_lt g g1 (fun _ => g3)
          have ec : enC p c h s kd L xs ys = 0 := by rw [enC, g, g1, if_pos rfl, if_pos ⟨rfl, fun _ => g3⟩]
          rw [show enV p c h s kd L xs ys = L.getD (enI c (wyI h.toNat c.toNat) kd xs ys).toNat (0, 0) by rw [enV, if_pos ec], ec]
          have hv := vB_iff.1 gv
          have hbc := fun W gg (q : WaysAt W gg) => bearoffCountM_any p s c.toNat h.toNat gg W (by omega) (by omega) q
          rw [show ((h.toNat : Nat) : Int) = h by omega, show ((c.toNat : Nat) : Int) = c by omega] at hbc
          have e5 : enI c (wyI h.toNat c.toNat) kd xs ys = (pnum c xs : Int) * wyI h.toNat c.toNat + (pnum c ys : Int) := by rw [enI, if_pos g2]
          have e6 := e2 g2
          obtain ⟨N, hNN⟩ : ∃ N, wyI h.toNat c.toNat = N := ⟨_, rfl⟩
          rw [hNN] at hbc N0 N1 e1 e3 e4 e5 e6 ⊢
          obtain ⟨I0, hI0⟩ : ∃ I0 : Nat, enI c N kd xs ys = (I0 : Int) := Int.eq_ofNat_of_zero_le e3
          rw [hI0] at e4 e5 ⊢
          rw [Int.toNat_natCast]
          obtain ⟨X, hX⟩ : ∃ X, pnum c xs = X := ⟨_, rfl⟩
          obtain ⟨Y, hY⟩ : ∃ Y, pnum c ys = Y := ⟨_, rfl⟩
          rw [hX] at hn1 e1 e5
          rw [hY] at hn2 e5 e6
          obtain ⟨P, hP⟩ : ∃ P : Int, (X : Int) * N = P := ⟨_, rfl⟩
          have hP0 : 0 ≤ P := by rw [← hP]; exact Int.mul_nonneg (by omega) N0
          rw [hP] at e5
          have wP : IntKind.i64.wrap ((X : Int) * N) = P := by rw [hP, IntWalk.i64_in _ (by omega)]
          have wI : IntKind.i64.wrap (P + (Y : Int)) = (I0 : Int) := by rw [← e5, IntWalk.i64_in _ (by omega)]
          have hIl : I0 < L.length := by omega
          obtain ⟨⟨xn, xd⟩, hx0⟩ : ∃ x, L[I0]? = some x := ⟨_, List.getElem?_eq_getElem hIl⟩
          rw [show L.getD I0 (0, 0) = (xn, xd) by simp [List.getD, hx0]]
          have HX0 := Lib.hid hx0
          have I0I : (0 : Int) ≤ (I0 : Int) := by omega
          have e4' : (I0 : Int) < (L.length : Int) := e4
          have hk2 : (kd == 2) = true := by simp [g2]
          have HF := Lib.hid hf
          have HX := Lib.hid hx
          have HY := Lib.hid hy
          have HNT := Lib.hid hnt
          have HN1 := Lib.hid hn1
          have HN2 := Lib.hid hn2
          have HBC := Lib.hid hbc
          have HIL := Lib.hid hIl
          clear hf g g1 g2 g3 ec hx hy gv gs hr hnt hn1 hn2 hbc hv e1 e2 e3 e4 e5 e6 hNN hI0 hX hY hP N0 N1 hx0 hIl
          obtain ⟨q0_BD, q1_BD, q2_BD, q3_BD, q4_BD, q5_BD, qf_BD, ql_BD⟩ := BD.six
          obtain ⟨q0_BR, q1_BR, qf_BR, ql_BR⟩ := BR.two
          obtain ⟨q0_BV, q1_BV, q2_BV, q3_BV, qf_BV, ql_BV⟩ := BV.four
          go_enter Try.func28, Try.ntmps28
          go_wp2_with fail
          clear q0_BD q1_BD q2_BD q3_BD q4_BD q5_BD qf_BD ql_BD q0_BR q1_BR qf_BR ql_BR q0_BV q1_BV q2_BV q3_BV qf_BV ql_BV
          generalize (((w.alloc (.cells #[.int .i64 p, .int .i64 c, .int .i64 h, .int .i64 s, .int .i64 kd, .slice a L.length k] 40)).alloc (.cells #[.int .i64 0, .int .i64 0] 46)).alloc (.cells #[.int .i64 p, .int .i64 c, .int .i64 h, .int .i64 s] 37)) = v0 at *
          refine (HF.out _ HO).mono ?_
          rintro e w1 ⟨rfl, hb1⟩
          replace BD := BD.below hb1
          replace BR := BR.below hb1
          replace BV := BV.below hb1
          replace HO := HO.below hb1
          replace r1 := r1.below hb1
          replace r2 := r2.below hb1
          have hz1 := hb1.size
          replace hb := chain hb hb1
          clear hb1
          obtain ⟨q0_BD, q1_BD, q2_BD, q3_BD, q4_BD, q5_BD, qf_BD, ql_BD⟩ := BD.six
          obtain ⟨q0_BR, q1_BR, qf_BR, ql_BR⟩ := BR.two
          obtain ⟨q0_BV, q1_BV, q2_BV, q3_BV, qf_BV, ql_BV⟩ := BV.four
          go_wp2_with fail
          clear q0_BD q1_BD q2_BD q3_BD q4_BD q5_BD qf_BD ql_BD
          clear q0_BR q1_BR qf_BR ql_BR
          clear q0_BV q1_BV q2_BV q3_BV qf_BV ql_BV
          refine (HX.out _ r1).mono ?_
          rintro e w1 ⟨rfl, hb1⟩
          replace BD := BD.below hb1
          replace BR := BR.below hb1
          replace BV := BV.below hb1
          replace HO := HO.below hb1
          replace r1 := r1.below hb1
          replace r2 := r2.below hb1
          have hz1 := hb1.size
          replace hb := chain hb hb1
          clear hb1
          obtain ⟨q0_BD, q1_BD, q2_BD, q3_BD, q4_BD, q5_BD, qf_BD, ql_BD⟩ := BD.six
          obtain ⟨q0_BR, q1_BR, qf_BR, ql_BR⟩ := BR.two
          obtain ⟨q0_BV, q1_BV, q2_BV, q3_BV, qf_BV, ql_BV⟩ := BV.four
          go_wp2_with fail
          clear q0_BD q1_BD q2_BD q3_BD q4_BD q5_BD qf_BD ql_BD
          clear q0_BR q1_BR qf_BR ql_BR
          clear q0_BV q1_BV q2_BV q3_BV qf_BV ql_BV
          refine (HY.out _ r2).mono ?_
          rintro e w2 ⟨rfl, hb2⟩
          replace BD := BD.below hb2
          replace BR := BR.below hb2
          replace BV := BV.below hb2
          replace HO := HO.below hb2
          replace r1 := r1.below hb2
          replace r2 := r2.below hb2
          have hz2 := hb2.size
          replace hb := chain hb hb2
          clear hb2
          obtain ⟨q0_BD, q1_BD, q2_BD, q3_BD, q4_BD, q5_BD, qf_BD, ql_BD⟩ := BD.six
          obtain ⟨q0_BR, q1_BR, qf_BR, ql_BR⟩ := BR.two
          obtain ⟨q0_BV, q1_BV, q2_BV, q3_BV, qf_BV, ql_BV⟩ := BV.four
          go_wp2_with fail
          clear q0_BD q1_BD q2_BD q3_BD q4_BD q5_BD qf_BD ql_BD
          clear q0_BR q1_BR qf_BR ql_BR
          clear q0_BV q1_BV q2_BV q3_BV qf_BV ql_BV
          refine (HNT.out _).mono ?_
          rintro e w3 ⟨gw, rfl, hgw, hW, hb3⟩
          replace BD := BD.below hb3
          replace BR := BR.below hb3
          replace BV := BV.below hb3
          replace HO := HO.below hb3
          replace r1 := r1.below hb3
          replace r2 := r2.below hb3
          have hz3 := hb3.size
          replace hb := chain hb hb3
          clear hb3
          have BT := Blk.new w3 #[.int .i64 p, .int .i64 c, .int .i64 h, .int .i64 s, .pointer (some ⟨gw, 0, none⟩)] 74
          have hal4 : Below w3.heap.size w3 (w3.alloc (.cells #[.int .i64 p, .int .i64 c, .int .i64 h, .int .i64 s, .pointer (some ⟨gw, 0, none⟩)] 74)) := (Below.refl _ _).alloc (Nat.le_refl _) _
          have hz4 : (w3.alloc (.cells #[.int .i64 p, .int .i64 c, .int .i64 h, .int .i64 s, .pointer (some ⟨gw, 0, none⟩)] 74)).heap.size = w3.heap.size + 1 := by simp
          replace BD := BD.below hal4
          replace BR := BR.below hal4
          replace BV := BV.below hal4
          replace HO := HO.below hal4
          replace r1 := r1.below hal4
          replace r2 := r2.below hal4
          replace hW := hW.below hal4
          replace hb := chain hb hal4
          clear hal4
          obtain ⟨q0_BD, q1_BD, q2_BD, q3_BD, q4_BD, q5_BD, qf_BD, ql_BD⟩ := BD.six
          obtain ⟨q0_BR, q1_BR, qf_BR, ql_BR⟩ := BR.two
          obtain ⟨q0_BV, q1_BV, q2_BV, q3_BV, qf_BV, ql_BV⟩ := BV.four
          obtain ⟨q0_BT, q1_BT, q2_BT, q3_BT, q4_BT, qf_BT, ql_BT⟩ := BT.five
          go_wp2_with fail
          clear q0_BD q1_BD q2_BD q3_BD q4_BD q5_BD qf_BD ql_BD
          clear q0_BR q1_BR qf_BR ql_BR
          clear q0_BV q1_BV q2_BV q3_BV qf_BV ql_BV
          clear q0_BT q1_BT q2_BT q3_BT q4_BT qf_BT ql_BT
          generalize (w3.alloc (.cells #[.int .i64 p, .int .i64 c, .int .i64 h, .int .i64 s, .pointer (some ⟨gw, 0, none⟩)] 74)) = w4 at *
          obtain ⟨q0_BD, q1_BD, q2_BD, q3_BD, q4_BD, q5_BD, qf_BD, ql_BD⟩ := BD.six
          obtain ⟨q0_BR, q1_BR, qf_BR, ql_BR⟩ := BR.two
          obtain ⟨q0_BV, q1_BV, q2_BV, q3_BV, qf_BV, ql_BV⟩ := BV.four
          obtain ⟨q0_BT, q1_BT, q2_BT, q3_BT, q4_BT, qf_BT, ql_BT⟩ := BT.five
          go_wp2_with fail
          clear q0_BD q1_BD q2_BD q3_BD q4_BD q5_BD qf_BD ql_BD
          clear q0_BR q1_BR qf_BR ql_BR
          clear q0_BV q1_BV q2_BV q3_BV qf_BV ql_BV
          clear q0_BT q1_BT q2_BT q3_BT q4_BT qf_BT ql_BT
          refine (HN1.out gw _ r1 hW).mono ?_
          rintro e w5 ⟨rfl, hb5⟩
          replace BD := BD.below hb5
          replace BR := BR.below hb5
          replace BV := BV.below hb5
          replace HO := HO.below hb5
          replace r1 := r1.below hb5
          replace r2 := r2.below hb5
          replace hW := hW.below hb5
          replace BT := BT.below hb5
          have hz5 := hb5.size
          replace hb := chain hb hb5
          clear hb5
          obtain ⟨q0_BD, q1_BD, q2_BD, q3_BD, q4_BD, q5_BD, qf_BD, ql_BD⟩ := BD.six
          obtain ⟨q0_BR, q1_BR, qf_BR, ql_BR⟩ := BR.two
          obtain ⟨q0_BV, q1_BV, q2_BV, q3_BV, qf_BV, ql_BV⟩ := BV.four
          obtain ⟨q0_BT, q1_BT, q2_BT, q3_BT, q4_BT, qf_BT, ql_BT⟩ := BT.five
          go_wp2_with fail
          clear q0_BD q1_BD q2_BD q3_BD q4_BD q5_BD qf_BD ql_BD
          clear q0_BR q1_BR qf_BR ql_BR
          clear q0_BV q1_BV q2_BV q3_BV qf_BV ql_BV
          clear q0_BT q1_BT q2_BT q3_BT q4_BT qf_BT ql_BT
          have hd_ : w5.drew.heap.size = w5.heap.size := rfl
          replace BV := BV.drew
          replace BT := BT.drew
          replace hb := hb.drew
          replace BD := BD.drew
          replace BR := BR.drew
          replace HO := HO.drew
          replace r1 := r1.drew
          replace r2 := r2.drew
          replace hW := hW.drew
          refine wp_region_held_drew (S := fun w' => w'.cell? ⟨(w.heap.size + 1 + 1), 0, none⟩ = some (.int .i64 p) ∧ w'.cell? ⟨(w.heap.size + 1 + 1), 1, none⟩ = some (.int .i64 c) ∧ w'.cell? ⟨(w.heap.size + 1 + 1), 2, none⟩ = some (.int .i64 h) ∧ w'.cell? ⟨(w.heap.size + 1 + 1), 3, none⟩ = some (.int .i64 s) ∧ w'.cell? ⟨w3.heap.size, 0, none⟩ = some (.int .i64 p) ∧ w'.cell? ⟨w3.heap.size, 1, none⟩ = some (.int .i64 c) ∧ w'.cell? ⟨w3.heap.size, 2, none⟩ = some (.int .i64 h) ∧ w'.cell? ⟨w3.heap.size, 3, none⟩ = some (.int .i64 s) ∧ w'.cell? ⟨w3.heap.size, 4, none⟩ = some (.pointer (some ⟨gw, 0, none⟩))) (by kernel_rfl) ⟨BV.four.1, BV.four.2.1, BV.four.2.2.1, BV.four.2.2.2.1, BT.five.1, BT.five.2.1, BT.five.2.2.1, BT.five.2.2.2.1, BT.five.2.2.2.2.1⟩ (fun hHeld => ?_)
          clear hHeld
          generalize w5.drew = vd at *
          have hHeld : vd.cell? ⟨(w.heap.size + 1 + 1), 0, none⟩ = some (.int .i64 p) ∧ vd.cell? ⟨(w.heap.size + 1 + 1), 1, none⟩ = some (.int .i64 c) ∧ vd.cell? ⟨(w.heap.size + 1 + 1), 2, none⟩ = some (.int .i64 h) ∧ vd.cell? ⟨(w.heap.size + 1 + 1), 3, none⟩ = some (.int .i64 s) ∧ vd.cell? ⟨w3.heap.size, 0, none⟩ = some (.int .i64 p) ∧ vd.cell? ⟨w3.heap.size, 1, none⟩ = some (.int .i64 c) ∧ vd.cell? ⟨w3.heap.size, 2, none⟩ = some (.int .i64 h) ∧ vd.cell? ⟨w3.heap.size, 3, none⟩ = some (.int .i64 s) ∧ vd.cell? ⟨w3.heap.size, 4, none⟩ = some (.pointer (some ⟨gw, 0, none⟩)) := ⟨BV.four.1, BV.four.2.1, BV.four.2.2.1, BV.four.2.2.2.1, BT.five.1, BT.five.2.1, BT.five.2.2.1, BT.five.2.2.2.1, BT.five.2.2.2.2.1⟩
          refine wpAnyH_take (i := 0) (oi := { dst := some 43, op := _, type := _, pos := _, after := _, guard := _ }) (v := ?_) rfl (by kernel_rfl) (by kernel_rfl) (by kernel_rfl) (fun _ _ _ h => h) (Or.inl ⟨by rfl, ?_⟩) (by assumption) ?_
          rotate_left
          · intro w hSw
            (try dsimp only at hSw)
            go_simp
            (try (with_reducible rfl))
          try simp only [Act.put, List.setIfInBounds_toArray, List.set_cons_zero, List.set_cons_succ]
          refine wpAnyH_take (i := 1) (oi := { dst := some 44, op := _, type := _, pos := _, after := _, guard := _ }) (v := ?_) rfl (by kernel_rfl) (by kernel_rfl) (by kernel_rfl) (fun _ _ _ h => h) (Or.inl ⟨by rfl, ?_⟩) (by assumption) ?_
          rotate_left
          · intro w hSw
            (try dsimp only at hSw)
            go_simp
            (try (with_reducible rfl))
          try simp only [Act.put, List.setIfInBounds_toArray, List.set_cons_zero, List.set_cons_succ]
          refine wpAnyH_take (i := 2) (oi := { dst := some 45, op := _, type := _, pos := _, after := _, guard := _ }) (v := ?_) rfl (by kernel_rfl) (by kernel_rfl) (by kernel_rfl) (fun _ _ _ h => h) (Or.inl ⟨by rfl, ?_⟩) (by assumption) ?_
          rotate_left
          · intro w hSw
            (try dsimp only at hSw)
            go_simp
            (try (with_reducible rfl))
          try simp only [Act.put, List.setIfInBounds_toArray, List.set_cons_zero, List.set_cons_succ]
          refine wpAnyH_take (i := 3) (oi := { dst := some 46, op := _, type := _, pos := _, after := _, guard := _ }) (v := ?_) rfl (by kernel_rfl) (by kernel_rfl) (by kernel_rfl) (fun _ _ _ h => h) (Or.inl ⟨by rfl, ?_⟩) (by assumption) ?_
          rotate_left
          · intro w hSw
            (try dsimp only at hSw)
            go_simp
            (try (with_reducible rfl))
          try simp only [Act.put, List.setIfInBounds_toArray, List.set_cons_zero, List.set_cons_succ]
          refine wpAnyH_take (i := 6) (oi := { dst := some 49, op := _, type := _, pos := _, after := _, guard := _ }) (v := ?_) rfl (by kernel_rfl) (by kernel_rfl) (by kernel_rfl) (fun _ _ _ h => h) (Or.inl ⟨by rfl, ?_⟩) (by assumption) ?_
          rotate_left
          · intro w hSw
            (try dsimp only at hSw)
            go_simp
            (try (with_reducible rfl))
          try simp only [Act.put, List.setIfInBounds_toArray, List.set_cons_zero, List.set_cons_succ]
          refine wpAnyH_take (i := 7) (oi := { dst := some 50, op := _, type := _, pos := _, after := _, guard := _ }) (v := ?_) rfl (by kernel_rfl) (by kernel_rfl) (by kernel_rfl) (fun _ _ _ h => h) (Or.inl ⟨by rfl, ?_⟩) (by assumption) ?_
          rotate_left
          · intro w hSw
            (try dsimp only at hSw)
            go_simp
            (try (with_reducible rfl))
          try simp only [Act.put, List.setIfInBounds_toArray, List.set_cons_zero, List.set_cons_succ]
          refine wpAnyH_ready (rs := [4]) (by kernel_rfl) (by simp) ?_
          refine AllReadyH.cons (o := { dst := some 47, op := _, type := _, pos := _, after := _, guard := _ }) rfl (fun K hK => ?_) AllReadyH.nil
          go_simp
          refine (HBC.out _ gw hW).mono ?_
          rintro e wr1 ⟨rfl, hbr1⟩
          replace BD := BD.below hbr1
          replace BR := BR.below hbr1
          replace BV := BV.below hbr1
          replace HO := HO.below hbr1
          replace r1 := r1.below hbr1
          replace r2 := r2.below hbr1
          replace hW := hW.below hbr1
          replace BT := BT.below hbr1
          replace hb := chain hb hbr1
          clear hbr1
          (try go_wp2_with fail)
          refine hK.out _ _ ⟨BV.four.1, BV.four.2.1, BV.four.2.2.1, BV.four.2.2.2.1, BT.five.1, BT.five.2.1, BT.five.2.2.1, BT.five.2.2.2.1, BT.five.2.2.2.2.1⟩ (fun hHeld => ?_)
          clear hK K
          try simp only [Act.put, List.setIfInBounds_toArray, List.set_cons_zero, List.set_cons_succ]
          refine wpAnyH_take (i := 5) (oi := { dst := some 48, op := _, type := _, pos := _, after := _, guard := _ }) (v := ?_) rfl (by kernel_rfl) (by kernel_rfl) (by kernel_rfl) (fun _ _ _ h => h) (Or.inl ⟨by rfl, ?_⟩) (by assumption) ?_
          rotate_left
          · intro w hSw
            (try dsimp only at hSw)
            go_simp
            (try (with_reducible rfl))
          try simp only [Act.put, List.setIfInBounds_toArray, List.set_cons_zero, List.set_cons_succ]
          refine wpAnyH_ready (rs := [8]) (by kernel_rfl) (by simp) ?_
          refine AllReadyH.cons (o := { dst := some 51, op := _, type := _, pos := _, after := _, guard := _ }) rfl (fun K hK => ?_) AllReadyH.nil
          go_simp
          refine (HN2.out gw _ r2 hW).mono ?_
          rintro e wr2 ⟨rfl, hbr2⟩
          replace BD := BD.below hbr2
          replace BR := BR.below hbr2
          replace BV := BV.below hbr2
          replace HO := HO.below hbr2
          replace r1 := r1.below hbr2
          replace r2 := r2.below hbr2
          replace hW := hW.below hbr2
          replace BT := BT.below hbr2
          replace hb := chain hb hbr2
          clear hbr2
          (try go_wp2_with fail)
          refine hK.out _ _ ⟨BV.four.1, BV.four.2.1, BV.four.2.2.1, BV.four.2.2.2.1, BT.five.1, BT.five.2.1, BT.five.2.2.1, BT.five.2.2.2.1, BT.five.2.2.2.2.1⟩ (fun hHeld => ?_)
          clear hK K
          try simp only [Act.put, List.setIfInBounds_toArray, List.set_cons_zero, List.set_cons_succ]
          refine wpAnyH_take (i := 9) (oi := { dst := some 52, op := _, type := _, pos := _, after := _, guard := _ }) (v := ?_) rfl (by kernel_rfl) (by kernel_rfl) (by kernel_rfl) (fun _ _ _ h => h) (Or.inl ⟨by rfl, ?_⟩) (by assumption) ?_
          rotate_left
          · intro w hSw
            (try dsimp only at hSw)
            go_simp
            (try (with_reducible rfl))
          try simp only [Act.put, List.setIfInBounds_toArray, List.set_cons_zero, List.set_cons_succ]
          refine wpAnyH_take (i := 10) (oi := { dst := some 10, op := _, type := _, pos := _, after := _, guard := _ }) (v := ?_) rfl (by kernel_rfl) (by kernel_rfl) (by kernel_rfl) (fun _ _ _ h => h) (Or.inl ⟨by rfl, ?_⟩) (by assumption) ?_
          rotate_left
          · intro w hSw
            (try dsimp only at hSw)
            go_simp
            (try (with_reducible rfl))
          try simp only [Act.put, List.setIfInBounds_toArray, List.set_cons_zero, List.set_cons_succ]
          refine wpAnyH_done (by kernel_rfl) ?_ _
          clear hHeld
          obtain ⟨g0, rfl, XR⟩ := HO.row HIL.out
          obtain ⟨u0, u1⟩ := XRow.two XR I0 (xn, xd) HX0.out
          dsimp only at u0 u1
          obtain ⟨q0_BD, q1_BD, q2_BD, q3_BD, q4_BD, q5_BD, qf_BD, ql_BD⟩ := BD.six
          obtain ⟨q0_BR, q1_BR, qf_BR, ql_BR⟩ := BR.two
          obtain ⟨q0_BV, q1_BV, q2_BV, q3_BV, qf_BV, ql_BV⟩ := BV.four
          obtain ⟨q0_BT, q1_BT, q2_BT, q3_BT, q4_BT, qf_BT, ql_BT⟩ := BT.five
          go_wp2_with fail
          have BRn := (BR.set (i := 0) (.int .i64 xn)).set (i := 1) (.int .i64 xd)
          simp only [List.setIfInBounds_toArray, List.set_cons_zero, List.set_cons_succ] at BRn
          obtain ⟨t0, t1, tf, tl⟩ := BRn.two
          refine bodyPost_ret (v := .tuple #[.agg #[.int .i64 xn, .int .i64 xd], .int .i64 0]) (by simp [results, Try.results28, go_sem, t0, t1]) rfl ?_
          exact ⟨rfl, (hb.setCell (p := ⟨w.heap.size + 1, 0, none⟩) (by dsimp only; omega) (.int .i64 xn)).setCell (p := ⟨w.heap.size + 1, 1, none⟩) (by dsimp only; omega) (.int .i64 xd)⟩
      · obtain ⟨⟨N0, N1, -⟩, e1, e2, e3, e4⟩ := en_lt (ys := ys) g g1 (fun q => absurd q g2)
        have ec : enC p c h s kd L xs ys = 0 := by rw [enC, g, g1, if_pos rfl, if_pos ⟨rfl, fun q => absurd q g2⟩]
        rw [show enV p c h s kd L xs ys = L.getD (enI c (wyI h.toNat c.toNat) kd xs ys).toNat (0, 0) by rw [enV, if_pos ec], ec]
        have e5 : enI c (wyI h.toNat c.toNat) kd xs ys = (pnum c xs : Int) := by rw [enI, if_neg g2]
        rw [e5] at e4 ⊢
        obtain ⟨I0, hX⟩ : ∃ X, pnum c xs = X := ⟨_, rfl⟩
        rw [hX] at hn1 e4 ⊢
        rw [Int.toNat_natCast]
        have hIl : I0 < L.length := by omega
        obtain ⟨⟨xn, xd⟩, hx0⟩ : ∃ x, L[I0]? = some x := ⟨_, List.getElem?_eq_getElem hIl⟩
        rw [show L.getD I0 (0, 0) = (xn, xd) by simp [List.getD, hx0]]
        have HX0 := Lib.hid hx0
        have I0I : (0 : Int) ≤ (I0 : Int) := by omega
        have e4' : (I0 : Int) < (L.length : Int) := e4
        have hk2 : (kd == 2) = false := by simp [g2]
        have HF := Lib.hid hf
        have HX := Lib.hid hx
        have HNT := Lib.hid hnt
        have HN1 := Lib.hid hn1
        have HIL := Lib.hid hIl
        clear hf g g1 g2 ec hx hy gv gs hr hnt hn1 e1 e2 e3 e4 e5 hX N0 N1 hx0 hIl
        obtain ⟨q0_BD, q1_BD, q2_BD, q3_BD, q4_BD, q5_BD, qf_BD, ql_BD⟩ := BD.six
        obtain ⟨q0_BR, q1_BR, qf_BR, ql_BR⟩ := BR.two
        obtain ⟨q0_BV, q1_BV, q2_BV, q3_BV, qf_BV, ql_BV⟩ := BV.four
        go_enter Try.func28, Try.ntmps28
        go_wp2_with fail
        clear q0_BD q1_BD q2_BD q3_BD q4_BD q5_BD qf_BD ql_BD q0_BR q1_BR qf_BR ql_BR q0_BV q1_BV q2_BV q3_BV qf_BV ql_BV
        generalize (((w.alloc (.cells #[.int .i64 p, .int .i64 c, .int .i64 h, .int .i64 s, .int .i64 kd, .slice a L.length k] 40)).alloc (.cells #[.int .i64 0, .int .i64 0] 46)).alloc (.cells #[.int .i64 p, .int .i64 c, .int .i64 h, .int .i64 s] 37)) = v0 at *
        refine (HF.out _ HO).mono ?_
        rintro e w1 ⟨rfl, hb1⟩
        replace BD := BD.below hb1
        replace BR := BR.below hb1
        replace BV := BV.below hb1
        replace HO := HO.below hb1
        replace r1 := r1.below hb1
        replace r2 := r2.below hb1
        have hz1 := hb1.size
        replace hb := chain hb hb1
        clear hb1
        obtain ⟨q0_BD, q1_BD, q2_BD, q3_BD, q4_BD, q5_BD, qf_BD, ql_BD⟩ := BD.six
        obtain ⟨q0_BR, q1_BR, qf_BR, ql_BR⟩ := BR.two
        obtain ⟨q0_BV, q1_BV, q2_BV, q3_BV, qf_BV, ql_BV⟩ := BV.four
        go_wp2_with fail
        clear q0_BD q1_BD q2_BD q3_BD q4_BD q5_BD qf_BD ql_BD
        clear q0_BR q1_BR qf_BR ql_BR
        clear q0_BV q1_BV q2_BV q3_BV qf_BV ql_BV
        refine (HX.out _ r1).mono ?_
        rintro e w1 ⟨rfl, hb1⟩
        replace BD := BD.below hb1
        replace BR := BR.below hb1
        replace BV := BV.below hb1
        replace HO := HO.below hb1
        replace r1 := r1.below hb1
        replace r2 := r2.below hb1
        have hz1 := hb1.size
        replace hb := chain hb hb1
        clear hb1
        obtain ⟨q0_BD, q1_BD, q2_BD, q3_BD, q4_BD, q5_BD, qf_BD, ql_BD⟩ := BD.six
        obtain ⟨q0_BR, q1_BR, qf_BR, ql_BR⟩ := BR.two
        obtain ⟨q0_BV, q1_BV, q2_BV, q3_BV, qf_BV, ql_BV⟩ := BV.four
        go_wp2_with fail
        clear q0_BD q1_BD q2_BD q3_BD q4_BD q5_BD qf_BD ql_BD
        clear q0_BR q1_BR qf_BR ql_BR
        clear q0_BV q1_BV q2_BV q3_BV qf_BV ql_BV
        refine (HNT.out _).mono ?_
        rintro e w2 ⟨gw, rfl, hgw, hW, hb2⟩
        replace BD := BD.below hb2
        replace BR := BR.below hb2
        replace BV := BV.below hb2
        replace HO := HO.below hb2
        replace r1 := r1.below hb2
        replace r2 := r2.below hb2
        have hz2 := hb2.size
        replace hb := chain hb hb2
        clear hb2
        have BT := Blk.new w2 #[.int .i64 p, .int .i64 c, .int .i64 h, .int .i64 s, .pointer (some ⟨gw, 0, none⟩)] 74
        have hal3 : Below w2.heap.size w2 (w2.alloc (.cells #[.int .i64 p, .int .i64 c, .int .i64 h, .int .i64 s, .pointer (some ⟨gw, 0, none⟩)] 74)) := (Below.refl _ _).alloc (Nat.le_refl _) _
        have hz3 : (w2.alloc (.cells #[.int .i64 p, .int .i64 c, .int .i64 h, .int .i64 s, .pointer (some ⟨gw, 0, none⟩)] 74)).heap.size = w2.heap.size + 1 := by simp
        replace BD := BD.below hal3
        replace BR := BR.below hal3
        replace BV := BV.below hal3
        replace HO := HO.below hal3
        replace r1 := r1.below hal3
        replace r2 := r2.below hal3
        replace hW := hW.below hal3
        replace hb := chain hb hal3
        clear hal3
        obtain ⟨q0_BD, q1_BD, q2_BD, q3_BD, q4_BD, q5_BD, qf_BD, ql_BD⟩ := BD.six
        obtain ⟨q0_BR, q1_BR, qf_BR, ql_BR⟩ := BR.two
        obtain ⟨q0_BV, q1_BV, q2_BV, q3_BV, qf_BV, ql_BV⟩ := BV.four
        obtain ⟨q0_BT, q1_BT, q2_BT, q3_BT, q4_BT, qf_BT, ql_BT⟩ := BT.five
        go_wp2_with fail
        clear q0_BD q1_BD q2_BD q3_BD q4_BD q5_BD qf_BD ql_BD
        clear q0_BR q1_BR qf_BR ql_BR
        clear q0_BV q1_BV q2_BV q3_BV qf_BV ql_BV
        clear q0_BT q1_BT q2_BT q3_BT q4_BT qf_BT ql_BT
        generalize (w2.alloc (.cells #[.int .i64 p, .int .i64 c, .int .i64 h, .int .i64 s, .pointer (some ⟨gw, 0, none⟩)] 74)) = w3 at *
        obtain ⟨q0_BD, q1_BD, q2_BD, q3_BD, q4_BD, q5_BD, qf_BD, ql_BD⟩ := BD.six
        obtain ⟨q0_BR, q1_BR, qf_BR, ql_BR⟩ := BR.two
        obtain ⟨q0_BV, q1_BV, q2_BV, q3_BV, qf_BV, ql_BV⟩ := BV.four
        obtain ⟨q0_BT, q1_BT, q2_BT, q3_BT, q4_BT, qf_BT, ql_BT⟩ := BT.five
        go_wp2_with fail
        clear q0_BD q1_BD q2_BD q3_BD q4_BD q5_BD qf_BD ql_BD
        clear q0_BR q1_BR qf_BR ql_BR
        clear q0_BV q1_BV q2_BV q3_BV qf_BV ql_BV
        clear q0_BT q1_BT q2_BT q3_BT q4_BT qf_BT ql_BT
        refine (HN1.out gw _ r1 hW).mono ?_
        rintro e w4 ⟨rfl, hb4⟩
        replace BD := BD.below hb4
        replace BR := BR.below hb4
        replace BV := BV.below hb4
        replace HO := HO.below hb4
        replace r1 := r1.below hb4
        replace r2 := r2.below hb4
        replace hW := hW.below hb4
        replace BT := BT.below hb4
        have hz4 := hb4.size
        replace hb := chain hb hb4
        clear hb4
        obtain ⟨g0, rfl, XR⟩ := HO.row HIL.out
        obtain ⟨u0, u1⟩ := XRow.two XR I0 (xn, xd) HX0.out
        dsimp only at u0 u1
        obtain ⟨q0_BD, q1_BD, q2_BD, q3_BD, q4_BD, q5_BD, qf_BD, ql_BD⟩ := BD.six
        obtain ⟨q0_BR, q1_BR, qf_BR, ql_BR⟩ := BR.two
        obtain ⟨q0_BV, q1_BV, q2_BV, q3_BV, qf_BV, ql_BV⟩ := BV.four
        obtain ⟨q0_BT, q1_BT, q2_BT, q3_BT, q4_BT, qf_BT, ql_BT⟩ := BT.five
        go_wp2_with fail
        have BRn := (BR.set (i := 0) (.int .i64 xn)).set (i := 1) (.int .i64 xd)
        simp only [List.setIfInBounds_toArray, List.set_cons_zero, List.set_cons_succ] at BRn
        obtain ⟨t0, t1, tf, tl⟩ := BRn.two
        refine bodyPost_ret (v := .tuple #[.agg #[.int .i64 xn, .int .i64 xd], .int .i64 0]) (by simp [results, Try.results28, go_sem, t0, t1]) rfl ?_
        exact ⟨rfl, (hb.setCell (p := ⟨w.heap.size + 1, 0, none⟩) (by dsimp only; omega) (.int .i64 xn)).setCell (p := ⟨w.heap.size + 1, 1, none⟩) (by dsimp only; omega) (.int .i64 xd)⟩
set_option maxRecDepth 8000 in
set_option maxHeartbeats 4000000 in
theorem specEntryOf_any (p c h s kd : Int) (a : Option Addr) (k : Nat) (L : List Rl) (a1 a2 : Option Addr) (n1 n2 c1 c2 : Nat) (xs ys : List Int) (w : World) (hle : L.length ≤ 1048576) (hm1 : xs.length = n1) (hm2 : ys.length = n2) (hl1 : n1 ≤ 1048576) (hl2 : n2 ≤ 1048576) (HO : OX w a L) (r1 : IRow w a1 xs) (r2 : IRow w a2 ys) (hr : ∀ r ∈ L, -9223372036854775808 ≤ r.2 ∧ r.2 ≤ 9223372036854775807) :
    Calls Try.prog 26 #[.agg #[.int .i64 p, .int .i64 c, .int .i64 h, .int .i64 s, .int .i64 kd, .slice a L.length k], .slice a1 n1 c1, .slice a2 n2 c2] w (EnGot (enV p c h s kd L xs ys) (enC p c h s kd L xs ys) w) := by
  unfold EnGot
  have hf := fun W (q : OX W a L) => specIsDatabase_any p c h s kd a L.length k L W rfl hle q hr
  obtain ⟨BD, BR, hb, hz⟩ := two_new w #[.int .i64 p, .int .i64 c, .int .i64 h, .int .i64 s, .int .i64 kd, .slice a L.length k] #[.int .i64 0, .int .i64 0] 40 46
  have hz0 : w.heap.size + 1 < ((w.alloc (.cells #[.int .i64 p, .int .i64 c, .int .i64 h, .int .i64 s, .int .i64 kd, .slice a L.length k] 40)).alloc (.cells #[.int .i64 0, .int .i64 0] 46)).heap.size := by rw [hz]; omega
  clear hz
  replace HO := HO.below hb
  replace r1 := r1.below hb
  replace r2 := r2.below hb
  cases g : dbB p c h s kd L with
  | false =>
    have ec : enC p c h s kd L xs ys = 1 := by rw [enC, g]; rfl
    rw [show enV p c h s kd L xs ys = (0, 0) by rw [enV, ec]; rfl, ec]
    rw [g] at hf
    have HF := Lib.hid hf
    clear hf g ec hr
    obtain ⟨q0_BD, q1_BD, q2_BD, q3_BD, q4_BD, q5_BD, qf_BD, ql_BD⟩ := BD.six
    obtain ⟨q0_BR, q1_BR, qf_BR, ql_BR⟩ := BR.two
    go_enter Try.func26, Try.ntmps26
    go_wp2_with fail
    clear q0_BD q1_BD q2_BD q3_BD q4_BD q5_BD qf_BD ql_BD q0_BR q1_BR qf_BR ql_BR
    generalize ((w.alloc (.cells #[.int .i64 p, .int .i64 c, .int .i64 h, .int .i64 s, .int .i64 kd, .slice a L.length k] 40)).alloc (.cells #[.int .i64 0, .int .i64 0] 46)) = v0 at *
    refine (HF.out _ HO).mono ?_
    rintro e w1 ⟨rfl, hb1⟩
    replace BD := BD.below hb1
    replace BR := BR.below hb1
    replace HO := HO.below hb1
    replace r1 := r1.below hb1
    replace r2 := r2.below hb1
    have hz1 := hb1.size
    replace hb := chain hb hb1
    clear hb1
    obtain ⟨q0_BD, q1_BD, q2_BD, q3_BD, q4_BD, q5_BD, qf_BD, ql_BD⟩ := BD.six
    obtain ⟨q0_BR, q1_BR, qf_BR, ql_BR⟩ := BR.two
    go_wp2_with fail
    have BRn := (BR.set (i := 0) (.int .i64 0)).set (i := 1) (.int .i64 0)
    simp only [List.setIfInBounds_toArray, List.set_cons_zero, List.set_cons_succ] at BRn
    obtain ⟨t0, t1, tf, tl⟩ := BRn.two
    refine bodyPost_ret (v := .tuple #[.agg #[.int .i64 0, .int .i64 0], .int .i64 1]) (by simp [results, Try.results26, go_sem, t0, t1]) rfl ?_
    exact ⟨rfl, (hb.setCell (p := ⟨w.heap.size + 1, 0, none⟩) (by dsimp only; omega) (.int .i64 0)).setCell (p := ⟨w.heap.size + 1, 1, none⟩) (by dsimp only; omega) (.int .i64 0)⟩
  | true =>
    obtain ⟨gv, gs⟩ := dbB_parts g
    have hx := fun W (q : IRow W a1 xs) => l10Valid_any p c h s a1 n1 c1 xs W gv hm1 hl1 q
    have hy := fun W (q : IRow W a2 ys) => l10Valid_any p c h s a2 n2 c2 ys W gv hm2 hl2 q
    rw [g] at hf
    cases g1 : sideB (h - 1) c xs with
    | false =>
      have ec : enC p c h s kd L xs ys = 2 := by rw [enC, g, g1, if_pos rfl, if_neg (by simp)]
      rw [show enV p c h s kd L xs ys = (0, 0) by rw [enV, ec]; rfl, ec]
      rw [g1] at hx
      have HF := Lib.hid hf
      have HX := Lib.hid hx
      clear hf g g1 ec hx hy gv gs hr
      obtain ⟨q0_BD, q1_BD, q2_BD, q3_BD, q4_BD, q5_BD, qf_BD, ql_BD⟩ := BD.six
      obtain ⟨q0_BR, q1_BR, qf_BR, ql_BR⟩ := BR.two
      go_enter Try.func26, Try.ntmps26
      go_wp2_with fail
      clear q0_BD q1_BD q2_BD q3_BD q4_BD q5_BD qf_BD ql_BD q0_BR q1_BR qf_BR ql_BR
      generalize ((w.alloc (.cells #[.int .i64 p, .int .i64 c, .int .i64 h, .int .i64 s, .int .i64 kd, .slice a L.length k] 40)).alloc (.cells #[.int .i64 0, .int .i64 0] 46)) = v0 at *
      refine (HF.out _ HO).mono ?_
      rintro e w1 ⟨rfl, hb1⟩
      replace BD := BD.below hb1
      replace BR := BR.below hb1
      replace HO := HO.below hb1
      replace r1 := r1.below hb1
      replace r2 := r2.below hb1
      have hz1 := hb1.size
      replace hb := chain hb hb1
      clear hb1
      obtain ⟨q0_BD, q1_BD, q2_BD, q3_BD, q4_BD, q5_BD, qf_BD, ql_BD⟩ := BD.six
      obtain ⟨q0_BR, q1_BR, qf_BR, ql_BR⟩ := BR.two
      go_wp2_with fail
      clear q0_BD q1_BD q2_BD q3_BD q4_BD q5_BD qf_BD ql_BD
      clear q0_BR q1_BR qf_BR ql_BR
      refine (HX.out _ r1).mono ?_
      rintro e w1 ⟨rfl, hb1⟩
      replace BD := BD.below hb1
      replace BR := BR.below hb1
      replace HO := HO.below hb1
      replace r1 := r1.below hb1
      replace r2 := r2.below hb1
      have hz1 := hb1.size
      replace hb := chain hb hb1
      clear hb1
      obtain ⟨q0_BD, q1_BD, q2_BD, q3_BD, q4_BD, q5_BD, qf_BD, ql_BD⟩ := BD.six
      obtain ⟨q0_BR, q1_BR, qf_BR, ql_BR⟩ := BR.two
      go_wp2_with fail
      have BRn := (BR.set (i := 0) (.int .i64 0)).set (i := 1) (.int .i64 0)
      simp only [List.setIfInBounds_toArray, List.set_cons_zero, List.set_cons_succ] at BRn
      obtain ⟨t0, t1, tf, tl⟩ := BRn.two
      refine bodyPost_ret (v := .tuple #[.agg #[.int .i64 0, .int .i64 0], .int .i64 2]) (by simp [results, Try.results26, go_sem, t0, t1]) rfl ?_
      exact ⟨rfl, (hb.setCell (p := ⟨w.heap.size + 1, 0, none⟩) (by dsimp only; omega) (.int .i64 0)).setCell (p := ⟨w.heap.size + 1, 1, none⟩) (by dsimp only; omega) (.int .i64 0)⟩
    | true =>
      rw [g1] at hx
      by_cases g2 : kd = 2
      · cases g3 : sideB (h - 1) c ys with
        | false =>
          have ec : enC p c h s kd L xs ys = 2 := by rw [enC, g, g1, if_pos rfl, if_neg (fun q => by simp [q.2 g2] at g3)]
          rw [show enV p c h s kd L xs ys = (0, 0) by rw [enV, ec]; rfl, ec]
          rw [g3] at hy
          have HF := Lib.hid hf
          have HX := Lib.hid hx
          have HY := Lib.hid hy
          have hk2 : (kd == 2) = true := by simp [g2]
          clear hf g g1 g2 g3 ec hx hy gv gs hr
          obtain ⟨q0_BD, q1_BD, q2_BD, q3_BD, q4_BD, q5_BD, qf_BD, ql_BD⟩ := BD.six
          obtain ⟨q0_BR, q1_BR, qf_BR, ql_BR⟩ := BR.two
          go_enter Try.func26, Try.ntmps26
          go_wp2_with fail
          clear q0_BD q1_BD q2_BD q3_BD q4_BD q5_BD qf_BD ql_BD q0_BR q1_BR qf_BR ql_BR
          generalize ((w.alloc (.cells #[.int .i64 p, .int .i64 c, .int .i64 h, .int .i64 s, .int .i64 kd, .slice a L.length k] 40)).alloc (.cells #[.int .i64 0, .int .i64 0] 46)) = v0 at *
          refine (HF.out _ HO).mono ?_
          rintro e w1 ⟨rfl, hb1⟩
          replace BD := BD.below hb1
          replace BR := BR.below hb1
          replace HO := HO.below hb1
          replace r1 := r1.below hb1
          replace r2 := r2.below hb1
          have hz1 := hb1.size
          replace hb := chain hb hb1
          clear hb1
          obtain ⟨q0_BD, q1_BD, q2_BD, q3_BD, q4_BD, q5_BD, qf_BD, ql_BD⟩ := BD.six
          obtain ⟨q0_BR, q1_BR, qf_BR, ql_BR⟩ := BR.two
          go_wp2_with fail
          clear q0_BD q1_BD q2_BD q3_BD q4_BD q5_BD qf_BD ql_BD
          clear q0_BR q1_BR qf_BR ql_BR
          refine (HX.out _ r1).mono ?_
          rintro e w1 ⟨rfl, hb1⟩
          replace BD := BD.below hb1
          replace BR := BR.below hb1
          replace HO := HO.below hb1
          replace r1 := r1.below hb1
          replace r2 := r2.below hb1
          have hz1 := hb1.size
          replace hb := chain hb hb1
          clear hb1
          obtain ⟨q0_BD, q1_BD, q2_BD, q3_BD, q4_BD, q5_BD, qf_BD, ql_BD⟩ := BD.six
          obtain ⟨q0_BR, q1_BR, qf_BR, ql_BR⟩ := BR.two
          go_wp2_with fail
          clear q0_BD q1_BD q2_BD q3_BD q4_BD q5_BD qf_BD ql_BD
          clear q0_BR q1_BR qf_BR ql_BR
          refine (HY.out _ r2).mono ?_
          rintro e w2 ⟨rfl, hb2⟩
          replace BD := BD.below hb2
          replace BR := BR.below hb2
          replace HO := HO.below hb2
          replace r1 := r1.below hb2
          replace r2 := r2.below hb2
          have hz2 := hb2.size
          replace hb := chain hb hb2
          clear hb2
          obtain ⟨q0_BD, q1_BD, q2_BD, q3_BD, q4_BD, q5_BD, qf_BD, ql_BD⟩ := BD.six
          obtain ⟨q0_BR, q1_BR, qf_BR, ql_BR⟩ := BR.two
          go_wp2_with fail
          have BRn := (BR.set (i := 0) (.int .i64 0)).set (i := 1) (.int .i64 0)
          simp only [List.setIfInBounds_toArray, List.set_cons_zero, List.set_cons_succ] at BRn
          obtain ⟨t0, t1, tf, tl⟩ := BRn.two
          refine bodyPost_ret (v := .tuple #[.agg #[.int .i64 0, .int .i64 0], .int .i64 2]) (by simp [results, Try.results26, go_sem, t0, t1]) rfl ?_
          exact ⟨rfl, (hb.setCell (p := ⟨w.heap.size + 1, 0, none⟩) (by dsimp only; omega) (.int .i64 0)).setCell (p := ⟨w.heap.size + 1, 1, none⟩) (by dsimp only; omega) (.int .i64 0)⟩
        | true =>
          rw [g3] at hy
          obtain ⟨⟨N0, N1, hsm⟩, e1, e2, e3, e4⟩ := en_lt g g1 (fun _ => g3)
          have hn1 := fun W (q : IRow W a1 xs) => l10Pnum_any p c h s a1 n1 c1 xs W gv g1 hm1 hsm q
          have hn2 := fun W (q : IRow W a2 ys) => l10Pnum_any p c h s a2 n2 c2 ys W gv g3 hm2 hsm q
          have ec : enC p c h s kd L xs ys = 0 := by rw [enC, g, g1, if_pos rfl, if_pos ⟨rfl, fun _ => g3⟩]
          rw [show enV p c h s kd L xs ys = L.getD (enI c (wyI h.toNat c.toNat) kd xs ys).toNat (0, 0) by rw [enV, if_pos ec], ec]
          have hbc := fun W => specBearoffCount_any p c h s W
          rw [show bcI p c h s = wyI h.toNat c.toNat by rw [bcI, if_pos gv]] at hbc
          have e5 : enI c (wyI h.toNat c.toNat) kd xs ys = (pnum c xs : Int) * wyI h.toNat c.toNat + (pnum c ys : Int) := by rw [enI, if_pos g2]
          have e6 := e2 g2
          obtain ⟨N, hNN⟩ : ∃ N, wyI h.toNat c.toNat = N := ⟨_, rfl⟩
          rw [hNN] at hbc N0 N1 e1 e3 e4 e5 e6 ⊢
          obtain ⟨I0, hI0⟩ : ∃ I0 : Nat, enI c N kd xs ys = (I0 : Int) := Int.eq_ofNat_of_zero_le e3
          rw [hI0] at e4 e5 ⊢
          rw [Int.toNat_natCast]
          obtain ⟨X, hX⟩ : ∃ X, pnum c xs = X := ⟨_, rfl⟩
          obtain ⟨Y, hY⟩ : ∃ Y, pnum c ys = Y := ⟨_, rfl⟩
          rw [hX] at hn1 e1 e5
          rw [hY] at hn2 e5 e6
          obtain ⟨P, hP⟩ : ∃ P : Int, (X : Int) * N = P := ⟨_, rfl⟩
          have hP0 : 0 ≤ P := by rw [← hP]; exact Int.mul_nonneg (by omega) N0
          rw [hP] at e5
          have wP : IntKind.i64.wrap ((X : Int) * N) = P := by rw [hP, IntWalk.i64_in _ (by omega)]
          have wI : IntKind.i64.wrap (P + (Y : Int)) = (I0 : Int) := by rw [← e5, IntWalk.i64_in _ (by omega)]
          have hIl : I0 < L.length := by omega
          obtain ⟨⟨xn, xd⟩, hx0⟩ : ∃ x, L[I0]? = some x := ⟨_, List.getElem?_eq_getElem hIl⟩
          rw [show L.getD I0 (0, 0) = (xn, xd) by simp [List.getD, hx0]]
          have HX0 := Lib.hid hx0
          have I0I : (0 : Int) ≤ (I0 : Int) := by omega
          have e4' : (I0 : Int) < (L.length : Int) := e4
          have hk2 : (kd == 2) = true := by simp [g2]
          have HF := Lib.hid hf
          have HX := Lib.hid hx
          have HY := Lib.hid hy
          have HN1 := Lib.hid hn1
          have HN2 := Lib.hid hn2
          have HBC := Lib.hid hbc
          have HIL := Lib.hid hIl
          clear hf g g1 g2 g3 ec hx hy gv gs hr hn1 hn2 hbc e1 e2 e3 e4 e5 e6 hNN hI0 hX hY hP N0 N1 hx0 hIl hsm
          obtain ⟨q0_BD, q1_BD, q2_BD, q3_BD, q4_BD, q5_BD, qf_BD, ql_BD⟩ := BD.six
          obtain ⟨q0_BR, q1_BR, qf_BR, ql_BR⟩ := BR.two
          go_enter Try.func26, Try.ntmps26
          go_wp2_with fail
          clear q0_BD q1_BD q2_BD q3_BD q4_BD q5_BD qf_BD ql_BD q0_BR q1_BR qf_BR ql_BR
          generalize ((w.alloc (.cells #[.int .i64 p, .int .i64 c, .int .i64 h, .int .i64 s, .int .i64 kd, .slice a L.length k] 40)).alloc (.cells #[.int .i64 0, .int .i64 0] 46)) = v0 at *
          refine (HF.out _ HO).mono ?_
          rintro e w1 ⟨rfl, hb1⟩
          replace BD := BD.below hb1
          replace BR := BR.below hb1
          replace HO := HO.below hb1
          replace r1 := r1.below hb1
          replace r2 := r2.below hb1
          have hz1 := hb1.size
          replace hb := chain hb hb1
          clear hb1
          obtain ⟨q0_BD, q1_BD, q2_BD, q3_BD, q4_BD, q5_BD, qf_BD, ql_BD⟩ := BD.six
          obtain ⟨q0_BR, q1_BR, qf_BR, ql_BR⟩ := BR.two
          go_wp2_with fail
          clear q0_BD q1_BD q2_BD q3_BD q4_BD q5_BD qf_BD ql_BD
          clear q0_BR q1_BR qf_BR ql_BR
          refine (HX.out _ r1).mono ?_
          rintro e w1 ⟨rfl, hb1⟩
          replace BD := BD.below hb1
          replace BR := BR.below hb1
          replace HO := HO.below hb1
          replace r1 := r1.below hb1
          replace r2 := r2.below hb1
          have hz1 := hb1.size
          replace hb := chain hb hb1
          clear hb1
          obtain ⟨q0_BD, q1_BD, q2_BD, q3_BD, q4_BD, q5_BD, qf_BD, ql_BD⟩ := BD.six
          obtain ⟨q0_BR, q1_BR, qf_BR, ql_BR⟩ := BR.two
          go_wp2_with fail
          clear q0_BD q1_BD q2_BD q3_BD q4_BD q5_BD qf_BD ql_BD
          clear q0_BR q1_BR qf_BR ql_BR
          refine (HY.out _ r2).mono ?_
          rintro e w2 ⟨rfl, hb2⟩
          replace BD := BD.below hb2
          replace BR := BR.below hb2
          replace HO := HO.below hb2
          replace r1 := r1.below hb2
          replace r2 := r2.below hb2
          have hz2 := hb2.size
          replace hb := chain hb hb2
          clear hb2
          obtain ⟨q0_BD, q1_BD, q2_BD, q3_BD, q4_BD, q5_BD, qf_BD, ql_BD⟩ := BD.six
          obtain ⟨q0_BR, q1_BR, qf_BR, ql_BR⟩ := BR.two
          go_wp2_with fail
          clear q0_BD q1_BD q2_BD q3_BD q4_BD q5_BD qf_BD ql_BD
          clear q0_BR q1_BR qf_BR ql_BR
          refine (HN1.out _ r1).mono ?_
          rintro e w3 ⟨rfl, hb3⟩
          replace BD := BD.below hb3
          replace BR := BR.below hb3
          replace HO := HO.below hb3
          replace r1 := r1.below hb3
          replace r2 := r2.below hb3
          have hz3 := hb3.size
          replace hb := chain hb hb3
          clear hb3
          obtain ⟨q0_BD, q1_BD, q2_BD, q3_BD, q4_BD, q5_BD, qf_BD, ql_BD⟩ := BD.six
          obtain ⟨q0_BR, q1_BR, qf_BR, ql_BR⟩ := BR.two
          go_wp2_with fail
          clear q0_BD q1_BD q2_BD q3_BD q4_BD q5_BD qf_BD ql_BD
          clear q0_BR q1_BR qf_BR ql_BR
          have hd_ : w3.drew.heap.size = w3.heap.size := rfl
          replace BD := BD.drew
          replace hb := hb.drew
          replace BR := BR.drew
          replace HO := HO.drew
          replace r1 := r1.drew
          replace r2 := r2.drew
          refine wp_region_held_drew (S := fun w' => w'.cell? ⟨w.heap.size, 0, none⟩ = some (.int .i64 p) ∧ w'.cell? ⟨w.heap.size, 1, none⟩ = some (.int .i64 c) ∧ w'.cell? ⟨w.heap.size, 2, none⟩ = some (.int .i64 h) ∧ w'.cell? ⟨w.heap.size, 3, none⟩ = some (.int .i64 s) ∧ w'.cell? ⟨w.heap.size, 4, none⟩ = some (.int .i64 kd) ∧ w'.cell? ⟨w.heap.size, 5, none⟩ = some (.slice a L.length k)) (by kernel_rfl) ⟨BD.six.1, BD.six.2.1, BD.six.2.2.1, BD.six.2.2.2.1, BD.six.2.2.2.2.1, BD.six.2.2.2.2.2.1⟩ (fun hHeld => ?_)
          clear hHeld
          generalize w3.drew = vd at *
          have hHeld : vd.cell? ⟨w.heap.size, 0, none⟩ = some (.int .i64 p) ∧ vd.cell? ⟨w.heap.size, 1, none⟩ = some (.int .i64 c) ∧ vd.cell? ⟨w.heap.size, 2, none⟩ = some (.int .i64 h) ∧ vd.cell? ⟨w.heap.size, 3, none⟩ = some (.int .i64 s) ∧ vd.cell? ⟨w.heap.size, 4, none⟩ = some (.int .i64 kd) ∧ vd.cell? ⟨w.heap.size, 5, none⟩ = some (.slice a L.length k) := ⟨BD.six.1, BD.six.2.1, BD.six.2.2.1, BD.six.2.2.2.1, BD.six.2.2.2.2.1, BD.six.2.2.2.2.2.1⟩
          refine wpAnyH_take (i := 0) (oi := { dst := some 38, op := _, type := _, pos := _, after := _, guard := _ }) (v := ?_) rfl (by kernel_rfl) (by kernel_rfl) (by kernel_rfl) (fun _ _ _ h => h) (Or.inl ⟨by rfl, ?_⟩) (by assumption) ?_
          rotate_left
          · intro w hSw
            (try dsimp only at hSw)
            go_simp
            (try (with_reducible rfl))
          try simp only [Act.put, List.setIfInBounds_toArray, List.set_cons_zero, List.set_cons_succ]
          refine wpAnyH_take (i := 1) (oi := { dst := some 39, op := _, type := _, pos := _, after := _, guard := _ }) (v := ?_) rfl (by kernel_rfl) (by kernel_rfl) (by kernel_rfl) (fun _ _ _ h => h) (Or.inl ⟨by rfl, ?_⟩) (by assumption) ?_
          rotate_left
          · intro w hSw
            (try dsimp only at hSw)
            go_simp
            (try (with_reducible rfl))
          try simp only [Act.put, List.setIfInBounds_toArray, List.set_cons_zero, List.set_cons_succ]
          refine wpAnyH_take (i := 2) (oi := { dst := some 40, op := _, type := _, pos := _, after := _, guard := _ }) (v := ?_) rfl (by kernel_rfl) (by kernel_rfl) (by kernel_rfl) (fun _ _ _ h => h) (Or.inl ⟨by rfl, ?_⟩) (by assumption) ?_
          rotate_left
          · intro w hSw
            (try dsimp only at hSw)
            go_simp
            (try (with_reducible rfl))
          try simp only [Act.put, List.setIfInBounds_toArray, List.set_cons_zero, List.set_cons_succ]
          refine wpAnyH_take (i := 5) (oi := { dst := some 43, op := _, type := _, pos := _, after := _, guard := _ }) (v := ?_) rfl (by kernel_rfl) (by kernel_rfl) (by kernel_rfl) (fun _ _ _ h => h) (Or.inl ⟨by rfl, ?_⟩) (by assumption) ?_
          rotate_left
          · intro w hSw
            (try dsimp only at hSw)
            go_simp
            (try (with_reducible rfl))
          try simp only [Act.put, List.setIfInBounds_toArray, List.set_cons_zero, List.set_cons_succ]
          refine wpAnyH_take (i := 6) (oi := { dst := some 44, op := _, type := _, pos := _, after := _, guard := _ }) (v := ?_) rfl (by kernel_rfl) (by kernel_rfl) (by kernel_rfl) (fun _ _ _ h => h) (Or.inl ⟨by rfl, ?_⟩) (by assumption) ?_
          rotate_left
          · intro w hSw
            (try dsimp only at hSw)
            go_simp
            (try (with_reducible rfl))
          try simp only [Act.put, List.setIfInBounds_toArray, List.set_cons_zero, List.set_cons_succ]
          refine wpAnyH_take (i := 7) (oi := { dst := some 45, op := _, type := _, pos := _, after := _, guard := _ }) (v := ?_) rfl (by kernel_rfl) (by kernel_rfl) (by kernel_rfl) (fun _ _ _ h => h) (Or.inl ⟨by rfl, ?_⟩) (by assumption) ?_
          rotate_left
          · intro w hSw
            (try dsimp only at hSw)
            go_simp
            (try (with_reducible rfl))
          try simp only [Act.put, List.setIfInBounds_toArray, List.set_cons_zero, List.set_cons_succ]
          refine wpAnyH_ready (rs := [3]) (by kernel_rfl) (by simp) ?_
          refine AllReadyH.cons (o := { dst := some 41, op := _, type := _, pos := _, after := _, guard := _ }) rfl (fun K hK => ?_) AllReadyH.nil
          go_simp
          refine (HBC.out _).mono ?_
          rintro e wr1 ⟨rfl, hbr1⟩
          replace BD := BD.below hbr1
          replace BR := BR.below hbr1
          replace HO := HO.below hbr1
          replace r1 := r1.below hbr1
          replace r2 := r2.below hbr1
          replace hb := chain hb hbr1
          clear hbr1
          (try go_wp2_with fail)
          refine hK.out _ _ ⟨BD.six.1, BD.six.2.1, BD.six.2.2.1, BD.six.2.2.2.1, BD.six.2.2.2.2.1, BD.six.2.2.2.2.2.1⟩ (fun hHeld => ?_)
          clear hK K
          try simp only [Act.put, List.setIfInBounds_toArray, List.set_cons_zero, List.set_cons_succ]
          refine wpAnyH_take (i := 4) (oi := { dst := some 42, op := _, type := _, pos := _, after := _, guard := _ }) (v := ?_) rfl (by kernel_rfl) (by kernel_rfl) (by kernel_rfl) (fun _ _ _ h => h) (Or.inl ⟨by rfl, ?_⟩) (by assumption) ?_
          rotate_left
          · intro w hSw
            (try dsimp only at hSw)
            go_simp
            (try (with_reducible rfl))
          try simp only [Act.put, List.setIfInBounds_toArray, List.set_cons_zero, List.set_cons_succ]
          refine wpAnyH_ready (rs := [8]) (by kernel_rfl) (by simp) ?_
          refine AllReadyH.cons (o := { dst := some 46, op := _, type := _, pos := _, after := _, guard := _ }) rfl (fun K hK => ?_) AllReadyH.nil
          go_simp
          refine (HN2.out _ r2).mono ?_
          rintro e wr2 ⟨rfl, hbr2⟩
          replace BD := BD.below hbr2
          replace BR := BR.below hbr2
          replace HO := HO.below hbr2
          replace r1 := r1.below hbr2
          replace r2 := r2.below hbr2
          replace hb := chain hb hbr2
          clear hbr2
          (try go_wp2_with fail)
          refine hK.out _ _ ⟨BD.six.1, BD.six.2.1, BD.six.2.2.1, BD.six.2.2.2.1, BD.six.2.2.2.2.1, BD.six.2.2.2.2.2.1⟩ (fun hHeld => ?_)
          clear hK K
          try simp only [Act.put, List.setIfInBounds_toArray, List.set_cons_zero, List.set_cons_succ]
          refine wpAnyH_take (i := 9) (oi := { dst := some 47, op := _, type := _, pos := _, after := _, guard := _ }) (v := ?_) rfl (by kernel_rfl) (by kernel_rfl) (by kernel_rfl) (fun _ _ _ h => h) (Or.inl ⟨by rfl, ?_⟩) (by assumption) ?_
          rotate_left
          · intro w hSw
            (try dsimp only at hSw)
            go_simp
            (try (with_reducible rfl))
          try simp only [Act.put, List.setIfInBounds_toArray, List.set_cons_zero, List.set_cons_succ]
          refine wpAnyH_take (i := 10) (oi := { dst := some 8, op := _, type := _, pos := _, after := _, guard := _ }) (v := ?_) rfl (by kernel_rfl) (by kernel_rfl) (by kernel_rfl) (fun _ _ _ h => h) (Or.inl ⟨by rfl, ?_⟩) (by assumption) ?_
          rotate_left
          · intro w hSw
            (try dsimp only at hSw)
            go_simp
            (try (with_reducible rfl))
          try simp only [Act.put, List.setIfInBounds_toArray, List.set_cons_zero, List.set_cons_succ]
          refine wpAnyH_done (by kernel_rfl) ?_ _
          clear hHeld
          obtain ⟨g0, rfl, XR⟩ := HO.row HIL.out
          obtain ⟨u0, u1⟩ := XRow.two XR I0 (xn, xd) HX0.out
          dsimp only at u0 u1
          obtain ⟨q0_BD, q1_BD, q2_BD, q3_BD, q4_BD, q5_BD, qf_BD, ql_BD⟩ := BD.six
          obtain ⟨q0_BR, q1_BR, qf_BR, ql_BR⟩ := BR.two
          go_wp2_with fail
          have BRn := (BR.set (i := 0) (.int .i64 xn)).set (i := 1) (.int .i64 xd)
          simp only [List.setIfInBounds_toArray, List.set_cons_zero, List.set_cons_succ] at BRn
          obtain ⟨t0, t1, tf, tl⟩ := BRn.two
          refine bodyPost_ret (v := .tuple #[.agg #[.int .i64 xn, .int .i64 xd], .int .i64 0]) (by simp [results, Try.results26, go_sem, t0, t1]) rfl ?_
          exact ⟨rfl, (hb.setCell (p := ⟨w.heap.size + 1, 0, none⟩) (by dsimp only; omega) (.int .i64 xn)).setCell (p := ⟨w.heap.size + 1, 1, none⟩) (by dsimp only; omega) (.int .i64 xd)⟩
      · obtain ⟨⟨N0, N1, hsm⟩, e1, e2, e3, e4⟩ := en_lt (ys := ys) g g1 (fun q => absurd q g2)
        have hn1 := fun W (q : IRow W a1 xs) => l10Pnum_any p c h s a1 n1 c1 xs W gv g1 hm1 hsm q
        have ec : enC p c h s kd L xs ys = 0 := by rw [enC, g, g1, if_pos rfl, if_pos ⟨rfl, fun q => absurd q g2⟩]
        rw [show enV p c h s kd L xs ys = L.getD (enI c (wyI h.toNat c.toNat) kd xs ys).toNat (0, 0) by rw [enV, if_pos ec], ec]
        have e5 : enI c (wyI h.toNat c.toNat) kd xs ys = (pnum c xs : Int) := by rw [enI, if_neg g2]
        rw [e5] at e4 ⊢
        obtain ⟨I0, hX⟩ : ∃ X, pnum c xs = X := ⟨_, rfl⟩
        rw [hX] at hn1 e4 ⊢
        rw [Int.toNat_natCast]
        have hIl : I0 < L.length := by omega
        obtain ⟨⟨xn, xd⟩, hx0⟩ : ∃ x, L[I0]? = some x := ⟨_, List.getElem?_eq_getElem hIl⟩
        rw [show L.getD I0 (0, 0) = (xn, xd) by simp [List.getD, hx0]]
        have HX0 := Lib.hid hx0
        have I0I : (0 : Int) ≤ (I0 : Int) := by omega
        have e4' : (I0 : Int) < (L.length : Int) := e4
        have hk2 : (kd == 2) = false := by simp [g2]
        have HF := Lib.hid hf
        have HX := Lib.hid hx
        have HN1 := Lib.hid hn1
        have HIL := Lib.hid hIl
        clear hf g g1 g2 ec hx hy gv gs hr hn1 e1 e2 e3 e4 e5 hX N0 N1 hx0 hIl hsm
        obtain ⟨q0_BD, q1_BD, q2_BD, q3_BD, q4_BD, q5_BD, qf_BD, ql_BD⟩ := BD.six
        obtain ⟨q0_BR, q1_BR, qf_BR, ql_BR⟩ := BR.two
        go_enter Try.func26, Try.ntmps26
        go_wp2_with fail
        clear q0_BD q1_BD q2_BD q3_BD q4_BD q5_BD qf_BD ql_BD q0_BR q1_BR qf_BR ql_BR
        generalize ((w.alloc (.cells #[.int .i64 p, .int .i64 c, .int .i64 h, .int .i64 s, .int .i64 kd, .slice a L.length k] 40)).alloc (.cells #[.int .i64 0, .int .i64 0] 46)) = v0 at *
        refine (HF.out _ HO).mono ?_
        rintro e w1 ⟨rfl, hb1⟩
        replace BD := BD.below hb1
        replace BR := BR.below hb1
        replace HO := HO.below hb1
        replace r1 := r1.below hb1
        replace r2 := r2.below hb1
        have hz1 := hb1.size
        replace hb := chain hb hb1
        clear hb1
        obtain ⟨q0_BD, q1_BD, q2_BD, q3_BD, q4_BD, q5_BD, qf_BD, ql_BD⟩ := BD.six
        obtain ⟨q0_BR, q1_BR, qf_BR, ql_BR⟩ := BR.two
        go_wp2_with fail
        clear q0_BD q1_BD q2_BD q3_BD q4_BD q5_BD qf_BD ql_BD
        clear q0_BR q1_BR qf_BR ql_BR
        refine (HX.out _ r1).mono ?_
        rintro e w1 ⟨rfl, hb1⟩
        replace BD := BD.below hb1
        replace BR := BR.below hb1
        replace HO := HO.below hb1
        replace r1 := r1.below hb1
        replace r2 := r2.below hb1
        have hz1 := hb1.size
        replace hb := chain hb hb1
        clear hb1
        obtain ⟨q0_BD, q1_BD, q2_BD, q3_BD, q4_BD, q5_BD, qf_BD, ql_BD⟩ := BD.six
        obtain ⟨q0_BR, q1_BR, qf_BR, ql_BR⟩ := BR.two
        go_wp2_with fail
        clear q0_BD q1_BD q2_BD q3_BD q4_BD q5_BD qf_BD ql_BD
        clear q0_BR q1_BR qf_BR ql_BR
        refine (HN1.out _ r1).mono ?_
        rintro e w2 ⟨rfl, hb2⟩
        replace BD := BD.below hb2
        replace BR := BR.below hb2
        replace HO := HO.below hb2
        replace r1 := r1.below hb2
        replace r2 := r2.below hb2
        have hz2 := hb2.size
        replace hb := chain hb hb2
        clear hb2
        obtain ⟨g0, rfl, XR⟩ := HO.row HIL.out
        obtain ⟨u0, u1⟩ := XRow.two XR I0 (xn, xd) HX0.out
        dsimp only at u0 u1
        obtain ⟨q0_BD, q1_BD, q2_BD, q3_BD, q4_BD, q5_BD, qf_BD, ql_BD⟩ := BD.six
        obtain ⟨q0_BR, q1_BR, qf_BR, ql_BR⟩ := BR.two
        go_wp2_with fail
        have BRn := (BR.set (i := 0) (.int .i64 xn)).set (i := 1) (.int .i64 xd)
        simp only [List.setIfInBounds_toArray, List.set_cons_zero, List.set_cons_succ] at BRn
        obtain ⟨t0, t1, tf, tl⟩ := BRn.two
        refine bodyPost_ret (v := .tuple #[.agg #[.int .i64 xn, .int .i64 xd], .int .i64 0]) (by simp [results, Try.results26, go_sem, t0, t1]) rfl ?_
        exact ⟨rfl, (hb.setCell (p := ⟨w.heap.size + 1, 0, none⟩) (by dsimp only; omega) (.int .i64 xn)).setCell (p := ⟨w.heap.size + 1, 1, none⟩) (by dsimp only; omega) (.int .i64 xd)⟩
end Go.Proofs.Ytaimieaegfcdoaa
