/- The exact law of chapter 5 on the place of a play holds: for every input the law returns true and its arguments read behind the call as they read before. No conditions. -/
import Derived.Test.YtokjkcnjmfbfiaaY29
import Derived.Test.YtokjkcnjmfbfiaaY22
import Derived.Test.YtokjkcnjmfbfiaaY26
import Derived.ChangeOld
namespace Go.Proofs.Ytokjkcnjmfbfiaa
open Go.ChangeMaps (open_string shut_string)
open Go.ChangeShapes Go.WideShapes Go.ChangeAt Go.RowKit
set_option linter.unusedVariables false
set_option linter.unusedSimpArgs false
set_option maxRecDepth 4000

theorem toRoll_br (a b : Int) (w : World) :
    Calls Try.prog 19 #[.agg #[.int .i64 a, .int .i64 b]] w fun e w' => e = .returned (.agg #[.int .i64 a, .int .i64 b]) ∧ Below w.heap.size w w' := by
  go_enter Try.func19, Try.ntmps19
  go_wp2
  refine bodyPost_ret (v := .agg #[.int .i64 a, .int .i64 b]) (by simp [results, Try.results19, go_sem]) rfl ⟨rfl, ?_⟩
  first
    | exact (((Below.refl _ _).alloc (Nat.le_refl _) _).alloc (by simp) _).alloc (by simp; omega) _
    | exact ((Below.refl _ _).alloc (Nat.le_refl _) _).alloc (by simp) _
theorem fnExactFindPlay_both (p c h s : Int) (xs ys : List Int) (ra rb : Int) (us vs : List Int) : ∃ (R1 R2 : Int), (∀ (a1 a2 : Option Addr) (n1 n2 c1 c2 : Nat) (e1 e2 : Option Addr) (q1 q2 d1 d2 : Nat) (w : World), xs.length = n1 → ys.length = n2 → n1 ≤ 1048576 → n2 ≤ 1048576 → IRow w a1 xs → IRow w a2 ys → us.length = q1 → vs.length = q2 → q1 ≤ 1048576 → q2 ≤ 1048576 → IRow w e1 us → IRow w e2 vs → Calls Try.prog 28 #[.agg #[.int .i64 p, .int .i64 c, .int .i64 h, .int .i64 s], .agg #[.slice a1 n1 c1, .slice a2 n2 c2], .agg #[.int .i64 ra, .int .i64 rb], .agg #[.slice e1 q1 d1, .slice e2 q2 d2]] w fun e w' => e = .returned (.tuple #[.int .i64 R1, .int .i64 R2]) ∧ Below w.heap.size w w') ∧ (∀ (a1 a2 : Option Addr) (n1 n2 c1 c2 : Nat) (e1 e2 : Option Addr) (q1 q2 d1 d2 : Nat) (w : World), xs.length = n1 → ys.length = n2 → n1 ≤ 1048576 → n2 ≤ 1048576 → IRow w a1 xs → IRow w a2 ys → us.length = q1 → vs.length = q2 → q1 ≤ 1048576 → q2 ≤ 1048576 → IRow w e1 us → IRow w e2 vs → Calls Try.prog 29 #[.agg #[.int .i64 p, .int .i64 c, .int .i64 h, .int .i64 s], .agg #[.slice a1 n1 c1, .slice a2 n2 c2], .agg #[.int .i64 ra, .int .i64 rb], .agg #[.slice e1 q1 d1, .slice e2 q2 d2]] w fun e w' => e = .returned (.tuple #[.int .i64 R1, .int .i64 R2]) ∧ Below w.heap.size w w') := by
  by_cases g : apC p c h s xs ys ra rb = 0
  · by_cases f : findP (us, vs) (apL p c h s xs ys ra rb) 0 < 0
    · exact ⟨_, _, fun a1 a2 n1 n2 c1 c2 e1 e2 q1 q2 d1 d2 w h1 h2 l1 l2 r1 r2 g1 g2 k1 k2 s1 s2 => by have t := specFindPlay_any ra rb p c h s a1 a2 n1 n2 c1 c2 xs ys e1 e2 q1 q2 d1 d2 us vs w h1 h2 l1 l2 r1 r2 g1 g2 k1 k2 s1 s2; unfold fpV at t; rw [if_pos g, if_pos f] at t; exact t, fun a1 a2 n1 n2 c1 c2 e1 e2 q1 q2 d1 d2 w h1 h2 l1 l2 r1 r2 g1 g2 k1 k2 s1 s2 => by have t := implFindPlay_any ra rb p c h s a1 a2 n1 n2 c1 c2 xs ys e1 e2 q1 q2 d1 d2 us vs w h1 h2 l1 l2 r1 r2 g1 g2 k1 k2 s1 s2; unfold fpV at t; rw [if_pos g, if_pos f] at t; exact t⟩
    · exact ⟨_, _, fun a1 a2 n1 n2 c1 c2 e1 e2 q1 q2 d1 d2 w h1 h2 l1 l2 r1 r2 g1 g2 k1 k2 s1 s2 => by have t := specFindPlay_any ra rb p c h s a1 a2 n1 n2 c1 c2 xs ys e1 e2 q1 q2 d1 d2 us vs w h1 h2 l1 l2 r1 r2 g1 g2 k1 k2 s1 s2; unfold fpV at t; rw [if_pos g, if_neg f] at t; exact t, fun a1 a2 n1 n2 c1 c2 e1 e2 q1 q2 d1 d2 w h1 h2 l1 l2 r1 r2 g1 g2 k1 k2 s1 s2 => by have t := implFindPlay_any ra rb p c h s a1 a2 n1 n2 c1 c2 xs ys e1 e2 q1 q2 d1 d2 us vs w h1 h2 l1 l2 r1 r2 g1 g2 k1 k2 s1 s2; unfold fpV at t; rw [if_pos g, if_neg f] at t; exact t⟩
  · exact ⟨_, _, fun a1 a2 n1 n2 c1 c2 e1 e2 q1 q2 d1 d2 w h1 h2 l1 l2 r1 r2 g1 g2 k1 k2 s1 s2 => by have t := specFindPlay_any ra rb p c h s a1 a2 n1 n2 c1 c2 xs ys e1 e2 q1 q2 d1 d2 us vs w h1 h2 l1 l2 r1 r2 g1 g2 k1 k2 s1 s2; unfold fpV at t; rw [if_neg g] at t; exact t, fun a1 a2 n1 n2 c1 c2 e1 e2 q1 q2 d1 d2 w h1 h2 l1 l2 r1 r2 g1 g2 k1 k2 s1 s2 => by have t := implFindPlay_any ra rb p c h s a1 a2 n1 n2 c1 c2 xs ys e1 e2 q1 q2 d1 d2 us vs w h1 h2 l1 l2 r1 r2 g1 g2 k1 k2 s1 s2; unfold fpV at t; rw [if_neg g] at t; exact t⟩
set_option maxRecDepth 8000 in
set_option maxHeartbeats 4000000 in
theorem fnExactFindPlay_walk (p c h s : Int) (a1 a2 : Option Addr) (n1 n2 c1 c2 : Nat) (xs ys : List Int) (ra rb : Int) (e1 e2 : Option Addr) (q1 q2 d1 d2 : Nat) (us vs : List Int) (w : World) (h1 : xs.length = n1) (h2 : ys.length = n2) (m1 : n1 ≤ 9223372036854775807) (m2 : n2 ≤ 9223372036854775807) (r1 : IRow w a1 xs) (r2 : IRow w a2 ys)
    (g1 : us.length = q1) (g2 : vs.length = q2) (k1 : q1 ≤ 9223372036854775807) (k2 : q2 ≤ 9223372036854775807) (s1 : IRow w e1 us) (s2 : IRow w e2 vs) :
    Calls Try.prog 5 #[.agg #[.int .i64 p, .int .i64 c, .int .i64 h, .int .i64 s], .agg #[.slice a1 n1 c1, .slice a2 n2 c2], .agg #[.int .i64 ra, .int .i64 rb], .agg #[.slice e1 q1 d1, .slice e2 q2 d2]] w fun e w' => e = .returned (.bool true) ∧ Below w.heap.size w w' := by
  obtain ⟨BV, BB, BS, BD, hb, hz⟩ := fourNew w #[.int .i64 p, .int .i64 c, .int .i64 h, .int .i64 s] #[.slice a1 n1 c1, .slice a2 n2 c2] #[.int .i64 ra, .int .i64 rb] #[.slice e1 q1 d1, .slice e2 q2 d2] 23 26 28 26
  have hz0 : w.heap.size + 1 + 1 + 1 < ((((w.alloc (.cells #[.int .i64 p, .int .i64 c, .int .i64 h, .int .i64 s] 23)).alloc (.cells #[.slice a1 n1 c1, .slice a2 n2 c2] 26)).alloc (.cells #[.int .i64 ra, .int .i64 rb] 28)).alloc (.cells #[.slice e1 q1 d1, .slice e2 q2 d2] 26)).heap.size := by rw [hz]; omega
  clear hz
  have hsz := fun w => szBoard_any a1 a2 n1 n2 c1 c2 1048576 w (by omega) (by omega) m1 m2
  obtain ⟨y0, y1, yf, yl⟩ := BB.two
  by_cases hneg : szAfter 1048576 n1 n2 = -1
  · rw [hneg] at hsz
    have HZ := Lib.hid hsz
    clear hsz hneg
    go_enter Try.func5, Try.ntmps5
    go_wp2_with fail
    generalize ((((w.alloc (.cells #[.int .i64 p, .int .i64 c, .int .i64 h, .int .i64 s] 23)).alloc (.cells #[.slice a1 n1 c1, .slice a2 n2 c2] 26)).alloc (.cells #[.int .i64 ra, .int .i64 rb] 28)).alloc (.cells #[.slice e1 q1 d1, .slice e2 q2 d2] 26)) = v0 at *
    refine (HZ.out _).mono ?_
    rintro e w1 ⟨rfl, hb1⟩
    go_wp2
    go_ret
    exact ⟨rfl, hb.trans (hb1.mono (by omega))⟩
  · have hle : (n1 : Int) + n2 ≤ 1048576 := by
      unfold szAfter at hneg
      split at hneg
      · exact absurd rfl hneg
      · split at hneg
        · exact absurd rfl hneg
        · omega
    obtain ⟨z, hzz⟩ : ∃ z, szAfter 1048576 n1 n2 = z := ⟨_, rfl⟩
    have hzv : z = 1048576 - n1 - n2 := by
      rw [← hzz]
      unfold szAfter
      rw [if_neg (by omega), if_neg (by omega)]
    have hzp : 0 ≤ z := by omega
    have hzl : z ≤ 1048576 := by omega
    rw [hzz] at hsz
    have HZ := Lib.hid hsz
    clear hsz hneg hzz hzv
    have hsd := fun w => szBoard_any e1 e2 q1 q2 d1 d2 z w hzp (by omega) k1 k2
    by_cases hneg2 : szAfter z q1 q2 = -1
    · rw [hneg2] at hsd
      have HZ2 := Lib.hid hsd
      clear hsd hneg2
      go_enter Try.func5, Try.ntmps5
      go_wp2_with fail
      clear y0 y1 yf yl
      generalize ((((w.alloc (.cells #[.int .i64 p, .int .i64 c, .int .i64 h, .int .i64 s] 23)).alloc (.cells #[.slice a1 n1 c1, .slice a2 n2 c2] 26)).alloc (.cells #[.int .i64 ra, .int .i64 rb] 28)).alloc (.cells #[.slice e1 q1 d1, .slice e2 q2 d2] 26)) = v0 at *
      refine (HZ.out _).mono ?_
      rintro e w1 ⟨rfl, hb1⟩
      obtain ⟨y0, y1, yf, yl⟩ := (BD.below hb1).two
      go_wp2_with fail
      refine (HZ2.out _).mono ?_
      rintro e w2 ⟨rfl, hb2⟩
      go_wp2
      go_ret
      exact ⟨rfl, hb.trans ((chain hb1 hb2).mono (by omega))⟩
    · have hle2 : (q1 : Int) + q2 ≤ z := by
        unfold szAfter at hneg2
        split at hneg2
        · exact absurd rfl hneg2
        · split at hneg2
          · exact absurd rfl hneg2
          · omega
      obtain ⟨z2, hzz2⟩ : ∃ z2, szAfter z q1 q2 = z2 := ⟨_, rfl⟩
      have hzp2 : 0 ≤ z2 := by
        rw [← hzz2]
        unfold szAfter
        rw [if_neg (by omega), if_neg (by omega)]
        omega
      rw [hzz2] at hsd
      have HZ2 := Lib.hid hsd
      clear hsd hneg2 hzz2
      have l1 : n1 ≤ 1048576 := by omega
      have l2 : n2 ≤ 1048576 := by omega
      have t1 : q1 ≤ 1048576 := by omega
      have t2 : q2 ≤ 1048576 := by omega
      subst h1 h2 g1 g2
      obtain ⟨R1, R2, hsp, him⟩ := fnExactFindPlay_both p c h s xs ys ra rb us vs
      have HSP := Lib.hid hsp
      have HIM := Lib.hid him
      clear hsp him
      go_enter Try.func5, Try.ntmps5
      go_wp2_with fail
      clear y0 y1 yf yl
      generalize ((((w.alloc (.cells #[.int .i64 p, .int .i64 c, .int .i64 h, .int .i64 s] 23)).alloc (.cells #[.slice a1 xs.length c1, .slice a2 ys.length c2] 26)).alloc (.cells #[.int .i64 ra, .int .i64 rb] 28)).alloc (.cells #[.slice e1 us.length d1, .slice e2 vs.length d2] 26)) = v0 at *
      refine (HZ.out _).mono ?_
      rintro e w00 ⟨rfl, hb1⟩
      obtain ⟨y0, y1, yf, yl⟩ := (BD.below hb1).two
      go_wp2_with fail
      clear y0 y1 yf yl
      refine (HZ2.out _).mono ?_
      rintro e w0 ⟨rfl, hb2⟩
      replace hb1 := chain hb1 hb2
      replace BV := BV.below hb1
      replace BB := BB.below hb1
      replace BS := BS.below hb1
      replace BD := BD.below hb1
      have hlt0 : w.heap.size + 1 + 1 + 1 < w0.heap.size := BD.lt
      replace hb := hb.trans (hb1.mono (by omega))
      clear hb1 hb2 hz0 HZ HZ2
      obtain ⟨q0_BV, q1_BV, q2_BV, q3_BV, qf_BV, ql_BV⟩ := BV.four
      obtain ⟨q0_BB, q1_BB, qf_BB, ql_BB⟩ := BB.two
      obtain ⟨q0_BS, q1_BS, qf_BS, ql_BS⟩ := BS.two
      obtain ⟨q0_BD, q1_BD, qf_BD, ql_BD⟩ := BD.two
      go_wp2_with fail
      clear q0_BV q1_BV q2_BV q3_BV qf_BV ql_BV
      clear q0_BB q1_BB qf_BB ql_BB
      clear q0_BS q1_BS qf_BS ql_BS
      clear q0_BD q1_BD qf_BD ql_BD
      have hd1 : w0.drew.heap.size = w0.heap.size := rfl
      replace BV := BV.drew
      replace BB := BB.drew
      replace BS := BS.drew
      replace BD := BD.drew
      replace hb := hb.drew
      refine wp_region_held_drew (S := fun w' => w'.cell? ⟨w.heap.size, 0, none⟩ = some (.int .i64 p) ∧ w'.cell? ⟨w.heap.size, 1, none⟩ = some (.int .i64 c) ∧ w'.cell? ⟨w.heap.size, 2, none⟩ = some (.int .i64 h) ∧ w'.cell? ⟨w.heap.size, 3, none⟩ = some (.int .i64 s) ∧ w'.cell? ⟨(w.heap.size + 1), 0, none⟩ = some (.slice a1 xs.length c1) ∧ w'.cell? ⟨(w.heap.size + 1), 1, none⟩ = some (.slice a2 ys.length c2) ∧ w'.cell? ⟨(w.heap.size + 1 + 1), 0, none⟩ = some (.int .i64 ra) ∧ w'.cell? ⟨(w.heap.size + 1 + 1), 1, none⟩ = some (.int .i64 rb) ∧ w'.cell? ⟨(w.heap.size + 1 + 1 + 1), 0, none⟩ = some (.slice e1 us.length d1) ∧ w'.cell? ⟨(w.heap.size + 1 + 1 + 1), 1, none⟩ = some (.slice e2 vs.length d2)) (by kernel_rfl) ⟨BV.four.1, BV.four.2.1, BV.four.2.2.1, BV.four.2.2.2.1, BB.two.1, BB.two.2.1, BS.two.1, BS.two.2.1, BD.two.1, BD.two.2.1⟩ (fun hHeld => ?_)
      clear hHeld
      generalize w0.drew = vd1 at *
      have hHeld : vd1.cell? ⟨w.heap.size, 0, none⟩ = some (.int .i64 p) ∧ vd1.cell? ⟨w.heap.size, 1, none⟩ = some (.int .i64 c) ∧ vd1.cell? ⟨w.heap.size, 2, none⟩ = some (.int .i64 h) ∧ vd1.cell? ⟨w.heap.size, 3, none⟩ = some (.int .i64 s) ∧ vd1.cell? ⟨(w.heap.size + 1), 0, none⟩ = some (.slice a1 xs.length c1) ∧ vd1.cell? ⟨(w.heap.size + 1), 1, none⟩ = some (.slice a2 ys.length c2) ∧ vd1.cell? ⟨(w.heap.size + 1 + 1), 0, none⟩ = some (.int .i64 ra) ∧ vd1.cell? ⟨(w.heap.size + 1 + 1), 1, none⟩ = some (.int .i64 rb) ∧ vd1.cell? ⟨(w.heap.size + 1 + 1 + 1), 0, none⟩ = some (.slice e1 us.length d1) ∧ vd1.cell? ⟨(w.heap.size + 1 + 1 + 1), 1, none⟩ = some (.slice e2 vs.length d2) := ⟨BV.four.1, BV.four.2.1, BV.four.2.2.1, BV.four.2.2.2.1, BB.two.1, BB.two.2.1, BS.two.1, BS.two.2.1, BD.two.1, BD.two.2.1⟩
      refine wpAnyH_take (i := 0) (oi := { dst := some 27, op := _, type := _, pos := _, after := _, guard := _ }) (v := ?_) rfl (by kernel_rfl) (by kernel_rfl) (by kernel_rfl) (fun _ _ _ h => h) (Or.inl ⟨by rfl, ?_⟩) (by assumption) ?_
      rotate_left
      · intro w hSw
        (try dsimp only at hSw)
        go_simp
        (try (with_reducible rfl))
      try simp only [Act.put, List.setIfInBounds_toArray, List.set_cons_zero, List.set_cons_succ]
      refine wpAnyH_take (i := 2) (oi := { dst := some 29, op := _, type := _, pos := _, after := _, guard := _ }) (v := ?_) rfl (by kernel_rfl) (by kernel_rfl) (by kernel_rfl) (fun _ _ _ h => h) (Or.inl ⟨by rfl, ?_⟩) (by assumption) ?_
      rotate_left
      · intro w hSw
        (try dsimp only at hSw)
        go_simp
        (try (with_reducible rfl))
      try simp only [Act.put, List.setIfInBounds_toArray, List.set_cons_zero, List.set_cons_succ]
      refine wpAnyH_take (i := 4) (oi := { dst := some 31, op := _, type := _, pos := _, after := _, guard := _ }) (v := ?_) rfl (by kernel_rfl) (by kernel_rfl) (by kernel_rfl) (fun _ _ _ h => h) (Or.inl ⟨by rfl, ?_⟩) (by assumption) ?_
      rotate_left
      · intro w hSw
        (try dsimp only at hSw)
        go_simp
        (try (with_reducible rfl))
      try simp only [Act.put, List.setIfInBounds_toArray, List.set_cons_zero, List.set_cons_succ]
      refine wpAnyH_take (i := 6) (oi := { dst := some 33, op := _, type := _, pos := _, after := _, guard := _ }) (v := ?_) rfl (by kernel_rfl) (by kernel_rfl) (by kernel_rfl) (fun _ _ _ h => h) (Or.inl ⟨by rfl, ?_⟩) (by assumption) ?_
      rotate_left
      · intro w hSw
        (try dsimp only at hSw)
        go_simp
        (try (with_reducible rfl))
      try simp only [Act.put, List.setIfInBounds_toArray, List.set_cons_zero, List.set_cons_succ]
      refine wpAnyH_ready (rs := [1]) (by kernel_rfl) (by simp) ?_
      refine AllReadyH.cons (o := { dst := some 28, op := _, type := _, pos := _, after := _, guard := _ }) rfl (fun K hK => ?_) AllReadyH.nil
      go_simp
      refine (toVariant_any _ _ _ _ _).mono ?_
      rintro e w2 ⟨rfl, hb2⟩
      replace BV := BV.below hb2
      replace BB := BB.below hb2
      replace BS := BS.below hb2
      replace BD := BD.below hb2
      have hz2 := hb2.size
      replace hb := chain hb hb2
      clear hb2
      (try go_wp2_with fail)
      refine hK.out _ _ ⟨BV.four.1, BV.four.2.1, BV.four.2.2.1, BV.four.2.2.2.1, BB.two.1, BB.two.2.1, BS.two.1, BS.two.2.1, BD.two.1, BD.two.2.1⟩ (fun hHeld => ?_)
      clear hK K
      try simp only [Act.put, List.setIfInBounds_toArray, List.set_cons_zero, List.set_cons_succ]
      refine wpAnyH_ready (rs := [3]) (by kernel_rfl) (by simp) ?_
      refine AllReadyH.cons (o := { dst := some 30, op := _, type := _, pos := _, after := _, guard := _ }) rfl (fun K hK => ?_) AllReadyH.nil
      go_simp
      refine (toBoard_any a1 a2 _ _ c1 c2 xs ys _ rfl rfl l1 l2 (r1.below hb) (r2.below hb)).mono ?_
      rintro e w3 ⟨g1, g2, rfl, gg1, gg2, R1_, R2_, hb3⟩
      replace BV := BV.below hb3
      replace BB := BB.below hb3
      replace BS := BS.below hb3
      replace BD := BD.below hb3
      have hz3 := hb3.size
      replace hb := chain hb hb3
      clear hb3
      (try go_wp2_with fail)
      refine hK.out _ _ ⟨BV.four.1, BV.four.2.1, BV.four.2.2.1, BV.four.2.2.2.1, BB.two.1, BB.two.2.1, BS.two.1, BS.two.2.1, BD.two.1, BD.two.2.1⟩ (fun hHeld => ?_)
      clear hK K
      try simp only [Act.put, List.setIfInBounds_toArray, List.set_cons_zero, List.set_cons_succ]
      refine wpAnyH_ready (rs := [5]) (by kernel_rfl) (by simp) ?_
      refine AllReadyH.cons (o := { dst := some 32, op := _, type := _, pos := _, after := _, guard := _ }) rfl (fun K hK => ?_) AllReadyH.nil
      go_simp
      refine (toRoll_br ra rb _).mono ?_
      rintro e w4 ⟨rfl, hb4⟩
      replace BV := BV.below hb4
      replace BB := BB.below hb4
      replace BS := BS.below hb4
      replace BD := BD.below hb4
      replace R1_ := R1_.below hb4
      replace R2_ := R2_.below hb4
      have hz4 := hb4.size
      replace hb := chain hb hb4
      clear hb4
      (try go_wp2_with fail)
      refine hK.out _ _ ⟨BV.four.1, BV.four.2.1, BV.four.2.2.1, BV.four.2.2.2.1, BB.two.1, BB.two.2.1, BS.two.1, BS.two.2.1, BD.two.1, BD.two.2.1⟩ (fun hHeld => ?_)
      clear hK K
      try simp only [Act.put, List.setIfInBounds_toArray, List.set_cons_zero, List.set_cons_succ]
      refine wpAnyH_ready (rs := [7]) (by kernel_rfl) (by simp) ?_
      refine AllReadyH.cons (o := { dst := some 34, op := _, type := _, pos := _, after := _, guard := _ }) rfl (fun K hK => ?_) AllReadyH.nil
      go_simp
      refine (toBoard_any e1 e2 _ _ d1 d2 us vs _ rfl rfl t1 t2 (s1.below hb) (s2.below hb)).mono ?_
      rintro e w5 ⟨j1, j2, rfl, jj1, jj2, Q1_, Q2_, hb5⟩
      replace BV := BV.below hb5
      replace BB := BB.below hb5
      replace BS := BS.below hb5
      replace BD := BD.below hb5
      replace R1_ := R1_.below hb5
      replace R2_ := R2_.below hb5
      have hz5 := hb5.size
      replace hb := chain hb hb5
      clear hb5
      (try go_wp2_with fail)
      refine hK.out _ _ ⟨BV.four.1, BV.four.2.1, BV.four.2.2.1, BV.four.2.2.2.1, BB.two.1, BB.two.2.1, BS.two.1, BS.two.2.1, BD.two.1, BD.two.2.1⟩ (fun hHeld => ?_)
      clear hK K
      try simp only [Act.put, List.setIfInBounds_toArray, List.set_cons_zero, List.set_cons_succ]
      refine wpAnyH_ready (rs := [8]) (by kernel_rfl) (by simp) ?_
      refine AllReadyH.cons (o := { dst := some 35, op := _, type := _, pos := _, after := _, guard := _ }) rfl (fun K hK => ?_) AllReadyH.nil
      go_simp
      refine (HSP.out _ _ _ _ _ _ _ _ _ _ _ _ _ rfl rfl l1 l2 R1_.irow R2_.irow rfl rfl t1 t2 Q1_.irow Q2_.irow).mono ?_
      rintro e w6 ⟨rfl, hb6⟩
      replace BV := BV.below hb6
      replace BB := BB.below hb6
      replace BS := BS.below hb6
      replace BD := BD.below hb6
      replace R1_ := R1_.below hb6
      replace R2_ := R2_.below hb6
      replace Q1_ := Q1_.below hb6
      replace Q2_ := Q2_.below hb6
      have hz6 := hb6.size
      replace hb := chain hb hb6
      clear hb6
      (try go_wp2_with fail)
      refine hK.out _ _ ⟨BV.four.1, BV.four.2.1, BV.four.2.2.1, BV.four.2.2.2.1, BB.two.1, BB.two.2.1, BS.two.1, BS.two.2.1, BD.two.1, BD.two.2.1⟩ (fun hHeld => ?_)
      clear hK K
      try simp only [Act.put, List.setIfInBounds_toArray, List.set_cons_zero, List.set_cons_succ]
      refine wpAnyH_take (i := 9) (oi := { dst := some 26, op := _, type := _, pos := _, after := _, guard := _ }) (v := ?_) rfl (by kernel_rfl) (by kernel_rfl) (by kernel_rfl) (fun _ _ _ h => h) (Or.inl ⟨by rfl, ?_⟩) (by assumption) ?_
      rotate_left
      · intro w hSw
        (try dsimp only at hSw)
        go_simp
        (try (with_reducible rfl))
      try simp only [Act.put, List.setIfInBounds_toArray, List.set_cons_zero, List.set_cons_succ]
      refine wpAnyH_take (i := 10) (oi := { dst := some 36, op := _, type := _, pos := _, after := _, guard := _ }) (v := ?_) rfl (by kernel_rfl) (by kernel_rfl) (by kernel_rfl) (fun _ _ _ h => h) (Or.inl ⟨by rfl, ?_⟩) (by assumption) ?_
      rotate_left
      · intro w hSw
        (try dsimp only at hSw)
        go_simp
        (try (with_reducible rfl))
      try simp only [Act.put, List.setIfInBounds_toArray, List.set_cons_zero, List.set_cons_succ]
      refine wpAnyH_take (i := 11) (oi := { dst := some 37, op := _, type := _, pos := _, after := _, guard := _ }) (v := ?_) rfl (by kernel_rfl) (by kernel_rfl) (by kernel_rfl) (fun _ _ _ h => h) (Or.inl ⟨by rfl, ?_⟩) (by assumption) ?_
      rotate_left
      · intro w hSw
        (try dsimp only at hSw)
        go_simp
        (try (with_reducible rfl))
      try simp only [Act.put, List.setIfInBounds_toArray, List.set_cons_zero, List.set_cons_succ]
      refine wpAnyH_take (i := 12) (oi := { dst := some 10, op := _, type := _, pos := _, after := _, guard := _ }) (v := ?_) rfl (by kernel_rfl) (by kernel_rfl) (by kernel_rfl) (fun _ _ _ h => h) (Or.inl ⟨by rfl, ?_⟩) (by assumption) ?_
      rotate_left
      · intro w hSw
        (try dsimp only at hSw)
        go_simp
        (try (with_reducible rfl))
      try simp only [Act.put, List.setIfInBounds_toArray, List.set_cons_zero, List.set_cons_succ]
      refine wpAnyH_take (i := 13) (oi := { dst := some 11, op := _, type := _, pos := _, after := _, guard := _ }) (v := ?_) rfl (by kernel_rfl) (by kernel_rfl) (by kernel_rfl) (fun _ _ _ h => h) (Or.inl ⟨by rfl, ?_⟩) (by assumption) ?_
      rotate_left
      · intro w hSw
        (try dsimp only at hSw)
        go_simp
        (try (with_reducible rfl))
      try simp only [Act.put, List.setIfInBounds_toArray, List.set_cons_zero, List.set_cons_succ]
      refine wpAnyH_done (by kernel_rfl) ?_ _
      clear hHeld
      clear R1_ R2_ gg1 gg2 Q1_ Q2_ jj1 jj2
      obtain ⟨q0_BV, q1_BV, q2_BV, q3_BV, qf_BV, ql_BV⟩ := BV.four
      obtain ⟨q0_BB, q1_BB, qf_BB, ql_BB⟩ := BB.two
      obtain ⟨q0_BS, q1_BS, qf_BS, ql_BS⟩ := BS.two
      obtain ⟨q0_BD, q1_BD, qf_BD, ql_BD⟩ := BD.two
      go_wp2_with fail
      clear q0_BV q1_BV q2_BV q3_BV qf_BV ql_BV
      clear q0_BB q1_BB qf_BB ql_BB
      clear q0_BS q1_BS qf_BS ql_BS
      clear q0_BD q1_BD qf_BD ql_BD
      refine (toBoard_any a1 a2 _ _ c1 c2 xs ys _ rfl rfl l1 l2 (r1.below hb) (r2.below hb)).mono ?_
      rintro e w7 ⟨b1, b2, rfl, gb1, gb2, R1_, R2_, hb7⟩
      replace BV := BV.below hb7
      replace BB := BB.below hb7
      replace BS := BS.below hb7
      replace BD := BD.below hb7
      have hz7 := hb7.size
      replace hb := chain hb hb7
      clear hb7
      have OX : OBd w6.heap.size w7.heap.size w7 (some ⟨b1, 0, none⟩) (some ⟨b2, 0, none⟩) xs ys := .inr ⟨b1, b2, rfl, rfl, by omega, gb1, R1_.lt, by omega, R2_.lt, R1_, R2_⟩
      clear R1_ R2_ gb1 gb2
      have BX := Blk.new w7 #[.slice (some ⟨b1, 0, none⟩) xs.length xs.length, .slice (some ⟨b2, 0, none⟩) ys.length ys.length] 34
      have hal8 : Below w7.heap.size w7 (w7.alloc (.cells #[.slice (some ⟨b1, 0, none⟩) xs.length xs.length, .slice (some ⟨b2, 0, none⟩) ys.length ys.length] 34)) := (Below.refl _ _).alloc (Nat.le_refl _) _
      have hz8 : (w7.alloc (.cells #[.slice (some ⟨b1, 0, none⟩) xs.length xs.length, .slice (some ⟨b2, 0, none⟩) ys.length ys.length] 34)).heap.size = w7.heap.size + 1 := by simp
      replace BV := BV.below hal8
      replace BB := BB.below hal8
      replace BS := BS.below hal8
      replace BD := BD.below hal8
      replace OX := OX.below hal8
      replace hb := chain hb hal8
      clear hal8
      obtain ⟨q0_BV, q1_BV, q2_BV, q3_BV, qf_BV, ql_BV⟩ := BV.four
      obtain ⟨q0_BB, q1_BB, qf_BB, ql_BB⟩ := BB.two
      obtain ⟨q0_BS, q1_BS, qf_BS, ql_BS⟩ := BS.two
      obtain ⟨q0_BD, q1_BD, qf_BD, ql_BD⟩ := BD.two
      obtain ⟨q0_BX, q1_BX, qf_BX, ql_BX⟩ := BX.two
      go_wp2_with fail
      clear q0_BV q1_BV q2_BV q3_BV qf_BV ql_BV
      clear q0_BB q1_BB qf_BB ql_BB
      clear q0_BS q1_BS qf_BS ql_BS
      clear q0_BD q1_BD qf_BD ql_BD
      clear q0_BX q1_BX qf_BX ql_BX
      generalize (w7.alloc (.cells #[.slice (some ⟨b1, 0, none⟩) xs.length xs.length, .slice (some ⟨b2, 0, none⟩) ys.length ys.length] 34)) = w8 at *
      obtain ⟨q0_BV, q1_BV, q2_BV, q3_BV, qf_BV, ql_BV⟩ := BV.four
      obtain ⟨q0_BB, q1_BB, qf_BB, ql_BB⟩ := BB.two
      obtain ⟨q0_BS, q1_BS, qf_BS, ql_BS⟩ := BS.two
      obtain ⟨q0_BD, q1_BD, qf_BD, ql_BD⟩ := BD.two
      obtain ⟨q0_BX, q1_BX, qf_BX, ql_BX⟩ := BX.two
      go_wp2_with fail
      clear q0_BV q1_BV q2_BV q3_BV qf_BV ql_BV
      clear q0_BB q1_BB qf_BB ql_BB
      clear q0_BS q1_BS qf_BS ql_BS
      clear q0_BD q1_BD qf_BD ql_BD
      clear q0_BX q1_BX qf_BX ql_BX
      refine (toBoard_any e1 e2 _ _ d1 d2 us vs _ rfl rfl t1 t2 (s1.below hb) (s2.below hb)).mono ?_
      rintro e w9 ⟨f1, f2, rfl, gf1, gf2, R1_, R2_, hb9⟩
      replace BV := BV.below hb9
      replace BB := BB.below hb9
      replace BS := BS.below hb9
      replace BD := BD.below hb9
      replace OX := OX.below hb9
      replace BX := BX.below hb9
      have hz9 := hb9.size
      replace hb := chain hb hb9
      clear hb9
      have OY : OBd w8.heap.size w9.heap.size w9 (some ⟨f1, 0, none⟩) (some ⟨f2, 0, none⟩) us vs := .inr ⟨f1, f2, rfl, rfl, by omega, gf1, R1_.lt, by omega, R2_.lt, R1_, R2_⟩
      clear R1_ R2_ gf1 gf2
      have BY := Blk.new w9 #[.slice (some ⟨f1, 0, none⟩) us.length us.length, .slice (some ⟨f2, 0, none⟩) vs.length vs.length] 34
      have hal10 : Below w9.heap.size w9 (w9.alloc (.cells #[.slice (some ⟨f1, 0, none⟩) us.length us.length, .slice (some ⟨f2, 0, none⟩) vs.length vs.length] 34)) := (Below.refl _ _).alloc (Nat.le_refl _) _
      have hz10 : (w9.alloc (.cells #[.slice (some ⟨f1, 0, none⟩) us.length us.length, .slice (some ⟨f2, 0, none⟩) vs.length vs.length] 34)).heap.size = w9.heap.size + 1 := by simp
      replace BV := BV.below hal10
      replace BB := BB.below hal10
      replace BS := BS.below hal10
      replace BD := BD.below hal10
      replace OX := OX.below hal10
      replace BX := BX.below hal10
      replace OY := OY.below hal10
      replace hb := chain hb hal10
      clear hal10
      obtain ⟨q0_BV, q1_BV, q2_BV, q3_BV, qf_BV, ql_BV⟩ := BV.four
      obtain ⟨q0_BB, q1_BB, qf_BB, ql_BB⟩ := BB.two
      obtain ⟨q0_BS, q1_BS, qf_BS, ql_BS⟩ := BS.two
      obtain ⟨q0_BD, q1_BD, qf_BD, ql_BD⟩ := BD.two
      obtain ⟨q0_BX, q1_BX, qf_BX, ql_BX⟩ := BX.two
      obtain ⟨q0_BY, q1_BY, qf_BY, ql_BY⟩ := BY.two
      go_wp2_with fail
      clear q0_BV q1_BV q2_BV q3_BV qf_BV ql_BV
      clear q0_BB q1_BB qf_BB ql_BB
      clear q0_BS q1_BS qf_BS ql_BS
      clear q0_BD q1_BD qf_BD ql_BD
      clear q0_BX q1_BX qf_BX ql_BX
      clear q0_BY q1_BY qf_BY ql_BY
      generalize (w9.alloc (.cells #[.slice (some ⟨f1, 0, none⟩) us.length us.length, .slice (some ⟨f2, 0, none⟩) vs.length vs.length] 34)) = w10 at *
      obtain ⟨q0_BV, q1_BV, q2_BV, q3_BV, qf_BV, ql_BV⟩ := BV.four
      obtain ⟨q0_BB, q1_BB, qf_BB, ql_BB⟩ := BB.two
      obtain ⟨q0_BS, q1_BS, qf_BS, ql_BS⟩ := BS.two
      obtain ⟨q0_BD, q1_BD, qf_BD, ql_BD⟩ := BD.two
      obtain ⟨q0_BX, q1_BX, qf_BX, ql_BX⟩ := BX.two
      obtain ⟨q0_BY, q1_BY, qf_BY, ql_BY⟩ := BY.two
      go_wp2_with fail
      clear q0_BV q1_BV q2_BV q3_BV qf_BV ql_BV
      clear q0_BB q1_BB qf_BB ql_BB
      clear q0_BS q1_BS qf_BS ql_BS
      clear q0_BD q1_BD qf_BD ql_BD
      clear q0_BX q1_BX qf_BX ql_BX
      clear q0_BY q1_BY qf_BY ql_BY
      have hd11 : w10.drew.heap.size = w10.heap.size := rfl
      replace BV := BV.drew
      replace BB := BB.drew
      replace BS := BS.drew
      replace BD := BD.drew
      replace OX := OX.drew
      replace BX := BX.drew
      replace OY := OY.drew
      replace BY := BY.drew
      replace hb := hb.drew
      refine wp_region_held_drew (S := fun w' => w'.cell? ⟨w.heap.size, 0, none⟩ = some (.int .i64 p) ∧ w'.cell? ⟨w.heap.size, 1, none⟩ = some (.int .i64 c) ∧ w'.cell? ⟨w.heap.size, 2, none⟩ = some (.int .i64 h) ∧ w'.cell? ⟨w.heap.size, 3, none⟩ = some (.int .i64 s) ∧ w'.cell? ⟨(w.heap.size + 1), 0, none⟩ = some (.slice a1 xs.length c1) ∧ w'.cell? ⟨(w.heap.size + 1), 1, none⟩ = some (.slice a2 ys.length c2) ∧ w'.cell? ⟨(w.heap.size + 1 + 1), 0, none⟩ = some (.int .i64 ra) ∧ w'.cell? ⟨(w.heap.size + 1 + 1), 1, none⟩ = some (.int .i64 rb) ∧ w'.cell? ⟨(w.heap.size + 1 + 1 + 1), 0, none⟩ = some (.slice e1 us.length d1) ∧ w'.cell? ⟨(w.heap.size + 1 + 1 + 1), 1, none⟩ = some (.slice e2 vs.length d2) ∧ w'.cell? ⟨w7.heap.size, 0, none⟩ = some (.slice (some ⟨b1, 0, none⟩) xs.length xs.length) ∧ w'.cell? ⟨w7.heap.size, 1, none⟩ = some (.slice (some ⟨b2, 0, none⟩) ys.length ys.length) ∧ w'.cell? ⟨w9.heap.size, 0, none⟩ = some (.slice (some ⟨f1, 0, none⟩) us.length us.length) ∧ w'.cell? ⟨w9.heap.size, 1, none⟩ = some (.slice (some ⟨f2, 0, none⟩) vs.length vs.length)) (by kernel_rfl) ⟨BV.four.1, BV.four.2.1, BV.four.2.2.1, BV.four.2.2.2.1, BB.two.1, BB.two.2.1, BS.two.1, BS.two.2.1, BD.two.1, BD.two.2.1, BX.two.1, BX.two.2.1, BY.two.1, BY.two.2.1⟩ (fun hHeld => ?_)
      clear hHeld
      generalize w10.drew = vd11 at *
      have hHeld : vd11.cell? ⟨w.heap.size, 0, none⟩ = some (.int .i64 p) ∧ vd11.cell? ⟨w.heap.size, 1, none⟩ = some (.int .i64 c) ∧ vd11.cell? ⟨w.heap.size, 2, none⟩ = some (.int .i64 h) ∧ vd11.cell? ⟨w.heap.size, 3, none⟩ = some (.int .i64 s) ∧ vd11.cell? ⟨(w.heap.size + 1), 0, none⟩ = some (.slice a1 xs.length c1) ∧ vd11.cell? ⟨(w.heap.size + 1), 1, none⟩ = some (.slice a2 ys.length c2) ∧ vd11.cell? ⟨(w.heap.size + 1 + 1), 0, none⟩ = some (.int .i64 ra) ∧ vd11.cell? ⟨(w.heap.size + 1 + 1), 1, none⟩ = some (.int .i64 rb) ∧ vd11.cell? ⟨(w.heap.size + 1 + 1 + 1), 0, none⟩ = some (.slice e1 us.length d1) ∧ vd11.cell? ⟨(w.heap.size + 1 + 1 + 1), 1, none⟩ = some (.slice e2 vs.length d2) ∧ vd11.cell? ⟨w7.heap.size, 0, none⟩ = some (.slice (some ⟨b1, 0, none⟩) xs.length xs.length) ∧ vd11.cell? ⟨w7.heap.size, 1, none⟩ = some (.slice (some ⟨b2, 0, none⟩) ys.length ys.length) ∧ vd11.cell? ⟨w9.heap.size, 0, none⟩ = some (.slice (some ⟨f1, 0, none⟩) us.length us.length) ∧ vd11.cell? ⟨w9.heap.size, 1, none⟩ = some (.slice (some ⟨f2, 0, none⟩) vs.length vs.length) := ⟨BV.four.1, BV.four.2.1, BV.four.2.2.1, BV.four.2.2.2.1, BB.two.1, BB.two.2.1, BS.two.1, BS.two.2.1, BD.two.1, BD.two.2.1, BX.two.1, BX.two.2.1, BY.two.1, BY.two.2.1⟩
      refine wpAnyH_take (i := 0) (oi := { dst := some 43, op := _, type := _, pos := _, after := _, guard := _ }) (v := ?_) rfl (by kernel_rfl) (by kernel_rfl) (by kernel_rfl) (fun _ _ _ h => h) (Or.inl ⟨by rfl, ?_⟩) (by assumption) ?_
      rotate_left
      · intro w hSw
        (try dsimp only at hSw)
        go_simp
        (try (with_reducible rfl))
      try simp only [Act.put, List.setIfInBounds_toArray, List.set_cons_zero, List.set_cons_succ]
      refine wpAnyH_take (i := 2) (oi := { dst := some 45, op := _, type := _, pos := _, after := _, guard := _ }) (v := ?_) rfl (by kernel_rfl) (by kernel_rfl) (by kernel_rfl) (fun _ _ _ h => h) (Or.inl ⟨by rfl, ?_⟩) (by assumption) ?_
      rotate_left
      · intro w hSw
        (try dsimp only at hSw)
        go_simp
        (try (with_reducible rfl))
      try simp only [Act.put, List.setIfInBounds_toArray, List.set_cons_zero, List.set_cons_succ]
      refine wpAnyH_take (i := 3) (oi := { dst := some 46, op := _, type := _, pos := _, after := _, guard := _ }) (v := ?_) rfl (by kernel_rfl) (by kernel_rfl) (by kernel_rfl) (fun _ _ _ h => h) (Or.inl ⟨by rfl, ?_⟩) (by assumption) ?_
      rotate_left
      · intro w hSw
        (try dsimp only at hSw)
        go_simp
        (try (with_reducible rfl))
      try simp only [Act.put, List.setIfInBounds_toArray, List.set_cons_zero, List.set_cons_succ]
      refine wpAnyH_take (i := 5) (oi := { dst := some 48, op := _, type := _, pos := _, after := _, guard := _ }) (v := ?_) rfl (by kernel_rfl) (by kernel_rfl) (by kernel_rfl) (fun _ _ _ h => h) (Or.inl ⟨by rfl, ?_⟩) (by assumption) ?_
      rotate_left
      · intro w hSw
        (try dsimp only at hSw)
        go_simp
        (try (with_reducible rfl))
      try simp only [Act.put, List.setIfInBounds_toArray, List.set_cons_zero, List.set_cons_succ]
      refine wpAnyH_ready (rs := [1]) (by kernel_rfl) (by simp) ?_
      refine AllReadyH.cons (o := { dst := some 44, op := _, type := _, pos := _, after := _, guard := _ }) rfl (fun K hK => ?_) AllReadyH.nil
      go_simp
      refine (toVariant_any _ _ _ _ _).mono ?_
      rintro e w12 ⟨rfl, hb12⟩
      replace BV := BV.below hb12
      replace BB := BB.below hb12
      replace BS := BS.below hb12
      replace BD := BD.below hb12
      replace OX := OX.below hb12
      replace BX := BX.below hb12
      replace OY := OY.below hb12
      replace BY := BY.below hb12
      have hz12 := hb12.size
      replace hb := chain hb hb12
      clear hb12
      (try go_wp2_with fail)
      refine hK.out _ _ ⟨BV.four.1, BV.four.2.1, BV.four.2.2.1, BV.four.2.2.2.1, BB.two.1, BB.two.2.1, BS.two.1, BS.two.2.1, BD.two.1, BD.two.2.1, BX.two.1, BX.two.2.1, BY.two.1, BY.two.2.1⟩ (fun hHeld => ?_)
      clear hK K
      try simp only [Act.put, List.setIfInBounds_toArray, List.set_cons_zero, List.set_cons_succ]
      refine wpAnyH_ready (rs := [4]) (by kernel_rfl) (by simp) ?_
      refine AllReadyH.cons (o := { dst := some 47, op := _, type := _, pos := _, after := _, guard := _ }) rfl (fun K hK => ?_) AllReadyH.nil
      go_simp
      refine (toRoll_br ra rb _).mono ?_
      rintro e w13 ⟨rfl, hb13⟩
      replace BV := BV.below hb13
      replace BB := BB.below hb13
      replace BS := BS.below hb13
      replace BD := BD.below hb13
      replace OX := OX.below hb13
      replace BX := BX.below hb13
      replace OY := OY.below hb13
      replace BY := BY.below hb13
      have hz13 := hb13.size
      replace hb := chain hb hb13
      clear hb13
      (try go_wp2_with fail)
      refine hK.out _ _ ⟨BV.four.1, BV.four.2.1, BV.four.2.2.1, BV.four.2.2.2.1, BB.two.1, BB.two.2.1, BS.two.1, BS.two.2.1, BD.two.1, BD.two.2.1, BX.two.1, BX.two.2.1, BY.two.1, BY.two.2.1⟩ (fun hHeld => ?_)
      clear hK K
      try simp only [Act.put, List.setIfInBounds_toArray, List.set_cons_zero, List.set_cons_succ]
      refine wpAnyH_ready (rs := [6]) (by kernel_rfl) (by simp) ?_
      refine AllReadyH.cons (o := { dst := some 49, op := _, type := _, pos := _, after := _, guard := _ }) rfl (fun K hK => ?_) AllReadyH.nil
      go_simp
      refine (HIM.out _ _ _ _ _ _ _ _ _ _ _ _ _ rfl rfl l1 l2 OX.irow1 OX.irow2 rfl rfl t1 t2 OY.irow1 OY.irow2).mono ?_
      rintro e w14 ⟨rfl, hb14⟩
      replace BV := BV.below hb14
      replace BB := BB.below hb14
      replace BS := BS.below hb14
      replace BD := BD.below hb14
      replace OX := OX.below hb14
      replace BX := BX.below hb14
      replace OY := OY.below hb14
      replace BY := BY.below hb14
      have hz14 := hb14.size
      replace hb := chain hb hb14
      clear hb14
      (try go_wp2_with fail)
      refine hK.out _ _ ⟨BV.four.1, BV.four.2.1, BV.four.2.2.1, BV.four.2.2.2.1, BB.two.1, BB.two.2.1, BS.two.1, BS.two.2.1, BD.two.1, BD.two.2.1, BX.two.1, BX.two.2.1, BY.two.1, BY.two.2.1⟩ (fun hHeld => ?_)
      clear hK K
      try simp only [Act.put, List.setIfInBounds_toArray, List.set_cons_zero, List.set_cons_succ]
      refine wpAnyH_take (i := 7) (oi := { dst := some 42, op := _, type := _, pos := _, after := _, guard := _ }) (v := ?_) rfl (by kernel_rfl) (by kernel_rfl) (by kernel_rfl) (fun _ _ _ h => h) (Or.inl ⟨by rfl, ?_⟩) (by assumption) ?_
      rotate_left
      · intro w hSw
        (try dsimp only at hSw)
        go_simp
        (try (with_reducible rfl))
      try simp only [Act.put, List.setIfInBounds_toArray, List.set_cons_zero, List.set_cons_succ]
      refine wpAnyH_take (i := 8) (oi := { dst := some 50, op := _, type := _, pos := _, after := _, guard := _ }) (v := ?_) rfl (by kernel_rfl) (by kernel_rfl) (by kernel_rfl) (fun _ _ _ h => h) (Or.inl ⟨by rfl, ?_⟩) (by assumption) ?_
      rotate_left
      · intro w hSw
        (try dsimp only at hSw)
        go_simp
        (try (with_reducible rfl))
      try simp only [Act.put, List.setIfInBounds_toArray, List.set_cons_zero, List.set_cons_succ]
      refine wpAnyH_take (i := 9) (oi := { dst := some 51, op := _, type := _, pos := _, after := _, guard := _ }) (v := ?_) rfl (by kernel_rfl) (by kernel_rfl) (by kernel_rfl) (fun _ _ _ h => h) (Or.inl ⟨by rfl, ?_⟩) (by assumption) ?_
      rotate_left
      · intro w hSw
        (try dsimp only at hSw)
        go_simp
        (try (with_reducible rfl))
      try simp only [Act.put, List.setIfInBounds_toArray, List.set_cons_zero, List.set_cons_succ]
      refine wpAnyH_take (i := 10) (oi := { dst := some 14, op := _, type := _, pos := _, after := _, guard := _ }) (v := ?_) rfl (by kernel_rfl) (by kernel_rfl) (by kernel_rfl) (fun _ _ _ h => h) (Or.inl ⟨by rfl, ?_⟩) (by assumption) ?_
      rotate_left
      · intro w hSw
        (try dsimp only at hSw)
        go_simp
        (try (with_reducible rfl))
      try simp only [Act.put, List.setIfInBounds_toArray, List.set_cons_zero, List.set_cons_succ]
      refine wpAnyH_take (i := 11) (oi := { dst := some 15, op := _, type := _, pos := _, after := _, guard := _ }) (v := ?_) rfl (by kernel_rfl) (by kernel_rfl) (by kernel_rfl) (fun _ _ _ h => h) (Or.inl ⟨by rfl, ?_⟩) (by assumption) ?_
      rotate_left
      · intro w hSw
        (try dsimp only at hSw)
        go_simp
        (try (with_reducible rfl))
      try simp only [Act.put, List.setIfInBounds_toArray, List.set_cons_zero, List.set_cons_succ]
      refine wpAnyH_done (by kernel_rfl) ?_ _
      clear hHeld
      obtain ⟨q0_BV, q1_BV, q2_BV, q3_BV, qf_BV, ql_BV⟩ := BV.four
      obtain ⟨q0_BB, q1_BB, qf_BB, ql_BB⟩ := BB.two
      obtain ⟨q0_BS, q1_BS, qf_BS, ql_BS⟩ := BS.two
      obtain ⟨q0_BD, q1_BD, qf_BD, ql_BD⟩ := BD.two
      obtain ⟨q0_BX, q1_BX, qf_BX, ql_BX⟩ := BX.two
      obtain ⟨q0_BY, q1_BY, qf_BY, ql_BY⟩ := BY.two
      go_wp2_with fail
      clear q0_BV q1_BV q2_BV q3_BV qf_BV ql_BV
      clear q0_BB q1_BB qf_BB ql_BB
      clear q0_BS q1_BS qf_BS ql_BS
      clear q0_BD q1_BD qf_BD ql_BD
      clear q0_BX q1_BX qf_BX ql_BX
      clear q0_BY q1_BY qf_BY ql_BY
      have hd15 : w14.drew.heap.size = w14.heap.size := rfl
      replace BV := BV.drew
      replace BB := BB.drew
      replace BS := BS.drew
      replace BD := BD.drew
      replace OX := OX.drew
      replace BX := BX.drew
      replace OY := OY.drew
      replace BY := BY.drew
      replace hb := hb.drew
      refine wp_region_held_drew (S := fun w' => w'.cell? ⟨w.heap.size, 0, none⟩ = some (.int .i64 p) ∧ w'.cell? ⟨w.heap.size, 1, none⟩ = some (.int .i64 c) ∧ w'.cell? ⟨w.heap.size, 2, none⟩ = some (.int .i64 h) ∧ w'.cell? ⟨w.heap.size, 3, none⟩ = some (.int .i64 s) ∧ w'.cell? ⟨(w.heap.size + 1), 0, none⟩ = some (.slice a1 xs.length c1) ∧ w'.cell? ⟨(w.heap.size + 1), 1, none⟩ = some (.slice a2 ys.length c2) ∧ w'.cell? ⟨(w.heap.size + 1 + 1), 0, none⟩ = some (.int .i64 ra) ∧ w'.cell? ⟨(w.heap.size + 1 + 1), 1, none⟩ = some (.int .i64 rb) ∧ w'.cell? ⟨(w.heap.size + 1 + 1 + 1), 0, none⟩ = some (.slice e1 us.length d1) ∧ w'.cell? ⟨(w.heap.size + 1 + 1 + 1), 1, none⟩ = some (.slice e2 vs.length d2) ∧ w'.cell? ⟨w7.heap.size, 0, none⟩ = some (.slice (some ⟨b1, 0, none⟩) xs.length xs.length) ∧ w'.cell? ⟨w7.heap.size, 1, none⟩ = some (.slice (some ⟨b2, 0, none⟩) ys.length ys.length) ∧ w'.cell? ⟨w9.heap.size, 0, none⟩ = some (.slice (some ⟨f1, 0, none⟩) us.length us.length) ∧ w'.cell? ⟨w9.heap.size, 1, none⟩ = some (.slice (some ⟨f2, 0, none⟩) vs.length vs.length)) (by kernel_rfl) ⟨BV.four.1, BV.four.2.1, BV.four.2.2.1, BV.four.2.2.2.1, BB.two.1, BB.two.2.1, BS.two.1, BS.two.2.1, BD.two.1, BD.two.2.1, BX.two.1, BX.two.2.1, BY.two.1, BY.two.2.1⟩ (fun hHeld => ?_)
      clear hHeld
      generalize w14.drew = vd15 at *
      have hHeld : vd15.cell? ⟨w.heap.size, 0, none⟩ = some (.int .i64 p) ∧ vd15.cell? ⟨w.heap.size, 1, none⟩ = some (.int .i64 c) ∧ vd15.cell? ⟨w.heap.size, 2, none⟩ = some (.int .i64 h) ∧ vd15.cell? ⟨w.heap.size, 3, none⟩ = some (.int .i64 s) ∧ vd15.cell? ⟨(w.heap.size + 1), 0, none⟩ = some (.slice a1 xs.length c1) ∧ vd15.cell? ⟨(w.heap.size + 1), 1, none⟩ = some (.slice a2 ys.length c2) ∧ vd15.cell? ⟨(w.heap.size + 1 + 1), 0, none⟩ = some (.int .i64 ra) ∧ vd15.cell? ⟨(w.heap.size + 1 + 1), 1, none⟩ = some (.int .i64 rb) ∧ vd15.cell? ⟨(w.heap.size + 1 + 1 + 1), 0, none⟩ = some (.slice e1 us.length d1) ∧ vd15.cell? ⟨(w.heap.size + 1 + 1 + 1), 1, none⟩ = some (.slice e2 vs.length d2) ∧ vd15.cell? ⟨w7.heap.size, 0, none⟩ = some (.slice (some ⟨b1, 0, none⟩) xs.length xs.length) ∧ vd15.cell? ⟨w7.heap.size, 1, none⟩ = some (.slice (some ⟨b2, 0, none⟩) ys.length ys.length) ∧ vd15.cell? ⟨w9.heap.size, 0, none⟩ = some (.slice (some ⟨f1, 0, none⟩) us.length us.length) ∧ vd15.cell? ⟨w9.heap.size, 1, none⟩ = some (.slice (some ⟨f2, 0, none⟩) vs.length vs.length) := ⟨BV.four.1, BV.four.2.1, BV.four.2.2.1, BV.four.2.2.2.1, BB.two.1, BB.two.2.1, BS.two.1, BS.two.2.1, BD.two.1, BD.two.2.1, BX.two.1, BX.two.2.1, BY.two.1, BY.two.2.1⟩
      refine wpAnyH_take (i := 0) (oi := { dst := some 60, op := _, type := _, pos := _, after := _, guard := _ }) (v := ?_) rfl (by kernel_rfl) (by kernel_rfl) (by kernel_rfl) (fun _ _ _ h => h) (Or.inl ⟨by rfl, ?_⟩) (by assumption) ?_
      rotate_left
      · intro w hSw
        (try dsimp only at hSw)
        go_simp
        (try (with_reducible rfl))
      try simp only [Act.put, List.setIfInBounds_toArray, List.set_cons_zero, List.set_cons_succ]
      refine wpAnyH_take (i := 1) (oi := { dst := some 61, op := _, type := _, pos := _, after := _, guard := _ }) (v := ?_) rfl (by kernel_rfl) (by kernel_rfl) (by kernel_rfl) (fun _ _ _ h => h) (Or.inl ⟨by rfl, ?_⟩) (by assumption) ?_
      rotate_left
      · intro w hSw
        (try dsimp only at hSw)
        go_simp
        (try (with_reducible rfl))
      try simp only [Act.put, List.setIfInBounds_toArray, List.set_cons_zero, List.set_cons_succ]
      refine wpAnyH_ready (rs := [2]) (by kernel_rfl) (by simp) ?_
      refine AllReadyH.cons (o := { dst := some 62, op := _, type := _, pos := _, after := _, guard := _ }) rfl (fun K hK => ?_) AllReadyH.nil
      go_simp
      refine (toBoard_any a1 a2 _ _ c1 c2 xs ys _ rfl rfl l1 l2 (r1.below hb) (r2.below hb)).mono ?_
      rintro e w16 ⟨g1, g2, rfl, gg1, gg2, R1_, R2_, hb16⟩
      replace BV := BV.below hb16
      replace BB := BB.below hb16
      replace BS := BS.below hb16
      replace BD := BD.below hb16
      replace OX := OX.below hb16
      replace BX := BX.below hb16
      replace OY := OY.below hb16
      replace BY := BY.below hb16
      have hz16 := hb16.size
      replace hb := chain hb hb16
      clear hb16
      (try go_wp2_with fail)
      refine hK.out _ _ ⟨BV.four.1, BV.four.2.1, BV.four.2.2.1, BV.four.2.2.2.1, BB.two.1, BB.two.2.1, BS.two.1, BS.two.2.1, BD.two.1, BD.two.2.1, BX.two.1, BX.two.2.1, BY.two.1, BY.two.2.1⟩ (fun hHeld => ?_)
      clear hK K
      try simp only [Act.put, List.setIfInBounds_toArray, List.set_cons_zero, List.set_cons_succ]
      refine wpAnyH_ready (rs := [3]) (by kernel_rfl) (by simp) ?_
      refine AllReadyH.cons (o := { dst := some 63, op := _, type := _, pos := _, after := _, guard := _ }) rfl (fun K hK => ?_) AllReadyH.nil
      go_simp
      refine (eqBoard_same _ _ _ _ _ _ _ _ _ _ xs ys _ rfl rfl l1 l2 OX.irow1 OX.irow2 R1_.irow R2_.irow).mono ?_
      rintro e w17 ⟨rfl, hb17⟩
      replace BV := BV.below hb17
      replace BB := BB.below hb17
      replace BS := BS.below hb17
      replace BD := BD.below hb17
      replace OX := OX.below hb17
      replace BX := BX.below hb17
      replace OY := OY.below hb17
      replace BY := BY.below hb17
      replace R1_ := R1_.below hb17
      replace R2_ := R2_.below hb17
      have hz17 := hb17.size
      replace hb := chain hb hb17
      clear hb17
      (try go_wp2_with fail)
      refine hK.out _ _ ⟨BV.four.1, BV.four.2.1, BV.four.2.2.1, BV.four.2.2.2.1, BB.two.1, BB.two.2.1, BS.two.1, BS.two.2.1, BD.two.1, BD.two.2.1, BX.two.1, BX.two.2.1, BY.two.1, BY.two.2.1⟩ (fun hHeld => ?_)
      clear hK K
      try simp only [Act.put, List.setIfInBounds_toArray, List.set_cons_zero, List.set_cons_succ]
      refine wpAnyH_take (i := 4) (oi := { dst := some 64, op := _, type := _, pos := _, after := _, guard := _ }) (v := ?_) rfl (by kernel_rfl) (by kernel_rfl) (by kernel_rfl) (fun _ _ _ h => h) (Or.inl ⟨by rfl, ?_⟩) (by assumption) ?_
      rotate_left
      · intro w hSw
        (try dsimp only at hSw)
        go_simp
        (try (with_reducible rfl))
      try simp only [Act.put, List.setIfInBounds_toArray, List.set_cons_zero, List.set_cons_succ]
      refine wpAnyH_done (by kernel_rfl) ?_ _
      clear hHeld
      clear R1_ R2_ gg1 gg2
      obtain ⟨q0_BV, q1_BV, q2_BV, q3_BV, qf_BV, ql_BV⟩ := BV.four
      obtain ⟨q0_BB, q1_BB, qf_BB, ql_BB⟩ := BB.two
      obtain ⟨q0_BS, q1_BS, qf_BS, ql_BS⟩ := BS.two
      obtain ⟨q0_BD, q1_BD, qf_BD, ql_BD⟩ := BD.two
      obtain ⟨q0_BX, q1_BX, qf_BX, ql_BX⟩ := BX.two
      obtain ⟨q0_BY, q1_BY, qf_BY, ql_BY⟩ := BY.two
      go_wp2_with fail
      clear q0_BV q1_BV q2_BV q3_BV qf_BV ql_BV
      clear q0_BB q1_BB qf_BB ql_BB
      clear q0_BS q1_BS qf_BS ql_BS
      clear q0_BD q1_BD qf_BD ql_BD
      clear q0_BX q1_BX qf_BX ql_BX
      clear q0_BY q1_BY qf_BY ql_BY
      have hd18 : w17.drew.heap.size = w17.heap.size := rfl
      replace BV := BV.drew
      replace BB := BB.drew
      replace BS := BS.drew
      replace BD := BD.drew
      replace OX := OX.drew
      replace BX := BX.drew
      replace OY := OY.drew
      replace BY := BY.drew
      replace hb := hb.drew
      refine wp_region_held_drew (S := fun w' => w'.cell? ⟨w.heap.size, 0, none⟩ = some (.int .i64 p) ∧ w'.cell? ⟨w.heap.size, 1, none⟩ = some (.int .i64 c) ∧ w'.cell? ⟨w.heap.size, 2, none⟩ = some (.int .i64 h) ∧ w'.cell? ⟨w.heap.size, 3, none⟩ = some (.int .i64 s) ∧ w'.cell? ⟨(w.heap.size + 1), 0, none⟩ = some (.slice a1 xs.length c1) ∧ w'.cell? ⟨(w.heap.size + 1), 1, none⟩ = some (.slice a2 ys.length c2) ∧ w'.cell? ⟨(w.heap.size + 1 + 1), 0, none⟩ = some (.int .i64 ra) ∧ w'.cell? ⟨(w.heap.size + 1 + 1), 1, none⟩ = some (.int .i64 rb) ∧ w'.cell? ⟨(w.heap.size + 1 + 1 + 1), 0, none⟩ = some (.slice e1 us.length d1) ∧ w'.cell? ⟨(w.heap.size + 1 + 1 + 1), 1, none⟩ = some (.slice e2 vs.length d2) ∧ w'.cell? ⟨w7.heap.size, 0, none⟩ = some (.slice (some ⟨b1, 0, none⟩) xs.length xs.length) ∧ w'.cell? ⟨w7.heap.size, 1, none⟩ = some (.slice (some ⟨b2, 0, none⟩) ys.length ys.length) ∧ w'.cell? ⟨w9.heap.size, 0, none⟩ = some (.slice (some ⟨f1, 0, none⟩) us.length us.length) ∧ w'.cell? ⟨w9.heap.size, 1, none⟩ = some (.slice (some ⟨f2, 0, none⟩) vs.length vs.length)) (by kernel_rfl) ⟨BV.four.1, BV.four.2.1, BV.four.2.2.1, BV.four.2.2.2.1, BB.two.1, BB.two.2.1, BS.two.1, BS.two.2.1, BD.two.1, BD.two.2.1, BX.two.1, BX.two.2.1, BY.two.1, BY.two.2.1⟩ (fun hHeld => ?_)
      clear hHeld
      generalize w17.drew = vd18 at *
      have hHeld : vd18.cell? ⟨w.heap.size, 0, none⟩ = some (.int .i64 p) ∧ vd18.cell? ⟨w.heap.size, 1, none⟩ = some (.int .i64 c) ∧ vd18.cell? ⟨w.heap.size, 2, none⟩ = some (.int .i64 h) ∧ vd18.cell? ⟨w.heap.size, 3, none⟩ = some (.int .i64 s) ∧ vd18.cell? ⟨(w.heap.size + 1), 0, none⟩ = some (.slice a1 xs.length c1) ∧ vd18.cell? ⟨(w.heap.size + 1), 1, none⟩ = some (.slice a2 ys.length c2) ∧ vd18.cell? ⟨(w.heap.size + 1 + 1), 0, none⟩ = some (.int .i64 ra) ∧ vd18.cell? ⟨(w.heap.size + 1 + 1), 1, none⟩ = some (.int .i64 rb) ∧ vd18.cell? ⟨(w.heap.size + 1 + 1 + 1), 0, none⟩ = some (.slice e1 us.length d1) ∧ vd18.cell? ⟨(w.heap.size + 1 + 1 + 1), 1, none⟩ = some (.slice e2 vs.length d2) ∧ vd18.cell? ⟨w7.heap.size, 0, none⟩ = some (.slice (some ⟨b1, 0, none⟩) xs.length xs.length) ∧ vd18.cell? ⟨w7.heap.size, 1, none⟩ = some (.slice (some ⟨b2, 0, none⟩) ys.length ys.length) ∧ vd18.cell? ⟨w9.heap.size, 0, none⟩ = some (.slice (some ⟨f1, 0, none⟩) us.length us.length) ∧ vd18.cell? ⟨w9.heap.size, 1, none⟩ = some (.slice (some ⟨f2, 0, none⟩) vs.length vs.length) := ⟨BV.four.1, BV.four.2.1, BV.four.2.2.1, BV.four.2.2.2.1, BB.two.1, BB.two.2.1, BS.two.1, BS.two.2.1, BD.two.1, BD.two.2.1, BX.two.1, BX.two.2.1, BY.two.1, BY.two.2.1⟩
      refine wpAnyH_take (i := 0) (oi := { dst := some 65, op := _, type := _, pos := _, after := _, guard := _ }) (v := ?_) rfl (by kernel_rfl) (by kernel_rfl) (by kernel_rfl) (fun _ _ _ h => h) (Or.inl ⟨by rfl, ?_⟩) (by assumption) ?_
      rotate_left
      · intro w hSw
        (try dsimp only at hSw)
        go_simp
        (try (with_reducible rfl))
      try simp only [Act.put, List.setIfInBounds_toArray, List.set_cons_zero, List.set_cons_succ]
      refine wpAnyH_take (i := 1) (oi := { dst := some 66, op := _, type := _, pos := _, after := _, guard := _ }) (v := ?_) rfl (by kernel_rfl) (by kernel_rfl) (by kernel_rfl) (fun _ _ _ h => h) (Or.inl ⟨by rfl, ?_⟩) (by assumption) ?_
      rotate_left
      · intro w hSw
        (try dsimp only at hSw)
        go_simp
        (try (with_reducible rfl))
      try simp only [Act.put, List.setIfInBounds_toArray, List.set_cons_zero, List.set_cons_succ]
      refine wpAnyH_ready (rs := [2]) (by kernel_rfl) (by simp) ?_
      refine AllReadyH.cons (o := { dst := some 67, op := _, type := _, pos := _, after := _, guard := _ }) rfl (fun K hK => ?_) AllReadyH.nil
      go_simp
      refine (toBoard_any e1 e2 _ _ d1 d2 us vs _ rfl rfl t1 t2 (s1.below hb) (s2.below hb)).mono ?_
      rintro e w19 ⟨j1, j2, rfl, jj1, jj2, Q1_, Q2_, hb19⟩
      replace BV := BV.below hb19
      replace BB := BB.below hb19
      replace BS := BS.below hb19
      replace BD := BD.below hb19
      replace OX := OX.below hb19
      replace BX := BX.below hb19
      replace OY := OY.below hb19
      replace BY := BY.below hb19
      have hz19 := hb19.size
      replace hb := chain hb hb19
      clear hb19
      (try go_wp2_with fail)
      refine hK.out _ _ ⟨BV.four.1, BV.four.2.1, BV.four.2.2.1, BV.four.2.2.2.1, BB.two.1, BB.two.2.1, BS.two.1, BS.two.2.1, BD.two.1, BD.two.2.1, BX.two.1, BX.two.2.1, BY.two.1, BY.two.2.1⟩ (fun hHeld => ?_)
      clear hK K
      try simp only [Act.put, List.setIfInBounds_toArray, List.set_cons_zero, List.set_cons_succ]
      refine wpAnyH_ready (rs := [3]) (by kernel_rfl) (by simp) ?_
      refine AllReadyH.cons (o := { dst := some 68, op := _, type := _, pos := _, after := _, guard := _ }) rfl (fun K hK => ?_) AllReadyH.nil
      go_simp
      refine (eqBoard_same _ _ _ _ _ _ _ _ _ _ us vs _ rfl rfl t1 t2 OY.irow1 OY.irow2 Q1_.irow Q2_.irow).mono ?_
      rintro e w20 ⟨rfl, hb20⟩
      replace BV := BV.below hb20
      replace BB := BB.below hb20
      replace BS := BS.below hb20
      replace BD := BD.below hb20
      replace OX := OX.below hb20
      replace BX := BX.below hb20
      replace OY := OY.below hb20
      replace BY := BY.below hb20
      replace Q1_ := Q1_.below hb20
      replace Q2_ := Q2_.below hb20
      have hz20 := hb20.size
      replace hb := chain hb hb20
      clear hb20
      (try go_wp2_with fail)
      refine hK.out _ _ ⟨BV.four.1, BV.four.2.1, BV.four.2.2.1, BV.four.2.2.2.1, BB.two.1, BB.two.2.1, BS.two.1, BS.two.2.1, BD.two.1, BD.two.2.1, BX.two.1, BX.two.2.1, BY.two.1, BY.two.2.1⟩ (fun hHeld => ?_)
      clear hK K
      try simp only [Act.put, List.setIfInBounds_toArray, List.set_cons_zero, List.set_cons_succ]
      refine wpAnyH_take (i := 4) (oi := { dst := some 69, op := _, type := _, pos := _, after := _, guard := _ }) (v := ?_) rfl (by kernel_rfl) (by kernel_rfl) (by kernel_rfl) (fun _ _ _ h => h) (Or.inl ⟨by rfl, ?_⟩) (by assumption) ?_
      rotate_left
      · intro w hSw
        (try dsimp only at hSw)
        go_simp
        (try (with_reducible rfl))
      try simp only [Act.put, List.setIfInBounds_toArray, List.set_cons_zero, List.set_cons_succ]
      refine wpAnyH_done (by kernel_rfl) ?_ _
      clear hHeld
      obtain ⟨q0_BV, q1_BV, q2_BV, q3_BV, qf_BV, ql_BV⟩ := BV.four
      obtain ⟨q0_BB, q1_BB, qf_BB, ql_BB⟩ := BB.two
      obtain ⟨q0_BS, q1_BS, qf_BS, ql_BS⟩ := BS.two
      obtain ⟨q0_BD, q1_BD, qf_BD, ql_BD⟩ := BD.two
      obtain ⟨q0_BX, q1_BX, qf_BX, ql_BX⟩ := BX.two
      obtain ⟨q0_BY, q1_BY, qf_BY, ql_BY⟩ := BY.two
      go_wp2_with fail
      go_ret
      exact ⟨rfl, hb⟩
set_option maxRecDepth 100000 in
theorem fnExactFindPlay_lifted (os : Os) (started : os.Started) (H : Type) (enc : TypeId × Value → H) :
    ReturnsInHanded {} Try.checked os 5 .any (Rows.fnExactFindPlaySpec.pre6 enc Try.prog Try.f5 Rows.fnExactFindPlayRow.domain false) (Rows.fnExactFindPlaySpec.post enc Try.prog Try.f5 false true false false) := by
  refine returnsInHanded_of_change (C := Try.checked) own started (by kernel_rfl) Try.func5
    (ChangeSpec.witness6 (enc := enc) (C := Try.checked) false ⟨#[], #[.agg #[.int .i64 0, .int .i64 0, .int .i64 0, .int .i64 0], .agg #[.slice none 0 0, .slice none 0 0], .agg #[.int .i64 0, .int .i64 0], .agg #[.slice none 0 0, .slice none 0 0]], []⟩ 8 (by kernel_rfl) (by kernel_rfl) (by kernel_rfl) (by kernel_rfl)) ?_
  intro W base args ds gs before hval0 hW hcnd _
  have hval : ∀ (j : Nat) t v, Try.f5.params[j]? = some t → args[j]? = some v → Value.okWide Try.prog W .any base t v := hval0
  have hW' := hW
  obtain ⟨p, q, hA0, hV, rfl, hfz, hnd⟩ := hW
  have hA : DataW.TrodAll enc Try.prog W 0 (fun _ => true) true Try.f5.params.toList args.toList ds p := hA0
  rw [Try.params5] at hA hval
  obtain ⟨v0, vs0, d0, ds0, p0, q0, hargs, rfl, rfl, h0, r0⟩ := trodAll_cons hA
  obtain ⟨v1, vs1, d1, ds1, p1, q1, rfl, rfl, rfl, h1, r1⟩ := trodAll_cons r0
  obtain ⟨v2, vs2, d2, ds2, p2, q2, rfl, rfl, rfl, h2, r2⟩ := trodAll_cons r1
  obtain ⟨v3, vs3, d3, ds3, p3, q3, rfl, rfl, rfl, h3, r3⟩ := trodAll_cons r2
  obtain ⟨rfl, rfl, rfl⟩ := trodAll_nil r3
  obtain rfl : args = #[v0, v1, v2, v3] := by cases args; simp_all
  obtain ⟨rfl, rfl⟩ := trodVars_none hV
  have k0 := h0
  have lt0 : ∀ x ∈ p0, x.block < W.heap.size := by obtain ⟨m, hm⟩ := k0; exact DataW.trod_lt m _ _ _ hm
  have k1 := h1
  have lt1 : ∀ x ∈ p1, x.block < W.heap.size := by obtain ⟨m, hm⟩ := k1; exact DataW.trod_lt m _ _ _ hm
  have k2 := h2
  have lt2 : ∀ x ∈ p2, x.block < W.heap.size := by obtain ⟨m, hm⟩ := k2; exact DataW.trod_lt m _ _ _ hm
  have k3 := h3
  have lt3 : ∀ x ∈ p3, x.block < W.heap.size := by obtain ⟨m, hm⟩ := k3; exact DataW.trod_lt m _ _ _ hm
  obtain ⟨x0_0, x1_0, x2_0, x3_0, y0_0, y1_0, y2_0, y3_0, m_0, rfl, _, _, hy0_0, hy1_0, hy2_0, hy3_0⟩ := Joins.open_agg4 Try.underlying23 (by kernel_rfl) (show Try.prog.cellsOf 23 = 4 by kernel_rfl) (hval 0 23 v0 rfl rfl) h0
  obtain ⟨a0_0, e0_0, _, wa0_0⟩ := DataW.trod_int Try.underlying2 hy0_0
  obtain ⟨a1_0, e1_0, _, wa1_0⟩ := DataW.trod_int Try.underlying2 hy1_0
  obtain ⟨a2_0, e2_0, _, wa2_0⟩ := DataW.trod_int Try.underlying2 hy2_0
  obtain ⟨a3_0, e3_0, _, wa3_0⟩ := DataW.trod_int Try.underlying2 hy3_0
  simp at e0_0 e1_0 e2_0 e3_0
  subst e0_0 e1_0 e2_0 e3_0
  obtain ⟨x0_1, x1_1, y0_1, y1_1, m_1, rfl, _, _, hy0_1, hy1_1⟩ := Joins.open_agg2 Try.underlying26 (by kernel_rfl) (show Try.prog.cellsOf 26 = 2 by kernel_rfl) (hval 1 26 v1 rfl rfl) h1
  obtain ⟨ra_1, rn_1, rc_1, rx_1, rfl, rl_1, rm_1, rr_1, rw_1⟩ := open_row hy0_1
  obtain ⟨sa_1, sn_1, sc_1, sx_1, rfl, sl_1, sm_1, sr_1, sw_1⟩ := open_row hy1_1
  obtain ⟨x0_2, x1_2, y0_2, y1_2, m_2, rfl, _, _, hy0_2, hy1_2⟩ := Joins.open_agg2 Try.underlying28 (by kernel_rfl) (show Try.prog.cellsOf 28 = 2 by kernel_rfl) (hval 2 28 v2 rfl rfl) h2
  obtain ⟨a0_2, e0_2, _, wa0_2⟩ := DataW.trod_int Try.underlying2 hy0_2
  obtain ⟨a1_2, e1_2, _, wa1_2⟩ := DataW.trod_int Try.underlying2 hy1_2
  simp at e0_2 e1_2
  subst e0_2 e1_2
  obtain ⟨x0_3, x1_3, y0_3, y1_3, m_3, rfl, _, _, hy0_3, hy1_3⟩ := Joins.open_agg2 Try.underlying26 (by kernel_rfl) (show Try.prog.cellsOf 26 = 2 by kernel_rfl) (hval 3 26 v3 rfl rfl) h3
  obtain ⟨ra_3, rn_3, rc_3, rx_3, rfl, rl_3, rm_3, rr_3, rw_3⟩ := open_row hy0_3
  obtain ⟨sa_3, sn_3, sc_3, sx_3, rfl, sl_3, sm_3, sr_3, sw_3⟩ := open_row hy1_3
  clear hA0 hval0
  refine (fnExactFindPlay_walk a0_0 a1_0 a2_0 a3_0 ra_1 sa_1 rn_1 sn_1 rc_1 sc_1 rx_1 sx_1 a0_2 a1_2 ra_3 sa_3 rn_3 sn_3 rc_3 sc_3 rx_3 sx_3 W rl_1 sl_1 rm_1 sm_1 rr_1 sr_1 rl_3 sl_3 rm_3 sm_3 rr_3 sr_3).mono fun e W' ⟨he, bel⟩ => ?_
  subst he
  exact ⟨_, rfl, _, _, _, [], _, [], hW', trodAll_mk1 (shut_bool Try.underlying4 _), (trodAll_cons_mk (Below.trod laidOut (by kernel_rfl) (of_decide_eq_true (by kernel_rfl)) k0 bel lt0) (trodAll_cons_mk (Below.trod laidOut (by kernel_rfl) (of_decide_eq_true (by kernel_rfl)) k1 bel lt1) (trodAll_cons_mk (Below.trod laidOut (by kernel_rfl) (of_decide_eq_true (by kernel_rfl)) k2 bel lt2) (trodAll_cons_mk (Below.trod laidOut (by kernel_rfl) (of_decide_eq_true (by kernel_rfl)) k3 bel lt3) trodAll_mk0)))), rfl, bel.frame _, fun h => by cases h⟩
theorem fnExactFindPlay_holds : Rows.FnExactFindPlaySaid :=
  OpenClaim.holds_of_wide 5 Try.f5 rfl rfl rfl rfl rfl rfl rfl ⟨rfl, rfl, rfl, rfl, rfl⟩ rfl rfl rfl rfl rfl (by kernel_rfl) Try.func5 (by kernel_rfl)
    (of_decide_eq_true (by kernel_rfl)) (by unfold Func.isWrapper; first | (rw [if_pos (by decide +kernel)]; kernel_rfl) | (rw [if_neg (by decide +kernel)]; exact ⟨rfl, rfl⟩))
    (fun os started H enc _ => fnExactFindPlay_lifted os started H enc)
end Go.Proofs.Ytokjkcnjmfbfiaa
