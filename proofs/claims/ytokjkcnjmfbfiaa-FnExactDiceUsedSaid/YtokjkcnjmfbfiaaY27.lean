/- The exact law of chapter 5 on the number of dice that a roll uses holds: for every input the law returns true and its arguments read behind the call as they read before. No conditions. -/
import Derived.Test.YtokjkcnjmfbfiaaY26
import Derived.ChangeOld
namespace Go.Proofs.Ytokjkcnjmfbfiaa
open Go.ChangeMaps (open_string shut_string)
open Go.ChangeShapes Go.WideShapes Go.ChangeAt Go.RowKit
set_option linter.unusedVariables false
set_option linter.unusedSimpArgs false
set_option maxRecDepth 4000

theorem toRoll_br (a b : Int) (w : World) :
    Calls Try.prog 19 #[.agg #[.int .i64 a, .int .i64 b]] w fun e w' => e = .returned (.agg #[.int .i64 a, .int .i64 b]) ∧ Below w.heap.size w w' := by
  go_enter Try.func19, Try.ntmps19
  go_wp2
  refine bodyPost_ret (v := .agg #[.int .i64 a, .int .i64 b]) (by simp [results, Try.results19, go_sem]) rfl ⟨rfl, ?_⟩
  first
    | exact (((Below.refl _ _).alloc (Nat.le_refl _) _).alloc (by simp) _).alloc (by simp; omega) _
    | exact ((Below.refl _ _).alloc (Nat.le_refl _) _).alloc (by simp) _
theorem fnExactDiceUsed_both (p c h s : Int) (xs ys : List Int) (ra rb : Int) : ∃ (R1 : Int) (R2 : Int), (∀ (a1 a2 : Option Addr) (n1 n2 c1 c2 : Nat) (w : World), xs.length = n1 → ys.length = n2 → n1 ≤ 1048576 → n2 ≤ 1048576 → IRow w a1 xs → IRow w a2 ys → Calls Try.prog 16 #[.agg #[.int .i64 p, .int .i64 c, .int .i64 h, .int .i64 s], .agg #[.slice a1 n1 c1, .slice a2 n2 c2], .agg #[.int .i64 ra, .int .i64 rb]] w fun e w' => e = .returned (.tuple #[.int .i64 R1, .int .i64 R2]) ∧ Below w.heap.size w w') ∧ (∀ (a1 a2 : Option Addr) (n1 n2 c1 c2 : Nat) (w : World), xs.length = n1 → ys.length = n2 → n1 ≤ 1048576 → n2 ≤ 1048576 → IRow w a1 xs → IRow w a2 ys → Calls Try.prog 20 #[.agg #[.int .i64 p, .int .i64 c, .int .i64 h, .int .i64 s], .agg #[.slice a1 n1 c1, .slice a2 n2 c2], .agg #[.int .i64 ra, .int .i64 rb]] w fun e w' => e = .returned (.tuple #[.int .i64 R1, .int .i64 R2]) ∧ Below w.heap.size w w') := by
  by_cases g : isB p c h s xs ys = true
  · by_cases e : rlB s ra rb = true
    · exact ⟨_, _, fun a1 a2 n1 n2 c1 c2 w h1 h2 l1 l2 r1 r2 => by have t := specDiceUsed_any ra rb p c h s a1 a2 n1 n2 c1 c2 xs ys w h1 h2 l1 l2 r1 r2; unfold duV at t; rw [if_pos g, if_pos e] at t; exact t, fun a1 a2 n1 n2 c1 c2 w h1 h2 l1 l2 r1 r2 => by have t := implDiceUsed_any ra rb p c h s a1 a2 n1 n2 c1 c2 xs ys w h1 h2 l1 l2 r1 r2; unfold duV at t; rw [if_pos g, if_pos e] at t; exact t⟩
    · exact ⟨_, _, fun a1 a2 n1 n2 c1 c2 w h1 h2 l1 l2 r1 r2 => by have t := specDiceUsed_any ra rb p c h s a1 a2 n1 n2 c1 c2 xs ys w h1 h2 l1 l2 r1 r2; unfold duV at t; rw [if_pos g, if_neg e] at t; exact t, fun a1 a2 n1 n2 c1 c2 w h1 h2 l1 l2 r1 r2 => by have t := implDiceUsed_any ra rb p c h s a1 a2 n1 n2 c1 c2 xs ys w h1 h2 l1 l2 r1 r2; unfold duV at t; rw [if_pos g, if_neg e] at t; exact t⟩
  · exact ⟨_, _, fun a1 a2 n1 n2 c1 c2 w h1 h2 l1 l2 r1 r2 => by have t := specDiceUsed_any ra rb p c h s a1 a2 n1 n2 c1 c2 xs ys w h1 h2 l1 l2 r1 r2; unfold duV at t; rw [if_neg g] at t; exact t, fun a1 a2 n1 n2 c1 c2 w h1 h2 l1 l2 r1 r2 => by have t := implDiceUsed_any ra rb p c h s a1 a2 n1 n2 c1 c2 xs ys w h1 h2 l1 l2 r1 r2; unfold duV at t; rw [if_neg g] at t; exact t⟩
set_option maxRecDepth 8000 in
set_option maxHeartbeats 4000000 in
theorem fnExactDiceUsed_walk (p c h s : Int) (a1 a2 : Option Addr) (n1 n2 c1 c2 : Nat) (xs ys : List Int) (ra rb : Int) (w : World) (h1 : xs.length = n1) (h2 : ys.length = n2) (m1 : n1 ≤ 9223372036854775807) (m2 : n2 ≤ 9223372036854775807) (r1 : IRow w a1 xs) (r2 : IRow w a2 ys) :
    Calls Try.prog 3 #[.agg #[.int .i64 p, .int .i64 c, .int .i64 h, .int .i64 s], .agg #[.slice a1 n1 c1, .slice a2 n2 c2], .agg #[.int .i64 ra, .int .i64 rb]] w fun e w' => e = .returned (.bool true) ∧ Below w.heap.size w w' := by
  obtain ⟨BV, BB, BS, hb, hz⟩ := three_new w #[.int .i64 p, .int .i64 c, .int .i64 h, .int .i64 s] #[.slice a1 n1 c1, .slice a2 n2 c2] #[.int .i64 ra, .int .i64 rb] 23 26 28
  have hz0 : w.heap.size + 1 + 1 < (((w.alloc (.cells #[.int .i64 p, .int .i64 c, .int .i64 h, .int .i64 s] 23)).alloc (.cells #[.slice a1 n1 c1, .slice a2 n2 c2] 26)).alloc (.cells #[.int .i64 ra, .int .i64 rb] 28)).heap.size := by rw [hz]; omega
  clear hz
  have hsz := fun w => szBoard_any a1 a2 n1 n2 c1 c2 1048576 w (by omega) (by omega) m1 m2
  obtain ⟨y0, y1, yf, yl⟩ := BB.two
  by_cases hneg : szAfter 1048576 n1 n2 = -1
  · rw [hneg] at hsz
    have HZ := Lib.hid hsz
    clear hsz hneg
    go_enter Try.func3, Try.ntmps3
    go_wp2_with fail
    generalize (((w.alloc (.cells #[.int .i64 p, .int .i64 c, .int .i64 h, .int .i64 s] 23)).alloc (.cells #[.slice a1 n1 c1, .slice a2 n2 c2] 26)).alloc (.cells #[.int .i64 ra, .int .i64 rb] 28)) = v0 at *
    refine (HZ.out _).mono ?_
    rintro e w1 ⟨rfl, hb1⟩
    go_wp2
    go_ret
    exact ⟨rfl, hb.trans (hb1.mono (by omega))⟩
  · have hle : (n1 : Int) + n2 ≤ 1048576 := by
      unfold szAfter at hneg
      split at hneg
      · exact absurd rfl hneg
      · split at hneg
        · exact absurd rfl hneg
        · omega
    obtain ⟨z, hzz⟩ : ∃ z, szAfter 1048576 n1 n2 = z := ⟨_, rfl⟩
    have hzp : 0 ≤ z := by
      rw [← hzz]
      unfold szAfter
      rw [if_neg (by omega), if_neg (by omega)]
      omega
    rw [hzz] at hsz
    have HZ := Lib.hid hsz
    clear hsz hneg hzz
    have l1 : n1 ≤ 1048576 := by omega
    have l2 : n2 ≤ 1048576 := by omega
    subst h1 h2
    obtain ⟨R1, R2, hsp, him⟩ := fnExactDiceUsed_both p c h s xs ys ra rb
    have HSP := Lib.hid hsp
    have HIM := Lib.hid him
    clear hsp him
    go_enter Try.func3, Try.ntmps3
    go_wp2_with fail
    clear y0 y1 yf yl
    generalize (((w.alloc (.cells #[.int .i64 p, .int .i64 c, .int .i64 h, .int .i64 s] 23)).alloc (.cells #[.slice a1 xs.length c1, .slice a2 ys.length c2] 26)).alloc (.cells #[.int .i64 ra, .int .i64 rb] 28)) = v0 at *
    refine (HZ.out _).mono ?_
    rintro e w0 ⟨rfl, hb1⟩
    replace BV := BV.below hb1
    replace BB := BB.below hb1
    replace BS := BS.below hb1
    have hlt0 : w.heap.size + 1 + 1 < w0.heap.size := BS.lt
    replace hb := hb.trans (hb1.mono (by omega))
    clear hb1 hz0 HZ
    obtain ⟨q0_BV, q1_BV, q2_BV, q3_BV, qf_BV, ql_BV⟩ := BV.four
    obtain ⟨q0_BB, q1_BB, qf_BB, ql_BB⟩ := BB.two
    obtain ⟨q0_BS, q1_BS, qf_BS, ql_BS⟩ := BS.two
    go_wp2_with fail
    clear q0_BV q1_BV q2_BV q3_BV qf_BV ql_BV
    clear q0_BB q1_BB qf_BB ql_BB
    clear q0_BS q1_BS qf_BS ql_BS
    have hd1 : w0.drew.heap.size = w0.heap.size := rfl
    replace BV := BV.drew
    replace BB := BB.drew
    replace BS := BS.drew
    replace hb := hb.drew
    refine wp_region_held_drew (S := fun w' => w'.cell? ⟨w.heap.size, 0, none⟩ = some (.int .i64 p) ∧ w'.cell? ⟨w.heap.size, 1, none⟩ = some (.int .i64 c) ∧ w'.cell? ⟨w.heap.size, 2, none⟩ = some (.int .i64 h) ∧ w'.cell? ⟨w.heap.size, 3, none⟩ = some (.int .i64 s) ∧ w'.cell? ⟨(w.heap.size + 1), 0, none⟩ = some (.slice a1 xs.length c1) ∧ w'.cell? ⟨(w.heap.size + 1), 1, none⟩ = some (.slice a2 ys.length c2) ∧ w'.cell? ⟨(w.heap.size + 1 + 1), 0, none⟩ = some (.int .i64 ra) ∧ w'.cell? ⟨(w.heap.size + 1 + 1), 1, none⟩ = some (.int .i64 rb)) (by kernel_rfl) ⟨BV.four.1, BV.four.2.1, BV.four.2.2.1, BV.four.2.2.2.1, BB.two.1, BB.two.2.1, BS.two.1, BS.two.2.1⟩ (fun hHeld => ?_)
    clear hHeld
    generalize w0.drew = vd1 at *
    have hHeld : vd1.cell? ⟨w.heap.size, 0, none⟩ = some (.int .i64 p) ∧ vd1.cell? ⟨w.heap.size, 1, none⟩ = some (.int .i64 c) ∧ vd1.cell? ⟨w.heap.size, 2, none⟩ = some (.int .i64 h) ∧ vd1.cell? ⟨w.heap.size, 3, none⟩ = some (.int .i64 s) ∧ vd1.cell? ⟨(w.heap.size + 1), 0, none⟩ = some (.slice a1 xs.length c1) ∧ vd1.cell? ⟨(w.heap.size + 1), 1, none⟩ = some (.slice a2 ys.length c2) ∧ vd1.cell? ⟨(w.heap.size + 1 + 1), 0, none⟩ = some (.int .i64 ra) ∧ vd1.cell? ⟨(w.heap.size + 1 + 1), 1, none⟩ = some (.int .i64 rb) := ⟨BV.four.1, BV.four.2.1, BV.four.2.2.1, BV.four.2.2.2.1, BB.two.1, BB.two.2.1, BS.two.1, BS.two.2.1⟩
    refine wpAnyH_take (i := 0) (oi := { dst := some 19, op := _, type := _, pos := _, after := _, guard := _ }) (v := ?_) rfl (by kernel_rfl) (by kernel_rfl) (by kernel_rfl) (fun _ _ _ h => h) (Or.inl ⟨by rfl, ?_⟩) (by assumption) ?_
    rotate_left
    · intro w hSw
      (try dsimp only at hSw)
      go_simp
      (try (with_reducible rfl))
    try simp only [Act.put, List.setIfInBounds_toArray, List.set_cons_zero, List.set_cons_succ]
    refine wpAnyH_take (i := 2) (oi := { dst := some 21, op := _, type := _, pos := _, after := _, guard := _ }) (v := ?_) rfl (by kernel_rfl) (by kernel_rfl) (by kernel_rfl) (fun _ _ _ h => h) (Or.inl ⟨by rfl, ?_⟩) (by assumption) ?_
    rotate_left
    · intro w hSw
      (try dsimp only at hSw)
      go_simp
      (try (with_reducible rfl))
    try simp only [Act.put, List.setIfInBounds_toArray, List.set_cons_zero, List.set_cons_succ]
    refine wpAnyH_take (i := 4) (oi := { dst := some 23, op := _, type := _, pos := _, after := _, guard := _ }) (v := ?_) rfl (by kernel_rfl) (by kernel_rfl) (by kernel_rfl) (fun _ _ _ h => h) (Or.inl ⟨by rfl, ?_⟩) (by assumption) ?_
    rotate_left
    · intro w hSw
      (try dsimp only at hSw)
      go_simp
      (try (with_reducible rfl))
    try simp only [Act.put, List.setIfInBounds_toArray, List.set_cons_zero, List.set_cons_succ]
    refine wpAnyH_ready (rs := [1]) (by kernel_rfl) (by simp) ?_
    refine AllReadyH.cons (o := { dst := some 20, op := _, type := _, pos := _, after := _, guard := _ }) rfl (fun K hK => ?_) AllReadyH.nil
    go_simp
    refine (toVariant_any _ _ _ _ _).mono ?_
    rintro e w2 ⟨rfl, hb2⟩
    replace BV := BV.below hb2
    replace BB := BB.below hb2
    replace BS := BS.below hb2
    have hz2 := hb2.size
    replace hb := chain hb hb2
    clear hb2
    (try go_wp2_with fail)
    refine hK.out _ _ ⟨BV.four.1, BV.four.2.1, BV.four.2.2.1, BV.four.2.2.2.1, BB.two.1, BB.two.2.1, BS.two.1, BS.two.2.1⟩ (fun hHeld => ?_)
    clear hK K
    try simp only [Act.put, List.setIfInBounds_toArray, List.set_cons_zero, List.set_cons_succ]
    refine wpAnyH_ready (rs := [3]) (by kernel_rfl) (by simp) ?_
    refine AllReadyH.cons (o := { dst := some 22, op := _, type := _, pos := _, after := _, guard := _ }) rfl (fun K hK => ?_) AllReadyH.nil
    go_simp
    refine (toBoard_any a1 a2 _ _ c1 c2 xs ys _ rfl rfl l1 l2 (r1.below hb) (r2.below hb)).mono ?_
    rintro e w3 ⟨g1, g2, rfl, gg1, gg2, R1, R2, hb3⟩
    replace BV := BV.below hb3
    replace BB := BB.below hb3
    replace BS := BS.below hb3
    have hz3 := hb3.size
    replace hb := chain hb hb3
    clear hb3
    (try go_wp2_with fail)
    refine hK.out _ _ ⟨BV.four.1, BV.four.2.1, BV.four.2.2.1, BV.four.2.2.2.1, BB.two.1, BB.two.2.1, BS.two.1, BS.two.2.1⟩ (fun hHeld => ?_)
    clear hK K
    try simp only [Act.put, List.setIfInBounds_toArray, List.set_cons_zero, List.set_cons_succ]
    refine wpAnyH_ready (rs := [5]) (by kernel_rfl) (by simp) ?_
    refine AllReadyH.cons (o := { dst := some 24, op := _, type := _, pos := _, after := _, guard := _ }) rfl (fun K hK => ?_) AllReadyH.nil
    go_simp
    refine (toRoll_br ra rb _).mono ?_
    rintro e w4 ⟨rfl, hb4⟩
    replace BV := BV.below hb4
    replace BB := BB.below hb4
    replace BS := BS.below hb4
    replace R1 := R1.below hb4
    replace R2 := R2.below hb4
    have hz4 := hb4.size
    replace hb := chain hb hb4
    clear hb4
    (try go_wp2_with fail)
    refine hK.out _ _ ⟨BV.four.1, BV.four.2.1, BV.four.2.2.1, BV.four.2.2.2.1, BB.two.1, BB.two.2.1, BS.two.1, BS.two.2.1⟩ (fun hHeld => ?_)
    clear hK K
    try simp only [Act.put, List.setIfInBounds_toArray, List.set_cons_zero, List.set_cons_succ]
    refine wpAnyH_ready (rs := [6]) (by kernel_rfl) (by simp) ?_
    refine AllReadyH.cons (o := { dst := some 25, op := _, type := _, pos := _, after := _, guard := _ }) rfl (fun K hK => ?_) AllReadyH.nil
    go_simp
    refine (HSP.out _ _ _ _ _ _ _ rfl rfl l1 l2 R1.irow R2.irow).mono ?_
    rintro e w5 ⟨rfl, hb5⟩
    replace BV := BV.below hb5
    replace BB := BB.below hb5
    replace BS := BS.below hb5
    replace R1 := R1.below hb5
    replace R2 := R2.below hb5
    have hz5 := hb5.size
    replace hb := chain hb hb5
    clear hb5
    (try go_wp2_with fail)
    refine hK.out _ _ ⟨BV.four.1, BV.four.2.1, BV.four.2.2.1, BV.four.2.2.2.1, BB.two.1, BB.two.2.1, BS.two.1, BS.two.2.1⟩ (fun hHeld => ?_)
    clear hK K
    try simp only [Act.put, List.setIfInBounds_toArray, List.set_cons_zero, List.set_cons_succ]
    refine wpAnyH_take (i := 7) (oi := { dst := some 18, op := _, type := _, pos := _, after := _, guard := _ }) (v := ?_) rfl (by kernel_rfl) (by kernel_rfl) (by kernel_rfl) (fun _ _ _ h => h) (Or.inl ⟨by rfl, ?_⟩) (by assumption) ?_
    rotate_left
    · intro w hSw
      (try dsimp only at hSw)
      go_simp
      (try (with_reducible rfl))
    try simp only [Act.put, List.setIfInBounds_toArray, List.set_cons_zero, List.set_cons_succ]
    refine wpAnyH_take (i := 8) (oi := { dst := some 26, op := _, type := _, pos := _, after := _, guard := _ }) (v := ?_) rfl (by kernel_rfl) (by kernel_rfl) (by kernel_rfl) (fun _ _ _ h => h) (Or.inl ⟨by rfl, ?_⟩) (by assumption) ?_
    rotate_left
    · intro w hSw
      (try dsimp only at hSw)
      go_simp
      (try (with_reducible rfl))
    try simp only [Act.put, List.setIfInBounds_toArray, List.set_cons_zero, List.set_cons_succ]
    refine wpAnyH_take (i := 9) (oi := { dst := some 27, op := _, type := _, pos := _, after := _, guard := _ }) (v := ?_) rfl (by kernel_rfl) (by kernel_rfl) (by kernel_rfl) (fun _ _ _ h => h) (Or.inl ⟨by rfl, ?_⟩) (by assumption) ?_
    rotate_left
    · intro w hSw
      (try dsimp only at hSw)
      go_simp
      (try (with_reducible rfl))
    try simp only [Act.put, List.setIfInBounds_toArray, List.set_cons_zero, List.set_cons_succ]
    refine wpAnyH_take (i := 10) (oi := { dst := some 8, op := _, type := _, pos := _, after := _, guard := _ }) (v := ?_) rfl (by kernel_rfl) (by kernel_rfl) (by kernel_rfl) (fun _ _ _ h => h) (Or.inl ⟨by rfl, ?_⟩) (by assumption) ?_
    rotate_left
    · intro w hSw
      (try dsimp only at hSw)
      go_simp
      (try (with_reducible rfl))
    try simp only [Act.put, List.setIfInBounds_toArray, List.set_cons_zero, List.set_cons_succ]
    refine wpAnyH_take (i := 11) (oi := { dst := some 9, op := _, type := _, pos := _, after := _, guard := _ }) (v := ?_) rfl (by kernel_rfl) (by kernel_rfl) (by kernel_rfl) (fun _ _ _ h => h) (Or.inl ⟨by rfl, ?_⟩) (by assumption) ?_
    rotate_left
    · intro w hSw
      (try dsimp only at hSw)
      go_simp
      (try (with_reducible rfl))
    try simp only [Act.put, List.setIfInBounds_toArray, List.set_cons_zero, List.set_cons_succ]
    refine wpAnyH_done (by kernel_rfl) ?_ _
    clear hHeld
    clear R1 R2 gg1 gg2
    obtain ⟨q0_BV, q1_BV, q2_BV, q3_BV, qf_BV, ql_BV⟩ := BV.four
    obtain ⟨q0_BB, q1_BB, qf_BB, ql_BB⟩ := BB.two
    obtain ⟨q0_BS, q1_BS, qf_BS, ql_BS⟩ := BS.two
    go_wp2_with fail
    clear q0_BV q1_BV q2_BV q3_BV qf_BV ql_BV
    clear q0_BB q1_BB qf_BB ql_BB
    clear q0_BS q1_BS qf_BS ql_BS
    refine (toBoard_any a1 a2 _ _ c1 c2 xs ys _ rfl rfl l1 l2 (r1.below hb) (r2.below hb)).mono ?_
    rintro e w6 ⟨b1, b2, rfl, gb1, gb2, R1, R2, hb6⟩
    replace BV := BV.below hb6
    replace BB := BB.below hb6
    replace BS := BS.below hb6
    have hz6 := hb6.size
    replace hb := chain hb hb6
    clear hb6
    have OX : OBd w5.heap.size w6.heap.size w6 (some ⟨b1, 0, none⟩) (some ⟨b2, 0, none⟩) xs ys := .inr ⟨b1, b2, rfl, rfl, by omega, gb1, R1.lt, by omega, R2.lt, R1, R2⟩
    clear R1 R2 gb1 gb2
    have BX := Blk.new w6 #[.slice (some ⟨b1, 0, none⟩) xs.length xs.length, .slice (some ⟨b2, 0, none⟩) ys.length ys.length] 34
    have hal7 : Below w6.heap.size w6 (w6.alloc (.cells #[.slice (some ⟨b1, 0, none⟩) xs.length xs.length, .slice (some ⟨b2, 0, none⟩) ys.length ys.length] 34)) := (Below.refl _ _).alloc (Nat.le_refl _) _
    have hz7 : (w6.alloc (.cells #[.slice (some ⟨b1, 0, none⟩) xs.length xs.length, .slice (some ⟨b2, 0, none⟩) ys.length ys.length] 34)).heap.size = w6.heap.size + 1 := by simp
    replace BV := BV.below hal7
    replace BB := BB.below hal7
    replace BS := BS.below hal7
    replace OX := OX.below hal7
    replace hb := chain hb hal7
    clear hal7
    obtain ⟨q0_BV, q1_BV, q2_BV, q3_BV, qf_BV, ql_BV⟩ := BV.four
    obtain ⟨q0_BB, q1_BB, qf_BB, ql_BB⟩ := BB.two
    obtain ⟨q0_BS, q1_BS, qf_BS, ql_BS⟩ := BS.two
    obtain ⟨q0_BX, q1_BX, qf_BX, ql_BX⟩ := BX.two
    go_wp2_with fail
    clear q0_BV q1_BV q2_BV q3_BV qf_BV ql_BV
    clear q0_BB q1_BB qf_BB ql_BB
    clear q0_BS q1_BS qf_BS ql_BS
    clear q0_BX q1_BX qf_BX ql_BX
    generalize (w6.alloc (.cells #[.slice (some ⟨b1, 0, none⟩) xs.length xs.length, .slice (some ⟨b2, 0, none⟩) ys.length ys.length] 34)) = w7 at *
    obtain ⟨q0_BV, q1_BV, q2_BV, q3_BV, qf_BV, ql_BV⟩ := BV.four
    obtain ⟨q0_BB, q1_BB, qf_BB, ql_BB⟩ := BB.two
    obtain ⟨q0_BS, q1_BS, qf_BS, ql_BS⟩ := BS.two
    obtain ⟨q0_BX, q1_BX, qf_BX, ql_BX⟩ := BX.two
    go_wp2_with fail
    clear q0_BV q1_BV q2_BV q3_BV qf_BV ql_BV
    clear q0_BB q1_BB qf_BB ql_BB
    clear q0_BS q1_BS qf_BS ql_BS
    clear q0_BX q1_BX qf_BX ql_BX
    have hd8 : w7.drew.heap.size = w7.heap.size := rfl
    replace BV := BV.drew
    replace BB := BB.drew
    replace BS := BS.drew
    replace OX := OX.drew
    replace BX := BX.drew
    replace hb := hb.drew
    refine wp_region_held_drew (S := fun w' => w'.cell? ⟨w.heap.size, 0, none⟩ = some (.int .i64 p) ∧ w'.cell? ⟨w.heap.size, 1, none⟩ = some (.int .i64 c) ∧ w'.cell? ⟨w.heap.size, 2, none⟩ = some (.int .i64 h) ∧ w'.cell? ⟨w.heap.size, 3, none⟩ = some (.int .i64 s) ∧ w'.cell? ⟨(w.heap.size + 1), 0, none⟩ = some (.slice a1 xs.length c1) ∧ w'.cell? ⟨(w.heap.size + 1), 1, none⟩ = some (.slice a2 ys.length c2) ∧ w'.cell? ⟨(w.heap.size + 1 + 1), 0, none⟩ = some (.int .i64 ra) ∧ w'.cell? ⟨(w.heap.size + 1 + 1), 1, none⟩ = some (.int .i64 rb) ∧ w'.cell? ⟨w6.heap.size, 0, none⟩ = some (.slice (some ⟨b1, 0, none⟩) xs.length xs.length) ∧ w'.cell? ⟨w6.heap.size, 1, none⟩ = some (.slice (some ⟨b2, 0, none⟩) ys.length ys.length)) (by kernel_rfl) ⟨BV.four.1, BV.four.2.1, BV.four.2.2.1, BV.four.2.2.2.1, BB.two.1, BB.two.2.1, BS.two.1, BS.two.2.1, BX.two.1, BX.two.2.1⟩ (fun hHeld => ?_)
    clear hHeld
    generalize w7.drew = vd8 at *
    have hHeld : vd8.cell? ⟨w.heap.size, 0, none⟩ = some (.int .i64 p) ∧ vd8.cell? ⟨w.heap.size, 1, none⟩ = some (.int .i64 c) ∧ vd8.cell? ⟨w.heap.size, 2, none⟩ = some (.int .i64 h) ∧ vd8.cell? ⟨w.heap.size, 3, none⟩ = some (.int .i64 s) ∧ vd8.cell? ⟨(w.heap.size + 1), 0, none⟩ = some (.slice a1 xs.length c1) ∧ vd8.cell? ⟨(w.heap.size + 1), 1, none⟩ = some (.slice a2 ys.length c2) ∧ vd8.cell? ⟨(w.heap.size + 1 + 1), 0, none⟩ = some (.int .i64 ra) ∧ vd8.cell? ⟨(w.heap.size + 1 + 1), 1, none⟩ = some (.int .i64 rb) ∧ vd8.cell? ⟨w6.heap.size, 0, none⟩ = some (.slice (some ⟨b1, 0, none⟩) xs.length xs.length) ∧ vd8.cell? ⟨w6.heap.size, 1, none⟩ = some (.slice (some ⟨b2, 0, none⟩) ys.length ys.length) := ⟨BV.four.1, BV.four.2.1, BV.four.2.2.1, BV.four.2.2.2.1, BB.two.1, BB.two.2.1, BS.two.1, BS.two.2.1, BX.two.1, BX.two.2.1⟩
    refine wpAnyH_take (i := 0) (oi := { dst := some 31, op := _, type := _, pos := _, after := _, guard := _ }) (v := ?_) rfl (by kernel_rfl) (by kernel_rfl) (by kernel_rfl) (fun _ _ _ h => h) (Or.inl ⟨by rfl, ?_⟩) (by assumption) ?_
    rotate_left
    · intro w hSw
      (try dsimp only at hSw)
      go_simp
      (try (with_reducible rfl))
    try simp only [Act.put, List.setIfInBounds_toArray, List.set_cons_zero, List.set_cons_succ]
    refine wpAnyH_take (i := 2) (oi := { dst := some 33, op := _, type := _, pos := _, after := _, guard := _ }) (v := ?_) rfl (by kernel_rfl) (by kernel_rfl) (by kernel_rfl) (fun _ _ _ h => h) (Or.inl ⟨by rfl, ?_⟩) (by assumption) ?_
    rotate_left
    · intro w hSw
      (try dsimp only at hSw)
      go_simp
      (try (with_reducible rfl))
    try simp only [Act.put, List.setIfInBounds_toArray, List.set_cons_zero, List.set_cons_succ]
    refine wpAnyH_take (i := 3) (oi := { dst := some 34, op := _, type := _, pos := _, after := _, guard := _ }) (v := ?_) rfl (by kernel_rfl) (by kernel_rfl) (by kernel_rfl) (fun _ _ _ h => h) (Or.inl ⟨by rfl, ?_⟩) (by assumption) ?_
    rotate_left
    · intro w hSw
      (try dsimp only at hSw)
      go_simp
      (try (with_reducible rfl))
    try simp only [Act.put, List.setIfInBounds_toArray, List.set_cons_zero, List.set_cons_succ]
    refine wpAnyH_ready (rs := [1]) (by kernel_rfl) (by simp) ?_
    refine AllReadyH.cons (o := { dst := some 32, op := _, type := _, pos := _, after := _, guard := _ }) rfl (fun K hK => ?_) AllReadyH.nil
    go_simp
    refine (toVariant_any _ _ _ _ _).mono ?_
    rintro e w9 ⟨rfl, hb9⟩
    replace BV := BV.below hb9
    replace BB := BB.below hb9
    replace BS := BS.below hb9
    replace OX := OX.below hb9
    replace BX := BX.below hb9
    have hz9 := hb9.size
    replace hb := chain hb hb9
    clear hb9
    (try go_wp2_with fail)
    refine hK.out _ _ ⟨BV.four.1, BV.four.2.1, BV.four.2.2.1, BV.four.2.2.2.1, BB.two.1, BB.two.2.1, BS.two.1, BS.two.2.1, BX.two.1, BX.two.2.1⟩ (fun hHeld => ?_)
    clear hK K
    try simp only [Act.put, List.setIfInBounds_toArray, List.set_cons_zero, List.set_cons_succ]
    refine wpAnyH_ready (rs := [4]) (by kernel_rfl) (by simp) ?_
    refine AllReadyH.cons (o := { dst := some 35, op := _, type := _, pos := _, after := _, guard := _ }) rfl (fun K hK => ?_) AllReadyH.nil
    go_simp
    refine (toRoll_br ra rb _).mono ?_
    rintro e w10 ⟨rfl, hb10⟩
    replace BV := BV.below hb10
    replace BB := BB.below hb10
    replace BS := BS.below hb10
    replace OX := OX.below hb10
    replace BX := BX.below hb10
    have hz10 := hb10.size
    replace hb := chain hb hb10
    clear hb10
    (try go_wp2_with fail)
    refine hK.out _ _ ⟨BV.four.1, BV.four.2.1, BV.four.2.2.1, BV.four.2.2.2.1, BB.two.1, BB.two.2.1, BS.two.1, BS.two.2.1, BX.two.1, BX.two.2.1⟩ (fun hHeld => ?_)
    clear hK K
    try simp only [Act.put, List.setIfInBounds_toArray, List.set_cons_zero, List.set_cons_succ]
    refine wpAnyH_ready (rs := [5]) (by kernel_rfl) (by simp) ?_
    refine AllReadyH.cons (o := { dst := some 36, op := _, type := _, pos := _, after := _, guard := _ }) rfl (fun K hK => ?_) AllReadyH.nil
    go_simp
    refine (HIM.out _ _ _ _ _ _ _ rfl rfl l1 l2 OX.irow1 OX.irow2).mono ?_
    rintro e w11 ⟨rfl, hb11⟩
    replace BV := BV.below hb11
    replace BB := BB.below hb11
    replace BS := BS.below hb11
    replace OX := OX.below hb11
    replace BX := BX.below hb11
    have hz11 := hb11.size
    replace hb := chain hb hb11
    clear hb11
    (try go_wp2_with fail)
    refine hK.out _ _ ⟨BV.four.1, BV.four.2.1, BV.four.2.2.1, BV.four.2.2.2.1, BB.two.1, BB.two.2.1, BS.two.1, BS.two.2.1, BX.two.1, BX.two.2.1⟩ (fun hHeld => ?_)
    clear hK K
    try simp only [Act.put, List.setIfInBounds_toArray, List.set_cons_zero, List.set_cons_succ]
    refine wpAnyH_take (i := 6) (oi := { dst := some 30, op := _, type := _, pos := _, after := _, guard := _ }) (v := ?_) rfl (by kernel_rfl) (by kernel_rfl) (by kernel_rfl) (fun _ _ _ h => h) (Or.inl ⟨by rfl, ?_⟩) (by assumption) ?_
    rotate_left
    · intro w hSw
      (try dsimp only at hSw)
      go_simp
      (try (with_reducible rfl))
    try simp only [Act.put, List.setIfInBounds_toArray, List.set_cons_zero, List.set_cons_succ]
    refine wpAnyH_take (i := 7) (oi := { dst := some 37, op := _, type := _, pos := _, after := _, guard := _ }) (v := ?_) rfl (by kernel_rfl) (by kernel_rfl) (by kernel_rfl) (fun _ _ _ h => h) (Or.inl ⟨by rfl, ?_⟩) (by assumption) ?_
    rotate_left
    · intro w hSw
      (try dsimp only at hSw)
      go_simp
      (try (with_reducible rfl))
    try simp only [Act.put, List.setIfInBounds_toArray, List.set_cons_zero, List.set_cons_succ]
    refine wpAnyH_take (i := 8) (oi := { dst := some 38, op := _, type := _, pos := _, after := _, guard := _ }) (v := ?_) rfl (by kernel_rfl) (by kernel_rfl) (by kernel_rfl) (fun _ _ _ h => h) (Or.inl ⟨by rfl, ?_⟩) (by assumption) ?_
    rotate_left
    · intro w hSw
      (try dsimp only at hSw)
      go_simp
      (try (with_reducible rfl))
    try simp only [Act.put, List.setIfInBounds_toArray, List.set_cons_zero, List.set_cons_succ]
    refine wpAnyH_take (i := 9) (oi := { dst := some 11, op := _, type := _, pos := _, after := _, guard := _ }) (v := ?_) rfl (by kernel_rfl) (by kernel_rfl) (by kernel_rfl) (fun _ _ _ h => h) (Or.inl ⟨by rfl, ?_⟩) (by assumption) ?_
    rotate_left
    · intro w hSw
      (try dsimp only at hSw)
      go_simp
      (try (with_reducible rfl))
    try simp only [Act.put, List.setIfInBounds_toArray, List.set_cons_zero, List.set_cons_succ]
    refine wpAnyH_take (i := 10) (oi := { dst := some 12, op := _, type := _, pos := _, after := _, guard := _ }) (v := ?_) rfl (by kernel_rfl) (by kernel_rfl) (by kernel_rfl) (fun _ _ _ h => h) (Or.inl ⟨by rfl, ?_⟩) (by assumption) ?_
    rotate_left
    · intro w hSw
      (try dsimp only at hSw)
      go_simp
      (try (with_reducible rfl))
    try simp only [Act.put, List.setIfInBounds_toArray, List.set_cons_zero, List.set_cons_succ]
    refine wpAnyH_done (by kernel_rfl) ?_ _
    clear hHeld
    obtain ⟨q0_BV, q1_BV, q2_BV, q3_BV, qf_BV, ql_BV⟩ := BV.four
    obtain ⟨q0_BB, q1_BB, qf_BB, ql_BB⟩ := BB.two
    obtain ⟨q0_BS, q1_BS, qf_BS, ql_BS⟩ := BS.two
    obtain ⟨q0_BX, q1_BX, qf_BX, ql_BX⟩ := BX.two
    go_wp2_with fail
    clear q0_BV q1_BV q2_BV q3_BV qf_BV ql_BV
    clear q0_BB q1_BB qf_BB ql_BB
    clear q0_BS q1_BS qf_BS ql_BS
    clear q0_BX q1_BX qf_BX ql_BX
    have hd12 : w11.drew.heap.size = w11.heap.size := rfl
    replace BV := BV.drew
    replace BB := BB.drew
    replace BS := BS.drew
    replace OX := OX.drew
    replace BX := BX.drew
    replace hb := hb.drew
    refine wp_region_held_drew (S := fun w' => w'.cell? ⟨w.heap.size, 0, none⟩ = some (.int .i64 p) ∧ w'.cell? ⟨w.heap.size, 1, none⟩ = some (.int .i64 c) ∧ w'.cell? ⟨w.heap.size, 2, none⟩ = some (.int .i64 h) ∧ w'.cell? ⟨w.heap.size, 3, none⟩ = some (.int .i64 s) ∧ w'.cell? ⟨(w.heap.size + 1), 0, none⟩ = some (.slice a1 xs.length c1) ∧ w'.cell? ⟨(w.heap.size + 1), 1, none⟩ = some (.slice a2 ys.length c2) ∧ w'.cell? ⟨(w.heap.size + 1 + 1), 0, none⟩ = some (.int .i64 ra) ∧ w'.cell? ⟨(w.heap.size + 1 + 1), 1, none⟩ = some (.int .i64 rb) ∧ w'.cell? ⟨w6.heap.size, 0, none⟩ = some (.slice (some ⟨b1, 0, none⟩) xs.length xs.length) ∧ w'.cell? ⟨w6.heap.size, 1, none⟩ = some (.slice (some ⟨b2, 0, none⟩) ys.length ys.length)) (by kernel_rfl) ⟨BV.four.1, BV.four.2.1, BV.four.2.2.1, BV.four.2.2.2.1, BB.two.1, BB.two.2.1, BS.two.1, BS.two.2.1, BX.two.1, BX.two.2.1⟩ (fun hHeld => ?_)
    clear hHeld
    generalize w11.drew = vd12 at *
    have hHeld : vd12.cell? ⟨w.heap.size, 0, none⟩ = some (.int .i64 p) ∧ vd12.cell? ⟨w.heap.size, 1, none⟩ = some (.int .i64 c) ∧ vd12.cell? ⟨w.heap.size, 2, none⟩ = some (.int .i64 h) ∧ vd12.cell? ⟨w.heap.size, 3, none⟩ = some (.int .i64 s) ∧ vd12.cell? ⟨(w.heap.size + 1), 0, none⟩ = some (.slice a1 xs.length c1) ∧ vd12.cell? ⟨(w.heap.size + 1), 1, none⟩ = some (.slice a2 ys.length c2) ∧ vd12.cell? ⟨(w.heap.size + 1 + 1), 0, none⟩ = some (.int .i64 ra) ∧ vd12.cell? ⟨(w.heap.size + 1 + 1), 1, none⟩ = some (.int .i64 rb) ∧ vd12.cell? ⟨w6.heap.size, 0, none⟩ = some (.slice (some ⟨b1, 0, none⟩) xs.length xs.length) ∧ vd12.cell? ⟨w6.heap.size, 1, none⟩ = some (.slice (some ⟨b2, 0, none⟩) ys.length ys.length) := ⟨BV.four.1, BV.four.2.1, BV.four.2.2.1, BV.four.2.2.2.1, BB.two.1, BB.two.2.1, BS.two.1, BS.two.2.1, BX.two.1, BX.two.2.1⟩
    refine wpAnyH_take (i := 0) (oi := { dst := some 47, op := _, type := _, pos := _, after := _, guard := _ }) (v := ?_) rfl (by kernel_rfl) (by kernel_rfl) (by kernel_rfl) (fun _ _ _ h => h) (Or.inl ⟨by rfl, ?_⟩) (by assumption) ?_
    rotate_left
    · intro w hSw
      (try dsimp only at hSw)
      go_simp
      (try (with_reducible rfl))
    try simp only [Act.put, List.setIfInBounds_toArray, List.set_cons_zero, List.set_cons_succ]
    refine wpAnyH_take (i := 1) (oi := { dst := some 48, op := _, type := _, pos := _, after := _, guard := _ }) (v := ?_) rfl (by kernel_rfl) (by kernel_rfl) (by kernel_rfl) (fun _ _ _ h => h) (Or.inl ⟨by rfl, ?_⟩) (by assumption) ?_
    rotate_left
    · intro w hSw
      (try dsimp only at hSw)
      go_simp
      (try (with_reducible rfl))
    try simp only [Act.put, List.setIfInBounds_toArray, List.set_cons_zero, List.set_cons_succ]
    refine wpAnyH_ready (rs := [2]) (by kernel_rfl) (by simp) ?_
    refine AllReadyH.cons (o := { dst := some 49, op := _, type := _, pos := _, after := _, guard := _ }) rfl (fun K hK => ?_) AllReadyH.nil
    go_simp
    refine (toBoard_any a1 a2 _ _ c1 c2 xs ys _ rfl rfl l1 l2 (r1.below hb) (r2.below hb)).mono ?_
    rintro e w13 ⟨g1, g2, rfl, gg1, gg2, R1, R2, hb13⟩
    replace BV := BV.below hb13
    replace BB := BB.below hb13
    replace BS := BS.below hb13
    replace OX := OX.below hb13
    replace BX := BX.below hb13
    have hz13 := hb13.size
    replace hb := chain hb hb13
    clear hb13
    (try go_wp2_with fail)
    refine hK.out _ _ ⟨BV.four.1, BV.four.2.1, BV.four.2.2.1, BV.four.2.2.2.1, BB.two.1, BB.two.2.1, BS.two.1, BS.two.2.1, BX.two.1, BX.two.2.1⟩ (fun hHeld => ?_)
    clear hK K
    try simp only [Act.put, List.setIfInBounds_toArray, List.set_cons_zero, List.set_cons_succ]
    refine wpAnyH_ready (rs := [3]) (by kernel_rfl) (by simp) ?_
    refine AllReadyH.cons (o := { dst := some 50, op := _, type := _, pos := _, after := _, guard := _ }) rfl (fun K hK => ?_) AllReadyH.nil
    go_simp
    refine (eqBoard_same _ _ _ _ _ _ _ _ _ _ xs ys _ rfl rfl l1 l2 OX.irow1 OX.irow2 R1.irow R2.irow).mono ?_
    rintro e w14 ⟨rfl, hb14⟩
    replace BV := BV.below hb14
    replace BB := BB.below hb14
    replace BS := BS.below hb14
    replace OX := OX.below hb14
    replace BX := BX.below hb14
    replace R1 := R1.below hb14
    replace R2 := R2.below hb14
    have hz14 := hb14.size
    replace hb := chain hb hb14
    clear hb14
    (try go_wp2_with fail)
    refine hK.out _ _ ⟨BV.four.1, BV.four.2.1, BV.four.2.2.1, BV.four.2.2.2.1, BB.two.1, BB.two.2.1, BS.two.1, BS.two.2.1, BX.two.1, BX.two.2.1⟩ (fun hHeld => ?_)
    clear hK K
    try simp only [Act.put, List.setIfInBounds_toArray, List.set_cons_zero, List.set_cons_succ]
    refine wpAnyH_take (i := 4) (oi := { dst := some 51, op := _, type := _, pos := _, after := _, guard := _ }) (v := ?_) rfl (by kernel_rfl) (by kernel_rfl) (by kernel_rfl) (fun _ _ _ h => h) (Or.inl ⟨by rfl, ?_⟩) (by assumption) ?_
    rotate_left
    · intro w hSw
      (try dsimp only at hSw)
      go_simp
      (try (with_reducible rfl))
    try simp only [Act.put, List.setIfInBounds_toArray, List.set_cons_zero, List.set_cons_succ]
    refine wpAnyH_done (by kernel_rfl) ?_ _
    clear hHeld
    obtain ⟨q0_BV, q1_BV, q2_BV, q3_BV, qf_BV, ql_BV⟩ := BV.four
    obtain ⟨q0_BB, q1_BB, qf_BB, ql_BB⟩ := BB.two
    obtain ⟨q0_BS, q1_BS, qf_BS, ql_BS⟩ := BS.two
    obtain ⟨q0_BX, q1_BX, qf_BX, ql_BX⟩ := BX.two
    go_wp2_with fail
    go_ret
    exact ⟨rfl, hb⟩
set_option maxRecDepth 100000 in
theorem fnExactDiceUsed_lifted (os : Os) (started : os.Started) (H : Type) (enc : TypeId × Value → H) :
    ReturnsInHanded {} Try.checked os 3 .any (Rows.fnExactDiceUsedSpec.pre6 enc Try.prog Try.f3 Rows.fnExactDiceUsedRow.domain false) (Rows.fnExactDiceUsedSpec.post enc Try.prog Try.f3 false true false false) := by
  refine returnsInHanded_of_change (C := Try.checked) own started (by kernel_rfl) Try.func3
    (ChangeSpec.witness6 (enc := enc) (C := Try.checked) false ⟨#[], #[.agg #[.int .i64 0, .int .i64 0, .int .i64 0, .int .i64 0], .agg #[.slice none 0 0, .slice none 0 0], .agg #[.int .i64 0, .int .i64 0]], []⟩ 8 (by kernel_rfl) (by kernel_rfl) (by kernel_rfl) (by kernel_rfl)) ?_
  intro W base args ds gs before hval0 hW hcnd _
  have hval : ∀ (j : Nat) t v, Try.f3.params[j]? = some t → args[j]? = some v → Value.okWide Try.prog W .any base t v := hval0
  have hW' := hW
  obtain ⟨p, q, hA0, hV, rfl, hfz, hnd⟩ := hW
  have hA : DataW.TrodAll enc Try.prog W 0 (fun _ => true) true Try.f3.params.toList args.toList ds p := hA0
  rw [Try.params3] at hA hval
  obtain ⟨v0, vs0, d0, ds0, p0, q0, hargs, rfl, rfl, h0, r0⟩ := trodAll_cons hA
  obtain ⟨v1, vs1, d1, ds1, p1, q1, rfl, rfl, rfl, h1, r1⟩ := trodAll_cons r0
  obtain ⟨v2, vs2, d2, ds2, p2, q2, rfl, rfl, rfl, h2, r2⟩ := trodAll_cons r1
  obtain ⟨rfl, rfl, rfl⟩ := trodAll_nil r2
  obtain rfl : args = #[v0, v1, v2] := by cases args; simp_all
  obtain ⟨rfl, rfl⟩ := trodVars_none hV
  have k0 := h0
  have lt0 : ∀ x ∈ p0, x.block < W.heap.size := by obtain ⟨m, hm⟩ := k0; exact DataW.trod_lt m _ _ _ hm
  have k1 := h1
  have lt1 : ∀ x ∈ p1, x.block < W.heap.size := by obtain ⟨m, hm⟩ := k1; exact DataW.trod_lt m _ _ _ hm
  have k2 := h2
  have lt2 : ∀ x ∈ p2, x.block < W.heap.size := by obtain ⟨m, hm⟩ := k2; exact DataW.trod_lt m _ _ _ hm
  obtain ⟨x0_0, x1_0, x2_0, x3_0, y0_0, y1_0, y2_0, y3_0, m_0, rfl, _, _, hy0_0, hy1_0, hy2_0, hy3_0⟩ := Joins.open_agg4 Try.underlying23 (by kernel_rfl) (show Try.prog.cellsOf 23 = 4 by kernel_rfl) (hval 0 23 v0 rfl rfl) h0
  obtain ⟨a0_0, e0_0, _, wa0_0⟩ := DataW.trod_int Try.underlying2 hy0_0
  obtain ⟨a1_0, e1_0, _, wa1_0⟩ := DataW.trod_int Try.underlying2 hy1_0
  obtain ⟨a2_0, e2_0, _, wa2_0⟩ := DataW.trod_int Try.underlying2 hy2_0
  obtain ⟨a3_0, e3_0, _, wa3_0⟩ := DataW.trod_int Try.underlying2 hy3_0
  simp at e0_0 e1_0 e2_0 e3_0
  subst e0_0 e1_0 e2_0 e3_0
  obtain ⟨x0_1, x1_1, y0_1, y1_1, m_1, rfl, _, _, hy0_1, hy1_1⟩ := Joins.open_agg2 Try.underlying26 (by kernel_rfl) (show Try.prog.cellsOf 26 = 2 by kernel_rfl) (hval 1 26 v1 rfl rfl) h1
  obtain ⟨ra_1, rn_1, rc_1, rx_1, rfl, rl_1, rm_1, rr_1, rw_1⟩ := open_row hy0_1
  obtain ⟨sa_1, sn_1, sc_1, sx_1, rfl, sl_1, sm_1, sr_1, sw_1⟩ := open_row hy1_1
  obtain ⟨x0_2, x1_2, y0_2, y1_2, m_2, rfl, _, _, hy0_2, hy1_2⟩ := Joins.open_agg2 Try.underlying28 (by kernel_rfl) (show Try.prog.cellsOf 28 = 2 by kernel_rfl) (hval 2 28 v2 rfl rfl) h2
  obtain ⟨a0_2, e0_2, _, wa0_2⟩ := DataW.trod_int Try.underlying2 hy0_2
  obtain ⟨a1_2, e1_2, _, wa1_2⟩ := DataW.trod_int Try.underlying2 hy1_2
  simp at e0_2 e1_2
  subst e0_2 e1_2
  clear hA0 hval0
  refine (fnExactDiceUsed_walk a0_0 a1_0 a2_0 a3_0 ra_1 sa_1 rn_1 sn_1 rc_1 sc_1 rx_1 sx_1 a0_2 a1_2 W rl_1 sl_1 rm_1 sm_1 rr_1 sr_1).mono fun e W' ⟨he, bel⟩ => ?_
  subst he
  exact ⟨_, rfl, _, _, _, [], _, [], hW', trodAll_mk1 (shut_bool Try.underlying4 _), (trodAll_cons_mk (Below.trod laidOut (by kernel_rfl) (of_decide_eq_true (by kernel_rfl)) k0 bel lt0) (trodAll_cons_mk (Below.trod laidOut (by kernel_rfl) (of_decide_eq_true (by kernel_rfl)) k1 bel lt1) (trodAll_cons_mk (Below.trod laidOut (by kernel_rfl) (of_decide_eq_true (by kernel_rfl)) k2 bel lt2) trodAll_mk0))), rfl, bel.frame _, fun h => by cases h⟩
theorem fnExactDiceUsed_holds : Rows.FnExactDiceUsedSaid :=
  OpenClaim.holds_of_wide 3 Try.f3 rfl rfl rfl rfl rfl rfl rfl ⟨rfl, rfl, rfl, rfl, rfl⟩ rfl rfl rfl rfl rfl (by kernel_rfl) Try.func3 (by kernel_rfl)
    (of_decide_eq_true (by kernel_rfl)) (by unfold Func.isWrapper; first | (rw [if_pos (by decide +kernel)]; kernel_rfl) | (rw [if_neg (by decide +kernel)]; exact ⟨rfl, rfl⟩))
    (fun os started H enc _ => fnExactDiceUsed_lifted os started H enc)
end Go.Proofs.Ytokjkcnjmfbfiaa
