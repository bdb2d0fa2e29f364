/- Contracts of chapter 3: the number of a side and the side with a number, of the program. -/
import Derived.Test.Ythnkckflajkaiaa10e
import Derived.Test.YthnkckflajkaiaaL03aN
namespace Go.Proofs.Ythnkckflajkaiaa
open Go.ChangeShapes Go.WideShapes Go.ChangeAt Go.RowKit
set_option linter.unusedVariables false
set_option linter.unusedSimpArgs false

set_option maxHeartbeats 1000000 in
theorem sideNumber_any (p c h s : Int) (a : Option Addr) (n cap : Nat) (xs : List Int) (w : World) (hn : xs.length = n) (hle : n ≤ 1048576) (hr : IRow w a xs) :
    Calls Try.prog 47 #[.agg #[.int .i64 p, .int .i64 c, .int .i64 h, .int .i64 s], .slice a n cap] w fun e w' => e = .returned (.tuple #[.int .i64 (snI p c h s xs), .int .i64 (seI p c h s xs)]) ∧ Below w.heap.size w w' := by
  have BV := Blk.new w #[.int .i64 p, .int .i64 c, .int .i64 h, .int .i64 s] 26
  have hb : Below w.heap.size w (w.alloc (.cells #[.int .i64 p, .int .i64 c, .int .i64 h, .int .i64 s] 26)) := (Below.refl _ _).alloc (Nat.le_refl _) _
  obtain ⟨x0, x1, x2, x3, xf, xl⟩ := BV.four
  have hV := fun W => valid_any p c h s W
  by_cases g : vB p c h s = true
  rotate_left
  · have e0 : okS p c h s xs = false := by simp [okS, g]
    rw [snI, seI, e0, if_neg (by simp), if_neg (by simp)]
    replace g : vB p c h s = false := by simpa using g
    rw [g] at hV
    have HV := Lib.hid hV
    clear hV e0
    go_enter Try.func47, Try.ntmps47
    go_wp2_with (go_at_call 53; refine (HV.out _).mono ?_; rintro e w1 ⟨rfl, hb1⟩; obtain ⟨x0, x1, x2, x3, xf, xl⟩ := (BV.below hb1).four)
    go_ret2
    exact ⟨rfl, chain hb hb1⟩
  have hS := fun W (r : IRow W a xs) => isSide_any p c h s a n cap xs W g hn (by omega) r
  by_cases sx : sideB p c xs = true
  rotate_left
  · have e0 : okS p c h s xs = false := by simp [okS, sx]
    rw [snI, seI, e0, if_neg (by simp), if_neg (by simp)]
    replace sx : sideB p c xs = false := by simpa using sx
    rw [g] at hV
    rw [sx] at hS
    have HV := Lib.hid hV
    have HS := Lib.hid hS
    clear hV hS e0
    go_enter Try.func47, Try.ntmps47
    go_wp2_with (first | (go_at_call 53; refine (HV.out _).mono ?_; rintro e w1 ⟨rfl, hb1⟩; obtain ⟨x0, x1, x2, x3, xf, xl⟩ := (BV.below hb1).four) | (go_at_call 81; refine (HS.out _ (hr.below (chain hb hb1))).mono ?_; rintro e w2 ⟨rfl, hb2⟩; obtain ⟨x0, x1, x2, x3, xf, xl⟩ := (BV.below (chain hb1 hb2)).four))
    go_ret2
    exact ⟨rfl, chain (chain hb hb1) hb2⟩
  · have e0 : okS p c h s xs = true := by simp [okS, sx, g]
    rw [snI, seI, if_pos e0, if_pos e0]
    have hv := vB_iff.1 g
    obtain ⟨m1, m2, m3⟩ := sideB_iff.1 sx
    obtain ⟨s1, s2, s3⟩ := side_nats sx (by omega)
    rw [g] at hV
    rw [sx] at hS
    have hK : ∀ W gg, WaysAt W gg → IRow W a xs → Calls Try.prog 82 #[.pointer (some ⟨gg, 0, none⟩), .slice a n cap, .int .i64 c] W fun e w' => e = .returned (.int .i64 (numL (nats xs) c.toNat)) ∧ Below W.heap.size W w' := by
      intro W gg q r
      have q := numberOf_any gg c.toNat a n cap (nats xs) xs W (by omega) (by omega) hn (by omega) s2 s3 r q
      rw [show ((c.toNat : Nat) : Int) = c by omega] at q
      exact q
    have HV := Lib.hid hV
    have HS := Lib.hid hS
    have HK := Lib.hid hK
    clear hV hS hK e0 m1 m2 m3 s1 s2 s3 hv g sx
    go_enter Try.func47, Try.ntmps47
    go_wp2_with (first | (go_at_call 53; refine (HV.out _).mono ?_; rintro e w1 ⟨rfl, hb1⟩; obtain ⟨x0, x1, x2, x3, xf, xl⟩ := (BV.below hb1).four) | (go_at_call 81; refine (HS.out _ (hr.below (chain hb hb1))).mono ?_; rintro e w2 ⟨rfl, hb2⟩; obtain ⟨x0, x1, x2, x3, xf, xl⟩ := (BV.below (chain hb1 hb2)).four))
    replace hr := hr.below (chain (chain hb hb1) hb2)
    replace hb := chain (chain hb hb1) hb2
    replace BV := BV.below (chain hb1 hb2)
    clear x0 x1 x2 x3 xf xl hb1 hb2
    have hd_ : w2.drew.heap.size = w2.heap.size := rfl
    replace BV := BV.drew
    replace hb := hb.drew
    replace hr := hr.drew
    refine wp_region_held_drew (S := fun w' => w'.cell? ⟨w.heap.size, 0, none⟩ = some (.int .i64 p) ∧ w'.cell? ⟨w.heap.size, 1, none⟩ = some (.int .i64 c) ∧ w'.cell? ⟨w.heap.size, 2, none⟩ = some (.int .i64 h) ∧ w'.cell? ⟨w.heap.size, 3, none⟩ = some (.int .i64 s)) (by kernel_rfl) ⟨BV.four.1, BV.four.2.1, BV.four.2.2.1, BV.four.2.2.2.1⟩ (fun hHeld => ?_)
    clear hHeld
    generalize w2.drew = vd at *
    have hHeld : vd.cell? ⟨w.heap.size, 0, none⟩ = some (.int .i64 p) ∧ vd.cell? ⟨w.heap.size, 1, none⟩ = some (.int .i64 c) ∧ vd.cell? ⟨w.heap.size, 2, none⟩ = some (.int .i64 h) ∧ vd.cell? ⟨w.heap.size, 3, none⟩ = some (.int .i64 s) := ⟨BV.four.1, BV.four.2.1, BV.four.2.2.1, BV.four.2.2.2.1⟩
    refine wpAnyH_take (i := 1) (oi := { dst := some 16, op := _, type := _, pos := _, after := _, guard := _ }) (v := ?_) rfl (by kernel_rfl) (by kernel_rfl) (by kernel_rfl) (fun _ _ _ h => h) (Or.inl ⟨by rfl, ?_⟩) (by assumption) ?_
    rotate_left
    · intro w hSw
      (try dsimp only at hSw)
      go_simp
      (try (with_reducible rfl))
    try simp only [Act.put, List.setIfInBounds_toArray, List.set_cons_zero, List.set_cons_succ]
    refine wpAnyH_take (i := 2) (oi := { dst := some 17, op := _, type := _, pos := _, after := _, guard := _ }) (v := ?_) rfl (by kernel_rfl) (by kernel_rfl) (by kernel_rfl) (fun _ _ _ h => h) (Or.inl ⟨by rfl, ?_⟩) (by assumption) ?_
    rotate_left
    · intro w hSw
      (try dsimp only at hSw)
      go_simp
      (try (with_reducible rfl))
    try simp only [Act.put, List.setIfInBounds_toArray, List.set_cons_zero, List.set_cons_succ]
    refine wpAnyH_take (i := 3) (oi := { dst := some 18, op := _, type := _, pos := _, after := _, guard := _ }) (v := ?_) rfl (by kernel_rfl) (by kernel_rfl) (by kernel_rfl) (fun _ _ _ h => h) (Or.inl ⟨by rfl, ?_⟩) (by assumption) ?_
    rotate_left
    · intro w hSw
      (try dsimp only at hSw)
      go_simp
      (try (with_reducible rfl))
    try simp only [Act.put, List.setIfInBounds_toArray, List.set_cons_zero, List.set_cons_succ]
    refine wpAnyH_ready (rs := [0]) (by kernel_rfl) (by simp) ?_
    refine AllReadyH.cons (o := { dst := some 15, op := _, type := _, pos := _, after := _, guard := _ }) rfl (fun K hK => ?_) AllReadyH.nil
    go_simp
    refine (countWays_any _).mono ?_
    rintro e wq ⟨g, rfl, hg, HW, hq⟩
    replace BV := BV.below hq
    replace hb := chain hb hq
    replace hr := hr.below hq
    clear hq
    (try go_wp2_with fail)
    refine hK.out _ _ ⟨BV.four.1, BV.four.2.1, BV.four.2.2.1, BV.four.2.2.2.1⟩ (fun hHeld => ?_)
    clear hK K
    try simp only [Act.put, List.setIfInBounds_toArray, List.set_cons_zero, List.set_cons_succ]
    refine wpAnyH_ready (rs := [4]) (by kernel_rfl) (by simp) ?_
    refine AllReadyH.cons (o := { dst := some 19, op := _, type := _, pos := _, after := _, guard := _ }) rfl (fun K hK => ?_) AllReadyH.nil
    go_simp
    refine (HK.out _ _ HW hr).mono ?_
    rintro e wq ⟨rfl, hq⟩
    replace BV := BV.below hq
    replace hb := chain hb hq
    clear hq
    (try go_wp2_with fail)
    refine hK.out _ _ ⟨BV.four.1, BV.four.2.1, BV.four.2.2.1, BV.four.2.2.2.1⟩ (fun hHeld => ?_)
    clear hK K
    try simp only [Act.put, List.setIfInBounds_toArray, List.set_cons_zero, List.set_cons_succ]
    refine wpAnyH_take (i := 5) (oi := { dst := some 4, op := _, type := _, pos := _, after := _, guard := _ }) (v := ?_) rfl (by kernel_rfl) (by kernel_rfl) (by kernel_rfl) (fun _ _ _ h => h) (Or.inl ⟨by rfl, ?_⟩) (by assumption) ?_
    rotate_left
    · intro w hSw
      (try dsimp only at hSw)
      go_simp
      (try (with_reducible rfl))
    try simp only [Act.put, List.setIfInBounds_toArray, List.set_cons_zero, List.set_cons_succ]
    refine wpAnyH_take (i := 6) (oi := { dst := some 5, op := _, type := _, pos := _, after := _, guard := _ }) (v := ?_) rfl (by kernel_rfl) (by kernel_rfl) (by kernel_rfl) (fun _ _ _ h => h) (Or.inl ⟨by rfl, ?_⟩) (by assumption) ?_
    rotate_left
    · intro w hSw
      (try dsimp only at hSw)
      go_simp
      (try (with_reducible rfl))
    try simp only [Act.put, List.setIfInBounds_toArray, List.set_cons_zero, List.set_cons_succ]
    refine wpAnyH_done (by kernel_rfl) ?_ _
    clear hHeld
    go_wp2
    go_ret2
    exact ⟨rfl, hb⟩
set_option maxHeartbeats 1000000 in
theorem sideOfNumber_any (p c h s k : Int) (w : World) :
    Calls Try.prog 49 #[.agg #[.int .i64 p, .int .i64 c, .int .i64 h, .int .i64 s], .int .i64 k] w (SliceGot2 (sonL p c h s k) (sonE p c h s k) w) := by
  have BV := Blk.new w #[.int .i64 p, .int .i64 c, .int .i64 h, .int .i64 s] 26
  have hb : Below w.heap.size w (w.alloc (.cells #[.int .i64 p, .int .i64 c, .int .i64 h, .int .i64 s] 26)) := (Below.refl _ _).alloc (Nat.le_refl _) _
  obtain ⟨x0, x1, x2, x3, xf, xl⟩ := BV.four
  have hV := fun W => valid_any p c h s W
  by_cases g : vB p c h s = true
  rotate_left
  · rw [sonL, sonE, if_neg g, if_neg (fun z => g z.1)]
    replace g : vB p c h s = false := by simpa using g
    rw [g] at hV
    have HV := Lib.hid hV
    clear hV
    go_enter Try.func49, Try.ntmps49
    go_wp2_with (go_at_call 53; refine (HV.out _).mono ?_; rintro e w1 ⟨rfl, hb1⟩; obtain ⟨x0, x1, x2, x3, xf, xl⟩ := (BV.below hb1).four)
    go_ret2
    exact ⟨none, 0, rfl, .inl ⟨rfl, rfl⟩, chain hb hb1⟩
  have hv := vB_iff.1 g
  have hS := fun W => sideCountM_any p c h s W g
  rw [g] at hV
  have hcb := cnt_bnd (p + 1).toNat c.toNat (by omega) (by omega)
  by_cases z : okN p c k = true
  rotate_left
  · rw [sonL, sonE, if_pos g, if_neg z, if_neg (fun q => z q.2)]
    simp only [okN, decide_eq_true_eq] at z
    obtain ⟨n, hn⟩ : ∃ n, cnt (p + 1).toNat c.toNat = n := ⟨_, rfl⟩
    rw [hn] at hS z hcb
    have HV := Lib.hid hV
    have HS := Lib.hid hS
    clear hV hS hn hv g
    by_cases z0 : k < 0
    · clear z
      go_enter Try.func49, Try.ntmps49
      go_wp2_with (go_at_call 53; refine (HV.out _).mono ?_; rintro e w1 ⟨rfl, hb1⟩; obtain ⟨x0, x1, x2, x3, xf, xl⟩ := (BV.below hb1).four)
      go_ret2
      exact ⟨none, 0, rfl, .inl ⟨rfl, rfl⟩, chain hb hb1⟩
    · have z1 : (n : Int) ≤ k := by omega
      clear z
      go_enter Try.func49, Try.ntmps49
      go_wp2_with (first | (go_at_call 53; refine (HV.out _).mono ?_; rintro e w1 ⟨rfl, hb1⟩; obtain ⟨x0, x1, x2, x3, xf, xl⟩ := (BV.below hb1).four) | (go_at_call 79; refine (HS.out _).mono ?_; rintro e w2 ⟨rfl, hb2⟩; obtain ⟨x0, x1, x2, x3, xf, xl⟩ := (BV.below (chain hb1 hb2)).four))
      go_ret2
      exact ⟨none, 0, rfl, .inl ⟨rfl, rfl⟩, chain (chain hb hb1) hb2⟩
  · rw [sonL, sonE, if_pos g, if_pos z, if_pos ⟨g, z⟩]
    simp only [okN, decide_eq_true_eq] at z
    obtain ⟨N, rfl⟩ := Int.eq_ofNat_of_zero_le z.1
    have hK : ∀ W gg, WaysAt W gg → Calls Try.prog 83 #[.pointer (some ⟨gg, 0, none⟩), .int .i64 N, .int .i64 (p + 1), .int .i64 c] W fun e w' => ∃ gL, e = .returned (.slice (some ⟨gL, 0, none⟩) (p + 1).toNat (p + 1).toNat) ∧ W.heap.size ≤ gL ∧ Row w' gL (unrI (p + 1).toNat ((N : Int)).toNat c.toNat) ∧ Below W.heap.size W w' := by
      intro W gg q
      have q := listAt_any gg N (p + 1).toNat c.toNat W (by omega) (by omega) (by omega) (by omega) q
      rw [show (((p + 1).toNat : Nat) : Int) = p + 1 by omega, show ((c.toNat : Nat) : Int) = c by omega] at q
      exact q
    have hlen := unrI_length (p + 1).toNat ((N : Int)).toNat c.toNat (by omega)
    obtain ⟨n, hn⟩ : ∃ n, cnt (p + 1).toNat c.toNat = n := ⟨_, rfl⟩
    rw [hn] at hS z hcb
    obtain ⟨out, hout⟩ : ∃ out, unrI (p + 1).toNat ((N : Int)).toNat c.toNat = out := ⟨_, rfl⟩
    rw [hout] at hK hlen ⊢
    obtain ⟨ln, hln⟩ : ∃ ln, (p + 1).toNat = ln := ⟨_, rfl⟩
    rw [hln] at hK hlen
    have z1 : (N : Int) < (n : Int) := z.2
    have z0 : (0 : Int) ≤ (N : Int) := z.1
    have wz : IntKind.i64.wrap (p + 1) = p + 1 := IntWalk.i64_in _ (by omega)
    have HV := Lib.hid hV
    have HS := Lib.hid hS
    have HK := Lib.hid hK
    have HL := Lib.hid hlen
    clear hV hS hK hn hout hv g hcb z hlen hln
    go_enter Try.func49, Try.ntmps49
    go_wp2_with (first | (go_at_call 53; refine (HV.out _).mono ?_; rintro e w1 ⟨rfl, hb1⟩; obtain ⟨x0, x1, x2, x3, xf, xl⟩ := (BV.below hb1).four) | (go_at_call 79; refine (HS.out _).mono ?_; rintro e w2 ⟨rfl, hb2⟩; obtain ⟨x0, x1, x2, x3, xf, xl⟩ := (BV.below (chain hb1 hb2)).four))
    replace hb := chain (chain hb hb1) hb2
    replace BV := BV.below (chain hb1 hb2)
    clear x0 x1 x2 x3 xf xl hb1 hb2
    have hd_ : w2.drew.heap.size = w2.heap.size := rfl
    replace BV := BV.drew
    replace hb := hb.drew
    refine wp_region_held_drew (S := fun w' => w'.cell? ⟨w.heap.size, 0, none⟩ = some (.int .i64 p) ∧ w'.cell? ⟨w.heap.size, 1, none⟩ = some (.int .i64 c) ∧ w'.cell? ⟨w.heap.size, 2, none⟩ = some (.int .i64 h) ∧ w'.cell? ⟨w.heap.size, 3, none⟩ = some (.int .i64 s)) (by kernel_rfl) ⟨BV.four.1, BV.four.2.1, BV.four.2.2.1, BV.four.2.2.2.1⟩ (fun hHeld => ?_)
    clear hHeld
    generalize w2.drew = vd at *
    have hHeld : vd.cell? ⟨w.heap.size, 0, none⟩ = some (.int .i64 p) ∧ vd.cell? ⟨w.heap.size, 1, none⟩ = some (.int .i64 c) ∧ vd.cell? ⟨w.heap.size, 2, none⟩ = some (.int .i64 h) ∧ vd.cell? ⟨w.heap.size, 3, none⟩ = some (.int .i64 s) := ⟨BV.four.1, BV.four.2.1, BV.four.2.2.1, BV.four.2.2.2.1⟩
    refine wpAnyH_take (i := 1) (oi := { dst := some 18, op := _, type := _, pos := _, after := _, guard := _ }) (v := ?_) rfl (by kernel_rfl) (by kernel_rfl) (by kernel_rfl) (fun _ _ _ h => h) (Or.inl ⟨by rfl, ?_⟩) (by assumption) ?_
    rotate_left
    · intro w hSw
      (try dsimp only at hSw)
      go_simp
      (try (with_reducible rfl))
    try simp only [Act.put, List.setIfInBounds_toArray, List.set_cons_zero, List.set_cons_succ]
    refine wpAnyH_take (i := 2) (oi := { dst := some 19, op := _, type := _, pos := _, after := _, guard := _ }) (v := ?_) rfl (by kernel_rfl) (by kernel_rfl) (by kernel_rfl) (fun _ _ _ h => h) (Or.inl ⟨by rfl, ?_⟩) (by assumption) ?_
    rotate_left
    · intro w hSw
      (try dsimp only at hSw)
      go_simp
      (try (with_reducible rfl))
    try simp only [Act.put, List.setIfInBounds_toArray, List.set_cons_zero, List.set_cons_succ]
    refine wpAnyH_take (i := 3) (oi := { dst := some 20, op := _, type := _, pos := _, after := _, guard := _ }) (v := ?_) rfl (by kernel_rfl) (by kernel_rfl) (by kernel_rfl) (fun _ _ _ h => h) (Or.inl ⟨by rfl, ?_⟩) (by assumption) ?_
    rotate_left
    · intro w hSw
      (try dsimp only at hSw)
      go_simp
      (try (with_reducible rfl))
    try simp only [Act.put, List.setIfInBounds_toArray, List.set_cons_zero, List.set_cons_succ]
    refine wpAnyH_take (i := 4) (oi := { dst := some 21, op := _, type := _, pos := _, after := _, guard := _ }) (v := ?_) rfl (by kernel_rfl) (by kernel_rfl) (by kernel_rfl) (fun _ _ _ h => h) (Or.inl ⟨by rfl, ?_⟩) (by assumption) ?_
    rotate_left
    · intro w hSw
      (try dsimp only at hSw)
      go_simp
      (try (with_reducible rfl))
    try simp only [Act.put, List.setIfInBounds_toArray, List.set_cons_zero, List.set_cons_succ]
    refine wpAnyH_take (i := 5) (oi := { dst := some 22, op := _, type := _, pos := _, after := _, guard := _ }) (v := ?_) rfl (by kernel_rfl) (by kernel_rfl) (by kernel_rfl) (fun _ _ _ h => h) (Or.inl ⟨by rfl, ?_⟩) (by assumption) ?_
    rotate_left
    · intro w hSw
      (try dsimp only at hSw)
      go_simp
      (try (with_reducible rfl))
    try simp only [Act.put, List.setIfInBounds_toArray, List.set_cons_zero, List.set_cons_succ]
    refine wpAnyH_take (i := 6) (oi := { dst := some 23, op := _, type := _, pos := _, after := _, guard := _ }) (v := ?_) rfl (by kernel_rfl) (by kernel_rfl) (by kernel_rfl) (fun _ _ _ h => h) (Or.inl ⟨by rfl, ?_⟩) (by assumption) ?_
    rotate_left
    · intro w hSw
      (try dsimp only at hSw)
      go_simp
      (try (with_reducible rfl))
    try simp only [Act.put, List.setIfInBounds_toArray, List.set_cons_zero, List.set_cons_succ]
    refine wpAnyH_ready (rs := [0]) (by kernel_rfl) (by simp) ?_
    refine AllReadyH.cons (o := { dst := some 17, op := _, type := _, pos := _, after := _, guard := _ }) rfl (fun K hK => ?_) AllReadyH.nil
    go_simp
    refine (countWays_any _).mono ?_
    rintro e wq ⟨g, rfl, hg, HW, hq⟩
    replace BV := BV.below hq
    replace hb := chain hb hq
    clear hq
    (try go_wp2_with fail)
    refine hK.out _ _ ⟨BV.four.1, BV.four.2.1, BV.four.2.2.1, BV.four.2.2.2.1⟩ (fun hHeld => ?_)
    clear hK K
    try simp only [Act.put, List.setIfInBounds_toArray, List.set_cons_zero, List.set_cons_succ]
    refine wpAnyH_ready (rs := [7]) (by kernel_rfl) (by simp) ?_
    refine AllReadyH.cons (o := { dst := some 24, op := _, type := _, pos := _, after := _, guard := _ }) rfl (fun K hK => ?_) AllReadyH.nil
    go_simp
    refine (HK.out _ _ HW).mono ?_
    rintro e wq ⟨gL, rfl, hgL, RL, hq⟩
    have hgL2 : w.heap.size ≤ gL := Nat.le_trans hb.size hgL
    replace BV := BV.below hq
    replace hb := chain hb hq
    clear hq
    (try go_wp2_with fail)
    refine hK.out _ _ ⟨BV.four.1, BV.four.2.1, BV.four.2.2.1, BV.four.2.2.2.1⟩ (fun hHeld => ?_)
    clear hK K
    try simp only [Act.put, List.setIfInBounds_toArray, List.set_cons_zero, List.set_cons_succ]
    refine wpAnyH_take (i := 8) (oi := { dst := some 4, op := _, type := _, pos := _, after := _, guard := _ }) (v := ?_) rfl (by kernel_rfl) (by kernel_rfl) (by kernel_rfl) (fun _ _ _ h => h) (Or.inl ⟨by rfl, ?_⟩) (by assumption) ?_
    rotate_left
    · intro w hSw
      (try dsimp only at hSw)
      go_simp
      (try (with_reducible rfl))
    try simp only [Act.put, List.setIfInBounds_toArray, List.set_cons_zero, List.set_cons_succ]
    refine wpAnyH_take (i := 9) (oi := { dst := some 5, op := _, type := _, pos := _, after := _, guard := _ }) (v := ?_) rfl (by kernel_rfl) (by kernel_rfl) (by kernel_rfl) (fun _ _ _ h => h) (Or.inl ⟨by rfl, ?_⟩) (by assumption) ?_
    rotate_left
    · intro w hSw
      (try dsimp only at hSw)
      go_simp
      (try (with_reducible rfl))
    try simp only [Act.put, List.setIfInBounds_toArray, List.set_cons_zero, List.set_cons_succ]
    refine wpAnyH_done (by kernel_rfl) ?_ _
    clear hHeld
    go_wp2
    go_ret2
    exact ⟨_, ln, by rw [HL.out]; rfl, .inr ⟨_, rfl, hgL2, RL.lt, RL⟩, hb⟩
end Go.Proofs.Ythnkckflajkaiaa
