/- Contracts of the program and of its model on the code of a request for rolls, and on the roll from a seed. -/
import Derived.Test.Ytcmfknkdfkchmaa07b
import Derived.Test.Ytcmfknkdfkchmaa07c
namespace Go.Proofs.Ytcmfknkdfkchmaa
open Go.ChangeShapes Go.WideShapes Go.ChangeAt Go.RowKit
set_option linter.unusedVariables false
set_option linter.unusedSimpArgs false

/-- The code of a request for rolls. -/
def rcI (p c h s x n : Int) : Int := if vB p c h s = true then (if sdB x = true then (if n < 0 then 2 else if 400 < n then 3 else 0) else 2) else 1
set_option maxRecDepth 8000 in
set_option maxHeartbeats 1000000 in
theorem rollsCode_any (p c h s x n : Int) (w : World) :
    Calls Try.prog 55 #[.agg #[.int .i64 p, .int .i64 c, .int .i64 h, .int .i64 s], .int .i64 x, .int .i64 n] w fun e w' => e = .returned (.int .i64 (rcI p c h s x n)) ∧ Below w.heap.size w w' := by
  have BV := Blk.new w #[.int .i64 p, .int .i64 c, .int .i64 h, .int .i64 s] 25
  have hb : Below w.heap.size w (w.alloc (.cells #[.int .i64 p, .int .i64 c, .int .i64 h, .int .i64 s] 25)) := (Below.refl _ _).alloc (Nat.le_refl _) _
  obtain ⟨x0, x1, x2, x3, xf, xl⟩ := BV.four
  have hv := fun W => valid_any p c h s W
  have hs := fun W => isSeed_any x W
  unfold rcI
  cases g : vB p c h s with
  | false =>
    rw [g] at hv
    rw [if_neg (by simp)]
    have HV := Lib.hid hv
    clear hv hs g
    go_enter Try.func55, Try.ntmps55
    go_wp2_with (first | (go_at_call 48; refine (HV.out _).mono ?_; clear HV; rintro e w1 ⟨rfl, hb1⟩; obtain ⟨x0, x1, x2, x3, xf, xl⟩ := (BV.below hb1).four))
    go_ret
    exact ⟨rfl, chain hb hb1⟩
  | true =>
    rw [g] at hv
    rw [if_pos rfl]
    have HV := Lib.hid hv
    clear hv g
    cases gs : sdB x with
    | false =>
      rw [gs] at hs
      rw [if_neg (by simp)]
      have HS := Lib.hid hs
      clear hs gs
      go_enter Try.func55, Try.ntmps55
      go_wp2_with (first | (go_at_call 48; refine (HV.out _).mono ?_; clear HV; rintro e w1 ⟨rfl, hb1⟩; obtain ⟨x0, x1, x2, x3, xf, xl⟩ := (BV.below hb1).four) | (go_at_call 59; refine (HS.out _).mono ?_; clear HS; rintro e w2 ⟨rfl, rfl⟩))
      go_ret
      exact ⟨rfl, chain hb hb1⟩
    | true =>
      rw [gs] at hs
      rw [if_pos rfl]
      have HS := Lib.hid hs
      clear hs gs
      by_cases n0 : n < 0
      · rw [if_pos n0]
        go_enter Try.func55, Try.ntmps55
        go_wp2_with (first | (go_at_call 48; refine (HV.out _).mono ?_; clear HV; rintro e w1 ⟨rfl, hb1⟩; obtain ⟨x0, x1, x2, x3, xf, xl⟩ := (BV.below hb1).four) | (go_at_call 59; refine (HS.out _).mono ?_; clear HS; rintro e w2 ⟨rfl, rfl⟩))
        go_ret
        exact ⟨rfl, chain hb hb1⟩
      · rw [if_neg n0]
        replace n0 : 0 ≤ n := by omega
        by_cases n4 : 400 < n
        · rw [if_pos n4]
          go_enter Try.func55, Try.ntmps55
          go_wp2_with (first | (go_at_call 48; refine (HV.out _).mono ?_; clear HV; rintro e w1 ⟨rfl, hb1⟩; obtain ⟨x0, x1, x2, x3, xf, xl⟩ := (BV.below hb1).four) | (go_at_call 59; refine (HS.out _).mono ?_; clear HS; rintro e w2 ⟨rfl, rfl⟩))
          go_ret
          exact ⟨rfl, chain hb hb1⟩
        · rw [if_neg n4]
          replace n4 : n ≤ 400 := by omega
          go_enter Try.func55, Try.ntmps55
          go_wp2_with (first | (go_at_call 48; refine (HV.out _).mono ?_; clear HV; rintro e w1 ⟨rfl, hb1⟩; obtain ⟨x0, x1, x2, x3, xf, xl⟩ := (BV.below hb1).four) | (go_at_call 59; refine (HS.out _).mono ?_; clear HS; rintro e w2 ⟨rfl, rfl⟩))
          go_ret
          exact ⟨rfl, chain hb hb1⟩
set_option maxRecDepth 8000 in
set_option maxHeartbeats 1000000 in
theorem l07Code_any (p c h s x n : Int) (w : World) :
    Calls Try.prog 57 #[.agg #[.int .i64 p, .int .i64 c, .int .i64 h, .int .i64 s], .int .i64 x, .int .i64 n] w fun e w' => e = .returned (.int .i64 (rcI p c h s x n)) ∧ Below w.heap.size w w' := by
  have BV := Blk.new w #[.int .i64 p, .int .i64 c, .int .i64 h, .int .i64 s] 25
  have hb : Below w.heap.size w (w.alloc (.cells #[.int .i64 p, .int .i64 c, .int .i64 h, .int .i64 s] 25)) := (Below.refl _ _).alloc (Nat.le_refl _) _
  obtain ⟨x0, x1, x2, x3, xf, xl⟩ := BV.four
  have hv := fun W => specIsVariant_any p c h s W
  have hs := fun W => l07Seed_any x W
  unfold rcI
  cases g : vB p c h s with
  | false =>
    rw [g] at hv
    rw [if_neg (by simp)]
    have HV := Lib.hid hv
    clear hv hs g
    go_enter Try.func57, Try.ntmps57
    go_wp2_with (first | (go_at_call 18; refine (HV.out _).mono ?_; clear HV; rintro e w1 ⟨rfl, hb1⟩; obtain ⟨x0, x1, x2, x3, xf, xl⟩ := (BV.below hb1).four))
    go_ret
    exact ⟨rfl, chain hb hb1⟩
  | true =>
    rw [g] at hv
    rw [if_pos rfl]
    have HV := Lib.hid hv
    clear hv g
    cases gs : sdB x with
    | false =>
      rw [gs] at hs
      rw [if_neg (by simp)]
      have HS := Lib.hid hs
      clear hs gs
      go_enter Try.func57, Try.ntmps57
      go_wp2_with (first | (go_at_call 18; refine (HV.out _).mono ?_; clear HV; rintro e w1 ⟨rfl, hb1⟩; obtain ⟨x0, x1, x2, x3, xf, xl⟩ := (BV.below hb1).four) | (go_at_call 65; refine (HS.out _).mono ?_; clear HS; rintro e w2 ⟨rfl, rfl⟩))
      go_ret
      exact ⟨rfl, chain hb hb1⟩
    | true =>
      rw [gs] at hs
      rw [if_pos rfl]
      have HS := Lib.hid hs
      clear hs gs
      by_cases n0 : n < 0
      · rw [if_pos n0]
        go_enter Try.func57, Try.ntmps57
        go_wp2_with (first | (go_at_call 18; refine (HV.out _).mono ?_; clear HV; rintro e w1 ⟨rfl, hb1⟩; obtain ⟨x0, x1, x2, x3, xf, xl⟩ := (BV.below hb1).four) | (go_at_call 65; refine (HS.out _).mono ?_; clear HS; rintro e w2 ⟨rfl, rfl⟩))
        go_ret
        exact ⟨rfl, chain hb hb1⟩
      · rw [if_neg n0]
        replace n0 : 0 ≤ n := by omega
        by_cases n4 : 400 < n
        · rw [if_pos n4]
          go_enter Try.func57, Try.ntmps57
          go_wp2_with (first | (go_at_call 18; refine (HV.out _).mono ?_; clear HV; rintro e w1 ⟨rfl, hb1⟩; obtain ⟨x0, x1, x2, x3, xf, xl⟩ := (BV.below hb1).four) | (go_at_call 65; refine (HS.out _).mono ?_; clear HS; rintro e w2 ⟨rfl, rfl⟩))
          go_ret
          exact ⟨rfl, chain hb hb1⟩
        · rw [if_neg n4]
          replace n4 : n ≤ 400 := by omega
          go_enter Try.func57, Try.ntmps57
          go_wp2_with (first | (go_at_call 18; refine (HV.out _).mono ?_; clear HV; rintro e w1 ⟨rfl, hb1⟩; obtain ⟨x0, x1, x2, x3, xf, xl⟩ := (BV.below hb1).four) | (go_at_call 65; refine (HS.out _).mono ?_; clear HS; rintro e w2 ⟨rfl, rfl⟩))
          go_ret
          exact ⟨rfl, chain hb hb1⟩
/-- What the roll from a seed is: its faces, the seed that remains, whether there is one. -/
def rfV (p c h s x : Int) : Int × Int × Int × Bool := if (vB p c h s && sdB x) = true then ((frR s x).1, (frR s x).2, nxS (nxS x), true) else (0, 0, 0, false)
abbrev rfE (r : Int × Int × Int × Bool) : Value := .tuple #[.agg #[.int .i64 r.1, .int .i64 r.2.1], .int .i64 r.2.2.1, .bool r.2.2.2]
theorem rfV_yes {p c h s x : Int} (h1 : vB p c h s = true) (h2 : sdB x = true) : rfV p c h s x = ((frR s x).1, (frR s x).2, nxS (nxS x), true) := by
  unfold rfV
  rw [h1, h2]
  rfl
theorem rfV_no {p c h s x : Int} (hh : (vB p c h s && sdB x) = false) : rfV p c h s x = (0, 0, 0, false) := by
  unfold rfV
  rw [hh]
  rfl
set_option maxRecDepth 8000 in
set_option maxHeartbeats 2000000 in
theorem rollFrom_any (p c h s x : Int) (w : World) :
    Calls Try.prog 27 #[.agg #[.int .i64 p, .int .i64 c, .int .i64 h, .int .i64 s], .int .i64 x] w fun e w' => e = .returned (rfE (rfV p c h s x)) ∧ Below w.heap.size w w' := by
  have hv := fun W => valid_any p c h s W
  have hs := fun W => isSeed_any x W
  cases g : vB p c h s with
  | false =>
    rw [g] at hv
    rw [rfV_no (by rw [g]; rfl)]
    have HV := Lib.hid hv
    clear hv hs g
    obtain ⟨BV, BR, hb, hz⟩ := two_new w #[.int .i64 p, .int .i64 c, .int .i64 h, .int .i64 s] #[.int .i64 0, .int .i64 0] 25 33
    obtain ⟨x0, x1, x2, x3, xf, xl⟩ := BV.four
    obtain ⟨z0, z1, zf, zl⟩ := BR.two
    go_enter Try.func27, Try.ntmps27
    go_wp2_with (first | (go_at_call 48; refine (HV.out _).mono ?_; clear HV; rintro e w1 ⟨rfl, hb1⟩; obtain ⟨x0, x1, x2, x3, xf, xl⟩ := (BV.below hb1).four; obtain ⟨z0, z1, zf, zl⟩ := (BR.below hb1).two))
    have BRn := ((BR.below hb1).set (i := 0) (.int .i64 0)).set (i := 1) (.int .i64 0)
    obtain ⟨u0, u1, uf, ul⟩ := BRn.two
    refine bodyPost_ret (v := .tuple #[.agg #[.int .i64 0, .int .i64 0], .int .i64 0, .bool false]) (by simp [results, Try.results27, go_sem, u0, u1]) rfl ?_
    exact ⟨rfl, ((chain hb hb1).setCell (by show _ ≤ w.heap.size + 1; omega) _).setCell (by show _ ≤ w.heap.size + 1; omega) _⟩
  | true =>
    rw [g] at hv
    have HV := Lib.hid hv
    clear hv
    cases gs : sdB x with
    | false =>
      rw [gs] at hs
      rw [rfV_no (by rw [gs, Bool.and_false])]
      have HS := Lib.hid hs
      clear hs g gs
      obtain ⟨BV, BR, hb, hz⟩ := two_new w #[.int .i64 p, .int .i64 c, .int .i64 h, .int .i64 s] #[.int .i64 0, .int .i64 0] 25 33
      obtain ⟨x0, x1, x2, x3, xf, xl⟩ := BV.four
      obtain ⟨z0, z1, zf, zl⟩ := BR.two
      go_enter Try.func27, Try.ntmps27
      go_wp2_with (first | (go_at_call 48; refine (HV.out _).mono ?_; clear HV; rintro e w1 ⟨rfl, hb1⟩; obtain ⟨x0, x1, x2, x3, xf, xl⟩ := (BV.below hb1).four; obtain ⟨z0, z1, zf, zl⟩ := (BR.below hb1).two) | (go_at_call 59; refine (HS.out _).mono ?_; clear HS; rintro e w2 ⟨rfl, rfl⟩))
      have BRn := ((BR.below hb1).set (i := 0) (.int .i64 0)).set (i := 1) (.int .i64 0)
      obtain ⟨u0, u1, uf, ul⟩ := BRn.two
      refine bodyPost_ret (v := .tuple #[.agg #[.int .i64 0, .int .i64 0], .int .i64 0, .bool false]) (by simp [results, Try.results27, go_sem, u0, u1]) rfl ?_
      exact ⟨rfl, ((chain hb hb1).setCell (by show _ ≤ w.heap.size + 1; omega) _).setCell (by show _ ≤ w.heap.size + 1; omega) _⟩
    | true =>
      rw [gs] at hs
      have HS := Lib.hid hs
      rw [rfV_yes g gs]
      have hx := (sdB_iff x).1 gs
      have hss := vB_sides g
      obtain ⟨S, rfl⟩ := Int.eq_ofNat_of_zero_le (by omega : 0 ≤ s)
      have hS : 1 ≤ S ∧ S ≤ 6 := by omega
      clear hs g gs hss
      have hro := fun G W B => roll_any p c h S G x W hx hS B
      unfold RollGot at hro
      obtain ⟨⟨fa, fb⟩, hFR⟩ : ∃ r, frR (S : Int) x = r := ⟨_, rfl⟩
      obtain ⟨Z, hZ⟩ : ∃ z, nxS (nxS x) = z := ⟨_, rfl⟩
      rw [hFR, hZ] at hro
      rw [hFR, hZ]
      dsimp only at hro
      have HRO := Lib.hid hro
      clear hro hFR hZ hx hS
      obtain ⟨BV, BR, hb, hz⟩ := two_new w #[.int .i64 p, .int .i64 c, .int .i64 h, .int .i64 (S : Int)] #[.int .i64 0, .int .i64 0] 25 33
      obtain ⟨x0, x1, x2, x3, xf, xl⟩ := BV.four
      obtain ⟨z0, z1, zf, zl⟩ := BR.two
      go_enter Try.func27, Try.ntmps27
      go_wp2_with (first | (go_at_call 48; refine (HV.out _).mono ?_; clear HV; rintro e w1 ⟨rfl, hb1⟩; obtain ⟨x0, x1, x2, x3, xf, xl⟩ := (BV.below hb1).four; obtain ⟨z0, z1, zf, zl⟩ := (BR.below hb1).two) | (go_at_call 59; refine (HS.out _).mono ?_; clear HS; rintro e w2 ⟨rfl, rfl⟩))
      clear x0 x1 x2 x3 xf xl
      clear z0 z1 zf zl
      have BG := Blk.new w1 #[.int .i64 x] 68
      have hal : Below w1.heap.size w1 (w1.alloc (.cells #[.int .i64 x] 68)) := (Below.refl _ _).alloc (Nat.le_refl _) _
      replace BV := (BV.below hb1).below hal
      replace BR := (BR.below hb1).below hal
      have hz1 := hb1.size
      have hzal : (w1.alloc (.cells #[.int .i64 x] 68)).heap.size = w1.heap.size + 1 := by simp
      replace hb := chain (chain hb hb1) hal
      clear hb1 hal
      refine (HRO.out _ _ BG).mono ?_
      rintro e w2 ⟨rfl, hG, hg⟩
      replace BV := BV.grown hg (by omega)
      replace BR := BR.grown hg (by omega)
      have hz2 := hg.size
      replace hb := hb.grown hg hb.size (fun k hk => by cases hk; omega)
      clear hg BG
      go_wp2_with fail
      have BQ := Blk.new w2 #[.int .i64 fa, .int .i64 fb] 33
      replace BV := BV.alloc (.cells #[.int .i64 fa, .int .i64 fb] 33)
      replace BR := BR.alloc (.cells #[.int .i64 fa, .int .i64 fb] 33)
      replace hG := hG.alloc (.cells #[.int .i64 fa, .int .i64 fb] 33)
      replace hb := chain_alloc hb (.cells #[.int .i64 fa, .int .i64 fb] 33)
      generalize (w2.alloc (.cells #[.int .i64 fa, .int .i64 fb] 33)) = w3 at *
      have hd_ : w3.drew.heap.size = w3.heap.size := rfl
      replace BQ := BQ.drew
      replace hG := hG.drew
      replace BR := BR.drew
      replace hb := hb.drew
      refine wp_region_held_drew (S := fun w' => w'.cell? ⟨w2.heap.size, 0, none⟩ = some (.int .i64 fa) ∧ w'.cell? ⟨w2.heap.size, 1, none⟩ = some (.int .i64 fb) ∧ w'.cell? ⟨w1.heap.size, 0, none⟩ = some (.int .i64 Z)) (by kernel_rfl) ⟨BQ.two.1, BQ.two.2.1, hG.one.1⟩ (fun hHeld => ?_)
      clear hHeld
      generalize w3.drew = vd at *
      have hHeld : vd.cell? ⟨w2.heap.size, 0, none⟩ = some (.int .i64 fa) ∧ vd.cell? ⟨w2.heap.size, 1, none⟩ = some (.int .i64 fb) ∧ vd.cell? ⟨w1.heap.size, 0, none⟩ = some (.int .i64 Z) := ⟨BQ.two.1, BQ.two.2.1, hG.one.1⟩
      refine wpAnyH_take (i := 0) (oi := { dst := some 22, op := _, type := _, pos := _, after := _, guard := _ }) (v := ?_) rfl (by kernel_rfl) (by kernel_rfl) (by kernel_rfl) (fun _ _ _ h => h) (Or.inl ⟨by rfl, ?_⟩) (by assumption) ?_
      rotate_left
      · intro w hSw
        (try dsimp only at hSw)
        go_simp
        (try (with_reducible rfl))
      try simp only [Act.put, List.setIfInBounds_toArray, List.set_cons_zero, List.set_cons_succ]
      refine wpAnyH_take (i := 1) (oi := { dst := some 23, op := _, type := _, pos := _, after := _, guard := _ }) (v := ?_) rfl (by kernel_rfl) (by kernel_rfl) (by kernel_rfl) (fun _ _ _ h => h) (Or.inl ⟨by rfl, ?_⟩) (by assumption) ?_
      rotate_left
      · intro w hSw
        (try dsimp only at hSw)
        go_simp
        (try (with_reducible rfl))
      try simp only [Act.put, List.setIfInBounds_toArray, List.set_cons_zero, List.set_cons_succ]
      refine wpAnyH_take (i := 2) (oi := { dst := some 24, op := _, type := _, pos := _, after := _, guard := _ }) (v := ?_) rfl (by kernel_rfl) (by kernel_rfl) (by kernel_rfl) (fun _ _ _ h => h) (Or.inl ⟨by rfl, ?_⟩) (by assumption) ?_
      rotate_left
      · intro w hSw
        (try dsimp only at hSw)
        go_simp
        (try (with_reducible rfl))
      try simp only [Act.put, List.setIfInBounds_toArray, List.set_cons_zero, List.set_cons_succ]
      refine wpAnyH_ready (rs := [3]) (by kernel_rfl) (by simp) ?_
      refine AllReadyH.cons (o := { dst := none, op := _, type := _, pos := _, after := _, guard := _ }) rfl (fun K hK => ?_) AllReadyH.nil
      obtain ⟨u0, u1, uf, ul⟩ := BR.two
      go_simp
      (try go_wp2_with fail)
      refine hK.out _ _ ⟨((BQ.other (by omega)).other (by omega)).two.1, ((BQ.other (by omega)).other (by omega)).two.2.1, ((hG.other (by omega)).other (by omega)).one.1⟩ (fun hHeld => ?_)
      clear hK K
      try simp only [Act.put, List.setIfInBounds_toArray, List.set_cons_zero, List.set_cons_succ]
      refine wpAnyH_take (i := 4) (oi := { dst := some 5, op := _, type := _, pos := _, after := _, guard := _ }) (v := ?_) rfl (by kernel_rfl) (by kernel_rfl) (by kernel_rfl) (fun _ _ _ h => h) (Or.inl ⟨by rfl, ?_⟩) (by assumption) ?_
      rotate_left
      · intro w hSw
        (try dsimp only at hSw)
        go_simp
        (try (with_reducible rfl))
      try simp only [Act.put, List.setIfInBounds_toArray, List.set_cons_zero, List.set_cons_succ]
      refine wpAnyH_take (i := 5) (oi := { dst := some 6, op := _, type := _, pos := _, after := _, guard := _ }) (v := ?_) rfl (by kernel_rfl) (by kernel_rfl) (by kernel_rfl) (fun _ _ _ h => h) (Or.inl ⟨by rfl, ?_⟩) (by assumption) ?_
      rotate_left
      · intro w hSw
        (try dsimp only at hSw)
        go_simp
        (try (with_reducible rfl))
      try simp only [Act.put, List.setIfInBounds_toArray, List.set_cons_zero, List.set_cons_succ]
      refine wpAnyH_done (by kernel_rfl) ?_ _
      clear hHeld
      have BRn := (BR.set (i := 0) (.int .i64 fa)).set (i := 1) (.int .i64 fb)
      obtain ⟨u0, u1, uf, ul⟩ := BRn.two
      go_wp2_with fail
      refine bodyPost_ret (v := .tuple #[.agg #[.int .i64 fa, .int .i64 fb], .int .i64 Z, .bool true]) (by simp [results, Try.results27, go_sem, u0, u1]) rfl ?_
      exact ⟨rfl, (hb.setCell (by show _ ≤ w.heap.size + 1; omega) _).setCell (by show _ ≤ w.heap.size + 1; omega) _⟩
set_option maxRecDepth 8000 in
set_option maxHeartbeats 2000000 in
theorem specRollFrom_any (p c h s x : Int) (w : World) :
    Calls Try.prog 42 #[.agg #[.int .i64 p, .int .i64 c, .int .i64 h, .int .i64 s], .int .i64 x] w fun e w' => e = .returned (rfE (rfV p c h s x)) ∧ Below w.heap.size w w' := by
  have hv := fun W => specIsVariant_any p c h s W
  have hs := fun W => l07Seed_any x W
  cases g : vB p c h s with
  | false =>
    rw [g] at hv
    rw [rfV_no (by rw [g]; rfl)]
    have HV := Lib.hid hv
    clear hv hs g
    obtain ⟨BV, BR, hb, hz⟩ := two_new w #[.int .i64 p, .int .i64 c, .int .i64 h, .int .i64 s] #[.int .i64 0, .int .i64 0] 25 33
    obtain ⟨x0, x1, x2, x3, xf, xl⟩ := BV.four
    obtain ⟨z0, z1, zf, zl⟩ := BR.two
    go_enter Try.func42, Try.ntmps42
    go_wp2_with (first | (go_at_call 18; refine (HV.out _).mono ?_; clear HV; rintro e w1 ⟨rfl, hb1⟩; obtain ⟨x0, x1, x2, x3, xf, xl⟩ := (BV.below hb1).four; obtain ⟨z0, z1, zf, zl⟩ := (BR.below hb1).two))
    have BRn := ((BR.below hb1).set (i := 0) (.int .i64 0)).set (i := 1) (.int .i64 0)
    obtain ⟨u0, u1, uf, ul⟩ := BRn.two
    refine bodyPost_ret (v := .tuple #[.agg #[.int .i64 0, .int .i64 0], .int .i64 0, .bool false]) (by simp [results, Try.results42, go_sem, u0, u1]) rfl ?_
    exact ⟨rfl, ((chain hb hb1).setCell (by show _ ≤ w.heap.size + 1; omega) _).setCell (by show _ ≤ w.heap.size + 1; omega) _⟩
  | true =>
    rw [g] at hv
    have HV := Lib.hid hv
    clear hv
    cases gs : sdB x with
    | false =>
      rw [gs] at hs
      rw [rfV_no (by rw [gs, Bool.and_false])]
      have HS := Lib.hid hs
      clear hs g gs
      obtain ⟨BV, BR, hb, hz⟩ := two_new w #[.int .i64 p, .int .i64 c, .int .i64 h, .int .i64 s] #[.int .i64 0, .int .i64 0] 25 33
      obtain ⟨x0, x1, x2, x3, xf, xl⟩ := BV.four
      obtain ⟨z0, z1, zf, zl⟩ := BR.two
      go_enter Try.func42, Try.ntmps42
      go_wp2_with (first | (go_at_call 18; refine (HV.out _).mono ?_; clear HV; rintro e w1 ⟨rfl, hb1⟩; obtain ⟨x0, x1, x2, x3, xf, xl⟩ := (BV.below hb1).four; obtain ⟨z0, z1, zf, zl⟩ := (BR.below hb1).two) | (go_at_call 65; refine (HS.out _).mono ?_; clear HS; rintro e w2 ⟨rfl, rfl⟩))
      have BRn := ((BR.below hb1).set (i := 0) (.int .i64 0)).set (i := 1) (.int .i64 0)
      obtain ⟨u0, u1, uf, ul⟩ := BRn.two
      refine bodyPost_ret (v := .tuple #[.agg #[.int .i64 0, .int .i64 0], .int .i64 0, .bool false]) (by simp [results, Try.results42, go_sem, u0, u1]) rfl ?_
      exact ⟨rfl, ((chain hb hb1).setCell (by show _ ≤ w.heap.size + 1; omega) _).setCell (by show _ ≤ w.heap.size + 1; omega) _⟩
    | true =>
      rw [gs] at hs
      have HS := Lib.hid hs
      rw [rfV_yes g gs]
      have hx := (sdB_iff x).1 gs
      have hss := vB_sides g
      obtain ⟨S, rfl⟩ := Int.eq_ofNat_of_zero_le (by omega : 0 ≤ s)
      have hS : 1 ≤ S ∧ S ≤ 6 := by omega
      clear hs g gs hss
      have hro := fun W => l07From_any p c h S x W hx hS
      obtain ⟨⟨fa, fb⟩, hFR⟩ : ∃ r, frR (S : Int) x = r := ⟨_, rfl⟩
      obtain ⟨Z, hZ⟩ : ∃ z, nxS (nxS x) = z := ⟨_, rfl⟩
      rw [hFR, hZ] at hro
      rw [hFR, hZ]
      dsimp only at hro
      have HRO := Lib.hid hro
      clear hro hFR hZ hx hS
      obtain ⟨BV, BR, hb, hz⟩ := two_new w #[.int .i64 p, .int .i64 c, .int .i64 h, .int .i64 (S : Int)] #[.int .i64 0, .int .i64 0] 25 33
      obtain ⟨x0, x1, x2, x3, xf, xl⟩ := BV.four
      obtain ⟨z0, z1, zf, zl⟩ := BR.two
      go_enter Try.func42, Try.ntmps42
      go_wp2_with (first | (go_at_call 18; refine (HV.out _).mono ?_; clear HV; rintro e w1 ⟨rfl, hb1⟩; obtain ⟨x0, x1, x2, x3, xf, xl⟩ := (BV.below hb1).four; obtain ⟨z0, z1, zf, zl⟩ := (BR.below hb1).two) | (go_at_call 65; refine (HS.out _).mono ?_; clear HS; rintro e w2 ⟨rfl, rfl⟩) | (go_at_call 58; refine (HRO.out _).mono ?_; clear HRO; rintro e w3 ⟨rfl, hb3⟩; replace BR := (BR.below hb1).below hb3; have hal : Below w3.heap.size w3 (w3.alloc (.cells #[.int .i64 fa, .int .i64 fb] 33)) := (Below.refl _ _).alloc (Nat.le_refl _) _; have BQ := Blk.new w3 #[.int .i64 fa, .int .i64 fb] 33; replace BR := BR.below hal; obtain ⟨t0, t1, tf, tl⟩ := BQ.two; obtain ⟨z0, z1, zf, zl⟩ := BR.two; replace hb := chain (chain (chain hb hb1) hb3) hal))
      have BRn := (BR.set (i := 0) (.int .i64 fa)).set (i := 1) (.int .i64 fb)
      obtain ⟨u0, u1, uf, ul⟩ := BRn.two
      refine bodyPost_ret (v := .tuple #[.agg #[.int .i64 fa, .int .i64 fb], .int .i64 Z, .bool true]) (by simp [results, Try.results42, go_sem, u0, u1]) rfl ?_
      exact ⟨rfl, (hb.setCell (by show _ ≤ w.heap.size + 1; omega) _).setCell (by show _ ≤ w.heap.size + 1; omega) _⟩
end Go.Proofs.Ytcmfknkdfkchmaa
