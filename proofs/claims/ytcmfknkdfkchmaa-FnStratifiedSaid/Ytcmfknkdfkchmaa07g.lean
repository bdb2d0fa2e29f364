/- Contracts of the program's pairs of faces and of a shuffled group of them. -/
import Derived.Test.Ytcmfknkdfkchmaa07f
import Derived.StillTailTactics
namespace Go.Proofs.Ytcmfknkdfkchmaa
open Go.ChangeShapes Go.WideShapes Go.ChangeAt Go.RowKit
set_option linter.unusedVariables false
set_option linter.unusedSimpArgs false

theorem shuf_down {α : Type} (i : Nat) (l : List α) (y : Int) (h : 1 ≤ i) : shuf i l y = shuf (i - 1) (swp l i (nxS y % ((i : Int) + 1)).toNat) (nxS y) := by
  obtain ⟨j, rfl⟩ : ∃ j, i = j + 1 := ⟨i - 1, by omega⟩
  rw [shuf]
  simp
set_option maxRecDepth 8000 in
set_option maxHeartbeats 1000000 in
theorem pairs_any (p c h : Int) (S : Nat) (w : World) (hS : S ≤ 6) :
    Calls Try.prog 75 #[.agg #[.int .i64 p, .int .i64 c, .int .i64 h, .int .i64 (S : Int)]] w (RollsGot (prs S) w) := by
  have BV := Blk.new w #[.int .i64 p, .int .i64 c, .int .i64 h, .int .i64 (S : Int)] 25
  have hb : Below w.heap.size w (w.alloc (.cells #[.int .i64 p, .int .i64 c, .int .i64 h, .int .i64 (S : Int)] 25)) := (Below.refl _ _).alloc (Nat.le_refl _) _
  have hz0 : (w.alloc (.cells #[.int .i64 p, .int .i64 c, .int .i64 h, .int .i64 (S : Int)] 25)).heap.size = w.heap.size + 1 := by simp
  go_enter Try.func75, Try.ntmps75
  go_wp2_with fail
  generalize (w.alloc (.cells #[.int .i64 p, .int .i64 c, .int .i64 h, .int .i64 (S : Int)] 25)) = v0 at *
  have HZ0 := Lib.hid hz0
  have hz0a : w.heap.size + 1 ≤ v0.heap.size := by omega
  clear hz0
  go_loopg [3, 4, 5] S (fun m q3 q4 q5 wr => ∃ a : Nat, a ≤ S ∧ m = S - a ∧ q4 = .int .i64 ((a : Int) + 1) ∧ OwnR wr v0.heap.size q3 (prsTo S a) ∧ Below v0.heap.size v0 wr)
  case atStart => exact ⟨0, by omega, by omega, rfl, OwnR.nil v0 _, Below.refl _ _⟩
  case round =>
    obtain ⟨a, ha, hm, rfl, hO, hbel⟩ := hrel
    obtain ⟨x0, x1, x2, x3, xf, xl⟩ := (BV.below hbel).four
    by_cases hlt : a < S
    · have hlt' : (a : Int) + 1 ≤ (S : Int) := by omega
      have ha6 : (a : Int) ≤ 6 := by omega
      go_wp2_with fail
      clear x0 x1 x2 x3 xf xl
      rw [← prsRow_zero] at hO
      go_loopg [3, 5] S (fun m q3 q5 wr => ∃ j : Nat, j ≤ S ∧ m = S - j ∧ q5 = .int .i64 ((j : Int) + 1) ∧ OwnR wr v0.heap.size q3 (prsRow S a j) ∧ Below v0.heap.size v0 wr)
      case atStart => exact ⟨0, by omega, by omega, rfl, hO, hbel⟩
      case round =>
        clear hO hbel
        obtain ⟨j, hj, hm2, rfl, hO, hbel⟩ := hrel
        obtain ⟨x0, x1, x2, x3, xf, xl⟩ := (BV.below hbel).four
        have hle := prsRow_length S a j
        have hle2 : a * S ≤ 6 * 6 := Nat.mul_le_mul (by omega) (by omega)
        by_cases hlj : j < S
        · have hlj' : (j : Int) + 1 ≤ (S : Int) := by omega
          have hj6 : (j : Int) ≤ 6 := by omega
          have hrs := prsRow_succ S a j
          have hLl : (prsRow S a j).length ≤ 1048576 := by omega
          obtain ⟨LL, hLL⟩ : ∃ z, prsRow S a j = z := ⟨_, rfl⟩
          have hro := fun W => rollOfFaces_any ((a : Int) + 1) ((j : Int) + 1) W
          obtain ⟨⟨fa, fb⟩, hF⟩ : ∃ r, prR ((a : Int) + 1) ((j : Int) + 1) = r := ⟨_, rfl⟩
          rw [hF] at hro hrs
          dsimp only at hro
          rw [hLL] at hO hrs hLl
          have HRS := Lib.hid hrs
          have HRO := Lib.hid hro
          clear hrs hLL hle hle2 hro hF
          go_wp2_with (first | (go_at_call 71; refine (HRO.out _).mono ?_; clear HRO; rintro e w5 ⟨rfl, hb5⟩; replace hO := hO.kept hb5; have hbe2 := hbel.trans (hb5.mono hbel.size); have hsz := hbe2.size) | (at_builtin; go_loud (refine wp_pushR rfl _ _ rfl v0.heap.size _ LL rfl hO (fa, fb) rfl (by first | rfl | simp) hLl hsz ?_; intro v2 w6 hO2 hb6)))
          go_roundg (S - (j + 1))
          case measure => omega
          case rel => exact ⟨j + 1, by omega, rfl, by go_num, by rw [HRS.out]; exact hO2, hbe2.trans hb6⟩
        · obtain rfl : j = S := by omega
          rw [prsRow_full] at hO
          clear hle hle2
          go_wp2
          go_roundg (j - (a + 1))
          case measure => omega
          case rel => exact ⟨a + 1, by omega, rfl, by go_num, hO, hbel⟩
    · obtain rfl : a = S := by omega
      have hlt' : (a : Int) < (a : Int) + 1 := by omega
      obtain ⟨LL, hLL⟩ : ∃ z, prsTo a a = z := ⟨_, rfl⟩
      rw [hLL] at hO
      have HLL := Lib.hid hLL
      clear hLL
      obtain ⟨aR, kR, rfl⟩ := hO.form
      go_wp2
      go_ret
      exact ⟨aR, kR, by unfold prs; rw [HLL.out]; rfl, by unfold prs; rw [HLL.out]; exact hO.orl.mono hb.size (Nat.le_refl _), hb.trans (hbel.mono hb.size)⟩
/-- A group has been made by the generator in block g. -/
def GrpGot (S : Nat) (x : Int) (g : Nat) (w : World) (e : Ending) (w' : World) : Prop :=
  ∃ a k, e = .returned (.slice a (grpL S x).length k) ∧ ORl w.heap.size w'.heap.size w' a (grpL S x) ∧ Blk w' g #[.int .i64 (grpS S x)] 68 ∧ w.grownBy w' (some g)
set_option maxRecDepth 8000 in
set_option maxHeartbeats 2000000 in
theorem group_any (p c h : Int) (S : Nat) (g : Nat) (x : Int) (w : World) (hx : 1 ≤ x ∧ x ≤ 2147483646) (hS : 1 ≤ S ∧ S ≤ 6) (hG : Blk w g #[.int .i64 x] 68) :
    Calls Try.prog 61 #[.agg #[.int .i64 p, .int .i64 c, .int .i64 h, .int .i64 (S : Int)], .pointer (some ⟨g, 0, none⟩)] w (GrpGot S x g w) := by
  have hgl := hG.lt
  obtain ⟨hS1, hS6⟩ := hS
  have hM : (prs S).length = S * S := prsTo_length S S
  have hM1 : 1 ≤ S * S := Nat.mul_pos hS1 hS1
  have hM36 : S * S ≤ 6 * 6 := Nat.mul_le_mul hS6 hS6
  unfold GrpGot grpL grpS
  have hpa := fun W => pairs_any p c h S W hS6
  have hlS := shuf_length (S * S - 1) (prs S) x
  obtain ⟨M, hMe⟩ : ∃ M, S * S = M := ⟨_, rfl⟩
  rw [hMe] at hM hM1 hM36 hlS ⊢
  rw [hM] at hlS
  obtain ⟨P, hP⟩ : ∃ P, prs S = P := ⟨_, rfl⟩
  rw [hP] at hpa hM hlS ⊢
  obtain ⟨⟨FL, FS⟩, hF⟩ : ∃ F, shuf (M - 1) P x = F := ⟨_, rfl⟩
  rw [hF] at hlS ⊢
  dsimp only at hlS ⊢
  rw [hlS]
  have HPA := Lib.hid hpa
  have HF := Lib.hid hF
  clear hpa hMe hP hF
  have BV := Blk.new w #[.int .i64 p, .int .i64 c, .int .i64 h, .int .i64 (S : Int)] 25
  have hb : Below w.heap.size w (w.alloc (.cells #[.int .i64 p, .int .i64 c, .int .i64 h, .int .i64 (S : Int)] 25)) := (Below.refl _ _).alloc (Nat.le_refl _) _
  replace hG := hG.below hb
  obtain ⟨x0, x1, x2, x3, xf, xl⟩ := BV.four
  go_enter Try.func61, Try.ntmps61
  go_wp2_with fail
  clear x0 x1 x2 x3 xf xl
  generalize (w.alloc (.cells #[.int .i64 p, .int .i64 c, .int .i64 h, .int .i64 (S : Int)] 25)) = v0 at *
  have hv0 := hb.size
  have hwv := BV.lt
  refine (HPA.out _).mono ?_
  rintro e w1 ⟨aR, kR, rfl, hO, hb1⟩
  replace BV := BV.below hb1
  replace hG := hG.below hb1
  have hgr := grown_of_below (chain hb hb1) (some g)
  have hVl := BV.lt
  rcases hO with ⟨-, hnil⟩ | ⟨gR, rfl, hgR1, hgR2, RR⟩
  · rw [hnil] at hM
    simp at hM
    omega
  clear hb1 hb
  have hgg : g ≠ gR := by omega
  rw [hM]
  go_wp2_with fail
  go_loopg [6, 7] (M - 1) (fun m q6 q7 wr => ∃ (i : Nat) (l : List Rl) (y : Int), i = m ∧ i ≤ M - 1 ∧ q6 = .int .i64 (i : Int) ∧ l.length = M ∧ shuf i l y = (FL, FS) ∧ (1 ≤ y ∧ y ≤ 2147483646) ∧ RRow wr gR l ∧ Blk wr g #[.int .i64 y] 68 ∧ Blk wr w.heap.size #[.int .i64 p, .int .i64 c, .int .i64 h, .int .i64 (S : Int)] 25 ∧ w.grownBy wr (some g))
  case atStart => exact ⟨M - 1, P, x, rfl, Nat.le_refl _, by go_num, hM, HF.out, hx, RR, hG, BV, hgr⟩
  case round =>
    clear RR hG BV hgr
    obtain ⟨i, l, y, hm, hi, rfl, hll, hsh, hy, RR, BG, BV, hgr⟩ := hrel
    subst hm
    by_cases hi1 : 1 ≤ i
    · have hi1' : (1 : Int) ≤ (i : Int) := by omega
      have hi0 : (0 : Int) ≤ (i : Int) := by omega
      have hiM : (i : Int) < (M : Int) := by omega
      have hi36 : (i : Int) ≤ 36 := by omega
      rw [shuf_down i l y hi1] at hsh
      have hY := nxS_seed hy
      have hnx := fun W B => gnext_any g y W hy B
      obtain ⟨Y, hYe⟩ : ∃ Y, nxS y = Y := ⟨_, rfl⟩
      rw [hYe] at hY hsh hnx
      obtain ⟨k, hk⟩ := Int.eq_ofNat_of_zero_le (Int.emod_nonneg Y (show ((i : Int) + 1) ≠ 0 by omega))
      have hki : (k : Int) < (i : Int) + 1 := by rw [← hk]; exact Int.emod_lt_of_pos Y (by omega)
      have hki2 : k < M := by omega
      have hkM : (k : Int) < (M : Int) := by omega
      have hk0 : (0 : Int) ≤ (k : Int) := by omega
      have hiMn : i < M := by omega
      have hne : ¬ ((i : Int) + 1 = 0) := by omega
      rw [hk, Int.toNat_natCast] at hsh
      obtain ⟨⟨xa, xb⟩, hxi⟩ : ∃ r, l[i]? = some r := ⟨_, List.getElem?_eq_getElem (by omega)⟩
      obtain ⟨⟨ya, yb⟩, hxk⟩ : ∃ r, l[k]? = some r := ⟨_, List.getElem?_eq_getElem (by omega)⟩
      rw [swp_some hxi hxk] at hsh
      have hat1 : (l.set i (ya, yb))[k]? = some (ya, yb) := by
        by_cases e : i = k
        · subst e
          rw [List.getElem?_set_self (by omega)]
        · rw [List.getElem?_set_ne e]
          exact hxk
      have HSH := Lib.hid hsh
      have HNX := Lib.hid hnx
      clear hsh hnx hYe
      go_wp2_with fail
      refine (HNX.out _ BG).mono ?_
      rintro e w3 ⟨rfl, BG2, hg⟩
      replace RR := VRow.grown RR hg (by omega)
      replace BV := BV.grown hg (by omega)
      replace hgr := grown_trans hgr hg
      clear BG hg HNX
      have BG := BG2
      clear BG2
      go_wp2_with fail
      have hd3 : w3.drew.heap.size = w3.heap.size := rfl
      replace RR : RRow w3.drew gR l := RR
      replace BG := BG.drew
      replace BV := BV.drew
      replace hgr := grown_drew hgr
      obtain ⟨c0, c1⟩ := RRow.two RR i _ hxi
      obtain ⟨e0, e1⟩ := RRow.two RR k _ hxk
      dsimp only at c0 c1 e0 e1
      have f0 := fun j => VRow.free RR j
      have hRl := RR.lt
      have hwR : w.heap.size ≤ gR := by omega
      clear hxi hxk hy
      refine wp_region_held_drew (S := fun _ => True) (by kernel_rfl) trivial (fun hHeld => ?_)
      clear hHeld
      generalize w3.drew = vd at *
      have hHeld : True := trivial
      refine wpAnyH_take (i := 0) (oi := { dst := some 22, op := _, type := _, pos := _, after := _, guard := _ }) (v := ?_) rfl (by kernel_rfl) (by kernel_rfl) (by kernel_rfl) (fun _ _ _ h => h) (Or.inl ⟨by rfl, ?_⟩) (by assumption) ?_
      rotate_left
      · intro w hSw
        (try dsimp only at hSw)
        go_simp
        (try (with_reducible rfl))
      try simp only [Act.put, List.setIfInBounds_toArray, List.set_cons_zero, List.set_cons_succ]
      refine wpAnyH_take (i := 1) (oi := { dst := some 23, op := _, type := _, pos := _, after := _, guard := _ }) (v := ?_) rfl (by kernel_rfl) (by kernel_rfl) (by kernel_rfl) (fun _ _ _ h => h) (Or.inl ⟨by rfl, ?_⟩) (by assumption) ?_
      rotate_left
      · intro w hSw
        (try dsimp only at hSw)
        go_simp
        (try (with_reducible rfl))
      try simp only [Act.put, List.setIfInBounds_toArray, List.set_cons_zero, List.set_cons_succ]
      refine wpAnyH_take (i := 2) (oi := { dst := some 24, op := _, type := _, pos := _, after := _, guard := _ }) (v := ?_) rfl (by kernel_rfl) (by kernel_rfl) (by kernel_rfl) (fun _ _ _ h => h) (Or.inl ⟨by rfl, ?_⟩) (by assumption) ?_
      rotate_left
      · intro w hSw
        (try dsimp only at hSw)
        go_simp
        (try (with_reducible rfl))
      try simp only [Act.put, List.setIfInBounds_toArray, List.set_cons_zero, List.set_cons_succ]
      refine wpAnyH_take (i := 3) (oi := { dst := some 25, op := _, type := _, pos := _, after := _, guard := _ }) (v := ?_) rfl (by kernel_rfl) (by kernel_rfl) (by kernel_rfl) (fun _ _ _ h => h) (Or.inl ⟨by rfl, ?_⟩) (by assumption) ?_
      rotate_left
      · intro w hSw
        (try dsimp only at hSw)
        go_simp
        (try (with_reducible rfl))
      try simp only [Act.put, List.setIfInBounds_toArray, List.set_cons_zero, List.set_cons_succ]
      refine wpAnyH_take (i := 4) (oi := { dst := some 26, op := _, type := _, pos := _, after := _, guard := _ }) (v := ?_) rfl (by kernel_rfl) (by kernel_rfl) (by kernel_rfl) (fun _ _ _ h => h) (Or.inl ⟨by rfl, ?_⟩) (by assumption) ?_
      rotate_left
      · intro w hSw
        (try dsimp only at hSw)
        go_simp
        (try (with_reducible rfl))
      try simp only [Act.put, List.setIfInBounds_toArray, List.set_cons_zero, List.set_cons_succ]
      refine wpAnyH_take (i := 5) (oi := { dst := some 27, op := _, type := _, pos := _, after := _, guard := _ }) (v := ?_) rfl (by kernel_rfl) (by kernel_rfl) (by kernel_rfl) (fun _ _ _ h => h) (Or.inl ⟨by rfl, ?_⟩) (by assumption) ?_
      rotate_left
      · intro w hSw
        (try dsimp only at hSw)
        go_simp
        (try (with_reducible rfl))
      try simp only [Act.put, List.setIfInBounds_toArray, List.set_cons_zero, List.set_cons_succ]
      refine wpAnyH_take (i := 6) (oi := { dst := some 28, op := _, type := _, pos := _, after := _, guard := _ }) (v := ?_) rfl (by kernel_rfl) (by kernel_rfl) (by kernel_rfl) (fun _ _ _ h => h) (Or.inl ⟨by rfl, ?_⟩) (by assumption) ?_
      rotate_left
      · intro w hSw
        (try dsimp only at hSw)
        go_simp
        (try (with_reducible rfl))
      try simp only [Act.put, List.setIfInBounds_toArray, List.set_cons_zero, List.set_cons_succ]
      refine wpAnyH_take (i := 8) (oi := { dst := some 30, op := _, type := _, pos := _, after := _, guard := _ }) (v := ?_) rfl (by kernel_rfl) (by kernel_rfl) (by kernel_rfl) (fun _ _ _ h => h) (Or.inl ⟨by rfl, ?_⟩) (by assumption) ?_
      rotate_left
      · intro w hSw
        (try dsimp only at hSw)
        go_simp
        (try (with_reducible rfl))
      try simp only [Act.put, List.setIfInBounds_toArray, List.set_cons_zero, List.set_cons_succ]
      refine wpAnyH_take (i := 9) (oi := { dst := some 31, op := _, type := _, pos := _, after := _, guard := _ }) (v := ?_) rfl (by kernel_rfl) (by kernel_rfl) (by kernel_rfl) (fun _ _ _ h => h) (Or.inl ⟨by rfl, ?_⟩) (by assumption) ?_
      rotate_left
      · intro w hSw
        (try dsimp only at hSw)
        go_simp
        (try (with_reducible rfl))
      try simp only [Act.put, List.setIfInBounds_toArray, List.set_cons_zero, List.set_cons_succ]
      refine wpAnyH_take (i := 10) (oi := { dst := some 32, op := _, type := _, pos := _, after := _, guard := _ }) (v := ?_) rfl (by kernel_rfl) (by kernel_rfl) (by kernel_rfl) (fun _ _ _ h => h) (Or.inl ⟨by rfl, ?_⟩) (by assumption) ?_
      rotate_left
      · intro w hSw
        (try dsimp only at hSw)
        go_simp
        (try (with_reducible rfl))
      try simp only [Act.put, List.setIfInBounds_toArray, List.set_cons_zero, List.set_cons_succ]
      refine wpAnyH_ready (rs := [7, 11]) (by kernel_rfl) (by simp) ?_
      refine AllReadyH.cons (o := { dst := some 29, op := _, type := _, pos := _, after := _, guard := _ }) rfl (fun K hK => ?_) (AllReadyH.cons (o := { dst := some 33, op := _, type := _, pos := _, after := _, guard := _ }) rfl (fun K hK => ?_) AllReadyH.nil)
      · go_simp
        (try go_wp2_with fail)
        refine hK.out _ _ trivial (fun hHeld => ?_)
        clear hK K
        try simp only [Act.put, List.setIfInBounds_toArray, List.set_cons_zero, List.set_cons_succ]
        refine wpAnyH_ready (rs := [11]) (by kernel_rfl) (by simp) ?_
        refine AllReadyH.cons (o := { dst := some 33, op := _, type := _, pos := _, after := _, guard := _ }) rfl (fun K hK => ?_) AllReadyH.nil
        go_simp
        (try go_wp2_with fail)
        refine hK.out _ _ trivial (fun hHeld => ?_)
        clear hK K
        try simp only [Act.put, List.setIfInBounds_toArray, List.set_cons_zero, List.set_cons_succ]
        refine wpAnyH_take (i := 12) (oi := { dst := some 34, op := _, type := _, pos := _, after := _, guard := _ }) (v := ?_) rfl (by kernel_rfl) (by kernel_rfl) (by kernel_rfl) (fun _ _ _ h => h) (Or.inl ⟨by rfl, ?_⟩) (by assumption) ?_
        rotate_left
        · intro w hSw
          (try dsimp only at hSw)
          go_simp
          (try (with_reducible rfl))
        try simp only [Act.put, List.setIfInBounds_toArray, List.set_cons_zero, List.set_cons_succ]
        refine wpAnyH_ready (rs := [13]) (by kernel_rfl) (by simp) ?_
        refine AllReadyH.cons (o := { dst := none, op := _, type := _, pos := _, after := _, guard := _ }) rfl (fun K hK => ?_) AllReadyH.nil
        go_simp
        (try go_wp2_with fail)
        refine hK.out _ _ trivial (fun hHeld => ?_)
        clear hK K
        try simp only [Act.put, List.setIfInBounds_toArray, List.set_cons_zero, List.set_cons_succ]
        have R1 := RRow.put RR i ya yb (by omega)
        obtain ⟨d0, d1⟩ := RRow.two R1 k (ya, yb) hat1
        dsimp only at d0 d1
        have f1 := fun j => VRow.free R1 j
        have hVd := R1.lt
        refine wpAnyH_take (i := 14) (oi := { dst := some 35, op := _, type := _, pos := _, after := _, guard := _ }) (v := ?_) rfl (by kernel_rfl) (by kernel_rfl) (by kernel_rfl) (fun _ _ _ h => h) (Or.inl ⟨by rfl, ?_⟩) (by assumption) ?_
        rotate_left
        · intro w hSw
          (try dsimp only at hSw)
          go_simp
          (try (with_reducible rfl))
        try simp only [Act.put, List.setIfInBounds_toArray, List.set_cons_zero, List.set_cons_succ]
        refine wpAnyH_ready (rs := [15]) (by kernel_rfl) (by simp) ?_
        refine AllReadyH.cons (o := { dst := none, op := _, type := _, pos := _, after := _, guard := _ }) rfl (fun K hK => ?_) AllReadyH.nil
        go_simp
        (try go_wp2_with fail)
        refine hK.out _ _ trivial (fun hHeld => ?_)
        clear hK K
        try simp only [Act.put, List.setIfInBounds_toArray, List.set_cons_zero, List.set_cons_succ]
        have R2 := RRow.put R1 k xa xb (by rw [List.length_set]; omega)
        clear d0 d1 f1 R1 c0 c1 e0 e1 f0 RR
        refine wpAnyH_done (by kernel_rfl) ?_ _
        have BGn := Lib.hid ((((BG.other (g := gR) (o := i * 2) (v := .int .i64 ya) (by omega)).other (g := gR) (o := i * 2 + 1) (v := .int .i64 yb) (by omega)).other (g := gR) (o := k * 2) (v := .int .i64 xa) (by omega)).other (g := gR) (o := k * 2 + 1) (v := .int .i64 xb) (by omega))
        have BVn := Lib.hid ((((BV.other (g := gR) (o := i * 2) (v := .int .i64 ya) (by omega)).other (g := gR) (o := i * 2 + 1) (v := .int .i64 yb) (by omega)).other (g := gR) (o := k * 2) (v := .int .i64 xa) (by omega)).other (g := gR) (o := k * 2 + 1) (v := .int .i64 xb) (by omega))
        have hgn := Lib.hid (grown_newR (o := k * 2 + 1) (v := .int .i64 xb) (grown_newR (o := k * 2) (v := .int .i64 xa) (grown_newR (o := i * 2 + 1) (v := .int .i64 yb) (grown_newR (o := i * 2) (v := .int .i64 ya) hgr hwR) hwR) hwR) hwR)
        have R2n := Lib.hid R2
        clear BG BV hgr R2
        go_wp2
        go_roundg (i - 1)
        case measure => omega
        case rel => exact ⟨i - 1, _, Y, rfl, by omega, by go_num, by rw [List.length_set, List.length_set]; exact hll, HSH.out, hY, R2n.out, BGn.out, BVn.out, hgn.out⟩
      · go_simp
        (try go_wp2_with fail)
        refine hK.out _ _ trivial (fun hHeld => ?_)
        clear hK K
        try simp only [Act.put, List.setIfInBounds_toArray, List.set_cons_zero, List.set_cons_succ]
        refine wpAnyH_ready (rs := [7]) (by kernel_rfl) (by simp) ?_
        refine AllReadyH.cons (o := { dst := some 29, op := _, type := _, pos := _, after := _, guard := _ }) rfl (fun K hK => ?_) AllReadyH.nil
        go_simp
        (try go_wp2_with fail)
        refine hK.out _ _ trivial (fun hHeld => ?_)
        clear hK K
        try simp only [Act.put, List.setIfInBounds_toArray, List.set_cons_zero, List.set_cons_succ]
        refine wpAnyH_take (i := 12) (oi := { dst := some 34, op := _, type := _, pos := _, after := _, guard := _ }) (v := ?_) rfl (by kernel_rfl) (by kernel_rfl) (by kernel_rfl) (fun _ _ _ h => h) (Or.inl ⟨by rfl, ?_⟩) (by assumption) ?_
        rotate_left
        · intro w hSw
          (try dsimp only at hSw)
          go_simp
          (try (with_reducible rfl))
        try simp only [Act.put, List.setIfInBounds_toArray, List.set_cons_zero, List.set_cons_succ]
        refine wpAnyH_ready (rs := [13]) (by kernel_rfl) (by simp) ?_
        refine AllReadyH.cons (o := { dst := none, op := _, type := _, pos := _, after := _, guard := _ }) rfl (fun K hK => ?_) AllReadyH.nil
        go_simp
        (try go_wp2_with fail)
        refine hK.out _ _ trivial (fun hHeld => ?_)
        clear hK K
        try simp only [Act.put, List.setIfInBounds_toArray, List.set_cons_zero, List.set_cons_succ]
        have R1 := RRow.put RR i ya yb (by omega)
        obtain ⟨d0, d1⟩ := RRow.two R1 k (ya, yb) hat1
        dsimp only at d0 d1
        have f1 := fun j => VRow.free R1 j
        have hVd := R1.lt
        refine wpAnyH_take (i := 14) (oi := { dst := some 35, op := _, type := _, pos := _, after := _, guard := _ }) (v := ?_) rfl (by kernel_rfl) (by kernel_rfl) (by kernel_rfl) (fun _ _ _ h => h) (Or.inl ⟨by rfl, ?_⟩) (by assumption) ?_
        rotate_left
        · intro w hSw
          (try dsimp only at hSw)
          go_simp
          (try (with_reducible rfl))
        try simp only [Act.put, List.setIfInBounds_toArray, List.set_cons_zero, List.set_cons_succ]
        refine wpAnyH_ready (rs := [15]) (by kernel_rfl) (by simp) ?_
        refine AllReadyH.cons (o := { dst := none, op := _, type := _, pos := _, after := _, guard := _ }) rfl (fun K hK => ?_) AllReadyH.nil
        go_simp
        (try go_wp2_with fail)
        refine hK.out _ _ trivial (fun hHeld => ?_)
        clear hK K
        try simp only [Act.put, List.setIfInBounds_toArray, List.set_cons_zero, List.set_cons_succ]
        have R2 := RRow.put R1 k xa xb (by rw [List.length_set]; omega)
        clear d0 d1 f1 R1 c0 c1 e0 e1 f0 RR
        refine wpAnyH_done (by kernel_rfl) ?_ _
        have BGn := Lib.hid ((((BG.other (g := gR) (o := i * 2) (v := .int .i64 ya) (by omega)).other (g := gR) (o := i * 2 + 1) (v := .int .i64 yb) (by omega)).other (g := gR) (o := k * 2) (v := .int .i64 xa) (by omega)).other (g := gR) (o := k * 2 + 1) (v := .int .i64 xb) (by omega))
        have BVn := Lib.hid ((((BV.other (g := gR) (o := i * 2) (v := .int .i64 ya) (by omega)).other (g := gR) (o := i * 2 + 1) (v := .int .i64 yb) (by omega)).other (g := gR) (o := k * 2) (v := .int .i64 xa) (by omega)).other (g := gR) (o := k * 2 + 1) (v := .int .i64 xb) (by omega))
        have hgn := Lib.hid (grown_newR (o := k * 2 + 1) (v := .int .i64 xb) (grown_newR (o := k * 2) (v := .int .i64 xa) (grown_newR (o := i * 2 + 1) (v := .int .i64 yb) (grown_newR (o := i * 2) (v := .int .i64 ya) hgr hwR) hwR) hwR) hwR)
        have R2n := Lib.hid R2
        clear BG BV hgr R2
        go_wp2
        go_roundg (i - 1)
        case measure => omega
        case rel => exact ⟨i - 1, _, Y, rfl, by omega, by go_num, by rw [List.length_set, List.length_set]; exact hll, HSH.out, hY, R2n.out, BGn.out, BVn.out, hgn.out⟩
    · have hi0 : (i : Int) < 1 := by omega
      obtain rfl : i = 0 := by omega
      have hsh2 : (l, y) = (FL, FS) := hsh
      obtain ⟨rfl, rfl⟩ : l = FL ∧ y = FS := by simpa using hsh2
      have hRl := RR.lt
      go_wp2
      go_ret
      exact ⟨some ⟨gR, 0, none⟩, ⟨kR, rfl⟩, .inr ⟨gR, rfl, by omega, hRl, RR⟩, BG, hgr⟩
end Go.Proofs.Ytcmfknkdfkchmaa
