/- Contracts of chapter 3: the board in bits, of the program and of its model. -/
import Derived.Test.YtkddeoifdecniaaL03i
import Derived.Test.YtkddeoifdecniaaVarB
namespace Go.Proofs.Ytkddeoifdecniaa
open Go.ChangeShapes Go.WideShapes Go.ChangeAt Go.RowKit
set_option linter.unusedVariables false
set_option linter.unusedSimpArgs false

theorem Row.sub {w : World} {g o m : Nat} {xs : List Int} (h : Row w g xs) (hl : o + m ≤ xs.length) : IRow w (some ⟨g, o, none⟩) ((xs.drop o).take m) := fun i hi => by
  have hi2 : i < m := by simp at hi; omega
  refine ⟨g, o, rfl, ?_⟩
  rw [h.cell (o + i) (by omega)]
  simp [List.getD, List.getElem?_take_of_lt hi2]
theorem other2 {W : World} {B g : Nat} {us vs : Array Value} {t t' : TypeId} {v0 v1 : Value} (BA : Blk W B us t') (h : Blk W g vs t) (hne : g ≠ B) : Blk ((W.setCell ⟨B, 0, none⟩ v0).setCell ⟨B, 1, none⟩ v1) g vs t := (h.other hne).other hne
theorem row2 {W : World} {B g : Nat} {us : Array Value} {t' : TypeId} {v0 v1 : Value} {xs : List Int} (BA : Blk W B us t') (h : Row W g xs) (hne : g ≠ B) : Row ((W.setCell ⟨B, 0, none⟩ v0).setCell ⟨B, 1, none⟩ v1) g xs := (h.other hne).other hne
theorem below2 {w W : World} {B : Nat} {us : Array Value} {t' : TypeId} {v0 v1 : Value} (BA : Blk W B us t') (h : Below w.heap.size w W) (hB : w.heap.size ≤ B) : Below w.heap.size w ((W.setCell ⟨B, 0, none⟩ v0).setCell ⟨B, 1, none⟩ v1) := (h.setCell hB _).setCell hB _
/-- A board and a further result have been made. -/
def BoardGot2 (xs ys : List Int) (r : Value) (w : World) (e : Ending) (w' : World) : Prop :=
  ∃ a1 a2 k1 k2, e = .returned (.tuple #[.agg #[.slice a1 xs.length k1, .slice a2 ys.length k2], r]) ∧ OBd w.heap.size w'.heap.size w' a1 a2 xs ys ∧ Below w.heap.size w w'
set_option maxRecDepth 8000 in
set_option maxHeartbeats 3000000 in
theorem boardInBits_any (P : Nat) (C h s : Int) (a : Option Addr) (n cap : Nat) (bs L bX bY : List Int) (Z : Nat) (w : World) (hn : bs.length = n) (hle : n ≤ 1000) (hL : cib 0 bs = L) (hZ : Z = P + 1) (p1 : P ≤ 24) (hX : bX = L.take Z) (hY : bY = (L.drop Z).take Z) (hr : IRow w a bs) :
    (2 * Z ≤ L.length → Calls Try.prog 78 #[.agg #[.int .i64 P, .int .i64 C, .int .i64 h, .int .i64 s], .slice a n cap] w (BoardGot2 bX bY (.bool (isB P C h s bX bY)) w)) ∧
    (L.length < 2 * Z → Calls Try.prog 78 #[.agg #[.int .i64 P, .int .i64 C, .int .i64 h, .int .i64 s], .slice a n cap] w (BoardGot2 [] [] (.bool false) w)) := by
  have hcb := fun W (q : IRow W a bs) => countsInBits_any a n cap bs W hn (by omega) q
  rw [hL] at hcb
  have HCB := Lib.hid hcb
  have hLl : L.length ≤ 1000 := by rw [← hL]; have := cib_length 0 bs; omega
  have BV := Blk.new w #[.int .i64 P, .int .i64 C, .int .i64 h, .int .i64 s] 25
  have hb1 : Below w.heap.size w (w.alloc (.cells #[.int .i64 P, .int .i64 C, .int .i64 h, .int .i64 s] 25)) := (Below.refl _ _).alloc (Nat.le_refl _) _
  have BR := Blk.new (w.alloc (.cells #[.int .i64 P, .int .i64 C, .int .i64 h, .int .i64 s] 25)) #[.slice none 0 0, .slice none 0 0] 28
  have hz1 : (w.alloc (.cells #[.int .i64 P, .int .i64 C, .int .i64 h, .int .i64 s] 25)).heap.size = w.heap.size + 1 := by simp
  rw [hz1] at BR
  replace BV := BV.alloc (.cells #[.slice none 0 0, .slice none 0 0] 28)
  have hbw := hb1.alloc hb1.size (.cells #[.slice none 0 0, .slice none 0 0] 28)
  have hlX : 2 * Z ≤ L.length → bX.length = Z := fun q => by rw [hX]; simp; omega
  have hlY : 2 * Z ≤ L.length → bY.length = Z := fun q => by rw [hY]; simp; omega
  have wz : IntKind.i64.wrap ((P : Int) + 1) = (Z : Int) := by rw [IntWalk.i64_in _ (by omega)]; omega
  have hZ1 : 3 ≤ Z + 2 ∧ 1 ≤ Z ∧ Z ≤ 25 := by omega
  have hZI : (Z : Int) ≤ 25 := by omega
  clear hcb hz1 hb1
  constructor
  · intro hle2
    replace hlX := hlX hle2
    replace hlY := hlY hle2
    have hle2' : 2 * (Z : Int) ≤ (L.length : Int) := by omega
    have HX := Lib.hid hX
    have HY := Lib.hid hY
    have HLX := Lib.hid hlX
    have HLY := Lib.hid hlY
    have HL := Lib.hid hL
    have hib := fun (g1 g2 k1 k2 : Nat) W (q1 : Row W g1 bX) (q2 : Row W g2 bY) => isBoard_any (P : Int) C h s (some ⟨g1, 0, none⟩) (some ⟨g2, 0, none⟩) Z Z k1 k2 bX bY W hlX hlY (by omega) (by omega) q1.irow q2.irow
    obtain ⟨R, hR⟩ : ∃ R, isB (P : Int) C h s bX bY = R := ⟨_, rfl⟩
    rw [hR] at hib ⊢
    have HIB := Lib.hid hib
    clear hib hR
    clear hX hY hlX hlY hL hn hZ
    go_enter Try.func78, Try.ntmps78
    obtain ⟨x0, x1, x2, x3, xf, xl⟩ := BV.four
    go_wp2_with fail
    generalize ((w.alloc (.cells #[.int .i64 P, .int .i64 C, .int .i64 h, .int .i64 s] 25)).alloc (.cells #[.slice none 0 0, .slice none 0 0] 28)) = v0 at *
    clear x0 x1 x2 x3 xf xl
    have hd0 : v0.drew.heap.size = v0.heap.size := rfl
    replace BV := BV.drew
    replace BR := BR.drew
    replace hbw := hbw.drew
    refine wp_region_held_drew (S := fun w' => w'.cell? ⟨w.heap.size, 0, none⟩ = some (.int .i64 P) ∧ Below w.heap.size w w') (by kernel_rfl) ⟨BV.four.1, hbw⟩ (fun hHeld => ?_)
    clear hHeld
    generalize v0.drew = vd at *
    have hHeld : vd.cell? ⟨w.heap.size, 0, none⟩ = some (.int .i64 P) ∧ Below w.heap.size w vd := ⟨BV.four.1, hbw⟩
    refine wpAnyH_take (i := 0) (oi := { dst := some 9, op := _, type := _, pos := _, after := _, guard := _ }) (v := ?_) rfl (by kernel_rfl) (by kernel_rfl) (by kernel_rfl) (fun _ _ _ h => h) (Or.inl ⟨by rfl, ?_⟩) (by assumption) ?_
    rotate_left
    · intro w hSw
      (try dsimp only at hSw)
      go_simp
      (try (with_reducible rfl))
    try simp only [Act.put, List.setIfInBounds_toArray, List.set_cons_zero, List.set_cons_succ]
    refine wpAnyH_take (i := 2) (oi := { dst := some 11, op := _, type := _, pos := _, after := _, guard := _ }) (v := ?_) rfl (by kernel_rfl) (by kernel_rfl) (by kernel_rfl) (fun _ _ _ h => h) (Or.inl ⟨by rfl, ?_⟩) (by assumption) ?_
    rotate_left
    · intro w hSw
      (try dsimp only at hSw)
      go_simp
      (try (with_reducible rfl))
    try simp only [Act.put, List.setIfInBounds_toArray, List.set_cons_zero, List.set_cons_succ]
    refine wpAnyH_take (i := 3) (oi := { dst := some 12, op := _, type := _, pos := _, after := _, guard := _ }) (v := ?_) rfl (by kernel_rfl) (by kernel_rfl) (by kernel_rfl) (fun _ _ _ h => h) (Or.inl ⟨by rfl, ?_⟩) (by assumption) ?_
    rotate_left
    · intro w hSw
      (try dsimp only at hSw)
      go_simp
      (try (with_reducible rfl))
    try simp only [Act.put, List.setIfInBounds_toArray, List.set_cons_zero, List.set_cons_succ]
    refine wpAnyH_take (i := 4) (oi := { dst := some 13, op := _, type := _, pos := _, after := _, guard := _ }) (v := ?_) rfl (by kernel_rfl) (by kernel_rfl) (by kernel_rfl) (fun _ _ _ h => h) (Or.inl ⟨by rfl, ?_⟩) (by assumption) ?_
    rotate_left
    · intro w hSw
      (try dsimp only at hSw)
      go_simp
      (try (with_reducible rfl))
    try simp only [Act.put, List.setIfInBounds_toArray, List.set_cons_zero, List.set_cons_succ]
    refine wpAnyH_ready (rs := [1]) (by kernel_rfl) (by simp) ?_
    refine AllReadyH.cons (o := { dst := some 10, op := _, type := _, pos := _, after := _, guard := _ }) rfl (fun K hK => ?_) AllReadyH.nil
    go_simp
    refine (HCB.out _ (hr.below hbw)).mono ?_
    rintro e w2 ⟨v, rfl, hO, hb2⟩
    replace BV := BV.below hb2
    replace BR := BR.below hb2
    have hz2 := hb2.size
    replace hbw := chain hbw hb2
    clear hb2
    obtain ⟨gL, lk, rfl, hgL, hlk, hlm, RL⟩ := hO.rowCap (by omega)
    (try go_wp2_with fail)
    refine hK.out _ _ ⟨BV.four.1, hbw⟩ (fun hHeld => ?_)
    clear hK K
    try simp only [Act.put, List.setIfInBounds_toArray, List.set_cons_zero, List.set_cons_succ]
    refine wpAnyH_take (i := 5) (oi := { dst := some 6, op := _, type := _, pos := _, after := _, guard := _ }) (v := ?_) rfl (by kernel_rfl) (by kernel_rfl) (by kernel_rfl) (fun _ _ _ h => h) (Or.inl ⟨by rfl, ?_⟩) (by assumption) ?_
    rotate_left
    · intro w hSw
      (try dsimp only at hSw)
      go_simp
      (try (with_reducible rfl))
    try simp only [Act.put, List.setIfInBounds_toArray, List.set_cons_zero, List.set_cons_succ]
    refine wpAnyH_take (i := 6) (oi := { dst := some 7, op := _, type := _, pos := _, after := _, guard := _ }) (v := ?_) rfl (by kernel_rfl) (by kernel_rfl) (by kernel_rfl) (fun _ _ _ h => h) (Or.inl ⟨by rfl, ?_⟩) (by assumption) ?_
    rotate_left
    · intro w hSw
      (try dsimp only at hSw)
      go_simp
      (try (with_reducible rfl))
    try simp only [Act.put, List.setIfInBounds_toArray, List.set_cons_zero, List.set_cons_succ]
    refine wpAnyH_done (by kernel_rfl) ?_ _
    clear hHeld hO wz
    clear hlm
    have hlkI : 2 * (Z : Int) ≤ (lk : Int) := by omega
    have wz2 : IntKind.i64.wrap (2 * (Z : Int)) = 2 * (Z : Int) := IntWalk.i64_in _ (by omega)
    have hc1 := fun W (q : Row W gL L) => clone_any gL 0 Z lk bX W HLX.out (by omega) (by omega) (by have := q.sub (o := 0) (m := Z) (by omega); rw [HX.out]; simpa using this)
    have hc2 := fun W (q : Row W gL L) => clone_any gL Z Z (lk - Z) bY W HLY.out (by omega) (by omega) (by have := q.sub (o := Z) (m := Z) (by omega); rw [HY.out]; exact this)
    unfold RowGot at hc1 hc2
    rw [HLX.out] at hc1
    rw [HLY.out] at hc2
    have HC1 := Lib.hid hc1
    have HC2 := Lib.hid hc2
    clear hc1 hc2
    obtain ⟨hd1, hd2⟩ : w.heap.size + 1 < w2.heap.size ∧ gL < w2.heap.size := ⟨BR.lt, RL.lt⟩
    go_wp2_with fail
    generalize hwS : w2 = wS at *
    clear hwS
    obtain ⟨J, hJ⟩ : ∃ J : Act → Act → World → Prop, J = fun a a' w' => ∃ B g1 g2 k1 k2, a' = ((((((((((((a.put (some 20) (.slice (some ⟨gL, 0, none⟩) L.length lk)).put (some 21) (.int .i64 (Z : Int))).put (some 22) (.slice (some ⟨gL, 0, none⟩) Z lk)).put (some 23) (.slice (some ⟨g1, 0, none⟩) Z k1)).put (some 24) (.slice (some ⟨gL, 0, none⟩) L.length lk)).put (some 25) (.int .i64 (Z : Int))).put (some 26) (.int .i64 (Z : Int))).put (some 27) (.int .i64 (2 * (Z : Int)))).put (some 28) (.slice (some ⟨gL, Z, none⟩) Z (lk - Z))).put (some 29) (.slice (some ⟨g2, 0, none⟩) Z k2)).put (some 30) (.agg #[.slice (some ⟨g1, 0, none⟩) Z k1, .slice (some ⟨g2, 0, none⟩) Z k2])).put (some 8) (.pointer (some ⟨B, 0, none⟩))) ∧ Blk w' B #[.slice (some ⟨g1, 0, none⟩) Z k1, .slice (some ⟨g2, 0, none⟩) Z k2] 28 ∧ Row w' g1 bX ∧ Row w' g2 bY ∧ Blk w' w.heap.size #[.int .i64 P, .int .i64 C, .int .i64 h, .int .i64 s] 25 ∧ Blk w' (w.heap.size + 1) #[.slice none 0 0, .slice none 0 0] 28 ∧ Below w.heap.size w w' ∧ (g1 ≠ g2 ∧ g1 ≠ B ∧ g2 ≠ B ∧ w.heap.size + 1 < B ∧ w.heap.size + 1 < g1 ∧ w.heap.size + 1 < g2 ∧ g1 < w'.heap.size ∧ g2 < w'.heap.size) := ⟨_, rfl⟩
    have HJ := Lib.hid hJ
    clear hJ
    refine wp_region_join J ?_ ?_
    · have hd : wS.heap.size ≤ wS.drew.heap.size ∧ wS.drew.heap.size ≤ wS.heap.size := ⟨Nat.le_refl _, Nat.le_refl _⟩
      replace BV := BV.drew
      replace BR := BR.drew
      replace RL := RL.drew
      replace hbw := hbw.drew
      refine wp_region_held_drew (S := fun w' => w'.cell? ⟨w.heap.size, 0, none⟩ = some (.int .i64 P) ∧ Below w.heap.size w w') (by kernel_rfl) ⟨BV.four.1, hbw⟩ (fun hHeld => ?_)
      clear hHeld
      generalize wS.drew = vd at *
      have hHeld := (show vd.cell? ⟨w.heap.size, 0, none⟩ = some (.int .i64 P) ∧ Below w.heap.size w vd from ⟨BV.four.1, hbw⟩)
      refine wpAnyH_take (i := 0) (oi := { dst := some 20, op := _, type := _, pos := _, after := _, guard := _ }) (v := ?_) rfl (by kernel_rfl) (by kernel_rfl) (by kernel_rfl) (fun _ _ _ h => absurd h.1 (by simp)) (Or.inl ⟨by rfl, ?_⟩) (by assumption) ?_
      rotate_left
      · intro w hSw
        (try dsimp only at hSw)
        go_simp
        (try (with_reducible rfl))
      try simp only [Act.put, List.setIfInBounds_toArray, List.set_cons_zero, List.set_cons_succ]
      refine wpAnyH_take (i := 1) (oi := { dst := some 21, op := _, type := _, pos := _, after := _, guard := _ }) (v := ?_) rfl (by kernel_rfl) (by kernel_rfl) (by kernel_rfl) (fun _ _ _ h => absurd h.1 (by simp)) (Or.inl ⟨by rfl, ?_⟩) (by assumption) ?_
      rotate_left
      · intro w hSw
        (try dsimp only at hSw)
        go_simp
        (try (with_reducible rfl))
      try simp only [Act.put, List.setIfInBounds_toArray, List.set_cons_zero, List.set_cons_succ]
      refine wpAnyH_take (i := 2) (oi := { dst := some 22, op := _, type := _, pos := _, after := _, guard := _ }) (v := ?_) rfl (by kernel_rfl) (by kernel_rfl) (by kernel_rfl) (fun _ _ _ h => absurd h.1 (by simp)) (Or.inl ⟨by rfl, ?_⟩) (by assumption) ?_
      rotate_left
      · intro w hSw
        (try dsimp only at hSw)
        go_simp
        rw [if_pos (show Z ≤ lk by omega)]
      try simp only [Act.put, List.setIfInBounds_toArray, List.set_cons_zero, List.set_cons_succ]
      refine wpAnyH_take (i := 4) (oi := { dst := some 24, op := _, type := _, pos := _, after := _, guard := _ }) (v := ?_) rfl (by kernel_rfl) (by kernel_rfl) (by kernel_rfl) (fun _ _ _ h => absurd h.1 (by simp)) (Or.inl ⟨by rfl, ?_⟩) (by assumption) ?_
      rotate_left
      · intro w hSw
        (try dsimp only at hSw)
        go_simp
        (try (with_reducible rfl))
      try simp only [Act.put, List.setIfInBounds_toArray, List.set_cons_zero, List.set_cons_succ]
      refine wpAnyH_take (i := 5) (oi := { dst := some 25, op := _, type := _, pos := _, after := _, guard := _ }) (v := ?_) rfl (by kernel_rfl) (by kernel_rfl) (by kernel_rfl) (fun _ _ _ h => absurd h.1 (by simp)) (Or.inl ⟨by rfl, ?_⟩) (by assumption) ?_
      rotate_left
      · intro w hSw
        (try dsimp only at hSw)
        go_simp
        (try (with_reducible rfl))
      try simp only [Act.put, List.setIfInBounds_toArray, List.set_cons_zero, List.set_cons_succ]
      refine wpAnyH_take (i := 6) (oi := { dst := some 26, op := _, type := _, pos := _, after := _, guard := _ }) (v := ?_) rfl (by kernel_rfl) (by kernel_rfl) (by kernel_rfl) (fun _ _ _ h => absurd h.1 (by simp)) (Or.inl ⟨by rfl, ?_⟩) (by assumption) ?_
      rotate_left
      · intro w hSw
        (try dsimp only at hSw)
        go_simp
        (try (with_reducible rfl))
      try simp only [Act.put, List.setIfInBounds_toArray, List.set_cons_zero, List.set_cons_succ]
      refine wpAnyH_take (i := 7) (oi := { dst := some 27, op := _, type := _, pos := _, after := _, guard := _ }) (v := ?_) rfl (by kernel_rfl) (by kernel_rfl) (by kernel_rfl) (fun _ _ _ h => absurd h.1 (by simp)) (Or.inl ⟨by rfl, ?_⟩) (by assumption) ?_
      rotate_left
      · intro w hSw
        (try dsimp only at hSw)
        go_simp
        (try (with_reducible rfl))
      try simp only [Act.put, List.setIfInBounds_toArray, List.set_cons_zero, List.set_cons_succ]
      refine wpAnyH_take (i := 8) (oi := { dst := some 28, op := _, type := _, pos := _, after := _, guard := _ }) (v := ?_) rfl (by kernel_rfl) (by kernel_rfl) (by kernel_rfl) (fun _ _ _ h => absurd h.1 (by simp)) (Or.inl ⟨by rfl, ?_⟩) (by assumption) ?_
      rotate_left
      · intro w hSw
        (try dsimp only at hSw)
        go_simp
        rw [if_pos (show (0 : Int) ≤ 2 * (Z : Int) by omega), if_pos (show Z ≤ (2 * (Z : Int)).toNat by omega), if_neg (show ¬ lk = Z by omega), show (2 * (Z : Int)).toNat - Z = Z by omega]
      try simp only [Act.put, List.setIfInBounds_toArray, List.set_cons_zero, List.set_cons_succ]
      refine wpAnyH_ready (rs := [3, 11]) (by kernel_rfl) (by simp) ?_
      refine AllReadyH.cons (o := { dst := some 23, op := _, type := _, pos := _, after := _, guard := _ }) rfl (fun K hK => ?_) (AllReadyH.cons (o := { dst := some 8, op := _, type := _, pos := _, after := _, guard := _ }) rfl (fun K hK => ?_) AllReadyH.nil)
      · go_simp
        refine (HC1.out _ RL).mono ?_
        rintro e wA ⟨g1, k1, rfl, hg1, R1, hbA⟩
        replace BV := BV.below hbA
        replace BR := BR.below hbA
        replace RL := RL.below hbA
        replace hbw := chain hbw hbA
        have hz_hbA := hbA.size
        have hlA := R1.lt
        (try go_wp2_with fail)
        refine hK.out _ _ ⟨BV.four.1, hbw⟩ (fun hHeld => ?_)
        clear hK K
        try simp only [Act.put, List.setIfInBounds_toArray, List.set_cons_zero, List.set_cons_succ]
        refine wpAnyH_ready (rs := [9, 11]) (by kernel_rfl) (by simp) ?_
        refine AllReadyH.cons (o := { dst := some 29, op := _, type := _, pos := _, after := _, guard := _ }) rfl (fun K hK => ?_) (AllReadyH.cons (o := { dst := some 8, op := _, type := _, pos := _, after := _, guard := _ }) rfl (fun K hK => ?_) AllReadyH.nil)
        · go_simp
          refine (HC2.out _ RL).mono ?_
          rintro e wC ⟨g2, k2, rfl, hg2, R2, hbC⟩
          replace BV := BV.below hbC
          replace BR := BR.below hbC
          replace RL := RL.below hbC
          replace R1 := R1.below hbC
          replace hbw := chain hbw hbC
          have hz_hbC := hbC.size
          have hlC := R2.lt
          (try go_wp2_with fail)
          refine hK.out _ _ ⟨BV.four.1, hbw⟩ (fun hHeld => ?_)
          clear hK K
          try simp only [Act.put, List.setIfInBounds_toArray, List.set_cons_zero, List.set_cons_succ]
          refine wpAnyH_take (i := 10) (oi := { dst := some 30, op := _, type := _, pos := _, after := _, guard := _ }) (v := ?_) rfl (by kernel_rfl) (by kernel_rfl) (by kernel_rfl) (fun _ _ _ h => absurd h.1 (by simp)) (Or.inl ⟨by rfl, ?_⟩) (by assumption) ?_
          rotate_left
          · intro w hSw
            (try dsimp only at hSw)
            go_simp
            (try (with_reducible rfl))
          try simp only [Act.put, List.setIfInBounds_toArray, List.set_cons_zero, List.set_cons_succ]
          refine wpAnyH_ready (rs := [11]) (by kernel_rfl) (by simp) ?_
          refine AllReadyH.cons (o := { dst := some 8, op := _, type := _, pos := _, after := _, guard := _ }) rfl (fun K hK => ?_) AllReadyH.nil
          go_simp
          refine hK.out _ _ ⟨(BV.alloc _).four.1, chain_alloc hbw _⟩ (fun hHeld => ?_)
          clear hK K
          try simp only [Act.put, List.setIfInBounds_toArray, List.set_cons_zero, List.set_cons_succ]
          have BA := Blk.new wC #[.slice none 0 0, .slice none 0 0] 28
          have hal : Below wC.heap.size wC (wC.alloc (.cells #[.slice none 0 0, .slice none 0 0] 28)) := ((Below.refl _ _).alloc (Nat.le_refl _) _)
          have hlN : wC.heap.size + 1 ≤ (wC.alloc (.cells #[.slice none 0 0, .slice none 0 0] 28)).heap.size ∧ (wC.alloc (.cells #[.slice none 0 0, .slice none 0 0] 28)).heap.size ≤ wC.heap.size + 1 := by simp
          replace BV := BV.below hal
          replace BR := BR.below hal
          replace RL := RL.below hal
          replace R1 := R1.below hal
          replace R2 := R2.below hal
          replace hbw := chain hbw hal
          clear hal
          generalize wC.alloc (.cells #[.slice none 0 0, .slice none 0 0] 28) = wN at *
          refine wpAnyH_ready (rs := [12]) (by kernel_rfl) (by simp) ?_
          refine AllReadyH.cons (o := { dst := none, op := _, type := _, pos := _, after := _, guard := _ }) rfl (fun K hK => ?_) AllReadyH.nil
          obtain ⟨q0, q1, qf, ql⟩ := BA.two
          go_simp
          (try go_wp2_with fail)
          refine hK.out _ _ ⟨(other2 BA BV (by omega)).four.1, below2 BA hbw (by omega)⟩ (fun hHeld => ?_)
          clear hK K
          try simp only [Act.put, List.setIfInBounds_toArray, List.set_cons_zero, List.set_cons_succ]
          refine wpAnyH_done (by kernel_rfl) ?_ _
          rw [HJ.out]
          refine ⟨rfl, _, g1, g2, k1, k2, ?_, (BA.set _).set _, row2 BA R1 (by omega), row2 BA R2 (by omega), other2 BA BV (by omega), other2 BA BR (by omega), hHeld.2, ?_⟩
          · simp only [Act.put, List.setIfInBounds_toArray, List.set_cons_zero, List.set_cons_succ]
          · simp; omega
        · go_simp
          refine hK.out _ _ ⟨(BV.alloc _).four.1, chain_alloc hbw _⟩ (fun hHeld => ?_)
          clear hK K
          try simp only [Act.put, List.setIfInBounds_toArray, List.set_cons_zero, List.set_cons_succ]
          have BA := Blk.new wA #[.slice none 0 0, .slice none 0 0] 28
          have hal : Below wA.heap.size wA (wA.alloc (.cells #[.slice none 0 0, .slice none 0 0] 28)) := ((Below.refl _ _).alloc (Nat.le_refl _) _)
          have hlN : wA.heap.size + 1 ≤ (wA.alloc (.cells #[.slice none 0 0, .slice none 0 0] 28)).heap.size ∧ (wA.alloc (.cells #[.slice none 0 0, .slice none 0 0] 28)).heap.size ≤ wA.heap.size + 1 := by simp
          replace BV := BV.below hal
          replace BR := BR.below hal
          replace RL := RL.below hal
          replace R1 := R1.below hal
          replace hbw := chain hbw hal
          clear hal
          generalize wA.alloc (.cells #[.slice none 0 0, .slice none 0 0] 28) = wN at *
          refine wpAnyH_ready (rs := [9]) (by kernel_rfl) (by simp) ?_
          refine AllReadyH.cons (o := { dst := some 29, op := _, type := _, pos := _, after := _, guard := _ }) rfl (fun K hK => ?_) AllReadyH.nil
          go_simp
          refine (HC2.out _ RL).mono ?_
          rintro e wC ⟨g2, k2, rfl, hg2, R2, hbC⟩
          replace BV := BV.below hbC
          replace BR := BR.below hbC
          replace RL := RL.below hbC
          replace R1 := R1.below hbC
          replace BA := BA.below hbC
          replace hbw := chain hbw hbC
          have hz_hbC := hbC.size
          have hlC := R2.lt
          (try go_wp2_with fail)
          refine hK.out _ _ ⟨BV.four.1, hbw⟩ (fun hHeld => ?_)
          clear hK K
          try simp only [Act.put, List.setIfInBounds_toArray, List.set_cons_zero, List.set_cons_succ]
          refine wpAnyH_take (i := 10) (oi := { dst := some 30, op := _, type := _, pos := _, after := _, guard := _ }) (v := ?_) rfl (by kernel_rfl) (by kernel_rfl) (by kernel_rfl) (fun _ _ _ h => absurd h.1 (by simp)) (Or.inl ⟨by rfl, ?_⟩) (by assumption) ?_
          rotate_left
          · intro w hSw
            (try dsimp only at hSw)
            go_simp
            (try (with_reducible rfl))
          try simp only [Act.put, List.setIfInBounds_toArray, List.set_cons_zero, List.set_cons_succ]
          refine wpAnyH_ready (rs := [12]) (by kernel_rfl) (by simp) ?_
          refine AllReadyH.cons (o := { dst := none, op := _, type := _, pos := _, after := _, guard := _ }) rfl (fun K hK => ?_) AllReadyH.nil
          obtain ⟨q0, q1, qf, ql⟩ := BA.two
          go_simp
          (try go_wp2_with fail)
          refine hK.out _ _ ⟨(other2 BA BV (by omega)).four.1, below2 BA hbw (by omega)⟩ (fun hHeld => ?_)
          clear hK K
          try simp only [Act.put, List.setIfInBounds_toArray, List.set_cons_zero, List.set_cons_succ]
          refine wpAnyH_done (by kernel_rfl) ?_ _
          rw [HJ.out]
          refine ⟨rfl, _, g1, g2, k1, k2, ?_, (BA.set _).set _, row2 BA R1 (by omega), row2 BA R2 (by omega), other2 BA BV (by omega), other2 BA BR (by omega), hHeld.2, ?_⟩
          · simp only [Act.put, List.setIfInBounds_toArray, List.set_cons_zero, List.set_cons_succ]
          · simp; omega
      · go_simp
        refine hK.out _ _ ⟨(BV.alloc _).four.1, chain_alloc hbw _⟩ (fun hHeld => ?_)
        clear hK K
        try simp only [Act.put, List.setIfInBounds_toArray, List.set_cons_zero, List.set_cons_succ]
        have BA := Blk.new vd #[.slice none 0 0, .slice none 0 0] 28
        have hal : Below vd.heap.size vd (vd.alloc (.cells #[.slice none 0 0, .slice none 0 0] 28)) := ((Below.refl _ _).alloc (Nat.le_refl _) _)
        have hlN : vd.heap.size + 1 ≤ (vd.alloc (.cells #[.slice none 0 0, .slice none 0 0] 28)).heap.size ∧ (vd.alloc (.cells #[.slice none 0 0, .slice none 0 0] 28)).heap.size ≤ vd.heap.size + 1 := by simp
        replace BV := BV.below hal
        replace BR := BR.below hal
        replace RL := RL.below hal
        replace hbw := chain hbw hal
        clear hal
        generalize vd.alloc (.cells #[.slice none 0 0, .slice none 0 0] 28) = wN at *
        refine wpAnyH_ready (rs := [3]) (by kernel_rfl) (by simp) ?_
        refine AllReadyH.cons (o := { dst := some 23, op := _, type := _, pos := _, after := _, guard := _ }) rfl (fun K hK => ?_) AllReadyH.nil
        go_simp
        refine (HC1.out _ RL).mono ?_
        rintro e wA ⟨g1, k1, rfl, hg1, R1, hbA⟩
        replace BV := BV.below hbA
        replace BR := BR.below hbA
        replace RL := RL.below hbA
        replace BA := BA.below hbA
        replace hbw := chain hbw hbA
        have hz_hbA := hbA.size
        have hlA := R1.lt
        (try go_wp2_with fail)
        refine hK.out _ _ ⟨BV.four.1, hbw⟩ (fun hHeld => ?_)
        clear hK K
        try simp only [Act.put, List.setIfInBounds_toArray, List.set_cons_zero, List.set_cons_succ]
        refine wpAnyH_ready (rs := [9]) (by kernel_rfl) (by simp) ?_
        refine AllReadyH.cons (o := { dst := some 29, op := _, type := _, pos := _, after := _, guard := _ }) rfl (fun K hK => ?_) AllReadyH.nil
        go_simp
        refine (HC2.out _ RL).mono ?_
        rintro e wC ⟨g2, k2, rfl, hg2, R2, hbC⟩
        replace BV := BV.below hbC
        replace BR := BR.below hbC
        replace RL := RL.below hbC
        replace R1 := R1.below hbC
        replace BA := BA.below hbC
        replace hbw := chain hbw hbC
        have hz_hbC := hbC.size
        have hlC := R2.lt
        (try go_wp2_with fail)
        refine hK.out _ _ ⟨BV.four.1, hbw⟩ (fun hHeld => ?_)
        clear hK K
        try simp only [Act.put, List.setIfInBounds_toArray, List.set_cons_zero, List.set_cons_succ]
        refine wpAnyH_take (i := 10) (oi := { dst := some 30, op := _, type := _, pos := _, after := _, guard := _ }) (v := ?_) rfl (by kernel_rfl) (by kernel_rfl) (by kernel_rfl) (fun _ _ _ h => absurd h.1 (by simp)) (Or.inl ⟨by rfl, ?_⟩) (by assumption) ?_
        rotate_left
        · intro w hSw
          (try dsimp only at hSw)
          go_simp
          (try (with_reducible rfl))
        try simp only [Act.put, List.setIfInBounds_toArray, List.set_cons_zero, List.set_cons_succ]
        refine wpAnyH_ready (rs := [12]) (by kernel_rfl) (by simp) ?_
        refine AllReadyH.cons (o := { dst := none, op := _, type := _, pos := _, after := _, guard := _ }) rfl (fun K hK => ?_) AllReadyH.nil
        obtain ⟨q0, q1, qf, ql⟩ := BA.two
        go_simp
        (try go_wp2_with fail)
        refine hK.out _ _ ⟨(other2 BA BV (by omega)).four.1, below2 BA hbw (by omega)⟩ (fun hHeld => ?_)
        clear hK K
        try simp only [Act.put, List.setIfInBounds_toArray, List.set_cons_zero, List.set_cons_succ]
        refine wpAnyH_done (by kernel_rfl) ?_ _
        rw [HJ.out]
        refine ⟨rfl, _, g1, g2, k1, k2, ?_, (BA.set _).set _, row2 BA R1 (by omega), row2 BA R2 (by omega), other2 BA BV (by omega), other2 BA BR (by omega), hHeld.2, ?_⟩
        · simp only [Act.put, List.setIfInBounds_toArray, List.set_cons_zero, List.set_cons_succ]
        · simp; omega
    · intro a' w8 hj
      rw [HJ.out] at hj
      clear HJ BV BR RL hbw
      obtain ⟨B, g1, g2, k1, k2, rfl, BX, R1, R2, BV, BR, hbw, hs1, hs2, hs3, hs4, hs5, hs6, hs7, hs8⟩ := hj
      try simp only [Act.put, List.setIfInBounds_toArray, List.set_cons_zero, List.set_cons_succ]
      obtain ⟨q0, q1, qf, ql⟩ := BX.two
      obtain ⟨y0, y1, yf, yl⟩ := BR.two
      obtain ⟨x0, x1, x2, x3, xf, xl⟩ := BV.four
      go_wp2_with fail
      clear q0 q1 qf ql y0 y1 yf yl x0 x1 x2 x3 xf xl
      have hd8 : w8.heap.size ≤ w8.drew.heap.size ∧ w8.drew.heap.size ≤ w8.heap.size := ⟨Nat.le_refl _, Nat.le_refl _⟩
      replace BV := BV.drew
      replace BR := BR.drew
      replace BX := BX.drew
      replace R1 := R1.drew
      replace R2 := R2.drew
      replace hbw := hbw.drew
      refine wp_region_held_drew (S := fun w' => w'.cell? ⟨w.heap.size, 0, none⟩ = some (.int .i64 P) ∧ w'.cell? ⟨w.heap.size, 1, none⟩ = some (.int .i64 C) ∧ w'.cell? ⟨w.heap.size, 2, none⟩ = some (.int .i64 h) ∧ w'.cell? ⟨w.heap.size, 3, none⟩ = some (.int .i64 s) ∧ w'.cell? ⟨B, 0, none⟩ = some (.slice (some ⟨g1, 0, none⟩) Z k1) ∧ w'.cell? ⟨B, 1, none⟩ = some (.slice (some ⟨g2, 0, none⟩) Z k2)) (by kernel_rfl) ⟨BV.four.1, BV.four.2.1, BV.four.2.2.1, BV.four.2.2.2.1, BX.two.1, BX.two.2.1⟩ (fun hHeld => ?_)
      clear hHeld
      generalize w8.drew = ve at *
      have hHeld : ve.cell? ⟨w.heap.size, 0, none⟩ = some (.int .i64 P) ∧ ve.cell? ⟨w.heap.size, 1, none⟩ = some (.int .i64 C) ∧ ve.cell? ⟨w.heap.size, 2, none⟩ = some (.int .i64 h) ∧ ve.cell? ⟨w.heap.size, 3, none⟩ = some (.int .i64 s) ∧ ve.cell? ⟨B, 0, none⟩ = some (.slice (some ⟨g1, 0, none⟩) Z k1) ∧ ve.cell? ⟨B, 1, none⟩ = some (.slice (some ⟨g2, 0, none⟩) Z k2) := ⟨BV.four.1, BV.four.2.1, BV.four.2.2.1, BV.four.2.2.2.1, BX.two.1, BX.two.2.1⟩
      refine wpAnyH_take (i := 0) (oi := { dst := some 31, op := _, type := _, pos := _, after := _, guard := _ }) (v := ?_) rfl (by kernel_rfl) (by kernel_rfl) (by kernel_rfl) (fun _ _ _ h => h) (Or.inl ⟨by rfl, ?_⟩) (by assumption) ?_
      rotate_left
      · intro w hSw
        (try dsimp only at hSw)
        go_simp
        (try (with_reducible rfl))
      try simp only [Act.put, List.setIfInBounds_toArray, List.set_cons_zero, List.set_cons_succ]
      refine wpAnyH_take (i := 1) (oi := { dst := some 32, op := _, type := _, pos := _, after := _, guard := _ }) (v := ?_) rfl (by kernel_rfl) (by kernel_rfl) (by kernel_rfl) (fun _ _ _ h => h) (Or.inl ⟨by rfl, ?_⟩) (by assumption) ?_
      rotate_left
      · intro w hSw
        (try dsimp only at hSw)
        go_simp
        (try (with_reducible rfl))
      try simp only [Act.put, List.setIfInBounds_toArray, List.set_cons_zero, List.set_cons_succ]
      refine wpAnyH_take (i := 2) (oi := { dst := some 33, op := _, type := _, pos := _, after := _, guard := _ }) (v := ?_) rfl (by kernel_rfl) (by kernel_rfl) (by kernel_rfl) (fun _ _ _ h => h) (Or.inl ⟨by rfl, ?_⟩) (by assumption) ?_
      rotate_left
      · intro w hSw
        (try dsimp only at hSw)
        go_simp
        (try (with_reducible rfl))
      try simp only [Act.put, List.setIfInBounds_toArray, List.set_cons_zero, List.set_cons_succ]
      refine wpAnyH_ready (rs := [3]) (by kernel_rfl) (by simp) ?_
      refine AllReadyH.cons (o := { dst := some 34, op := _, type := _, pos := _, after := _, guard := _ }) rfl (fun K hK => ?_) AllReadyH.nil
      go_simp
      refine (HIB.out g1 g2 k1 k2 _ R1 R2).mono ?_
      rintro e w9 ⟨rfl, hb9⟩
      replace BV := BV.below hb9
      replace BR := BR.below hb9
      replace BX := BX.below hb9
      replace R1 := R1.below hb9
      replace R2 := R2.below hb9
      have hz9 := hb9.size
      replace hbw := chain hbw hb9
      (try go_wp2_with fail)
      refine hK.out _ _ ⟨BV.four.1, BV.four.2.1, BV.four.2.2.1, BV.four.2.2.2.1, BX.two.1, BX.two.2.1⟩ (fun hHeld => ?_)
      clear hK K
      try simp only [Act.put, List.setIfInBounds_toArray, List.set_cons_zero, List.set_cons_succ]
      refine wpAnyH_ready (rs := [4]) (by kernel_rfl) (by simp) ?_
      refine AllReadyH.cons (o := { dst := none, op := _, type := _, pos := _, after := _, guard := _ }) rfl (fun K hK => ?_) AllReadyH.nil
      obtain ⟨y0, y1, yf, yl⟩ := BR.two
      go_simp
      (try go_wp2_with fail)
      refine hK.out _ _ ⟨(other2 BR BV (by omega)).four.1, (other2 BR BV (by omega)).four.2.1, (other2 BR BV (by omega)).four.2.2.1, (other2 BR BV (by omega)).four.2.2.2.1, (other2 BR BX (by omega)).two.1, (other2 BR BX (by omega)).two.2.1⟩ (fun hHeld => ?_)
      clear hK K
      try simp only [Act.put, List.setIfInBounds_toArray, List.set_cons_zero, List.set_cons_succ]
      refine wpAnyH_take (i := 5) (oi := { dst := some 5, op := _, type := _, pos := _, after := _, guard := _ }) (v := ?_) rfl (by kernel_rfl) (by kernel_rfl) (by kernel_rfl) (fun _ _ _ h => h) (Or.inl ⟨by rfl, ?_⟩) (by assumption) ?_
      rotate_left
      · intro w hSw
        (try dsimp only at hSw)
        go_simp
        (try (with_reducible rfl))
      try simp only [Act.put, List.setIfInBounds_toArray, List.set_cons_zero, List.set_cons_succ]
      refine wpAnyH_done (by kernel_rfl) ?_ _
      go_wp2_with fail
      have BRn := (BR.set (i := 0) (.slice (some ⟨g1, 0, none⟩) Z k1)).set (i := 1) (.slice (some ⟨g2, 0, none⟩) Z k2)
      obtain ⟨z0, z1, zf, zl⟩ := BRn.two
      refine bodyPost_ret (v := .tuple #[.agg #[.slice (some ⟨g1, 0, none⟩) Z k1, .slice (some ⟨g2, 0, none⟩) Z k2], .bool R]) (by simp [results, Try.results78, go_sem, z0, z1]) rfl ?_
      exact ⟨_, _, _, _, by rw [HLX.out, HLY.out], .inr ⟨g1, g2, rfl, rfl, hs1, by omega, by simp; omega, by omega, by simp; omega, row2 BR R1 (by omega), row2 BR R2 (by omega)⟩, below2 BR hbw (by omega)⟩
  · intro hle2
    have hle2' : (L.length : Int) < 2 * (Z : Int) := by omega
    have HL := Lib.hid hL
    clear hX hY hlX hlY hL hn hZ
    go_enter Try.func78, Try.ntmps78
    obtain ⟨x0, x1, x2, x3, xf, xl⟩ := BV.four
    go_wp2_with fail
    generalize ((w.alloc (.cells #[.int .i64 P, .int .i64 C, .int .i64 h, .int .i64 s] 25)).alloc (.cells #[.slice none 0 0, .slice none 0 0] 28)) = v0 at *
    clear x0 x1 x2 x3 xf xl
    have hd0 : v0.drew.heap.size = v0.heap.size := rfl
    replace BV := BV.drew
    replace BR := BR.drew
    replace hbw := hbw.drew
    refine wp_region_held_drew (S := fun w' => w'.cell? ⟨w.heap.size, 0, none⟩ = some (.int .i64 P) ∧ Below w.heap.size w w') (by kernel_rfl) ⟨BV.four.1, hbw⟩ (fun hHeld => ?_)
    clear hHeld
    generalize v0.drew = vd at *
    have hHeld : vd.cell? ⟨w.heap.size, 0, none⟩ = some (.int .i64 P) ∧ Below w.heap.size w vd := ⟨BV.four.1, hbw⟩
    refine wpAnyH_take (i := 0) (oi := { dst := some 9, op := _, type := _, pos := _, after := _, guard := _ }) (v := ?_) rfl (by kernel_rfl) (by kernel_rfl) (by kernel_rfl) (fun _ _ _ h => h) (Or.inl ⟨by rfl, ?_⟩) (by assumption) ?_
    rotate_left
    · intro w hSw
      (try dsimp only at hSw)
      go_simp
      (try (with_reducible rfl))
    try simp only [Act.put, List.setIfInBounds_toArray, List.set_cons_zero, List.set_cons_succ]
    refine wpAnyH_take (i := 2) (oi := { dst := some 11, op := _, type := _, pos := _, after := _, guard := _ }) (v := ?_) rfl (by kernel_rfl) (by kernel_rfl) (by kernel_rfl) (fun _ _ _ h => h) (Or.inl ⟨by rfl, ?_⟩) (by assumption) ?_
    rotate_left
    · intro w hSw
      (try dsimp only at hSw)
      go_simp
      (try (with_reducible rfl))
    try simp only [Act.put, List.setIfInBounds_toArray, List.set_cons_zero, List.set_cons_succ]
    refine wpAnyH_take (i := 3) (oi := { dst := some 12, op := _, type := _, pos := _, after := _, guard := _ }) (v := ?_) rfl (by kernel_rfl) (by kernel_rfl) (by kernel_rfl) (fun _ _ _ h => h) (Or.inl ⟨by rfl, ?_⟩) (by assumption) ?_
    rotate_left
    · intro w hSw
      (try dsimp only at hSw)
      go_simp
      (try (with_reducible rfl))
    try simp only [Act.put, List.setIfInBounds_toArray, List.set_cons_zero, List.set_cons_succ]
    refine wpAnyH_take (i := 4) (oi := { dst := some 13, op := _, type := _, pos := _, after := _, guard := _ }) (v := ?_) rfl (by kernel_rfl) (by kernel_rfl) (by kernel_rfl) (fun _ _ _ h => h) (Or.inl ⟨by rfl, ?_⟩) (by assumption) ?_
    rotate_left
    · intro w hSw
      (try dsimp only at hSw)
      go_simp
      (try (with_reducible rfl))
    try simp only [Act.put, List.setIfInBounds_toArray, List.set_cons_zero, List.set_cons_succ]
    refine wpAnyH_ready (rs := [1]) (by kernel_rfl) (by simp) ?_
    refine AllReadyH.cons (o := { dst := some 10, op := _, type := _, pos := _, after := _, guard := _ }) rfl (fun K hK => ?_) AllReadyH.nil
    go_simp
    refine (HCB.out _ (hr.below hbw)).mono ?_
    rintro e w2 ⟨v, rfl, hO, hb2⟩
    replace BV := BV.below hb2
    replace BR := BR.below hb2
    have hz2 := hb2.size
    replace hbw := chain hbw hb2
    clear hb2
    obtain ⟨la, lk, rfl, hlk, hlm⟩ := hO.formCap
    (try go_wp2_with fail)
    refine hK.out _ _ ⟨BV.four.1, hbw⟩ (fun hHeld => ?_)
    clear hK K
    try simp only [Act.put, List.setIfInBounds_toArray, List.set_cons_zero, List.set_cons_succ]
    refine wpAnyH_take (i := 5) (oi := { dst := some 6, op := _, type := _, pos := _, after := _, guard := _ }) (v := ?_) rfl (by kernel_rfl) (by kernel_rfl) (by kernel_rfl) (fun _ _ _ h => h) (Or.inl ⟨by rfl, ?_⟩) (by assumption) ?_
    rotate_left
    · intro w hSw
      (try dsimp only at hSw)
      go_simp
      (try (with_reducible rfl))
    try simp only [Act.put, List.setIfInBounds_toArray, List.set_cons_zero, List.set_cons_succ]
    refine wpAnyH_take (i := 6) (oi := { dst := some 7, op := _, type := _, pos := _, after := _, guard := _ }) (v := ?_) rfl (by kernel_rfl) (by kernel_rfl) (by kernel_rfl) (fun _ _ _ h => h) (Or.inl ⟨by rfl, ?_⟩) (by assumption) ?_
    rotate_left
    · intro w hSw
      (try dsimp only at hSw)
      go_simp
      (try (with_reducible rfl))
    try simp only [Act.put, List.setIfInBounds_toArray, List.set_cons_zero, List.set_cons_succ]
    refine wpAnyH_done (by kernel_rfl) ?_ _
    clear hHeld hO wz hlm
    obtain ⟨y0, y1, yf, yl⟩ := BR.two
    go_wp2_with fail
    have BRn := (BR.set (i := 0) (.slice none 0 0)).set (i := 1) (.slice none 0 0)
    obtain ⟨z0, z1, zf, zl⟩ := BRn.two
    refine bodyPost_ret (v := .tuple #[.agg #[.slice none 0 0, .slice none 0 0], .bool false]) (by simp [results, Try.results78, go_sem, z0, z1]) rfl ?_
    exact ⟨none, none, 0, 0, rfl, .inl ⟨rfl, rfl, rfl, rfl⟩, below2 BR hbw (by omega)⟩
theorem Blk.belowB {w w' : World} {g B : Nat} {vs : Array Value} {t : TypeId} (h : Blk w g vs t) (hb : Below B w w') (hg : g < B) : Blk w' g vs t := (hb.block g hg).trans h
theorem l02Own_row (a : Option Addr) (n cap : Nat) (xs : List Int) (w : World) (hn : xs.length = n) (h0 : 0 < n) (hle : n ≤ 1048576) (hr : IRow w a xs) :
    Calls Try.prog 100 #[.slice a n cap] w (RowGot xs w) :=
  (l02Own_own a n cap xs w hn h0 hle hr).mono fun e w' h => by
    obtain ⟨v, rfl, hO, hb⟩ := h
    obtain ⟨g, k, rfl, hg, r⟩ := hO.row (by omega)
    exact ⟨g, k, rfl, hg, r, hb⟩
set_option maxRecDepth 8000 in
set_option maxHeartbeats 3000000 in
theorem l03Board_any (P : Nat) (C h s : Int) (a : Option Addr) (n cap : Nat) (bs L bX bY : List Int) (Z T : Nat) (R : Bool) (w : World) (hn : bs.length = n) (hle : n ≤ 1000) (hL : cib 0 bs = L) (hT : trl 0 bs = T) (hZ : Z = P + 1) (p1 : P ≤ 24)
    (hcase : (T = 0 ∧ L.length = 2 * Z ∧ bX = L.take Z ∧ bY = L.drop Z ∧ isB P C h s bX bY = R) ∨ (¬ (T = 0 ∧ L.length = 2 * Z) ∧ bX = [] ∧ bY = [] ∧ R = false)) (hr : IRow w a bs) :
    Calls Try.prog 85 #[.agg #[.int .i64 P, .int .i64 C, .int .i64 h, .int .i64 s], .slice a n cap] w (BoardGot2 bX bY (.bool R) w) := by
  subst hn
  have BV := Blk.new w #[.int .i64 P, .int .i64 C, .int .i64 h, .int .i64 s] 25
  have hb1 : Below w.heap.size w (w.alloc (.cells #[.int .i64 P, .int .i64 C, .int .i64 h, .int .i64 s] 25)) := (Below.refl _ _).alloc (Nat.le_refl _) _
  have BR := Blk.new (w.alloc (.cells #[.int .i64 P, .int .i64 C, .int .i64 h, .int .i64 s] 25)) #[.slice none 0 0, .slice none 0 0] 28
  have hz1 : (w.alloc (.cells #[.int .i64 P, .int .i64 C, .int .i64 h, .int .i64 s] 25)).heap.size = w.heap.size + 1 := by simp
  rw [hz1] at BR
  replace BV := BV.alloc (.cells #[.slice none 0 0, .slice none 0 0] 28)
  have hbw := hb1.alloc hb1.size (.cells #[.slice none 0 0, .slice none 0 0] 28)
  have hO0 := Own.start ((w.alloc (.cells #[.int .i64 P, .int .i64 C, .int .i64 h, .int .i64 s] 25)).alloc (.cells #[.slice none 0 0, .slice none 0 0] 28))
  have hz2 : ((w.alloc (.cells #[.int .i64 P, .int .i64 C, .int .i64 h, .int .i64 s] 25)).alloc (.cells #[.slice none 0 0, .slice none 0 0] 28)).heap.size = w.heap.size + 1 + 1 := by simp
  rw [hz2] at hO0
  replace BV := BV.alloc (.cells #[] 2)
  replace BR := BR.alloc (.cells #[] 2)
  have hz3 : w.heap.size + 1 + 1 ≤ (((w.alloc (.cells #[.int .i64 P, .int .i64 C, .int .i64 h, .int .i64 s] 25)).alloc (.cells #[.slice none 0 0, .slice none 0 0] 28)).alloc (.cells #[] 2)).heap.size := by simp
  replace hbw := hbw.alloc hbw.size (.cells #[] 2)
  have hZ1 : 3 ≤ Z + 2 ∧ 1 ≤ Z ∧ Z ≤ 25 := by omega
  have hZP : P + 1 ≤ Z ∧ Z ≤ P + 1 := by omega
  have hZI : (Z : Int) ≤ 25 := by omega
  have hPI : (P : Int) ≤ 24 := by omega
  have hlI : (bs.length : Int) ≤ 1000 := by omega
  have hLl : L.length ≤ 1000 := by rw [← hL]; have := cib_length 0 bs; omega
  have HC := Lib.hid hcase
  have HL := Lib.hid hL
  have HT := Lib.hid hT
  clear hz1 hz2 hb1 hL hT hZ hcase
  go_enter Try.func85, Try.ntmps85
  go_wp2_with fail
  generalize (((w.alloc (.cells #[.int .i64 P, .int .i64 C, .int .i64 h, .int .i64 s] 25)).alloc (.cells #[.slice none 0 0, .slice none 0 0] 28)).alloc (.cells #[] 2)) = v0 at *
  go_loopg [6, 7, 8] bs.length (fun m q o i wr => ∃ (k n : Nat) (D : List Int), k ≤ bs.length ∧ m = bs.length - k ∧ i = .int .i64 k ∧ o = .int .i64 n ∧ n ≤ k ∧ D.length ≤ k ∧ L = D ++ cib n (bs.drop k) ∧ trl n (bs.drop k) = T ∧ Own wr (w.heap.size + 1 + 1) q D ∧ Below (w.heap.size + 1 + 1) v0 wr)
  case atStart => exact ⟨0, 0, [], by omega, by omega, rfl, rfl, by omega, by simp, by simpa using HL.out.symm, by simpa using HT.out, hO0, Below.refl _ _⟩
  case round =>
    obtain ⟨k, n, D, hk, hm, rfl, rfl, hnk, hDk, hout, htr, hO, hbel⟩ := hrel
    replace hbw : Below w.heap.size w wr := hbw.trans (hbel.mono (by omega))
    replace BV := BV.belowB hbel (by omega)
    replace BR := BR.belowB hbel (by omega)
    have hbz : w.heap.size + 1 + 1 ≤ wr.heap.size := Nat.le_trans hz3 hbel.size
    by_cases hlt : k < bs.length
    · have hlt' : (k : Int) < (bs.length : Int) := by omega
      have hk0 : (0 : Int) ≤ (k : Int) := by omega
      obtain ⟨b, o, rfl, hc⟩ := hr.below hbw k hlt
      obtain ⟨hst, hst2⟩ := cib_step n bs k hlt
      obtain ⟨v, hv⟩ : ∃ v, bs.getD k 0 = v := ⟨_, rfl⟩
      rw [hv] at hc hst hst2
      have hnb : (n : Int) ≤ 1000 := by omega
      have hl : D.length ≤ 1048576 := by omega
      have HLD := Lib.hid hl
      have HM := Lib.hid hm
      by_cases h1 : v = 1
      · rw [if_pos h1] at hst hst2
        rw [hst] at hout
        rw [hst2] at htr
        have HO := Lib.hid hout
        have HTR := Lib.hid htr
        have h1' : (v == 1) = true := by rw [beq_iff_eq]; exact h1
        clear hst hst2 hv hout htr hm hl h1
        go_wp2_with fail
        go_roundg (bs.length - (k + 1))
        case measure => have := HM.out; omega
        case rel => exact ⟨k + 1, n + 1, D, by omega, rfl, by go_num, by go_num, by omega, by omega, HO.out, HTR.out, hO, hbel⟩
      · rw [if_neg h1] at hst hst2
        rw [hst] at hout
        rw [hst2] at htr
        have HO := Lib.hid hout
        have HTR := Lib.hid htr
        have h1' : (v == 1) = false := by rw [beq_eq_false_iff_ne]; exact h1
        clear hst hst2 hv hout htr hm hl h1
        go_wp2_with (at_builtin; refine wp_push rfl (.tmp 24) (.tmp 26) rfl (w.heap.size + 1 + 1) _ D rfl hO (n : Int) rfl HLD.out hbz ?_; intro v2 w2 hO2 hb2)
        go_roundg (bs.length - (k + 1))
        case measure => have := HM.out; omega
        case rel => exact ⟨k + 1, 0, D ++ [(n : Int)], by omega, rfl, by go_num, rfl, by omega, by simp; omega, by rw [HO.out, List.append_assoc]; rfl, HTR.out, hO2, hbel.trans hb2⟩
    · obtain rfl : k = bs.length := by omega
      have hlt' : ¬ ((bs.length : Int) < (bs.length : Int)) := by omega
      have ho : L = D := by rw [hout]; simp [cib]
      have ht : n = T := by rw [← htr]; simp [trl]
      subst ho ht
      clear hout htr hO0 hbel hlt
      obtain ⟨x0, x1, x2, x3, xf, xl⟩ := BV.four
      rcases HC.out with ⟨hT0, hLen, hX, hY, hR⟩ | ⟨hno, hX, hY, hR⟩
      · subst hT0
        have hlX : bX.length = Z := by rw [hX]; simp; omega
        have hlY : bY.length = Z := by rw [hY]; simp; omega
        have hne : ((L.length : Int) != 2 * (P : Int) + 2) = false := by rw [bne_eq_false_iff_eq]; omega
        obtain ⟨gL, lk, rfl, hgL, hlk, hlm, RL⟩ := hO.rowCap (by omega)
        have hLen2 : 2 * Z ≤ L.length ∧ L.length ≤ 2 * Z := by omega
        have HX := Lib.hid hX
        have HY := Lib.hid hY
        have HLX := Lib.hid hlX
        have HLY := Lib.hid hlY
        have hib := fun (g1 g2 k1 k2 : Nat) W (q1 : Row W g1 bX) (q2 : Row W g2 bY) => specIsBoard_any (P : Int) C h s (some ⟨g1, 0, none⟩) (some ⟨g2, 0, none⟩) Z Z k1 k2 bX bY W hlX hlY (by omega) (by omega) q1.irow q2.irow
        rw [hR] at hib
        have HIB := Lib.hid hib
        have hc1 := fun W (q : Row W gL L) => l02Own_row (some ⟨gL, 0, none⟩) Z lk bX W hlX (by omega) (by omega) (by have := q.sub (o := 0) (m := Z) (by omega); rw [hX]; simpa using this)
        have hc2 := fun W (q : Row W gL L) => l02Own_row (some ⟨gL, Z, none⟩) (L.length - Z) (lk - Z) bY W (by omega) (by omega) (by omega) (by have := q.sub (o := Z) (m := Z) (by omega); rw [hY]; rwa [List.take_of_length_le (by simp; omega)] at this)
        unfold RowGot at hc1 hc2
        rw [hlX] at hc1
        rw [hlY] at hc2
        have HC1 := Lib.hid hc1
        have HC2 := Lib.hid hc2
        have wz : IntKind.i64.wrap ((P : Int) + 1) = (Z : Int) := by rw [IntWalk.i64_in _ (by omega)]; omega
        clear hc1 hc2 hib hX hY hlX hlY hR hLen HC hO hlm
        have hd1 : w.heap.size + 1 < wr.heap.size := BR.lt
        have hd2 : gL < wr.heap.size := RL.lt
        go_wp2_with fail
        clear x0 x1 x2 x3 xf xl
        generalize hwS : wr = wS at *
        clear hwS
        obtain ⟨J, hJ⟩ : ∃ J : Act → Act → World → Prop, J = fun a a' w' => ∃ B g1 g2 k1 k2, a' = ((((((((((((((a.put (some 40) (.slice (some ⟨gL, 0, none⟩) L.length lk)).put (some 41) (.pointer (some ⟨w.heap.size, 0, none⟩))).put (some 42) (.int .i64 (P : Int))).put (some 43) (.int .i64 (Z : Int))).put (some 44) (.slice (some ⟨gL, 0, none⟩) Z lk)).put (some 45) (.slice (some ⟨g1, 0, none⟩) Z k1)).put (some 46) (.slice (some ⟨gL, 0, none⟩) L.length lk)).put (some 47) (.pointer (some ⟨w.heap.size, 0, none⟩))).put (some 48) (.int .i64 (P : Int))).put (some 49) (.int .i64 (Z : Int))).put (some 50) (.slice (some ⟨gL, Z, none⟩) (L.length - Z) (lk - Z))).put (some 51) (.slice (some ⟨g2, 0, none⟩) Z k2)).put (some 52) (.agg #[.slice (some ⟨g1, 0, none⟩) Z k1, .slice (some ⟨g2, 0, none⟩) Z k2])).put (some 9) (.pointer (some ⟨B, 0, none⟩))) ∧ Blk w' B #[.slice (some ⟨g1, 0, none⟩) Z k1, .slice (some ⟨g2, 0, none⟩) Z k2] 28 ∧ Row w' g1 bX ∧ Row w' g2 bY ∧ Blk w' w.heap.size #[.int .i64 P, .int .i64 C, .int .i64 h, .int .i64 s] 25 ∧ Blk w' (w.heap.size + 1) #[.slice none 0 0, .slice none 0 0] 28 ∧ Below w.heap.size w w' ∧ (g1 ≠ g2 ∧ g1 ≠ B ∧ g2 ≠ B ∧ w.heap.size + 1 < B ∧ w.heap.size + 1 < g1 ∧ w.heap.size + 1 < g2 ∧ g1 < w'.heap.size ∧ g2 < w'.heap.size) := ⟨_, rfl⟩
        have HJ := Lib.hid hJ
        clear hJ
        refine wp_region_join J ?_ ?_
        · have hd : wS.heap.size ≤ wS.drew.heap.size ∧ wS.drew.heap.size ≤ wS.heap.size := ⟨Nat.le_refl _, Nat.le_refl _⟩
          replace BV := BV.drew
          replace BR := BR.drew
          replace RL := RL.drew
          replace hbw := hbw.drew
          refine wp_region_held_drew (S := fun w' => w'.cell? ⟨w.heap.size, 0, none⟩ = some (.int .i64 P) ∧ Below w.heap.size w w') (by kernel_rfl) ⟨BV.four.1, hbw⟩ (fun hHeld => ?_)
          clear hHeld
          generalize wS.drew = vd at *
          have hHeld := (show vd.cell? ⟨w.heap.size, 0, none⟩ = some (.int .i64 P) ∧ Below w.heap.size w vd from ⟨BV.four.1, hbw⟩)
          refine wpAnyH_take (i := 0) (oi := { dst := some 40, op := _, type := _, pos := _, after := _, guard := _ }) (v := ?_) rfl (by kernel_rfl) (by kernel_rfl) (by kernel_rfl) (fun _ _ _ h => absurd h.1 (by simp)) (Or.inl ⟨by rfl, ?_⟩) (by assumption) ?_
          rotate_left
          · intro w hSw
            (try dsimp only at hSw)
            go_simp
            (try (with_reducible rfl))
          try simp only [Act.put, List.setIfInBounds_toArray, List.set_cons_zero, List.set_cons_succ]
          refine wpAnyH_take (i := 1) (oi := { dst := some 41, op := _, type := _, pos := _, after := _, guard := _ }) (v := ?_) rfl (by kernel_rfl) (by kernel_rfl) (by kernel_rfl) (fun _ _ _ h => absurd h.1 (by simp)) (Or.inl ⟨by rfl, ?_⟩) (by assumption) ?_
          rotate_left
          · intro w hSw
            (try dsimp only at hSw)
            go_simp
            (try (with_reducible rfl))
          try simp only [Act.put, List.setIfInBounds_toArray, List.set_cons_zero, List.set_cons_succ]
          refine wpAnyH_take (i := 2) (oi := { dst := some 42, op := _, type := _, pos := _, after := _, guard := _ }) (v := ?_) rfl (by kernel_rfl) (by kernel_rfl) (by kernel_rfl) (fun _ _ _ h => absurd h.1 (by simp)) (Or.inl ⟨by rfl, ?_⟩) (by assumption) ?_
          rotate_left
          · intro w hSw
            (try dsimp only at hSw)
            go_simp
            (try (with_reducible rfl))
          try simp only [Act.put, List.setIfInBounds_toArray, List.set_cons_zero, List.set_cons_succ]
          refine wpAnyH_take (i := 3) (oi := { dst := some 43, op := _, type := _, pos := _, after := _, guard := _ }) (v := ?_) rfl (by kernel_rfl) (by kernel_rfl) (by kernel_rfl) (fun _ _ _ h => absurd h.1 (by simp)) (Or.inl ⟨by rfl, ?_⟩) (by assumption) ?_
          rotate_left
          · intro w hSw
            (try dsimp only at hSw)
            go_simp
            (try (with_reducible rfl))
          try simp only [Act.put, List.setIfInBounds_toArray, List.set_cons_zero, List.set_cons_succ]
          refine wpAnyH_take (i := 4) (oi := { dst := some 44, op := _, type := _, pos := _, after := _, guard := _ }) (v := ?_) rfl (by kernel_rfl) (by kernel_rfl) (by kernel_rfl) (fun _ _ _ h => absurd h.1 (by simp)) (Or.inl ⟨by rfl, ?_⟩) (by assumption) ?_
          rotate_left
          · intro w hSw
            (try dsimp only at hSw)
            go_simp
            rw [if_pos (show Z ≤ lk by omega)]
          try simp only [Act.put, List.setIfInBounds_toArray, List.set_cons_zero, List.set_cons_succ]
          refine wpAnyH_take (i := 6) (oi := { dst := some 46, op := _, type := _, pos := _, after := _, guard := _ }) (v := ?_) rfl (by kernel_rfl) (by kernel_rfl) (by kernel_rfl) (fun _ _ _ h => absurd h.1 (by simp)) (Or.inl ⟨by rfl, ?_⟩) (by assumption) ?_
          rotate_left
          · intro w hSw
            (try dsimp only at hSw)
            go_simp
            (try (with_reducible rfl))
          try simp only [Act.put, List.setIfInBounds_toArray, List.set_cons_zero, List.set_cons_succ]
          refine wpAnyH_take (i := 7) (oi := { dst := some 47, op := _, type := _, pos := _, after := _, guard := _ }) (v := ?_) rfl (by kernel_rfl) (by kernel_rfl) (by kernel_rfl) (fun _ _ _ h => absurd h.1 (by simp)) (Or.inl ⟨by rfl, ?_⟩) (by assumption) ?_
          rotate_left
          · intro w hSw
            (try dsimp only at hSw)
            go_simp
            (try (with_reducible rfl))
          try simp only [Act.put, List.setIfInBounds_toArray, List.set_cons_zero, List.set_cons_succ]
          refine wpAnyH_take (i := 8) (oi := { dst := some 48, op := _, type := _, pos := _, after := _, guard := _ }) (v := ?_) rfl (by kernel_rfl) (by kernel_rfl) (by kernel_rfl) (fun _ _ _ h => absurd h.1 (by simp)) (Or.inl ⟨by rfl, ?_⟩) (by assumption) ?_
          rotate_left
          · intro w hSw
            (try dsimp only at hSw)
            go_simp
            (try (with_reducible rfl))
          try simp only [Act.put, List.setIfInBounds_toArray, List.set_cons_zero, List.set_cons_succ]
          refine wpAnyH_take (i := 9) (oi := { dst := some 49, op := _, type := _, pos := _, after := _, guard := _ }) (v := ?_) rfl (by kernel_rfl) (by kernel_rfl) (by kernel_rfl) (fun _ _ _ h => absurd h.1 (by simp)) (Or.inl ⟨by rfl, ?_⟩) (by assumption) ?_
          rotate_left
          · intro w hSw
            (try dsimp only at hSw)
            go_simp
            (try (with_reducible rfl))
          try simp only [Act.put, List.setIfInBounds_toArray, List.set_cons_zero, List.set_cons_succ]
          refine wpAnyH_take (i := 10) (oi := { dst := some 50, op := _, type := _, pos := _, after := _, guard := _ }) (v := ?_) rfl (by kernel_rfl) (by kernel_rfl) (by kernel_rfl) (fun _ _ _ h => absurd h.1 (by simp)) (Or.inl ⟨by rfl, ?_⟩) (by assumption) ?_
          rotate_left
          · intro w hSw
            (try dsimp only at hSw)
            go_simp
            rw [if_pos (show Z ≤ L.length by omega), if_neg (show ¬ lk = Z by omega)]
          try simp only [Act.put, List.setIfInBounds_toArray, List.set_cons_zero, List.set_cons_succ]
          refine wpAnyH_ready (rs := [5, 13]) (by kernel_rfl) (by simp) ?_
          refine AllReadyH.cons (o := { dst := some 45, op := _, type := _, pos := _, after := _, guard := _ }) rfl (fun K hK => ?_) (AllReadyH.cons (o := { dst := some 9, op := _, type := _, pos := _, after := _, guard := _ }) rfl (fun K hK => ?_) AllReadyH.nil)
          · go_simp
            refine (HC1.out _ RL).mono ?_
            rintro e wA ⟨g1, k1, rfl, hg1, R1, hbA⟩
            replace BV := BV.below hbA
            replace BR := BR.below hbA
            replace RL := RL.below hbA
            replace hbw := chain hbw hbA
            have hz_hbA := hbA.size
            have hlA := R1.lt
            (try go_wp2_with fail)
            refine hK.out _ _ ⟨BV.four.1, hbw⟩ (fun hHeld => ?_)
            clear hK K
            try simp only [Act.put, List.setIfInBounds_toArray, List.set_cons_zero, List.set_cons_succ]
            refine wpAnyH_ready (rs := [11, 13]) (by kernel_rfl) (by simp) ?_
            refine AllReadyH.cons (o := { dst := some 51, op := _, type := _, pos := _, after := _, guard := _ }) rfl (fun K hK => ?_) (AllReadyH.cons (o := { dst := some 9, op := _, type := _, pos := _, after := _, guard := _ }) rfl (fun K hK => ?_) AllReadyH.nil)
            · go_simp
              refine (HC2.out _ RL).mono ?_
              rintro e wC ⟨g2, k2, rfl, hg2, R2, hbC⟩
              replace BV := BV.below hbC
              replace BR := BR.below hbC
              replace RL := RL.below hbC
              replace R1 := R1.below hbC
              replace hbw := chain hbw hbC
              have hz_hbC := hbC.size
              have hlC := R2.lt
              (try go_wp2_with fail)
              refine hK.out _ _ ⟨BV.four.1, hbw⟩ (fun hHeld => ?_)
              clear hK K
              try simp only [Act.put, List.setIfInBounds_toArray, List.set_cons_zero, List.set_cons_succ]
              refine wpAnyH_take (i := 12) (oi := { dst := some 52, op := _, type := _, pos := _, after := _, guard := _ }) (v := ?_) rfl (by kernel_rfl) (by kernel_rfl) (by kernel_rfl) (fun _ _ _ h => absurd h.1 (by simp)) (Or.inl ⟨by rfl, ?_⟩) (by assumption) ?_
              rotate_left
              · intro w hSw
                (try dsimp only at hSw)
                go_simp
                (try (with_reducible rfl))
              try simp only [Act.put, List.setIfInBounds_toArray, List.set_cons_zero, List.set_cons_succ]
              refine wpAnyH_ready (rs := [13]) (by kernel_rfl) (by simp) ?_
              refine AllReadyH.cons (o := { dst := some 9, op := _, type := _, pos := _, after := _, guard := _ }) rfl (fun K hK => ?_) AllReadyH.nil
              go_simp
              refine hK.out _ _ ⟨(BV.alloc _).four.1, chain_alloc hbw _⟩ (fun hHeld => ?_)
              clear hK K
              try simp only [Act.put, List.setIfInBounds_toArray, List.set_cons_zero, List.set_cons_succ]
              have BA := Blk.new wC #[.slice none 0 0, .slice none 0 0] 28
              have hal : Below wC.heap.size wC (wC.alloc (.cells #[.slice none 0 0, .slice none 0 0] 28)) := ((Below.refl _ _).alloc (Nat.le_refl _) _)
              have hlN : wC.heap.size + 1 ≤ (wC.alloc (.cells #[.slice none 0 0, .slice none 0 0] 28)).heap.size ∧ (wC.alloc (.cells #[.slice none 0 0, .slice none 0 0] 28)).heap.size ≤ wC.heap.size + 1 := by simp
              replace BV := BV.below hal
              replace BR := BR.below hal
              replace RL := RL.below hal
              replace R1 := R1.below hal
              replace R2 := R2.below hal
              replace hbw := chain hbw hal
              clear hal
              generalize wC.alloc (.cells #[.slice none 0 0, .slice none 0 0] 28) = wN at *
              refine wpAnyH_ready (rs := [14]) (by kernel_rfl) (by simp) ?_
              refine AllReadyH.cons (o := { dst := none, op := _, type := _, pos := _, after := _, guard := _ }) rfl (fun K hK => ?_) AllReadyH.nil
              obtain ⟨q0, q1, qf, ql⟩ := BA.two
              go_simp
              (try go_wp2_with fail)
              refine hK.out _ _ ⟨(other2 BA BV (by omega)).four.1, below2 BA hbw (by omega)⟩ (fun hHeld => ?_)
              clear hK K
              try simp only [Act.put, List.setIfInBounds_toArray, List.set_cons_zero, List.set_cons_succ]
              refine wpAnyH_done (by kernel_rfl) ?_ _
              rw [HJ.out]
              refine ⟨rfl, _, g1, g2, k1, k2, ?_, (BA.set _).set _, row2 BA R1 (by omega), row2 BA R2 (by omega), other2 BA BV (by omega), other2 BA BR (by omega), hHeld.2, ?_⟩
              · simp only [Act.put, List.setIfInBounds_toArray, List.set_cons_zero, List.set_cons_succ]
              · simp; omega
            · go_simp
              refine hK.out _ _ ⟨(BV.alloc _).four.1, chain_alloc hbw _⟩ (fun hHeld => ?_)
              clear hK K
              try simp only [Act.put, List.setIfInBounds_toArray, List.set_cons_zero, List.set_cons_succ]
              have BA := Blk.new wA #[.slice none 0 0, .slice none 0 0] 28
              have hal : Below wA.heap.size wA (wA.alloc (.cells #[.slice none 0 0, .slice none 0 0] 28)) := ((Below.refl _ _).alloc (Nat.le_refl _) _)
              have hlN : wA.heap.size + 1 ≤ (wA.alloc (.cells #[.slice none 0 0, .slice none 0 0] 28)).heap.size ∧ (wA.alloc (.cells #[.slice none 0 0, .slice none 0 0] 28)).heap.size ≤ wA.heap.size + 1 := by simp
              replace BV := BV.below hal
              replace BR := BR.below hal
              replace RL := RL.below hal
              replace R1 := R1.below hal
              replace hbw := chain hbw hal
              clear hal
              generalize wA.alloc (.cells #[.slice none 0 0, .slice none 0 0] 28) = wN at *
              refine wpAnyH_ready (rs := [11]) (by kernel_rfl) (by simp) ?_
              refine AllReadyH.cons (o := { dst := some 51, op := _, type := _, pos := _, after := _, guard := _ }) rfl (fun K hK => ?_) AllReadyH.nil
              go_simp
              refine (HC2.out _ RL).mono ?_
              rintro e wC ⟨g2, k2, rfl, hg2, R2, hbC⟩
              replace BV := BV.below hbC
              replace BR := BR.below hbC
              replace RL := RL.below hbC
              replace R1 := R1.below hbC
              replace BA := BA.below hbC
              replace hbw := chain hbw hbC
              have hz_hbC := hbC.size
              have hlC := R2.lt
              (try go_wp2_with fail)
              refine hK.out _ _ ⟨BV.four.1, hbw⟩ (fun hHeld => ?_)
              clear hK K
              try simp only [Act.put, List.setIfInBounds_toArray, List.set_cons_zero, List.set_cons_succ]
              refine wpAnyH_take (i := 12) (oi := { dst := some 52, op := _, type := _, pos := _, after := _, guard := _ }) (v := ?_) rfl (by kernel_rfl) (by kernel_rfl) (by kernel_rfl) (fun _ _ _ h => absurd h.1 (by simp)) (Or.inl ⟨by rfl, ?_⟩) (by assumption) ?_
              rotate_left
              · intro w hSw
                (try dsimp only at hSw)
                go_simp
                (try (with_reducible rfl))
              try simp only [Act.put, List.setIfInBounds_toArray, List.set_cons_zero, List.set_cons_succ]
              refine wpAnyH_ready (rs := [14]) (by kernel_rfl) (by simp) ?_
              refine AllReadyH.cons (o := { dst := none, op := _, type := _, pos := _, after := _, guard := _ }) rfl (fun K hK => ?_) AllReadyH.nil
              obtain ⟨q0, q1, qf, ql⟩ := BA.two
              go_simp
              (try go_wp2_with fail)
              refine hK.out _ _ ⟨(other2 BA BV (by omega)).four.1, below2 BA hbw (by omega)⟩ (fun hHeld => ?_)
              clear hK K
              try simp only [Act.put, List.setIfInBounds_toArray, List.set_cons_zero, List.set_cons_succ]
              refine wpAnyH_done (by kernel_rfl) ?_ _
              rw [HJ.out]
              refine ⟨rfl, _, g1, g2, k1, k2, ?_, (BA.set _).set _, row2 BA R1 (by omega), row2 BA R2 (by omega), other2 BA BV (by omega), other2 BA BR (by omega), hHeld.2, ?_⟩
              · simp only [Act.put, List.setIfInBounds_toArray, List.set_cons_zero, List.set_cons_succ]
              · simp; omega
          · go_simp
            refine hK.out _ _ ⟨(BV.alloc _).four.1, chain_alloc hbw _⟩ (fun hHeld => ?_)
            clear hK K
            try simp only [Act.put, List.setIfInBounds_toArray, List.set_cons_zero, List.set_cons_succ]
            have BA := Blk.new vd #[.slice none 0 0, .slice none 0 0] 28
            have hal : Below vd.heap.size vd (vd.alloc (.cells #[.slice none 0 0, .slice none 0 0] 28)) := ((Below.refl _ _).alloc (Nat.le_refl _) _)
            have hlN : vd.heap.size + 1 ≤ (vd.alloc (.cells #[.slice none 0 0, .slice none 0 0] 28)).heap.size ∧ (vd.alloc (.cells #[.slice none 0 0, .slice none 0 0] 28)).heap.size ≤ vd.heap.size + 1 := by simp
            replace BV := BV.below hal
            replace BR := BR.below hal
            replace RL := RL.below hal
            replace hbw := chain hbw hal
            clear hal
            generalize vd.alloc (.cells #[.slice none 0 0, .slice none 0 0] 28) = wN at *
            refine wpAnyH_ready (rs := [5]) (by kernel_rfl) (by simp) ?_
            refine AllReadyH.cons (o := { dst := some 45, op := _, type := _, pos := _, after := _, guard := _ }) rfl (fun K hK => ?_) AllReadyH.nil
            go_simp
            refine (HC1.out _ RL).mono ?_
            rintro e wA ⟨g1, k1, rfl, hg1, R1, hbA⟩
            replace BV := BV.below hbA
            replace BR := BR.below hbA
            replace RL := RL.below hbA
            replace BA := BA.below hbA
            replace hbw := chain hbw hbA
            have hz_hbA := hbA.size
            have hlA := R1.lt
            (try go_wp2_with fail)
            refine hK.out _ _ ⟨BV.four.1, hbw⟩ (fun hHeld => ?_)
            clear hK K
            try simp only [Act.put, List.setIfInBounds_toArray, List.set_cons_zero, List.set_cons_succ]
            refine wpAnyH_ready (rs := [11]) (by kernel_rfl) (by simp) ?_
            refine AllReadyH.cons (o := { dst := some 51, op := _, type := _, pos := _, after := _, guard := _ }) rfl (fun K hK => ?_) AllReadyH.nil
            go_simp
            refine (HC2.out _ RL).mono ?_
            rintro e wC ⟨g2, k2, rfl, hg2, R2, hbC⟩
            replace BV := BV.below hbC
            replace BR := BR.below hbC
            replace RL := RL.below hbC
            replace R1 := R1.below hbC
            replace BA := BA.below hbC
            replace hbw := chain hbw hbC
            have hz_hbC := hbC.size
            have hlC := R2.lt
            (try go_wp2_with fail)
            refine hK.out _ _ ⟨BV.four.1, hbw⟩ (fun hHeld => ?_)
            clear hK K
            try simp only [Act.put, List.setIfInBounds_toArray, List.set_cons_zero, List.set_cons_succ]
            refine wpAnyH_take (i := 12) (oi := { dst := some 52, op := _, type := _, pos := _, after := _, guard := _ }) (v := ?_) rfl (by kernel_rfl) (by kernel_rfl) (by kernel_rfl) (fun _ _ _ h => absurd h.1 (by simp)) (Or.inl ⟨by rfl, ?_⟩) (by assumption) ?_
            rotate_left
            · intro w hSw
              (try dsimp only at hSw)
              go_simp
              (try (with_reducible rfl))
            try simp only [Act.put, List.setIfInBounds_toArray, List.set_cons_zero, List.set_cons_succ]
            refine wpAnyH_ready (rs := [14]) (by kernel_rfl) (by simp) ?_
            refine AllReadyH.cons (o := { dst := none, op := _, type := _, pos := _, after := _, guard := _ }) rfl (fun K hK => ?_) AllReadyH.nil
            obtain ⟨q0, q1, qf, ql⟩ := BA.two
            go_simp
            (try go_wp2_with fail)
            refine hK.out _ _ ⟨(other2 BA BV (by omega)).four.1, below2 BA hbw (by omega)⟩ (fun hHeld => ?_)
            clear hK K
            try simp only [Act.put, List.setIfInBounds_toArray, List.set_cons_zero, List.set_cons_succ]
            refine wpAnyH_done (by kernel_rfl) ?_ _
            rw [HJ.out]
            refine ⟨rfl, _, g1, g2, k1, k2, ?_, (BA.set _).set _, row2 BA R1 (by omega), row2 BA R2 (by omega), other2 BA BV (by omega), other2 BA BR (by omega), hHeld.2, ?_⟩
            · simp only [Act.put, List.setIfInBounds_toArray, List.set_cons_zero, List.set_cons_succ]
            · simp; omega
        · intro a' w8 hj
          rw [HJ.out] at hj
          clear HJ BV BR RL hbw
          obtain ⟨B, g1, g2, k1, k2, rfl, BX, R1, R2, BV, BR, hbw, hs1, hs2, hs3, hs4, hs5, hs6, hs7, hs8⟩ := hj
          try simp only [Act.put, List.setIfInBounds_toArray, List.set_cons_zero, List.set_cons_succ]
          obtain ⟨q0, q1, qf, ql⟩ := BX.two
          obtain ⟨y0, y1, yf, yl⟩ := BR.two
          obtain ⟨x0, x1, x2, x3, xf, xl⟩ := BV.four
          go_wp2_with fail
          clear q0 q1 qf ql y0 y1 yf yl x0 x1 x2 x3 xf xl
          have hd8 : w8.heap.size ≤ w8.drew.heap.size ∧ w8.drew.heap.size ≤ w8.heap.size := ⟨Nat.le_refl _, Nat.le_refl _⟩
          replace BV := BV.drew
          replace BR := BR.drew
          replace BX := BX.drew
          replace R1 := R1.drew
          replace R2 := R2.drew
          replace hbw := hbw.drew
          refine wp_region_held_drew (S := fun w' => w'.cell? ⟨w.heap.size, 0, none⟩ = some (.int .i64 P) ∧ w'.cell? ⟨w.heap.size, 1, none⟩ = some (.int .i64 C) ∧ w'.cell? ⟨w.heap.size, 2, none⟩ = some (.int .i64 h) ∧ w'.cell? ⟨w.heap.size, 3, none⟩ = some (.int .i64 s) ∧ w'.cell? ⟨B, 0, none⟩ = some (.slice (some ⟨g1, 0, none⟩) Z k1) ∧ w'.cell? ⟨B, 1, none⟩ = some (.slice (some ⟨g2, 0, none⟩) Z k2)) (by kernel_rfl) ⟨BV.four.1, BV.four.2.1, BV.four.2.2.1, BV.four.2.2.2.1, BX.two.1, BX.two.2.1⟩ (fun hHeld => ?_)
          clear hHeld
          generalize w8.drew = ve at *
          have hHeld : ve.cell? ⟨w.heap.size, 0, none⟩ = some (.int .i64 P) ∧ ve.cell? ⟨w.heap.size, 1, none⟩ = some (.int .i64 C) ∧ ve.cell? ⟨w.heap.size, 2, none⟩ = some (.int .i64 h) ∧ ve.cell? ⟨w.heap.size, 3, none⟩ = some (.int .i64 s) ∧ ve.cell? ⟨B, 0, none⟩ = some (.slice (some ⟨g1, 0, none⟩) Z k1) ∧ ve.cell? ⟨B, 1, none⟩ = some (.slice (some ⟨g2, 0, none⟩) Z k2) := ⟨BV.four.1, BV.four.2.1, BV.four.2.2.1, BV.four.2.2.2.1, BX.two.1, BX.two.2.1⟩
          refine wpAnyH_take (i := 0) (oi := { dst := some 53, op := _, type := _, pos := _, after := _, guard := _ }) (v := ?_) rfl (by kernel_rfl) (by kernel_rfl) (by kernel_rfl) (fun _ _ _ h => h) (Or.inl ⟨by rfl, ?_⟩) (by assumption) ?_
          rotate_left
          · intro w hSw
            (try dsimp only at hSw)
            go_simp
            (try (with_reducible rfl))
          try simp only [Act.put, List.setIfInBounds_toArray, List.set_cons_zero, List.set_cons_succ]
          refine wpAnyH_take (i := 1) (oi := { dst := some 54, op := _, type := _, pos := _, after := _, guard := _ }) (v := ?_) rfl (by kernel_rfl) (by kernel_rfl) (by kernel_rfl) (fun _ _ _ h => h) (Or.inl ⟨by rfl, ?_⟩) (by assumption) ?_
          rotate_left
          · intro w hSw
            (try dsimp only at hSw)
            go_simp
            (try (with_reducible rfl))
          try simp only [Act.put, List.setIfInBounds_toArray, List.set_cons_zero, List.set_cons_succ]
          refine wpAnyH_take (i := 2) (oi := { dst := some 55, op := _, type := _, pos := _, after := _, guard := _ }) (v := ?_) rfl (by kernel_rfl) (by kernel_rfl) (by kernel_rfl) (fun _ _ _ h => h) (Or.inl ⟨by rfl, ?_⟩) (by assumption) ?_
          rotate_left
          · intro w hSw
            (try dsimp only at hSw)
            go_simp
            (try (with_reducible rfl))
          try simp only [Act.put, List.setIfInBounds_toArray, List.set_cons_zero, List.set_cons_succ]
          refine wpAnyH_ready (rs := [3]) (by kernel_rfl) (by simp) ?_
          refine AllReadyH.cons (o := { dst := some 56, op := _, type := _, pos := _, after := _, guard := _ }) rfl (fun K hK => ?_) AllReadyH.nil
          go_simp
          refine (HIB.out g1 g2 k1 k2 _ R1 R2).mono ?_
          rintro e w9 ⟨rfl, hb9⟩
          replace BV := BV.below hb9
          replace BR := BR.below hb9
          replace BX := BX.below hb9
          replace R1 := R1.below hb9
          replace R2 := R2.below hb9
          have hz9 := hb9.size
          replace hbw := chain hbw hb9
          (try go_wp2_with fail)
          refine hK.out _ _ ⟨BV.four.1, BV.four.2.1, BV.four.2.2.1, BV.four.2.2.2.1, BX.two.1, BX.two.2.1⟩ (fun hHeld => ?_)
          clear hK K
          try simp only [Act.put, List.setIfInBounds_toArray, List.set_cons_zero, List.set_cons_succ]
          refine wpAnyH_ready (rs := [4]) (by kernel_rfl) (by simp) ?_
          refine AllReadyH.cons (o := { dst := none, op := _, type := _, pos := _, after := _, guard := _ }) rfl (fun K hK => ?_) AllReadyH.nil
          obtain ⟨y0, y1, yf, yl⟩ := BR.two
          go_simp
          (try go_wp2_with fail)
          refine hK.out _ _ ⟨(other2 BR BV (by omega)).four.1, (other2 BR BV (by omega)).four.2.1, (other2 BR BV (by omega)).four.2.2.1, (other2 BR BV (by omega)).four.2.2.2.1, (other2 BR BX (by omega)).two.1, (other2 BR BX (by omega)).two.2.1⟩ (fun hHeld => ?_)
          clear hK K
          try simp only [Act.put, List.setIfInBounds_toArray, List.set_cons_zero, List.set_cons_succ]
          refine wpAnyH_take (i := 5) (oi := { dst := some 5, op := _, type := _, pos := _, after := _, guard := _ }) (v := ?_) rfl (by kernel_rfl) (by kernel_rfl) (by kernel_rfl) (fun _ _ _ h => h) (Or.inl ⟨by rfl, ?_⟩) (by assumption) ?_
          rotate_left
          · intro w hSw
            (try dsimp only at hSw)
            go_simp
            (try (with_reducible rfl))
          try simp only [Act.put, List.setIfInBounds_toArray, List.set_cons_zero, List.set_cons_succ]
          refine wpAnyH_done (by kernel_rfl) ?_ _
          go_wp2_with fail
          have BRn := (BR.set (i := 0) (.slice (some ⟨g1, 0, none⟩) Z k1)).set (i := 1) (.slice (some ⟨g2, 0, none⟩) Z k2)
          obtain ⟨z0, z1, zf, zl⟩ := BRn.two
          refine bodyPost_ret (v := .tuple #[.agg #[.slice (some ⟨g1, 0, none⟩) Z k1, .slice (some ⟨g2, 0, none⟩) Z k2], .bool R]) (by simp [results, Try.results85, go_sem, z0, z1]) rfl ?_
          exact ⟨_, _, _, _, by rw [HLX.out, HLY.out], .inr ⟨g1, g2, rfl, rfl, hs1, by omega, by simp; omega, by omega, by simp; omega, row2 BR R1 (by omega), row2 BR R2 (by omega)⟩, below2 BR hbw (by omega)⟩
      · subst hX hY hR
        obtain ⟨la, lk, rfl, hlk, hlm⟩ := hO.formCap
        obtain ⟨y0, y1, yf, yl⟩ := BR.two
        have BRn := (BR.set (i := 0) (.slice none 0 0)).set (i := 1) (.slice none 0 0)
        obtain ⟨z0, z1, zf, zl⟩ := BRn.two
        have hbe := below2 (v0 := .slice none 0 0) (v1 := .slice none 0 0) BR hbw (by omega)
        by_cases hn0 : 0 < n
        · have hn0' : (0 : Int) < (n : Int) := by omega
          clear hno HC hlm
          go_wp2_with fail
          refine bodyPost_ret (v := .tuple #[.agg #[.slice none 0 0, .slice none 0 0], .bool false]) (by simp [results, Try.results85, go_sem, z0, z1]) rfl ?_
          exact ⟨none, none, 0, 0, rfl, .inl ⟨rfl, rfl, rfl, rfl⟩, hbe⟩
        · obtain rfl : n = 0 := by omega
          have hne : ((L.length : Int) != 2 * (P : Int) + 2) = true := by
            rw [bne_iff_ne]
            intro e
            exact hno ⟨rfl, by omega⟩
          clear hno HC hlm hn0
          go_wp2_with fail
          refine bodyPost_ret (v := .tuple #[.agg #[.slice none 0 0, .slice none 0 0], .bool false]) (by simp [results, Try.results85, go_sem, z0, z1]) rfl ?_
          exact ⟨none, none, 0, 0, rfl, .inl ⟨rfl, rfl, rfl, rfl⟩, hbe⟩
end Go.Proofs.Ytkddeoifdecniaa
