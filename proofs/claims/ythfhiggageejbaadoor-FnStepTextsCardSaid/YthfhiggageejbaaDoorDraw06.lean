/- The model's draws of chapter 6: a step, a damaged text. -/
import Derived.Test.YthfhiggageejbaaDoorSrc4
import Derived.Test.YthfhiggageejbaaDoorL01t
import Derived.Test.YthfhiggageejbaaDoorStp
import Derived.Test.YthfhiggageejbaaDoor06f
import Derived.RegionTactic
import Derived.Lib.MinMax
import Derived.Deep.RegionWith
namespace Go.Proofs.YthfhiggageejbaaDoor
open Go.ChangeShapes Go.WideShapes Go.ChangeAt Go.RowKit
set_option linter.unusedVariables false
set_option linter.unusedSimpArgs false

theorem wp_region_joinD {P : Program} {c : Code} {Q : Exit → Act → World → Prop} {a : Act} {w : World} (J : Act → Act → World → Prop) (h1 : Code.wp P c (fun e a' w' => e = .normal ∧ J a a' w') a w)
    (h2 : ∀ a' w', J a a' w' → Q .normal a' w') : Code.wp P c Q a w :=
  Code.wp_mono (fun e a w h => by obtain ⟨rfl, hj⟩ := h; exact h2 _ _ hj) h1
/-- A text has been drawn. -/
def TextPost (B g : Nat) (a : Option Addr) (len cap : Nat) (w : World) (e : Ending) (w' : World) : Prop :=
  ∃ u : ByteArray, e = .returned (.string u) ∧ u.size ≤ 5000 ∧ Src B w' g a len cap ∧ w.grownBy w' (some g)
theorem oddTexts_get (k : Nat) (h : k < 8) : ∃ X : ByteArray, (#[.string ⟨#[48]⟩, .string ⟨#[47]⟩, .string ⟨#[32]⟩, .string ⟨#[42]⟩, .string ⟨#[111, 102, 102]⟩, .string ⟨#[98, 97, 114]⟩, .string ⟨#[40]⟩, .string ⟨#[49, 41]⟩] : Array Value)[k]? = some (.string X) ∧ X.size ≤ 3 := by
  rcases (by omega : k = 0 ∨ k = 1 ∨ k = 2 ∨ k = 3 ∨ k = 4 ∨ k = 5 ∨ k = 6 ∨ k = 7) with rfl | rfl | rfl | rfl | rfl | rfl | rfl | rfl <;> exact ⟨_, rfl, by decide⟩
theorem Src.drewN {B g : Nat} {a : Option Addr} {len cap : Nat} {w : World} (h : Src B w g a len cap) (n : Nat) : Src B (w.drewN n) g a len cap := by
  induction n with
  | zero => exact h
  | succ n ih => exact ih.drew
theorem extract_size (t : ByteArray) (i j : Nat) : (t.extract i j).size ≤ t.size := by
  simp [ByteArray.size_extract]; omega

set_option maxHeartbeats 1000000 in
theorem damage06_any (B g : Nat) (a : Option Addr) (len cap : Nat) (t : ByteArray) (w : World) (hS : Src B w g a len cap) (ht : t.size ≤ 1000) :
    Calls Tryd.prog 45 #[.pointer (some ⟨g, 0, none⟩), .string t] w (TextPost B g a len cap w) := by
  have hl := hS.lt
  go_enter Tryd.func45, Tryd.ntmps45
  go_wp2_with fail
  refine (next_any B g a len cap ((t.size : Int) + 1) _ hS (by omega)).mono ?_
  rintro e w1 ⟨r1, rfl, q1, u1, hS1, hG1⟩
  go_wp2_with fail
  refine (next_any B g a len cap 8 _ hS1 (by omega)).mono ?_
  rintro e w2 ⟨r2, rfl, q2, u2, hS2, hG2⟩
  replace hG2 := grown_trans hG1 hG2
  clear hS hS1 hG1
  have hl2 := hS2.lt
  obtain ⟨k, rfl⟩ := Int.eq_ofNat_of_zero_le q1
  have hk : (k : Int) ≤ (t.size : Int) := by omega
  have hk0 : (0 : Int) ≤ (k : Int) := by omega
  rcases (by omega : r2 = 0 ∨ r2 = 1 ∨ r2 = 2 ∨ 3 ≤ r2) with rfl | rfl | rfl | hr
  · go_wp2
    go_ret
    refine ⟨_, rfl, ?_, hS2, hG2⟩
    have := extract_size t 0 k
    omega
  · have z1 : (t.extract 0 k).size ≤ 1000 := Nat.le_trans (extract_size _ _ _) ht
    have z2 : (t.extract k t.size).size ≤ 1000 := Nat.le_trans (extract_size _ _ _) ht
    go_wp2_with fail
    go_region_with (go_at_call 58; refine (next_any B g a len cap 8 _ (by first | exact hS2.drew | exact (hS2.alloc _).drew | exact hS2.drew.alloc _) (by omega)).mono ?_; rintro e w3 ⟨r3, rfl, q3, u3, hS3, hg⟩; obtain ⟨j, rfl⟩ := Int.eq_ofNat_of_zero_le q3; obtain ⟨X, hX, hXs⟩ := oddTexts_get j (by omega); obtain ⟨T1, _, y1, k1⟩ := cat_run z1 hXs (by omega); obtain ⟨T2, _, y2, k2⟩ := cat_run y1 z2 (by omega); try have hc : w3.cell? ⟨w2.heap.size, j, none⟩ = some (.string X) := by rw [((Blk.new w2 _ _).drew.grown hg (by omega)).cell j]; exact hX)
    all_goals go_wp2
    all_goals go_ret
    all_goals refine ⟨_, rfl, by rw [ByteArray.size_append, ByteArray.size_append]; omega, ?_, ?_⟩
    all_goals first
      | exact hS3
      | exact hS3.alloc _
      | exact grown_trans hG2 (grown_trans (grown_drew (World.grownBy_alloc w2 _ _)) hg)
      | exact grown_alloc (grown_trans hG2 (grown_trans (grown_drew (grown_refl _ _)) hg)) _
  · by_cases hlt : k < t.size
    · have f1 : decide ((k : Int) < (t.size : Int)) = true := by simp; omega
      have hlt' : (k : Int) + 1 ≤ (t.size : Int) := by omega
      have z1 : (t.extract 0 k).size ≤ 1000 := Nat.le_trans (extract_size _ _ _) ht
      have z2 : (t.extract (k + 1) t.size).size ≤ 1000 := Nat.le_trans (extract_size _ _ _) ht
      go_wp2_with fail
      go_quiet (fail)
      go_wp2
      go_ret
      exact ⟨_, rfl, by rw [ByteArray.size_append]; omega, Src.drewN hS2 _, grown_drewN hG2 _⟩
    · have f1 : decide ((k : Int) < (t.size : Int)) = false := by simp; omega
      go_wp2
      go_ret
      exact ⟨_, rfl, by omega, hS2, hG2⟩
  · have f0 : (r2 == 0) = false := by rw [beq_eq_false_iff_ne]; omega
    have f1 : (r2 == 1) = false := by rw [beq_eq_false_iff_ne]; omega
    have f2 : (r2 == 2) = false := by rw [beq_eq_false_iff_ne]; omega
    go_wp2
    go_ret
    exact ⟨_, rfl, by omega, hS2, hG2⟩
/-- A step has been drawn. -/
def StepPost06 (B g : Nat) (a : Option Addr) (len cap : Nat) (w : World) (e : Ending) (w' : World) : Prop :=
  ∃ t : Stp, e = .returned (stV t) ∧ Src B w' g a len cap ∧ w.grownBy w' (some g)
set_option maxRecDepth 8000 in
set_option maxHeartbeats 1000000 in
theorem drawStep06_any (B g : Nat) (p c h s : Int) (a0 : Option Addr) (len cap : Nat) (w : World) (p0 : -1000 ≤ p) (p1 : p ≤ 1000) (s0 : -1000 ≤ s) (s1 : s ≤ 1000) (hS : Src B w g a0 len cap) :
    Calls Tryd.prog 38 #[.pointer (some ⟨g, 0, none⟩), .agg #[.int .i64 p, .int .i64 c, .int .i64 h, .int .i64 s]] w (StepPost06 B g a0 len cap w) := by
  have hl := hS.lt
  have hBg := hS.base
  obtain ⟨BV, BZ, hb, hz⟩ := two_new w #[.int .i64 p, .int .i64 c, .int .i64 h, .int .i64 s] #[.int .i64 0, .int .i64 0, .int .i64 0, .bool false] 29 38
  replace hS := hS.below hb
  have hG : w.grownBy ((w.alloc (.cells #[.int .i64 p, .int .i64 c, .int .i64 h, .int .i64 s] 29)).alloc (.cells #[.int .i64 0, .int .i64 0, .int .i64 0, .bool false] 38)) (some g) := grown_of_below hb _
  have wz : IntKind.i64.wrap (p + 1) = p + 1 := IntWalk.i64_in _ (by omega)
  obtain ⟨x0, x1, x2, x3, xf, xl⟩ := BV.four
  go_enter Tryd.func38, Tryd.ntmps38
  go_wp2_with fail
  clear x0 x1 x2 x3 xf xl hb
  generalize ((w.alloc (.cells #[.int .i64 p, .int .i64 c, .int .i64 h, .int .i64 s] 29)).alloc (.cells #[.int .i64 0, .int .i64 0, .int .i64 0, .bool false] 38)) = v0 at *
  obtain ⟨J, hJ⟩ : ∃ J : Act → Act → World → Prop, J = fun a a' w' => ∃ (bx : Nat) (r1 r2 : Int), a' = ((((((((((((a.put (some 6) (.pointer (some ⟨g, 0, none⟩))).put (some 7) (.pointer (some ⟨w.heap.size, 0, none⟩))).put (some 8) (.int .i64 p)).put (some 9) (.int .i64 (p + 1))).put (some 10) (.int .i64 r1)).put (some 11) (.pointer (some ⟨g, 0, none⟩))).put (some 12) (.pointer (some ⟨w.heap.size, 3, none⟩))).put (some 13) (.int .i64 s)).put (some 14) (.int .i64 r2)).put (some 15) (.int .i64 (1 + r2))).put (some 16) (.agg #[.int .i64 r1, .int .i64 0, .int .i64 (1 + r2), .bool false])).put (some 5) (.pointer (some ⟨bx, 0, none⟩))) ∧ (0 ≤ r1 ∧ r1 ≤ 1001 ∧ 0 ≤ r2 ∧ r2 ≤ 1001) ∧ w.heap.size + 1 < bx ∧ Blk w' bx #[.int .i64 r1, .int .i64 0, .int .i64 (1 + r2), .bool false] 38 ∧ Blk w' w.heap.size #[.int .i64 p, .int .i64 c, .int .i64 h, .int .i64 s] 29 ∧ Blk w' (w.heap.size + 1) #[.int .i64 0, .int .i64 0, .int .i64 0, .bool false] 38 ∧ Src B w' g a0 len cap ∧ w.grownBy w' (some g) := ⟨_, rfl⟩
  have HJ := Lib.hid hJ
  clear hJ
  replace BV := BV.drew
  replace BZ := BZ.drew
  replace hS := hS.drew
  replace hG := grown_drew hG
  refine wp_region_joinD J ?_ ?_
  · skip
    refine wp_region_held_drew (S := fun w' => w'.cell? ⟨w.heap.size, 0, none⟩ = some (.int .i64 p) ∧ w'.cell? ⟨w.heap.size, 1, none⟩ = some (.int .i64 c) ∧ w'.cell? ⟨w.heap.size, 2, none⟩ = some (.int .i64 h) ∧ w'.cell? ⟨w.heap.size, 3, none⟩ = some (.int .i64 s)) (by kernel_rfl) ⟨BV.four.1, BV.four.2.1, BV.four.2.2.1, BV.four.2.2.2.1⟩ (fun hHeld => ?_)
    clear hHeld
    generalize v0.drew = vd at *
    have hHeld : vd.cell? ⟨w.heap.size, 0, none⟩ = some (.int .i64 p) ∧ vd.cell? ⟨w.heap.size, 1, none⟩ = some (.int .i64 c) ∧ vd.cell? ⟨w.heap.size, 2, none⟩ = some (.int .i64 h) ∧ vd.cell? ⟨w.heap.size, 3, none⟩ = some (.int .i64 s) := ⟨BV.four.1, BV.four.2.1, BV.four.2.2.1, BV.four.2.2.2.1⟩
    refine wpAnyH_take (i := 0) (oi := { dst := some 6, op := _, type := _, pos := _, after := _, guard := _ }) (v := ?_) rfl (by kernel_rfl) (by kernel_rfl) (by kernel_rfl) (fun _ _ _ h => absurd h.1 (by simp)) (Or.inl ⟨by rfl, ?_⟩) (by assumption) ?_
    rotate_left
    · intro w hSw
      (try dsimp only at hSw)
      go_simp
      (try (with_reducible rfl))
    try simp only [Act.put, List.setIfInBounds_toArray, List.set_cons_zero, List.set_cons_succ]
    refine wpAnyH_take (i := 1) (oi := { dst := some 7, op := _, type := _, pos := _, after := _, guard := _ }) (v := ?_) rfl (by kernel_rfl) (by kernel_rfl) (by kernel_rfl) (fun _ _ _ h => absurd h.1 (by simp)) (Or.inl ⟨by rfl, ?_⟩) (by assumption) ?_
    rotate_left
    · intro w hSw
      (try dsimp only at hSw)
      go_simp
      (try (with_reducible rfl))
    try simp only [Act.put, List.setIfInBounds_toArray, List.set_cons_zero, List.set_cons_succ]
    refine wpAnyH_take (i := 2) (oi := { dst := some 8, op := _, type := _, pos := _, after := _, guard := _ }) (v := ?_) rfl (by kernel_rfl) (by kernel_rfl) (by kernel_rfl) (fun _ _ _ h => absurd h.1 (by simp)) (Or.inl ⟨by rfl, ?_⟩) (by assumption) ?_
    rotate_left
    · intro w hSw
      (try dsimp only at hSw)
      go_simp
      (try (with_reducible rfl))
    try simp only [Act.put, List.setIfInBounds_toArray, List.set_cons_zero, List.set_cons_succ]
    refine wpAnyH_take (i := 3) (oi := { dst := some 9, op := _, type := _, pos := _, after := _, guard := _ }) (v := ?_) rfl (by kernel_rfl) (by kernel_rfl) (by kernel_rfl) (fun _ _ _ h => absurd h.1 (by simp)) (Or.inl ⟨by rfl, ?_⟩) (by assumption) ?_
    rotate_left
    · intro w hSw
      (try dsimp only at hSw)
      go_simp
      (try (with_reducible rfl))
    try simp only [Act.put, List.setIfInBounds_toArray, List.set_cons_zero, List.set_cons_succ]
    refine wpAnyH_take (i := 5) (oi := { dst := some 11, op := _, type := _, pos := _, after := _, guard := _ }) (v := ?_) rfl (by kernel_rfl) (by kernel_rfl) (by kernel_rfl) (fun _ _ _ h => absurd h.1 (by simp)) (Or.inl ⟨by rfl, ?_⟩) (by assumption) ?_
    rotate_left
    · intro w hSw
      (try dsimp only at hSw)
      go_simp
      (try (with_reducible rfl))
    try simp only [Act.put, List.setIfInBounds_toArray, List.set_cons_zero, List.set_cons_succ]
    refine wpAnyH_take (i := 6) (oi := { dst := some 12, op := _, type := _, pos := _, after := _, guard := _ }) (v := ?_) rfl (by kernel_rfl) (by kernel_rfl) (by kernel_rfl) (fun _ _ _ h => absurd h.1 (by simp)) (Or.inl ⟨by rfl, ?_⟩) (by assumption) ?_
    rotate_left
    · intro w hSw
      (try dsimp only at hSw)
      go_simp
      (try (with_reducible rfl))
    try simp only [Act.put, List.setIfInBounds_toArray, List.set_cons_zero, List.set_cons_succ]
    refine wpAnyH_take (i := 7) (oi := { dst := some 13, op := _, type := _, pos := _, after := _, guard := _ }) (v := ?_) rfl (by kernel_rfl) (by kernel_rfl) (by kernel_rfl) (fun _ _ _ h => absurd h.1 (by simp)) (Or.inl ⟨by rfl, ?_⟩) (by assumption) ?_
    rotate_left
    · intro w hSw
      (try dsimp only at hSw)
      go_simp
      (try (with_reducible rfl))
    try simp only [Act.put, List.setIfInBounds_toArray, List.set_cons_zero, List.set_cons_succ]
    refine wpAnyH_ready (rs := [4, 11]) (by kernel_rfl) (by simp) ?_
    refine AllReadyH.cons (o := { dst := some 10, op := _, type := _, pos := _, after := _, guard := _ }) rfl (fun K hK => ?_) (AllReadyH.cons (o := { dst := some 5, op := _, type := _, pos := _, after := _, guard := _ }) rfl (fun K hK => ?_) AllReadyH.nil)
    · go_simp
      refine (next_any B g a0 len cap (p + 1) _ hS (by omega)).mono ?_
      rintro e wA ⟨r1, rfl, q_r1, u_r1, hS, hg⟩
      replace BV := BV.grown hg (by omega)
      replace BZ := BZ.grown hg (by omega)
      replace hG := grown_trans hG hg
      clear hg
      (try go_wp2_with fail)
      refine hK.out _ _ ⟨BV.four.1, BV.four.2.1, BV.four.2.2.1, BV.four.2.2.2.1⟩ (fun hHeld => ?_)
      clear hK K
      try simp only [Act.put, List.setIfInBounds_toArray, List.set_cons_zero, List.set_cons_succ]
      refine wpAnyH_ready (rs := [8, 11]) (by kernel_rfl) (by simp) ?_
      refine AllReadyH.cons (o := { dst := some 14, op := _, type := _, pos := _, after := _, guard := _ }) rfl (fun K hK => ?_) (AllReadyH.cons (o := { dst := some 5, op := _, type := _, pos := _, after := _, guard := _ }) rfl (fun K hK => ?_) AllReadyH.nil)
      · go_simp
        refine (next_any B g a0 len cap s _ hS (by omega)).mono ?_
        rintro e wB ⟨r2, rfl, q_r2, u_r2, hS, hg⟩
        replace BV := BV.grown hg (by omega)
        replace BZ := BZ.grown hg (by omega)
        replace hG := grown_trans hG hg
        clear hg
        have wz2 : IntKind.i64.wrap (1 + r2) = 1 + r2 := IntWalk.i64_in _ (by omega)
        (try go_wp2_with fail)
        refine hK.out _ _ ⟨BV.four.1, BV.four.2.1, BV.four.2.2.1, BV.four.2.2.2.1⟩ (fun hHeld => ?_)
        clear hK K
        try simp only [Act.put, List.setIfInBounds_toArray, List.set_cons_zero, List.set_cons_succ]
        refine wpAnyH_take (i := 9) (oi := { dst := some 15, op := _, type := _, pos := _, after := _, guard := _ }) (v := ?_) rfl (by kernel_rfl) (by kernel_rfl) (by kernel_rfl) (fun _ _ _ h => absurd h.1 (by simp)) (Or.inl ⟨by rfl, ?_⟩) (by assumption) ?_
        rotate_left
        · intro w hSw
          (try dsimp only at hSw)
          go_simp
          (try (with_reducible rfl))
        try simp only [Act.put, List.setIfInBounds_toArray, List.set_cons_zero, List.set_cons_succ]
        refine wpAnyH_take (i := 10) (oi := { dst := some 16, op := _, type := _, pos := _, after := _, guard := _ }) (v := ?_) rfl (by kernel_rfl) (by kernel_rfl) (by kernel_rfl) (fun _ _ _ h => absurd h.1 (by simp)) (Or.inl ⟨by rfl, ?_⟩) (by assumption) ?_
        rotate_left
        · intro w hSw
          (try dsimp only at hSw)
          go_simp
          (try (with_reducible rfl))
        try simp only [Act.put, List.setIfInBounds_toArray, List.set_cons_zero, List.set_cons_succ]
        refine wpAnyH_ready (rs := [11]) (by kernel_rfl) (by simp) ?_
        refine AllReadyH.cons (o := { dst := some 5, op := _, type := _, pos := _, after := _, guard := _ }) rfl (fun K hK => ?_) AllReadyH.nil
        go_simp
        refine hK.out _ _ ⟨(BV.alloc _).four.1, (BV.alloc _).four.2.1, (BV.alloc _).four.2.2.1, (BV.alloc _).four.2.2.2.1⟩ (fun hHeld => ?_)
        clear hK K
        try simp only [Act.put, List.setIfInBounds_toArray, List.set_cons_zero, List.set_cons_succ]
        have BX := Blk.new wB #[.int .i64 0, .int .i64 0, .int .i64 0, .bool false] 38
        have hbn := BZ.lt
        replace BV := BV.alloc (.cells #[.int .i64 0, .int .i64 0, .int .i64 0, .bool false] 38)
        replace BZ := BZ.alloc (.cells #[.int .i64 0, .int .i64 0, .int .i64 0, .bool false] 38)
        replace hS := hS.alloc (.cells #[.int .i64 0, .int .i64 0, .int .i64 0, .bool false] 38)
        replace hG := grown_alloc hG (.cells #[.int .i64 0, .int .i64 0, .int .i64 0, .bool false] 38)
        generalize wB.heap.size = bx at *
        generalize wB.alloc (.cells #[.int .i64 0, .int .i64 0, .int .i64 0, .bool false] 38) = wN at *
        refine wpAnyH_ready (rs := [12]) (by kernel_rfl) (by simp) ?_
        refine AllReadyH.cons (o := { dst := none, op := _, type := _, pos := _, after := _, guard := _ }) rfl (fun K hK => ?_) AllReadyH.nil
        obtain ⟨k0, k1, k2, k3, kf, kl⟩ := BX.four
        go_simp
        (try go_wp2_with fail)
        refine hK.out _ _ ⟨(((((BV).other (by omega)).other (by omega)).other (by omega)).other (by omega)).four.1, (((((BV).other (by omega)).other (by omega)).other (by omega)).other (by omega)).four.2.1, (((((BV).other (by omega)).other (by omega)).other (by omega)).other (by omega)).four.2.2.1, (((((BV).other (by omega)).other (by omega)).other (by omega)).other (by omega)).four.2.2.2.1⟩ (fun hHeld => ?_)
        clear hK K
        try simp only [Act.put, List.setIfInBounds_toArray, List.set_cons_zero, List.set_cons_succ]
        refine wpAnyH_done (by kernel_rfl) ?_ _
        rw [HJ.out]
        refine ⟨rfl, bx, r1, r2, ?_, ⟨by omega, by omega, by omega, by omega⟩, by omega, by simpa using (((((BX).set (i := 0) (.int .i64 r1)).set (i := 1) (.int .i64 0)).set (i := 2) (.int .i64 (1 + r2))).set (i := 3) (.bool false)), (((((BV).other (by omega)).other (by omega)).other (by omega)).other (by omega)), (((((BZ).other (by omega)).other (by omega)).other (by omega)).other (by omega)), ((((hS.set (by omega) (by omega)).set (by omega) (by omega)).set (by omega) (by omega)).set (by omega) (by omega)), (grown_new (grown_new (grown_new (grown_new hG (by omega)) (by omega)) (by omega)) (by omega))⟩
        (first | (simp only [Act.put, List.setIfInBounds_toArray, List.set_cons_zero, List.set_cons_succ]; done) | rfl)
      · go_simp
        refine hK.out _ _ ⟨(BV.alloc _).four.1, (BV.alloc _).four.2.1, (BV.alloc _).four.2.2.1, (BV.alloc _).four.2.2.2.1⟩ (fun hHeld => ?_)
        clear hK K
        try simp only [Act.put, List.setIfInBounds_toArray, List.set_cons_zero, List.set_cons_succ]
        have BX := Blk.new wA #[.int .i64 0, .int .i64 0, .int .i64 0, .bool false] 38
        have hbn := BZ.lt
        replace BV := BV.alloc (.cells #[.int .i64 0, .int .i64 0, .int .i64 0, .bool false] 38)
        replace BZ := BZ.alloc (.cells #[.int .i64 0, .int .i64 0, .int .i64 0, .bool false] 38)
        replace hS := hS.alloc (.cells #[.int .i64 0, .int .i64 0, .int .i64 0, .bool false] 38)
        replace hG := grown_alloc hG (.cells #[.int .i64 0, .int .i64 0, .int .i64 0, .bool false] 38)
        generalize wA.heap.size = bx at *
        generalize wA.alloc (.cells #[.int .i64 0, .int .i64 0, .int .i64 0, .bool false] 38) = wN at *
        refine wpAnyH_ready (rs := [8]) (by kernel_rfl) (by simp) ?_
        refine AllReadyH.cons (o := { dst := some 14, op := _, type := _, pos := _, after := _, guard := _ }) rfl (fun K hK => ?_) AllReadyH.nil
        go_simp
        refine (next_any B g a0 len cap s _ hS (by omega)).mono ?_
        rintro e wB ⟨r2, rfl, q_r2, u_r2, hS, hg⟩
        replace BV := BV.grown hg (by omega)
        replace BZ := BZ.grown hg (by omega)
        replace hG := grown_trans hG hg
        replace BX := BX.grown hg (by omega)
        clear hg
        have wz2 : IntKind.i64.wrap (1 + r2) = 1 + r2 := IntWalk.i64_in _ (by omega)
        (try go_wp2_with fail)
        refine hK.out _ _ ⟨BV.four.1, BV.four.2.1, BV.four.2.2.1, BV.four.2.2.2.1⟩ (fun hHeld => ?_)
        clear hK K
        try simp only [Act.put, List.setIfInBounds_toArray, List.set_cons_zero, List.set_cons_succ]
        refine wpAnyH_take (i := 9) (oi := { dst := some 15, op := _, type := _, pos := _, after := _, guard := _ }) (v := ?_) rfl (by kernel_rfl) (by kernel_rfl) (by kernel_rfl) (fun _ _ _ h => absurd h.1 (by simp)) (Or.inl ⟨by rfl, ?_⟩) (by assumption) ?_
        rotate_left
        · intro w hSw
          (try dsimp only at hSw)
          go_simp
          (try (with_reducible rfl))
        try simp only [Act.put, List.setIfInBounds_toArray, List.set_cons_zero, List.set_cons_succ]
        refine wpAnyH_take (i := 10) (oi := { dst := some 16, op := _, type := _, pos := _, after := _, guard := _ }) (v := ?_) rfl (by kernel_rfl) (by kernel_rfl) (by kernel_rfl) (fun _ _ _ h => absurd h.1 (by simp)) (Or.inl ⟨by rfl, ?_⟩) (by assumption) ?_
        rotate_left
        · intro w hSw
          (try dsimp only at hSw)
          go_simp
          (try (with_reducible rfl))
        try simp only [Act.put, List.setIfInBounds_toArray, List.set_cons_zero, List.set_cons_succ]
        refine wpAnyH_ready (rs := [12]) (by kernel_rfl) (by simp) ?_
        refine AllReadyH.cons (o := { dst := none, op := _, type := _, pos := _, after := _, guard := _ }) rfl (fun K hK => ?_) AllReadyH.nil
        obtain ⟨k0, k1, k2, k3, kf, kl⟩ := BX.four
        go_simp
        (try go_wp2_with fail)
        refine hK.out _ _ ⟨(((((BV).other (by omega)).other (by omega)).other (by omega)).other (by omega)).four.1, (((((BV).other (by omega)).other (by omega)).other (by omega)).other (by omega)).four.2.1, (((((BV).other (by omega)).other (by omega)).other (by omega)).other (by omega)).four.2.2.1, (((((BV).other (by omega)).other (by omega)).other (by omega)).other (by omega)).four.2.2.2.1⟩ (fun hHeld => ?_)
        clear hK K
        try simp only [Act.put, List.setIfInBounds_toArray, List.set_cons_zero, List.set_cons_succ]
        refine wpAnyH_done (by kernel_rfl) ?_ _
        rw [HJ.out]
        refine ⟨rfl, bx, r1, r2, ?_, ⟨by omega, by omega, by omega, by omega⟩, by omega, by simpa using (((((BX).set (i := 0) (.int .i64 r1)).set (i := 1) (.int .i64 0)).set (i := 2) (.int .i64 (1 + r2))).set (i := 3) (.bool false)), (((((BV).other (by omega)).other (by omega)).other (by omega)).other (by omega)), (((((BZ).other (by omega)).other (by omega)).other (by omega)).other (by omega)), ((((hS.set (by omega) (by omega)).set (by omega) (by omega)).set (by omega) (by omega)).set (by omega) (by omega)), (grown_new (grown_new (grown_new (grown_new hG (by omega)) (by omega)) (by omega)) (by omega))⟩
        (first | (simp only [Act.put, List.setIfInBounds_toArray, List.set_cons_zero, List.set_cons_succ]; done) | rfl)
    · go_simp
      refine hK.out _ _ ⟨(BV.alloc _).four.1, (BV.alloc _).four.2.1, (BV.alloc _).four.2.2.1, (BV.alloc _).four.2.2.2.1⟩ (fun hHeld => ?_)
      clear hK K
      try simp only [Act.put, List.setIfInBounds_toArray, List.set_cons_zero, List.set_cons_succ]
      have BX := Blk.new vd #[.int .i64 0, .int .i64 0, .int .i64 0, .bool false] 38
      have hbn := BZ.lt
      replace BV := BV.alloc (.cells #[.int .i64 0, .int .i64 0, .int .i64 0, .bool false] 38)
      replace BZ := BZ.alloc (.cells #[.int .i64 0, .int .i64 0, .int .i64 0, .bool false] 38)
      replace hS := hS.alloc (.cells #[.int .i64 0, .int .i64 0, .int .i64 0, .bool false] 38)
      replace hG := grown_alloc hG (.cells #[.int .i64 0, .int .i64 0, .int .i64 0, .bool false] 38)
      generalize vd.heap.size = bx at *
      generalize vd.alloc (.cells #[.int .i64 0, .int .i64 0, .int .i64 0, .bool false] 38) = wN at *
      refine wpAnyH_ready (rs := [4]) (by kernel_rfl) (by simp) ?_
      refine AllReadyH.cons (o := { dst := some 10, op := _, type := _, pos := _, after := _, guard := _ }) rfl (fun K hK => ?_) AllReadyH.nil
      go_simp
      refine (next_any B g a0 len cap (p + 1) _ hS (by omega)).mono ?_
      rintro e wA ⟨r1, rfl, q_r1, u_r1, hS, hg⟩
      replace BV := BV.grown hg (by omega)
      replace BZ := BZ.grown hg (by omega)
      replace hG := grown_trans hG hg
      replace BX := BX.grown hg (by omega)
      clear hg
      (try go_wp2_with fail)
      refine hK.out _ _ ⟨BV.four.1, BV.four.2.1, BV.four.2.2.1, BV.four.2.2.2.1⟩ (fun hHeld => ?_)
      clear hK K
      try simp only [Act.put, List.setIfInBounds_toArray, List.set_cons_zero, List.set_cons_succ]
      refine wpAnyH_ready (rs := [8]) (by kernel_rfl) (by simp) ?_
      refine AllReadyH.cons (o := { dst := some 14, op := _, type := _, pos := _, after := _, guard := _ }) rfl (fun K hK => ?_) AllReadyH.nil
      go_simp
      refine (next_any B g a0 len cap s _ hS (by omega)).mono ?_
      rintro e wB ⟨r2, rfl, q_r2, u_r2, hS, hg⟩
      replace BV := BV.grown hg (by omega)
      replace BZ := BZ.grown hg (by omega)
      replace hG := grown_trans hG hg
      replace BX := BX.grown hg (by omega)
      clear hg
      have wz2 : IntKind.i64.wrap (1 + r2) = 1 + r2 := IntWalk.i64_in _ (by omega)
      (try go_wp2_with fail)
      refine hK.out _ _ ⟨BV.four.1, BV.four.2.1, BV.four.2.2.1, BV.four.2.2.2.1⟩ (fun hHeld => ?_)
      clear hK K
      try simp only [Act.put, List.setIfInBounds_toArray, List.set_cons_zero, List.set_cons_succ]
      refine wpAnyH_take (i := 9) (oi := { dst := some 15, op := _, type := _, pos := _, after := _, guard := _ }) (v := ?_) rfl (by kernel_rfl) (by kernel_rfl) (by kernel_rfl) (fun _ _ _ h => absurd h.1 (by simp)) (Or.inl ⟨by rfl, ?_⟩) (by assumption) ?_
      rotate_left
      · intro w hSw
        (try dsimp only at hSw)
        go_simp
        (try (with_reducible rfl))
      try simp only [Act.put, List.setIfInBounds_toArray, List.set_cons_zero, List.set_cons_succ]
      refine wpAnyH_take (i := 10) (oi := { dst := some 16, op := _, type := _, pos := _, after := _, guard := _ }) (v := ?_) rfl (by kernel_rfl) (by kernel_rfl) (by kernel_rfl) (fun _ _ _ h => absurd h.1 (by simp)) (Or.inl ⟨by rfl, ?_⟩) (by assumption) ?_
      rotate_left
      · intro w hSw
        (try dsimp only at hSw)
        go_simp
        (try (with_reducible rfl))
      try simp only [Act.put, List.setIfInBounds_toArray, List.set_cons_zero, List.set_cons_succ]
      refine wpAnyH_ready (rs := [12]) (by kernel_rfl) (by simp) ?_
      refine AllReadyH.cons (o := { dst := none, op := _, type := _, pos := _, after := _, guard := _ }) rfl (fun K hK => ?_) AllReadyH.nil
      obtain ⟨k0, k1, k2, k3, kf, kl⟩ := BX.four
      go_simp
      (try go_wp2_with fail)
      refine hK.out _ _ ⟨(((((BV).other (by omega)).other (by omega)).other (by omega)).other (by omega)).four.1, (((((BV).other (by omega)).other (by omega)).other (by omega)).other (by omega)).four.2.1, (((((BV).other (by omega)).other (by omega)).other (by omega)).other (by omega)).four.2.2.1, (((((BV).other (by omega)).other (by omega)).other (by omega)).other (by omega)).four.2.2.2.1⟩ (fun hHeld => ?_)
      clear hK K
      try simp only [Act.put, List.setIfInBounds_toArray, List.set_cons_zero, List.set_cons_succ]
      refine wpAnyH_done (by kernel_rfl) ?_ _
      rw [HJ.out]
      refine ⟨rfl, bx, r1, r2, ?_, ⟨by omega, by omega, by omega, by omega⟩, by omega, by simpa using (((((BX).set (i := 0) (.int .i64 r1)).set (i := 1) (.int .i64 0)).set (i := 2) (.int .i64 (1 + r2))).set (i := 3) (.bool false)), (((((BV).other (by omega)).other (by omega)).other (by omega)).other (by omega)), (((((BZ).other (by omega)).other (by omega)).other (by omega)).other (by omega)), ((((hS.set (by omega) (by omega)).set (by omega) (by omega)).set (by omega) (by omega)).set (by omega) (by omega)), (grown_new (grown_new (grown_new (grown_new hG (by omega)) (by omega)) (by omega)) (by omega))⟩
      (first | (simp only [Act.put, List.setIfInBounds_toArray, List.set_cons_zero, List.set_cons_succ]; done) | rfl)
  · intro a' w1 hj
    rw [HJ.out] at hj
    clear HJ BV BZ hS hG
    obtain ⟨bx, r1, r2, rfl, ⟨b1, b2, b3, b4⟩, hbx, BX, BV, BZ, hS, hG⟩ := hj
    try simp only [Act.put, List.setIfInBounds_toArray, List.set_cons_zero, List.set_cons_succ]
    obtain ⟨d, hd⟩ : ∃ d, 1 + r2 = d := ⟨_, rfl⟩
    rw [hd] at BX ⊢
    have hd1 : 1 ≤ d ∧ d ≤ 1002 := by omega
    obtain ⟨hd1, hd2⟩ := hd1
    obtain ⟨M, hM⟩ : ∃ M, max (-1) (r1 - d) = M := ⟨_, rfl⟩
    have hM1 : -1 ≤ M ∧ M ≤ 1001 := by omega
    obtain ⟨hM1, hM2⟩ := hM1
    have hne1 : ¬ bx = w.heap.size := by omega
    have hne2 : ¬ bx = w.heap.size + 1 := by omega
    have hne3 : ¬ w.heap.size = bx := by omega
    have hne4 : ¬ w.heap.size + 1 = bx := by omega
    clear hd b3 b4
    obtain ⟨k0, k1, k2, k3, kf, kl⟩ := BX.four
    by_cases hM0 : 0 ≤ M
    · go_wp2_with fail
      clear k0 k1 k2 k3 kf kl
      replace BX := BX.set (i := 1) (.int .i64 M)
      replace BV := BV.other (g := bx) (o := 1) (v := .int .i64 M) (by omega)
      replace BZ := BZ.other (g := bx) (o := 1) (v := .int .i64 M) (by omega)
      replace hS := hS.set (g' := bx) (o := 1) (v := .int .i64 M) (by omega) (by omega)
      replace hG := grown_new (g' := bx) (o := 1) (v := .int .i64 M) hG (by omega)
      simp only [List.setIfInBounds_toArray, List.set_cons_zero, List.set_cons_succ] at BX
      have hz_v2 : (w1.setCell ⟨bx, 1, none⟩ (.int .i64 M)).heap.size = w1.heap.size := by simp
      have hbl := BX.lt
      generalize (w1.setCell ⟨bx, 1, none⟩ (.int .i64 M)) = v2 at *
      clear hz_v2
      refine (next_any B g a0 len cap 4 _ hS (by omega)).mono ?_
      rintro e w_r3 ⟨r3, rfl, q_r3, u_r3, hS, hg⟩
      replace BV := BV.grown hg (by omega)
      replace BZ := BZ.grown hg (by omega)
      replace BX := BX.grown hg (by omega)
      replace hG := grown_trans hG hg
      have hz_w_r3 := hg.size
      clear hg
      obtain ⟨q, hq⟩ : ∃ q, (r3 == 0) = q := ⟨_, rfl⟩
      obtain ⟨k0, k1, k2, k3, kf, kl⟩ := BX.four
      go_wp2_with fail
      clear k0 k1 k2 k3 kf kl hq
      replace BX := BX.set (i := 3) (.bool q)
      replace BV := BV.other (g := bx) (o := 3) (v := .bool q) (by omega)
      replace BZ := BZ.other (g := bx) (o := 3) (v := .bool q) (by omega)
      replace hS := hS.set (g' := bx) (o := 3) (v := .bool q) (by omega) (by omega)
      replace hG := grown_new (g' := bx) (o := 3) (v := .bool q) hG (by omega)
      simp only [List.setIfInBounds_toArray, List.set_cons_zero, List.set_cons_succ] at BX
      have hz_v3 : (w_r3.setCell ⟨bx, 3, none⟩ (.bool q)).heap.size = w_r3.heap.size := by simp
      have hbl := BX.lt
      generalize (w_r3.setCell ⟨bx, 3, none⟩ (.bool q)) = v3 at *
      clear hz_v3
      refine (next_any B g a0 len cap 20 _ hS (by omega)).mono ?_
      rintro e w_r4 ⟨r4, rfl, q_r4, u_r4, hS, hg⟩
      replace BV := BV.grown hg (by omega)
      replace BZ := BZ.grown hg (by omega)
      replace BX := BX.grown hg (by omega)
      replace hG := grown_trans hG hg
      have hz_w_r4 := hg.size
      clear hg
      rcases (by omega : r4 = 0 ∨ r4 = 1 ∨ r4 = 2 ∨ r4 = 3 ∨ 4 ≤ r4) with rfl | rfl | rfl | rfl | hr4
      · obtain ⟨x0, x1, x2, x3, xf, xl⟩ := BX.four
        obtain ⟨z0, z1, z2, z3, zf, zl⟩ := BZ.four
        go_wp2
        replace BX := BX.set (i := 2) (.int .i64 (d + 1))
        replace BV := BV.other (g := bx) (o := 2) (v := .int .i64 (d + 1)) (by omega)
        replace BZ := BZ.other (g := bx) (o := 2) (v := .int .i64 (d + 1)) (by omega)
        replace hS := hS.set (g' := bx) (o := 2) (v := .int .i64 (d + 1)) (by omega) (by omega)
        replace hG := grown_new (g' := bx) (o := 2) (v := .int .i64 (d + 1)) hG (by omega)
        simp only [List.setIfInBounds_toArray, List.set_cons_zero, List.set_cons_succ] at BX
        refine bodyPost_ret (v := stV (r1, M, (d + 1), q)) (by first | (simp [results, Tryd.results38, go_sem, z0, z1, z2, z3]; done) | (simp [results, Tryd.results38, go_sem, *]; done)) rfl ?_
        exact ⟨(r1, M, (d + 1), q), rfl, ((((hS.set (g' := w.heap.size + 1) (o := 0) (v := .int .i64 r1) (by omega) (by omega)).set (g' := w.heap.size + 1) (o := 1) (v := .int .i64 M) (by omega) (by omega)).set (g' := w.heap.size + 1) (o := 2) (v := .int .i64 (d + 1)) (by omega) (by omega)).set (g' := w.heap.size + 1) (o := 3) (v := .bool q) (by omega) (by omega)), (grown_new (g' := w.heap.size + 1) (o := 3) (v := .bool q) (grown_new (g' := w.heap.size + 1) (o := 2) (v := .int .i64 (d + 1)) (grown_new (g' := w.heap.size + 1) (o := 1) (v := .int .i64 M) (grown_new (g' := w.heap.size + 1) (o := 0) (v := .int .i64 r1) hG (by omega)) (by omega)) (by omega)) (by omega))⟩
      · obtain ⟨x0, x1, x2, x3, xf, xl⟩ := BX.four
        obtain ⟨z0, z1, z2, z3, zf, zl⟩ := BZ.four
        go_wp2
        replace BX := BX.set (i := 3) (.bool true)
        replace BV := BV.other (g := bx) (o := 3) (v := .bool true) (by omega)
        replace BZ := BZ.other (g := bx) (o := 3) (v := .bool true) (by omega)
        replace hS := hS.set (g' := bx) (o := 3) (v := .bool true) (by omega) (by omega)
        replace hG := grown_new (g' := bx) (o := 3) (v := .bool true) hG (by omega)
        simp only [List.setIfInBounds_toArray, List.set_cons_zero, List.set_cons_succ] at BX
        refine bodyPost_ret (v := stV (r1, M, d, true)) (by first | (simp [results, Tryd.results38, go_sem, z0, z1, z2, z3]; done) | (simp [results, Tryd.results38, go_sem, *]; done)) rfl ?_
        exact ⟨(r1, M, d, true), rfl, ((((hS.set (g' := w.heap.size + 1) (o := 0) (v := .int .i64 r1) (by omega) (by omega)).set (g' := w.heap.size + 1) (o := 1) (v := .int .i64 M) (by omega) (by omega)).set (g' := w.heap.size + 1) (o := 2) (v := .int .i64 d) (by omega) (by omega)).set (g' := w.heap.size + 1) (o := 3) (v := .bool true) (by omega) (by omega)), (grown_new (g' := w.heap.size + 1) (o := 3) (v := .bool true) (grown_new (g' := w.heap.size + 1) (o := 2) (v := .int .i64 d) (grown_new (g' := w.heap.size + 1) (o := 1) (v := .int .i64 M) (grown_new (g' := w.heap.size + 1) (o := 0) (v := .int .i64 r1) hG (by omega)) (by omega)) (by omega)) (by omega))⟩
      · obtain ⟨x0, x1, x2, x3, xf, xl⟩ := BV.four
        go_wp2_with fail
        clear x0 x1 x2 x3 xf xl
        have hd_ : w_r4.drew.heap.size = w_r4.heap.size := rfl
        replace BV := BV.drew
        replace BZ := BZ.drew
        replace BX := BX.drew
        replace hS := hS.drew
        replace hG := grown_drew hG
        refine wp_region_held_drew (S := fun w' => w'.cell? ⟨w.heap.size, 0, none⟩ = some (.int .i64 p) ∧ w'.cell? ⟨w.heap.size, 1, none⟩ = some (.int .i64 c) ∧ w'.cell? ⟨w.heap.size, 2, none⟩ = some (.int .i64 h) ∧ w'.cell? ⟨w.heap.size, 3, none⟩ = some (.int .i64 s)) (by kernel_rfl) ⟨BV.four.1, BV.four.2.1, BV.four.2.2.1, BV.four.2.2.2.1⟩ (fun hHeld => ?_)
        clear hHeld
        generalize w_r4.drew = vd2 at *
        have hHeld : vd2.cell? ⟨w.heap.size, 0, none⟩ = some (.int .i64 p) ∧ vd2.cell? ⟨w.heap.size, 1, none⟩ = some (.int .i64 c) ∧ vd2.cell? ⟨w.heap.size, 2, none⟩ = some (.int .i64 h) ∧ vd2.cell? ⟨w.heap.size, 3, none⟩ = some (.int .i64 s) := ⟨BV.four.1, BV.four.2.1, BV.four.2.2.1, BV.four.2.2.2.1⟩
        refine wpAnyH_take (i := 0) (oi := { dst := some 46, op := _, type := _, pos := _, after := _, guard := _ }) (v := ?_) rfl (by kernel_rfl) (by kernel_rfl) (by kernel_rfl) (fun _ _ _ h => h) (Or.inl ⟨by rfl, ?_⟩) (by assumption) ?_
        rotate_left
        · intro w hSw
          (try dsimp only at hSw)
          go_simp
          (try (with_reducible rfl))
        try simp only [Act.put, List.setIfInBounds_toArray, List.set_cons_zero, List.set_cons_succ]
        refine wpAnyH_take (i := 1) (oi := { dst := some 47, op := _, type := _, pos := _, after := _, guard := _ }) (v := ?_) rfl (by kernel_rfl) (by kernel_rfl) (by kernel_rfl) (fun _ _ _ h => h) (Or.inl ⟨by rfl, ?_⟩) (by assumption) ?_
        rotate_left
        · intro w hSw
          (try dsimp only at hSw)
          go_simp
          (try (with_reducible rfl))
        try simp only [Act.put, List.setIfInBounds_toArray, List.set_cons_zero, List.set_cons_succ]
        refine wpAnyH_take (i := 2) (oi := { dst := some 48, op := _, type := _, pos := _, after := _, guard := _ }) (v := ?_) rfl (by kernel_rfl) (by kernel_rfl) (by kernel_rfl) (fun _ _ _ h => h) (Or.inl ⟨by rfl, ?_⟩) (by assumption) ?_
        rotate_left
        · intro w hSw
          (try dsimp only at hSw)
          go_simp
          (try (with_reducible rfl))
        try simp only [Act.put, List.setIfInBounds_toArray, List.set_cons_zero, List.set_cons_succ]
        refine wpAnyH_ready (rs := [3]) (by kernel_rfl) (by simp) ?_
        refine AllReadyH.cons (o := { dst := some 49, op := _, type := _, pos := _, after := _, guard := _ }) rfl (fun K hK => ?_) AllReadyH.nil
        go_simp
        refine (next_any B g a0 len cap 2 _ hS (by omega)).mono ?_
        rintro e w_r5 ⟨r5, rfl, q_r5, u_r5, hS, hg⟩
        replace BV := BV.grown hg (by omega)
        replace BZ := BZ.grown hg (by omega)
        replace BX := BX.grown hg (by omega)
        replace hG := grown_trans hG hg
        clear hg
        have wz5 : IntKind.i64.wrap (p + r5) = p + r5 := IntWalk.i64_in _ (by omega)
        (try go_wp2_with fail)
        refine hK.out _ _ ⟨BV.four.1, BV.four.2.1, BV.four.2.2.1, BV.four.2.2.2.1⟩ (fun hHeld => ?_)
        clear hK K
        try simp only [Act.put, List.setIfInBounds_toArray, List.set_cons_zero, List.set_cons_succ]
        refine wpAnyH_take (i := 4) (oi := { dst := some 50, op := _, type := _, pos := _, after := _, guard := _ }) (v := ?_) rfl (by kernel_rfl) (by kernel_rfl) (by kernel_rfl) (fun _ _ _ h => h) (Or.inl ⟨by rfl, ?_⟩) (by assumption) ?_
        rotate_left
        · intro w hSw
          (try dsimp only at hSw)
          go_simp
          (try (with_reducible rfl))
        try simp only [Act.put, List.setIfInBounds_toArray, List.set_cons_zero, List.set_cons_succ]
        refine wpAnyH_take (i := 5) (oi := { dst := some 51, op := _, type := _, pos := _, after := _, guard := _ }) (v := ?_) rfl (by kernel_rfl) (by kernel_rfl) (by kernel_rfl) (fun _ _ _ h => h) (Or.inl ⟨by rfl, ?_⟩) (by assumption) ?_
        rotate_left
        · intro w hSw
          (try dsimp only at hSw)
          go_simp
          (try (with_reducible rfl))
        try simp only [Act.put, List.setIfInBounds_toArray, List.set_cons_zero, List.set_cons_succ]
        refine wpAnyH_ready (rs := [6]) (by kernel_rfl) (by simp) ?_
        refine AllReadyH.cons (o := { dst := none, op := _, type := _, pos := _, after := _, guard := _ }) rfl (fun K hK => ?_) AllReadyH.nil
        obtain ⟨k0, k1, k2, k3, kf, kl⟩ := BX.four
        go_simp
        (try go_wp2_with fail)
        refine hK.out _ _ ⟨(BV.other (by omega)).four.1, (BV.other (by omega)).four.2.1, (BV.other (by omega)).four.2.2.1, (BV.other (by omega)).four.2.2.2.1⟩ (fun hHeld => ?_)
        clear hK K
        try simp only [Act.put, List.setIfInBounds_toArray, List.set_cons_zero, List.set_cons_succ]
        refine wpAnyH_done (by kernel_rfl) ?_ _
        clear hHeld
        replace BX := BX.set (i := 0) (.int .i64 (p + r5))
        replace BV := BV.other (g := bx) (o := 0) (v := .int .i64 (p + r5)) (by omega)
        replace BZ := BZ.other (g := bx) (o := 0) (v := .int .i64 (p + r5)) (by omega)
        replace hS := hS.set (g' := bx) (o := 0) (v := .int .i64 (p + r5)) (by omega) (by omega)
        replace hG := grown_new (g' := bx) (o := 0) (v := .int .i64 (p + r5)) hG (by omega)
        simp only [List.setIfInBounds_toArray, List.set_cons_zero, List.set_cons_succ] at BX
        have hz_v9 : (w_r5.setCell ⟨bx, 0, none⟩ (.int .i64 (p + r5))).heap.size = w_r5.heap.size := by simp
        have hbl := BX.lt
        generalize (w_r5.setCell ⟨bx, 0, none⟩ (.int .i64 (p + r5))) = v9 at *
        clear hz_v9
        obtain ⟨x0, x1, x2, x3, xf, xl⟩ := BX.four
        obtain ⟨z0, z1, z2, z3, zf, zl⟩ := BZ.four
        go_wp2
        refine bodyPost_ret (v := stV ((p + r5), M, d, q)) (by first | (simp [results, Tryd.results38, go_sem, z0, z1, z2, z3]; done) | (simp [results, Tryd.results38, go_sem, *]; done)) rfl ?_
        exact ⟨((p + r5), M, d, q), rfl, ((((hS.set (g' := w.heap.size + 1) (o := 0) (v := .int .i64 (p + r5)) (by omega) (by omega)).set (g' := w.heap.size + 1) (o := 1) (v := .int .i64 M) (by omega) (by omega)).set (g' := w.heap.size + 1) (o := 2) (v := .int .i64 d) (by omega) (by omega)).set (g' := w.heap.size + 1) (o := 3) (v := .bool q) (by omega) (by omega)), (grown_new (g' := w.heap.size + 1) (o := 3) (v := .bool q) (grown_new (g' := w.heap.size + 1) (o := 2) (v := .int .i64 d) (grown_new (g' := w.heap.size + 1) (o := 1) (v := .int .i64 M) (grown_new (g' := w.heap.size + 1) (o := 0) (v := .int .i64 (p + r5)) hG (by omega)) (by omega)) (by omega)) (by omega))⟩
      · obtain ⟨x0, x1, x2, x3, xf, xl⟩ := BX.four
        obtain ⟨z0, z1, z2, z3, zf, zl⟩ := BZ.four
        go_wp2
        replace BX := BX.set (i := 1) (.int .i64 (-1))
        replace BV := BV.other (g := bx) (o := 1) (v := .int .i64 (-1)) (by omega)
        replace BZ := BZ.other (g := bx) (o := 1) (v := .int .i64 (-1)) (by omega)
        replace hS := hS.set (g' := bx) (o := 1) (v := .int .i64 (-1)) (by omega) (by omega)
        replace hG := grown_new (g' := bx) (o := 1) (v := .int .i64 (-1)) hG (by omega)
        simp only [List.setIfInBounds_toArray, List.set_cons_zero, List.set_cons_succ] at BX
        refine bodyPost_ret (v := stV (r1, (-1), d, q)) (by first | (simp [results, Tryd.results38, go_sem, z0, z1, z2, z3]; done) | (simp [results, Tryd.results38, go_sem, *]; done)) rfl ?_
        exact ⟨(r1, (-1), d, q), rfl, ((((hS.set (g' := w.heap.size + 1) (o := 0) (v := .int .i64 r1) (by omega) (by omega)).set (g' := w.heap.size + 1) (o := 1) (v := .int .i64 (-1)) (by omega) (by omega)).set (g' := w.heap.size + 1) (o := 2) (v := .int .i64 d) (by omega) (by omega)).set (g' := w.heap.size + 1) (o := 3) (v := .bool q) (by omega) (by omega)), (grown_new (g' := w.heap.size + 1) (o := 3) (v := .bool q) (grown_new (g' := w.heap.size + 1) (o := 2) (v := .int .i64 d) (grown_new (g' := w.heap.size + 1) (o := 1) (v := .int .i64 (-1)) (grown_new (g' := w.heap.size + 1) (o := 0) (v := .int .i64 r1) hG (by omega)) (by omega)) (by omega)) (by omega))⟩
      · have f0 : (r4 == 0) = false := by rw [beq_eq_false_iff_ne]; omega
        have f1 : (r4 == 1) = false := by rw [beq_eq_false_iff_ne]; omega
        have f2 : (r4 == 2) = false := by rw [beq_eq_false_iff_ne]; omega
        have f3 : (r4 == 3) = false := by rw [beq_eq_false_iff_ne]; omega
        obtain ⟨x0, x1, x2, x3, xf, xl⟩ := BX.four
        obtain ⟨z0, z1, z2, z3, zf, zl⟩ := BZ.four
        go_wp2
        refine bodyPost_ret (v := stV (r1, M, d, q)) (by first | (simp [results, Tryd.results38, go_sem, z0, z1, z2, z3]; done) | (simp [results, Tryd.results38, go_sem, *]; done)) rfl ?_
        exact ⟨(r1, M, d, q), rfl, ((((hS.set (g' := w.heap.size + 1) (o := 0) (v := .int .i64 r1) (by omega) (by omega)).set (g' := w.heap.size + 1) (o := 1) (v := .int .i64 M) (by omega) (by omega)).set (g' := w.heap.size + 1) (o := 2) (v := .int .i64 d) (by omega) (by omega)).set (g' := w.heap.size + 1) (o := 3) (v := .bool q) (by omega) (by omega)), (grown_new (g' := w.heap.size + 1) (o := 3) (v := .bool q) (grown_new (g' := w.heap.size + 1) (o := 2) (v := .int .i64 d) (grown_new (g' := w.heap.size + 1) (o := 1) (v := .int .i64 M) (grown_new (g' := w.heap.size + 1) (o := 0) (v := .int .i64 r1) hG (by omega)) (by omega)) (by omega)) (by omega))⟩
    · have hM0' : M < 0 := by omega
      go_wp2_with fail
      clear k0 k1 k2 k3 kf kl
      replace BX := BX.set (i := 1) (.int .i64 M)
      replace BV := BV.other (g := bx) (o := 1) (v := .int .i64 M) (by omega)
      replace BZ := BZ.other (g := bx) (o := 1) (v := .int .i64 M) (by omega)
      replace hS := hS.set (g' := bx) (o := 1) (v := .int .i64 M) (by omega) (by omega)
      replace hG := grown_new (g' := bx) (o := 1) (v := .int .i64 M) hG (by omega)
      replace BX := BX.set (i := 3) (.bool false)
      replace BV := BV.other (g := bx) (o := 3) (v := .bool false) (by omega)
      replace BZ := BZ.other (g := bx) (o := 3) (v := .bool false) (by omega)
      replace hS := hS.set (g' := bx) (o := 3) (v := .bool false) (by omega) (by omega)
      replace hG := grown_new (g' := bx) (o := 3) (v := .bool false) hG (by omega)
      simp only [List.setIfInBounds_toArray, List.set_cons_zero, List.set_cons_succ] at BX
      have hz_v3 : ((w1.setCell ⟨bx, 1, none⟩ (.int .i64 M)).setCell ⟨bx, 3, none⟩ (.bool false)).heap.size = w1.heap.size := by simp
      have hbl := BX.lt
      generalize ((w1.setCell ⟨bx, 1, none⟩ (.int .i64 M)).setCell ⟨bx, 3, none⟩ (.bool false)) = v3 at *
      clear hz_v3
      refine (next_any B g a0 len cap 20 _ hS (by omega)).mono ?_
      rintro e w_r4 ⟨r4, rfl, q_r4, u_r4, hS, hg⟩
      replace BV := BV.grown hg (by omega)
      replace BZ := BZ.grown hg (by omega)
      replace BX := BX.grown hg (by omega)
      replace hG := grown_trans hG hg
      have hz_w_r4 := hg.size
      clear hg
      rcases (by omega : r4 = 0 ∨ r4 = 1 ∨ r4 = 2 ∨ r4 = 3 ∨ 4 ≤ r4) with rfl | rfl | rfl | rfl | hr4
      · obtain ⟨x0, x1, x2, x3, xf, xl⟩ := BX.four
        obtain ⟨z0, z1, z2, z3, zf, zl⟩ := BZ.four
        go_wp2
        replace BX := BX.set (i := 2) (.int .i64 (d + 1))
        replace BV := BV.other (g := bx) (o := 2) (v := .int .i64 (d + 1)) (by omega)
        replace BZ := BZ.other (g := bx) (o := 2) (v := .int .i64 (d + 1)) (by omega)
        replace hS := hS.set (g' := bx) (o := 2) (v := .int .i64 (d + 1)) (by omega) (by omega)
        replace hG := grown_new (g' := bx) (o := 2) (v := .int .i64 (d + 1)) hG (by omega)
        simp only [List.setIfInBounds_toArray, List.set_cons_zero, List.set_cons_succ] at BX
        refine bodyPost_ret (v := stV (r1, M, (d + 1), false)) (by first | (simp [results, Tryd.results38, go_sem, z0, z1, z2, z3]; done) | (simp [results, Tryd.results38, go_sem, *]; done)) rfl ?_
        exact ⟨(r1, M, (d + 1), false), rfl, ((((hS.set (g' := w.heap.size + 1) (o := 0) (v := .int .i64 r1) (by omega) (by omega)).set (g' := w.heap.size + 1) (o := 1) (v := .int .i64 M) (by omega) (by omega)).set (g' := w.heap.size + 1) (o := 2) (v := .int .i64 (d + 1)) (by omega) (by omega)).set (g' := w.heap.size + 1) (o := 3) (v := .bool false) (by omega) (by omega)), (grown_new (g' := w.heap.size + 1) (o := 3) (v := .bool false) (grown_new (g' := w.heap.size + 1) (o := 2) (v := .int .i64 (d + 1)) (grown_new (g' := w.heap.size + 1) (o := 1) (v := .int .i64 M) (grown_new (g' := w.heap.size + 1) (o := 0) (v := .int .i64 r1) hG (by omega)) (by omega)) (by omega)) (by omega))⟩
      · obtain ⟨x0, x1, x2, x3, xf, xl⟩ := BX.four
        obtain ⟨z0, z1, z2, z3, zf, zl⟩ := BZ.four
        go_wp2
        replace BX := BX.set (i := 3) (.bool true)
        replace BV := BV.other (g := bx) (o := 3) (v := .bool true) (by omega)
        replace BZ := BZ.other (g := bx) (o := 3) (v := .bool true) (by omega)
        replace hS := hS.set (g' := bx) (o := 3) (v := .bool true) (by omega) (by omega)
        replace hG := grown_new (g' := bx) (o := 3) (v := .bool true) hG (by omega)
        simp only [List.setIfInBounds_toArray, List.set_cons_zero, List.set_cons_succ] at BX
        refine bodyPost_ret (v := stV (r1, M, d, true)) (by first | (simp [results, Tryd.results38, go_sem, z0, z1, z2, z3]; done) | (simp [results, Tryd.results38, go_sem, *]; done)) rfl ?_
        exact ⟨(r1, M, d, true), rfl, ((((hS.set (g' := w.heap.size + 1) (o := 0) (v := .int .i64 r1) (by omega) (by omega)).set (g' := w.heap.size + 1) (o := 1) (v := .int .i64 M) (by omega) (by omega)).set (g' := w.heap.size + 1) (o := 2) (v := .int .i64 d) (by omega) (by omega)).set (g' := w.heap.size + 1) (o := 3) (v := .bool true) (by omega) (by omega)), (grown_new (g' := w.heap.size + 1) (o := 3) (v := .bool true) (grown_new (g' := w.heap.size + 1) (o := 2) (v := .int .i64 d) (grown_new (g' := w.heap.size + 1) (o := 1) (v := .int .i64 M) (grown_new (g' := w.heap.size + 1) (o := 0) (v := .int .i64 r1) hG (by omega)) (by omega)) (by omega)) (by omega))⟩
      · obtain ⟨x0, x1, x2, x3, xf, xl⟩ := BV.four
        go_wp2_with fail
        clear x0 x1 x2 x3 xf xl
        have hd_ : w_r4.drew.heap.size = w_r4.heap.size := rfl
        replace BV := BV.drew
        replace BZ := BZ.drew
        replace BX := BX.drew
        replace hS := hS.drew
        replace hG := grown_drew hG
        refine wp_region_held_drew (S := fun w' => w'.cell? ⟨w.heap.size, 0, none⟩ = some (.int .i64 p) ∧ w'.cell? ⟨w.heap.size, 1, none⟩ = some (.int .i64 c) ∧ w'.cell? ⟨w.heap.size, 2, none⟩ = some (.int .i64 h) ∧ w'.cell? ⟨w.heap.size, 3, none⟩ = some (.int .i64 s)) (by kernel_rfl) ⟨BV.four.1, BV.four.2.1, BV.four.2.2.1, BV.four.2.2.2.1⟩ (fun hHeld => ?_)
        clear hHeld
        generalize w_r4.drew = vd2 at *
        have hHeld : vd2.cell? ⟨w.heap.size, 0, none⟩ = some (.int .i64 p) ∧ vd2.cell? ⟨w.heap.size, 1, none⟩ = some (.int .i64 c) ∧ vd2.cell? ⟨w.heap.size, 2, none⟩ = some (.int .i64 h) ∧ vd2.cell? ⟨w.heap.size, 3, none⟩ = some (.int .i64 s) := ⟨BV.four.1, BV.four.2.1, BV.four.2.2.1, BV.four.2.2.2.1⟩
        refine wpAnyH_take (i := 0) (oi := { dst := some 46, op := _, type := _, pos := _, after := _, guard := _ }) (v := ?_) rfl (by kernel_rfl) (by kernel_rfl) (by kernel_rfl) (fun _ _ _ h => h) (Or.inl ⟨by rfl, ?_⟩) (by assumption) ?_
        rotate_left
        · intro w hSw
          (try dsimp only at hSw)
          go_simp
          (try (with_reducible rfl))
        try simp only [Act.put, List.setIfInBounds_toArray, List.set_cons_zero, List.set_cons_succ]
        refine wpAnyH_take (i := 1) (oi := { dst := some 47, op := _, type := _, pos := _, after := _, guard := _ }) (v := ?_) rfl (by kernel_rfl) (by kernel_rfl) (by kernel_rfl) (fun _ _ _ h => h) (Or.inl ⟨by rfl, ?_⟩) (by assumption) ?_
        rotate_left
        · intro w hSw
          (try dsimp only at hSw)
          go_simp
          (try (with_reducible rfl))
        try simp only [Act.put, List.setIfInBounds_toArray, List.set_cons_zero, List.set_cons_succ]
        refine wpAnyH_take (i := 2) (oi := { dst := some 48, op := _, type := _, pos := _, after := _, guard := _ }) (v := ?_) rfl (by kernel_rfl) (by kernel_rfl) (by kernel_rfl) (fun _ _ _ h => h) (Or.inl ⟨by rfl, ?_⟩) (by assumption) ?_
        rotate_left
        · intro w hSw
          (try dsimp only at hSw)
          go_simp
          (try (with_reducible rfl))
        try simp only [Act.put, List.setIfInBounds_toArray, List.set_cons_zero, List.set_cons_succ]
        refine wpAnyH_ready (rs := [3]) (by kernel_rfl) (by simp) ?_
        refine AllReadyH.cons (o := { dst := some 49, op := _, type := _, pos := _, after := _, guard := _ }) rfl (fun K hK => ?_) AllReadyH.nil
        go_simp
        refine (next_any B g a0 len cap 2 _ hS (by omega)).mono ?_
        rintro e w_r5 ⟨r5, rfl, q_r5, u_r5, hS, hg⟩
        replace BV := BV.grown hg (by omega)
        replace BZ := BZ.grown hg (by omega)
        replace BX := BX.grown hg (by omega)
        replace hG := grown_trans hG hg
        clear hg
        have wz5 : IntKind.i64.wrap (p + r5) = p + r5 := IntWalk.i64_in _ (by omega)
        (try go_wp2_with fail)
        refine hK.out _ _ ⟨BV.four.1, BV.four.2.1, BV.four.2.2.1, BV.four.2.2.2.1⟩ (fun hHeld => ?_)
        clear hK K
        try simp only [Act.put, List.setIfInBounds_toArray, List.set_cons_zero, List.set_cons_succ]
        refine wpAnyH_take (i := 4) (oi := { dst := some 50, op := _, type := _, pos := _, after := _, guard := _ }) (v := ?_) rfl (by kernel_rfl) (by kernel_rfl) (by kernel_rfl) (fun _ _ _ h => h) (Or.inl ⟨by rfl, ?_⟩) (by assumption) ?_
        rotate_left
        · intro w hSw
          (try dsimp only at hSw)
          go_simp
          (try (with_reducible rfl))
        try simp only [Act.put, List.setIfInBounds_toArray, List.set_cons_zero, List.set_cons_succ]
        refine wpAnyH_take (i := 5) (oi := { dst := some 51, op := _, type := _, pos := _, after := _, guard := _ }) (v := ?_) rfl (by kernel_rfl) (by kernel_rfl) (by kernel_rfl) (fun _ _ _ h => h) (Or.inl ⟨by rfl, ?_⟩) (by assumption) ?_
        rotate_left
        · intro w hSw
          (try dsimp only at hSw)
          go_simp
          (try (with_reducible rfl))
        try simp only [Act.put, List.setIfInBounds_toArray, List.set_cons_zero, List.set_cons_succ]
        refine wpAnyH_ready (rs := [6]) (by kernel_rfl) (by simp) ?_
        refine AllReadyH.cons (o := { dst := none, op := _, type := _, pos := _, after := _, guard := _ }) rfl (fun K hK => ?_) AllReadyH.nil
        obtain ⟨k0, k1, k2, k3, kf, kl⟩ := BX.four
        go_simp
        (try go_wp2_with fail)
        refine hK.out _ _ ⟨(BV.other (by omega)).four.1, (BV.other (by omega)).four.2.1, (BV.other (by omega)).four.2.2.1, (BV.other (by omega)).four.2.2.2.1⟩ (fun hHeld => ?_)
        clear hK K
        try simp only [Act.put, List.setIfInBounds_toArray, List.set_cons_zero, List.set_cons_succ]
        refine wpAnyH_done (by kernel_rfl) ?_ _
        clear hHeld
        replace BX := BX.set (i := 0) (.int .i64 (p + r5))
        replace BV := BV.other (g := bx) (o := 0) (v := .int .i64 (p + r5)) (by omega)
        replace BZ := BZ.other (g := bx) (o := 0) (v := .int .i64 (p + r5)) (by omega)
        replace hS := hS.set (g' := bx) (o := 0) (v := .int .i64 (p + r5)) (by omega) (by omega)
        replace hG := grown_new (g' := bx) (o := 0) (v := .int .i64 (p + r5)) hG (by omega)
        simp only [List.setIfInBounds_toArray, List.set_cons_zero, List.set_cons_succ] at BX
        have hz_v9 : (w_r5.setCell ⟨bx, 0, none⟩ (.int .i64 (p + r5))).heap.size = w_r5.heap.size := by simp
        have hbl := BX.lt
        generalize (w_r5.setCell ⟨bx, 0, none⟩ (.int .i64 (p + r5))) = v9 at *
        clear hz_v9
        obtain ⟨x0, x1, x2, x3, xf, xl⟩ := BX.four
        obtain ⟨z0, z1, z2, z3, zf, zl⟩ := BZ.four
        go_wp2
        refine bodyPost_ret (v := stV ((p + r5), M, d, false)) (by first | (simp [results, Tryd.results38, go_sem, z0, z1, z2, z3]; done) | (simp [results, Tryd.results38, go_sem, *]; done)) rfl ?_
        exact ⟨((p + r5), M, d, false), rfl, ((((hS.set (g' := w.heap.size + 1) (o := 0) (v := .int .i64 (p + r5)) (by omega) (by omega)).set (g' := w.heap.size + 1) (o := 1) (v := .int .i64 M) (by omega) (by omega)).set (g' := w.heap.size + 1) (o := 2) (v := .int .i64 d) (by omega) (by omega)).set (g' := w.heap.size + 1) (o := 3) (v := .bool false) (by omega) (by omega)), (grown_new (g' := w.heap.size + 1) (o := 3) (v := .bool false) (grown_new (g' := w.heap.size + 1) (o := 2) (v := .int .i64 d) (grown_new (g' := w.heap.size + 1) (o := 1) (v := .int .i64 M) (grown_new (g' := w.heap.size + 1) (o := 0) (v := .int .i64 (p + r5)) hG (by omega)) (by omega)) (by omega)) (by omega))⟩
      · obtain ⟨x0, x1, x2, x3, xf, xl⟩ := BX.four
        obtain ⟨z0, z1, z2, z3, zf, zl⟩ := BZ.four
        go_wp2
        replace BX := BX.set (i := 1) (.int .i64 (-1))
        replace BV := BV.other (g := bx) (o := 1) (v := .int .i64 (-1)) (by omega)
        replace BZ := BZ.other (g := bx) (o := 1) (v := .int .i64 (-1)) (by omega)
        replace hS := hS.set (g' := bx) (o := 1) (v := .int .i64 (-1)) (by omega) (by omega)
        replace hG := grown_new (g' := bx) (o := 1) (v := .int .i64 (-1)) hG (by omega)
        simp only [List.setIfInBounds_toArray, List.set_cons_zero, List.set_cons_succ] at BX
        refine bodyPost_ret (v := stV (r1, (-1), d, false)) (by first | (simp [results, Tryd.results38, go_sem, z0, z1, z2, z3]; done) | (simp [results, Tryd.results38, go_sem, *]; done)) rfl ?_
        exact ⟨(r1, (-1), d, false), rfl, ((((hS.set (g' := w.heap.size + 1) (o := 0) (v := .int .i64 r1) (by omega) (by omega)).set (g' := w.heap.size + 1) (o := 1) (v := .int .i64 (-1)) (by omega) (by omega)).set (g' := w.heap.size + 1) (o := 2) (v := .int .i64 d) (by omega) (by omega)).set (g' := w.heap.size + 1) (o := 3) (v := .bool false) (by omega) (by omega)), (grown_new (g' := w.heap.size + 1) (o := 3) (v := .bool false) (grown_new (g' := w.heap.size + 1) (o := 2) (v := .int .i64 d) (grown_new (g' := w.heap.size + 1) (o := 1) (v := .int .i64 (-1)) (grown_new (g' := w.heap.size + 1) (o := 0) (v := .int .i64 r1) hG (by omega)) (by omega)) (by omega)) (by omega))⟩
      · have f0 : (r4 == 0) = false := by rw [beq_eq_false_iff_ne]; omega
        have f1 : (r4 == 1) = false := by rw [beq_eq_false_iff_ne]; omega
        have f2 : (r4 == 2) = false := by rw [beq_eq_false_iff_ne]; omega
        have f3 : (r4 == 3) = false := by rw [beq_eq_false_iff_ne]; omega
        obtain ⟨x0, x1, x2, x3, xf, xl⟩ := BX.four
        obtain ⟨z0, z1, z2, z3, zf, zl⟩ := BZ.four
        go_wp2
        refine bodyPost_ret (v := stV (r1, M, d, false)) (by first | (simp [results, Tryd.results38, go_sem, z0, z1, z2, z3]; done) | (simp [results, Tryd.results38, go_sem, *]; done)) rfl ?_
        exact ⟨(r1, M, d, false), rfl, ((((hS.set (g' := w.heap.size + 1) (o := 0) (v := .int .i64 r1) (by omega) (by omega)).set (g' := w.heap.size + 1) (o := 1) (v := .int .i64 M) (by omega) (by omega)).set (g' := w.heap.size + 1) (o := 2) (v := .int .i64 d) (by omega) (by omega)).set (g' := w.heap.size + 1) (o := 3) (v := .bool false) (by omega) (by omega)), (grown_new (g' := w.heap.size + 1) (o := 3) (v := .bool false) (grown_new (g' := w.heap.size + 1) (o := 2) (v := .int .i64 d) (grown_new (g' := w.heap.size + 1) (o := 1) (v := .int .i64 M) (grown_new (g' := w.heap.size + 1) (o := 0) (v := .int .i64 r1) hG (by omega)) (by omega)) (by omega)) (by omega))⟩
/-- A variant and a step have been drawn from a code. -/
def StepNew06 (w : World) (e : Ending) (w' : World) : Prop := ∃ (p c h s : Int) (t : Stp), e = .returned (.tuple #[.agg #[.int .i64 p, .int .i64 c, .int .i64 h, .int .i64 s], stV t]) ∧ Below w.heap.size w w'
/-- A variant and a text have been drawn from a code. -/
def TextNew06 (w : World) (e : Ending) (w' : World) : Prop := ∃ (p c h s : Int) (u : ByteArray), e = .returned (.tuple #[.agg #[.int .i64 p, .int .i64 c, .int .i64 h, .int .i64 s], .string u]) ∧ u.size ≤ 5000 ∧ Below w.heap.size w w'
set_option maxRecDepth 8000 in
set_option maxHeartbeats 2000000 in
theorem drawStepText_any (B : Nat) (a0 : Option Addr) (len cap : Nat) (w : World) (hB : B ≤ w.heap.size) (hlen : len ≤ 1048576) (hcode : CodeIn B w a0 len) :
    Calls Tryd.prog 15 #[.slice a0 len cap] w (StepNew06 w) := by
  obtain ⟨BZ, BS, hb, hz⟩ := two_new w #[.int .i64 0, .int .i64 0, .int .i64 0, .int .i64 0] #[.int .i64 0, .int .i64 0, .int .i64 0, .bool false] 29 38
  have hc1 := hcode.below (hb.mono hB)
  have hz0 := BZ.lt
  go_enter Tryd.func15, Tryd.ntmps15
  go_wp2_with fail
  generalize ((w.alloc (.cells #[.int .i64 0, .int .i64 0, .int .i64 0, .int .i64 0] 29)).alloc (.cells #[.int .i64 0, .int .i64 0, .int .i64 0, .bool false] 38)) = v0 at *
  refine (from_any B a0 len cap _ (by omega) hlen hc1).mono ?_
  rintro e w1 ⟨g, rfl, hg, hS, hb1⟩
  replace BZ := BZ.below hb1
  replace BS := BS.below hb1
  replace hb := chain hb hb1
  have hs1 := hb1.size
  clear hb1 hc1 hcode
  go_wp2_with fail
  refine (drawAny_any B g a0 len cap _ hS).mono ?_
  rintro e w2 ⟨p, c, h, s, rfl, bp, bc, bh, bs, hS, hG⟩
  replace BZ := BZ.grown hG (by omega)
  replace BS := BS.grown hG (by omega)
  replace hb := chain_grown hb hG (by omega)
  have hs2 := hG.size
  have hgl := hS.lt
  clear hG
  have BV := Blk.new w2 #[.int .i64 p, .int .i64 c, .int .i64 h, .int .i64 s] 29
  have hal : Below w2.heap.size w2 (w2.alloc (.cells #[.int .i64 p, .int .i64 c, .int .i64 h, .int .i64 s] 29)) := (Below.refl _ _).alloc (Nat.le_refl _) _
  replace BZ := BZ.below hal
  replace BS := BS.below hal
  replace hS := hS.below hal
  replace hb := chain hb hal
  have hs3 : w2.heap.size + 1 ≤ (w2.alloc (.cells #[.int .i64 p, .int .i64 c, .int .i64 h, .int .i64 s] 29)).heap.size := by simp
  clear hal
  go_wp2_with fail
  generalize hbv : w2.heap.size = bv at *
  generalize (w2.alloc (.cells #[.int .i64 p, .int .i64 c, .int .i64 h, .int .i64 s] 29)) = w3 at *
  have hd_ : w3.drew.heap.size = w3.heap.size := rfl
  replace BV := BV.drew
  replace BZ := BZ.drew
  replace BS := BS.drew
  replace hS := hS.drew
  replace hb := hb.drew
  refine wp_region_held_drew (S := fun w' => w'.cell? ⟨bv, 0, none⟩ = some (.int .i64 p) ∧ w'.cell? ⟨bv, 1, none⟩ = some (.int .i64 c) ∧ w'.cell? ⟨bv, 2, none⟩ = some (.int .i64 h) ∧ w'.cell? ⟨bv, 3, none⟩ = some (.int .i64 s)) (by kernel_rfl) ⟨BV.four.1, BV.four.2.1, BV.four.2.2.1, BV.four.2.2.2.1⟩ (fun hHeld => ?_)
  clear hHeld
  generalize w3.drew = vd at *
  have hHeld : vd.cell? ⟨bv, 0, none⟩ = some (.int .i64 p) ∧ vd.cell? ⟨bv, 1, none⟩ = some (.int .i64 c) ∧ vd.cell? ⟨bv, 2, none⟩ = some (.int .i64 h) ∧ vd.cell? ⟨bv, 3, none⟩ = some (.int .i64 s) := ⟨BV.four.1, BV.four.2.1, BV.four.2.2.1, BV.four.2.2.2.1⟩
  refine wpAnyH_take (i := 0) (oi := { dst := some 10, op := _, type := _, pos := _, after := _, guard := _ }) (v := ?_) rfl (by kernel_rfl) (by kernel_rfl) (by kernel_rfl) (fun _ _ _ h => h) (Or.inl ⟨by rfl, ?_⟩) (by assumption) ?_
  rotate_left
  · intro w hSw
    (try dsimp only at hSw)
    go_simp
    (try (with_reducible rfl))
  try simp only [Act.put, List.setIfInBounds_toArray, List.set_cons_zero, List.set_cons_succ]
  refine wpAnyH_take (i := 1) (oi := { dst := some 11, op := _, type := _, pos := _, after := _, guard := _ }) (v := ?_) rfl (by kernel_rfl) (by kernel_rfl) (by kernel_rfl) (fun _ _ _ h => h) (Or.inl ⟨by rfl, ?_⟩) (by assumption) ?_
  rotate_left
  · intro w hSw
    (try dsimp only at hSw)
    go_simp
    (try (with_reducible rfl))
  try simp only [Act.put, List.setIfInBounds_toArray, List.set_cons_zero, List.set_cons_succ]
  refine wpAnyH_take (i := 2) (oi := { dst := some 12, op := _, type := _, pos := _, after := _, guard := _ }) (v := ?_) rfl (by kernel_rfl) (by kernel_rfl) (by kernel_rfl) (fun _ _ _ h => h) (Or.inl ⟨by rfl, ?_⟩) (by assumption) ?_
  rotate_left
  · intro w hSw
    (try dsimp only at hSw)
    go_simp
    (try (with_reducible rfl))
  try simp only [Act.put, List.setIfInBounds_toArray, List.set_cons_zero, List.set_cons_succ]
  refine wpAnyH_ready (rs := [3]) (by kernel_rfl) (by simp) ?_
  refine AllReadyH.cons (o := { dst := some 13, op := _, type := _, pos := _, after := _, guard := _ }) rfl (fun K hK => ?_) AllReadyH.nil
  go_simp
  refine (drawStep06_any B g p c h s a0 len cap _ (by omega) (by omega) (by omega) (by omega) hS).mono ?_
  rintro e w4 ⟨t, rfl, hS, hG⟩
  replace BV := BV.grown hG (by omega)
  replace BZ := BZ.grown hG (by omega)
  replace BS := BS.grown hG (by omega)
  replace hb := chain_grown hb hG (by omega)
  obtain ⟨ta, tb, td, tq⟩ := t
  (try go_wp2_with fail)
  refine hK.out _ _ ⟨BV.four.1, BV.four.2.1, BV.four.2.2.1, BV.four.2.2.2.1⟩ (fun hHeld => ?_)
  clear hK K
  try simp only [Act.put, List.setIfInBounds_toArray, List.set_cons_zero, List.set_cons_succ]
  refine wpAnyH_ready (rs := [4]) (by kernel_rfl) (by simp) ?_
  refine AllReadyH.cons (o := { dst := none, op := _, type := _, pos := _, after := _, guard := _ }) rfl (fun K hK => ?_) AllReadyH.nil
  obtain ⟨k0, k1, k2, k3, kf, kl⟩ := BZ.four
  go_simp
  (try go_wp2_with fail)
  refine hK.out _ _ ⟨(((((BV).other (by omega)).other (by omega)).other (by omega)).other (by omega)).four.1, (((((BV).other (by omega)).other (by omega)).other (by omega)).other (by omega)).four.2.1, (((((BV).other (by omega)).other (by omega)).other (by omega)).other (by omega)).four.2.2.1, (((((BV).other (by omega)).other (by omega)).other (by omega)).other (by omega)).four.2.2.2.1⟩ (fun hHeld => ?_)
  clear hK K
  try simp only [Act.put, List.setIfInBounds_toArray, List.set_cons_zero, List.set_cons_succ]
  refine wpAnyH_ready (rs := [5]) (by kernel_rfl) (by simp) ?_
  refine AllReadyH.cons (o := { dst := none, op := _, type := _, pos := _, after := _, guard := _ }) rfl (fun K hK => ?_) AllReadyH.nil
  replace BS := ((((BS.other (g := w.heap.size) (o := 0) (v := .int .i64 p) (by omega)).other (g := w.heap.size) (o := 1) (v := .int .i64 c) (by omega)).other (g := w.heap.size) (o := 2) (v := .int .i64 h) (by omega)).other (g := w.heap.size) (o := 3) (v := .int .i64 s) (by omega))
  obtain ⟨m0, m1, m2, m3, mf, ml⟩ := BS.four
  go_simp
  (try go_wp2_with fail)
  refine hK.out _ _ ⟨((((((((((BV).other (by omega)).other (by omega)).other (by omega)).other (by omega))).other (by omega)).other (by omega)).other (by omega)).other (by omega)).four.1, ((((((((((BV).other (by omega)).other (by omega)).other (by omega)).other (by omega))).other (by omega)).other (by omega)).other (by omega)).other (by omega)).four.2.1, ((((((((((BV).other (by omega)).other (by omega)).other (by omega)).other (by omega))).other (by omega)).other (by omega)).other (by omega)).other (by omega)).four.2.2.1, ((((((((((BV).other (by omega)).other (by omega)).other (by omega)).other (by omega))).other (by omega)).other (by omega)).other (by omega)).other (by omega)).four.2.2.2.1⟩ (fun hHeld => ?_)
  clear hK K
  try simp only [Act.put, List.setIfInBounds_toArray, List.set_cons_zero, List.set_cons_succ]
  refine wpAnyH_done (by kernel_rfl) ?_ _
  clear hHeld
  have BZn := ((((((((BZ.set (i := 0) (.int .i64 p)).set (i := 1) (.int .i64 c)).set (i := 2) (.int .i64 h)).set (i := 3) (.int .i64 s)).other (g := (w.heap.size + 1)) (o := 0) (v := .int .i64 ta) (by omega)).other (g := (w.heap.size + 1)) (o := 1) (v := .int .i64 tb) (by omega)).other (g := (w.heap.size + 1)) (o := 2) (v := .int .i64 td) (by omega)).other (g := (w.heap.size + 1)) (o := 3) (v := .bool tq) (by omega))
  have BSn := ((((BS.set (i := 0) (.int .i64 ta)).set (i := 1) (.int .i64 tb)).set (i := 2) (.int .i64 td)).set (i := 3) (.bool tq))
  obtain ⟨u0, u1, u2, u3, uf, ul⟩ := BZn.four
  obtain ⟨n0, n1, n2, n3, nf, nl⟩ := BSn.four
  go_wp2_with fail
  refine bodyPost_ret (v := .tuple #[.agg #[.int .i64 p, .int .i64 c, .int .i64 h, .int .i64 s], .agg #[.int .i64 ta, .int .i64 tb, .int .i64 td, .bool tq]]) (by simp [results, Tryd.results15, go_sem, u0, u1, u2, u3, n0, n1, n2, n3]) rfl ?_
  exact ⟨p, c, h, s, (ta, tb, td, tq), rfl, (((((((hb.setCell (Nat.le_refl _) _).setCell (Nat.le_refl _) _).setCell (Nat.le_refl _) _).setCell (Nat.le_refl _) _).setCell (by show w.heap.size ≤ w.heap.size + 1; omega) _).setCell (by show w.heap.size ≤ w.heap.size + 1; omega) _).setCell (by show w.heap.size ≤ w.heap.size + 1; omega) _).setCell (by show w.heap.size ≤ w.heap.size + 1; omega) _⟩
theorem stt_len (p c h s f t d : Int) (hh : Bool) : (stt p c h s f t d hh).length ≤ 8 := by
  unfold stt
  split
  · rename_i g
    have hv := vB_iff.1 g
    split
    · rename_i g0
      exact (stT_len (by omega) (by omega) g0).1
    · simp
  · simp
set_option maxRecDepth 8000 in
set_option maxHeartbeats 2000000 in
theorem drawReadStep_any (B : Nat) (a0 : Option Addr) (len cap : Nat) (w : World) (hB : B ≤ w.heap.size) (hlen : len ≤ 1048576) (hcode : CodeIn B w a0 len) :
    Calls Tryd.prog 19 #[.slice a0 len cap] w (TextNew06 w) := by
  have BZ := Blk.new w #[.int .i64 0, .int .i64 0, .int .i64 0, .int .i64 0] 29
  have hb : Below w.heap.size w (w.alloc (.cells #[.int .i64 0, .int .i64 0, .int .i64 0, .int .i64 0] 29)) := (Below.refl _ _).alloc (Nat.le_refl _) _
  have hc1 := hcode.below (hb.mono hB)
  have hz0 := BZ.lt
  go_enter Tryd.func19, Tryd.ntmps19
  go_wp2_with fail
  generalize (w.alloc (.cells #[.int .i64 0, .int .i64 0, .int .i64 0, .int .i64 0] 29)) = v0 at *
  refine (from_any B a0 len cap _ (by omega) hlen hc1).mono ?_
  rintro e w1 ⟨g, rfl, hg, hS, hb1⟩
  replace BZ := BZ.below hb1
  replace hb := chain hb hb1
  have hs1 := hb1.size
  clear hb1 hc1 hcode
  go_wp2_with fail
  refine (drawAny_any B g a0 len cap _ hS).mono ?_
  rintro e w2 ⟨p, c, h, s, rfl, bp, bc, bh, bs, hS, hG⟩
  replace BZ := BZ.grown hG (by omega)
  replace hb := chain_grown hb hG (by omega)
  have hs2 := hG.size
  have hgl := hS.lt
  clear hG
  have BV := Blk.new w2 #[.int .i64 p, .int .i64 c, .int .i64 h, .int .i64 s] 29
  have hal : Below w2.heap.size w2 (w2.alloc (.cells #[.int .i64 p, .int .i64 c, .int .i64 h, .int .i64 s] 29)) := (Below.refl _ _).alloc (Nat.le_refl _) _
  replace BZ := BZ.below hal
  replace hS := hS.below hal
  replace hb := chain hb hal
  have hs3 : w2.heap.size + 1 ≤ (w2.alloc (.cells #[.int .i64 p, .int .i64 c, .int .i64 h, .int .i64 s] 29)).heap.size := by simp
  clear hal
  go_wp2_with fail
  generalize hbv : w2.heap.size = bv at *
  generalize (w2.alloc (.cells #[.int .i64 p, .int .i64 c, .int .i64 h, .int .i64 s] 29)) = w3 at *
  have hd_ : w3.drew.heap.size = w3.heap.size := rfl
  replace BV := BV.drew
  replace BZ := BZ.drew
  replace hS := hS.drew
  replace hb := hb.drew
  refine wp_region_held_drew (S := fun w' => w'.cell? ⟨bv, 0, none⟩ = some (.int .i64 p) ∧ w'.cell? ⟨bv, 1, none⟩ = some (.int .i64 c) ∧ w'.cell? ⟨bv, 2, none⟩ = some (.int .i64 h) ∧ w'.cell? ⟨bv, 3, none⟩ = some (.int .i64 s)) (by kernel_rfl) ⟨BV.four.1, BV.four.2.1, BV.four.2.2.1, BV.four.2.2.2.1⟩ (fun hHeld => ?_)
  clear hHeld
  generalize w3.drew = vd at *
  have hHeld : vd.cell? ⟨bv, 0, none⟩ = some (.int .i64 p) ∧ vd.cell? ⟨bv, 1, none⟩ = some (.int .i64 c) ∧ vd.cell? ⟨bv, 2, none⟩ = some (.int .i64 h) ∧ vd.cell? ⟨bv, 3, none⟩ = some (.int .i64 s) := ⟨BV.four.1, BV.four.2.1, BV.four.2.2.1, BV.four.2.2.2.1⟩
  refine wpAnyH_take (i := 0) (oi := { dst := some 10, op := _, type := _, pos := _, after := _, guard := _ }) (v := ?_) rfl (by kernel_rfl) (by kernel_rfl) (by kernel_rfl) (fun _ _ _ h => h) (Or.inl ⟨by rfl, ?_⟩) (by assumption) ?_
  rotate_left
  · intro w hSw
    (try dsimp only at hSw)
    go_simp
    (try (with_reducible rfl))
  try simp only [Act.put, List.setIfInBounds_toArray, List.set_cons_zero, List.set_cons_succ]
  refine wpAnyH_take (i := 1) (oi := { dst := some 11, op := _, type := _, pos := _, after := _, guard := _ }) (v := ?_) rfl (by kernel_rfl) (by kernel_rfl) (by kernel_rfl) (fun _ _ _ h => h) (Or.inl ⟨by rfl, ?_⟩) (by assumption) ?_
  rotate_left
  · intro w hSw
    (try dsimp only at hSw)
    go_simp
    (try (with_reducible rfl))
  try simp only [Act.put, List.setIfInBounds_toArray, List.set_cons_zero, List.set_cons_succ]
  refine wpAnyH_take (i := 2) (oi := { dst := some 12, op := _, type := _, pos := _, after := _, guard := _ }) (v := ?_) rfl (by kernel_rfl) (by kernel_rfl) (by kernel_rfl) (fun _ _ _ h => h) (Or.inl ⟨by rfl, ?_⟩) (by assumption) ?_
  rotate_left
  · intro w hSw
    (try dsimp only at hSw)
    go_simp
    (try (with_reducible rfl))
  try simp only [Act.put, List.setIfInBounds_toArray, List.set_cons_zero, List.set_cons_succ]
  refine wpAnyH_take (i := 3) (oi := { dst := some 13, op := _, type := _, pos := _, after := _, guard := _ }) (v := ?_) rfl (by kernel_rfl) (by kernel_rfl) (by kernel_rfl) (fun _ _ _ h => h) (Or.inl ⟨by rfl, ?_⟩) (by assumption) ?_
  rotate_left
  · intro w hSw
    (try dsimp only at hSw)
    go_simp
    (try (with_reducible rfl))
  try simp only [Act.put, List.setIfInBounds_toArray, List.set_cons_zero, List.set_cons_succ]
  refine wpAnyH_take (i := 4) (oi := { dst := some 14, op := _, type := _, pos := _, after := _, guard := _ }) (v := ?_) rfl (by kernel_rfl) (by kernel_rfl) (by kernel_rfl) (fun _ _ _ h => h) (Or.inl ⟨by rfl, ?_⟩) (by assumption) ?_
  rotate_left
  · intro w hSw
    (try dsimp only at hSw)
    go_simp
    (try (with_reducible rfl))
  try simp only [Act.put, List.setIfInBounds_toArray, List.set_cons_zero, List.set_cons_succ]
  refine wpAnyH_ready (rs := [5]) (by kernel_rfl) (by simp) ?_
  refine AllReadyH.cons (o := { dst := some 15, op := _, type := _, pos := _, after := _, guard := _ }) rfl (fun K hK => ?_) AllReadyH.nil
  go_simp
  refine (drawStep06_any B g p c h s a0 len cap _ (by omega) (by omega) (by omega) (by omega) hS).mono ?_
  rintro e w4 ⟨t, rfl, hS, hG⟩
  replace BV := BV.grown hG (by omega)
  replace BZ := BZ.grown hG (by omega)
  replace hb := chain_grown hb hG (by omega)
  obtain ⟨ta, tb, td, tq⟩ := t
  (try go_wp2_with fail)
  refine hK.out _ _ ⟨BV.four.1, BV.four.2.1, BV.four.2.2.1, BV.four.2.2.2.1⟩ (fun hHeld => ?_)
  clear hK K
  try simp only [Act.put, List.setIfInBounds_toArray, List.set_cons_zero, List.set_cons_succ]
  refine wpAnyH_ready (rs := [6]) (by kernel_rfl) (by simp) ?_
  refine AllReadyH.cons (o := { dst := some 16, op := _, type := _, pos := _, after := _, guard := _ }) rfl (fun K hK => ?_) AllReadyH.nil
  go_simp
  have hst := fun W => specStepText_any p c h s ta tb td tq W
  obtain ⟨T, hT⟩ : ∃ T : ByteArray, T = ⟨(stt p c h s ta tb td tq).toArray⟩ := ⟨_, rfl⟩
  have hTl : T.size ≤ 1000 := by have := stt_len p c h s ta tb td tq; rw [hT]; simp [ByteArray.size]; omega
  rw [← hT] at hst
  clear hT
  refine (hst _).mono ?_
  rintro e w5 ⟨rfl, hq⟩
  replace BV := BV.below hq
  replace BZ := BZ.below hq
  replace hS := hS.below hq
  replace hb := chain hb hq
  clear hq hst
  (try go_wp2_with fail)
  refine hK.out _ _ ⟨BV.four.1, BV.four.2.1, BV.four.2.2.1, BV.four.2.2.2.1⟩ (fun hHeld => ?_)
  clear hK K
  try simp only [Act.put, List.setIfInBounds_toArray, List.set_cons_zero, List.set_cons_succ]
  refine wpAnyH_ready (rs := [7]) (by kernel_rfl) (by simp) ?_
  refine AllReadyH.cons (o := { dst := some 17, op := _, type := _, pos := _, after := _, guard := _ }) rfl (fun K hK => ?_) AllReadyH.nil
  go_simp
  refine (damage06_any B g a0 len cap T _ hS hTl).mono ?_
  rintro e w6 ⟨u, rfl, hu, hS, hG⟩
  replace BV := BV.grown hG (by omega)
  replace BZ := BZ.grown hG (by omega)
  replace hb := chain_grown hb hG (by omega)
  (try go_wp2_with fail)
  refine hK.out _ _ ⟨BV.four.1, BV.four.2.1, BV.four.2.2.1, BV.four.2.2.2.1⟩ (fun hHeld => ?_)
  clear hK K
  try simp only [Act.put, List.setIfInBounds_toArray, List.set_cons_zero, List.set_cons_succ]
  refine wpAnyH_ready (rs := [8]) (by kernel_rfl) (by simp) ?_
  refine AllReadyH.cons (o := { dst := none, op := _, type := _, pos := _, after := _, guard := _ }) rfl (fun K hK => ?_) AllReadyH.nil
  obtain ⟨k0, k1, k2, k3, kf, kl⟩ := BZ.four
  go_simp
  (try go_wp2_with fail)
  refine hK.out _ _ ⟨(((((BV).other (by omega)).other (by omega)).other (by omega)).other (by omega)).four.1, (((((BV).other (by omega)).other (by omega)).other (by omega)).other (by omega)).four.2.1, (((((BV).other (by omega)).other (by omega)).other (by omega)).other (by omega)).four.2.2.1, (((((BV).other (by omega)).other (by omega)).other (by omega)).other (by omega)).four.2.2.2.1⟩ (fun hHeld => ?_)
  clear hK K
  try simp only [Act.put, List.setIfInBounds_toArray, List.set_cons_zero, List.set_cons_succ]
  refine wpAnyH_take (i := 9) (oi := { dst := some 3, op := _, type := _, pos := _, after := _, guard := _ }) (v := ?_) rfl (by kernel_rfl) (by kernel_rfl) (by kernel_rfl) (fun _ _ _ h => h) (Or.inl ⟨by rfl, ?_⟩) (by assumption) ?_
  rotate_left
  · intro w hSw
    (try dsimp only at hSw)
    go_simp
    (try (with_reducible rfl))
  try simp only [Act.put, List.setIfInBounds_toArray, List.set_cons_zero, List.set_cons_succ]
  refine wpAnyH_done (by kernel_rfl) ?_ _
  clear hHeld
  have BZn := ((((BZ.set (i := 0) (.int .i64 p)).set (i := 1) (.int .i64 c)).set (i := 2) (.int .i64 h)).set (i := 3) (.int .i64 s))
  obtain ⟨u0, u1, u2, u3, uf, ul⟩ := BZn.four
  go_wp2_with fail
  refine bodyPost_ret (v := .tuple #[.agg #[.int .i64 p, .int .i64 c, .int .i64 h, .int .i64 s], .string u]) (by simp [results, Tryd.results19, go_sem, u0, u1, u2, u3]) rfl ?_
  exact ⟨p, c, h, s, u, rfl, hu, (((hb.setCell (Nat.le_refl _) _).setCell (Nat.le_refl _) _).setCell (Nat.le_refl _) _).setCell (Nat.le_refl _) _⟩
end Go.Proofs.YthfhiggageejbaaDoor
