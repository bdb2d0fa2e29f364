/- Texts of a proof, laid together. -/
import Derived.Test.YtodlofabffenoaaV13
import Derived.Test.YtodlofabffenoaaV09
import Derived.Test.YtodlofabffenoaaV11
import Derived.Test.YtodlofabffenoaaV10
import Derived.Test.YtodlofabffenoaaV04
import Derived.Deep.RegionHeld3
import Derived.Deep.CutRange
namespace Go.Proofs.Ytodlofabffenoaa
open Go.ChangeShapes Go.WideShapes Go.ChangeAt Go.RowKit
set_option linter.unusedVariables false
set_option linter.unusedSimpArgs false
set_option maxRecDepth 4000
theorem CellIs.far2 {W : World} {g b' o : Nat} {v : Value} (h : CellIs W b' o v) (hne : b' ≠ g) (a b : Value) : CellIs ((W.setCell ⟨g, 0, none⟩ a).setCell ⟨g, 1, none⟩ b) b' o v := by
  unfold CellIs at *
  rw [World.cell?_setCell_far _ _ _ _ (by simpa using fun e => hne e.symm), World.cell?_setCell_far _ _ _ _ (by simpa using fun e => hne e.symm)]
  exact h
def LeGot (r : Option (List Int × List Int)) (w : World) (e : Ending) (w' : World) : Prop := match r with
  | some b => ∃ g1 g2 k1 k2, e = .returned (.tuple #[.agg #[.slice (some ⟨g1, 0, none⟩) b.1.length k1, .slice (some ⟨g2, 0, none⟩) b.2.length k2], .bool true]) ∧ w.heap.size ≤ g1 ∧ w.heap.size ≤ g2 ∧ g1 ≠ g2 ∧ Row w' g1 b.1 ∧ Row w' g2 b.2 ∧ Below w.heap.size w w'
  | none => e = .returned (.tuple #[.agg #[.slice none 0 0, .slice none 0 0], .bool false]) ∧ Below w.heap.size w w'
set_option maxRecDepth 8000 in
set_option maxHeartbeats 2000000 in
theorem l05Legal_any (P : Nat) (c h s : Int) (a1 a2 : Option Addr) (n1 n2 c1 c2 : Nat) (xs ys : List Int) (ao : Option Addr) (no co : Nat) (os : List Int) (at_ : Option Addr) (nt ct : Nat) (ts : List Stp) (w : World) (h1 : xs.length = n1) (h2 : ys.length = n2) (g : isB (P : Int) c h s xs ys = true) (r1 : IRow w a1 xs) (r2 : IRow w a2 ys)
    (hno : os.length = no) (ro : IRow w ao os) (hts : ts.length = nt) (hnt : nt ≤ no) (hn4 : no ≤ 1000) (rt : 0 < nt → ∃ gt, at_ = some ⟨gt, 0, none⟩ ∧ SRow w gt ts) :
    Calls Try.prog 22 #[.agg #[.int .i64 (P : Int), .int .i64 c, .int .i64 h, .int .i64 s], .agg #[.slice a1 n1 c1, .slice a2 n2 c2], .slice ao no co, .slice at_ nt ct] w (LeGot (folN P h s os ts (xs, ys)) w) := by
  subst h1 h2
  obtain ⟨p0, p1, k0, k1, k2, k3, N1, N2, hx, hy, s0, s1, s2, s3⟩ := isB_parts g
  have hs6 := isB_sides g
  have hox := fun W (q1 : IRow W a1 xs) => l02Own_any a1 _ c1 xs W rfl (by omega) (by omega) q1
  have hoy := fun W (q2 : IRow W a2 ys) => l02Own_any a2 _ c2 ys W rfl (by omega) (by omega) q2
  have HOX := Lib.hid hox
  have HOY := Lib.hid hoy
  have HG := Lib.hid g
  have HNO := Lib.hid hno
  have HTS := Lib.hid hts
  have HRO := Lib.hid ro
  have HRT := Lib.hid rt
  obtain ⟨BV, BB, BO, hb, hz⟩ := three_new w #[.int .i64 (P : Int), .int .i64 c, .int .i64 h, .int .i64 s] #[.slice a1 xs.length c1, .slice a2 ys.length c2] #[.slice none 0 0, .slice none 0 0] 35 32 32
  clear hz hox hoy g hno hts ro rt hx hy N1 N2 s0 s1 s2 s3
  replace r1 := r1.below hb
  replace r2 := r2.below hb
  obtain ⟨R, hR⟩ : ∃ R, folN P h s os ts (xs, ys) = R := ⟨_, rfl⟩
  have HFN := Lib.hid hR
  rw [hR]
  clear hR
  go_enter Try.func22, Try.ntmps22
  go_upto_region 1 with (fail)
  generalize (((w.alloc (.cells #[.int .i64 (P : Int), .int .i64 c, .int .i64 h, .int .i64 s] 35)).alloc (.cells #[.slice a1 xs.length c1, .slice a2 ys.length c2] 32)).alloc (.cells #[.slice none 0 0, .slice none 0 0] 32)) = v0 at *
  go_cut [10] from 12 to 18 (fun q10 wc_ => ∃ g g1 g2 k1 k2, q10 = .pointer (some ⟨g, 0, none⟩) ∧ (w.heap.size + 1 + 1 < g ∧ w.heap.size ≤ g1 ∧ w.heap.size ≤ g2 ∧ g1 ≠ g2) ∧ Blk wc_ g #[.slice (some ⟨g1, 0, none⟩) xs.length k1, .slice (some ⟨g2, 0, none⟩) ys.length k2] 32 ∧ Row wc_ g1 xs ∧ Row wc_ g2 ys ∧ Blk wc_ w.heap.size #[.int .i64 (P : Int), .int .i64 c, .int .i64 h, .int .i64 s] 35 ∧ Blk wc_ (w.heap.size + 1 + 1) #[.slice none 0 0, .slice none 0 0] 32 ∧ Below w.heap.size w wc_)
  case first =>
    refine wp_region_held_drew (S := fun w' => w'.cell? ⟨w.heap.size + 1, 0, none⟩ = some (.slice a1 xs.length c1) ∧ w'.cell? ⟨w.heap.size + 1, 1, none⟩ = some (.slice a2 ys.length c2)) (by kernel_rfl) ⟨(BB.drew).two.1, (BB.drew).two.2.1⟩ (fun hHeld => ?_)
    clear hHeld
    replace BV := BV.drew
    replace BB := BB.drew
    replace BO := BO.drew
    replace r1 := r1.drew
    replace r2 := r2.drew
    replace hb := hb.drew
    generalize v0.drew = vd at *
    have hHeld : vd.cell? ⟨w.heap.size + 1, 0, none⟩ = some (.slice a1 xs.length c1) ∧ vd.cell? ⟨w.heap.size + 1, 1, none⟩ = some (.slice a2 ys.length c2) := ⟨(BB).two.1, (BB).two.2.1⟩
    refine wpAnyH_take (i := 0) (oi := ⟨some 12, _, _, _, _, _⟩) (v := ?_) rfl (by kernel_rfl) (by kernel_rfl) (by kernel_rfl) (fun _ _ _ h => h) (Or.inl ⟨by rfl, ?_⟩) (by assumption) ?_
    rotate_left
    · intro w hSw; (try dsimp only at hSw); go_simp; (try (with_reducible rfl))
    try simp only [Act.put, List.setIfInBounds_toArray, List.set_cons_zero, List.set_cons_succ]
    refine wpAnyH_take (i := 1) (oi := ⟨some 13, _, _, _, _, _⟩) (v := ?_) rfl (by kernel_rfl) (by kernel_rfl) (by kernel_rfl) (fun _ _ _ h => h) (Or.inl ⟨by rfl, ?_⟩) (by assumption) ?_
    rotate_left
    · intro w hSw; (try dsimp only at hSw); go_simp; (try (with_reducible rfl))
    try simp only [Act.put, List.setIfInBounds_toArray, List.set_cons_zero, List.set_cons_succ]
    refine wpAnyH_take (i := 3) (oi := ⟨some 15, _, _, _, _, _⟩) (v := ?_) rfl (by kernel_rfl) (by kernel_rfl) (by kernel_rfl) (fun _ _ _ h => h) (Or.inl ⟨by rfl, ?_⟩) (by assumption) ?_
    rotate_left
    · intro w hSw; (try dsimp only at hSw); go_simp; (try (with_reducible rfl))
    try simp only [Act.put, List.setIfInBounds_toArray, List.set_cons_zero, List.set_cons_succ]
    refine wpAnyH_take (i := 4) (oi := ⟨some 16, _, _, _, _, _⟩) (v := ?_) rfl (by kernel_rfl) (by kernel_rfl) (by kernel_rfl) (fun _ _ _ h => h) (Or.inl ⟨by rfl, ?_⟩) (by assumption) ?_
    rotate_left
    · intro w hSw; (try dsimp only at hSw); go_simp; (try (with_reducible rfl))
    try simp only [Act.put, List.setIfInBounds_toArray, List.set_cons_zero, List.set_cons_succ]
    refine wpAnyH_ready (rs := [2, 7]) (by kernel_rfl) (by simp) ?_
    refine AllReadyH.cons (o := ⟨some 14, _, _, _, _, _⟩) rfl (fun K hK => ?_) (AllReadyH.cons (o := ⟨some 10, _, _, _, _, _⟩) rfl (fun K hK => ?_) AllReadyH.nil)
    · go_simp
      refine (HOX.out _ r1).mono ?_
      rintro e w2 ⟨g1, k1, rfl, hg1, R1, hbA⟩
      have hz_hbA := hbA.size
      replace BV := BV.below hbA
      replace BB := BB.below hbA
      replace BO := BO.below hbA
      replace r1 := r1.below hbA
      replace r2 := r2.below hbA
      have hgw2 : w.heap.size ≤ g1 := by have := hb.size; omega
      replace hb := chain hb hbA
      clear hbA
      (try go_wp2_with fail)
      refine hK.out _ _ ⟨(BB).two.1, (BB).two.2.1⟩ (fun hHeld => ?_)
      clear hK K
      try simp only [Act.put, List.setIfInBounds_toArray, List.set_cons_zero, List.set_cons_succ]
      refine wpAnyH_ready (rs := [5, 7]) (by kernel_rfl) (by simp) ?_
      refine AllReadyH.cons (o := ⟨some 17, _, _, _, _, _⟩) rfl (fun K hK => ?_) (AllReadyH.cons (o := ⟨some 10, _, _, _, _, _⟩) rfl (fun K hK => ?_) AllReadyH.nil)
      · go_simp
        refine (HOY.out _ r2).mono ?_
        rintro e w5 ⟨g2, k2, rfl, hg2, R2, hbB⟩
        have hlt1 := R1.lt
        have hz_hbB := hbB.size
        replace BV := BV.below hbB
        replace BB := BB.below hbB
        replace BO := BO.below hbB
        replace r1 := r1.below hbB
        replace r2 := r2.below hbB
        replace R1 := R1.below hbB
        have hgw5 : w.heap.size ≤ g2 := by have := hb.size; omega
        replace hb := chain hb hbB
        clear hbB
        have hne12 : g1 ≠ g2 := by omega
        (try go_wp2_with fail)
        refine hK.out _ _ ⟨(BB).two.1, (BB).two.2.1⟩ (fun hHeld => ?_)
        clear hK K
        try simp only [Act.put, List.setIfInBounds_toArray, List.set_cons_zero, List.set_cons_succ]
        refine wpAnyH_take (i := 6) (oi := ⟨some 18, _, _, _, _, _⟩) (v := ?_) rfl (by kernel_rfl) (by kernel_rfl) (by kernel_rfl) (fun _ _ _ h => h) (Or.inl ⟨by rfl, ?_⟩) (by assumption) ?_
        rotate_left
        · intro w hSw; (try dsimp only at hSw); go_simp; (try (with_reducible rfl))
        try simp only [Act.put, List.setIfInBounds_toArray, List.set_cons_zero, List.set_cons_succ]
        refine wpAnyH_ready (rs := [7]) (by kernel_rfl) (by simp) ?_
        refine AllReadyH.cons (o := ⟨some 10, _, _, _, _, _⟩) rfl (fun K hK => ?_) AllReadyH.nil
        go_simp
        have hal : Below w5.heap.size w5 (w5.alloc (.cells #[.slice none 0 0, .slice none 0 0] 32)) := (Below.refl _ _).alloc (Nat.le_refl _) _
        have h8 : w.heap.size + 1 + 1 < w5.heap.size := BO.lt
        (try go_wp2_with fail)
        refine hK.out _ _ ⟨(BB.below hal).two.1, (BB.below hal).two.2.1⟩ (fun hHeld => ?_)
        clear hK K
        try simp only [Act.put, List.setIfInBounds_toArray, List.set_cons_zero, List.set_cons_succ]
        have B8 := Blk.new w5 #[.slice none 0 0, .slice none 0 0] 32
        replace BV := BV.below hal
        replace BB := BB.below hal
        replace BO := BO.below hal
        replace r1 := r1.below hal
        replace r2 := r2.below hal
        replace R1 := R1.below hal
        replace R2 := R2.below hal
        replace hb := chain hb hal
        clear hal
        generalize w5.alloc (.cells #[.slice none 0 0, .slice none 0 0] 32) = wA at *
        generalize w5.heap.size = g8 at *
        refine wpAnyH_ready (rs := [8]) (by kernel_rfl) (by simp) ?_
        refine AllReadyH.cons (o := ⟨none, _, _, _, _, _⟩) rfl (fun K hK => ?_) AllReadyH.nil
        clear hHeld
        obtain ⟨z0, z1, zf, zl⟩ := B8.two
        have n81 := rowNe R1 B8 (by decide)
        have n82 := rowNe R2 B8 (by decide)
        have SBV := (BV.other (g := g8) (o := 0) (v := (.slice (some ⟨g1, 0, none⟩) xs.length k1)) (by omega)).other (g := g8) (o := 1) (v := (.slice (some ⟨g2, 0, none⟩) ys.length k2)) (by omega)
        have SBB := (BB.other (g := g8) (o := 0) (v := (.slice (some ⟨g1, 0, none⟩) xs.length k1)) (by omega)).other (g := g8) (o := 1) (v := (.slice (some ⟨g2, 0, none⟩) ys.length k2)) (by omega)
        have SBO := (BO.other (g := g8) (o := 0) (v := (.slice (some ⟨g1, 0, none⟩) xs.length k1)) (by omega)).other (g := g8) (o := 1) (v := (.slice (some ⟨g2, 0, none⟩) ys.length k2)) (by omega)
        have SR1 := (R1.other (g := g8) (o := 0) (v := (.slice (some ⟨g1, 0, none⟩) xs.length k1)) n81).other (g := g8) (o := 1) (v := (.slice (some ⟨g2, 0, none⟩) ys.length k2)) n81
        have SR2 := (R2.other (g := g8) (o := 0) (v := (.slice (some ⟨g1, 0, none⟩) xs.length k1)) n82).other (g := g8) (o := 1) (v := (.slice (some ⟨g2, 0, none⟩) ys.length k2)) n82
        have Shb := (hb.setCell (p := ⟨g8, 0, none⟩) (by simp; omega) (.slice (some ⟨g1, 0, none⟩) xs.length k1)).setCell (p := ⟨g8, 1, none⟩) (by simp; omega) (.slice (some ⟨g2, 0, none⟩) ys.length k2)
        have SB8 := (B8.set (i := 0) (.slice (some ⟨g1, 0, none⟩) xs.length k1)).set (i := 1) (.slice (some ⟨g2, 0, none⟩) ys.length k2)
        simp only [List.setIfInBounds_toArray, List.set_cons_zero, List.set_cons_succ] at SB8
        go_simp
        (try go_wp2_with fail)
        refine hK.out _ _ ⟨(SBB).two.1, (SBB).two.2.1⟩ (fun hHeld => ?_)
        clear hK K
        try simp only [Act.put, List.setIfInBounds_toArray, List.set_cons_zero, List.set_cons_succ]
        clear z0 z1 zf zl hb B8 n81 n82 r1 r2 R1 R2 BV BB BO
        generalize ((wA.setCell ⟨g8, 0, none⟩ (.slice (some ⟨g1, 0, none⟩) xs.length k1)).setCell ⟨g8, 1, none⟩ (.slice (some ⟨g2, 0, none⟩) ys.length k2)) = wS at *
        refine wpAnyH_done (by kernel_rfl) ?_ _
        clear hHeld
        (try go_wp2_with fail)
        go_meet
        case rel => exact ⟨g8, g1, g2, k1, k2, rfl, ⟨by omega, by omega, by omega, hne12⟩, SB8, SR1, SR2, SBV, SBO, Shb⟩
      · go_simp
        have hal : Below w2.heap.size w2 (w2.alloc (.cells #[.slice none 0 0, .slice none 0 0] 32)) := (Below.refl _ _).alloc (Nat.le_refl _) _
        have h8 : w.heap.size + 1 + 1 < w2.heap.size := BO.lt
        (try go_wp2_with fail)
        refine hK.out _ _ ⟨(BB.below hal).two.1, (BB.below hal).two.2.1⟩ (fun hHeld => ?_)
        clear hK K
        try simp only [Act.put, List.setIfInBounds_toArray, List.set_cons_zero, List.set_cons_succ]
        have B8 := Blk.new w2 #[.slice none 0 0, .slice none 0 0] 32
        replace BV := BV.below hal
        replace BB := BB.below hal
        replace BO := BO.below hal
        replace r1 := r1.below hal
        replace r2 := r2.below hal
        replace R1 := R1.below hal
        replace hb := chain hb hal
        clear hal
        generalize w2.alloc (.cells #[.slice none 0 0, .slice none 0 0] 32) = wA at *
        generalize w2.heap.size = g8 at *
        refine wpAnyH_ready (rs := [5]) (by kernel_rfl) (by simp) ?_
        refine AllReadyH.cons (o := ⟨some 17, _, _, _, _, _⟩) rfl (fun K hK => ?_) AllReadyH.nil
        go_simp
        refine (HOY.out _ r2).mono ?_
        rintro e w5 ⟨g2, k2, rfl, hg2, R2, hbB⟩
        have hlt1 := R1.lt
        have hz_hbB := hbB.size
        replace BV := BV.below hbB
        replace BB := BB.below hbB
        replace BO := BO.below hbB
        replace r1 := r1.below hbB
        replace r2 := r2.below hbB
        replace B8 := B8.below hbB
        replace R1 := R1.below hbB
        have hgw5 : w.heap.size ≤ g2 := by have := hb.size; omega
        replace hb := chain hb hbB
        clear hbB
        have hne12 : g1 ≠ g2 := by omega
        (try go_wp2_with fail)
        refine hK.out _ _ ⟨(BB).two.1, (BB).two.2.1⟩ (fun hHeld => ?_)
        clear hK K
        try simp only [Act.put, List.setIfInBounds_toArray, List.set_cons_zero, List.set_cons_succ]
        refine wpAnyH_take (i := 6) (oi := ⟨some 18, _, _, _, _, _⟩) (v := ?_) rfl (by kernel_rfl) (by kernel_rfl) (by kernel_rfl) (fun _ _ _ h => h) (Or.inl ⟨by rfl, ?_⟩) (by assumption) ?_
        rotate_left
        · intro w hSw; (try dsimp only at hSw); go_simp; (try (with_reducible rfl))
        try simp only [Act.put, List.setIfInBounds_toArray, List.set_cons_zero, List.set_cons_succ]
        refine wpAnyH_ready (rs := [8]) (by kernel_rfl) (by simp) ?_
        refine AllReadyH.cons (o := ⟨none, _, _, _, _, _⟩) rfl (fun K hK => ?_) AllReadyH.nil
        clear hHeld
        obtain ⟨z0, z1, zf, zl⟩ := B8.two
        have n81 := rowNe R1 B8 (by decide)
        have n82 := rowNe R2 B8 (by decide)
        have SBV := (BV.other (g := g8) (o := 0) (v := (.slice (some ⟨g1, 0, none⟩) xs.length k1)) (by omega)).other (g := g8) (o := 1) (v := (.slice (some ⟨g2, 0, none⟩) ys.length k2)) (by omega)
        have SBB := (BB.other (g := g8) (o := 0) (v := (.slice (some ⟨g1, 0, none⟩) xs.length k1)) (by omega)).other (g := g8) (o := 1) (v := (.slice (some ⟨g2, 0, none⟩) ys.length k2)) (by omega)
        have SBO := (BO.other (g := g8) (o := 0) (v := (.slice (some ⟨g1, 0, none⟩) xs.length k1)) (by omega)).other (g := g8) (o := 1) (v := (.slice (some ⟨g2, 0, none⟩) ys.length k2)) (by omega)
        have SR1 := (R1.other (g := g8) (o := 0) (v := (.slice (some ⟨g1, 0, none⟩) xs.length k1)) n81).other (g := g8) (o := 1) (v := (.slice (some ⟨g2, 0, none⟩) ys.length k2)) n81
        have SR2 := (R2.other (g := g8) (o := 0) (v := (.slice (some ⟨g1, 0, none⟩) xs.length k1)) n82).other (g := g8) (o := 1) (v := (.slice (some ⟨g2, 0, none⟩) ys.length k2)) n82
        have Shb := (hb.setCell (p := ⟨g8, 0, none⟩) (by simp; omega) (.slice (some ⟨g1, 0, none⟩) xs.length k1)).setCell (p := ⟨g8, 1, none⟩) (by simp; omega) (.slice (some ⟨g2, 0, none⟩) ys.length k2)
        have SB8 := (B8.set (i := 0) (.slice (some ⟨g1, 0, none⟩) xs.length k1)).set (i := 1) (.slice (some ⟨g2, 0, none⟩) ys.length k2)
        simp only [List.setIfInBounds_toArray, List.set_cons_zero, List.set_cons_succ] at SB8
        go_simp
        (try go_wp2_with fail)
        refine hK.out _ _ ⟨(SBB).two.1, (SBB).two.2.1⟩ (fun hHeld => ?_)
        clear hK K
        try simp only [Act.put, List.setIfInBounds_toArray, List.set_cons_zero, List.set_cons_succ]
        clear z0 z1 zf zl hb B8 n81 n82 r1 r2 R1 R2 BV BB BO
        generalize ((w5.setCell ⟨g8, 0, none⟩ (.slice (some ⟨g1, 0, none⟩) xs.length k1)).setCell ⟨g8, 1, none⟩ (.slice (some ⟨g2, 0, none⟩) ys.length k2)) = wS at *
        refine wpAnyH_done (by kernel_rfl) ?_ _
        clear hHeld
        (try go_wp2_with fail)
        go_meet
        case rel => exact ⟨g8, g1, g2, k1, k2, rfl, ⟨by omega, by omega, by omega, hne12⟩, SB8, SR1, SR2, SBV, SBO, Shb⟩
    · go_simp
      have hal : Below vd.heap.size vd (vd.alloc (.cells #[.slice none 0 0, .slice none 0 0] 32)) := (Below.refl _ _).alloc (Nat.le_refl _) _
      have h8 : w.heap.size + 1 + 1 < vd.heap.size := BO.lt
      (try go_wp2_with fail)
      refine hK.out _ _ ⟨(BB.below hal).two.1, (BB.below hal).two.2.1⟩ (fun hHeld => ?_)
      clear hK K
      try simp only [Act.put, List.setIfInBounds_toArray, List.set_cons_zero, List.set_cons_succ]
      have B8 := Blk.new vd #[.slice none 0 0, .slice none 0 0] 32
      replace BV := BV.below hal
      replace BB := BB.below hal
      replace BO := BO.below hal
      replace r1 := r1.below hal
      replace r2 := r2.below hal
      replace hb := chain hb hal
      clear hal
      generalize vd.alloc (.cells #[.slice none 0 0, .slice none 0 0] 32) = wA at *
      generalize vd.heap.size = g8 at *
      refine wpAnyH_ready (rs := [2]) (by kernel_rfl) (by simp) ?_
      refine AllReadyH.cons (o := ⟨some 14, _, _, _, _, _⟩) rfl (fun K hK => ?_) AllReadyH.nil
      go_simp
      refine (HOX.out _ r1).mono ?_
      rintro e w2 ⟨g1, k1, rfl, hg1, R1, hbA⟩
      have hz_hbA := hbA.size
      replace BV := BV.below hbA
      replace BB := BB.below hbA
      replace BO := BO.below hbA
      replace r1 := r1.below hbA
      replace r2 := r2.below hbA
      replace B8 := B8.below hbA
      have hgw2 : w.heap.size ≤ g1 := by have := hb.size; omega
      replace hb := chain hb hbA
      clear hbA
      (try go_wp2_with fail)
      refine hK.out _ _ ⟨(BB).two.1, (BB).two.2.1⟩ (fun hHeld => ?_)
      clear hK K
      try simp only [Act.put, List.setIfInBounds_toArray, List.set_cons_zero, List.set_cons_succ]
      refine wpAnyH_ready (rs := [5]) (by kernel_rfl) (by simp) ?_
      refine AllReadyH.cons (o := ⟨some 17, _, _, _, _, _⟩) rfl (fun K hK => ?_) AllReadyH.nil
      go_simp
      refine (HOY.out _ r2).mono ?_
      rintro e w5 ⟨g2, k2, rfl, hg2, R2, hbB⟩
      have hlt1 := R1.lt
      have hz_hbB := hbB.size
      replace BV := BV.below hbB
      replace BB := BB.below hbB
      replace BO := BO.below hbB
      replace r1 := r1.below hbB
      replace r2 := r2.below hbB
      replace B8 := B8.below hbB
      replace R1 := R1.below hbB
      have hgw5 : w.heap.size ≤ g2 := by have := hb.size; omega
      replace hb := chain hb hbB
      clear hbB
      have hne12 : g1 ≠ g2 := by omega
      (try go_wp2_with fail)
      refine hK.out _ _ ⟨(BB).two.1, (BB).two.2.1⟩ (fun hHeld => ?_)
      clear hK K
      try simp only [Act.put, List.setIfInBounds_toArray, List.set_cons_zero, List.set_cons_succ]
      refine wpAnyH_take (i := 6) (oi := ⟨some 18, _, _, _, _, _⟩) (v := ?_) rfl (by kernel_rfl) (by kernel_rfl) (by kernel_rfl) (fun _ _ _ h => h) (Or.inl ⟨by rfl, ?_⟩) (by assumption) ?_
      rotate_left
      · intro w hSw; (try dsimp only at hSw); go_simp; (try (with_reducible rfl))
      try simp only [Act.put, List.setIfInBounds_toArray, List.set_cons_zero, List.set_cons_succ]
      refine wpAnyH_ready (rs := [8]) (by kernel_rfl) (by simp) ?_
      refine AllReadyH.cons (o := ⟨none, _, _, _, _, _⟩) rfl (fun K hK => ?_) AllReadyH.nil
      clear hHeld
      obtain ⟨z0, z1, zf, zl⟩ := B8.two
      have n81 := rowNe R1 B8 (by decide)
      have n82 := rowNe R2 B8 (by decide)
      have SBV := (BV.other (g := g8) (o := 0) (v := (.slice (some ⟨g1, 0, none⟩) xs.length k1)) (by omega)).other (g := g8) (o := 1) (v := (.slice (some ⟨g2, 0, none⟩) ys.length k2)) (by omega)
      have SBB := (BB.other (g := g8) (o := 0) (v := (.slice (some ⟨g1, 0, none⟩) xs.length k1)) (by omega)).other (g := g8) (o := 1) (v := (.slice (some ⟨g2, 0, none⟩) ys.length k2)) (by omega)
      have SBO := (BO.other (g := g8) (o := 0) (v := (.slice (some ⟨g1, 0, none⟩) xs.length k1)) (by omega)).other (g := g8) (o := 1) (v := (.slice (some ⟨g2, 0, none⟩) ys.length k2)) (by omega)
      have SR1 := (R1.other (g := g8) (o := 0) (v := (.slice (some ⟨g1, 0, none⟩) xs.length k1)) n81).other (g := g8) (o := 1) (v := (.slice (some ⟨g2, 0, none⟩) ys.length k2)) n81
      have SR2 := (R2.other (g := g8) (o := 0) (v := (.slice (some ⟨g1, 0, none⟩) xs.length k1)) n82).other (g := g8) (o := 1) (v := (.slice (some ⟨g2, 0, none⟩) ys.length k2)) n82
      have Shb := (hb.setCell (p := ⟨g8, 0, none⟩) (by simp; omega) (.slice (some ⟨g1, 0, none⟩) xs.length k1)).setCell (p := ⟨g8, 1, none⟩) (by simp; omega) (.slice (some ⟨g2, 0, none⟩) ys.length k2)
      have SB8 := (B8.set (i := 0) (.slice (some ⟨g1, 0, none⟩) xs.length k1)).set (i := 1) (.slice (some ⟨g2, 0, none⟩) ys.length k2)
      simp only [List.setIfInBounds_toArray, List.set_cons_zero, List.set_cons_succ] at SB8
      go_simp
      (try go_wp2_with fail)
      refine hK.out _ _ ⟨(SBB).two.1, (SBB).two.2.1⟩ (fun hHeld => ?_)
      clear hK K
      try simp only [Act.put, List.setIfInBounds_toArray, List.set_cons_zero, List.set_cons_succ]
      clear z0 z1 zf zl hb B8 n81 n82 r1 r2 R1 R2 BV BB BO
      generalize ((w5.setCell ⟨g8, 0, none⟩ (.slice (some ⟨g1, 0, none⟩) xs.length k1)).setCell ⟨g8, 1, none⟩ (.slice (some ⟨g2, 0, none⟩) ys.length k2)) = wS at *
      refine wpAnyH_done (by kernel_rfl) ?_ _
      clear hHeld
      (try go_wp2_with fail)
      go_meet
      case rel => exact ⟨g8, g1, g2, k1, k2, rfl, ⟨by omega, by omega, by omega, hne12⟩, SB8, SR1, SR2, SBV, SBO, Shb⟩
  case rest =>
    clear BV BB BO r1 r2 hb HOX HOY
    obtain ⟨gA, ga, gb, k1, k2, rfl, ⟨hgA, hga', hgb', hne'⟩, BA, RA, RB, BV, BO, hb⟩ := hcut
    go_wp2_with fail
    go_loopg [11] nt (fun m i wr => ∃ (k : Nat) (bx bz : List Int) (ga gb k1 k2 : Nat), k ≤ nt ∧ m = nt - k ∧ i = .int .i64 k ∧ R = folN P h s (os.drop k) (ts.drop k) (bx, bz) ∧ isB (P : Int) c h s bx bz = true ∧ (w.heap.size ≤ ga ∧ w.heap.size ≤ gb ∧ ga ≠ gb) ∧ Blk wr w.heap.size #[.int .i64 (P : Int), .int .i64 c, .int .i64 h, .int .i64 s] 35 ∧ Blk wr (w.heap.size + 1 + 1) #[.slice none 0 0, .slice none 0 0] 32 ∧ Blk wr gA #[.slice (some ⟨ga, 0, none⟩) bx.length k1, .slice (some ⟨gb, 0, none⟩) bz.length k2] 32 ∧ Row wr ga bx ∧ Row wr gb bz ∧ Below w.heap.size w wr)
    case atStart => exact ⟨0, xs, ys, ga, gb, k1, k2, by omega, by omega, rfl, by rw [← HFN.out]; rfl, HG.out, ⟨hga', hgb', hne'⟩, BV, BO, BA, RA, RB, hb⟩
    case round =>
      clear BV BO BA RA RB hb hne' hga' hgb'
      obtain ⟨k, bx, bz, ga, gb, k1, k2, hk, hm, rfl, hF, hgi, ⟨hga, hgb, hne⟩, BV, BO, BA, RA, RB, hb⟩ := hrel
      by_cases hlt : k < nt
      · have hlt' : (k : Int) < (nt : Int) := by omega
        have hkn : (k : Int) < (no : Int) := by omega
        have hkN : ¬ no ≤ k := by omega
        have hkL : k < no := by omega
        have hk0 : (0 : Int) ≤ (k : Int) := by omega
        have hk4 : (k : Int) ≤ 1000 := by omega
        obtain ⟨gt, rfl, SR⟩ := HRT.out (by omega)
        have hgt : gt < w.heap.size := VRow.lt SR
        have hk1 : k < ts.length := by have := HTS.out; omega
        have hk2 : k < os.length := by have := HNO.out; omega
        obtain ⟨⟨ta, tb, td, tq⟩, htk⟩ : ∃ t, ts[k]? = some t := ⟨ts[k]'hk1, List.getElem?_eq_getElem hk1⟩
        have SR' : SRow wr gt ts := VRow.below SR hb
        obtain ⟨s0_, s1_, s2_, s3_⟩ := SRow.four SR' k _ htk
        obtain ⟨b, oo, rfl, ho_⟩ := (HRO.out.below hb) k hk2
        obtain ⟨ox, hox⟩ : ∃ ox, os.getD k 0 = ox := ⟨_, rfl⟩
        rw [hox] at ho_
        have hd1 : os.drop k = ox :: os.drop (k + 1) := by
          rw [List.drop_eq_getElem_cons hk2]
          congr 1
          rw [← hox]
          simp [List.getD, hk2]
        have hd2 : ts.drop k = (ta, tb, td, tq) :: ts.drop (k + 1) := by
          rw [List.drop_eq_getElem_cons hk1]
          congr 1
          exact (List.getElem?_eq_some_iff.1 htk).2
        rw [hd1, hd2, folN] at hF
        dsimp only at hF s0_ s1_ s2_ s3_
        have s0 : CellIs wr gt (k * 4) (.int .i64 ta) := s0_
        have s1 : CellIs wr gt (k * 4 + 1) (.int .i64 tb) := s1_
        have s2 : CellIs wr gt (k * 4 + 2) (.int .i64 td) := s2_
        have s3 : CellIs wr gt (k * 4 + 3) (.bool tq) := s3_
        clear s0_ s1_ s2_ s3_
        obtain ⟨-, -, -, -, -, -, N1, N2, hx, hy, -, -, -, -⟩ := isB_parts hgi
        have hil := fun W (q1 : IRow W (some ⟨ga, 0, none⟩) bx) (q2 : IRow W (some ⟨gb, 0, none⟩) bz) => l04IsLegal_any P c h s _ _ _ _ k1 k2 bx bz W rfl rfl (by omega) (by omega) (by omega) (by omega) (by omega) (by omega) hx hy q1 q2 (by omega) (ta, tb, td, tq)
        have hap := fun (q : legB P h s bx bz (ta, tb, td, tq) = true) W (q1 : IRow W (some ⟨ga, 0, none⟩) bx) (q2 : IRow W (some ⟨gb, 0, none⟩) bz) => l04Apply_any P c h s _ _ _ _ k1 k2 bx bz W rfl rfl (by omega) (by omega) (by omega) (by omega) (by omega) (by omega) hx hy q1 q2 (ta, tb, td, tq) q
        have hsf := fun (q : legB P h s bx bz (ta, tb, td, tq) = true) => (step_facts hgi q).1
        dsimp only at hap hF
        obtain ⟨X, hX⟩ : ∃ X, mvX bx ta tb 1 = X := ⟨_, rfl⟩
        obtain ⟨Y, hY⟩ : ∃ Y, mvY P bz tb tq 1 = Y := ⟨_, rfl⟩
        rw [hX, hY] at hap hsf hF
        obtain ⟨LB, hLB⟩ : ∃ LB, legB P h s bx bz (ta, tb, td, tq) = LB := ⟨_, rfl⟩
        rw [hLB] at hil hap hsf hF
        have HIL0 := Lib.hid hil
        have HAP0 := Lib.hid hap
        have HSF := Lib.hid hsf
        have HF := Lib.hid hF
        have ho1 : CellIs wr b (oo + k) (.int .i64 ox) := ho_
        clear ho_ hil hap hsf hF hd1 hd2 hox htk hLB N1 N2 hx hy hgi SR' SR hX hY
        go_wp2_with fail
        by_cases hd : td = ox
        · have f0 : (td != ox) = false := by rw [hd]; simp
          cases LB with
          | false =>
            have hF := HF.out
            rw [if_neg (by simp)] at hF
            clear HF HAP0 HSF
            have HF := Lib.hid hF
            have hil := HIL0.out
            have HIL := Lib.hid hil
            clear hF hil HIL0 hd
            have hd_ : wr.drew.heap.size = wr.heap.size := rfl
            replace BV := BV.drew
            replace BA := BA.drew
            replace BO := BO.drew
            replace RA := RA.drew
            replace RB := RB.drew
            replace hb := hb.drew
            replace s0 := CellIs.drew s0
            replace s1 := CellIs.drew s1
            replace s2 := CellIs.drew s2
            replace s3 := CellIs.drew s3
            replace ho1 := CellIs.drew ho1
            refine wp_region_held_drew (S := fun w' => w'.cell? ⟨w.heap.size, 0, none⟩ = some (.int .i64 (P : Int)) ∧ w'.cell? ⟨w.heap.size, 1, none⟩ = some (.int .i64 c) ∧ w'.cell? ⟨w.heap.size, 2, none⟩ = some (.int .i64 h) ∧ w'.cell? ⟨w.heap.size, 3, none⟩ = some (.int .i64 s) ∧ w'.cell? ⟨gA, 0, none⟩ = some (.slice (some ⟨ga, 0, none⟩) bx.length k1) ∧ w'.cell? ⟨gA, 1, none⟩ = some (.slice (some ⟨gb, 0, none⟩) bz.length k2) ∧ w'.cell? ⟨gt, k * 4, none⟩ = some (.int .i64 ta) ∧ w'.cell? ⟨gt, k * 4 + 1, none⟩ = some (.int .i64 tb) ∧ w'.cell? ⟨gt, k * 4 + 2, none⟩ = some (.int .i64 td) ∧ w'.cell? ⟨gt, k * 4 + 3, none⟩ = some (.bool tq) ∧ w'.cell? ⟨b, oo + k, none⟩ = some (.int .i64 ox)) (by kernel_rfl) ⟨BV.four.1, BV.four.2.1, BV.four.2.2.1, BV.four.2.2.2.1, BA.two.1, BA.two.2.1, s0, s1, s2, s3, ho1⟩ (fun hHeld => ?_)
            clear hHeld
            generalize wr.drew = vd at *
            have hHeld : vd.cell? ⟨w.heap.size, 0, none⟩ = some (.int .i64 (P : Int)) ∧ vd.cell? ⟨w.heap.size, 1, none⟩ = some (.int .i64 c) ∧ vd.cell? ⟨w.heap.size, 2, none⟩ = some (.int .i64 h) ∧ vd.cell? ⟨w.heap.size, 3, none⟩ = some (.int .i64 s) ∧ vd.cell? ⟨gA, 0, none⟩ = some (.slice (some ⟨ga, 0, none⟩) bx.length k1) ∧ vd.cell? ⟨gA, 1, none⟩ = some (.slice (some ⟨gb, 0, none⟩) bz.length k2) ∧ vd.cell? ⟨gt, k * 4, none⟩ = some (.int .i64 ta) ∧ vd.cell? ⟨gt, k * 4 + 1, none⟩ = some (.int .i64 tb) ∧ vd.cell? ⟨gt, k * 4 + 2, none⟩ = some (.int .i64 td) ∧ vd.cell? ⟨gt, k * 4 + 3, none⟩ = some (.bool tq) ∧ vd.cell? ⟨b, oo + k, none⟩ = some (.int .i64 ox) := ⟨BV.four.1, BV.four.2.1, BV.four.2.2.1, BV.four.2.2.2.1, BA.two.1, BA.two.2.1, s0, s1, s2, s3, ho1⟩
            refine wpAnyH_take (i := 0) (oi := ⟨some 25, _, _, _, _, _⟩) (v := ?_) rfl (by kernel_rfl) (by kernel_rfl) (by kernel_rfl) (fun _ _ _ h => h) (Or.inl ⟨by rfl, ?_⟩) (by assumption) ?_
            rotate_left
            · intro w hSw; (try dsimp only at hSw); go_simp; (try (with_reducible rfl))
            try simp only [Act.put, List.setIfInBounds_toArray, List.set_cons_zero, List.set_cons_succ]
            refine wpAnyH_take (i := 1) (oi := ⟨some 26, _, _, _, _, _⟩) (v := ?_) rfl (by kernel_rfl) (by kernel_rfl) (by kernel_rfl) (fun _ _ _ h => h) (Or.inl ⟨by rfl, ?_⟩) (by assumption) ?_
            rotate_left
            · intro w hSw; (try dsimp only at hSw); go_simp; (try (with_reducible rfl))
            try simp only [Act.put, List.setIfInBounds_toArray, List.set_cons_zero, List.set_cons_succ]
            refine wpAnyH_take (i := 2) (oi := ⟨some 27, _, _, _, _, _⟩) (v := ?_) rfl (by kernel_rfl) (by kernel_rfl) (by kernel_rfl) (fun _ _ _ h => h) (Or.inl ⟨by rfl, ?_⟩) (by assumption) ?_
            rotate_left
            · intro w hSw; (try dsimp only at hSw); go_simp; (try (with_reducible rfl))
            try simp only [Act.put, List.setIfInBounds_toArray, List.set_cons_zero, List.set_cons_succ]
            refine wpAnyH_take (i := 3) (oi := ⟨some 28, _, _, _, _, _⟩) (v := ?_) rfl (by kernel_rfl) (by kernel_rfl) (by kernel_rfl) (fun _ _ _ h => h) (Or.inl ⟨by rfl, ?_⟩) (by assumption) ?_
            rotate_left
            · intro w hSw; (try dsimp only at hSw); go_simp; (try (with_reducible rfl))
            try simp only [Act.put, List.setIfInBounds_toArray, List.set_cons_zero, List.set_cons_succ]
            refine wpAnyH_take (i := 4) (oi := ⟨some 29, _, _, _, _, _⟩) (v := ?_) rfl (by kernel_rfl) (by kernel_rfl) (by kernel_rfl) (fun _ _ _ h => h) (Or.inl ⟨by rfl, ?_⟩) (by assumption) ?_
            rotate_left
            · intro w hSw; (try dsimp only at hSw); go_simp; (try (with_reducible rfl))
            try simp only [Act.put, List.setIfInBounds_toArray, List.set_cons_zero, List.set_cons_succ]
            refine wpAnyH_take (i := 5) (oi := ⟨some 30, _, _, _, _, _⟩) (v := ?_) rfl (by kernel_rfl) (by kernel_rfl) (by kernel_rfl) (fun _ _ _ h => h) (Or.inl ⟨by rfl, ?_⟩) (by assumption) ?_
            rotate_left
            · intro w hSw; (try dsimp only at hSw); go_simp; (try (with_reducible rfl))
            try simp only [Act.put, List.setIfInBounds_toArray, List.set_cons_zero, List.set_cons_succ]
            refine wpAnyH_take (i := 6) (oi := ⟨some 31, _, _, _, _, _⟩) (v := ?_) rfl (by kernel_rfl) (by kernel_rfl) (by kernel_rfl) (fun _ _ _ h => h) (Or.inl ⟨by rfl, ?_⟩) (by assumption) ?_
            rotate_left
            · intro w hSw; (try dsimp only at hSw); go_simp; (try (with_reducible rfl))
            try simp only [Act.put, List.setIfInBounds_toArray, List.set_cons_zero, List.set_cons_succ]
            refine wpAnyH_take (i := 7) (oi := ⟨some 32, _, _, _, _, _⟩) (v := ?_) rfl (by kernel_rfl) (by kernel_rfl) (by kernel_rfl) (fun _ _ _ h => h) (Or.inl ⟨by rfl, ?_⟩) (by assumption) ?_
            rotate_left
            · intro w hSw; (try dsimp only at hSw); go_simp; (try (with_reducible rfl))
            try simp only [Act.put, List.setIfInBounds_toArray, List.set_cons_zero, List.set_cons_succ]
            refine wpAnyH_take (i := 8) (oi := ⟨some 33, _, _, _, _, _⟩) (v := ?_) rfl (by kernel_rfl) (by kernel_rfl) (by kernel_rfl) (fun _ _ _ h => h) (Or.inl ⟨by rfl, ?_⟩) (by assumption) ?_
            rotate_left
            · intro w hSw; (try dsimp only at hSw); go_simp; (try (with_reducible rfl))
            try simp only [Act.put, List.setIfInBounds_toArray, List.set_cons_zero, List.set_cons_succ]
            refine wpAnyH_take (i := 9) (oi := ⟨some 34, _, _, _, _, _⟩) (v := ?_) rfl (by kernel_rfl) (by kernel_rfl) (by kernel_rfl) (fun _ _ _ h => h) (Or.inl ⟨by rfl, ?_⟩) (by assumption) ?_
            rotate_left
            · intro w hSw; (try dsimp only at hSw); go_simp; (try (with_reducible rfl))
            try simp only [Act.put, List.setIfInBounds_toArray, List.set_cons_zero, List.set_cons_succ]
            refine wpAnyH_take (i := 10) (oi := ⟨some 35, _, _, _, _, _⟩) (v := ?_) rfl (by kernel_rfl) (by kernel_rfl) (by kernel_rfl) (fun _ _ _ h => h) (Or.inl ⟨by rfl, ?_⟩) (by assumption) ?_
            rotate_left
            · intro w hSw; (try dsimp only at hSw); go_simp; (try (with_reducible rfl))
            try simp only [Act.put, List.setIfInBounds_toArray, List.set_cons_zero, List.set_cons_succ]
            refine wpAnyH_take (i := 11) (oi := ⟨some 36, _, _, _, _, _⟩) (v := ?_) rfl (by kernel_rfl) (by kernel_rfl) (by kernel_rfl) (fun _ _ _ h => h) (Or.inl ⟨by rfl, ?_⟩) (by assumption) ?_
            rotate_left
            · intro w hSw; (try dsimp only at hSw); go_simp; (try (with_reducible rfl))
            try simp only [Act.put, List.setIfInBounds_toArray, List.set_cons_zero, List.set_cons_succ]
            refine wpAnyH_take (i := 12) (oi := ⟨some 37, _, _, _, _, _⟩) (v := ?_) rfl (by kernel_rfl) (by kernel_rfl) (by kernel_rfl) (fun _ _ _ h => h) (Or.inl ⟨by rfl, ?_⟩) (by assumption) ?_
            rotate_left
            · intro w hSw; (try dsimp only at hSw); go_simp; (try (with_reducible rfl))
            try simp only [Act.put, List.setIfInBounds_toArray, List.set_cons_zero, List.set_cons_succ]
            refine wpAnyH_take (i := 13) (oi := ⟨some 38, _, _, _, _, _⟩) (v := ?_) rfl (by kernel_rfl) (by kernel_rfl) (by kernel_rfl) (fun _ _ _ h => h) (Or.inl ⟨by rfl, ?_⟩) (by assumption) ?_
            rotate_left
            · intro w hSw; (try dsimp only at hSw); go_simp; (try (with_reducible rfl))
            try simp only [Act.put, List.setIfInBounds_toArray, List.set_cons_zero, List.set_cons_succ]
            refine wpAnyH_take (i := 14) (oi := ⟨some 39, _, _, _, _, _⟩) (v := ?_) rfl (by kernel_rfl) (by kernel_rfl) (by kernel_rfl) (fun _ _ _ h => h) (Or.inl ⟨by rfl, ?_⟩) (by assumption) ?_
            rotate_left
            · intro w hSw; (try dsimp only at hSw); go_simp; (try (with_reducible rfl))
            try simp only [Act.put, List.setIfInBounds_toArray, List.set_cons_zero, List.set_cons_succ]
            refine wpAnyH_take (i := 15) (oi := ⟨some 40, _, _, _, _, _⟩) (v := ?_) rfl (by kernel_rfl) (by kernel_rfl) (by kernel_rfl) (fun _ _ _ h => h) (Or.inl ⟨by rfl, ?_⟩) (by assumption) ?_
            rotate_left
            · intro w hSw; (try dsimp only at hSw); go_simp; (try (with_reducible rfl))
            try simp only [Act.put, List.setIfInBounds_toArray, List.set_cons_zero, List.set_cons_succ]
            refine wpAnyH_take (i := 16) (oi := ⟨some 41, _, _, _, _, _⟩) (v := ?_) rfl (by kernel_rfl) (by kernel_rfl) (by kernel_rfl) (fun _ _ _ h => h) (Or.inl ⟨by rfl, ?_⟩) (by assumption) ?_
            rotate_left
            · intro w hSw; (try dsimp only at hSw); go_simp; (try (with_reducible rfl))
            try simp only [Act.put, List.setIfInBounds_toArray, List.set_cons_zero, List.set_cons_succ]
            refine wpAnyH_take (i := 17) (oi := ⟨some 42, _, _, _, _, _⟩) (v := ?_) rfl (by kernel_rfl) (by kernel_rfl) (by kernel_rfl) (fun _ _ _ h => h) (Or.inl ⟨by rfl, ?_⟩) (by assumption) ?_
            rotate_left
            · intro w hSw; (try dsimp only at hSw); go_simp; (try (with_reducible rfl))
            try simp only [Act.put, List.setIfInBounds_toArray, List.set_cons_zero, List.set_cons_succ]
            refine wpAnyH_take (i := 18) (oi := ⟨some 43, _, _, _, _, _⟩) (v := ?_) rfl (by kernel_rfl) (by kernel_rfl) (by kernel_rfl) (fun _ _ _ h => h) (Or.inl ⟨by rfl, ?_⟩) (by assumption) ?_
            rotate_left
            · intro w hSw; (try dsimp only at hSw); go_simp; (try (with_reducible rfl))
            try simp only [Act.put, List.setIfInBounds_toArray, List.set_cons_zero, List.set_cons_succ]
            refine wpAnyH_take (i := 19) (oi := ⟨some 44, _, _, _, _, _⟩) (v := ?_) rfl (by kernel_rfl) (by kernel_rfl) (by kernel_rfl) (fun _ _ _ h => h) (Or.inl ⟨by rfl, ?_⟩) (by assumption) ?_
            rotate_left
            · intro w hSw; (try dsimp only at hSw); go_simp; (try (with_reducible rfl))
            try simp only [Act.put, List.setIfInBounds_toArray, List.set_cons_zero, List.set_cons_succ]
            refine wpAnyH_take (i := 20) (oi := ⟨some 45, _, _, _, _, _⟩) (v := ?_) rfl (by kernel_rfl) (by kernel_rfl) (by kernel_rfl) (fun _ _ _ h => h) (Or.inl ⟨by rfl, ?_⟩) (by assumption) ?_
            rotate_left
            · intro w hSw; (try dsimp only at hSw); go_simp; (try (with_reducible rfl))
            try simp only [Act.put, List.setIfInBounds_toArray, List.set_cons_zero, List.set_cons_succ]
            refine wpAnyH_take (i := 21) (oi := ⟨some 46, _, _, _, _, _⟩) (v := ?_) rfl (by kernel_rfl) (by kernel_rfl) (by kernel_rfl) (fun _ _ _ h => h) (Or.inl ⟨by rfl, ?_⟩) (by assumption) ?_
            rotate_left
            · intro w hSw; (try dsimp only at hSw); go_simp; (try (with_reducible rfl))
            try simp only [Act.put, List.setIfInBounds_toArray, List.set_cons_zero, List.set_cons_succ]
            refine wpAnyH_take (i := 22) (oi := ⟨some 47, _, _, _, _, _⟩) (v := ?_) rfl (by kernel_rfl) (by kernel_rfl) (by kernel_rfl) (fun _ _ _ h => h) (Or.inl ⟨by rfl, ?_⟩) (by assumption) ?_
            rotate_left
            · intro w hSw; (try dsimp only at hSw); go_simp; (try (with_reducible rfl))
            try simp only [Act.put, List.setIfInBounds_toArray, List.set_cons_zero, List.set_cons_succ]
            refine wpAnyH_ready (rs := [23]) (by kernel_rfl) (by simp) ?_
            refine AllReadyH.cons (o := ⟨some 48, _, _, _, _, _⟩) rfl (fun K hK => ?_) AllReadyH.nil
            go_simp
            refine (HIL.out _ RA.irow RB.irow).mono ?_
            rintro e w4 ⟨rfl, hb4⟩
            replace BV := BV.below hb4
            replace BO := BO.below hb4
            replace BA := BA.below hb4
            replace RA := RA.below hb4
            replace RB := RB.below hb4
            replace s0 := CellIs.below s0 hb4
            replace s1 := CellIs.below s1 hb4
            replace s2 := CellIs.below s2 hb4
            replace s3 := CellIs.below s3 hb4
            replace ho1 := CellIs.below ho1 hb4
            replace hb := chain hb hb4
            clear hb4
            (try go_wp2_with fail)
            refine hK.out _ _ ⟨BV.four.1, BV.four.2.1, BV.four.2.2.1, BV.four.2.2.2.1, BA.two.1, BA.two.2.1, s0, s1, s2, s3, ho1⟩ (fun hHeld => ?_)
            clear hK K
            try simp only [Act.put, List.setIfInBounds_toArray, List.set_cons_zero, List.set_cons_succ]
            refine wpAnyH_take (i := 24) (oi := ⟨some 49, _, _, _, _, _⟩) (v := ?_) rfl (by kernel_rfl) (by kernel_rfl) (by kernel_rfl) (fun _ _ _ h => h) (Or.inl ⟨by rfl, ?_⟩) (by assumption) ?_
            rotate_left
            · intro w hSw; (try dsimp only at hSw); go_simp; (try (with_reducible rfl))
            try simp only [Act.put, List.setIfInBounds_toArray, List.set_cons_zero, List.set_cons_succ]
            refine wpAnyH_take (i := 25) (oi := ⟨some 50, _, _, _, _, _⟩) (v := ?_) rfl (by kernel_rfl) (by kernel_rfl) (by kernel_rfl) (fun _ _ _ h => h) (Or.inl ⟨by rfl, ?_⟩) (by assumption) ?_
            rotate_left
            · intro w hSw; (try dsimp only at hSw); go_simp; (try (with_reducible rfl))
            try simp only [Act.put, List.setIfInBounds_toArray, List.set_cons_zero, List.set_cons_succ]
            refine wpAnyH_done (by kernel_rfl) ?_ _
            clear hHeld
            obtain ⟨z0, z1, zf, zl⟩ := BO.two
            go_wp2_with fail
            have MO := (BO.set (i := 0) (.slice none 0 0)).set (i := 1) (.slice none 0 0)
            simp only [List.setIfInBounds_toArray, List.set_cons_zero, List.set_cons_succ] at MO
            have hM := (hb.setCell (p := ⟨w.heap.size + 1 + 1, 0, none⟩) (by simp; omega) (.slice none 0 0)).setCell (p := ⟨w.heap.size + 1 + 1, 1, none⟩) (by simp; omega) (.slice none 0 0)
            clear z0 z1 zf zl
            generalize ((w4.setCell ⟨w.heap.size + 1 + 1, 0, none⟩ (.slice none 0 0)).setCell ⟨w.heap.size + 1 + 1, 1, none⟩ (.slice none 0 0)) = we at *
            obtain ⟨z0, z1, zf, zl⟩ := MO.two
            refine bodyPost_ret (v := .tuple #[.agg #[.slice none 0 0, .slice none 0 0], .bool false]) (by simp [results, Try.results22, go_sem, z0, z1]) rfl ?_
            rw [HF.out]
            exact ⟨rfl, hM⟩
          | true =>
            have hF := HF.out
            rw [if_pos ⟨hd, rfl⟩] at hF
            clear HF
            have HF := Lib.hid hF
            have hil := HIL0.out
            have HIL := Lib.hid hil
            have HAP := Lib.hid (HAP0.out rfl)
            have HSFt := Lib.hid (HSF.out rfl)
            have HXL := Lib.hid (show 0 < X.length by
              obtain ⟨-, -, -, -, -, -, N1, -, -, -, -, -, -, -⟩ := isB_parts HSFt.out
              omega)
            clear hF hil HIL0 hd HAP0 HSF
            have hd_ : wr.drew.heap.size = wr.heap.size := rfl
            replace BV := BV.drew
            replace BA := BA.drew
            replace BO := BO.drew
            replace RA := RA.drew
            replace RB := RB.drew
            replace hb := hb.drew
            replace s0 := CellIs.drew s0
            replace s1 := CellIs.drew s1
            replace s2 := CellIs.drew s2
            replace s3 := CellIs.drew s3
            replace ho1 := CellIs.drew ho1
            refine wp_region_held_drew (S := fun w' => w'.cell? ⟨w.heap.size, 0, none⟩ = some (.int .i64 (P : Int)) ∧ w'.cell? ⟨w.heap.size, 1, none⟩ = some (.int .i64 c) ∧ w'.cell? ⟨w.heap.size, 2, none⟩ = some (.int .i64 h) ∧ w'.cell? ⟨w.heap.size, 3, none⟩ = some (.int .i64 s) ∧ w'.cell? ⟨gA, 0, none⟩ = some (.slice (some ⟨ga, 0, none⟩) bx.length k1) ∧ w'.cell? ⟨gA, 1, none⟩ = some (.slice (some ⟨gb, 0, none⟩) bz.length k2) ∧ w'.cell? ⟨gt, k * 4, none⟩ = some (.int .i64 ta) ∧ w'.cell? ⟨gt, k * 4 + 1, none⟩ = some (.int .i64 tb) ∧ w'.cell? ⟨gt, k * 4 + 2, none⟩ = some (.int .i64 td) ∧ w'.cell? ⟨gt, k * 4 + 3, none⟩ = some (.bool tq) ∧ w'.cell? ⟨b, oo + k, none⟩ = some (.int .i64 ox)) (by kernel_rfl) ⟨BV.four.1, BV.four.2.1, BV.four.2.2.1, BV.four.2.2.2.1, BA.two.1, BA.two.2.1, s0, s1, s2, s3, ho1⟩ (fun hHeld => ?_)
            clear hHeld
            generalize wr.drew = vd at *
            have hHeld : vd.cell? ⟨w.heap.size, 0, none⟩ = some (.int .i64 (P : Int)) ∧ vd.cell? ⟨w.heap.size, 1, none⟩ = some (.int .i64 c) ∧ vd.cell? ⟨w.heap.size, 2, none⟩ = some (.int .i64 h) ∧ vd.cell? ⟨w.heap.size, 3, none⟩ = some (.int .i64 s) ∧ vd.cell? ⟨gA, 0, none⟩ = some (.slice (some ⟨ga, 0, none⟩) bx.length k1) ∧ vd.cell? ⟨gA, 1, none⟩ = some (.slice (some ⟨gb, 0, none⟩) bz.length k2) ∧ vd.cell? ⟨gt, k * 4, none⟩ = some (.int .i64 ta) ∧ vd.cell? ⟨gt, k * 4 + 1, none⟩ = some (.int .i64 tb) ∧ vd.cell? ⟨gt, k * 4 + 2, none⟩ = some (.int .i64 td) ∧ vd.cell? ⟨gt, k * 4 + 3, none⟩ = some (.bool tq) ∧ vd.cell? ⟨b, oo + k, none⟩ = some (.int .i64 ox) := ⟨BV.four.1, BV.four.2.1, BV.four.2.2.1, BV.four.2.2.2.1, BA.two.1, BA.two.2.1, s0, s1, s2, s3, ho1⟩
            refine wpAnyH_take (i := 0) (oi := ⟨some 25, _, _, _, _, _⟩) (v := ?_) rfl (by kernel_rfl) (by kernel_rfl) (by kernel_rfl) (fun _ _ _ h => h) (Or.inl ⟨by rfl, ?_⟩) (by assumption) ?_
            rotate_left
            · intro w hSw; (try dsimp only at hSw); go_simp; (try (with_reducible rfl))
            try simp only [Act.put, List.setIfInBounds_toArray, List.set_cons_zero, List.set_cons_succ]
            refine wpAnyH_take (i := 1) (oi := ⟨some 26, _, _, _, _, _⟩) (v := ?_) rfl (by kernel_rfl) (by kernel_rfl) (by kernel_rfl) (fun _ _ _ h => h) (Or.inl ⟨by rfl, ?_⟩) (by assumption) ?_
            rotate_left
            · intro w hSw; (try dsimp only at hSw); go_simp; (try (with_reducible rfl))
            try simp only [Act.put, List.setIfInBounds_toArray, List.set_cons_zero, List.set_cons_succ]
            refine wpAnyH_take (i := 2) (oi := ⟨some 27, _, _, _, _, _⟩) (v := ?_) rfl (by kernel_rfl) (by kernel_rfl) (by kernel_rfl) (fun _ _ _ h => h) (Or.inl ⟨by rfl, ?_⟩) (by assumption) ?_
            rotate_left
            · intro w hSw; (try dsimp only at hSw); go_simp; (try (with_reducible rfl))
            try simp only [Act.put, List.setIfInBounds_toArray, List.set_cons_zero, List.set_cons_succ]
            refine wpAnyH_take (i := 3) (oi := ⟨some 28, _, _, _, _, _⟩) (v := ?_) rfl (by kernel_rfl) (by kernel_rfl) (by kernel_rfl) (fun _ _ _ h => h) (Or.inl ⟨by rfl, ?_⟩) (by assumption) ?_
            rotate_left
            · intro w hSw; (try dsimp only at hSw); go_simp; (try (with_reducible rfl))
            try simp only [Act.put, List.setIfInBounds_toArray, List.set_cons_zero, List.set_cons_succ]
            refine wpAnyH_take (i := 4) (oi := ⟨some 29, _, _, _, _, _⟩) (v := ?_) rfl (by kernel_rfl) (by kernel_rfl) (by kernel_rfl) (fun _ _ _ h => h) (Or.inl ⟨by rfl, ?_⟩) (by assumption) ?_
            rotate_left
            · intro w hSw; (try dsimp only at hSw); go_simp; (try (with_reducible rfl))
            try simp only [Act.put, List.setIfInBounds_toArray, List.set_cons_zero, List.set_cons_succ]
            refine wpAnyH_take (i := 5) (oi := ⟨some 30, _, _, _, _, _⟩) (v := ?_) rfl (by kernel_rfl) (by kernel_rfl) (by kernel_rfl) (fun _ _ _ h => h) (Or.inl ⟨by rfl, ?_⟩) (by assumption) ?_
            rotate_left
            · intro w hSw; (try dsimp only at hSw); go_simp; (try (with_reducible rfl))
            try simp only [Act.put, List.setIfInBounds_toArray, List.set_cons_zero, List.set_cons_succ]
            refine wpAnyH_take (i := 6) (oi := ⟨some 31, _, _, _, _, _⟩) (v := ?_) rfl (by kernel_rfl) (by kernel_rfl) (by kernel_rfl) (fun _ _ _ h => h) (Or.inl ⟨by rfl, ?_⟩) (by assumption) ?_
            rotate_left
            · intro w hSw; (try dsimp only at hSw); go_simp; (try (with_reducible rfl))
            try simp only [Act.put, List.setIfInBounds_toArray, List.set_cons_zero, List.set_cons_succ]
            refine wpAnyH_take (i := 7) (oi := ⟨some 32, _, _, _, _, _⟩) (v := ?_) rfl (by kernel_rfl) (by kernel_rfl) (by kernel_rfl) (fun _ _ _ h => h) (Or.inl ⟨by rfl, ?_⟩) (by assumption) ?_
            rotate_left
            · intro w hSw; (try dsimp only at hSw); go_simp; (try (with_reducible rfl))
            try simp only [Act.put, List.setIfInBounds_toArray, List.set_cons_zero, List.set_cons_succ]
            refine wpAnyH_take (i := 8) (oi := ⟨some 33, _, _, _, _, _⟩) (v := ?_) rfl (by kernel_rfl) (by kernel_rfl) (by kernel_rfl) (fun _ _ _ h => h) (Or.inl ⟨by rfl, ?_⟩) (by assumption) ?_
            rotate_left
            · intro w hSw; (try dsimp only at hSw); go_simp; (try (with_reducible rfl))
            try simp only [Act.put, List.setIfInBounds_toArray, List.set_cons_zero, List.set_cons_succ]
            refine wpAnyH_take (i := 9) (oi := ⟨some 34, _, _, _, _, _⟩) (v := ?_) rfl (by kernel_rfl) (by kernel_rfl) (by kernel_rfl) (fun _ _ _ h => h) (Or.inl ⟨by rfl, ?_⟩) (by assumption) ?_
            rotate_left
            · intro w hSw; (try dsimp only at hSw); go_simp; (try (with_reducible rfl))
            try simp only [Act.put, List.setIfInBounds_toArray, List.set_cons_zero, List.set_cons_succ]
            refine wpAnyH_take (i := 10) (oi := ⟨some 35, _, _, _, _, _⟩) (v := ?_) rfl (by kernel_rfl) (by kernel_rfl) (by kernel_rfl) (fun _ _ _ h => h) (Or.inl ⟨by rfl, ?_⟩) (by assumption) ?_
            rotate_left
            · intro w hSw; (try dsimp only at hSw); go_simp; (try (with_reducible rfl))
            try simp only [Act.put, List.setIfInBounds_toArray, List.set_cons_zero, List.set_cons_succ]
            refine wpAnyH_take (i := 11) (oi := ⟨some 36, _, _, _, _, _⟩) (v := ?_) rfl (by kernel_rfl) (by kernel_rfl) (by kernel_rfl) (fun _ _ _ h => h) (Or.inl ⟨by rfl, ?_⟩) (by assumption) ?_
            rotate_left
            · intro w hSw; (try dsimp only at hSw); go_simp; (try (with_reducible rfl))
            try simp only [Act.put, List.setIfInBounds_toArray, List.set_cons_zero, List.set_cons_succ]
            refine wpAnyH_take (i := 12) (oi := ⟨some 37, _, _, _, _, _⟩) (v := ?_) rfl (by kernel_rfl) (by kernel_rfl) (by kernel_rfl) (fun _ _ _ h => h) (Or.inl ⟨by rfl, ?_⟩) (by assumption) ?_
            rotate_left
            · intro w hSw; (try dsimp only at hSw); go_simp; (try (with_reducible rfl))
            try simp only [Act.put, List.setIfInBounds_toArray, List.set_cons_zero, List.set_cons_succ]
            refine wpAnyH_take (i := 13) (oi := ⟨some 38, _, _, _, _, _⟩) (v := ?_) rfl (by kernel_rfl) (by kernel_rfl) (by kernel_rfl) (fun _ _ _ h => h) (Or.inl ⟨by rfl, ?_⟩) (by assumption) ?_
            rotate_left
            · intro w hSw; (try dsimp only at hSw); go_simp; (try (with_reducible rfl))
            try simp only [Act.put, List.setIfInBounds_toArray, List.set_cons_zero, List.set_cons_succ]
            refine wpAnyH_take (i := 14) (oi := ⟨some 39, _, _, _, _, _⟩) (v := ?_) rfl (by kernel_rfl) (by kernel_rfl) (by kernel_rfl) (fun _ _ _ h => h) (Or.inl ⟨by rfl, ?_⟩) (by assumption) ?_
            rotate_left
            · intro w hSw; (try dsimp only at hSw); go_simp; (try (with_reducible rfl))
            try simp only [Act.put, List.setIfInBounds_toArray, List.set_cons_zero, List.set_cons_succ]
            refine wpAnyH_take (i := 15) (oi := ⟨some 40, _, _, _, _, _⟩) (v := ?_) rfl (by kernel_rfl) (by kernel_rfl) (by kernel_rfl) (fun _ _ _ h => h) (Or.inl ⟨by rfl, ?_⟩) (by assumption) ?_
            rotate_left
            · intro w hSw; (try dsimp only at hSw); go_simp; (try (with_reducible rfl))
            try simp only [Act.put, List.setIfInBounds_toArray, List.set_cons_zero, List.set_cons_succ]
            refine wpAnyH_take (i := 16) (oi := ⟨some 41, _, _, _, _, _⟩) (v := ?_) rfl (by kernel_rfl) (by kernel_rfl) (by kernel_rfl) (fun _ _ _ h => h) (Or.inl ⟨by rfl, ?_⟩) (by assumption) ?_
            rotate_left
            · intro w hSw; (try dsimp only at hSw); go_simp; (try (with_reducible rfl))
            try simp only [Act.put, List.setIfInBounds_toArray, List.set_cons_zero, List.set_cons_succ]
            refine wpAnyH_take (i := 17) (oi := ⟨some 42, _, _, _, _, _⟩) (v := ?_) rfl (by kernel_rfl) (by kernel_rfl) (by kernel_rfl) (fun _ _ _ h => h) (Or.inl ⟨by rfl, ?_⟩) (by assumption) ?_
            rotate_left
            · intro w hSw; (try dsimp only at hSw); go_simp; (try (with_reducible rfl))
            try simp only [Act.put, List.setIfInBounds_toArray, List.set_cons_zero, List.set_cons_succ]
            refine wpAnyH_take (i := 18) (oi := ⟨some 43, _, _, _, _, _⟩) (v := ?_) rfl (by kernel_rfl) (by kernel_rfl) (by kernel_rfl) (fun _ _ _ h => h) (Or.inl ⟨by rfl, ?_⟩) (by assumption) ?_
            rotate_left
            · intro w hSw; (try dsimp only at hSw); go_simp; (try (with_reducible rfl))
            try simp only [Act.put, List.setIfInBounds_toArray, List.set_cons_zero, List.set_cons_succ]
            refine wpAnyH_take (i := 19) (oi := ⟨some 44, _, _, _, _, _⟩) (v := ?_) rfl (by kernel_rfl) (by kernel_rfl) (by kernel_rfl) (fun _ _ _ h => h) (Or.inl ⟨by rfl, ?_⟩) (by assumption) ?_
            rotate_left
            · intro w hSw; (try dsimp only at hSw); go_simp; (try (with_reducible rfl))
            try simp only [Act.put, List.setIfInBounds_toArray, List.set_cons_zero, List.set_cons_succ]
            refine wpAnyH_take (i := 20) (oi := ⟨some 45, _, _, _, _, _⟩) (v := ?_) rfl (by kernel_rfl) (by kernel_rfl) (by kernel_rfl) (fun _ _ _ h => h) (Or.inl ⟨by rfl, ?_⟩) (by assumption) ?_
            rotate_left
            · intro w hSw; (try dsimp only at hSw); go_simp; (try (with_reducible rfl))
            try simp only [Act.put, List.setIfInBounds_toArray, List.set_cons_zero, List.set_cons_succ]
            refine wpAnyH_take (i := 21) (oi := ⟨some 46, _, _, _, _, _⟩) (v := ?_) rfl (by kernel_rfl) (by kernel_rfl) (by kernel_rfl) (fun _ _ _ h => h) (Or.inl ⟨by rfl, ?_⟩) (by assumption) ?_
            rotate_left
            · intro w hSw; (try dsimp only at hSw); go_simp; (try (with_reducible rfl))
            try simp only [Act.put, List.setIfInBounds_toArray, List.set_cons_zero, List.set_cons_succ]
            refine wpAnyH_take (i := 22) (oi := ⟨some 47, _, _, _, _, _⟩) (v := ?_) rfl (by kernel_rfl) (by kernel_rfl) (by kernel_rfl) (fun _ _ _ h => h) (Or.inl ⟨by rfl, ?_⟩) (by assumption) ?_
            rotate_left
            · intro w hSw; (try dsimp only at hSw); go_simp; (try (with_reducible rfl))
            try simp only [Act.put, List.setIfInBounds_toArray, List.set_cons_zero, List.set_cons_succ]
            refine wpAnyH_ready (rs := [23]) (by kernel_rfl) (by simp) ?_
            refine AllReadyH.cons (o := ⟨some 48, _, _, _, _, _⟩) rfl (fun K hK => ?_) AllReadyH.nil
            go_simp
            refine (HIL.out _ RA.irow RB.irow).mono ?_
            rintro e w4 ⟨rfl, hb4⟩
            replace BV := BV.below hb4
            replace BO := BO.below hb4
            replace BA := BA.below hb4
            replace RA := RA.below hb4
            replace RB := RB.below hb4
            replace s0 := CellIs.below s0 hb4
            replace s1 := CellIs.below s1 hb4
            replace s2 := CellIs.below s2 hb4
            replace s3 := CellIs.below s3 hb4
            replace ho1 := CellIs.below ho1 hb4
            replace hb := chain hb hb4
            clear hb4
            (try go_wp2_with fail)
            refine hK.out _ _ ⟨BV.four.1, BV.four.2.1, BV.four.2.2.1, BV.four.2.2.2.1, BA.two.1, BA.two.2.1, s0, s1, s2, s3, ho1⟩ (fun hHeld => ?_)
            clear hK K
            try simp only [Act.put, List.setIfInBounds_toArray, List.set_cons_zero, List.set_cons_succ]
            refine wpAnyH_take (i := 24) (oi := ⟨some 49, _, _, _, _, _⟩) (v := ?_) rfl (by kernel_rfl) (by kernel_rfl) (by kernel_rfl) (fun _ _ _ h => h) (Or.inl ⟨by rfl, ?_⟩) (by assumption) ?_
            rotate_left
            · intro w hSw; (try dsimp only at hSw); go_simp; (try (with_reducible rfl))
            try simp only [Act.put, List.setIfInBounds_toArray, List.set_cons_zero, List.set_cons_succ]
            refine wpAnyH_take (i := 25) (oi := ⟨some 50, _, _, _, _, _⟩) (v := ?_) rfl (by kernel_rfl) (by kernel_rfl) (by kernel_rfl) (fun _ _ _ h => h) (Or.inl ⟨by rfl, ?_⟩) (by assumption) ?_
            rotate_left
            · intro w hSw; (try dsimp only at hSw); go_simp; (try (with_reducible rfl))
            try simp only [Act.put, List.setIfInBounds_toArray, List.set_cons_zero, List.set_cons_succ]
            refine wpAnyH_done (by kernel_rfl) ?_ _
            clear hHeld
            go_wp2_with fail
            refine wp_region_held_drew (S := fun w' => w'.cell? ⟨w.heap.size, 0, none⟩ = some (.int .i64 (P : Int)) ∧ w'.cell? ⟨w.heap.size, 1, none⟩ = some (.int .i64 c) ∧ w'.cell? ⟨w.heap.size, 2, none⟩ = some (.int .i64 h) ∧ w'.cell? ⟨w.heap.size, 3, none⟩ = some (.int .i64 s) ∧ w'.cell? ⟨gt, k * 4, none⟩ = some (.int .i64 ta) ∧ w'.cell? ⟨gt, k * 4 + 1, none⟩ = some (.int .i64 tb) ∧ w'.cell? ⟨gt, k * 4 + 2, none⟩ = some (.int .i64 td) ∧ w'.cell? ⟨gt, k * 4 + 3, none⟩ = some (.bool tq)) (by kernel_rfl) ⟨(BV.drew).four.1, (BV.drew).four.2.1, (BV.drew).four.2.2.1, (BV.drew).four.2.2.2.1, CellIs.drew s0, CellIs.drew s1, CellIs.drew s2, CellIs.drew s3⟩ (fun hHeld => ?_)
            clear hHeld
            replace BV := BV.drew
            replace BO := BO.drew
            replace BA := BA.drew
            replace RA := RA.drew
            replace RB := RB.drew
            replace hb := hb.drew
            replace s0 := CellIs.drew s0
            replace s1 := CellIs.drew s1
            replace s2 := CellIs.drew s2
            replace s3 := CellIs.drew s3
            generalize w4.drew = vd at *
            have hHeld : vd.cell? ⟨w.heap.size, 0, none⟩ = some (.int .i64 (P : Int)) ∧ vd.cell? ⟨w.heap.size, 1, none⟩ = some (.int .i64 c) ∧ vd.cell? ⟨w.heap.size, 2, none⟩ = some (.int .i64 h) ∧ vd.cell? ⟨w.heap.size, 3, none⟩ = some (.int .i64 s) ∧ vd.cell? ⟨gt, k * 4, none⟩ = some (.int .i64 ta) ∧ vd.cell? ⟨gt, k * 4 + 1, none⟩ = some (.int .i64 tb) ∧ vd.cell? ⟨gt, k * 4 + 2, none⟩ = some (.int .i64 td) ∧ vd.cell? ⟨gt, k * 4 + 3, none⟩ = some (.bool tq) := ⟨(BV).four.1, (BV).four.2.1, (BV).four.2.2.1, (BV).four.2.2.2.1, s0, s1, s2, s3⟩
            refine wpAnyH_take (i := 0) (oi := ⟨some 52, _, _, _, _, _⟩) (v := ?_) rfl (by kernel_rfl) (by kernel_rfl) (by kernel_rfl) (fun _ _ _ h => h) (Or.inl ⟨by rfl, ?_⟩) (by assumption) ?_
            rotate_left
            · intro w hSw; (try dsimp only at hSw); go_simp; (try (with_reducible rfl))
            try simp only [Act.put, List.setIfInBounds_toArray, List.set_cons_zero, List.set_cons_succ]
            refine wpAnyH_take (i := 2) (oi := ⟨some 54, _, _, _, _, _⟩) (v := ?_) rfl (by kernel_rfl) (by kernel_rfl) (by kernel_rfl) (fun _ _ _ h => h) (Or.inl ⟨by rfl, ?_⟩) (by assumption) ?_
            rotate_left
            · intro w hSw; (try dsimp only at hSw); go_simp; (try (with_reducible rfl))
            try simp only [Act.put, List.setIfInBounds_toArray, List.set_cons_zero, List.set_cons_succ]
            refine wpAnyH_take (i := 3) (oi := ⟨some 55, _, _, _, _, _⟩) (v := ?_) rfl (by kernel_rfl) (by kernel_rfl) (by kernel_rfl) (fun _ _ _ h => h) (Or.inl ⟨by rfl, ?_⟩) (by assumption) ?_
            rotate_left
            · intro w hSw; (try dsimp only at hSw); go_simp; (try (with_reducible rfl))
            try simp only [Act.put, List.setIfInBounds_toArray, List.set_cons_zero, List.set_cons_succ]
            refine wpAnyH_take (i := 4) (oi := ⟨some 56, _, _, _, _, _⟩) (v := ?_) rfl (by kernel_rfl) (by kernel_rfl) (by kernel_rfl) (fun _ _ _ h => h) (Or.inl ⟨by rfl, ?_⟩) (by assumption) ?_
            rotate_left
            · intro w hSw; (try dsimp only at hSw); go_simp; (try (with_reducible rfl))
            try simp only [Act.put, List.setIfInBounds_toArray, List.set_cons_zero, List.set_cons_succ]
            refine wpAnyH_take (i := 5) (oi := ⟨some 57, _, _, _, _, _⟩) (v := ?_) rfl (by kernel_rfl) (by kernel_rfl) (by kernel_rfl) (fun _ _ _ h => h) (Or.inl ⟨by rfl, ?_⟩) (by assumption) ?_
            rotate_left
            · intro w hSw; (try dsimp only at hSw); go_simp; (try (with_reducible rfl))
            try simp only [Act.put, List.setIfInBounds_toArray, List.set_cons_zero, List.set_cons_succ]
            refine wpAnyH_ready (rs := [1]) (by kernel_rfl) (by simp) ?_
            refine AllReadyH.cons (o := ⟨some 53, _, _, _, _, _⟩) rfl (fun K hK => ?_) AllReadyH.nil
            obtain ⟨y0, y1, yf, yl⟩ := BA.two
            go_simp
            (try go_wp2_with fail)
            refine hK.out _ _ ⟨(BV).four.1, (BV).four.2.1, (BV).four.2.2.1, (BV).four.2.2.2.1, s0, s1, s2, s3⟩ (fun hHeld => ?_)
            clear hK K
            try simp only [Act.put, List.setIfInBounds_toArray, List.set_cons_zero, List.set_cons_succ]
            clear y0 y1 yf yl
            refine wpAnyH_ready (rs := [6]) (by kernel_rfl) (by simp) ?_
            refine AllReadyH.cons (o := ⟨some 58, _, _, _, _, _⟩) rfl (fun K hK => ?_) AllReadyH.nil
            go_simp
            refine (HAP.out _ RA.irow RB.irow).mono ?_
            rintro e w5 ⟨d1, d2, m1, m2, rfl, O5, hb5⟩
            have hz5 := hb.size
            replace BV := BV.below hb5
            replace BO := BO.below hb5
            replace BA := BA.below hb5
            replace s0 := CellIs.below s0 hb5
            replace s1 := CellIs.below s1 hb5
            replace s2 := CellIs.below s2 hb5
            replace s3 := CellIs.below s3 hb5
            replace hb := chain hb hb5
            clear hb5 RA RB
            (try go_wp2_with fail)
            refine hK.out _ _ ⟨(BV).four.1, (BV).four.2.1, (BV).four.2.2.1, (BV).four.2.2.2.1, s0, s1, s2, s3⟩ (fun hHeld => ?_)
            clear hK K
            try simp only [Act.put, List.setIfInBounds_toArray, List.set_cons_zero, List.set_cons_succ]
            refine wpAnyH_ready (rs := [7]) (by kernel_rfl) (by simp) ?_
            refine AllReadyH.cons (o := ⟨none, _, _, _, _, _⟩) rfl (fun K hK => ?_) AllReadyH.nil
            clear hHeld
            obtain ⟨y0, y1, yf, yl⟩ := BA.two
            have hO5 : ∃ g1 g2, d1 = some ⟨g1, 0, none⟩ ∧ d2 = some ⟨g2, 0, none⟩ ∧ g1 ≠ g2 ∧ w.heap.size ≤ g1 ∧ w.heap.size ≤ g2 ∧ Row w5 g1 X ∧ Row w5 g2 Y := by
              rcases O5 with ⟨_, _, e1, _⟩ | ⟨g1, g2, e1, e2, hne, b1, b2, b3, b4, R1, R2⟩
              · exact absurd (e1 ▸ HXL.out) (by simp)
              · exact ⟨g1, g2, e1, e2, hne, by omega, by omega, R1, R2⟩
            clear O5
            obtain ⟨g1, g2, rfl, rfl, hne5, hg15, hg25, R1, R2⟩ := hO5
            have n51 := rowNe R1 BA (by decide)
            have n52 := rowNe R2 BA (by decide)
            have SR1 := (R1.other (g := gA) (o := 0) (v := (.slice (some ⟨g1, 0, none⟩) X.length m1)) n51).other (g := gA) (o := 1) (v := (.slice (some ⟨g2, 0, none⟩) Y.length m2)) n51
            have SR2 := (R2.other (g := gA) (o := 0) (v := (.slice (some ⟨g1, 0, none⟩) X.length m1)) n52).other (g := gA) (o := 1) (v := (.slice (some ⟨g2, 0, none⟩) Y.length m2)) n52
            have SBV := (BV.other (g := gA) (o := 0) (v := (.slice (some ⟨g1, 0, none⟩) X.length m1)) (by omega)).other (g := gA) (o := 1) (v := (.slice (some ⟨g2, 0, none⟩) Y.length m2)) (by omega)
            have SBO := (BO.other (g := gA) (o := 0) (v := (.slice (some ⟨g1, 0, none⟩) X.length m1)) (by omega)).other (g := gA) (o := 1) (v := (.slice (some ⟨g2, 0, none⟩) Y.length m2)) (by omega)
            have Ss0 := CellIs.far2 s0 (show gt ≠ gA by omega) (.slice (some ⟨g1, 0, none⟩) X.length m1) (.slice (some ⟨g2, 0, none⟩) Y.length m2)
            have Ss1 := CellIs.far2 s1 (show gt ≠ gA by omega) (.slice (some ⟨g1, 0, none⟩) X.length m1) (.slice (some ⟨g2, 0, none⟩) Y.length m2)
            have Ss2 := CellIs.far2 s2 (show gt ≠ gA by omega) (.slice (some ⟨g1, 0, none⟩) X.length m1) (.slice (some ⟨g2, 0, none⟩) Y.length m2)
            have Ss3 := CellIs.far2 s3 (show gt ≠ gA by omega) (.slice (some ⟨g1, 0, none⟩) X.length m1) (.slice (some ⟨g2, 0, none⟩) Y.length m2)
            have SBA := (BA.set (i := 0) (.slice (some ⟨g1, 0, none⟩) X.length m1)).set (i := 1) (.slice (some ⟨g2, 0, none⟩) Y.length m2)
            simp only [List.setIfInBounds_toArray, List.set_cons_zero, List.set_cons_succ] at SBA
            have Shb := (hb.setCell (p := ⟨gA, 0, none⟩) (by simp; omega) (.slice (some ⟨g1, 0, none⟩) X.length m1)).setCell (p := ⟨gA, 1, none⟩) (by simp; omega) (.slice (some ⟨g2, 0, none⟩) Y.length m2)
            go_simp
            (try go_wp2_with fail)
            refine hK.out _ _ ⟨(SBV).four.1, (SBV).four.2.1, (SBV).four.2.2.1, (SBV).four.2.2.2.1, Ss0, Ss1, Ss2, Ss3⟩ (fun hHeld => ?_)
            clear hK K
            try simp only [Act.put, List.setIfInBounds_toArray, List.set_cons_zero, List.set_cons_succ]
            clear y0 y1 yf yl BV BO BA hb s0 s1 s2 s3
            clear R1 R2 n51 n52
            refine wpAnyH_done (by kernel_rfl) ?_ _
            clear hHeld Ss0 Ss1 Ss2 Ss3
            (try go_wp2_with fail)
            go_roundg (nt - (k + 1))
            case measure => omega
            case rel => exact ⟨k + 1, _, _, g1, g2, m1, m2, by omega, rfl, by go_num, HF.out, HSFt.out, ⟨hg15, hg25, hne5⟩, SBV, SBO, SBA, SR1, SR2, Shb⟩
        · have f0 : (td != ox) = true := by rw [bne_iff_ne]; exact hd
          have hF := HF.out
          rw [if_neg (fun q => hd q.1)] at hF
          clear HF HAP0 HSF HIL0 hd
          have HF := Lib.hid hF
          clear hF
          have hd_ : wr.drew.heap.size = wr.heap.size := rfl
          replace BV := BV.drew
          replace BA := BA.drew
          replace BO := BO.drew
          replace RA := RA.drew
          replace RB := RB.drew
          replace hb := hb.drew
          replace s0 := CellIs.drew s0
          replace s1 := CellIs.drew s1
          replace s2 := CellIs.drew s2
          replace s3 := CellIs.drew s3
          replace ho1 := CellIs.drew ho1
          refine wp_region_held_drew (S := fun w' => w'.cell? ⟨w.heap.size, 0, none⟩ = some (.int .i64 (P : Int)) ∧ w'.cell? ⟨w.heap.size, 1, none⟩ = some (.int .i64 c) ∧ w'.cell? ⟨w.heap.size, 2, none⟩ = some (.int .i64 h) ∧ w'.cell? ⟨w.heap.size, 3, none⟩ = some (.int .i64 s) ∧ w'.cell? ⟨gA, 0, none⟩ = some (.slice (some ⟨ga, 0, none⟩) bx.length k1) ∧ w'.cell? ⟨gA, 1, none⟩ = some (.slice (some ⟨gb, 0, none⟩) bz.length k2) ∧ w'.cell? ⟨gt, k * 4, none⟩ = some (.int .i64 ta) ∧ w'.cell? ⟨gt, k * 4 + 1, none⟩ = some (.int .i64 tb) ∧ w'.cell? ⟨gt, k * 4 + 2, none⟩ = some (.int .i64 td) ∧ w'.cell? ⟨gt, k * 4 + 3, none⟩ = some (.bool tq) ∧ w'.cell? ⟨b, oo + k, none⟩ = some (.int .i64 ox)) (by kernel_rfl) ⟨BV.four.1, BV.four.2.1, BV.four.2.2.1, BV.four.2.2.2.1, BA.two.1, BA.two.2.1, s0, s1, s2, s3, ho1⟩ (fun hHeld => ?_)
          clear hHeld
          generalize wr.drew = vd at *
          have hHeld : vd.cell? ⟨w.heap.size, 0, none⟩ = some (.int .i64 (P : Int)) ∧ vd.cell? ⟨w.heap.size, 1, none⟩ = some (.int .i64 c) ∧ vd.cell? ⟨w.heap.size, 2, none⟩ = some (.int .i64 h) ∧ vd.cell? ⟨w.heap.size, 3, none⟩ = some (.int .i64 s) ∧ vd.cell? ⟨gA, 0, none⟩ = some (.slice (some ⟨ga, 0, none⟩) bx.length k1) ∧ vd.cell? ⟨gA, 1, none⟩ = some (.slice (some ⟨gb, 0, none⟩) bz.length k2) ∧ vd.cell? ⟨gt, k * 4, none⟩ = some (.int .i64 ta) ∧ vd.cell? ⟨gt, k * 4 + 1, none⟩ = some (.int .i64 tb) ∧ vd.cell? ⟨gt, k * 4 + 2, none⟩ = some (.int .i64 td) ∧ vd.cell? ⟨gt, k * 4 + 3, none⟩ = some (.bool tq) ∧ vd.cell? ⟨b, oo + k, none⟩ = some (.int .i64 ox) := ⟨BV.four.1, BV.four.2.1, BV.four.2.2.1, BV.four.2.2.2.1, BA.two.1, BA.two.2.1, s0, s1, s2, s3, ho1⟩
          refine wpAnyH_take (i := 0) (oi := ⟨some 25, _, _, _, _, _⟩) (v := ?_) rfl (by kernel_rfl) (by kernel_rfl) (by kernel_rfl) (fun _ _ _ h => h) (Or.inl ⟨by rfl, ?_⟩) (by assumption) ?_
          rotate_left
          · intro w hSw; (try dsimp only at hSw); go_simp; (try (with_reducible rfl))
          try simp only [Act.put, List.setIfInBounds_toArray, List.set_cons_zero, List.set_cons_succ]
          refine wpAnyH_take (i := 1) (oi := ⟨some 26, _, _, _, _, _⟩) (v := ?_) rfl (by kernel_rfl) (by kernel_rfl) (by kernel_rfl) (fun _ _ _ h => h) (Or.inl ⟨by rfl, ?_⟩) (by assumption) ?_
          rotate_left
          · intro w hSw; (try dsimp only at hSw); go_simp; (try (with_reducible rfl))
          try simp only [Act.put, List.setIfInBounds_toArray, List.set_cons_zero, List.set_cons_succ]
          refine wpAnyH_take (i := 2) (oi := ⟨some 27, _, _, _, _, _⟩) (v := ?_) rfl (by kernel_rfl) (by kernel_rfl) (by kernel_rfl) (fun _ _ _ h => h) (Or.inl ⟨by rfl, ?_⟩) (by assumption) ?_
          rotate_left
          · intro w hSw; (try dsimp only at hSw); go_simp; (try (with_reducible rfl))
          try simp only [Act.put, List.setIfInBounds_toArray, List.set_cons_zero, List.set_cons_succ]
          refine wpAnyH_take (i := 3) (oi := ⟨some 28, _, _, _, _, _⟩) (v := ?_) rfl (by kernel_rfl) (by kernel_rfl) (by kernel_rfl) (fun _ _ _ h => h) (Or.inl ⟨by rfl, ?_⟩) (by assumption) ?_
          rotate_left
          · intro w hSw; (try dsimp only at hSw); go_simp; (try (with_reducible rfl))
          try simp only [Act.put, List.setIfInBounds_toArray, List.set_cons_zero, List.set_cons_succ]
          refine wpAnyH_take (i := 4) (oi := ⟨some 29, _, _, _, _, _⟩) (v := ?_) rfl (by kernel_rfl) (by kernel_rfl) (by kernel_rfl) (fun _ _ _ h => h) (Or.inl ⟨by rfl, ?_⟩) (by assumption) ?_
          rotate_left
          · intro w hSw; (try dsimp only at hSw); go_simp; (try (with_reducible rfl))
          try simp only [Act.put, List.setIfInBounds_toArray, List.set_cons_zero, List.set_cons_succ]
          refine wpAnyH_take (i := 5) (oi := ⟨some 30, _, _, _, _, _⟩) (v := ?_) rfl (by kernel_rfl) (by kernel_rfl) (by kernel_rfl) (fun _ _ _ h => h) (Or.inl ⟨by rfl, ?_⟩) (by assumption) ?_
          rotate_left
          · intro w hSw; (try dsimp only at hSw); go_simp; (try (with_reducible rfl))
          try simp only [Act.put, List.setIfInBounds_toArray, List.set_cons_zero, List.set_cons_succ]
          refine wpAnyH_take (i := 6) (oi := ⟨some 31, _, _, _, _, _⟩) (v := ?_) rfl (by kernel_rfl) (by kernel_rfl) (by kernel_rfl) (fun _ _ _ h => h) (Or.inl ⟨by rfl, ?_⟩) (by assumption) ?_
          rotate_left
          · intro w hSw; (try dsimp only at hSw); go_simp; (try (with_reducible rfl))
          try simp only [Act.put, List.setIfInBounds_toArray, List.set_cons_zero, List.set_cons_succ]
          refine wpAnyH_take (i := 7) (oi := ⟨some 32, _, _, _, _, _⟩) (v := ?_) rfl (by kernel_rfl) (by kernel_rfl) (by kernel_rfl) (fun _ _ _ h => h) (Or.inl ⟨by rfl, ?_⟩) (by assumption) ?_
          rotate_left
          · intro w hSw; (try dsimp only at hSw); go_simp; (try (with_reducible rfl))
          try simp only [Act.put, List.setIfInBounds_toArray, List.set_cons_zero, List.set_cons_succ]
          refine wpAnyH_take (i := 8) (oi := ⟨some 33, _, _, _, _, _⟩) (v := ?_) rfl (by kernel_rfl) (by kernel_rfl) (by kernel_rfl) (fun _ _ _ h => h) (Or.inl ⟨by rfl, ?_⟩) (by assumption) ?_
          rotate_left
          · intro w hSw; (try dsimp only at hSw); go_simp; (try (with_reducible rfl))
          try simp only [Act.put, List.setIfInBounds_toArray, List.set_cons_zero, List.set_cons_succ]
          refine wpAnyH_take (i := 9) (oi := ⟨some 34, _, _, _, _, _⟩) (v := ?_) rfl (by kernel_rfl) (by kernel_rfl) (by kernel_rfl) (fun _ _ _ h => h) (Or.inl ⟨by rfl, ?_⟩) (by assumption) ?_
          rotate_left
          · intro w hSw; (try dsimp only at hSw); go_simp; (try (with_reducible rfl))
          try simp only [Act.put, List.setIfInBounds_toArray, List.set_cons_zero, List.set_cons_succ]
          refine wpAnyH_take (i := 10) (oi := ⟨some 35, _, _, _, _, _⟩) (v := ?_) rfl (by kernel_rfl) (by kernel_rfl) (by kernel_rfl) (fun _ _ _ h => h) (Or.inl ⟨by rfl, ?_⟩) (by assumption) ?_
          rotate_left
          · intro w hSw; (try dsimp only at hSw); go_simp; (try (with_reducible rfl))
          try simp only [Act.put, List.setIfInBounds_toArray, List.set_cons_zero, List.set_cons_succ]
          refine wpAnyH_take (i := 11) (oi := ⟨some 36, _, _, _, _, _⟩) (v := ?_) rfl (by kernel_rfl) (by kernel_rfl) (by kernel_rfl) (fun _ _ _ h => h) (Or.inl ⟨by rfl, ?_⟩) (by assumption) ?_
          rotate_left
          · intro w hSw; (try dsimp only at hSw); go_simp; (try (with_reducible rfl))
          try simp only [Act.put, List.setIfInBounds_toArray, List.set_cons_zero, List.set_cons_succ]
          refine wpAnyH_take (i := 12) (oi := ⟨some 37, _, _, _, _, _⟩) (v := ?_) rfl (by kernel_rfl) (by kernel_rfl) (by kernel_rfl) (fun _ _ _ h => h) (Or.inl ⟨by rfl, ?_⟩) (by assumption) ?_
          rotate_left
          · intro w hSw; (try dsimp only at hSw); go_simp; (try (with_reducible rfl))
          try simp only [Act.put, List.setIfInBounds_toArray, List.set_cons_zero, List.set_cons_succ]
          refine wpAnyH_take (i := 13) (oi := ⟨some 38, _, _, _, _, _⟩) (v := ?_) rfl (by kernel_rfl) (by kernel_rfl) (by kernel_rfl) (fun _ _ _ h => h) (Or.inl ⟨by rfl, ?_⟩) (by assumption) ?_
          rotate_left
          · intro w hSw; (try dsimp only at hSw); go_simp; (try (with_reducible rfl))
          try simp only [Act.put, List.setIfInBounds_toArray, List.set_cons_zero, List.set_cons_succ]
          refine wpAnyH_take (i := 14) (oi := ⟨some 39, _, _, _, _, _⟩) (v := ?_) rfl (by kernel_rfl) (by kernel_rfl) (by kernel_rfl) (fun _ _ _ h => h) (Or.inl ⟨by rfl, ?_⟩) (by assumption) ?_
          rotate_left
          · intro w hSw; (try dsimp only at hSw); go_simp; (try (with_reducible rfl))
          try simp only [Act.put, List.setIfInBounds_toArray, List.set_cons_zero, List.set_cons_succ]
          refine wpAnyH_take (i := 15) (oi := ⟨some 40, _, _, _, _, _⟩) (v := ?_) rfl (by kernel_rfl) (by kernel_rfl) (by kernel_rfl) (fun _ _ _ h => h) (Or.inl ⟨by rfl, ?_⟩) (by assumption) ?_
          rotate_left
          · intro w hSw; (try dsimp only at hSw); go_simp; (try (with_reducible rfl))
          try simp only [Act.put, List.setIfInBounds_toArray, List.set_cons_zero, List.set_cons_succ]
          refine wpAnyH_take (i := 16) (oi := ⟨some 41, _, _, _, _, _⟩) (v := ?_) rfl (by kernel_rfl) (by kernel_rfl) (by kernel_rfl) (fun _ _ _ h => h) (Or.inl ⟨by rfl, ?_⟩) (by assumption) ?_
          rotate_left
          · intro w hSw; (try dsimp only at hSw); go_simp; (try (with_reducible rfl))
          try simp only [Act.put, List.setIfInBounds_toArray, List.set_cons_zero, List.set_cons_succ]
          refine wpAnyH_take (i := 17) (oi := ⟨some 42, _, _, _, _, _⟩) (v := undef) rfl (by kernel_rfl) (by kernel_rfl) (by kernel_rfl) (fun _ _ _ h => h) (Or.inr ⟨by rfl, rfl⟩) (by assumption) ?_
          try simp only [Act.put, List.setIfInBounds_toArray, List.set_cons_zero, List.set_cons_succ]
          refine wpAnyH_take (i := 18) (oi := ⟨some 43, _, _, _, _, _⟩) (v := undef) rfl (by kernel_rfl) (by kernel_rfl) (by kernel_rfl) (fun _ _ _ h => h) (Or.inr ⟨by rfl, rfl⟩) (by assumption) ?_
          try simp only [Act.put, List.setIfInBounds_toArray, List.set_cons_zero, List.set_cons_succ]
          refine wpAnyH_take (i := 19) (oi := ⟨some 44, _, _, _, _, _⟩) (v := undef) rfl (by kernel_rfl) (by kernel_rfl) (by kernel_rfl) (fun _ _ _ h => h) (Or.inr ⟨by rfl, rfl⟩) (by assumption) ?_
          try simp only [Act.put, List.setIfInBounds_toArray, List.set_cons_zero, List.set_cons_succ]
          refine wpAnyH_take (i := 20) (oi := ⟨some 45, _, _, _, _, _⟩) (v := undef) rfl (by kernel_rfl) (by kernel_rfl) (by kernel_rfl) (fun _ _ _ h => h) (Or.inr ⟨by rfl, rfl⟩) (by assumption) ?_
          try simp only [Act.put, List.setIfInBounds_toArray, List.set_cons_zero, List.set_cons_succ]
          refine wpAnyH_take (i := 21) (oi := ⟨some 46, _, _, _, _, _⟩) (v := undef) rfl (by kernel_rfl) (by kernel_rfl) (by kernel_rfl) (fun _ _ _ h => h) (Or.inr ⟨by rfl, rfl⟩) (by assumption) ?_
          try simp only [Act.put, List.setIfInBounds_toArray, List.set_cons_zero, List.set_cons_succ]
          refine wpAnyH_take (i := 22) (oi := ⟨some 47, _, _, _, _, _⟩) (v := undef) rfl (by kernel_rfl) (by kernel_rfl) (by kernel_rfl) (fun _ _ _ h => h) (Or.inr ⟨by rfl, rfl⟩) (by assumption) ?_
          try simp only [Act.put, List.setIfInBounds_toArray, List.set_cons_zero, List.set_cons_succ]
          refine wpAnyH_take (i := 23) (oi := ⟨some 48, _, _, _, _, _⟩) (v := undef) rfl (by kernel_rfl) (by kernel_rfl) (by kernel_rfl) (fun _ _ _ h => h) (Or.inr ⟨by rfl, rfl⟩) (by assumption) ?_
          try simp only [Act.put, List.setIfInBounds_toArray, List.set_cons_zero, List.set_cons_succ]
          refine wpAnyH_take (i := 24) (oi := ⟨some 49, _, _, _, _, _⟩) (v := undef) rfl (by kernel_rfl) (by kernel_rfl) (by kernel_rfl) (fun _ _ _ h => h) (Or.inr ⟨by rfl, rfl⟩) (by assumption) ?_
          try simp only [Act.put, List.setIfInBounds_toArray, List.set_cons_zero, List.set_cons_succ]
          refine wpAnyH_take (i := 25) (oi := ⟨some 50, _, _, _, _, _⟩) (v := ?_) rfl (by kernel_rfl) (by kernel_rfl) (by kernel_rfl) (fun _ _ _ h => h) (Or.inl ⟨by rfl, ?_⟩) (by assumption) ?_
          rotate_left
          · intro w hSw; (try dsimp only at hSw); go_simp; (try (with_reducible rfl))
          try simp only [Act.put, List.setIfInBounds_toArray, List.set_cons_zero, List.set_cons_succ]
          refine wpAnyH_done (by kernel_rfl) ?_ _
          clear hHeld
          obtain ⟨z0, z1, zf, zl⟩ := BO.two
          go_wp2_with fail
          have MO := (BO.set (i := 0) (.slice none 0 0)).set (i := 1) (.slice none 0 0)
          simp only [List.setIfInBounds_toArray, List.set_cons_zero, List.set_cons_succ] at MO
          have hM := (hb.setCell (p := ⟨w.heap.size + 1 + 1, 0, none⟩) (by simp; omega) (.slice none 0 0)).setCell (p := ⟨w.heap.size + 1 + 1, 1, none⟩) (by simp; omega) (.slice none 0 0)
          clear z0 z1 zf zl
          generalize ((vd.setCell ⟨w.heap.size + 1 + 1, 0, none⟩ (.slice none 0 0)).setCell ⟨w.heap.size + 1 + 1, 1, none⟩ (.slice none 0 0)) = we at *
          obtain ⟨z0, z1, zf, zl⟩ := MO.two
          refine bodyPost_ret (v := .tuple #[.agg #[.slice none 0 0, .slice none 0 0], .bool false]) (by simp [results, Try.results22, go_sem, z0, z1]) rfl ?_
          rw [HF.out]
          exact ⟨rfl, hM⟩
      · obtain rfl : k = nt := by omega
        have hlt' : ¬ ((k : Nat) : Int) < (k : Int) := by omega
        have hF2 : R = some (bx, bz) := by
          rw [hF, List.drop_eq_nil_of_le (show ts.length ≤ k by have := HTS.out; omega)]
          cases os.drop k <;> rfl
        have HF := Lib.hid hF2
        have n1 := rowNe RA BO (by decide)
        have n2 := rowNe RB BO (by decide)
        clear hF hF2 hgi
        obtain ⟨y0, y1, yf, yl⟩ := BA.two
        obtain ⟨z0, z1, zf, zl⟩ := BO.two
        go_wp2_with fail
        have MO := (BO.set (i := 0) (.slice (some ⟨ga, 0, none⟩) bx.length k1)).set (i := 1) (.slice (some ⟨gb, 0, none⟩) bz.length k2)
        simp only [List.setIfInBounds_toArray, List.set_cons_zero, List.set_cons_succ] at MO
        have hM := (hb.setCell (p := ⟨w.heap.size + 1 + 1, 0, none⟩) (by simp; omega) (.slice (some ⟨ga, 0, none⟩) bx.length k1)).setCell (p := ⟨w.heap.size + 1 + 1, 1, none⟩) (by simp; omega) (.slice (some ⟨gb, 0, none⟩) bz.length k2)
        have M1 := (RA.other (g := w.heap.size + 1 + 1) (o := 0) (v := .slice (some ⟨ga, 0, none⟩) bx.length k1) n1).other (g := w.heap.size + 1 + 1) (o := 1) (v := .slice (some ⟨gb, 0, none⟩) bz.length k2) n1
        have M2 := (RB.other (g := w.heap.size + 1 + 1) (o := 0) (v := .slice (some ⟨ga, 0, none⟩) bx.length k1) n2).other (g := w.heap.size + 1 + 1) (o := 1) (v := .slice (some ⟨gb, 0, none⟩) bz.length k2) n2
        clear y0 y1 yf yl z0 z1 zf zl BO BA BV RA RB hb
        generalize ((wr.setCell ⟨w.heap.size + 1 + 1, 0, none⟩ (.slice (some ⟨ga, 0, none⟩) bx.length k1)).setCell ⟨w.heap.size + 1 + 1, 1, none⟩ (.slice (some ⟨gb, 0, none⟩) bz.length k2)) = we at *
        obtain ⟨z0, z1, zf, zl⟩ := MO.two
        refine bodyPost_ret (v := .tuple #[.agg #[.slice (some ⟨ga, 0, none⟩) bx.length k1, .slice (some ⟨gb, 0, none⟩) bz.length k2], .bool true]) (by simp [results, Try.results22, go_sem, z0, z1]) rfl ?_
        rw [HF.out]
        exact ⟨ga, gb, k1, k2, rfl, hga, hgb, hne, M1, M2, hM⟩
end Go.Proofs.Ytodlofabffenoaa
