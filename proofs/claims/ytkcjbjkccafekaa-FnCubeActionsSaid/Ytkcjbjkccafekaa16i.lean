/- Contract of the program's model on what an action leads to. -/
import Derived.Test.Ytkcjbjkccafekaa16h
namespace Go.Proofs.Ytkcjbjkccafekaa
open Go.ChangeShapes Go.WideShapes Go.ChangeAt Go.RowKit
set_option linter.unusedVariables false
set_option linter.unusedSimpArgs false
set_option maxRecDepth 4000

theorem Blk.sto2 {w : World} {B : Nat} {a b : Value} {t : TypeId} (h : Blk w B #[a, b] t) (x y : Value) : Blk ((w.setCell ⟨B, 0, none⟩ x).setCell ⟨B, 1, none⟩ y) B #[x, y] t := by
  have := (h.set (i := 0) x).set (i := 1) y
  simp only [List.setIfInBounds_toArray, List.set_cons_zero, List.set_cons_succ] at this
  exact this
theorem Blk.off2 {w : World} {g B : Nat} {vs : Array Value} {t : TypeId} (h : Blk w g vs t) (hne : g ≠ B) (x y : Value) : Blk ((w.setCell ⟨B, 0, none⟩ x).setCell ⟨B, 1, none⟩ y) g vs t :=
  (h.other (g := B) (o := 0) (v := x) (by omega)).other (g := B) (o := 1) (v := y) (by omega)
theorem belowOff2 {w w' : World} {m B : Nat} (h : Below m w w') (hB : m ≤ B) (x y : Value) : Below m w ((w'.setCell ⟨B, 0, none⟩ x).setCell ⟨B, 1, none⟩ y) :=
  (h.setCell (p := ⟨B, 0, none⟩) hB x).setCell (p := ⟨B, 1, none⟩) hB y
set_option maxRecDepth 8000 in
set_option maxHeartbeats 2000000 in
theorem specAfterAction_any (m v o a : Int) (be ja : Bool) (w : World) :
    Calls Try.prog 34 #[.agg #[.int .i64 m, .bool be, .bool ja], .agg #[.int .i64 v, .int .i64 o], .int .i64 a] w fun e w' => e = .returned (.tuple #[.agg #[.int .i64 (aaV m be v o a).1, .int .i64 (aaV m be v o a).2.1], .int .i64 (aaV m be v o a).2.2.1, .int .i64 (aaV m be v o a).2.2.2]) ∧ Below w.heap.size w w' := by
  have hc := fun W => specIsCube_any m v o be ja W
  obtain ⟨BR, BC, BZ, hb, hz⟩ := three_new w #[.int .i64 m, .bool be, .bool ja] #[.int .i64 v, .int .i64 o] #[.int .i64 0, .int .i64 0] 25 27 27
  clear hz
  cases g : cbB m v o with
  | false =>
    rw [g] at hc
    rw [aaV_bad g]
    dsimp only
    have HC := Lib.hid hc
    clear hc g
    go_enter Try.func34, Try.ntmps34
    obtain ⟨x0, x1, x2, xf, xl⟩ := BR.t3
    obtain ⟨u0, u1, uf, ul⟩ := BC.two
    obtain ⟨z0, z1, zf, zl⟩ := BZ.two
    go_wp2_with (go_at_call 23; refine (HC.out _).mono ?_; rintro e w1 ⟨rfl, hb1⟩; have R1 := BR.below hb1; have C1 := BC.below hb1; have Z1 := BZ.below hb1; obtain ⟨p0, p1, p2, pf, pl⟩ := R1.t3; obtain ⟨q0, q1, qf, ql⟩ := C1.two; obtain ⟨s0, s1, sf, sl⟩ := Z1.two)
    have BZn : Blk _ (w.heap.size + 1 + 1) #[.int .i64 0, .int .i64 0] 27 := (Z1.set (i := 0) (.int .i64 0)).set (i := 1) (.int .i64 0)
    refine bodyPost_ret (v := .tuple #[.agg #[.int .i64 0, .int .i64 0], .int .i64 0, .int .i64 1]) (by simp [results, Try.results34, go_sem, BZn.two.1, BZn.two.2.1]) rfl ?_
    exact ⟨rfl, ((chain hb hb1).setCell (by show _ ≤ w.heap.size + 1 + 1; omega) _).setCell (by show _ ≤ w.heap.size + 1 + 1; omega) _⟩
  | true =>
    have hv : 1 ≤ v ∧ v ≤ 1024 := by have := cbB_parts g; omega
    have hp := fun W => l16Possible_any m v o a be ja W hv
    rw [g] at hc
    have HC := Lib.hid hc
    clear hc
    cases h : posB m be v o a with
    | false =>
      rw [h] at hp
      rw [aaV_range g h]
      dsimp only
      have HP := Lib.hid hp
      clear hp g h hv
      go_enter Try.func34, Try.ntmps34
      obtain ⟨x0, x1, x2, xf, xl⟩ := BR.t3
      obtain ⟨u0, u1, uf, ul⟩ := BC.two
      obtain ⟨z0, z1, zf, zl⟩ := BZ.two
      go_wp2_with (first | (go_at_call 23; refine (HC.out _).mono ?_; rintro e w1 ⟨rfl, hb1⟩; have R1 := BR.below hb1; have C1 := BC.below hb1; have Z1 := BZ.below hb1; obtain ⟨p0, p1, p2, pf, pl⟩ := R1.t3; obtain ⟨q0, q1, qf, ql⟩ := C1.two; obtain ⟨s0, s1, sf, sl⟩ := Z1.two) | (go_at_call 40; refine (HP.out _).mono ?_; rintro e w2 ⟨rfl, hb2⟩; have R2 := R1.below hb2; have C2 := C1.below hb2; have Z2 := Z1.below hb2; obtain ⟨p0b, p1b, p2b, pfb, plb⟩ := R2.t3; obtain ⟨q0b, q1b, qfb, qlb⟩ := C2.two; obtain ⟨s0b, s1b, sfb, slb⟩ := Z2.two))
      have BZn : Blk _ (w.heap.size + 1 + 1) #[.int .i64 0, .int .i64 0] 27 := (Z2.set (i := 0) (.int .i64 0)).set (i := 1) (.int .i64 0)
      refine bodyPost_ret (v := .tuple #[.agg #[.int .i64 0, .int .i64 0], .int .i64 0, .int .i64 2]) (by simp [results, Try.results34, go_sem, BZn.two.1, BZn.two.2.1]) rfl ?_
      exact ⟨rfl, ((chain (chain hb hb1) hb2).setCell (by show _ ≤ w.heap.size + 1 + 1; omega) _).setCell (by show _ ≤ w.heap.size + 1 + 1; omega) _⟩
    | true =>
      rw [h] at hp
      have HP := Lib.hid hp
      clear hp
      rcases posB_cases h with rfl | rfl | rfl | rfl | rfl
      ·
        rw [show aaV m be v o 0 = (v, o, 0, 0) by rw [aaV_ok g h]; simp [aaR]]
        dsimp only
        have v1 := hv.1
        have v2 := hv.2
        clear g h hv
        go_enter Try.func34, Try.ntmps34
        obtain ⟨x0, x1, x2, xf, xl⟩ := BR.t3
        obtain ⟨u0, u1, uf, ul⟩ := BC.two
        obtain ⟨z0, z1, zf, zl⟩ := BZ.two
        go_wp2_with (first | (go_at_call 23; refine (HC.out _).mono ?_; rintro e w1 ⟨rfl, hb1⟩; have R1 := BR.below hb1; have C1 := BC.below hb1; have Z1 := BZ.below hb1; obtain ⟨p0, p1, p2, pf, pl⟩ := R1.t3; obtain ⟨q0, q1, qf, ql⟩ := C1.two; obtain ⟨s0, s1, sf, sl⟩ := Z1.two) | (go_at_call 40; refine (HP.out _).mono ?_; rintro e w2 ⟨rfl, hb2⟩; have R2 := R1.below hb2; have C2 := C1.below hb2; have Z2 := Z1.below hb2; obtain ⟨p0b, p1b, p2b, pfb, plb⟩ := R2.t3; obtain ⟨q0b, q1b, qfb, qlb⟩ := C2.two; obtain ⟨s0b, s1b, sfb, slb⟩ := Z2.two))
        have BZn : Blk _ (w.heap.size + 1 + 1) #[.int .i64 v, .int .i64 o] 27 := (Z2.set (i := 0) (.int .i64 v)).set (i := 1) (.int .i64 o)
        refine bodyPost_ret (v := .tuple #[.agg #[.int .i64 v, .int .i64 o], .int .i64 0, .int .i64 0]) (by simp [results, Try.results34, go_sem, BZn.two.1, BZn.two.2.1]) rfl ?_
        exact ⟨rfl, ((chain (chain hb hb1) hb2).setCell (by show _ ≤ w.heap.size + 1 + 1; omega) _).setCell (by show _ ≤ w.heap.size + 1 + 1; omega) _⟩
      ·
        rw [show aaV m be v o 1 = (2 * v, 2, 0, 0) by rw [aaV_ok g h]; simp [aaR, dbN, show p2 1 = 2 by decide]; omega]
        dsimp only
        have v1 := hv.1
        have v2 := hv.2
        clear g h hv
        go_enter Try.func34, Try.ntmps34
        obtain ⟨x0, x1, x2, xf, xl⟩ := BR.t3
        obtain ⟨u0, u1, uf, ul⟩ := BC.two
        obtain ⟨z0, z1, zf, zl⟩ := BZ.two
        go_wp2_with (first | (go_at_call 23; refine (HC.out _).mono ?_; rintro e w1 ⟨rfl, hb1⟩; have R1 := BR.below hb1; have C1 := BC.below hb1; have Z1 := BZ.below hb1; obtain ⟨p0, p1, p2, pf, pl⟩ := R1.t3; obtain ⟨q0, q1, qf, ql⟩ := C1.two; obtain ⟨s0, s1, sf, sl⟩ := Z1.two) | (go_at_call 40; refine (HP.out _).mono ?_; rintro e w2 ⟨rfl, hb2⟩; have R2 := R1.below hb2; have C2 := C1.below hb2; have Z2 := Z1.below hb2; obtain ⟨p0b, p1b, p2b, pfb, plb⟩ := R2.t3; obtain ⟨q0b, q1b, qfb, qlb⟩ := C2.two; obtain ⟨s0b, s1b, sfb, slb⟩ := Z2.two))
        have BZn : Blk _ (w.heap.size + 1 + 1) #[.int .i64 (2 * v), .int .i64 2] 27 := (Z2.set (i := 0) (.int .i64 (2 * v))).set (i := 1) (.int .i64 2)
        refine bodyPost_ret (v := .tuple #[.agg #[.int .i64 (2 * v), .int .i64 2], .int .i64 0, .int .i64 0]) (by simp [results, Try.results34, go_sem, BZn.two.1, BZn.two.2.1]) rfl ?_
        exact ⟨rfl, ((chain (chain hb hb1) hb2).setCell (by show _ ≤ w.heap.size + 1 + 1; omega) _).setCell (by show _ ≤ w.heap.size + 1 + 1; omega) _⟩
      ·
        rw [show aaV m be v o 2 = (0, 0, v, 0) by rw [aaV_ok g h]; simp [aaR]]
        dsimp only
        have v1 := hv.1
        have v2 := hv.2
        clear g h hv
        go_enter Try.func34, Try.ntmps34
        obtain ⟨x0, x1, x2, xf, xl⟩ := BR.t3
        obtain ⟨u0, u1, uf, ul⟩ := BC.two
        obtain ⟨z0, z1, zf, zl⟩ := BZ.two
        go_wp2_with (first | (go_at_call 23; refine (HC.out _).mono ?_; rintro e w1 ⟨rfl, hb1⟩; have R1 := BR.below hb1; have C1 := BC.below hb1; have Z1 := BZ.below hb1; obtain ⟨p0, p1, p2, pf, pl⟩ := R1.t3; obtain ⟨q0, q1, qf, ql⟩ := C1.two; obtain ⟨s0, s1, sf, sl⟩ := Z1.two) | (go_at_call 40; refine (HP.out _).mono ?_; rintro e w2 ⟨rfl, hb2⟩; have R2 := R1.below hb2; have C2 := C1.below hb2; have Z2 := Z1.below hb2; obtain ⟨p0b, p1b, p2b, pfb, plb⟩ := R2.t3; obtain ⟨q0b, q1b, qfb, qlb⟩ := C2.two; obtain ⟨s0b, s1b, sfb, slb⟩ := Z2.two))
        replace hb := (chain (chain hb hb1) hb2)
        clear hb1 hb2 R1 C1 Z1 R2 BR BC BZ x0 x1 x2 xf xl u0 u1 uf ul z0 z1 zf zl p0 p1 p2 pf pl q0 q1 qf ql s0 s1 sf sl p0b p1b p2b pfb plb q0b q1b qfb qlb s0b s1b sfb slb
        have hd_ : w2.drew.heap.size = w2.heap.size := rfl
        replace C2 := C2.drew
        replace Z2 := Z2.drew
        replace hb := hb.drew
        refine wp_region_held_drew (S := fun w' => w'.cell? ⟨(w.heap.size + 1), 0, none⟩ = some (.int .i64 v) ∧ w'.cell? ⟨(w.heap.size + 1), 1, none⟩ = some (.int .i64 o)) (by kernel_rfl) ⟨C2.two.1, C2.two.2.1⟩ (fun hHeld => ?_)
        clear hHeld
        generalize w2.drew = vd at *
        have hHeld : vd.cell? ⟨(w.heap.size + 1), 0, none⟩ = some (.int .i64 v) ∧ vd.cell? ⟨(w.heap.size + 1), 1, none⟩ = some (.int .i64 o) := ⟨C2.two.1, C2.two.2.1⟩
        refine tk 0 29 ?_
        refine tk 1 30 ?_
        refine tk 2 31 ?_
        refine rdn 3 fun K hK => ?_
        obtain ⟨s0, s1, sf, sl⟩ := Z2.two
        go_simp
        (try go_wp2_with fail)
        refine hko hK (Blk.l2 ((C2.other (by omega)).other (by omega))) fun hHeld => ?_
        clear hK K
        refine tk 4 7 ?_
        refine tk 5 8 ?_
        refine wpAnyH_done (by kernel_rfl) ?_ _
        clear hHeld
        have BZn0 := (Z2.set (i := 0) (.int .i64 0)).set (i := 1) (.int .i64 0)
        go_wp2_with fail
        have BZn : Blk _ (w.heap.size + 1 + 1) #[.int .i64 0, .int .i64 0] 27 := (Z2.set (i := 0) (.int .i64 0)).set (i := 1) (.int .i64 0)
        refine bodyPost_ret (v := .tuple #[.agg #[.int .i64 0, .int .i64 0], .int .i64 v, .int .i64 0]) (by simp [results, Try.results34, go_sem, BZn.two.1, BZn.two.2.1]) rfl ?_
        exact ⟨rfl, (hb.setCell (by show _ ≤ w.heap.size + 1 + 1; omega) _).setCell (by show _ ≤ w.heap.size + 1 + 1; omega) _⟩
      ·
        rw [show aaV m be v o 3 = (4 * v, 2, 0, 0) by rw [aaV_ok g h]; simp [aaR, dbN, show p2 2 = 4 by decide]; omega]
        dsimp only
        have v1 := hv.1
        have v2 := hv.2
        clear g h hv
        go_enter Try.func34, Try.ntmps34
        obtain ⟨x0, x1, x2, xf, xl⟩ := BR.t3
        obtain ⟨u0, u1, uf, ul⟩ := BC.two
        obtain ⟨z0, z1, zf, zl⟩ := BZ.two
        go_wp2_with (first | (go_at_call 23; refine (HC.out _).mono ?_; rintro e w1 ⟨rfl, hb1⟩; have R1 := BR.below hb1; have C1 := BC.below hb1; have Z1 := BZ.below hb1; obtain ⟨p0, p1, p2, pf, pl⟩ := R1.t3; obtain ⟨q0, q1, qf, ql⟩ := C1.two; obtain ⟨s0, s1, sf, sl⟩ := Z1.two) | (go_at_call 40; refine (HP.out _).mono ?_; rintro e w2 ⟨rfl, hb2⟩; have R2 := R1.below hb2; have C2 := C1.below hb2; have Z2 := Z1.below hb2; obtain ⟨p0b, p1b, p2b, pfb, plb⟩ := R2.t3; obtain ⟨q0b, q1b, qfb, qlb⟩ := C2.two; obtain ⟨s0b, s1b, sfb, slb⟩ := Z2.two))
        have BZn : Blk _ (w.heap.size + 1 + 1) #[.int .i64 (4 * v), .int .i64 2] 27 := (Z2.set (i := 0) (.int .i64 (4 * v))).set (i := 1) (.int .i64 2)
        refine bodyPost_ret (v := .tuple #[.agg #[.int .i64 (4 * v), .int .i64 2], .int .i64 0, .int .i64 0]) (by simp [results, Try.results34, go_sem, BZn.two.1, BZn.two.2.1]) rfl ?_
        exact ⟨rfl, ((chain (chain hb hb1) hb2).setCell (by show _ ≤ w.heap.size + 1 + 1; omega) _).setCell (by show _ ≤ w.heap.size + 1 + 1; omega) _⟩
      ·
        rw [show aaV m be v o 4 = (8 * v, 2, 0, 0) by rw [aaV_ok g h]; simp [aaR, dbN, show p2 3 = 8 by decide]; omega]
        dsimp only
        have v1 := hv.1
        have v2 := hv.2
        clear g h hv
        go_enter Try.func34, Try.ntmps34
        obtain ⟨x0, x1, x2, xf, xl⟩ := BR.t3
        obtain ⟨u0, u1, uf, ul⟩ := BC.two
        obtain ⟨z0, z1, zf, zl⟩ := BZ.two
        go_wp2_with (first | (go_at_call 23; refine (HC.out _).mono ?_; rintro e w1 ⟨rfl, hb1⟩; have R1 := BR.below hb1; have C1 := BC.below hb1; have Z1 := BZ.below hb1; obtain ⟨p0, p1, p2, pf, pl⟩ := R1.t3; obtain ⟨q0, q1, qf, ql⟩ := C1.two; obtain ⟨s0, s1, sf, sl⟩ := Z1.two) | (go_at_call 40; refine (HP.out _).mono ?_; rintro e w2 ⟨rfl, hb2⟩; have R2 := R1.below hb2; have C2 := C1.below hb2; have Z2 := Z1.below hb2; obtain ⟨p0b, p1b, p2b, pfb, plb⟩ := R2.t3; obtain ⟨q0b, q1b, qfb, qlb⟩ := C2.two; obtain ⟨s0b, s1b, sfb, slb⟩ := Z2.two))
        have BZn : Blk _ (w.heap.size + 1 + 1) #[.int .i64 (8 * v), .int .i64 2] 27 := (Z2.set (i := 0) (.int .i64 (8 * v))).set (i := 1) (.int .i64 2)
        refine bodyPost_ret (v := .tuple #[.agg #[.int .i64 (8 * v), .int .i64 2], .int .i64 0, .int .i64 0]) (by simp [results, Try.results34, go_sem, BZn.two.1, BZn.two.2.1]) rfl ?_
        exact ⟨rfl, ((chain (chain hb hb1) hb2).setCell (by show _ ≤ w.heap.size + 1 + 1; omega) _).setCell (by show _ ≤ w.heap.size + 1 + 1; omega) _⟩
end Go.Proofs.Ytkcjbjkccafekaa
