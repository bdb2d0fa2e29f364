/- Texts of a proof, laid together. -/
import Derived.Test.YtnlclmlnpkncoaaGreatW42
import Derived.Test.YtnlclmlnpkncoaaGreatW02
import Derived.Lib.MinMax
namespace Go.Proofs.YtnlclmlnpkncoaaGreat
open Go.ChangeShapes Go.WideShapes Go.ChangeAt Go.RowKit
set_option linter.unusedVariables false
set_option linter.unusedSimpArgs false
set_option maxRecDepth 4000
def V10D (B g : Nat) (a : Option Addr) (len cap : Nat) (bs : Nat → Int) (q : (Int × Int × Int × Int) × (Nat × Int)) (w : World) (e : Ending) (w' : World) : Prop :=
  e = .returned (.agg #[.int .i64 q.1.1, .int .i64 q.1.2.1, .int .i64 q.1.2.2.1, .int .i64 q.1.2.2.2]) ∧ SrcD B w' g a len cap bs q.2 ∧ w.grownBy w' (some g)
theorem v10_mk {B g : Nat} {a : Option Addr} {len cap : Nat} {bs : Nat → Int} {q : (Int × Int × Int × Int) × (Nat × Int)} {w : World} {e : Ending} {w' : World} {p c h s : Int} {t : Nat × Int}
    (hq : q = ((p, c, h, s), t)) (he : e = .returned (.agg #[.int .i64 p, .int .i64 c, .int .i64 h, .int .i64 s])) (hs : SrcD B w' g a len cap bs t) (hg : w.grownBy w' (some g)) : V10D B g a len cap bs q w e w' := by
  subst hq
  exact ⟨he, hs, hg⟩
def dvV (len : Nat) (bs : Nat → Int) (st : Nat × Int) : (Int × Int × Int × Int) × (Nat × Int) :=
  let a1 := nxV len bs st 3
  let a2 := nxV len bs a1.2 3
  let a3 := nxV len bs a2.2 3
  let a4 := nxV len bs a3.2 24
  if a4.1 = 0 then ((6, 1 + a1.1, 1 + a2.1, 7 * (nxV len bs a4.2 2).1), (nxV len bs a4.2 2).2)
  else if a4.1 = 1 then ((6, 16 * (nxV len bs a4.2 2).1, 1 + a2.1, 1 + a3.1), (nxV len bs a4.2 2).2)
  else if a4.1 = 2 then ((24, 15, 6, 6), a4.2)
  else ((6, 1 + a1.1, 1 + a2.1, 1 + a3.1), a4.2)
theorem dv_bnd (len : Nat) (bs : Nat → Int) (st : Nat × Int) : (0 ≤ (dvV len bs st).1.2.1 ∧ (dvV len bs st).1.2.1 ≤ 16) ∧ (1 ≤ (dvV len bs st).1.2.2.1 ∧ (dvV len bs st).1.2.2.1 ≤ 16) := by
  unfold dvV
  have h1 := nx_bnd len bs st 3
  have h2 := nx_bnd len bs (nxV len bs st 3).2 3
  have h5 := nx_bnd len bs (nxV len bs (nxV len bs (nxV len bs (nxV len bs st 3).2 3).2 3).2 24).2 2
  dsimp only
  split
  · dsimp only
    omega
  · split
    · dsimp only
      omega
    · split
      · dsimp only
        omega
      · dsimp only
        omega
theorem Blk.put4 {w : World} {B : Nat} {a b c d : Value} {t : TypeId} (h : Blk w B #[a, b, c, d] t) (x y z u : Value) : Blk ((((w.setCell ⟨B, 0, none⟩ x).setCell ⟨B, 1, none⟩ y).setCell ⟨B, 2, none⟩ z).setCell ⟨B, 3, none⟩ u) B #[x, y, z, u] t := by
  have := (((h.set (i := 0) x).set (i := 1) y).set (i := 2) z).set (i := 3) u
  simp only [List.setIfInBounds_toArray, List.set_cons_zero, List.set_cons_succ] at this
  exact this
set_option maxRecDepth 8000 in
set_option maxHeartbeats 1000000 in
theorem draw10VD_any (B g : Nat) (a : Option Addr) (len cap : Nat) (w : World) (bs : Nat → Int) (st : Nat × Int) (hS : SrcD B w g a len cap bs st) :
    Calls Tryz.prog 53 #[.pointer (some ⟨g, 0, none⟩)] w (V10D B g a len cap bs (dvV len bs st) w) := by
  have hgl := hS.lt
  have hgB := hS.base
  go_enter Tryz.func53, Tryz.ntmps53
  go_wp2_with fail
  have B0 := Blk.new w #[.int .i64 0, .int .i64 0, .int .i64 0, .int .i64 0] 25
  replace hS := hS.alloc (.cells #[.int .i64 0, .int .i64 0, .int .i64 0, .int .i64 0] 25)
  have hG : w.grownBy (w.alloc (.cells #[.int .i64 0, .int .i64 0, .int .i64 0, .int .i64 0] 25)) (some g) := World.grownBy_alloc w _ _
  have hz0 : (w.alloc (.cells #[.int .i64 0, .int .i64 0, .int .i64 0, .int .i64 0] 25)).heap.size = w.heap.size + 1 := by simp
  have HN1 := nextD_any B g a len cap bs st 3 _ hS (by omega)
  have hnb1 := nx_bnd len bs st 3
  obtain ⟨⟨r1, t1⟩, q1⟩ : ∃ q, nxV len bs st 3 = q := ⟨_, rfl⟩
  rw [q1] at HN1 hnb1
  refine HN1.mono ?_
  clear HN1
  rintro e w1 ⟨rfl, hS, hg1⟩
  obtain ⟨l1, u1⟩ := hnb1
  dsimp only at l1 u1 hS
  have hz1 := hg1.size
  have hsl1 := hS.lt
  replace B0 := B0.grown hg1 (by omega)
  replace hG := grown_trans hG hg1
  clear hg1
  go_wp2_with fail
  have HN2 := nextD_any B g a len cap bs t1 3 _ hS (by omega)
  have hnb2 := nx_bnd len bs t1 3
  obtain ⟨⟨r2, t2⟩, q2⟩ : ∃ q, nxV len bs t1 3 = q := ⟨_, rfl⟩
  rw [q2] at HN2 hnb2
  refine HN2.mono ?_
  clear HN2
  rintro e w2 ⟨rfl, hS, hg2⟩
  obtain ⟨l2, u2⟩ := hnb2
  dsimp only at l2 u2 hS
  have hz2 := hg2.size
  have hsl2 := hS.lt
  replace B0 := B0.grown hg2 (by omega)
  replace hG := grown_trans hG hg2
  clear hg2
  go_wp2_with fail
  have HN3 := nextD_any B g a len cap bs t2 3 _ hS (by omega)
  have hnb3 := nx_bnd len bs t2 3
  obtain ⟨⟨r3, t3⟩, q3⟩ : ∃ q, nxV len bs t2 3 = q := ⟨_, rfl⟩
  rw [q3] at HN3 hnb3
  refine HN3.mono ?_
  clear HN3
  rintro e w3 ⟨rfl, hS, hg3⟩
  obtain ⟨l3, u3⟩ := hnb3
  dsimp only at l3 u3 hS
  have hz3 := hg3.size
  have hsl3 := hS.lt
  replace B0 := B0.grown hg3 (by omega)
  replace hG := grown_trans hG hg3
  clear hg3
  go_wp2_with fail
  have VB := #[Value.int .i64 6]
  clear VB
  have Bv := Blk.new w3 #[.int .i64 6, .int .i64 (1 + r1), .int .i64 (1 + r2), .int .i64 (1 + r3)] 25
  have hl3 := B0.lt
  replace B0 := B0.alloc (.cells #[.int .i64 6, .int .i64 (1 + r1), .int .i64 (1 + r2), .int .i64 (1 + r3)] 25)
  replace hS := hS.alloc (.cells #[.int .i64 6, .int .i64 (1 + r1), .int .i64 (1 + r2), .int .i64 (1 + r3)] 25)
  replace hG := grown_alloc hG (.cells #[.int .i64 6, .int .i64 (1 + r1), .int .i64 (1 + r2), .int .i64 (1 + r3)] 25)
  have hs3 := hsl3
  generalize w3.alloc (.cells #[.int .i64 6, .int .i64 (1 + r1), .int .i64 (1 + r2), .int .i64 (1 + r3)] 25) = wv at *
  generalize w3.heap.size = gv at *
  have HN4 := nextD_any B g a len cap bs t3 24 _ hS (by omega)
  have hnb4 := nx_bnd len bs t3 24
  obtain ⟨⟨r4, t4⟩, q4⟩ : ∃ q, nxV len bs t3 24 = q := ⟨_, rfl⟩
  rw [q4] at HN4 hnb4
  refine HN4.mono ?_
  clear HN4
  rintro e w4 ⟨rfl, hS, hg4⟩
  obtain ⟨l4, u4⟩ := hnb4
  dsimp only at l4 u4 hS
  have hz4 := hg4.size
  have hsl4 := hS.lt
  replace B0 := B0.grown hg4 (by omega)
  replace Bv := Bv.grown hg4 (by omega)
  replace hG := grown_trans hG hg4
  clear hg4
  by_cases e0 : r4 = 0
  · subst e0
    go_wp2_with fail
    have HN5 := nextD_any B g a len cap bs t4 2 _ hS (by omega)
    have hnb5 := nx_bnd len bs t4 2
    obtain ⟨⟨r5, t5⟩, q5⟩ : ∃ q, nxV len bs t4 2 = q := ⟨_, rfl⟩
    rw [q5] at HN5 hnb5
    refine HN5.mono ?_
    clear HN5
    rintro e w5 ⟨rfl, hS, hg5⟩
    obtain ⟨l5, u5⟩ := hnb5
    dsimp only at l5 u5 hS
    have hz5 := hg5.size
    have hsl5 := hS.lt
    replace B0 := B0.grown hg5 (by omega)
    replace Bv := Bv.grown hg5 (by omega)
    replace hG := grown_trans hG hg5
    clear hg5
    obtain ⟨y0, y1, y2, y3, yf, yl⟩ := B0.four
    obtain ⟨x0, x1, x2, x3, xf, xl⟩ := Bv.four
    go_wp2_with fail
    have B0' := B0.other (g := gv) (o := 3) (v := .int .i64 (7 * r5)) (by omega)
    have hS' := hS.set (g' := gv) (o := 3) (v := .int .i64 (7 * r5)) (by omega) (by omega)
    have hG' := grown_new (g' := gv) (o := 3) (v := .int .i64 (7 * r5)) hG (by omega)
    have BRn := B0'.put4 (.int .i64 6) (.int .i64 (1 + r1)) (.int .i64 (1 + r2)) (.int .i64 (7 * r5))
    obtain ⟨t0, t1, t2, t3, tf, tl⟩ := BRn.four
    refine bodyPost_ret (v := .agg #[.int .i64 6, .int .i64 (1 + r1), .int .i64 (1 + r2), .int .i64 (7 * r5)]) (by simp [results, Tryz.results53, go_sem, t0, t1, t2, t3]) rfl ?_
    exact v10_mk (by simp [dvV, q1, q2, q3, q4, q5]) rfl ((((hS'.set (by omega) (by omega)).set (by omega) (by omega)).set (by omega) (by omega)).set (by omega) (by omega)) (grown_new (grown_new (grown_new (grown_new hG' (Nat.le_refl _)) (Nat.le_refl _)) (Nat.le_refl _)) (Nat.le_refl _))
  · have f0 : (r4 == 0) = false := by rw [beq_eq_false_iff_ne]; exact e0
    by_cases e1 : r4 = 1
    · subst e1
      go_wp2_with fail
      have HN5 := nextD_any B g a len cap bs t4 2 _ hS (by omega)
      have hnb5 := nx_bnd len bs t4 2
      obtain ⟨⟨r5, t5⟩, q5⟩ : ∃ q, nxV len bs t4 2 = q := ⟨_, rfl⟩
      rw [q5] at HN5 hnb5
      refine HN5.mono ?_
      clear HN5
      rintro e w5 ⟨rfl, hS, hg5⟩
      obtain ⟨l5, u5⟩ := hnb5
      dsimp only at l5 u5 hS
      have hz5 := hg5.size
      have hsl5 := hS.lt
      replace B0 := B0.grown hg5 (by omega)
      replace Bv := Bv.grown hg5 (by omega)
      replace hG := grown_trans hG hg5
      clear hg5
      obtain ⟨y0, y1, y2, y3, yf, yl⟩ := B0.four
      obtain ⟨x0, x1, x2, x3, xf, xl⟩ := Bv.four
      go_wp2_with fail
      have B0' := B0.other (g := gv) (o := 1) (v := .int .i64 (16 * r5)) (by omega)
      have hS' := hS.set (g' := gv) (o := 1) (v := .int .i64 (16 * r5)) (by omega) (by omega)
      have hG' := grown_new (g' := gv) (o := 1) (v := .int .i64 (16 * r5)) hG (by omega)
      have BRn := B0'.put4 (.int .i64 6) (.int .i64 (16 * r5)) (.int .i64 (1 + r2)) (.int .i64 (1 + r3))
      obtain ⟨t0, t1, t2, t3, tf, tl⟩ := BRn.four
      refine bodyPost_ret (v := .agg #[.int .i64 6, .int .i64 (16 * r5), .int .i64 (1 + r2), .int .i64 (1 + r3)]) (by simp [results, Tryz.results53, go_sem, t0, t1, t2, t3]) rfl ?_
      exact v10_mk (by simp [dvV, q1, q2, q3, q4, q5]) rfl ((((hS'.set (by omega) (by omega)).set (by omega) (by omega)).set (by omega) (by omega)).set (by omega) (by omega)) (grown_new (grown_new (grown_new (grown_new hG' (Nat.le_refl _)) (Nat.le_refl _)) (Nat.le_refl _)) (Nat.le_refl _))
    · have f1 : (r4 == 1) = false := by rw [beq_eq_false_iff_ne]; exact e1
      by_cases e2 : r4 = 2
      · subst e2
        obtain ⟨y0, y1, y2, y3, yf, yl⟩ := B0.four
        obtain ⟨x0, x1, x2, x3, xf, xl⟩ := Bv.four
        go_wp2_with fail
        have B0' := (((B0.other (g := gv) (o := 0) (v := .int .i64 24) (by omega)).other (g := gv) (o := 1) (v := .int .i64 15) (by omega)).other (g := gv) (o := 2) (v := .int .i64 6) (by omega)).other (g := gv) (o := 3) (v := .int .i64 6) (by omega)
        have hS' := (((hS.set (g' := gv) (o := 0) (v := .int .i64 24) (by omega) (by omega)).set (g' := gv) (o := 1) (v := .int .i64 15) (by omega) (by omega)).set (g' := gv) (o := 2) (v := .int .i64 6) (by omega) (by omega)).set (g' := gv) (o := 3) (v := .int .i64 6) (by omega) (by omega)
        have hG' := grown_new (g' := gv) (o := 3) (v := .int .i64 6) (grown_new (g' := gv) (o := 2) (v := .int .i64 6) (grown_new (g' := gv) (o := 1) (v := .int .i64 15) (grown_new (g' := gv) (o := 0) (v := .int .i64 24) hG (by omega)) (by omega)) (by omega)) (by omega)
        have BRn := B0'.put4 (.int .i64 24) (.int .i64 15) (.int .i64 6) (.int .i64 6)
        obtain ⟨t0, t1, t2, t3, tf, tl⟩ := BRn.four
        refine bodyPost_ret (v := .agg #[.int .i64 24, .int .i64 15, .int .i64 6, .int .i64 6]) (by simp [results, Tryz.results53, go_sem, t0, t1, t2, t3]) rfl ?_
        exact v10_mk (by simp [dvV, q1, q2, q3, q4]) rfl ((((hS'.set (by omega) (by omega)).set (by omega) (by omega)).set (by omega) (by omega)).set (by omega) (by omega)) (grown_new (grown_new (grown_new (grown_new hG' (Nat.le_refl _)) (Nat.le_refl _)) (Nat.le_refl _)) (Nat.le_refl _))
      · have f2 : (r4 == 2) = false := by rw [beq_eq_false_iff_ne]; exact e2
        obtain ⟨y0, y1, y2, y3, yf, yl⟩ := B0.four
        obtain ⟨x0, x1, x2, x3, xf, xl⟩ := Bv.four
        go_wp2_with fail
        have B0' := B0
        have hS' := hS
        have hG' := hG
        have BRn := B0'.put4 (.int .i64 6) (.int .i64 (1 + r1)) (.int .i64 (1 + r2)) (.int .i64 (1 + r3))
        obtain ⟨t0, t1, t2, t3, tf, tl⟩ := BRn.four
        refine bodyPost_ret (v := .agg #[.int .i64 6, .int .i64 (1 + r1), .int .i64 (1 + r2), .int .i64 (1 + r3)]) (by simp [results, Tryz.results53, go_sem, t0, t1, t2, t3]) rfl ?_
        exact v10_mk (by simp [dvV, q1, q2, q3, q4, e0, e1, e2]) rfl ((((hS'.set (by omega) (by omega)).set (by omega) (by omega)).set (by omega) (by omega)).set (by omega) (by omega)) (grown_new (grown_new (grown_new (grown_new hG' (Nat.le_refl _)) (Nat.le_refl _)) (Nat.le_refl _)) (Nat.le_refl _))
theorem grown_low {w W w4 : World} {g base : Nat} (h : w.grownBy W (some g)) (hb : Below base W w4) (hn : w.heap.size ≤ base) : w.grownBy w4 (some g) :=
  ⟨hb.os.trans h.os, hb.tape.trans h.tape, hb.output.trans h.output, Nat.le_trans h.size hb.size, fun i hi hr => (hb.block i (by omega)).trans (h.block i hi hr)⟩
theorem Blk.keepL {w w' : World} {g base : Nat} {vs : Array Value} {t : TypeId} (h : Blk w g vs t) (hg : g < base) (hb : Below base w w') : Blk w' g vs t := (hb.block g hg).trans h
theorem Own.by {w w' : World} {base : Nat} {v : Value} {l : List Int} (h : Own w base v l) (k : ∀ i, base ≤ i → i < w.heap.size → w'.heap[i]? = w.heap[i]?) : Own w' base v l := by
  obtain ⟨hl, h1 | ⟨g, cap, cur, hv, hb, hh, hc⟩⟩ := h
  · exact ⟨hl, .inl h1⟩
  · exact ⟨hl, .inr ⟨g, cap, cur, hv, hb, (k g hb (Array.getElem?_eq_some_iff.1 hh).1).trans hh, hc⟩⟩
theorem Own.grownL {w w' : World} {base g : Nat} {v : Value} {l : List Int} (h : Own w base v l) (k : w.grownBy w' (some g)) (hg : g < base) : Own w' base v l :=
  h.by fun i h1 h2 => k.block i h2 (fun e => by cases e; omega)
def dlS (len : Nat) (bs : Nat → Int) (c : Int) (st : Nat × Int) : Nat → List Int × Int × (Nat × Int)
  | 0 => ([], c, st)
  | j + 1 =>
    let q := dlS len bs c st j
    let a1 := nxV len bs q.2.2 (max 1 (q.2.1 + 1))
    let a2 := nxV len bs a1.2 3
    if a2.1 = 0 then (q.1 ++ [0], q.2.1, a2.2) else (q.1 ++ [a1.1], q.2.1 - a1.1, a2.2)
def dlE (c : Int) (l : List Int) (a : Int × (Nat × Int)) : List Int × (Nat × Int) :=
  if a.1 = 0 then (l ++ [0], a.2) else if a.1 = 1 then (l.set 0 (-1), a.2) else if a.1 = 2 then (l.set (l.length - 1) (c + 1), a.2) else (l, a.2)
def dlV (len : Nat) (bs : Nat → Int) (c h : Int) (st : Nat × Int) : List Int × (Nat × Int) :=
  dlE c (dlS len bs c st (min 24 h).toNat).1 (nxV len bs (dlS len bs c st (min 24 h).toNat).2.2 30)
theorem dlS_length (len : Nat) (bs : Nat → Int) (c : Int) (st : Nat × Int) : ∀ j, (dlS len bs c st j).1.length = j
  | 0 => rfl
  | j + 1 => by
    have ih := dlS_length len bs c st j
    unfold dlS
    dsimp only
    split
    · simp [ih]
    · simp [ih]
theorem dlV_length (len : Nat) (bs : Nat → Int) (c h : Int) (st : Nat × Int) (hh : 1 ≤ h) : 0 < (dlV len bs c h st).1.length ∧ (dlV len bs c h st).1.length ≤ 25 := by
  have h1 := dlS_length len bs c st (min 24 h).toNat
  have h2 : 1 ≤ (min 24 h).toNat ∧ (min 24 h).toNat ≤ 24 := by omega
  unfold dlV dlE
  split
  · simp [h1]; omega
  · split
    · simp [h1]; omega
    · split
      · simp [h1]; omega
      · simp [h1]; omega
theorem Own.roomy {w : World} {base : Nat} {a : Option Addr} {n k : Nat} {xs : List Int} (h : Own w base (.slice a n k) xs) : xs.length ≤ k := by
  obtain ⟨hl, h1 | ⟨g, cap, cur, hv, hb, hh, hc, hm, hs, ht⟩⟩ := h
  · obtain ⟨h1, h2⟩ := h1
    omega
  · simp at hv
    omega
def Dr10D (B g : Nat) (a : Option Addr) (len cap : Nat) (bs : Nat → Int) (q : List Int × (Nat × Int)) (w : World) (e : Ending) (w' : World) : Prop :=
  ∃ (aL : Option Addr) (kL : Nat), e = .returned (.slice aL q.1.length kL) ∧ OSl w.heap.size w'.heap.size w' aL q.1 ∧ SrcD B w' g a len cap bs q.2 ∧ w.grownBy w' (some g) ∧ q.1.length ≤ kL
theorem d10_mk {B g : Nat} {a : Option Addr} {len cap : Nat} {bs : Nat → Int} {q : List Int × (Nat × Int)} {w : World} {e : Ending} {w' : World} {xs : List Int} {t : Nat × Int} (aL : Option Addr) (kL : Nat)
    (hq : q = (xs, t)) (he : e = .returned (.slice aL xs.length kL)) (ho : OSl w.heap.size w'.heap.size w' aL xs) (hs : SrcD B w' g a len cap bs t) (hg : w.grownBy w' (some g)) (hk : xs.length ≤ kL) : Dr10D B g a len cap bs q w e w' := by
  subst hq
  exact ⟨aL, kL, he, ho, hs, hg, hk⟩
set_option maxRecDepth 8000 in
set_option maxHeartbeats 2000000 in
theorem draw10D_any (B g : Nat) (a : Option Addr) (len cap : Nat) (p c h s : Int) (hc0 : 0 ≤ c) (hc1 : c ≤ 16) (hh : 1 ≤ h) (w : World) (bs : Nat → Int) (st : Nat × Int) (hS : SrcD B w g a len cap bs st) :
    Calls Tryz.prog 55 #[.pointer (some ⟨g, 0, none⟩), .agg #[.int .i64 p, .int .i64 c, .int .i64 h, .int .i64 s]] w (Dr10D B g a len cap bs (dlV len bs c h st) w) := by
  have hgl := hS.lt
  have hgB := hS.base
  have BV := Blk.new w #[.int .i64 p, .int .i64 c, .int .i64 h, .int .i64 s] 25
  replace hS := hS.alloc (.cells #[.int .i64 p, .int .i64 c, .int .i64 h, .int .i64 s] 25)
  have hG : w.grownBy (w.alloc (.cells #[.int .i64 p, .int .i64 c, .int .i64 h, .int .i64 s] 25)) (some g) := World.grownBy_alloc w _ _
  have hz0 : (w.alloc (.cells #[.int .i64 p, .int .i64 c, .int .i64 h, .int .i64 s] 25)).heap.size = w.heap.size + 1 := by simp
  have hO := Own.start (w.alloc (.cells #[.int .i64 p, .int .i64 c, .int .i64 h, .int .i64 s] 25))
  rw [hz0] at hO
  obtain ⟨B1, hB1⟩ : ∃ B1, w.heap.size + 1 = B1 := ⟨_, rfl⟩
  rw [hB1] at hO
  have hmh24 : min 24 h ≤ 24 := Int.min_le_left _ _
  have hmh1 : 1 ≤ min 24 h := by omega
  obtain ⟨mh, hmh⟩ : ∃ mh, min 24 h = mh := ⟨_, rfl⟩
  have hdV : dlV len bs c h st = dlV len bs c h st := rfl
  rw [show dlV len bs c h st = dlE c (dlS len bs c st (min 24 h).toNat).1 (nxV len bs (dlS len bs c st (min 24 h).toNat).2.2 30) from rfl]
  clear hdV
  rw [hmh] at hmh24 hmh1 ⊢
  obtain ⟨N, hN⟩ : ∃ N : Nat, mh.toNat = N := ⟨_, rfl⟩
  rw [hN]
  have hN24 : N ≤ 24 := by omega
  have hN1 : 1 ≤ N := by omega
  have hNI : ∀ j : Nat, ((j : Int) < mh) = (j < N) := fun j => by rw [eq_iff_iff]; omega
  obtain ⟨x0, x1, x2, x3, xf, xl⟩ := BV.four
  go_enter Tryz.func55, Tryz.ntmps55
  go_wp2_with fail
  clear x0 x1 x2 x3 xf xl
  have hvl : w.heap.size < B1 := by omega
  replace BV := BV.alloc (.cells #[] 2)
  replace hS := hS.alloc (.cells #[] 2)
  replace hG := grown_alloc hG (.cells #[] 2)
  (try rw [hz0])
  (try rw [hB1])
  have hB0 : B1 ≤ ((w.alloc (.cells #[.int .i64 p, .int .i64 c, .int .i64 h, .int .i64 s] 25)).alloc (.cells #[] 2)).heap.size := by simp; omega
  generalize ((w.alloc (.cells #[.int .i64 p, .int .i64 c, .int .i64 h, .int .i64 s] 25)).alloc (.cells #[] 2)) = v0 at *
  go_loopg [5, 6, 7] N (fun m q5 q6 q7 wr => ∃ (W : World) (j : Nat) (xs : List Int) (lf : Int) (tt : Nat × Int), W = wr ∧ j ≤ N ∧ m = N - j ∧ q7 = .int .i64 j ∧ q6 = .int .i64 lf ∧ 0 ≤ lf ∧ lf ≤ 16 ∧ xs.length = j ∧ Own W B1 q5 xs ∧ Blk W w.heap.size #[.int .i64 p, .int .i64 c, .int .i64 h, .int .i64 s] 25 ∧ SrcD B W g a len cap bs tt ∧ dlS len bs c st j = (xs, lf, tt) ∧ w.grownBy W (some g) ∧ B1 ≤ W.heap.size)
  case atStart => exact ⟨_, 0, [], c, st, rfl, by omega, by omega, rfl, rfl, hc0, hc1, rfl, hO, BV, hS, rfl, hG, hB0⟩
  case round =>
    clear hO BV hS hG hB0
    obtain ⟨W, j, xs, lf, tt, hW, hj, hm, rfl, rfl, hl0, hl1, hxl, hO, BV, hS, hdl, hG, hB0⟩ := hrel
    subst hW
    have hNj := hNI j
    obtain ⟨x0, x1, x2, x3, xf, xl⟩ := BV.four
    by_cases hlt : j < N
    · have hlt' : (j : Int) < mh := hNj.mpr hlt
      have hj0 : (0 : Int) ≤ (j : Int) := by omega
      have hw1 : IntKind.i64.wrap (lf + 1) = lf + 1 := IntWalk.i64_in _ (by omega)
      have hmx : max 1 (lf + 1) = lf + 1 := by omega
      go_wp2_with fail
      clear x0 x1 x2 x3 xf xl
      have HN1 := nextD_any B g a len cap bs tt (lf + 1) _ hS (by omega)
      have hnb1 := nx_bnd len bs tt (lf + 1)
      obtain ⟨⟨r1, t1⟩, q1⟩ : ∃ q, nxV len bs tt (lf + 1) = q := ⟨_, rfl⟩
      rw [q1] at HN1 hnb1
      refine HN1.mono ?_
      clear HN1
      rintro e w1 ⟨rfl, hS, hg1⟩
      obtain ⟨l1, u1⟩ := hnb1
      dsimp only at l1 u1 hS
      replace BV := BV.grown hg1 (by omega)
      replace hO := hO.grownL hg1 (by omega)
      replace hG := grown_trans hG hg1
      have hz1 := hg1.size
      clear hg1
      go_wp2_with fail
      have HN2 := nextD_any B g a len cap bs t1 3 _ hS (by omega)
      have hnb2 := nx_bnd len bs t1 3
      obtain ⟨⟨r2, t2⟩, q2⟩ : ∃ q, nxV len bs t1 3 = q := ⟨_, rfl⟩
      rw [q2] at HN2 hnb2
      refine HN2.mono ?_
      clear HN2
      rintro e w2 ⟨rfl, hS, hg2⟩
      obtain ⟨l2, u2⟩ := hnb2
      dsimp only at l2 u2 hS
      replace BV := BV.grown hg2 (by omega)
      replace hO := hO.grownL hg2 (by omega)
      replace hG := grown_trans hG hg2
      have hz2 := hg2.size
      clear hg2
      have hB2 : B1 ≤ w2.heap.size := by omega
      clear hB0
      by_cases e2 : r2 = 0
      · subst e2
        go_wp2_with (at_builtin; refine wp_push rfl _ _ rfl B1 _ xs rfl hO 0 rfl (by omega) hB2 ?_; intro v2 w4 hO2 hb4)
        go_roundg (N - (j + 1))
        case measure => omega
        case rel => exact ⟨_, j + 1, xs ++ [0], lf, t2, rfl, by omega, rfl, by go_num, by go_num, by omega, by omega, by simp [hxl], hO2, BV.keepL hvl hb4, hS.keepL (by omega) hb4, by simp [dlS, hdl, hmx, q1, q2], grown_low hG hb4 (by omega), Nat.le_trans hB2 hb4.size⟩
      · have f2 : (r2 == 0) = false := by rw [beq_eq_false_iff_ne]; exact e2
        go_wp2_with (at_builtin; refine wp_push rfl _ _ rfl B1 _ xs rfl hO r1 rfl (by omega) hB2 ?_; intro v2 w4 hO2 hb4)
        go_roundg (N - (j + 1))
        case measure => omega
        case rel => exact ⟨_, j + 1, xs ++ [r1], lf - r1, t2, rfl, by omega, rfl, by go_num, by go_num, by omega, by omega, by simp [hxl], hO2, BV.keepL hvl hb4, hS.keepL (by omega) hb4, by simp [dlS, hdl, hmx, q1, q2, e2], grown_low hG hb4 (by omega), Nat.le_trans hB2 hb4.size⟩
    · obtain rfl : j = N := by omega
      subst hxl
      have hlt' : ¬ (xs.length : Int) < mh := fun q => hlt (hNj.mp q)
      go_wp2_with fail
      clear x0 x1 x2 x3 xf xl
      have HN1 := nextD_any B g a len cap bs tt 30 _ hS (by omega)
      have hnb1 := nx_bnd len bs tt 30
      obtain ⟨⟨r1, t1⟩, q1⟩ : ∃ q, nxV len bs tt 30 = q := ⟨_, rfl⟩
      rw [q1] at HN1 hnb1
      refine HN1.mono ?_
      clear HN1
      rintro e w1 ⟨rfl, hS, hg1⟩
      obtain ⟨l1, u1⟩ := hnb1
      dsimp only at l1 u1 hS
      replace BV := BV.grown hg1 (by omega)
      replace hO := hO.grownL hg1 (by omega)
      replace hG := grown_trans hG hg1
      have hz1 := hg1.size
      clear hg1
      have hB2 : B1 ≤ w1.heap.size := by omega
      clear hB0
      obtain ⟨x0, x1, x2, x3, xf, xl⟩ := BV.four
      obtain ⟨aX, kX, rfl⟩ := hO.form
      have hOs := hO.osl
      have hkX := hO.roomy
      by_cases e0 : r1 = 0
      · subst e0
        go_wp2_with (at_builtin; refine wp_push rfl _ _ rfl B1 _ xs rfl hO 0 rfl (by omega) hB2 ?_; intro v2 w4 hO2 hb4)
        obtain ⟨aY, kY, rfl⟩ := hO2.form
        have hOs2 := hO2.osl
        have hkY := hO2.roomy
        go_ret
        exact d10_mk _ _ (by simp [dlE, hdl, q1]) rfl (hOs2.mono (by omega) (Nat.le_refl _)) (hS.keepL (by omega) hb4) (grown_low hG hb4 (by omega)) hkY
      · have f0 : (r1 == 0) = false := by rw [beq_eq_false_iff_ne]; exact e0
        by_cases hx0 : 0 < xs.length
        · have hx0' : (0 : Int) < (xs.length : Int) := by omega
          rcases hOs with ⟨-, qn⟩ | ⟨g1, rfl, qa, qb, R⟩
          · rw [qn] at hx0
            simp at hx0
          have hxI : (xs.length : Int) ≤ 24 := by omega
          by_cases e1 : r1 = 1
          · subst e1
            have hold := R.cell 0 hx0
            have hfr := R.free
            go_wp2_with fail
            go_ret
            exact d10_mk (xs := xs.set 0 (-1)) _ kX (by simp [dlE, hdl, q1]) (by simp) (.inr ⟨g1, rfl, by omega, by simpa using qb, R.set 0 (-1)⟩) (hS.set (by omega) (by omega)) (grown_new hG (by omega)) (by simpa using hkX)
          · have f1 : (r1 == 1) = false := by rw [beq_eq_false_iff_ne]; exact e1
            by_cases e2 : r1 = 2
            · subst e2
              have hold := R.cell (xs.length - 1) (by omega)
              have hfr := R.free
              have hw1 : IntKind.i64.wrap (c + 1) = c + 1 := IntWalk.i64_in _ (by omega)
              go_wp2_with fail
              go_ret
              exact d10_mk (xs := xs.set (xs.length - 1) (c + 1)) _ kX (by simp [dlE, hdl, q1]) (by simp) (.inr ⟨g1, rfl, by omega, by simpa using qb, R.set (xs.length - 1) (c + 1)⟩) (hS.set (by omega) (by omega)) (grown_new hG (by omega)) (by simpa using hkX)
            · have f2 : (r1 == 2) = false := by rw [beq_eq_false_iff_ne]; exact e2
              go_wp2_with fail
              go_ret
              exact d10_mk _ _ (by simp [dlE, hdl, q1, e0, e1, e2]) rfl (.inr ⟨g1, rfl, by omega, qb, R⟩) hS hG hkX
        · omega
theorem ds_bnd (len : Nat) (bs : Nat → Int) (st : Nat × Int) : 0 ≤ (dvV len bs st).1.2.2.2 ∧ (dvV len bs st).1.2.2.2 ≤ 16 := by
  unfold dvV
  have h3 := nx_bnd len bs (nxV len bs (nxV len bs st 3).2 3).2 3
  have h5 := nx_bnd len bs (nxV len bs (nxV len bs (nxV len bs (nxV len bs st 3).2 3).2 3).2 24).2 2
  dsimp only
  split
  · dsimp only
    omega
  · split
    · dsimp only
      omega
    · split
      · dsimp only
        omega
      · dsimp only
        omega
def drV (len : Nat) (bs : Nat → Int) (s : Int) (st : Nat × Int) : (Int × Int) × (Nat × Int) :=
  let a1 := nxV len bs st (max 1 s)
  let a2 := nxV len bs a1.2 (1 + a1.1)
  let a3 := nxV len bs a2.2 24
  if a3.1 = 0 then ((1 + a2.1 - 1, 1 + a1.1), a3.2) else ((1 + a1.1, 1 + a2.1), a3.2)
def R10D (B g : Nat) (a : Option Addr) (len cap : Nat) (bs : Nat → Int) (q : (Int × Int) × (Nat × Int)) (w : World) (e : Ending) (w' : World) : Prop :=
  e = .returned (.agg #[.int .i64 q.1.1, .int .i64 q.1.2]) ∧ SrcD B w' g a len cap bs q.2 ∧ w.grownBy w' (some g)
theorem r10_mk {B g : Nat} {a : Option Addr} {len cap : Nat} {bs : Nat → Int} {q : (Int × Int) × (Nat × Int)} {w : World} {e : Ending} {w' : World} {x y : Int} {t : Nat × Int}
    (hq : q = ((x, y), t)) (he : e = .returned (.agg #[.int .i64 x, .int .i64 y])) (hs : SrcD B w' g a len cap bs t) (hg : w.grownBy w' (some g)) : R10D B g a len cap bs q w e w' := by
  subst hq
  exact ⟨he, hs, hg⟩
theorem Blk.put2 {w : World} {B : Nat} {a b : Value} {t : TypeId} (h : Blk w B #[a, b] t) (x y : Value) : Blk ((w.setCell ⟨B, 0, none⟩ x).setCell ⟨B, 1, none⟩ y) B #[x, y] t := by
  have q := (h.set (i := 0) x).set (i := 1) y
  simpa using q
set_option maxRecDepth 8000 in
set_option maxHeartbeats 2000000 in
theorem drawRollD_any (B g : Nat) (a : Option Addr) (len cap : Nat) (p c h s : Int) (hs0 : 0 ≤ s) (hs1 : s ≤ 16) (w : World) (bs : Nat → Int) (st : Nat × Int) (hS : SrcD B w g a len cap bs st) :
    Calls Tryz.prog 43 #[.pointer (some ⟨g, 0, none⟩), .agg #[.int .i64 p, .int .i64 c, .int .i64 h, .int .i64 s]] w (R10D B g a len cap bs (drV len bs s st) w) := by
  have hgl := hS.lt
  have hgB := hS.base
  obtain ⟨BV, BR, hb, hz⟩ := two_new w #[.int .i64 p, .int .i64 c, .int .i64 h, .int .i64 s] #[.int .i64 0, .int .i64 0] 25 39
  replace hS := (hS.alloc (.cells #[.int .i64 p, .int .i64 c, .int .i64 h, .int .i64 s] 25)).alloc (.cells #[.int .i64 0, .int .i64 0] 39)
  have hG : w.grownBy ((w.alloc (.cells #[.int .i64 p, .int .i64 c, .int .i64 h, .int .i64 s] 25)).alloc (.cells #[.int .i64 0, .int .i64 0] 39)) (some g) := grown_trans (World.grownBy_alloc w _ _) (World.grownBy_alloc _ _ _)
  clear hb
  obtain ⟨mx, hmx⟩ : ∃ mx, max 1 s = mx := ⟨_, rfl⟩
  have m0 : 1 ≤ mx := by omega
  have m1 : mx ≤ 16 := by omega
  obtain ⟨x0, x1, x2, x3, xf, xl⟩ := BV.four
  go_enter Tryz.func43, Tryz.ntmps43
  go_wp2_with fail
  have HMX := Lib.hid hmx
  clear x0 x1 x2 x3 xf xl hmx
  have hz0 : ((w.alloc (.cells #[.int .i64 p, .int .i64 c, .int .i64 h, .int .i64 s] 25)).alloc (.cells #[.int .i64 0, .int .i64 0] 39)).heap.size = w.heap.size + 1 + 1 := by rw [hz]
  clear hz
  generalize ((w.alloc (.cells #[.int .i64 p, .int .i64 c, .int .i64 h, .int .i64 s] 25)).alloc (.cells #[.int .i64 0, .int .i64 0] 39)) = v0 at *
  have HN1 := nextD_any B g a len cap bs st mx _ hS (by omega)
  have hnb1 := nx_bnd len bs st mx
  obtain ⟨⟨r1, t1⟩, q1⟩ : ∃ q, nxV len bs st mx = q := ⟨_, rfl⟩
  rw [q1] at HN1 hnb1
  refine HN1.mono ?_
  clear HN1
  rintro e w1 ⟨rfl, hS, hg1⟩
  obtain ⟨l1, u1⟩ := hnb1
  dsimp only at l1 u1 hS
  have hz1 := hg1.size
  have hsl1 := hS.lt
  replace BV := BV.grown hg1 (by omega)
  replace BR := BR.grown hg1 (by omega)
  replace hG := grown_trans hG hg1
  clear hg1
  have wA : IntKind.i64.wrap (1 + r1) = 1 + r1 := IntWalk.i64_in _ (by omega)
  go_wp2_with fail
  have HN2 := nextD_any B g a len cap bs t1 (1 + r1) _ hS (by omega)
  have hnb2 := nx_bnd len bs t1 (1 + r1)
  obtain ⟨⟨r2, t2⟩, q2⟩ : ∃ q, nxV len bs t1 (1 + r1) = q := ⟨_, rfl⟩
  rw [q2] at HN2 hnb2
  refine HN2.mono ?_
  clear HN2
  rintro e w2 ⟨rfl, hS, hg2⟩
  obtain ⟨l2, u2⟩ := hnb2
  dsimp only at l2 u2 hS
  have hz2 := hg2.size
  have hsl2 := hS.lt
  replace BV := BV.grown hg2 (by omega)
  replace BR := BR.grown hg2 (by omega)
  replace hG := grown_trans hG hg2
  clear hg2
  have wB : IntKind.i64.wrap (1 + r2) = 1 + r2 := IntWalk.i64_in _ (by omega)
  have wC : IntKind.i64.wrap (1 + r2 - 1) = 1 + r2 - 1 := IntWalk.i64_in _ (by omega)
  go_wp2_with fail
  have HN3 := nextD_any B g a len cap bs t2 24 _ hS (by omega)
  have hnb3 := nx_bnd len bs t2 24
  obtain ⟨⟨r3, t3⟩, q3⟩ : ∃ q, nxV len bs t2 24 = q := ⟨_, rfl⟩
  rw [q3] at HN3 hnb3
  refine HN3.mono ?_
  clear HN3
  rintro e w3 ⟨rfl, hS, hg3⟩
  obtain ⟨l3, u3⟩ := hnb3
  dsimp only at l3 u3 hS
  have hz3 := hg3.size
  have hsl3 := hS.lt
  replace BV := BV.grown hg3 (by omega)
  replace BR := BR.grown hg3 (by omega)
  replace hG := grown_trans hG hg3
  clear hg3
  obtain ⟨y0, y1, yf, yl⟩ := BR.two
  by_cases e0 : r3 = 0
  · have f0 : (r3 == 0) = true := by rw [beq_iff_eq]; exact e0
    have HQ := Lib.hid (show drV len bs s st = ((1 + r2 - 1, 1 + r1), t3) by simp [drV, HMX.out, q1, q2, q3, e0])
    clear e0 q1 q2 q3
    go_wp2_with fail
    have BRn := BR.put2 (.int .i64 (1 + r2 - 1)) (.int .i64 (1 + r1))
    obtain ⟨z0, z1, zf, zl⟩ := BRn.two
    refine bodyPost_ret (v := .agg #[.int .i64 (1 + r2 - 1), .int .i64 (1 + r1)]) (by simp [results, Tryz.results43, go_sem, z0, z1]) rfl ?_
    exact r10_mk HQ.out rfl ((hS.set (by omega) (by omega)).set (by omega) (by omega)) (grown_new (grown_new hG (by omega)) (by omega))
  · have f0 : (r3 == 0) = false := by rw [beq_eq_false_iff_ne]; exact e0
    have HQ := Lib.hid (show drV len bs s st = ((1 + r1, 1 + r2), t3) by simp [drV, HMX.out, q1, q2, q3, e0])
    clear e0 q1 q2 q3
    go_wp2_with fail
    have BRn := BR.put2 (.int .i64 (1 + r1)) (.int .i64 (1 + r2))
    obtain ⟨z0, z1, zf, zl⟩ := BRn.two
    refine bodyPost_ret (v := .agg #[.int .i64 (1 + r1), .int .i64 (1 + r2)]) (by simp [results, Tryz.results43, go_sem, z0, z1]) rfl ?_
    exact r10_mk HQ.out rfl ((hS.set (by omega) (by omega)).set (by omega) (by omega)) (grown_new (grown_new hG (by omega)) (by omega))
def ORowD (base : Nat) (w : World) (a : Option Addr) (xs : List Int) : Prop := OSl base w.heap.size w a xs
theorem ORowD.setC {base g o : Nat} {w : World} {v : Value} {a : Option Addr} {xs : List Int} (h : ORowD base w a xs) (hg : g < base) : ORowD base (w.setCell ⟨g, o, none⟩ v) a xs := by
  rcases h with h | ⟨b, rfl, h1, h2, r⟩
  · exact .inl h
  · have r2 := r.other (g := g) (o := o) (v := v) (show b ≠ g by omega)
    exact .inr ⟨b, rfl, h1, r2.lt, r2⟩
theorem ORowD.grown {base g : Nat} {w w' : World} {a : Option Addr} {xs : List Int} (h : ORowD base w a xs) (hg : w.grownBy w' (some g)) (hh : g < base) : ORowD base w' a xs := by
  rcases h with h | ⟨b, rfl, h1, h2, r⟩
  · exact .inl h
  · have r2 := r.grown hg (show b ≠ g by omega)
    exact .inr ⟨b, rfl, h1, r2.lt, r2⟩
theorem ORowD.drew {base : Nat} {w : World} {a : Option Addr} {xs : List Int} (h : ORowD base w a xs) : ORowD base w.drew a xs := h
end Go.Proofs.YtnlclmlnpkncoaaGreat
