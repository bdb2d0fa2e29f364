/- The model's draws of variants: each hands out some variant, and the source goes on. -/
import Derived.Test.YtjepbhainidpgaaSrc2
import Derived.Test.YtjepbhainidpgaaL01b
import Derived.Deep.RegionWith
namespace Go.Proofs.Ytjepbhainidpgaa
open Go.ChangeShapes Go.WideShapes Go.ChangeAt Go.RowKit
set_option linter.unusedVariables false
set_option linter.unusedSimpArgs false

/-- A variant has been drawn. -/
def VarPost (B g : Nat) (a : Option Addr) (len cap : Nat) (w : World) (e : Ending) (w' : World) : Prop :=
  ∃ p c h s : Int, e = .returned (.agg #[.int .i64 p, .int .i64 c, .int .i64 h, .int .i64 s]) ∧ (-1000 ≤ p ∧ p ≤ 1000) ∧ (-1000 ≤ c ∧ c ≤ 1000) ∧ (-1000 ≤ h ∧ h ≤ 1001) ∧ (-1000 ≤ s ∧ s ≤ 1000) ∧ Src B w' g a len cap ∧ w.grownBy w' (some g)
/-- A valid variant has been drawn. -/
def ValPost (B g : Nat) (a : Option Addr) (len cap : Nat) (w : World) (e : Ending) (w' : World) : Prop :=
  ∃ p c h s : Int, e = .returned (.agg #[.int .i64 p, .int .i64 c, .int .i64 h, .int .i64 s]) ∧ (2 ≤ p ∧ p ≤ 24) ∧ (1 ≤ c ∧ c ≤ 15) ∧ (1 ≤ h ∧ h ≤ p) ∧ (1 ≤ s ∧ s ≤ 6) ∧ Src B w' g a len cap ∧ w.grownBy w' (some g)
theorem Src.lt {B g : Nat} {a : Option Addr} {len cap : Nat} {w : World} (h : Src B w g a len cap) : g < w.heap.size := by
  obtain ⟨k, s, hB, _⟩ := h; exact hB.lt
theorem Src.base {B g : Nat} {a : Option Addr} {len cap : Nat} {w : World} (h : Src B w g a len cap) : B ≤ g := by
  obtain ⟨k, s, _, _, _, _, hB, _⟩ := h; exact hB
theorem Src.alloc {B g : Nat} {a : Option Addr} {len cap : Nat} {w : World} (h : Src B w g a len cap) (o : Obj) : Src B (w.alloc o) g a len cap := by
  have hl := h.lt
  obtain ⟨k, s, hB, h1, h2, h3, h4, h5, h6⟩ := h
  exact ⟨k, s, hB.alloc o, h1, h2, h3, h4, h5, h6.below ((Below.refl B w).alloc (by omega) o)⟩
theorem Src.drew {B g : Nat} {a : Option Addr} {len cap : Nat} {w : World} (h : Src B w g a len cap) : Src B w.drew g a len cap := by
  obtain ⟨k, s, hB, h1, h2, h3, h4, h5, h6⟩ := h
  exact ⟨k, s, hB.drew, h1, h2, h3, h4, h5, h6.below (Below.refl B w).drew⟩
theorem Src.below {B g : Nat} {a : Option Addr} {len cap : Nat} {w w' : World} (h : Src B w g a len cap) (hb : Below w.heap.size w w') : Src B w' g a len cap := by
  have hl := h.lt
  obtain ⟨k, s, hB, h1, h2, h3, h4, h5, h6⟩ := h
  exact ⟨k, s, hB.below hb, h1, h2, h3, h4, h5, h6.below (hb.mono (by omega))⟩
theorem grown_new {w w1 : World} {g g' o : Nat} {v : Value} (h : w.grownBy w1 (some g)) (hn : w.heap.size ≤ g') : w.grownBy (w1.setCell ⟨g', o, none⟩ v) (some g) := by
  have hb := Below.setCell (Below.refl g' w1) (p := ⟨g', o, none⟩) (Nat.le_refl _) v
  refine ⟨hb.os.trans h.os, hb.tape.trans h.tape, hb.output.trans h.output, Nat.le_trans h.size hb.size, fun i hi hr => ?_⟩
  rw [Below.heap_setCell w1 ⟨g', o, none⟩ v i (fun e => by simp only at e; omega)]
  exact h.block i hi hr
theorem Src.set {B g g' o : Nat} {a : Option Addr} {len cap : Nat} {w : World} {v : Value} (h : Src B w g a len cap) (hn : g' ≠ g) (hB : B ≤ g') : Src B (w.setCell ⟨g', o, none⟩ v) g a len cap := by
  obtain ⟨k, s, hBk, h1, h2, h3, h4, h5, h6⟩ := h
  refine ⟨k, s, ?_, h1, h2, h3, h4, h5, h6.below ((Below.refl B w).setCell hB v)⟩
  exact (Below.heap_setCell w ⟨g', o, none⟩ v g (fun e => hn e.symm)).trans hBk


set_option maxHeartbeats 1000000 in
theorem drawSmall_any (B g : Nat) (a : Option Addr) (len cap : Nat) (w : World) (hS : Src B w g a len cap) :
    Calls Try.prog 90 #[.pointer (some ⟨g, 0, none⟩)] w (ValPost B g a len cap w) := by
  have hl := hS.lt
  have hBg := hS.base
  go_enter Try.func90, Try.ntmps90
  go_wp2_with fail
  have B0 := Blk.new w #[.int .i64 0, .int .i64 0, .int .i64 0, .int .i64 0] 26
  have hG : w.grownBy (w.alloc (.cells #[.int .i64 0, .int .i64 0, .int .i64 0, .int .i64 0] 26)) (some g) := World.grownBy_alloc w _ _
  refine (next_any B g a len cap 5 _ (hS.alloc _) (by omega)).mono ?_
  rintro e w1 ⟨r1, rfl, q1, u1, hS, hg⟩
  replace B0 := (B0).grown hg (by omega)
  replace hG := grown_trans (hG) hg
  clear hg
  go_wp2_with fail
  refine (next_any B g a len cap 3 _ hS (by omega)).mono ?_
  rintro e w2 ⟨r2, rfl, q2, u2, hS, hg⟩
  replace B0 := (B0).grown hg (by omega)
  replace hG := grown_trans (hG) hg
  clear hg
  go_wp2_with fail
  refine (next_any B g a len cap 3 _ hS (by omega)).mono ?_
  rintro e w3 ⟨r3, rfl, q3, u3, hS, hg⟩
  replace B0 := (B0).grown hg (by omega)
  replace hG := grown_trans (hG) hg
  clear hg
  have hB3 := B0
  have Bv := Blk.new w3 #[.int .i64 (2 + r1), .int .i64 (1 + r2), .int .i64 0, .int .i64 (1 + r3)] 26
  have hz3 := hG.size
  have hl3 := hS.lt
  go_wp2_with fail
  refine (next_any B g a len cap (2 + r1) _ (hS.alloc _) (by omega)).mono ?_
  rintro e w4 ⟨r4, rfl, q4, u4, hS, hg⟩
  replace B0 := (B0.alloc _).grown hg (by omega)
  replace Bv := (Bv).grown hg (by omega)
  replace hG := grown_trans (grown_alloc hG _) hg
  clear hg
  have hz4 := B0.lt
  have hz5 : w.heap.size < w3.heap.size := by have := hB3.lt; omega
  have hne : w3.heap.size ≠ w.heap.size := by omega
  have hne' : w.heap.size ≠ w3.heap.size := by omega
  obtain ⟨y0, y1, y2, y3, yf, yl⟩ := B0.four
  obtain ⟨x0, x1, x2, x3, xf, xl⟩ := Bv.four
  go_wp2_with fail
  refine bodyPost_ret (v := .agg #[.int .i64 (2 + r1), .int .i64 (1 + r2), .int .i64 (1 + r4), .int .i64 (1 + r3)]) (by simp [results, Try.results90, go_sem, y0, y1, y2, y3]) rfl ?_
  exact ⟨_, _, _, _, rfl, by omega, by omega, by omega, by omega, ((((hS.set (by omega) (by omega)).set (by omega) (by omega)).set (by omega) (by omega)).set (by omega) (by omega)).set (by omega) (by omega), grown_new (grown_new (grown_new (grown_new (grown_new hG (by omega)) (Nat.le_refl _)) (Nat.le_refl _)) (Nat.le_refl _)) (Nat.le_refl _)⟩

set_option maxHeartbeats 1000000 in
theorem drawValid_any (B g : Nat) (a : Option Addr) (len cap : Nat) (w : World) (hS : Src B w g a len cap) :
    Calls Try.prog 74 #[.pointer (some ⟨g, 0, none⟩)] w (ValPost B g a len cap w) := by
  have hl := hS.lt
  have hBg := hS.base
  go_enter Try.func74, Try.ntmps74
  go_wp2_with fail
  have B0 := Blk.new w #[.int .i64 0, .int .i64 0, .int .i64 0, .int .i64 0] 26
  have hG : w.grownBy (w.alloc (.cells #[.int .i64 0, .int .i64 0, .int .i64 0, .int .i64 0] 26)) (some g) := World.grownBy_alloc w _ _
  refine (next_any B g a len cap 4 _ (hS.alloc _) (by omega)).mono ?_
  rintro e w1 ⟨r1, rfl, q1, u1, hS, hg⟩
  replace B0 := (B0).grown hg (by omega)
  replace hG := grown_trans (hG) hg
  clear hg
  rcases (by omega : r1 = 0 ∨ r1 = 1 ∨ 2 ≤ r1) with rfl | rfl | hr
  · go_wp2_with fail
    refine (specFull_any _).mono ?_
    rintro e w2 ⟨rfl, hb2⟩
    replace B0 := B0.below hb2
    replace hS := hS.below hb2
    replace hG := grown_trans hG (grown_of_below hb2 _)
    clear hb2
    obtain ⟨y0, y1, y2, y3, yf, yl⟩ := B0.four
    go_wp2_with fail
    refine bodyPost_ret (v := .agg #[.int .i64 (24), .int .i64 (15), .int .i64 (6), .int .i64 (6)]) (by simp [results, Try.results74, go_sem, y0, y1, y2, y3]) rfl ?_
    exact ⟨_, _, _, _, rfl, by omega, by omega, by omega, by omega, (((hS.set (by omega) (by omega)).set (by omega) (by omega)).set (by omega) (by omega)).set (by omega) (by omega), grown_new (grown_new (grown_new (grown_new hG (Nat.le_refl _)) (Nat.le_refl _)) (Nat.le_refl _)) (Nat.le_refl _)⟩
  · go_wp2_with fail
    refine (next_any B g a len cap 21 _ hS (by omega)).mono ?_
    rintro e w2 ⟨r2, rfl, q2, u2, hS, hg⟩
    replace B0 := (B0).grown hg (by omega)
    replace hG := grown_trans (hG) hg
    clear hg
    go_wp2_with fail
    refine (next_any B g a len cap 15 _ hS (by omega)).mono ?_
    rintro e w3 ⟨r3, rfl, q3, u3, hS, hg⟩
    replace B0 := (B0).grown hg (by omega)
    replace hG := grown_trans (hG) hg
    clear hg
    go_wp2_with fail
    refine (next_any B g a len cap 6 _ hS (by omega)).mono ?_
    rintro e w4 ⟨r4, rfl, q4, u4, hS, hg⟩
    replace B0 := (B0).grown hg (by omega)
    replace hG := grown_trans (hG) hg
    clear hg
    have hB3 := B0
    have Bv := Blk.new w4 #[.int .i64 (4 + r2), .int .i64 (1 + r3), .int .i64 0, .int .i64 (1 + r4)] 26
    have hz3 := hG.size
    have hl3 := hS.lt
    go_wp2_with fail
    refine (next_any B g a len cap ((4 + r2) / 2) _ (hS.alloc _) (by omega)).mono ?_
    rintro e w5 ⟨r5, rfl, q5, u5, hS, hg⟩
    replace B0 := (B0.alloc _).grown hg (by omega)
    replace Bv := (Bv).grown hg (by omega)
    replace hG := grown_trans (grown_alloc hG _) hg
    clear hg
    have hz4 := B0.lt
    have hz5 : w.heap.size < w4.heap.size := by have := hB3.lt; omega
    have hne : w4.heap.size ≠ w.heap.size := by omega
    have hne' : w.heap.size ≠ w4.heap.size := by omega
    obtain ⟨y0, y1, y2, y3, yf, yl⟩ := B0.four
    obtain ⟨x0, x1, x2, x3, xf, xl⟩ := Bv.four
    go_wp2_with fail
    refine bodyPost_ret (v := .agg #[.int .i64 (4 + r2), .int .i64 (1 + r3), .int .i64 (1 + r5), .int .i64 (1 + r4)]) (by simp [results, Try.results74, go_sem, y0, y1, y2, y3]) rfl ?_
    exact ⟨_, _, _, _, rfl, by omega, by omega, by omega, by omega, ((((hS.set (by omega) (by omega)).set (by omega) (by omega)).set (by omega) (by omega)).set (by omega) (by omega)).set (by omega) (by omega), grown_new (grown_new (grown_new (grown_new (grown_new hG (by omega)) (Nat.le_refl _)) (Nat.le_refl _)) (Nat.le_refl _)) (Nat.le_refl _)⟩
  · have f0 : (r1 == 0) = false := by rw [beq_eq_false_iff_ne]; omega
    have f1 : (r1 == 1) = false := by rw [beq_eq_false_iff_ne]; omega
    go_wp2_with fail
    refine (drawSmall_any B g a len cap _ hS).mono ?_
    rintro e w2 ⟨p, c, h, s, rfl, bp, bc, bh, bs, hS, hg⟩
    replace B0 := B0.grown hg (by omega)
    replace hG := grown_trans hG hg
    clear hg
    obtain ⟨y0, y1, y2, y3, yf, yl⟩ := B0.four
    go_wp2_with fail
    refine bodyPost_ret (v := .agg #[.int .i64 (p), .int .i64 (c), .int .i64 (h), .int .i64 (s)]) (by simp [results, Try.results74, go_sem, y0, y1, y2, y3]) rfl ?_
    exact ⟨_, _, _, _, rfl, by omega, by omega, by omega, by omega, (((hS.set (by omega) (by omega)).set (by omega) (by omega)).set (by omega) (by omega)).set (by omega) (by omega), grown_new (grown_new (grown_new (grown_new hG (Nat.le_refl _)) (Nat.le_refl _)) (Nat.le_refl _)) (Nat.le_refl _)⟩
end Go.Proofs.Ytjepbhainidpgaa
