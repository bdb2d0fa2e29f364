/- Boards in memory, and the law's own helpers on them: sizes, a copy, comparing, marking. -/
import Derived.Test.YtdciiocmddlhfaaI64
import Derived.Outline
namespace Go.Proofs.Ytdciiocmddlhfaa
open Go.ChangeShapes Go.WideShapes Go.ChangeAt Go.RowKit
set_option linter.unusedVariables false
set_option linter.unusedSimpArgs false

theorem irow_set {w : World} {a : Option Addr} {xs : List Int} {g o : Nat} {v : Value} (h : IRow w a xs) (hne : ∀ b o, a = some ⟨b, o, none⟩ → 0 < xs.length → b ≠ g) : IRow (w.setCell ⟨g, o, none⟩ v) a xs := fun i hi => by
  obtain ⟨b, o', e, hc⟩ := h i hi
  refine ⟨b, o', e, ?_⟩
  rw [World.cell?_of_block (w := w) (Below.heap_setCell w ⟨g, o, none⟩ v b (hne b o' e (by omega)))]
  exact hc
theorem irow_lt {w : World} {a : Option Addr} {xs : List Int} (h : IRow w a xs) : ∀ b o, a = some ⟨b, o, none⟩ → 0 < xs.length → b < w.heap.size := fun b o e hl => by
  obtain ⟨b', o', e', hc⟩ := h 0 hl
  rw [e] at e'
  cases e'
  exact World.block_lt_of_cell? w _ hc
theorem two_new (w : World) (v1 v2 : Array Value) (t1 t2 : TypeId) : Blk ((w.alloc (.cells v1 t1)).alloc (.cells v2 t2)) w.heap.size v1 t1 ∧ Blk ((w.alloc (.cells v1 t1)).alloc (.cells v2 t2)) (w.heap.size + 1) v2 t2 ∧
    Below w.heap.size w ((w.alloc (.cells v1 t1)).alloc (.cells v2 t2)) ∧ ((w.alloc (.cells v1 t1)).alloc (.cells v2 t2)).heap.size = w.heap.size + 1 + 1 := by
  refine ⟨(Blk.new w _ _).alloc _, ?_, ((Below.refl _ _).alloc (Nat.le_refl _) _).alloc (by simp) _, by simp⟩
  have := Blk.new (w.alloc (.cells v1 t1)) v2 t2
  simpa using this
theorem three_new (w : World) (v1 v2 v3 : Array Value) (t1 t2 t3 : TypeId) : Blk (((w.alloc (.cells v1 t1)).alloc (.cells v2 t2)).alloc (.cells v3 t3)) w.heap.size v1 t1 ∧ Blk (((w.alloc (.cells v1 t1)).alloc (.cells v2 t2)).alloc (.cells v3 t3)) (w.heap.size + 1) v2 t2 ∧
    Blk (((w.alloc (.cells v1 t1)).alloc (.cells v2 t2)).alloc (.cells v3 t3)) (w.heap.size + 1 + 1) v3 t3 ∧ Below w.heap.size w (((w.alloc (.cells v1 t1)).alloc (.cells v2 t2)).alloc (.cells v3 t3)) ∧ (((w.alloc (.cells v1 t1)).alloc (.cells v2 t2)).alloc (.cells v3 t3)).heap.size = w.heap.size + 1 + 1 + 1 := by
  obtain ⟨h1, h2, h3, h4⟩ := two_new w v1 v2 t1 t2
  refine ⟨h1.alloc _, h2.alloc _, ?_, h3.alloc h3.size _, by simp⟩
  have := Blk.new ((w.alloc (.cells v1 t1)).alloc (.cells v2 t2)) v3 t3
  rw [h4] at this
  exact this
theorem IRow.wf {w : World} {a : Option Addr} {xs ys : List Int} (h : IRow w a xs) (e : xs = ys) : IRow w a ys := e ▸ h
/-- A board of the call's own has been made. -/
def BoardMade (xs ys : List Int) (w : World) (e : Ending) (w' : World) : Prop :=
  ∃ g1 g2, e = .returned (.agg #[.slice (some ⟨g1, 0, none⟩) xs.length xs.length, .slice (some ⟨g2, 0, none⟩) ys.length ys.length]) ∧ w.heap.size ≤ g1 ∧ g1 < g2 ∧ Row w' g1 xs ∧ Row w' g2 ys ∧ Below w.heap.size w w'
set_option maxHeartbeats 1000000 in
theorem eqBoard_same (a1 a2 b1 b2 : Option Addr) (n1 n2 c1 c2 d1 d2 : Nat) (xs ys : List Int) (w : World) (h1 : xs.length = n1) (h2 : ys.length = n2) (l1 : n1 ≤ 1048576) (l2 : n2 ≤ 1048576)
    (r1 : IRow w a1 xs) (r2 : IRow w a2 ys) (s1 : IRow w b1 xs) (s2 : IRow w b2 ys) :
    Calls Try.prog 8 #[.agg #[.slice a1 n1 c1, .slice a2 n2 c2], .agg #[.slice b1 n1 d1, .slice b2 n2 d2]] w fun e w' => e = .returned (.bool true) ∧ Below w.heap.size w w' := by
  obtain ⟨BA, BR, hb, hz⟩ := two_new w #[.slice a1 n1 c1, .slice a2 n2 c2] #[.slice b1 n1 d1, .slice b2 n2 d2] 26 26
  replace r1 := r1.below hb
  replace r2 := r2.below hb
  replace s1 := s1.below hb
  replace s2 := s2.below hb
  have HZ := Lib.hid hz
  clear hz
  go_enter Try.func8, Try.ntmps8
  go_wp2_with fail
  generalize ((w.alloc (.cells #[.slice a1 n1 c1, .slice a2 n2 c2] 26)).alloc (.cells #[.slice b1 n1 d1, .slice b2 n2 d2] 26)) = v0 at *
  refine (eqInt64S_same a1 b1 n1 c1 d1 xs v0 h1 l1 r1 s1).mono ?_
  rintro e w1 ⟨rfl, hb1⟩
  replace BA := BA.below hb1
  replace BR := BR.below hb1
  have hz1 := HZ.out
  obtain ⟨x0, x1, xf, xl⟩ := BA.two
  obtain ⟨y0, y1, yf, yl⟩ := BR.two
  clear hz1
  go_wp2_with fail
  refine (eqInt64S_same a2 b2 n2 c2 d2 ys w1 h2 l2 (r2.below hb1) (s2.below hb1)).mono ?_
  rintro e w2 ⟨rfl, hb2⟩
  go_wp2_with fail
  go_ret
  have hz1 := HZ.out
  exact ⟨rfl, (hb.trans (hb1.mono (by omega))).trans (hb2.mono (by have := hb1.size; omega))⟩
/-- A board of the call's own has been marked. -/
def Marked (g1 g2 n1 n2 : Nat) (k : Int) (w : World) (e : Ending) (w' : World) : Prop :=
  e = .returned (.int .i64 (k + n1 + n2)) ∧ Row w' g1 (marks k n1) ∧ Row w' g2 (marks (k + n1) n2) ∧ w.heap.size ≤ w'.heap.size ∧ (∀ i, i < w.heap.size → i ≠ g1 → i ≠ g2 → w'.heap[i]? = w.heap[i]?) ∧ w'.os = w.os ∧ w'.tape = w.tape ∧ w'.output = w.output
set_option maxHeartbeats 1000000 in
theorem markBoard_any (g1 g2 n1 n2 c1 c2 : Nat) (xs ys : List Int) (k : Int) (w : World) (h1 : xs.length = n1) (h2 : ys.length = n2) (l1 : n1 ≤ 1048576) (l2 : n2 ≤ 1048576) (k0 : 0 ≤ k) (k1 : k ≤ 100000000) (hne : g1 ≠ g2) (r1 : Row w g1 xs) (r2 : Row w g2 ys) :
    Calls Try.prog 11 #[.agg #[.slice (some ⟨g1, 0, none⟩) n1 c1, .slice (some ⟨g2, 0, none⟩) n2 c2], .int .i64 k] w (Marked g1 g2 n1 n2 k w) := by
  have B0 := Blk.new w #[.slice (some ⟨g1, 0, none⟩) n1 c1, .slice (some ⟨g2, 0, none⟩) n2 c2] 26
  have hb : Below w.heap.size w (w.alloc (.cells #[.slice (some ⟨g1, 0, none⟩) n1 c1, .slice (some ⟨g2, 0, none⟩) n2 c2] 26)) := (Below.refl _ _).alloc (Nat.le_refl _) _
  have hl1 := r1.lt
  have hl2 := r2.lt
  replace r1 := r1.below hb
  replace r2 := r2.below hb
  go_enter Try.func11, Try.ntmps11
  go_wp2_with fail
  generalize (w.alloc (.cells #[.slice (some ⟨g1, 0, none⟩) n1 c1, .slice (some ⟨g2, 0, none⟩) n2 c2] 26)) = v0 at *
  refine (markInt64S_any g1 n1 c1 xs k v0 h1 l1 k0 (by omega) r1).mono ?_
  rintro e w1 ⟨rfl, R1, hG1⟩
  replace B0 := B0.grown hG1 (by omega)
  replace r2 := r2.grown hG1 (fun e => hne e.symm)
  obtain ⟨x0, x1, xf, xl⟩ := B0.two
  go_wp2_with fail
  refine (markInt64S_any g2 n2 c2 ys (k + n1) w1 h2 l2 (by omega) (by omega) r2).mono ?_
  rintro e w2 ⟨rfl, R2, hG2⟩
  go_wp2_with fail
  go_ret
  exact ⟨rfl, R1.grown hG2 hne, R2, Nat.le_trans hb.size (Nat.le_trans hG1.size hG2.size), fun i hi n1 n2 => ((hG2.block i (Nat.lt_of_lt_of_le hi (Nat.le_trans hb.size hG1.size)) (fun e => n2 (by cases e; rfl))).trans (hG1.block i (Nat.lt_of_lt_of_le hi hb.size) (fun e => n1 (by cases e; rfl)))).trans (hb.block i hi),
    (hG2.os.trans hG1.os).trans hb.os, (hG2.tape.trans hG1.tape).trans hb.tape, (hG2.output.trans hG1.output).trans hb.output⟩
set_option maxHeartbeats 1000000 in
theorem heldBoard_any (a1 a2 : Option Addr) (n1 n2 c1 c2 : Nat) (k : Int) (w : World) (l1 : n1 ≤ 1048576) (l2 : n2 ≤ 1048576) (k0 : 0 ≤ k) (k1 : k ≤ 100000000) (r1 : IRow w a1 (marks k n1)) (r2 : IRow w a2 (marks (k + n1) n2)) :
    Calls Try.prog 12 #[.agg #[.slice a1 n1 c1, .slice a2 n2 c2], .int .i64 k] w fun e w' => e = .returned (.int .i64 (k + n1 + n2)) ∧ Below w.heap.size w w' := by
  have hb : Below w.heap.size w (w.alloc (.cells #[.slice a1 n1 c1, .slice a2 n2 c2] 26)) := (Below.refl _ _).alloc (Nat.le_refl _) _
  replace r1 := r1.below hb
  replace r2 := r2.below hb
  have q0 : 0 ≤ k + (n1 : Int) := by omega
  have q1 : 0 ≤ k + (n1 : Int) + (n2 : Int) := by omega
  have q2 : k + (n1 : Int) ≤ 1000000000 := by omega
  have hk1 := fun w r => heldInt64S_any a1 n1 c1 k w l1 k0 (by omega) r
  have hk2 := fun w r => heldInt64S_any a2 n2 c2 (k + n1) w l2 q0 (by omega) r
  have K1 := Lib.hid hk1
  have K2 := Lib.hid hk2
  clear hk1 hk2
  go_enter Try.func12, Try.ntmps12
  go_wp2_with fail
  refine (K1.out _ r1).mono ?_
  rintro e w1 ⟨rfl, rfl⟩
  go_wp2_with fail
  refine (K2.out _ r2).mono ?_
  rintro e w2 ⟨rfl, rfl⟩
  go_wp2_with fail
  go_ret
  exact ⟨rfl, hb⟩
end Go.Proofs.Ytdciiocmddlhfaa
