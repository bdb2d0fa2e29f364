/- Contracts of the program and of its model on single rolls, faces and seeds. -/
import Derived.Test.YtcmfknkdfkchmaaL01a
import Derived.Test.YtcmfknkdfkchmaaBoardLaws
import Derived.Test.YtcmfknkdfkchmaaM07
import Derived.Test.YtcmfknkdfkchmaaSrcLaws
import Derived.Laws.StructEq
import Derived.Lib.MinMax
import Derived.IntWalk
import Derived.Deep.QuietTactic
namespace Go.Proofs.Ytcmfknkdfkchmaa
open Go.ChangeShapes Go.WideShapes Go.ChangeAt Go.RowKit
set_option linter.unusedVariables false
set_option linter.unusedSimpArgs false

theorem Blk.one {w : World} {g : Nat} {v0 : Value} {t : TypeId} (h : Blk w g #[v0] t) : w.cell? ⟨g, 0, none⟩ = some v0 ∧ (∀ i, w.frozen? ⟨g, i, none⟩ = false) ∧ g < w.heap.size :=
  ⟨by simpa using h.cell 0, fun i => h.free i, h.lt⟩
theorem isDouble_any (ra rb : Int) (w : World) :
    Calls Try.prog 72 #[.agg #[.int .i64 ra, .int .i64 rb]] w fun e w' => e = .returned (.bool (decide (ra = rb))) ∧ Below w.heap.size w w' := by
  have hb : Below w.heap.size w (w.alloc (.cells #[.int .i64 ra, .int .i64 rb] 33)) := (Below.refl _ _).alloc (Nat.le_refl _) _
  obtain ⟨x0, x1, xf, xl⟩ := (Blk.new w #[.int .i64 ra, .int .i64 rb] 33).two
  by_cases e : ra = rb
  · subst e
    rw [decide_eq_true rfl]
    go_enter Try.func72, Try.ntmps72
    go_wp2
    go_ret
    exact ⟨rfl, hb⟩
  · have f0 : (ra == rb) = false := by rw [beq_eq_false_iff_ne]; exact e
    have f1 : (rb == ra) = false := by rw [beq_eq_false_iff_ne]; exact fun q => e q.symm
    rw [decide_eq_false e]
    go_enter Try.func72, Try.ntmps72
    go_wp2
    go_ret
    exact ⟨rfl, hb⟩
theorem implWeight_any (ra rb : Int) (w : World) :
    Calls Try.prog 52 #[.agg #[.int .i64 ra, .int .i64 rb]] w fun e w' => e = .returned (.int .i64 (if ra = rb then 1 else 2)) ∧ Below w.heap.size w w' := by
  have hb : Below w.heap.size w (w.alloc (.cells #[.int .i64 ra, .int .i64 rb] 33)) := (Below.refl _ _).alloc (Nat.le_refl _) _
  obtain ⟨x0, x1, xf, xl⟩ := (Blk.new w #[.int .i64 ra, .int .i64 rb] 33).two
  have hd := fun W => isDouble_any ra rb W
  by_cases e : ra = rb
  · rw [decide_eq_true e] at hd
    rw [if_pos e]
    have HD := Lib.hid hd
    clear hd e
    go_enter Try.func52, Try.ntmps52
    go_wp2_with (go_at_call 72; refine (HD.out _).mono ?_; rintro e w1 ⟨rfl, hb1⟩)
    go_ret
    exact ⟨rfl, chain hb hb1⟩
  · rw [decide_eq_false e] at hd
    rw [if_neg e]
    have HD := Lib.hid hd
    clear hd e
    go_enter Try.func52, Try.ntmps52
    go_wp2_with (go_at_call 72; refine (HD.out _).mono ?_; rintro e w1 ⟨rfl, hb1⟩)
    go_ret
    exact ⟨rfl, chain hb hb1⟩
theorem rollOfFaces_any (a b : Int) (w : World) :
    Calls Try.prog 71 #[.int .i64 a, .int .i64 b] w fun e w' => e = .returned (.agg #[.int .i64 (prR a b).1, .int .i64 (prR a b).2]) ∧ Below w.heap.size w w' := by
  have BR := Blk.new w #[.int .i64 (max a b), .int .i64 (min a b)] 33
  have hb : Below w.heap.size w (w.alloc (.cells #[.int .i64 (max a b), .int .i64 (min a b)] 33)) := (Below.refl _ _).alloc (Nat.le_refl _) _
  obtain ⟨x0, x1, xf, xl⟩ := BR.two
  rw [prR_A, prR_B]
  go_enter Try.func71, Try.ntmps71
  go_wp2
  refine bodyPost_ret (v := .agg #[.int .i64 (max a b), .int .i64 (min a b)]) (by simp [results, Try.results71, go_sem, x0, x1]) rfl ⟨rfl, hb⟩
theorem l07Pair_any (a b : Int) (w : World) :
    Calls Try.prog 74 #[.int .i64 a, .int .i64 b] w fun e w' => e = .returned (.agg #[.int .i64 (prR a b).1, .int .i64 (prR a b).2]) ∧ Below w.heap.size w w' := by
  have BR := Blk.new w #[.int .i64 (max a b), .int .i64 (min a b)] 33
  have hb : Below w.heap.size w (w.alloc (.cells #[.int .i64 (max a b), .int .i64 (min a b)] 33)) := (Below.refl _ _).alloc (Nat.le_refl _) _
  obtain ⟨x0, x1, xf, xl⟩ := BR.two
  rw [prR_A, prR_B]
  go_enter Try.func74, Try.ntmps74
  go_wp2
  refine bodyPost_ret (v := .agg #[.int .i64 (max a b), .int .i64 (min a b)]) (by simp [results, Try.results74, go_sem, x0, x1]) rfl ⟨rfl, hb⟩
theorem l07Next_any (x : Int) (w : World) (hx : 1 ≤ x ∧ x ≤ 2147483646) :
    Calls Try.prog 66 #[.int .i64 x] w fun e w' => e = .returned (.int .i64 (nxS x)) ∧ w = w' := by
  obtain ⟨h1, h2⟩ := hx
  unfold nxS
  go_enter Try.func66, Try.ntmps66
  go_wp2
  go_ret
  exact ⟨rfl, rfl⟩
/-- A number is a seed. -/
def sdB (x : Int) : Bool := decide (1 ≤ x) && decide (x ≤ 2147483646)
theorem sdB_iff (x : Int) : sdB x = true ↔ 1 ≤ x ∧ x ≤ 2147483646 := by unfold sdB; simp
theorem inB_sd (x : Int) : inB x 1 2147483646 = sdB x := by unfold inB sdB; rw [Bool.decide_and]
theorem l07Seed_any (x : Int) (w : World) :
    Calls Try.prog 65 #[.int .i64 x] w fun e w' => e = .returned (.bool (sdB x)) ∧ w = w' := by
  have hi := fun W => l01In_any x 1 2147483646 W
  rw [inB_sd] at hi
  have HI := Lib.hid hi
  clear hi
  go_enter Try.func65, Try.ntmps65
  go_wp2_with (go_at_call 50; refine (HI.out _).mono ?_; rintro e w1 ⟨rfl, rfl⟩)
  go_ret
  exact ⟨rfl, rfl⟩
theorem isSeed_any (x : Int) (w : World) :
    Calls Try.prog 59 #[.int .i64 x] w fun e w' => e = .returned (.bool (sdB x)) ∧ w = w' := by
  unfold sdB
  by_cases h1 : 1 ≤ x
  · rw [decide_eq_true h1, Bool.true_and]
    by_cases h2 : x ≤ 2147483646
    · rw [decide_eq_true h2]
      go_enter Try.func59, Try.ntmps59
      go_wp2
      go_ret
      exact ⟨rfl, rfl⟩
    · rw [decide_eq_false h2]
      go_enter Try.func59, Try.ntmps59
      go_wp2
      go_ret
      exact ⟨rfl, rfl⟩
  · rw [decide_eq_false h1, Bool.false_and]
    go_enter Try.func59, Try.ntmps59
    go_wp2
    go_ret
    exact ⟨rfl, rfl⟩
theorem gnext_any (g : Nat) (x : Int) (w : World) (hx : 1 ≤ x ∧ x ≤ 2147483646) (hB : Blk w g #[.int .i64 x] 68) :
    Calls Try.prog 60 #[.pointer (some ⟨g, 0, none⟩)] w fun e w' => e = .returned (.int .i64 (nxS x)) ∧ Blk w' g #[.int .i64 (nxS x)] 68 ∧ w.grownBy w' (some g) := by
  obtain ⟨h1, h2⟩ := hx
  obtain ⟨c0, cf, cl⟩ := hB.one
  have hB2 := hB.set (i := 0) (.int .i64 (nxS x))
  unfold nxS at *
  go_enter Try.func60, Try.ntmps60
  go_wp2
  go_ret
  exact ⟨rfl, by simpa using hB2, grown_set (grown_refl _ _)⟩
theorem face_any (p c h : Int) (S : Nat) (x : Int) (w : World) (hx : 1 ≤ x ∧ x ≤ 2147483646) (hS : 1 ≤ S ∧ S ≤ 6) :
    Calls Try.prog 73 #[.agg #[.int .i64 p, .int .i64 c, .int .i64 h, .int .i64 (S : Int)], .int .i64 x] w fun e w' => e = .returned (.int .i64 (1 + x % (S : Int))) ∧ Below w.heap.size w w' := by
  have BV := Blk.new w #[.int .i64 p, .int .i64 c, .int .i64 h, .int .i64 (S : Int)] 25
  have hb : Below w.heap.size w (w.alloc (.cells #[.int .i64 p, .int .i64 c, .int .i64 h, .int .i64 (S : Int)] 25)) := (Below.refl _ _).alloc (Nat.le_refl _) _
  obtain ⟨x0, x1, x2, x3, xf, xl⟩ := BV.four
  obtain ⟨h1, h2⟩ := hx
  have s1 : 1 ≤ (S : Int) := by omega
  have s2 : (S : Int) ≤ 6 := by omega
  have m1 := Int.emod_nonneg x (show (S : Int) ≠ 0 by omega)
  have m2 := Int.emod_lt_of_pos x (show 0 < (S : Int) by omega)
  have hm : x % (S : Int) ≤ 6 := by omega
  clear hS m2
  go_enter Try.func73, Try.ntmps73
  go_wp2
  go_ret
  exact ⟨rfl, hb⟩
end Go.Proofs.Ytcmfknkdfkchmaa
