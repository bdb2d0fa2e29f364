/- The source of numbers that the model's draws take: its state in memory, and the contract of the function that hands out the next number. -/
import Derived.Test.YtkcjbjkccafekaaDoorSrcLaws
import Derived.Deep.QuietTactic
import Derived.Deep.RegionHeld3
import Derived.Outline
import Derived.IntWalk
namespace Go.Proofs.YtkcjbjkccafekaaDoor
open Go.ChangeShapes Go.WideShapes Go.ChangeAt Go.RowKit
set_option linter.unusedVariables false
set_option linter.unusedSimpArgs false

/-- The bytes of a code that came in: below block B. -/
def CodeIn (B : Nat) (w : World) (a : Option Addr) (len : Nat) : Prop :=
  ∀ i, i < len → ∃ b o n, a = some ⟨b, o, none⟩ ∧ b < B ∧ w.cell? ⟨b, o + i, none⟩ = some (.int .u8 n) ∧ 0 ≤ n ∧ n ≤ 255
/-- The state of a source in block g. -/
def Src (B : Nat) (w : World) (g : Nat) (a : Option Addr) (len cap : Nat) : Prop :=
  ∃ (k : Nat) (s : Int), Blk w g #[.slice a len cap, .int .i64 k, .int .i64 s] 61 ∧ k ≤ len ∧ 0 ≤ s ∧ s ≤ 2147483646 ∧ B ≤ g ∧ len ≤ 1048576 ∧ CodeIn B w a len
theorem CodeIn.below {B : Nat} {w w' : World} {a : Option Addr} {len : Nat} (h : CodeIn B w a len) (hb : Below B w w') : CodeIn B w' a len := fun i hi => by
  obtain ⟨b, o, n, e, hl, hc, h1, h2⟩ := h i hi
  exact ⟨b, o, n, e, hl, by rw [hb.cell (p := ⟨b, o + i, none⟩) hl]; exact hc, h1, h2⟩
theorem Blk.three {w : World} {g : Nat} {v0 v1 v2 : Value} {t : TypeId} (h : Blk w g #[v0, v1, v2] t) :
    w.cell? ⟨g, 0, none⟩ = some v0 ∧ w.cell? ⟨g, 1, none⟩ = some v1 ∧ w.cell? ⟨g, 2, none⟩ = some v2 ∧ (∀ i, w.frozen? ⟨g, i, none⟩ = false) ∧ g < w.heap.size :=
  ⟨by simpa using h.cell 0, by simpa using h.cell 1, by simpa using h.cell 2, fun i => h.free i, h.lt⟩

/-- What the next number is: below n, and the source goes on. -/
def NextPost (B g : Nat) (a : Option Addr) (len cap : Nat) (n : Int) (w : World) (e : Ending) (w' : World) : Prop :=
  ∃ r : Int, e = .returned (.int .i64 r) ∧ 0 ≤ r ∧ (r < n ∨ r = 0) ∧ Src B w' g a len cap ∧ w.grownBy w' (some g)

theorem src_step {B g : Nat} {a : Option Addr} {len cap : Nat} {w W : World} {k : Nat} {s' : Int} (hB : Blk W g #[.slice a len cap, .int .i64 ((k + 1 : Nat) : Int), .int .i64 s'] 61) (hG : w.grownBy W (some g))
    (hk : k < len) (p0 : 0 ≤ s') (p1 : s' ≤ 2147483646) (hBg : B ≤ g) (cl : g < w.heap.size) (hlen : len ≤ 1048576) (hcode : CodeIn B w a len) : Src B W g a len cap :=
  ⟨k + 1, s', hB, by omega, p0, p1, hBg, hlen, hcode.below (below_of_grown hG (by omega) hBg)⟩
theorem blk_step {g : Nat} {a : Option Addr} {len cap : Nat} {w : World} {k : Nat} {s s' : Int} (hB : Blk w g #[.slice a len cap, .int .i64 k, .int .i64 s] 61) (m : Nat) :
    Blk (((w.setCell ⟨g, 2, none⟩ (.int .i64 s')).drewN m).setCell ⟨g, 1, none⟩ (.int .i64 ((k : Int) + 1))) g #[.slice a len cap, .int .i64 ((k + 1 : Nat) : Int), .int .i64 s'] 61 := by
  have := ((hB.set (i := 2) (.int .i64 s')).drewN m).set (i := 1) (.int .i64 ((k : Int) + 1))
  simpa using this

set_option maxHeartbeats 1000000 in
theorem next_any (B g : Nat) (a : Option Addr) (len cap : Nat) (n : Int) (w : World) (hS : Src B w g a len cap) (hn : n ≤ 1000000000000) :
    Calls Tryd.prog 35 #[.pointer (some ⟨g, 0, none⟩), .int .i64 n] w (NextPost B g a len cap n w) := by
  by_cases h1 : n ≤ 1
  · go_enter Tryd.func35, Tryd.ntmps35
    go_wp2
    go_ret
    exact ⟨0, rfl, by omega, .inr rfl, hS, grown_refl _ _⟩
  · obtain ⟨k, s, hB, hk, s0, s1, hBg, hlen, hcode⟩ := hS
    obtain ⟨c0, c1, c2, cf, cl⟩ := hB.three
    obtain ⟨s', hs'⟩ : ∃ s' : Int, (s * 48271 + 17) % 2147483647 = s' := ⟨_, rfl⟩
    have p0 : 0 ≤ s' := by omega
    have p1 : s' ≤ 2147483646 := by omega
    by_cases hat : k < len
    · obtain ⟨b, o, z, rfl, hbB, hz, z0, z1⟩ := hcode k hat
      have hat' : decide ((k : Int) < (len : Int)) = true := by simp; omega
      have hlt' : (k : Int) < (len : Int) := by omega
      have hkk : (0 : Int) ≤ (k : Int) := by omega
      have hne : b ≠ g := by omega
      have hne' : g ≠ b := by omega
      by_cases h256 : n ≤ 256
      · have f1 : decide (n ≤ 256) = true := by simp; omega
        by_cases hev : (k + 1) % 2 = 0
        · have f2 : (((k : Int) + 1) % 2 == 0) = true := by rw [beq_iff_eq]; omega
          go_enter Tryd.func35, Tryd.ntmps35
          go_wp2_with fail
          go_quiet (fail)
          go_wp2_with fail
          go_quiet (fail)
          go_wp2_with fail
          go_quiet (fail)
          go_wp2
          go_ret
          refine ⟨_, rfl, Int.emod_nonneg _ (by omega), .inl (Int.emod_lt_of_pos _ (by omega)), src_step ((blk_step hB _).drewN _) (grown_drewN (grown_set (grown_drewN (grown_set (grown_refl w _)) _)) _) hat p0 p1 hBg cl hlen hcode, grown_drewN (grown_set (grown_drewN (grown_set (grown_refl w _)) _)) _⟩
        · have f2 : (((k : Int) + 1) % 2 == 0) = false := by rw [beq_eq_false_iff_ne]; omega
          go_enter Tryd.func35, Tryd.ntmps35
          go_wp2_with fail
          go_quiet (fail)
          go_wp2_with fail
          go_quiet (fail)
          go_wp2
          go_ret
          refine ⟨_, rfl, Int.emod_nonneg _ (by omega), .inl (Int.emod_lt_of_pos _ (by omega)), src_step (blk_step hB _) (grown_set (grown_drewN (grown_set (grown_refl w _)) _)) hat p0 p1 hBg cl hlen hcode, grown_set (grown_drewN (grown_set (grown_refl w _)) _)⟩
      · have f1 : decide (n ≤ 256) = false := by simp; omega
        go_enter Tryd.func35, Tryd.ntmps35
        go_wp2_with fail
        go_quiet (fail)
        go_wp2_with fail
        go_quiet (fail)
        go_wp2
        go_ret
        refine ⟨_, rfl, Int.emod_nonneg _ (by omega), .inl (Int.emod_lt_of_pos _ (by omega)), src_step (blk_step hB _) (grown_set (grown_drewN (grown_set (grown_refl w _)) _)) hat p0 p1 hBg cl hlen hcode, grown_set (grown_drewN (grown_set (grown_refl w _)) _)⟩
    · have hat' : decide ((k : Int) < (len : Int)) = false := by simp; omega
      have hlt' : (len : Int) ≤ (k : Int) := by omega
      go_enter Tryd.func35, Tryd.ntmps35
      go_wp2_with fail
      go_quiet (fail)
      go_wp2
      go_ret
      have hG : w.grownBy ((w.setCell ⟨g, 2, none⟩ (.int .i64 s')).drewN nq) (some g) := grown_drewN (grown_set (grown_refl w _)) nq
      refine ⟨s' / 11 % n, rfl, Int.emod_nonneg _ (by omega), .inl (Int.emod_lt_of_pos _ (by omega)), ⟨k, s', ?_, by omega, p0, p1, hBg, hlen, hcode.below (below_of_grown hG (by omega) hBg)⟩, hG⟩
      simpa using (hB.set (i := 2) (.int .i64 s')).drewN nq
end Go.Proofs.YtkcjbjkccafekaaDoor
