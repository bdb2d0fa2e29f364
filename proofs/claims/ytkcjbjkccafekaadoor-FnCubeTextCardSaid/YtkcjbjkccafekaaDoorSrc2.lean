/- The source of numbers that the model's draws take: how it is made from a code. -/
import Derived.Test.YtkcjbjkccafekaaDoorSrc
import Derived.Deep.LoopGhost
import Derived.RegionTactic
namespace Go.Proofs.YtkcjbjkccafekaaDoor
open Go.ChangeShapes Go.WideShapes Go.ChangeAt Go.RowKit
set_option linter.unusedVariables false
set_option linter.unusedSimpArgs false

/-- A source has been made from a code. -/
def FromPost (B : Nat) (a : Option Addr) (len cap : Nat) (w : World) (e : Ending) (w' : World) : Prop :=
  ∃ g, e = .returned (.pointer (some ⟨g, 0, none⟩)) ∧ w.heap.size ≤ g ∧ Src B w' g a len cap ∧ Below w.heap.size w w'
/-- The state of the loop over the code. -/
def fromAt (B : Nat) (a : Option Addr) (len cap : Nat) (w : World) (m : Nat) (i : Value) (wr : World) : Prop :=
  ∃ (k : Nat) (s : Int), k ≤ len ∧ m = len - k ∧ i = .int .i64 k ∧ Blk wr w.heap.size #[.slice a len cap, .int .i64 0, .int .i64 s] 61 ∧ 0 ≤ s ∧ s ≤ 2147483646 ∧ Below w.heap.size w wr

set_option maxHeartbeats 1000000 in
theorem from_any (B : Nat) (a : Option Addr) (len cap : Nat) (w : World) (hB : B ≤ w.heap.size) (hlen : len ≤ 1048576) (hcode : CodeIn B w a len) :
    Calls Tryd.prog 31 #[.slice a len cap] w (FromPost B a len cap w) := by
  go_enter Tryd.func31, Tryd.ntmps31
  go_wp2
  go_loopg [4] len (fun m i wr => fromAt B a len cap w m i wr)
  case atStart => exact ⟨0, 24157, by omega, by omega, rfl, Blk.new w _ _, by omega, by omega, (Below.refl _ _).alloc (Nat.le_refl _) _⟩
  case round =>
    obtain ⟨k, s, hk, hm, rfl, hS, s0, s1, hb⟩ := hrel
    obtain ⟨c0, c1, c2, cf, cl⟩ := hS.three
    have hc1 := hcode.below (hb.mono hB)
    obtain ⟨s', hs'⟩ : ∃ s' : Int, s' = s := ⟨_, rfl⟩
    by_cases hlt : k < len
    · have f1 : decide ((k : Int) < (len : Int)) = true := by simp; omega
      have hlt' : (k : Int) < (len : Int) := by omega
      have hkk : (0 : Int) ≤ (k : Int) := by omega
      by_cases h64 : k < 64
      · have f2 : decide ((k : Int) < 64) = true := by simp; omega
        obtain ⟨b, o, z, rfl, hbB, hz, z0, z1⟩ := hc1 k hlt
        clear hs' hc1
        go_wp2_with fail
        go_region
        go_wp2
        go_roundg (len - (k + 1))
        case measure => omega
        case rel => exact ⟨k + 1, (s * 43 + z) % 2147483647, by omega, rfl, by go_num, (by simpa using (hS.set (i := 2) (.int .i64 ((s * 43 + z) % 2147483647))).drew), by omega, by omega, (hb.setCell (Nat.le_refl _) _).drew⟩
      · have f2 : decide ((k : Int) < 64) = false := by simp; omega
        clear hs' hc1
        go_wp2
        go_ret
        exact ⟨w.heap.size, rfl, Nat.le_refl _, ⟨0, s, hS, by omega, s0, s1, hB, hlen, hcode.below (hb.mono hB)⟩, hb⟩
    · have f1 : decide ((k : Int) < (len : Int)) = false := by simp; omega
      clear hs' hc1
      go_wp2
      go_ret
      exact ⟨w.heap.size, rfl, Nat.le_refl _, ⟨0, s, hS, by omega, s0, s1, hB, hlen, hcode.below (hb.mono hB)⟩, hb⟩
end Go.Proofs.YtkcjbjkccafekaaDoor
