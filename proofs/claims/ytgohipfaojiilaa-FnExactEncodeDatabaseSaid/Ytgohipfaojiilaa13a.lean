/- Contracts of chapter 13: the check sum of bytes, of the program and of its model. -/
import Derived.Test.YtgohipfaojiilaaByt
namespace Go.Proofs.Ytgohipfaojiilaa
open Go.ChangeShapes Go.WideShapes Go.ChangeAt Go.RowKit
set_option linter.unusedVariables false
set_option linter.unusedSimpArgs false

def Bys (xs : List Int) : Prop := ∀ i, i < xs.length → 0 ≤ xs.getD i 0 ∧ xs.getD i 0 ≤ 255
theorem bys_of_wf {xs : List Int} (h : ∀ y ∈ xs, (Lit.int .u8 y).wf = true) : Bys xs := fun i hi => by
  have := h xs[i] (List.getElem_mem hi)
  have e : xs.getD i 0 = xs[i] := by simp [hi]
  rw [e]
  simpa [Lit.wf, IntKind.min, IntKind.max, IntKind.signed, IntKind.bits] using this
/-- The check sum behind some bytes. -/
def ckS (xs : List Int) : Int := xs.foldl (fun s x => (31 * s + x + 1) % 65521) 1
theorem ckS_take (xs : List Int) (k : Nat) (h : k < xs.length) : ckS (xs.take (k + 1)) = (31 * ckS (xs.take k) + xs.getD k 0 + 1) % 65521 := by
  unfold ckS
  rw [List.take_add_one, List.foldl_append]
  simp [h]
theorem ckS_bnd (xs : List Int) : 0 ≤ ckS xs ∧ ckS xs < 65521 := by
  unfold ckS
  suffices H : ∀ s : Int, 0 ≤ s ∧ s < 65521 → 0 ≤ xs.foldl (fun s x => (31 * s + x + 1) % 65521) s ∧ xs.foldl (fun s x => (31 * s + x + 1) % 65521) s < 65521 from H 1 (by omega)
  induction xs with
  | nil => intro s h; exact h
  | cons x xs ih => intro s h; exact ih ((31 * s + x + 1) % 65521) (by omega)
set_option maxHeartbeats 1000000 in
/-- The check sum of the program. -/
theorem checkSum_any (a : Option Addr) (n cap : Nat) (xs : List Int) (w : World) (hn : xs.length = n) (hle : n ≤ 1048576) (hb8 : Bys xs) (hr : B8.IRow w a xs) :
    Calls Try.prog 65 #[.slice a n cap] w fun e w' => e = .returned (.int .i64 (ckS xs)) ∧ w = w' := by
  subst hn
  go_enter Try.func65, Try.ntmps65
  go_wp2
  go_loopg [3, 8] xs.length (fun m s i wr => w = wr ∧ ∃ k : Nat, k ≤ xs.length ∧ m = xs.length - k ∧ i = .int .i64 k ∧ s = .int .i64 (ckS (xs.take k)))
  case atStart => exact ⟨rfl, 0, by omega, by omega, rfl, by simp [ckS]⟩
  case round =>
    obtain ⟨rfl, k, hk, hm, rfl, rfl⟩ := hrel
    by_cases hlt : k < xs.length
    · have hlt' : (k : Int) < (xs.length : Int) := by omega
      obtain ⟨b, o, rfl, hc⟩ := hr k hlt
      have ht := ckS_take xs k hlt
      obtain ⟨q0, q1⟩ := ckS_bnd (xs.take k)
      obtain ⟨u0, u1⟩ := hb8 k hlt
      generalize ckS (xs.take k) = S at *
      obtain ⟨S2, hS2⟩ : ∃ S2, ckS (xs.take (k + 1)) = S2 := ⟨_, rfl⟩
      rw [hS2] at ht
      have HS2 := Lib.hid hS2
      clear hS2
      generalize xs.getD k 0 = x at *
      have t1 : (31 * S + x + 1).tmod 65521 = S2 := by rw [ht]; exact Int.tmod_eq_emod_of_nonneg (by omega)
      clear ht
      go_wp2
      go_roundg (xs.length - (k + 1))
      case measure => omega
      case rel => exact ⟨rfl, k + 1, by omega, rfl, by go_num, by rw [HS2.out]⟩
    · obtain rfl : k = xs.length := by omega
      rw [List.take_length]
      go_wp2
      go_ret
      exact ⟨rfl, rfl⟩
set_option maxHeartbeats 1000000 in
/-- The check sum of the model. -/
theorem specCheckSum_any (a : Option Addr) (n cap : Nat) (xs : List Int) (w : World) (hn : xs.length = n) (hle : n ≤ 1048576) (hb8 : Bys xs) (hr : B8.IRow w a xs) :
    Calls Try.prog 28 #[.slice a n cap] w fun e w' => e = .returned (.int .i64 (ckS xs)) ∧ w = w' := by
  subst hn
  go_enter Try.func28, Try.ntmps28
  go_wp2
  go_loopg [3, 4] xs.length (fun m s i wr => w = wr ∧ ∃ k : Nat, k ≤ xs.length ∧ m = xs.length - k ∧ i = .int .i64 k ∧ s = .int .i64 (ckS (xs.take k)))
  case atStart => exact ⟨rfl, 0, by omega, by omega, rfl, by simp [ckS]⟩
  case round =>
    obtain ⟨rfl, k, hk, hm, rfl, rfl⟩ := hrel
    by_cases hlt : k < xs.length
    · have hlt' : (k : Int) < (xs.length : Int) := by omega
      obtain ⟨b, o, rfl, hc⟩ := hr k hlt
      have ht := ckS_take xs k hlt
      obtain ⟨q0, q1⟩ := ckS_bnd (xs.take k)
      obtain ⟨u0, u1⟩ := hb8 k hlt
      generalize ckS (xs.take k) = S at *
      obtain ⟨S2, hS2⟩ : ∃ S2, ckS (xs.take (k + 1)) = S2 := ⟨_, rfl⟩
      rw [hS2] at ht
      have HS2 := Lib.hid hS2
      clear hS2
      generalize xs.getD k 0 = x at *
      have t1 : (31 * S + x + 1).tmod 65521 = S2 := by rw [ht]; exact Int.tmod_eq_emod_of_nonneg (by omega)
      clear ht
      go_wp2
      go_roundg (xs.length - (k + 1))
      case measure => omega
      case rel => exact ⟨rfl, k + 1, by omega, rfl, by go_num, by rw [HS2.out]⟩
    · obtain rfl : k = xs.length := by omega
      rw [List.take_length]
      go_wp2
      go_ret
      exact ⟨rfl, rfl⟩
end Go.Proofs.Ytgohipfaojiilaa
