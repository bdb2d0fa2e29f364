/- Contracts of the functions of chapter 1 that write a variant as a text, of the program and of its model. -/
import Derived.Test.YtcmfknkdfkchmaaDoorBase
import Derived.Deep.RegionWith
import Derived.Deep.QuietTactic
import Derived.Laws.BytesArg
import Derived.Outline
import Derived.IntWalk
namespace Go.Proofs.YtcmfknkdfkchmaaDoor
open Go.ChangeShapes Go.WideShapes Go.ChangeAt Go.RowKit
set_option linter.unusedVariables false
set_option linter.unusedSimpArgs false

/-- A number from 0 to 99 in decimal. -/
def num2 (n : Int) : List UInt8 := if n < 10 then [UInt8.ofNat (48 + n).toNat] else [UInt8.ofNat (48 + n / 10).toNat, UInt8.ofNat (48 + n % 10).toNat]
theorem num2_lt {n : Int} (h : n < 10) : num2 n = [UInt8.ofNat (48 + n).toNat] := by simp [num2, h]
theorem num2_ge {n : Int} (h : 10 ≤ n) : num2 n = [UInt8.ofNat (48 + n / 10).toNat, UInt8.ofNat (48 + n % 10).toNat] := by
  have : ¬ n < 10 := by omega
  simp [num2, this]

theorem conv1 (W : World) (g : Nat) (x : Int) (h : W.cell? ⟨g, 0, none⟩ = some (.int .u8 x)) :
    (convert 39 9 (.slice (some ⟨g, 0, none⟩) 1 1)).run Tryd.prog W = .ok (.string ⟨#[UInt8.ofNat x.toNat]⟩) W := by
  have := run_convert_bytes_arg (P := Tryd.prog) W 39 5 Tryd.underlying39 Tryd.underlying5 g 0 1 1 [x] rfl (fun i hi => by
    obtain rfl : i = 0 := by omega
    simpa using h) 9 Tryd.underlying9
  simpa [strOfNums] using this

set_option maxHeartbeats 400000 in
theorem l01Number_lt10 (n : Int) (w : World) (h0 : 0 ≤ n) (h1 : n < 10) :
    Calls Tryd.prog 9 #[.int .i64 n] w fun e w' => e = .returned (.string ⟨(num2 n).toArray⟩) ∧ Below w.heap.size w w' := by
  rw [num2_lt h1]
  have kc := conv1
  go_enter Tryd.func9, Tryd.ntmps9
  go_wp2
  go_ret
  exact ⟨rfl, (Below.refl _ _).alloc (Nat.le_refl _) _⟩
set_option maxHeartbeats 400000 in
theorem l01Number_lt100 (n : Int) (w : World) (h0 : 10 ≤ n) (h1 : n < 100) :
    Calls Tryd.prog 9 #[.int .i64 n] w fun e w' => e = .returned (.string ⟨(num2 n).toArray⟩) ∧ Below w.heap.size w w' := by
  rw [num2_ge h0]
  have kc := conv1
  have hcall := fun W => l01Number_lt10 (n / 10) W (by omega) (by omega)
  rw [num2_lt (by omega : n / 10 < 10)] at hcall
  have HC := Lib.hid hcall
  clear hcall
  have hn : decide (n < 10) = false := by simp; omega
  have e1 : IntKind.i64.wrap (n.tdiv 10) = n / 10 := IntWalk.i64_quo _ _ (by omega)
  have e4 : n.tmod 10 = n % 10 := IntWalk.rem_in _ _ (by omega)
  have e2 : IntKind.i64.wrap (48 + n % 10) = 48 + n % 10 := IntWalk.i64_in _ (by omega)
  have e3 : IntKind.u8.wrap (48 + n % 10) = 48 + n % 10 := IntWalk.u8_in _ (by omega)
  go_enter Tryd.func9, Tryd.ntmps9
  go_wp2
  go_region_with (go_at_call 9; (with_reducible refine (HC.out _).mono ?_); rintro e w1 ⟨rfl, hb1⟩; obtain ⟨hc1, hf1⟩ := bcell hb1)
  all_goals go_wp2
  all_goals go_ret
  all_goals refine ⟨rfl, ?_⟩
  all_goals first
    | exact ((Below.refl _ _).drew.trans hb1).alloc hb1.size _
    | exact (((Below.refl _ _).alloc (Nat.le_refl _) _).drew).trans (hb1.mono (by simp))
    | exact (((Below.refl _ _).drew).alloc (Nat.le_refl _) _).trans (hb1.mono (by simp))
end Go.Proofs.YtcmfknkdfkchmaaDoor
