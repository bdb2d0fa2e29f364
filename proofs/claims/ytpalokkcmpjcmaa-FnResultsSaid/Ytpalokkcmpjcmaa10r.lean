/- Contract of chapter 10: the position after a step. -/
import Derived.Test.YtpalokkcmpjcmaaPos
namespace Go.Proofs.Ytpalokkcmpjcmaa
open Go.ChangeShapes Go.WideShapes Go.ChangeAt Go.RowKit
set_option linter.unusedVariables false
set_option linter.unusedSimpArgs false
set_option maxRecDepth 4000

theorem hasCheckerF_any (x : Int) (w : World) : Calls Try.prog 71 #[.int .i64 x] w fun e w' => e = .returned (.bool (decide (0 < x))) ∧ w = w' := by
  by_cases q : 0 < x
  · rw [decide_eq_true q]
    go_enter Try.func71, Try.ntmps71
    go_wp2
    go_ret
    exact ⟨rfl, rfl⟩
  · rw [decide_eq_false q]
    go_enter Try.func71, Try.ntmps71
    go_wp2
    go_ret
    exact ⟨rfl, rfl⟩
set_option maxHeartbeats 1000000 in
theorem afterStep_any (a : Option Addr) (n cap i : Nat) (d : Int) (xs : List Int) (w : World) (hn : xs.length = n) (hle : n ≤ 24) (hi : i < n) (hd : 1 ≤ d ∧ d ≤ 6) (hx : ∀ x ∈ xs, 0 ≤ x ∧ x ≤ 15) (hr : IRow w a xs) :
    Calls Try.prog 72 #[.slice a n cap, .int .i64 (i : Int), .int .i64 d] w fun e w' => ∃ u : PQ, e = .returned (pqV u) ∧ u.2.2 = asL xs i d ∧ QAt w.heap.size w'.heap.size w' u ∧ Below w.heap.size w w' := by
  obtain ⟨b, o, rfl, _⟩ := hr 0 (by omega)
  have hC := fun W (r : IRow W (some ⟨b, o, none⟩) xs) => clone_any b o n cap xs W hn (by omega) (by omega) r
  have hx0 := hx _ (getD_mem (xs := xs) (k := i) (by omega))
  subst hn
  obtain ⟨v, hv⟩ : ∃ v, xs.getD i 0 = v := ⟨_, rfl⟩
  have hv0 : 0 ≤ v := by omega
  have hv1 : v ≤ 15 := by omega
  have n1 : (0 : Int) ≤ (i : Int) := by omega
  have n2 : (i : Int) < (xs.length : Int) := by omega
  have n3 : (xs.length : Int) ≤ 24 := by omega
  have n4 := hd.1
  have n5 := hd.2
  have HC := Lib.hid hC
  have HI := Lib.hid hi
  by_cases q : d ≤ (i : Int)
  · obtain ⟨j, hj⟩ : ∃ j, i - d.toNat = j := ⟨_, rfl⟩
    have ej : (i : Int) - d = (j : Int) := by omega
    have hji : j < i := by omega
    have hjl : j < (xs.set i (v - 1)).length := by rw [List.length_set]; omega
    have hx1 := hx _ (getD_mem (xs := xs) (k := j) (by omega))
    obtain ⟨u, hu⟩ : ∃ u, xs.getD j 0 = u := ⟨_, rfl⟩
    have hw : (xs.set i (v - 1)).getD j 0 = u := by rw [set_at _ _ _ _ hi, if_neg (by omega)]; exact hu
    have he : asL xs i d = (xs.set i (v - 1)).set j (u + 1) := by rw [asL, if_pos q, hj, hv, hu]
    have u0 : 0 ≤ u := by omega
    have u1 : u ≤ 15 := by omega
    have m1 : (0 : Int) ≤ (j : Int) := by omega
    have m2 : (j : Int) < (xs.length : Int) := by omega
    have wz : IntKind.i64.wrap ((i : Int) - d) = (j : Int) := by rw [IntWalk.i64_in _ (by omega)]; exact ej
    have HV := Lib.hid hv
    have HJ := Lib.hid hjl
    have HW := Lib.hid hw
    have HE := Lib.hid he
    clear hC hx hx0 hx1 hv hi hjl hw he hu hj hji
    go_enter Try.func72, Try.ntmps72
    go_wp2_with (go_at_call 73; refine (HC.out _ hr).mono ?_; rintro e w1 ⟨g1, k1, rfl, hg1, R1, hb1⟩; have hc1 := R1.cell i HI.out; have hf1 := R1.free i; rw [HV.out] at hc1; have R2 := R1.set i (v - 1); have hc2 := R2.cell j HJ.out; have hf2 := R2.free j; rw [HW.out] at hc2; have R3 := R2.set j (u + 1); have HR := Lib.hid R3; clear R1 R2 R3)
    go_ret
    have hsz := hb1.size
    have hgl := HR.out.lt
    exact ⟨(g1, k1, asL xs i d), by show Ending.returned (Value.slice (some ⟨g1, 0, none⟩) xs.length k1) = Ending.returned (Value.slice (some ⟨g1, 0, none⟩) (asL xs i d).length k1); rw [asL_len], rfl, ⟨hg1, hgl, by dsimp only; rw [HE.out]; exact HR.out⟩, (hb1.setCell (p := ⟨g1, i, none⟩) (by show _ ≤ g1; omega) _).setCell (p := ⟨g1, j, none⟩) (by show _ ≤ g1; omega) _⟩
  · have he : asL xs i d = xs.set i (v - 1) := by rw [asL, if_neg q, hv]
    have HV := Lib.hid hv
    have HE := Lib.hid he
    clear hC hx hx0 hv hi he
    go_enter Try.func72, Try.ntmps72
    go_wp2_with (go_at_call 73; refine (HC.out _ hr).mono ?_; rintro e w1 ⟨g1, k1, rfl, hg1, R1, hb1⟩; have hc1 := R1.cell i HI.out; have hf1 := R1.free i; rw [HV.out] at hc1; have R2 := R1.set i (v - 1); have HR := Lib.hid R2; clear R1 R2)
    go_ret
    have hsz := hb1.size
    have hgl := HR.out.lt
    exact ⟨(g1, k1, asL xs i d), by show Ending.returned (Value.slice (some ⟨g1, 0, none⟩) xs.length k1) = Ending.returned (Value.slice (some ⟨g1, 0, none⟩) (asL xs i d).length k1); rw [asL_len], rfl, ⟨hg1, hgl, by dsimp only; rw [HE.out]; exact HR.out⟩, hb1.setCell (p := ⟨g1, i, none⟩) (by show _ ≤ g1; omega) _⟩
end Go.Proofs.Ytpalokkcmpjcmaa
