/- Texts of a proof, laid together. -/
import Derived.Test.YtlnljfbdicgkcaaGreatV01
import Derived.Deep.RegionHeld3
import Derived.Shelf.Abstract
import Derived.Laws.EntriesVeiled
import Derived.IntWalk
import Derived.BigGuard
import Derived.BigGuardPart
namespace Go.Proofs.YtlnljfbdicgkcaaGreat
open Go.ChangeShapes Go.WideShapes Go.ChangeAt Go.RowKit
set_option linter.unusedVariables false
set_option linter.unusedSimpArgs false
def Pays (fn B : Nat) (xs : List Int) (w : World) : Prop :=
  (∀ (args : Array Value) (w' : World), (callFunc fn args).run Tryz.prog w' = .ok (.enter fn args) w') ∧
  ∀ w' : World, Below w.heap.size w w' → ∀ i : Nat, i < xs.length → Calls Tryz.prog fn #[.int .i64 i, .pointer (some ⟨B, 0, none⟩)] w' fun e w'' => e = .returned (.int .i64 (xs.getD i 0)) ∧ Below w'.heap.size w' w''
theorem Pays.below {fn B : Nat} {xs : List Int} {w w1 : World} (h : Pays fn B xs w) (hb : Below w.heap.size w w1) : Pays fn B xs w1 :=
  ⟨h.1, fun w' hw => h.2 w' (chain hb hw)⟩
theorem Pays.drew {fn B : Nat} {xs : List Int} {w : World} (h : Pays fn B xs w) : Pays fn B xs w.drew := h.below (Below.refl _ _).drew
abbrev fv (fn B : Nat) : Value := .func (.func fn) #[] #[.pointer (some ⟨B, 0, none⟩)]
theorem sum_nonneg : ∀ (xs : List Int), (∀ x ∈ xs, 0 ≤ x) → 0 ≤ xs.sum
  | [], _ => by simp
  | x :: xs, h => by
    have h1 := h x (by simp)
    have h2 := sum_nonneg xs (fun y hy => h y (by simp [hy]))
    simp only [List.sum_cons]
    omega
theorem sum_take_le (xs : List Int) (k : Nat) (h : ∀ x ∈ xs, 0 ≤ x) : (xs.take k).sum ≤ xs.sum := by
  have h1 : xs.sum = (xs.take k).sum + (xs.drop k).sum := by rw [← List.sum_append, List.take_append_drop]
  have h2 := sum_nonneg (xs.drop k) (fun x hx => h x (List.mem_of_mem_drop hx))
  omega
def chkB (c : Int) (xs : List Int) : Bool := xs.all (fun x => inB x 0 c) && decide (xs.sum ≤ c)
theorem sideB_chk (p c : Int) (xs : List Int) : sideB p c xs = (decide ((xs.length : Int) = p + 1) && chkB c xs) := by simp [sideB, chkB, Bool.and_assoc]
set_option maxHeartbeats 2000000 in
theorem hasCheckers_any (p c h s : Int) (a : Option Addr) (n cap : Nat) (xs : List Int) (w : World) (g : vB p c h s = true) (hn : xs.length = n) (hle : n ≤ 9223372036854775807) (hr : IRow w a xs) :
    Calls Tryz.prog 167 #[.agg #[.int .i64 p, .int .i64 c, .int .i64 h, .int .i64 s], .slice a n cap] w fun e w' => e = .returned (.bool (chkB c xs)) ∧ Below w.heap.size w w' := by
  have hv := vB_iff.1 g
  have cc0 : 1 ≤ c := hv.2.2.1
  have cc1 : c ≤ 15 := hv.2.2.2.1
  clear hv g
  have B0 := Blk.new w #[.int .i64 p, .int .i64 c, .int .i64 h, .int .i64 s] 25
  have hb : Below w.heap.size w (w.alloc (.cells #[.int .i64 p, .int .i64 c, .int .i64 h, .int .i64 s] 25)) := (Below.refl _ _).alloc (Nat.le_refl _) _
  obtain ⟨R, hR⟩ : ∃ R, chkB c xs = R := ⟨_, rfl⟩
  rw [hR]
  have hr0 := hr.below hb
  subst hn
  have HR := Lib.hid hR
  clear hR
  obtain ⟨x0, x1, x2, x3, xf, xl⟩ := B0.four
  go_enter Tryz.func167, Tryz.ntmps167
  go_wp2
  clear x0 x1 x2 x3 xf xl
  generalize (w.alloc (.cells #[.int .i64 p, .int .i64 c, .int .i64 h, .int .i64 s] 25)) = v0 at *
  go_loopg [5, 12] xs.length (fun m l i wr => ∃ k : Nat, k ≤ xs.length ∧ m = xs.length - k ∧ i = .int .i64 k ∧ l = .int .i64 (c - (xs.take k).sum) ∧ 0 ≤ (xs.take k).sum ∧ (xs.take k).sum ≤ c ∧ (∀ j, j < k → inB (xs.getD j 0) 0 c = true) ∧ Below w.heap.size w wr)
  case atStart => exact ⟨0, by omega, by omega, rfl, by simp, by simp, by simp; omega, fun j hj => by omega, hb⟩
  case round =>
    obtain ⟨k, hk, hm, rfl, rfl, s0, s1, hall, hbel⟩ := hrel
    have HA := Lib.hid hall
    clear hall
    by_cases hlt : k < xs.length
    · have hlt' : (k : Int) < (xs.length : Int) := by omega
      have hk0 : (0 : Int) ≤ (k : Int) := by omega
      obtain ⟨b, o, rfl, hc⟩ := hr.below hbel k hlt
      have hst := sum_take xs k hlt
      obtain ⟨v, hv⟩ : ∃ v, xs.getD k 0 = v := ⟨_, rfl⟩
      obtain ⟨S, hS⟩ : ∃ S, (xs.take k).sum = S := ⟨_, rfl⟩
      rw [hv] at hc hst
      rw [hS] at s0 s1 hst ⊢
      have HV := Lib.hid hv
      have HS := Lib.hid hst
      clear hv hst hS
      have hmem : v ∈ xs := HV.out ▸ getD_mem hlt
      by_cases d1 : v < 0
      · have hR2 : R = false := by
          rw [← HR.out]
          have : xs.all (fun x => inB x 0 c) = false := by
            rw [List.all_eq_false]
            exact ⟨v, hmem, by simp [inB]; omega⟩
          simp [chkB, this]
        subst hR2
        go_wp2
        go_ret
        exact ⟨rfl, hbel⟩
      · by_cases d2 : c - S < v
        · have hR2 : R = false := by
            rw [← HR.out]
            by_cases hnn : ∀ x ∈ xs, 0 ≤ x
            · have h1 := sum_take_le xs (k + 1) hnn
              have h2 := HS.out
              have : decide (xs.sum ≤ c) = false := by rw [decide_eq_false_iff_not]; omega
              simp [chkB, this]
            · have : xs.all (fun x => inB x 0 c) = false := by
                rw [List.all_eq_false]
                simp only [Classical.not_forall] at hnn
                obtain ⟨x, hx, hx0⟩ := hnn
                exact ⟨x, hx, by simp [inB]; omega⟩
              simp [chkB, this]
          subst hR2
          go_wp2
          go_ret
          exact ⟨rfl, hbel⟩
        · go_wp2
          go_roundg (xs.length - (k + 1))
          case measure => omega
          case rel =>
            refine ⟨k + 1, by omega, rfl, by go_num, by rw [HS.out]; congr 1; omega, by rw [HS.out]; omega, by rw [HS.out]; omega, fun j hj => ?_, hbel⟩
            by_cases hjk : j = k
            · subst hjk
              rw [HV.out]
              simp [inB]
              omega
            · exact HA.out j (by omega)
    · obtain rfl : k = xs.length := by omega
      have hxs : ∀ x ∈ xs, inB x 0 c = true := fun x hx => by
        obtain ⟨j, hj, rfl⟩ := List.mem_iff_getElem.1 hx
        have := HA.out j hj
        rwa [show xs.getD j 0 = xs[j] by simp [hj]] at this
      have hR2 : R = true := by
        rw [← HR.out]
        have h1 : xs.all (fun x => inB x 0 c) = true := List.all_eq_true.2 hxs
        rw [List.take_length] at s1
        simp [chkB, h1, s1]
      subst hR2
      go_wp2
      go_ret
      exact ⟨rfl, hbel⟩
end Go.Proofs.YtlnljfbdicgkcaaGreat
