/- Contracts of chapter 10 on positions: validity, codes, sums and pips, of the program and of its model. -/
import Derived.Test.YtdciiocmddlhfaaImpl02c
import Derived.Test.YtdciiocmddlhfaaL02a
import Derived.BigQuiet
import Derived.Deep.QuietTactic
import Derived.Deep.RegionHeld3
namespace Go.Proofs.Ytdciiocmddlhfaa
open Go.ChangeShapes Go.WideShapes Go.ChangeAt Go.RowKit
set_option linter.unusedVariables false
set_option linter.unusedSimpArgs false
set_option maxRecDepth 4000

/-- A bear-off position of a valid variant: as many places as home points. -/
def okP (p c h s : Int) (xs : List Int) : Bool := vB p c h s && sideB (h - 1) c xs
/-- The code of a variant and a position. -/
def bcE (p c h s : Int) (xs : List Int) : Int := if vB p c h s = true then (if sideB (h - 1) c xs = true then 0 else 2) else 1
def bpI (p c h s : Int) (xs : List Int) : Int := if okP p c h s xs = true then pipsL xs xs.length else 0
theorem okP_of {p c h s : Int} {xs : List Int} (e : bcE p c h s xs = 0) : okP p c h s xs = true := by
  unfold bcE at e
  split at e
  · rename_i g
    split at e
    · rename_i q; simp [okP, g, q]
    · simp at e
  · simp at e
theorem bcE_of {p c h s : Int} {xs : List Int} (e : okP p c h s xs = true) : bcE p c h s xs = 0 := by
  simp only [okP, Bool.and_eq_true] at e
  simp [bcE, e.1, e.2]
theorem okP_parts {p c h s : Int} {xs : List Int} (g : okP p c h s xs = true) : (xs.length : Int) = h ∧ h ≤ 24 ∧ (∀ x ∈ xs, 0 ≤ x ∧ x ≤ 15) ∧ xs.sum ≤ c ∧ 1 ≤ h ∧ 1 ≤ c ∧ c ≤ 15 ∧ 0 ≤ xs.sum := by
  simp only [okP, Bool.and_eq_true] at g
  have hv := vB_iff.1 g.1
  obtain ⟨m1, m2, m3⟩ := sideB_iff.1 g.2
  exact ⟨by omega, by omega, fun x hx => by have := m2 x hx; omega, m3, by omega, by omega, by omega, (sum_bound xs m2).1⟩
set_option maxHeartbeats 1000000 in
theorem isBearoffM_any (p c h s : Int) (a : Option Addr) (n cap : Nat) (xs : List Int) (w : World) (g : vB p c h s = true) (hn : xs.length = n) (hle : n ≤ 1048576) (hr : IRow w a xs) :
    Calls Try.prog 29 #[.agg #[.int .i64 p, .int .i64 c, .int .i64 h, .int .i64 s], .slice a n cap] w fun e w' => e = .returned (.bool (sideB (h - 1) c xs)) ∧ Below w.heap.size w w' := by
  have hK := fun W (r : IRow W a xs) => hasCheckers_any p c h s a n cap xs W g hn (by omega) r
  have HK := Lib.hid hK
  have hv := vB_iff.1 g
  have h0 : 1 ≤ h := by omega
  have h1 : h ≤ 24 := by omega
  clear hv g hK
  have B0 := Blk.new w #[.int .i64 p, .int .i64 c, .int .i64 h, .int .i64 s] 29
  have hb : Below w.heap.size w (w.alloc (.cells #[.int .i64 p, .int .i64 c, .int .i64 h, .int .i64 s] 29)) := (Below.refl _ _).alloc (Nat.le_refl _) _
  rw [sideB_chk, hn]
  obtain ⟨x0, x1, x2, x3, xf, xl⟩ := B0.four
  by_cases hlen : (n : Int) = h
  · have e0 : ((n : Int) == h) = true := by rw [beq_iff_eq]; exact hlen
    rw [decide_eq_true (by omega : (n : Int) = h - 1 + 1), Bool.true_and]
    have HL := Lib.hid hlen
    clear hlen
    go_enter Try.func29, Try.ntmps29
    go_wp2_with (go_at_call 36; refine (HK.out _ (hr.below hb)).mono ?_; rintro e w1 ⟨rfl, hb1⟩)
    go_ret
    exact ⟨rfl, chain hb hb1⟩
  · have e0 : ((n : Int) == h) = false := by rw [beq_eq_false_iff_ne]; exact hlen
    rw [decide_eq_false (by omega : ¬ (n : Int) = h - 1 + 1), Bool.false_and]
    have HL := Lib.hid hlen
    clear hlen
    go_enter Try.func29, Try.ntmps29
    go_wp2
    go_ret
    exact ⟨rfl, hb⟩
set_option maxHeartbeats 2000000 in
theorem l10Valid_any (p c h s : Int) (a : Option Addr) (n cap : Nat) (xs : List Int) (w : World) (g : vB p c h s = true) (hn : xs.length = n) (hle : n ≤ 1048576) (hr : IRow w a xs) :
    Calls Try.prog 14 #[.agg #[.int .i64 p, .int .i64 c, .int .i64 h, .int .i64 s], .slice a n cap] w fun e w' => e = .returned (.bool (sideB (h - 1) c xs)) ∧ Below w.heap.size w w' := by
  have hv := vB_iff.1 g
  have h0 : 1 ≤ h := by omega
  have h1 : h ≤ 24 := by omega
  have cc0 : 1 ≤ c := hv.2.2.1
  have cc1 : c ≤ 15 := hv.2.2.2.1
  clear hv g
  have B0 := Blk.new w #[.int .i64 p, .int .i64 c, .int .i64 h, .int .i64 s] 29
  have hb : Below w.heap.size w (w.alloc (.cells #[.int .i64 p, .int .i64 c, .int .i64 h, .int .i64 s] 29)) := (Below.refl _ _).alloc (Nat.le_refl _) _
  obtain ⟨R, hR⟩ : ∃ R, sideB (h - 1) c xs = R := ⟨_, rfl⟩
  rw [hR]
  obtain ⟨x0, x1, x2, x3, xf, xl⟩ := B0.four
  by_cases hlen : (n : Int) = h
  · have e0 : ((n : Int) != h) = false := by rw [bne_eq_false_iff_eq]; exact hlen
    have hr0 := hr.below hb
    subst hn
    have HR := Lib.hid hR
    have HL := Lib.hid hlen
    clear hR hlen
    go_enter Try.func14, Try.ntmps14
    go_wp2
    clear x0 x1 x2 x3 xf xl
    generalize (w.alloc (.cells #[.int .i64 p, .int .i64 c, .int .i64 h, .int .i64 s] 29)) = v0 at *
    go_loopg [5, 6] xs.length (fun m l i wr => ∃ k : Nat, k ≤ xs.length ∧ m = xs.length - k ∧ i = .int .i64 k ∧ l = .int .i64 (c - (xs.take k).sum) ∧ 0 ≤ (xs.take k).sum ∧ (xs.take k).sum ≤ c ∧ (∀ j, j < k → inB (xs.getD j 0) 0 c = true) ∧ Below w.heap.size w wr)
    case atStart => exact ⟨0, by omega, by omega, rfl, by simp, by simp, by simp; omega, fun j hj => by omega, hb⟩
    case round =>
      obtain ⟨k, hk, hm, rfl, rfl, s0, s1, hall, hbel⟩ := hrel
      have HA := Lib.hid hall
      clear hall
      by_cases hlt : k < xs.length
      · have hlt' : (k : Int) < (xs.length : Int) := by omega
        have hk0 : (0 : Int) ≤ (k : Int) := by omega
        obtain ⟨b, o, rfl, hc⟩ := hr.below hbel k hlt
        have hst := sum_take xs k hlt
        obtain ⟨v, hv⟩ : ∃ v, xs.getD k 0 = v := ⟨_, rfl⟩
        obtain ⟨S, hS⟩ : ∃ S, (xs.take k).sum = S := ⟨_, rfl⟩
        rw [hv] at hc hst
        rw [hS] at s0 s1 hst ⊢
        have HV := Lib.hid hv
        have HS := Lib.hid hst
        clear hv hst hS
        have hmem : v ∈ xs := HV.out ▸ getD_mem hlt
        have hI := fun W => l01In_any v 0 (c - S) W
        by_cases hin : inB v 0 (c - S) = true
        · have d := inB_iff.1 hin
          have d1 : 0 ≤ v := d.1
          have d2 : v ≤ c - S := d.2
          rw [hin] at hI
          have HI := Lib.hid hI
          clear hI d hin
          go_wp2_with (go_at_call 24; refine (HI.out _).mono ?_; rintro e w5 ⟨rfl, rfl⟩)
          go_roundg (xs.length - (k + 1))
          case measure => omega
          case rel =>
            refine ⟨k + 1, by omega, rfl, by go_num, by rw [HS.out]; congr 1; omega, by rw [HS.out]; omega, by rw [HS.out]; omega, fun j hj => ?_, hbel⟩
            by_cases hjk : j = k
            · subst hjk
              rw [HV.out]
              simp [inB]
              omega
            · exact HA.out j (by omega)
        · have hR2 : R = false := by
            rw [← HR.out]
            by_cases hnn : ∀ x ∈ xs, 0 ≤ x
            · have h1 := sum_take_le xs (k + 1) hnn
              have h2 := HS.out
              have h3 : 0 ≤ v := hnn v hmem
              have h4 : ¬ v ≤ c - S := fun q => hin (inB_iff.2 ⟨h3, q⟩)
              have : decide (xs.sum ≤ c) = false := by rw [decide_eq_false_iff_not]; omega
              simp [sideB, this]
            · have : xs.all (fun x => inB x 0 c) = false := by
                rw [List.all_eq_false]
                simp only [Classical.not_forall] at hnn
                obtain ⟨x, hx, hx0⟩ := hnn
                exact ⟨x, hx, by simp [inB]; omega⟩
              simp [sideB, this]
          subst hR2
          replace hin : inB v 0 (c - S) = false := by simpa using hin
          rw [hin] at hI
          have HI := Lib.hid hI
          clear hI hin
          go_wp2_with (go_at_call 24; refine (HI.out _).mono ?_; rintro e w5 ⟨rfl, rfl⟩)
          go_ret
          exact ⟨rfl, hbel⟩
      · obtain rfl : k = xs.length := by omega
        have hxs : ∀ x ∈ xs, inB x 0 c = true := fun x hx => by
          obtain ⟨j, hj, rfl⟩ := List.mem_iff_getElem.1 hx
          have := HA.out j hj
          rwa [show xs.getD j 0 = xs[j] by simp [hj]] at this
        have hR2 : R = true := by
          rw [← HR.out]
          have h1 : xs.all (fun x => inB x 0 c) = true := List.all_eq_true.2 hxs
          have h2 := HL.out
          rw [List.take_length] at s1
          simp [sideB, h1, s1, h2]
        subst hR2
        go_wp2
        go_ret
        exact ⟨rfl, hbel⟩
  · have e0 : ((n : Int) != h) = true := by rw [bne_iff_ne]; exact hlen
    have hR2 : R = false := by
      rw [← hR]
      have : ¬ (xs.length : Int) = h - 1 + 1 := by omega
      simp [sideB, this]
      omega
    subst hR2
    clear hR
    go_enter Try.func14, Try.ntmps14
    go_wp2
    go_ret
    exact ⟨rfl, hb⟩
set_option maxHeartbeats 1000000 in
theorem bearoffCode_any (p c h s : Int) (a : Option Addr) (n cap : Nat) (xs : List Int) (w : World) (hn : xs.length = n) (hle : n ≤ 1048576) (hr : IRow w a xs) :
    Calls Try.prog 19 #[.agg #[.int .i64 p, .int .i64 c, .int .i64 h, .int .i64 s], .slice a n cap] w fun e w' => e = .returned (.int .i64 (bcE p c h s xs)) ∧ Below w.heap.size w w' := by
  have BV := Blk.new w #[.int .i64 p, .int .i64 c, .int .i64 h, .int .i64 s] 29
  have hb : Below w.heap.size w (w.alloc (.cells #[.int .i64 p, .int .i64 c, .int .i64 h, .int .i64 s] 29)) := (Below.refl _ _).alloc (Nat.le_refl _) _
  obtain ⟨x0, x1, x2, x3, xf, xl⟩ := BV.four
  have hV := fun W => valid_any p c h s W
  by_cases g : vB p c h s = true
  rotate_left
  · have e0 : bcE p c h s xs = 1 := by simp [bcE, g]
    rw [e0]
    replace g : vB p c h s = false := by simpa using g
    rw [g] at hV
    have HV := Lib.hid hV
    clear hV e0
    go_enter Try.func19, Try.ntmps19
    go_wp2_with (first | (go_at_call 28; refine (HV.out _).mono ?_; rintro e w1 ⟨rfl, hb1⟩; obtain ⟨x0, x1, x2, x3, xf, xl⟩ := (BV.below hb1).four))
    go_ret
    exact ⟨rfl, chain hb hb1⟩
  · have hS := fun W (r : IRow W a xs) => isBearoffM_any p c h s a n cap xs W g hn hle r
    by_cases sx : sideB (h - 1) c xs = true
    rotate_left
    · have e0 : bcE p c h s xs = 2 := by simp [bcE, g, sx]
      rw [e0]
      replace sx : sideB (h - 1) c xs = false := by simpa using sx
      rw [g] at hV
      rw [sx] at hS
      have HV := Lib.hid hV
      have HS := Lib.hid hS
      clear hV hS e0 g sx
      go_enter Try.func19, Try.ntmps19
      go_wp2_with (first | (go_at_call 28; refine (HV.out _).mono ?_; rintro e w1 ⟨rfl, hb1⟩; obtain ⟨x0, x1, x2, x3, xf, xl⟩ := (BV.below hb1).four) | (go_at_call 29; refine (HS.out _ (hr.below (chain hb hb1))).mono ?_; rintro e w2 ⟨rfl, hb2⟩))
      go_ret
      exact ⟨rfl, chain (chain hb hb1) hb2⟩
    · have e0 : bcE p c h s xs = 0 := by simp [bcE, g, sx]
      rw [e0]
      rw [g] at hV
      rw [sx] at hS
      have HV := Lib.hid hV
      have HS := Lib.hid hS
      clear hV hS e0 g sx
      go_enter Try.func19, Try.ntmps19
      go_wp2_with (first | (go_at_call 28; refine (HV.out _).mono ?_; rintro e w1 ⟨rfl, hb1⟩; obtain ⟨x0, x1, x2, x3, xf, xl⟩ := (BV.below hb1).four) | (go_at_call 29; refine (HS.out _ (hr.below (chain hb hb1))).mono ?_; rintro e w2 ⟨rfl, hb2⟩))
      go_ret
      exact ⟨rfl, chain (chain hb hb1) hb2⟩
end Go.Proofs.Ytdciiocmddlhfaa
