/- Texts of a proof, laid together. -/
import Derived.Test.YtfomfbfcnenhbaaGreatV01
import Derived.Deep.RegionHeld3
import Derived.BigQuiet
import Derived.Deep.QuietTactic
namespace Go.Proofs.YtfomfbfcnenhbaaGreat
open Go.ChangeShapes Go.WideShapes Go.ChangeAt Go.RowKit
set_option linter.unusedVariables false
set_option linter.unusedSimpArgs false
theorem sum_nonneg : ∀ (xs : List Int), (∀ x ∈ xs, 0 ≤ x) → 0 ≤ xs.sum
  | [], _ => by simp
  | x :: xs, h => by
    have h1 := h x (by simp)
    have h2 := sum_nonneg xs (fun y hy => h y (by simp [hy]))
    simp only [List.sum_cons]
    omega
theorem sum_take_le (xs : List Int) (k : Nat) (h : ∀ x ∈ xs, 0 ≤ x) : (xs.take k).sum ≤ xs.sum := by
  have h1 : xs.sum = (xs.take k).sum + (xs.drop k).sum := by rw [← List.sum_append, List.take_append_drop]
  have h2 := sum_nonneg (xs.drop k) (fun x hx => h x (List.mem_of_mem_drop hx))
  omega
def chkB (c : Int) (xs : List Int) : Bool := xs.all (fun x => inB x 0 c) && decide (xs.sum ≤ c)
theorem sideB_chk (p c : Int) (xs : List Int) : sideB p c xs = (decide ((xs.length : Int) = p + 1) && chkB c xs) := by simp [sideB, chkB, Bool.and_assoc]
set_option maxHeartbeats 2000000 in
theorem hasCheckers_any (p c h s : Int) (a : Option Addr) (n cap : Nat) (xs : List Int) (w : World) (g : vB p c h s = true) (hn : xs.length = n) (hle : n ≤ 9223372036854775807) (hr : IRow w a xs) :
    Calls Tryz.prog 146 #[.agg #[.int .i64 p, .int .i64 c, .int .i64 h, .int .i64 s], .slice a n cap] w fun e w' => e = .returned (.bool (chkB c xs)) ∧ Below w.heap.size w w' := by
  have hv := vB_iff.1 g
  have cc0 : 1 ≤ c := hv.2.2.1
  have cc1 : c ≤ 15 := hv.2.2.2.1
  clear hv g
  have B0 := Blk.new w #[.int .i64 p, .int .i64 c, .int .i64 h, .int .i64 s] 25
  have hb : Below w.heap.size w (w.alloc (.cells #[.int .i64 p, .int .i64 c, .int .i64 h, .int .i64 s] 25)) := (Below.refl _ _).alloc (Nat.le_refl _) _
  obtain ⟨R, hR⟩ : ∃ R, chkB c xs = R := ⟨_, rfl⟩
  rw [hR]
  have hr0 := hr.below hb
  subst hn
  have HR := Lib.hid hR
  clear hR
  obtain ⟨x0, x1, x2, x3, xf, xl⟩ := B0.four
  go_enter Tryz.func146, Tryz.ntmps146
  go_wp2
  clear x0 x1 x2 x3 xf xl
  generalize (w.alloc (.cells #[.int .i64 p, .int .i64 c, .int .i64 h, .int .i64 s] 25)) = v0 at *
  go_loopg [5, 12] xs.length (fun m l i wr => ∃ k : Nat, k ≤ xs.length ∧ m = xs.length - k ∧ i = .int .i64 k ∧ l = .int .i64 (c - (xs.take k).sum) ∧ 0 ≤ (xs.take k).sum ∧ (xs.take k).sum ≤ c ∧ (∀ j, j < k → inB (xs.getD j 0) 0 c = true) ∧ Below w.heap.size w wr)
  case atStart => exact ⟨0, by omega, by omega, rfl, by simp, by simp, by simp; omega, fun j hj => by omega, hb⟩
  case round =>
    obtain ⟨k, hk, hm, rfl, rfl, s0, s1, hall, hbel⟩ := hrel
    have HA := Lib.hid hall
    clear hall
    by_cases hlt : k < xs.length
    · have hlt' : (k : Int) < (xs.length : Int) := by omega
      have hk0 : (0 : Int) ≤ (k : Int) := by omega
      obtain ⟨b, o, rfl, hc⟩ := hr.below hbel k hlt
      have hst := sum_take xs k hlt
      obtain ⟨v, hv⟩ : ∃ v, xs.getD k 0 = v := ⟨_, rfl⟩
      obtain ⟨S, hS⟩ : ∃ S, (xs.take k).sum = S := ⟨_, rfl⟩
      rw [hv] at hc hst
      rw [hS] at s0 s1 hst ⊢
      have HV := Lib.hid hv
      have HS := Lib.hid hst
      clear hv hst hS
      have hmem : v ∈ xs := HV.out ▸ getD_mem hlt
      by_cases d1 : v < 0
      · have hR2 : R = false := by
          rw [← HR.out]
          have : xs.all (fun x => inB x 0 c) = false := by
            rw [List.all_eq_false]
            exact ⟨v, hmem, by simp [inB]; omega⟩
          simp [chkB, this]
        subst hR2
        go_wp2
        go_ret
        exact ⟨rfl, hbel⟩
      · by_cases d2 : c - S < v
        · have hR2 : R = false := by
            rw [← HR.out]
            by_cases hnn : ∀ x ∈ xs, 0 ≤ x
            · have h1 := sum_take_le xs (k + 1) hnn
              have h2 := HS.out
              have : decide (xs.sum ≤ c) = false := by rw [decide_eq_false_iff_not]; omega
              simp [chkB, this]
            · have : xs.all (fun x => inB x 0 c) = false := by
                rw [List.all_eq_false]
                simp only [Classical.not_forall] at hnn
                obtain ⟨x, hx, hx0⟩ := hnn
                exact ⟨x, hx, by simp [inB]; omega⟩
              simp [chkB, this]
          subst hR2
          go_wp2
          go_ret
          exact ⟨rfl, hbel⟩
        · go_wp2
          go_roundg (xs.length - (k + 1))
          case measure => omega
          case rel =>
            refine ⟨k + 1, by omega, rfl, by go_num, by rw [HS.out]; congr 1; omega, by rw [HS.out]; omega, by rw [HS.out]; omega, fun j hj => ?_, hbel⟩
            by_cases hjk : j = k
            · subst hjk
              rw [HV.out]
              simp [inB]
              omega
            · exact HA.out j (by omega)
    · obtain rfl : k = xs.length := by omega
      have hxs : ∀ x ∈ xs, inB x 0 c = true := fun x hx => by
        obtain ⟨j, hj, rfl⟩ := List.mem_iff_getElem.1 hx
        have := HA.out j hj
        rwa [show xs.getD j 0 = xs[j] by simp [hj]] at this
      have hR2 : R = true := by
        rw [← HR.out]
        have h1 : xs.all (fun x => inB x 0 c) = true := List.all_eq_true.2 hxs
        rw [List.take_length] at s1
        simp [chkB, h1, s1]
      subst hR2
      go_wp2
      go_ret
      exact ⟨rfl, hbel⟩
end Go.Proofs.YtfomfbfcnenhbaaGreat
namespace Go.Proofs.YtfomfbfcnenhbaaGreat
open Go.ChangeShapes Go.WideShapes Go.ChangeAt Go.RowKit
set_option linter.unusedVariables false
set_option linter.unusedSimpArgs false
set_option maxRecDepth 4000
def okP (p c h s : Int) (xs : List Int) : Bool := vB p c h s && sideB (h - 1) c xs
def bcE (p c h s : Int) (xs : List Int) : Int := if vB p c h s = true then (if sideB (h - 1) c xs = true then 0 else 2) else 1
theorem okP_of {p c h s : Int} {xs : List Int} (e : bcE p c h s xs = 0) : okP p c h s xs = true := by
  unfold bcE at e
  split at e
  · rename_i g
    split at e
    · rename_i q; simp [okP, g, q]
    · simp at e
  · simp at e
theorem okP_parts {p c h s : Int} {xs : List Int} (g : okP p c h s xs = true) : (xs.length : Int) = h ∧ h ≤ 24 ∧ (∀ x ∈ xs, 0 ≤ x ∧ x ≤ 15) ∧ xs.sum ≤ c ∧ 1 ≤ h ∧ 1 ≤ c ∧ c ≤ 15 ∧ 0 ≤ xs.sum := by
  simp only [okP, Bool.and_eq_true] at g
  have hv := vB_iff.1 g.1
  obtain ⟨m1, m2, m3⟩ := sideB_iff.1 g.2
  exact ⟨by omega, by omega, fun x hx => by have := m2 x hx; omega, m3, by omega, by omega, by omega, (sum_bound xs m2).1⟩
set_option maxHeartbeats 1000000 in
theorem isBearoffM_any (p c h s : Int) (a : Option Addr) (n cap : Nat) (xs : List Int) (w : World) (g : vB p c h s = true) (hn : xs.length = n) (hle : n ≤ 1048576) (hr : IRow w a xs) :
    Calls Tryz.prog 116 #[.agg #[.int .i64 p, .int .i64 c, .int .i64 h, .int .i64 s], .slice a n cap] w fun e w' => e = .returned (.bool (sideB (h - 1) c xs)) ∧ Below w.heap.size w w' := by
  have hK := fun W (r : IRow W a xs) => hasCheckers_any p c h s a n cap xs W g hn (by omega) r
  have HK := Lib.hid hK
  have hv := vB_iff.1 g
  have h0 : 1 ≤ h := by omega
  have h1 : h ≤ 24 := by omega
  clear hv g hK
  have B0 := Blk.new w #[.int .i64 p, .int .i64 c, .int .i64 h, .int .i64 s] 25
  have hb : Below w.heap.size w (w.alloc (.cells #[.int .i64 p, .int .i64 c, .int .i64 h, .int .i64 s] 25)) := (Below.refl _ _).alloc (Nat.le_refl _) _
  rw [sideB_chk, hn]
  obtain ⟨x0, x1, x2, x3, xf, xl⟩ := B0.four
  by_cases hlen : (n : Int) = h
  · have e0 : ((n : Int) == h) = true := by rw [beq_iff_eq]; exact hlen
    rw [decide_eq_true (by omega : (n : Int) = h - 1 + 1), Bool.true_and]
    have HL := Lib.hid hlen
    clear hlen
    go_enter Tryz.func116, Tryz.ntmps116
    go_wp2_with (go_at_call 146; refine (HK.out _ (hr.below hb)).mono ?_; rintro e w1 ⟨rfl, hb1⟩)
    go_ret
    exact ⟨rfl, chain hb hb1⟩
  · have e0 : ((n : Int) == h) = false := by rw [beq_eq_false_iff_ne]; exact hlen
    rw [decide_eq_false (by omega : ¬ (n : Int) = h - 1 + 1), Bool.false_and]
    have HL := Lib.hid hlen
    clear hlen
    go_enter Tryz.func116, Tryz.ntmps116
    go_wp2
    go_ret
    exact ⟨rfl, hb⟩
set_option maxHeartbeats 2000000 in
theorem l10Valid_any (p c h s : Int) (a : Option Addr) (n cap : Nat) (xs : List Int) (w : World) (g : vB p c h s = true) (hn : xs.length = n) (hle : n ≤ 1048576) (hr : IRow w a xs) :
    Calls Tryz.prog 74 #[.agg #[.int .i64 p, .int .i64 c, .int .i64 h, .int .i64 s], .slice a n cap] w fun e w' => e = .returned (.bool (sideB (h - 1) c xs)) ∧ Below w.heap.size w w' := by
  have hv := vB_iff.1 g
  have h0 : 1 ≤ h := by omega
  have h1 : h ≤ 24 := by omega
  have cc0 : 1 ≤ c := hv.2.2.1
  have cc1 : c ≤ 15 := hv.2.2.2.1
  clear hv g
  have B0 := Blk.new w #[.int .i64 p, .int .i64 c, .int .i64 h, .int .i64 s] 25
  have hb : Below w.heap.size w (w.alloc (.cells #[.int .i64 p, .int .i64 c, .int .i64 h, .int .i64 s] 25)) := (Below.refl _ _).alloc (Nat.le_refl _) _
  obtain ⟨R, hR⟩ : ∃ R, sideB (h - 1) c xs = R := ⟨_, rfl⟩
  rw [hR]
  obtain ⟨x0, x1, x2, x3, xf, xl⟩ := B0.four
  by_cases hlen : (n : Int) = h
  · have e0 : ((n : Int) != h) = false := by rw [bne_eq_false_iff_eq]; exact hlen
    have hr0 := hr.below hb
    subst hn
    have HR := Lib.hid hR
    have HL := Lib.hid hlen
    clear hR hlen
    go_enter Tryz.func74, Tryz.ntmps74
    go_wp2
    clear x0 x1 x2 x3 xf xl
    generalize (w.alloc (.cells #[.int .i64 p, .int .i64 c, .int .i64 h, .int .i64 s] 25)) = v0 at *
    go_loopg [5, 6] xs.length (fun m l i wr => ∃ k : Nat, k ≤ xs.length ∧ m = xs.length - k ∧ i = .int .i64 k ∧ l = .int .i64 (c - (xs.take k).sum) ∧ 0 ≤ (xs.take k).sum ∧ (xs.take k).sum ≤ c ∧ (∀ j, j < k → inB (xs.getD j 0) 0 c = true) ∧ Below w.heap.size w wr)
    case atStart => exact ⟨0, by omega, by omega, rfl, by simp, by simp, by simp; omega, fun j hj => by omega, hb⟩
    case round =>
      obtain ⟨k, hk, hm, rfl, rfl, s0, s1, hall, hbel⟩ := hrel
      have HA := Lib.hid hall
      clear hall
      by_cases hlt : k < xs.length
      · have hlt' : (k : Int) < (xs.length : Int) := by omega
        have hk0 : (0 : Int) ≤ (k : Int) := by omega
        obtain ⟨b, o, rfl, hc⟩ := hr.below hbel k hlt
        have hst := sum_take xs k hlt
        obtain ⟨v, hv⟩ : ∃ v, xs.getD k 0 = v := ⟨_, rfl⟩
        obtain ⟨S, hS⟩ : ∃ S, (xs.take k).sum = S := ⟨_, rfl⟩
        rw [hv] at hc hst
        rw [hS] at s0 s1 hst ⊢
        have HV := Lib.hid hv
        have HS := Lib.hid hst
        clear hv hst hS
        have hmem : v ∈ xs := HV.out ▸ getD_mem hlt
        have hI := fun W => l01In_any v 0 (c - S) W
        by_cases hin : inB v 0 (c - S) = true
        · have d := inB_iff.1 hin
          have d1 : 0 ≤ v := d.1
          have d2 : v ≤ c - S := d.2
          rw [hin] at hI
          have HI := Lib.hid hI
          clear hI d hin
          go_wp2_with (go_at_call 98; refine (HI.out _).mono ?_; rintro e w5 ⟨rfl, rfl⟩)
          go_roundg (xs.length - (k + 1))
          case measure => omega
          case rel =>
            refine ⟨k + 1, by omega, rfl, by go_num, by rw [HS.out]; congr 1; omega, by rw [HS.out]; omega, by rw [HS.out]; omega, fun j hj => ?_, hbel⟩
            by_cases hjk : j = k
            · subst hjk
              rw [HV.out]
              simp [inB]
              omega
            · exact HA.out j (by omega)
        · have hR2 : R = false := by
            rw [← HR.out]
            by_cases hnn : ∀ x ∈ xs, 0 ≤ x
            · have h1 := sum_take_le xs (k + 1) hnn
              have h2 := HS.out
              have h3 : 0 ≤ v := hnn v hmem
              have h4 : ¬ v ≤ c - S := fun q => hin (inB_iff.2 ⟨h3, q⟩)
              have : decide (xs.sum ≤ c) = false := by rw [decide_eq_false_iff_not]; omega
              simp [sideB, this]
            · have : xs.all (fun x => inB x 0 c) = false := by
                rw [List.all_eq_false]
                simp only [Classical.not_forall] at hnn
                obtain ⟨x, hx, hx0⟩ := hnn
                exact ⟨x, hx, by simp [inB]; omega⟩
              simp [sideB, this]
          subst hR2
          replace hin : inB v 0 (c - S) = false := by simpa using hin
          rw [hin] at hI
          have HI := Lib.hid hI
          clear hI hin
          go_wp2_with (go_at_call 98; refine (HI.out _).mono ?_; rintro e w5 ⟨rfl, rfl⟩)
          go_ret
          exact ⟨rfl, hbel⟩
      · obtain rfl : k = xs.length := by omega
        have hxs : ∀ x ∈ xs, inB x 0 c = true := fun x hx => by
          obtain ⟨j, hj, rfl⟩ := List.mem_iff_getElem.1 hx
          have := HA.out j hj
          rwa [show xs.getD j 0 = xs[j] by simp [hj]] at this
        have hR2 : R = true := by
          rw [← HR.out]
          have h1 : xs.all (fun x => inB x 0 c) = true := List.all_eq_true.2 hxs
          have h2 := HL.out
          rw [List.take_length] at s1
          simp [sideB, h1, s1, h2]
        subst hR2
        go_wp2
        go_ret
        exact ⟨rfl, hbel⟩
  · have e0 : ((n : Int) != h) = true := by rw [bne_iff_ne]; exact hlen
    have hR2 : R = false := by
      rw [← hR]
      have : ¬ (xs.length : Int) = h - 1 + 1 := by omega
      simp [sideB, this]
      omega
    subst hR2
    clear hR
    go_enter Tryz.func74, Tryz.ntmps74
    go_wp2
    go_ret
    exact ⟨rfl, hb⟩
set_option maxHeartbeats 1000000 in
theorem bearoffCode_any (p c h s : Int) (a : Option Addr) (n cap : Nat) (xs : List Int) (w : World) (hn : xs.length = n) (hle : n ≤ 1048576) (hr : IRow w a xs) :
    Calls Tryz.prog 77 #[.agg #[.int .i64 p, .int .i64 c, .int .i64 h, .int .i64 s], .slice a n cap] w fun e w' => e = .returned (.int .i64 (bcE p c h s xs)) ∧ Below w.heap.size w w' := by
  have BV := Blk.new w #[.int .i64 p, .int .i64 c, .int .i64 h, .int .i64 s] 25
  have hb : Below w.heap.size w (w.alloc (.cells #[.int .i64 p, .int .i64 c, .int .i64 h, .int .i64 s] 25)) := (Below.refl _ _).alloc (Nat.le_refl _) _
  obtain ⟨x0, x1, x2, x3, xf, xl⟩ := BV.four
  have hV := fun W => valid_any p c h s W
  by_cases g : vB p c h s = true
  rotate_left
  · have e0 : bcE p c h s xs = 1 := by simp [bcE, g]
    rw [e0]
    replace g : vB p c h s = false := by simpa using g
    rw [g] at hV
    have HV := Lib.hid hV
    clear hV e0
    go_enter Tryz.func77, Tryz.ntmps77
    go_wp2_with (first | (go_at_call 109; refine (HV.out _).mono ?_; rintro e w1 ⟨rfl, hb1⟩; obtain ⟨x0, x1, x2, x3, xf, xl⟩ := (BV.below hb1).four))
    go_ret
    exact ⟨rfl, chain hb hb1⟩
  · have hS := fun W (r : IRow W a xs) => isBearoffM_any p c h s a n cap xs W g hn hle r
    by_cases sx : sideB (h - 1) c xs = true
    rotate_left
    · have e0 : bcE p c h s xs = 2 := by simp [bcE, g, sx]
      rw [e0]
      replace sx : sideB (h - 1) c xs = false := by simpa using sx
      rw [g] at hV
      rw [sx] at hS
      have HV := Lib.hid hV
      have HS := Lib.hid hS
      clear hV hS e0 g sx
      go_enter Tryz.func77, Tryz.ntmps77
      go_wp2_with (first | (go_at_call 109; refine (HV.out _).mono ?_; rintro e w1 ⟨rfl, hb1⟩; obtain ⟨x0, x1, x2, x3, xf, xl⟩ := (BV.below hb1).four) | (go_at_call 116; refine (HS.out _ (hr.below (chain hb hb1))).mono ?_; rintro e w2 ⟨rfl, hb2⟩))
      go_ret
      exact ⟨rfl, chain (chain hb hb1) hb2⟩
    · have e0 : bcE p c h s xs = 0 := by simp [bcE, g, sx]
      rw [e0]
      rw [g] at hV
      rw [sx] at hS
      have HV := Lib.hid hV
      have HS := Lib.hid hS
      clear hV hS e0 g sx
      go_enter Tryz.func77, Tryz.ntmps77
      go_wp2_with (first | (go_at_call 109; refine (HV.out _).mono ?_; rintro e w1 ⟨rfl, hb1⟩; obtain ⟨x0, x1, x2, x3, xf, xl⟩ := (BV.below hb1).four) | (go_at_call 116; refine (HS.out _ (hr.below (chain hb hb1))).mono ?_; rintro e w2 ⟨rfl, hb2⟩))
      go_ret
      exact ⟨rfl, chain (chain hb hb1) hb2⟩
set_option maxHeartbeats 1000000 in
theorem checkersOf_any (a : Option Addr) (n cap : Nat) (xs : List Int) (w : World) (hn : xs.length = n) (hle : n ≤ 1000) (hx : ∀ x ∈ xs, 0 ≤ x ∧ x ≤ 1000) (hr : IRow w a xs) :
    Calls Tryz.prog 91 #[.slice a n cap] w fun e w' => e = .returned (.int .i64 xs.sum) ∧ w = w' := by
  subst hn
  go_enter Tryz.func91, Tryz.ntmps91
  go_wp2
  go_loopg [3, 8] xs.length (fun m q i wr => w = wr ∧ ∃ k : Nat, k ≤ xs.length ∧ m = xs.length - k ∧ i = .int .i64 k ∧ q = .int .i64 (xs.take k).sum)
  case atStart => exact ⟨rfl, 0, by omega, by omega, rfl, rfl⟩
  case round =>
    obtain ⟨rfl, k, hk, hm, rfl, rfl⟩ := hrel
    by_cases hlt : k < xs.length
    · have hlt' : (k : Int) < (xs.length : Int) := by omega
      obtain ⟨b, o, rfl, hc⟩ := hr k hlt
      have hb := sum_bound (c := 1000) (xs.take k) (fun x h => hx x (List.mem_of_mem_take h))
      have hl : (xs.take k).length ≤ 1000 := by simp; omega
      have hb0 : 0 ≤ (xs.take k).sum := hb.1
      have hb1 : (xs.take k).sum ≤ 1000000 := by have := hb.2; omega
      have hg := hx _ (getD_mem hlt)
      obtain ⟨v, hv⟩ : ∃ v, xs.getD k 0 = v := ⟨_, rfl⟩
      have hst := sum_take xs k hlt
      rw [hv] at hc hg hst
      have g0 : 0 ≤ v := hg.1
      have g1 : v ≤ 1000 := hg.2
      have HS := Lib.hid hst
      clear hst hv hb hl hg
      go_wp2
      go_roundg (xs.length - (k + 1))
      case measure => omega
      case rel => exact ⟨rfl, k + 1, by omega, rfl, by go_num, by rw [HS.out]⟩
    · obtain rfl : k = xs.length := by omega
      go_wp2
      go_ret
      exact ⟨by simp, rfl⟩
set_option maxHeartbeats 1000000 in
theorem l10Sum_any (a : Option Addr) (n cap : Nat) (xs : List Int) (w : World) (hn : xs.length = n) (hle : n ≤ 1000) (hx : ∀ x ∈ xs, 0 ≤ x ∧ x ≤ 1000) (hr : IRow w a xs) :
    Calls Tryz.prog 89 #[.slice a n cap] w fun e w' => e = .returned (.int .i64 xs.sum) ∧ w = w' := by
  subst hn
  go_enter Tryz.func89, Tryz.ntmps89
  go_wp2
  go_loopg [3, 4] xs.length (fun m q i wr => w = wr ∧ ∃ k : Nat, k ≤ xs.length ∧ m = xs.length - k ∧ i = .int .i64 k ∧ q = .int .i64 (xs.take k).sum)
  case atStart => exact ⟨rfl, 0, by omega, by omega, rfl, rfl⟩
  case round =>
    obtain ⟨rfl, k, hk, hm, rfl, rfl⟩ := hrel
    by_cases hlt : k < xs.length
    · have hlt' : (k : Int) < (xs.length : Int) := by omega
      obtain ⟨b, o, rfl, hc⟩ := hr k hlt
      have hb := sum_bound (c := 1000) (xs.take k) (fun x h => hx x (List.mem_of_mem_take h))
      have hl : (xs.take k).length ≤ 1000 := by simp; omega
      have hb0 : 0 ≤ (xs.take k).sum := hb.1
      have hb1 : (xs.take k).sum ≤ 1000000 := by have := hb.2; omega
      have hg := hx _ (getD_mem hlt)
      obtain ⟨v, hv⟩ : ∃ v, xs.getD k 0 = v := ⟨_, rfl⟩
      have hst := sum_take xs k hlt
      rw [hv] at hc hg hst
      have g0 : 0 ≤ v := hg.1
      have g1 : v ≤ 1000 := hg.2
      have HS := Lib.hid hst
      clear hst hv hb hl hg
      go_wp2
      go_roundg (xs.length - (k + 1))
      case measure => omega
      case rel => exact ⟨rfl, k + 1, by omega, rfl, by go_num, by rw [HS.out]⟩
    · obtain rfl : k = xs.length := by omega
      go_wp2
      go_ret
      exact ⟨by simp, rfl⟩
end Go.Proofs.YtfomfbfcnenhbaaGreat
namespace Go.Proofs.YtfomfbfcnenhbaaGreat
set_option linter.unusedVariables false
set_option linter.unusedSimpArgs false
def cnt : Nat → Nat → Nat
  | 0, _ => 1
  | _ + 1, 0 => 1
  | n + 1, m + 1 => cnt n (m + 1) + cnt (n + 1) m
termination_by n m => n + m
theorem cnt_zero (m : Nat) : cnt 0 m = 1 := by rw [cnt]
theorem cnt_base (n : Nat) : cnt n 0 = 1 := by cases n <;> rw [cnt]
theorem cnt_step (n m : Nat) : cnt (n + 1) (m + 1) = cnt n (m + 1) + cnt (n + 1) m := by rw [cnt]
theorem cnt_symm : ∀ n m : Nat, cnt n m = cnt m n
  | 0, m => by rw [cnt_zero, cnt_base]
  | n + 1, 0 => by rw [cnt_zero, cnt_base]
  | n + 1, m + 1 => by
    have h1 := cnt_symm n (m + 1)
    have h2 := cnt_symm (n + 1) m
    rw [cnt_step, cnt_step, h1, h2]
    omega
termination_by n m => n + m
theorem cnt_pos : ∀ n m : Nat, 1 ≤ cnt n m
  | 0, m => by rw [cnt_zero]; omega
  | n + 1, 0 => by rw [cnt_base]; omega
  | n + 1, m + 1 => by
    have h1 := cnt_pos n (m + 1)
    rw [cnt_step]
    omega
termination_by n m => n + m
theorem cnt_le_pow : ∀ n m : Nat, cnt n m ≤ 2 ^ (n + m)
  | 0, m => by rw [cnt_zero]; exact Nat.one_le_two_pow
  | n + 1, 0 => by rw [cnt_base]; exact Nat.one_le_two_pow
  | n + 1, m + 1 => by
    have h1 := cnt_le_pow n (m + 1)
    have h2 := cnt_le_pow (n + 1) m
    rw [cnt_step]
    have e1 : 2 ^ (n + 1 + (m + 1)) = 2 ^ (n + (m + 1)) + 2 ^ (n + (m + 1)) := by
      rw [show n + 1 + (m + 1) = (n + (m + 1)) + 1 by omega, Nat.pow_succ]
      omega
    have e2 : n + 1 + m = n + (m + 1) := by omega
    rw [e2] at h2
    omega
termination_by n m => n + m
theorem cnt_bound {n m : Nat} (hn : n ≤ 25) (hm : m ≤ 15) : cnt n m ≤ 1099511627776 := by
  have h := cnt_le_pow n m
  have h2 : 2 ^ (n + m) ≤ 2 ^ 40 := Nat.pow_le_pow_right (by omega) (by omega)
  have h3 : (2 : Nat) ^ 40 = 1099511627776 := by decide
  omega
theorem cnt_mul : ∀ n m : Nat, (n + 1) * cnt (n + 1) m = (n + m + 1) * cnt n m
  | n, 0 => by rw [cnt_base, cnt_base, Nat.add_zero]
  | n, m + 1 => by
    have h1 := cnt_mul n m
    have h2 := cnt_mul m n
    rw [cnt_symm (m + 1) n, cnt_symm m n] at h2
    rw [cnt_step, Nat.mul_add, h1]
    have e : (m + n + 1) * cnt n m = (n + m + 1) * cnt n m := by rw [show m + n = n + m by omega]
    rw [e] at h2
    rw [← h2, ← Nat.add_mul]
    congr 1
    omega
termination_by n m => n + m
theorem cnt_next (n m : Nat) : cnt n m * (m + n + 1) / (n + 1) = cnt (n + 1) m := by
  have h := cnt_mul n m
  rw [show cnt n m * (m + n + 1) = cnt (n + 1) m * (n + 1) by
    rw [Nat.mul_comm (cnt (n + 1) m), h, Nat.mul_comm, show m + n + 1 = n + m + 1 by omega]]
  exact Nat.mul_div_cancel _ (by omega)
theorem cnt_nextI (n m : Nat) : ((cnt n m : Int) * ((m : Int) + (n : Int) + 1)).tdiv ((n : Int) + 1) = (cnt (n + 1) m : Int) := by
  have h := cnt_next n m
  rw [← h, show ((m : Int) + (n : Int) + 1) = ((m + n + 1 : Nat) : Int) by omega, show ((n : Int) + 1) = ((n + 1 : Nat) : Int) by omega]
  rw [← Int.natCast_mul, ← Int.ofNat_tdiv]
def blk (b l : Nat) : Nat → Nat
  | 0 => 0
  | j + 1 => blk b l j + cnt b (l - j)
theorem blk_all (b : Nat) : ∀ l j : Nat, j ≤ l → blk b l j + cnt (b + 1) (l - j) = cnt (b + 1) l := by
  intro l j
  induction j with
  | zero => intro _; simp [blk]
  | succ j ih =>
    intro hj
    have h := ih (by omega)
    rw [blk, ← h]
    obtain ⟨d, hd⟩ : ∃ d, l - j = d + 1 := ⟨l - j - 1, by omega⟩
    rw [show l - (j + 1) = d by omega, hd, cnt_step]
    omega
def numL : List Nat → Nat → Nat
  | [], _ => 0
  | x :: xs, l => blk xs.length l x + numL xs (l - x)
theorem numL_lt : ∀ (xs : List Nat) (l : Nat), xs.sum ≤ l → numL xs l < cnt xs.length l
  | [], l, _ => by simp [numL, cnt_zero]
  | x :: xs, l, h => by
    simp only [List.sum_cons] at h
    have h1 := numL_lt xs (l - x) (by omega)
    rw [numL, List.length_cons]
    have h2 := blk_all xs.length l x (by omega)
    cases hd : l - x with
    | zero =>
      rw [hd] at h1 h2
      rw [cnt_base] at h1 h2
      omega
    | succ d =>
      rw [hd] at h1 h2
      rw [cnt_step] at h2
      omega
def upTo (b l k : Nat) : Nat → Nat → Nat
  | 0, j => j
  | f + 1, j => if blk b l (j + 1) ≤ k then upTo b l k f (j + 1) else j
def unr : Nat → Nat → Nat → List Nat
  | 0, _, _ => []
  | n + 1, k, l => upTo n l k (l + 1) 0 :: unr n (k - blk n l (upTo n l k (l + 1) 0)) (l - upTo n l k (l + 1) 0)
theorem upTo_spec (b l k : Nat) (hk : k < cnt (b + 1) l) : ∀ f j, j ≤ l → blk b l j ≤ k → l < j + f →
    upTo b l k f j ≤ l ∧ blk b l (upTo b l k f j) ≤ k ∧ k < blk b l (upTo b l k f j) + cnt b (l - upTo b l k f j)
  | 0, j, h1, h2, h3 => by omega
  | f + 1, j, h1, h2, h3 => by
    rw [upTo]
    by_cases h : blk b l (j + 1) ≤ k
    · rw [if_pos h]
      have hj : j + 1 ≤ l := by
        apply Classical.byContradiction
        intro hn
        obtain rfl : j = l := by omega
        have h4 := blk_all b j j (Nat.le_refl _)
        rw [blk] at h
        rw [Nat.sub_self, cnt_base] at h4
        rw [Nat.sub_self, cnt_base] at h
        omega
      exact upTo_spec b l k hk f (j + 1) hj h (by omega)
    · rw [if_neg h]
      rw [blk] at h
      exact ⟨h1, h2, by omega⟩
theorem blk_mono (b l : Nat) : ∀ {i j : Nat}, i < j → blk b l i + cnt b (l - i) ≤ blk b l j := by
  intro i j h
  induction j with
  | zero => omega
  | succ j ih =>
    rw [blk]
    by_cases e : i = j
    · subst e; omega
    · have := ih (by omega); omega
theorem place_unique {b l k i j : Nat} (hi1 : blk b l i ≤ k) (hi2 : k < blk b l i + cnt b (l - i)) (hj1 : blk b l j ≤ k) (hj2 : k < blk b l j + cnt b (l - j)) : i = j := by
  rcases Nat.lt_trichotomy i j with h | h | h
  · have := blk_mono b l h; omega
  · exact h
  · have := blk_mono b l h; omega
theorem unr_cons (n k l : Nat) (hk : k < cnt (n + 1) l) : ∃ j, j ≤ l ∧ blk n l j ≤ k ∧ k < blk n l j + cnt n (l - j) ∧ unr (n + 1) k l = j :: unr n (k - blk n l j) (l - j) := by
  obtain ⟨h1, h2, h3⟩ := upTo_spec n l k hk (l + 1) 0 (by omega) (by simp [blk]) (by omega)
  exact ⟨_, h1, h2, h3, rfl⟩
theorem unr_ok : ∀ (n k l : Nat), k < cnt n l → (unr n k l).length = n ∧ (unr n k l).sum ≤ l ∧ numL (unr n k l) l = k
  | 0, k, l, h => by rw [cnt_zero] at h; simp [unr, numL]; omega
  | n + 1, k, l, h => by
    obtain ⟨j, h1, h2, h3, e⟩ := unr_cons n k l h
    obtain ⟨q1, q2, q3⟩ := unr_ok n (k - blk n l j) (l - j) (by omega)
    rw [e]
    refine ⟨by simp [q1], by simp; omega, ?_⟩
    rw [numL, q1, q3]
    omega
end Go.Proofs.YtfomfbfcnenhbaaGreat
