/- Texts of a proof, laid together. -/
import Derived.Test.YtnlclmlnpkncoaaGreatW05
import Derived.Test.YtnlclmlnpkncoaaGreatW01
import Derived.Deep.RegionHeld3
import Derived.Shelf.Abstract
import Derived.Laws.EntriesVeiled
import Derived.IntWalk
import Derived.BigGuard
import Derived.BigGuardPart
import Derived.BigQuiet
import Derived.Deep.QuietTactic
import Derived.Test.YtnlclmlnpkncoaaGreatW02
import Derived.Lib.SliceRun
namespace Go.Proofs.YtnlclmlnpkncoaaGreat
set_option linter.unusedVariables false
set_option linter.unusedSimpArgs false
theorem getD_mem {xs : List Int} {k : Nat} (h : k < xs.length) : xs.getD k 0 ∈ xs := by simp [List.getD, h]
theorem getD_out {l : List Int} {j : Nat} (h : l.length ≤ j) : l.getD j 0 = 0 := by
  rw [List.getD_eq_getElem?_getD, List.getElem?_eq_none h]
  rfl
theorem ext_getD : ∀ {l m : List Int}, l.length = m.length → (∀ j, l.getD j 0 = m.getD j 0) → l = m := by
  intro l m h e
  apply List.ext_getElem h
  intro i h1 h2
  have := e i
  rw [List.getD_eq_getElem?_getD, List.getD_eq_getElem?_getD, List.getElem?_eq_getElem h1, List.getElem?_eq_getElem h2] at this
  simpa using this
theorem take_snoc_int (xs : List Int) (k : Nat) (h : k < xs.length) : xs.take (k + 1) = xs.take k ++ [xs.getD k 0] := by
  rw [List.take_succ_eq_append_getElem h]; simp [h]
theorem sum_take (xs : List Int) (k : Nat) (h : k < xs.length) : (xs.take (k + 1)).sum = (xs.take k).sum + xs.getD k 0 := by
  rw [take_snoc_int xs k h]; simp
theorem sum_bound {c : Int} : ∀ (xs : List Int), (∀ x ∈ xs, 0 ≤ x ∧ x ≤ c) → 0 ≤ xs.sum ∧ xs.sum ≤ c * xs.length
  | [], _ => by simp
  | x :: xs, h => by
    have h1 := h x (by simp)
    have h2 := sum_bound xs (fun y hy => h y (by simp [hy]))
    simp only [List.sum_cons, List.length_cons, Int.natCast_add, Int.natCast_one, Int.mul_add, Int.mul_one]
    omega
def sideB (p c : Int) (xs : List Int) : Bool := decide ((xs.length : Int) = p + 1) && xs.all (fun x => inB x 0 c) && decide (xs.sum ≤ c)
theorem inB_iff {n a b : Int} : inB n a b = true ↔ a ≤ n ∧ n ≤ b := by simp [inB]
theorem sideB_iff {p c : Int} {xs : List Int} : sideB p c xs = true ↔ (xs.length : Int) = p + 1 ∧ (∀ x ∈ xs, 0 ≤ x ∧ x ≤ c) ∧ xs.sum ≤ c := by
  simp [sideB, inB, and_assoc]
end Go.Proofs.YtnlclmlnpkncoaaGreat
namespace Go.Proofs.YtnlclmlnpkncoaaGreat
open Go.ChangeShapes Go.WideShapes Go.ChangeAt Go.RowKit
set_option linter.unusedVariables false
set_option linter.unusedSimpArgs false
def Pays (fn B : Nat) (xs : List Int) (w : World) : Prop :=
  (∀ (args : Array Value) (w' : World), (callFunc fn args).run Tryz.prog w' = .ok (.enter fn args) w') ∧
  ∀ w' : World, Below w.heap.size w w' → ∀ i : Nat, i < xs.length → Calls Tryz.prog fn #[.int .i64 i, .pointer (some ⟨B, 0, none⟩)] w' fun e w'' => e = .returned (.int .i64 (xs.getD i 0)) ∧ Below w'.heap.size w' w''
theorem Pays.below {fn B : Nat} {xs : List Int} {w w1 : World} (h : Pays fn B xs w) (hb : Below w.heap.size w w1) : Pays fn B xs w1 :=
  ⟨h.1, fun w' hw => h.2 w' (chain hb hw)⟩
theorem Pays.drew {fn B : Nat} {xs : List Int} {w : World} (h : Pays fn B xs w) : Pays fn B xs w.drew := h.below (Below.refl _ _).drew
abbrev fv (fn B : Nat) : Value := .func (.func fn) #[] #[.pointer (some ⟨B, 0, none⟩)]
theorem sum_nonneg : ∀ (xs : List Int), (∀ x ∈ xs, 0 ≤ x) → 0 ≤ xs.sum
  | [], _ => by simp
  | x :: xs, h => by
    have h1 := h x (by simp)
    have h2 := sum_nonneg xs (fun y hy => h y (by simp [hy]))
    simp only [List.sum_cons]
    omega
theorem sum_take_le (xs : List Int) (k : Nat) (h : ∀ x ∈ xs, 0 ≤ x) : (xs.take k).sum ≤ xs.sum := by
  have h1 : xs.sum = (xs.take k).sum + (xs.drop k).sum := by rw [← List.sum_append, List.take_append_drop]
  have h2 := sum_nonneg (xs.drop k) (fun x hx => h x (List.mem_of_mem_drop hx))
  omega
def chkB (c : Int) (xs : List Int) : Bool := xs.all (fun x => inB x 0 c) && decide (xs.sum ≤ c)
theorem sideB_chk (p c : Int) (xs : List Int) : sideB p c xs = (decide ((xs.length : Int) = p + 1) && chkB c xs) := by simp [sideB, chkB, Bool.and_assoc]
set_option maxHeartbeats 2000000 in
theorem hasCheckers_any (p c h s : Int) (a : Option Addr) (n cap : Nat) (xs : List Int) (w : World) (g : vB p c h s = true) (hn : xs.length = n) (hle : n ≤ 9223372036854775807) (hr : IRow w a xs) :
    Calls Tryz.prog 118 #[.agg #[.int .i64 p, .int .i64 c, .int .i64 h, .int .i64 s], .slice a n cap] w fun e w' => e = .returned (.bool (chkB c xs)) ∧ Below w.heap.size w w' := by
  have hv := vB_iff.1 g
  have cc0 : 1 ≤ c := hv.2.2.1
  have cc1 : c ≤ 15 := hv.2.2.2.1
  clear hv g
  have B0 := Blk.new w #[.int .i64 p, .int .i64 c, .int .i64 h, .int .i64 s] 25
  have hb : Below w.heap.size w (w.alloc (.cells #[.int .i64 p, .int .i64 c, .int .i64 h, .int .i64 s] 25)) := (Below.refl _ _).alloc (Nat.le_refl _) _
  obtain ⟨R, hR⟩ : ∃ R, chkB c xs = R := ⟨_, rfl⟩
  rw [hR]
  have hr0 := hr.below hb
  subst hn
  have HR := Lib.hid hR
  clear hR
  obtain ⟨x0, x1, x2, x3, xf, xl⟩ := B0.four
  go_enter Tryz.func118, Tryz.ntmps118
  go_wp2
  clear x0 x1 x2 x3 xf xl
  generalize (w.alloc (.cells #[.int .i64 p, .int .i64 c, .int .i64 h, .int .i64 s] 25)) = v0 at *
  go_loopg [5, 12] xs.length (fun m l i wr => ∃ k : Nat, k ≤ xs.length ∧ m = xs.length - k ∧ i = .int .i64 k ∧ l = .int .i64 (c - (xs.take k).sum) ∧ 0 ≤ (xs.take k).sum ∧ (xs.take k).sum ≤ c ∧ (∀ j, j < k → inB (xs.getD j 0) 0 c = true) ∧ Below w.heap.size w wr)
  case atStart => exact ⟨0, by omega, by omega, rfl, by simp, by simp, by simp; omega, fun j hj => by omega, hb⟩
  case round =>
    obtain ⟨k, hk, hm, rfl, rfl, s0, s1, hall, hbel⟩ := hrel
    have HA := Lib.hid hall
    clear hall
    by_cases hlt : k < xs.length
    · have hlt' : (k : Int) < (xs.length : Int) := by omega
      have hk0 : (0 : Int) ≤ (k : Int) := by omega
      obtain ⟨b, o, rfl, hc⟩ := hr.below hbel k hlt
      have hst := sum_take xs k hlt
      obtain ⟨v, hv⟩ : ∃ v, xs.getD k 0 = v := ⟨_, rfl⟩
      obtain ⟨S, hS⟩ : ∃ S, (xs.take k).sum = S := ⟨_, rfl⟩
      rw [hv] at hc hst
      rw [hS] at s0 s1 hst ⊢
      have HV := Lib.hid hv
      have HS := Lib.hid hst
      clear hv hst hS
      have hmem : v ∈ xs := HV.out ▸ getD_mem hlt
      by_cases d1 : v < 0
      · have hR2 : R = false := by
          rw [← HR.out]
          have : xs.all (fun x => inB x 0 c) = false := by
            rw [List.all_eq_false]
            exact ⟨v, hmem, by simp [inB]; omega⟩
          simp [chkB, this]
        subst hR2
        go_wp2
        go_ret
        exact ⟨rfl, hbel⟩
      · by_cases d2 : c - S < v
        · have hR2 : R = false := by
            rw [← HR.out]
            by_cases hnn : ∀ x ∈ xs, 0 ≤ x
            · have h1 := sum_take_le xs (k + 1) hnn
              have h2 := HS.out
              have : decide (xs.sum ≤ c) = false := by rw [decide_eq_false_iff_not]; omega
              simp [chkB, this]
            · have : xs.all (fun x => inB x 0 c) = false := by
                rw [List.all_eq_false]
                simp only [Classical.not_forall] at hnn
                obtain ⟨x, hx, hx0⟩ := hnn
                exact ⟨x, hx, by simp [inB]; omega⟩
              simp [chkB, this]
          subst hR2
          go_wp2
          go_ret
          exact ⟨rfl, hbel⟩
        · go_wp2
          go_roundg (xs.length - (k + 1))
          case measure => omega
          case rel =>
            refine ⟨k + 1, by omega, rfl, by go_num, by rw [HS.out]; congr 1; omega, by rw [HS.out]; omega, by rw [HS.out]; omega, fun j hj => ?_, hbel⟩
            by_cases hjk : j = k
            · subst hjk
              rw [HV.out]
              simp [inB]
              omega
            · exact HA.out j (by omega)
    · obtain rfl : k = xs.length := by omega
      have hxs : ∀ x ∈ xs, inB x 0 c = true := fun x hx => by
        obtain ⟨j, hj, rfl⟩ := List.mem_iff_getElem.1 hx
        have := HA.out j hj
        rwa [show xs.getD j 0 = xs[j] by simp [hj]] at this
      have hR2 : R = true := by
        rw [← HR.out]
        have h1 : xs.all (fun x => inB x 0 c) = true := List.all_eq_true.2 hxs
        rw [List.take_length] at s1
        simp [chkB, h1, s1]
      subst hR2
      go_wp2
      go_ret
      exact ⟨rfl, hbel⟩
end Go.Proofs.YtnlclmlnpkncoaaGreat
namespace Go.Proofs.YtnlclmlnpkncoaaGreat
open Go.ChangeShapes Go.WideShapes Go.ChangeAt Go.RowKit
set_option linter.unusedVariables false
set_option linter.unusedSimpArgs false
set_option maxRecDepth 4000
def okP (p c h s : Int) (xs : List Int) : Bool := vB p c h s && sideB (h - 1) c xs
def bcE (p c h s : Int) (xs : List Int) : Int := if vB p c h s = true then (if sideB (h - 1) c xs = true then 0 else 2) else 1
theorem okP_of {p c h s : Int} {xs : List Int} (e : bcE p c h s xs = 0) : okP p c h s xs = true := by
  unfold bcE at e
  split at e
  · rename_i g
    split at e
    · rename_i q; simp [okP, g, q]
    · simp at e
  · simp at e
theorem bcE_of {p c h s : Int} {xs : List Int} (e : okP p c h s xs = true) : bcE p c h s xs = 0 := by
  simp only [okP, Bool.and_eq_true] at e
  simp [bcE, e.1, e.2]
theorem okP_parts {p c h s : Int} {xs : List Int} (g : okP p c h s xs = true) : (xs.length : Int) = h ∧ h ≤ 24 ∧ (∀ x ∈ xs, 0 ≤ x ∧ x ≤ 15) ∧ xs.sum ≤ c ∧ 1 ≤ h ∧ 1 ≤ c ∧ c ≤ 15 ∧ 0 ≤ xs.sum := by
  simp only [okP, Bool.and_eq_true] at g
  have hv := vB_iff.1 g.1
  obtain ⟨m1, m2, m3⟩ := sideB_iff.1 g.2
  exact ⟨by omega, by omega, fun x hx => by have := m2 x hx; omega, m3, by omega, by omega, by omega, (sum_bound xs m2).1⟩
set_option maxHeartbeats 1000000 in
theorem isBearoffM_any (p c h s : Int) (a : Option Addr) (n cap : Nat) (xs : List Int) (w : World) (g : vB p c h s = true) (hn : xs.length = n) (hle : n ≤ 1048576) (hr : IRow w a xs) :
    Calls Tryz.prog 85 #[.agg #[.int .i64 p, .int .i64 c, .int .i64 h, .int .i64 s], .slice a n cap] w fun e w' => e = .returned (.bool (sideB (h - 1) c xs)) ∧ Below w.heap.size w w' := by
  have hK := fun W (r : IRow W a xs) => hasCheckers_any p c h s a n cap xs W g hn (by omega) r
  have HK := Lib.hid hK
  have hv := vB_iff.1 g
  have h0 : 1 ≤ h := by omega
  have h1 : h ≤ 24 := by omega
  clear hv g hK
  have B0 := Blk.new w #[.int .i64 p, .int .i64 c, .int .i64 h, .int .i64 s] 25
  have hb : Below w.heap.size w (w.alloc (.cells #[.int .i64 p, .int .i64 c, .int .i64 h, .int .i64 s] 25)) := (Below.refl _ _).alloc (Nat.le_refl _) _
  rw [sideB_chk, hn]
  obtain ⟨x0, x1, x2, x3, xf, xl⟩ := B0.four
  by_cases hlen : (n : Int) = h
  · have e0 : ((n : Int) == h) = true := by rw [beq_iff_eq]; exact hlen
    rw [decide_eq_true (by omega : (n : Int) = h - 1 + 1), Bool.true_and]
    have HL := Lib.hid hlen
    clear hlen
    go_enter Tryz.func85, Tryz.ntmps85
    go_wp2_with (go_at_call 118; refine (HK.out _ (hr.below hb)).mono ?_; rintro e w1 ⟨rfl, hb1⟩)
    go_ret
    exact ⟨rfl, chain hb hb1⟩
  · have e0 : ((n : Int) == h) = false := by rw [beq_eq_false_iff_ne]; exact hlen
    rw [decide_eq_false (by omega : ¬ (n : Int) = h - 1 + 1), Bool.false_and]
    have HL := Lib.hid hlen
    clear hlen
    go_enter Tryz.func85, Tryz.ntmps85
    go_wp2
    go_ret
    exact ⟨rfl, hb⟩
set_option maxHeartbeats 2000000 in
theorem l10Valid_any (p c h s : Int) (a : Option Addr) (n cap : Nat) (xs : List Int) (w : World) (g : vB p c h s = true) (hn : xs.length = n) (hle : n ≤ 1048576) (hr : IRow w a xs) :
    Calls Tryz.prog 63 #[.agg #[.int .i64 p, .int .i64 c, .int .i64 h, .int .i64 s], .slice a n cap] w fun e w' => e = .returned (.bool (sideB (h - 1) c xs)) ∧ Below w.heap.size w w' := by
  have hv := vB_iff.1 g
  have h0 : 1 ≤ h := by omega
  have h1 : h ≤ 24 := by omega
  have cc0 : 1 ≤ c := hv.2.2.1
  have cc1 : c ≤ 15 := hv.2.2.2.1
  clear hv g
  have B0 := Blk.new w #[.int .i64 p, .int .i64 c, .int .i64 h, .int .i64 s] 25
  have hb : Below w.heap.size w (w.alloc (.cells #[.int .i64 p, .int .i64 c, .int .i64 h, .int .i64 s] 25)) := (Below.refl _ _).alloc (Nat.le_refl _) _
  obtain ⟨R, hR⟩ : ∃ R, sideB (h - 1) c xs = R := ⟨_, rfl⟩
  rw [hR]
  obtain ⟨x0, x1, x2, x3, xf, xl⟩ := B0.four
  by_cases hlen : (n : Int) = h
  · have e0 : ((n : Int) != h) = false := by rw [bne_eq_false_iff_eq]; exact hlen
    have hr0 := hr.below hb
    subst hn
    have HR := Lib.hid hR
    have HL := Lib.hid hlen
    clear hR hlen
    go_enter Tryz.func63, Tryz.ntmps63
    go_wp2
    clear x0 x1 x2 x3 xf xl
    generalize (w.alloc (.cells #[.int .i64 p, .int .i64 c, .int .i64 h, .int .i64 s] 25)) = v0 at *
    go_loopg [5, 6] xs.length (fun m l i wr => ∃ k : Nat, k ≤ xs.length ∧ m = xs.length - k ∧ i = .int .i64 k ∧ l = .int .i64 (c - (xs.take k).sum) ∧ 0 ≤ (xs.take k).sum ∧ (xs.take k).sum ≤ c ∧ (∀ j, j < k → inB (xs.getD j 0) 0 c = true) ∧ Below w.heap.size w wr)
    case atStart => exact ⟨0, by omega, by omega, rfl, by simp, by simp, by simp; omega, fun j hj => by omega, hb⟩
    case round =>
      obtain ⟨k, hk, hm, rfl, rfl, s0, s1, hall, hbel⟩ := hrel
      have HA := Lib.hid hall
      clear hall
      by_cases hlt : k < xs.length
      · have hlt' : (k : Int) < (xs.length : Int) := by omega
        have hk0 : (0 : Int) ≤ (k : Int) := by omega
        obtain ⟨b, o, rfl, hc⟩ := hr.below hbel k hlt
        have hst := sum_take xs k hlt
        obtain ⟨v, hv⟩ : ∃ v, xs.getD k 0 = v := ⟨_, rfl⟩
        obtain ⟨S, hS⟩ : ∃ S, (xs.take k).sum = S := ⟨_, rfl⟩
        rw [hv] at hc hst
        rw [hS] at s0 s1 hst ⊢
        have HV := Lib.hid hv
        have HS := Lib.hid hst
        clear hv hst hS
        have hmem : v ∈ xs := HV.out ▸ getD_mem hlt
        have hI := fun W => l01In_any v 0 (c - S) W
        by_cases hin : inB v 0 (c - S) = true
        · have d := inB_iff.1 hin
          have d1 : 0 ≤ v := d.1
          have d2 : v ≤ c - S := d.2
          rw [hin] at hI
          have HI := Lib.hid hI
          clear hI d hin
          go_wp2_with (go_at_call 64; refine (HI.out _).mono ?_; rintro e w5 ⟨rfl, rfl⟩)
          go_roundg (xs.length - (k + 1))
          case measure => omega
          case rel =>
            refine ⟨k + 1, by omega, rfl, by go_num, by rw [HS.out]; congr 1; omega, by rw [HS.out]; omega, by rw [HS.out]; omega, fun j hj => ?_, hbel⟩
            by_cases hjk : j = k
            · subst hjk
              rw [HV.out]
              simp [inB]
              omega
            · exact HA.out j (by omega)
        · have hR2 : R = false := by
            rw [← HR.out]
            by_cases hnn : ∀ x ∈ xs, 0 ≤ x
            · have h1 := sum_take_le xs (k + 1) hnn
              have h2 := HS.out
              have h3 : 0 ≤ v := hnn v hmem
              have h4 : ¬ v ≤ c - S := fun q => hin (inB_iff.2 ⟨h3, q⟩)
              have : decide (xs.sum ≤ c) = false := by rw [decide_eq_false_iff_not]; omega
              simp [sideB, this]
            · have : xs.all (fun x => inB x 0 c) = false := by
                rw [List.all_eq_false]
                simp only [Classical.not_forall] at hnn
                obtain ⟨x, hx, hx0⟩ := hnn
                exact ⟨x, hx, by simp [inB]; omega⟩
              simp [sideB, this]
          subst hR2
          replace hin : inB v 0 (c - S) = false := by simpa using hin
          rw [hin] at hI
          have HI := Lib.hid hI
          clear hI hin
          go_wp2_with (go_at_call 64; refine (HI.out _).mono ?_; rintro e w5 ⟨rfl, rfl⟩)
          go_ret
          exact ⟨rfl, hbel⟩
      · obtain rfl : k = xs.length := by omega
        have hxs : ∀ x ∈ xs, inB x 0 c = true := fun x hx => by
          obtain ⟨j, hj, rfl⟩ := List.mem_iff_getElem.1 hx
          have := HA.out j hj
          rwa [show xs.getD j 0 = xs[j] by simp [hj]] at this
        have hR2 : R = true := by
          rw [← HR.out]
          have h1 : xs.all (fun x => inB x 0 c) = true := List.all_eq_true.2 hxs
          have h2 := HL.out
          rw [List.take_length] at s1
          simp [sideB, h1, s1, h2]
        subst hR2
        go_wp2
        go_ret
        exact ⟨rfl, hbel⟩
  · have e0 : ((n : Int) != h) = true := by rw [bne_iff_ne]; exact hlen
    have hR2 : R = false := by
      rw [← hR]
      have : ¬ (xs.length : Int) = h - 1 + 1 := by omega
      simp [sideB, this]
      omega
    subst hR2
    clear hR
    go_enter Tryz.func63, Tryz.ntmps63
    go_wp2
    go_ret
    exact ⟨rfl, hb⟩
set_option maxHeartbeats 1000000 in
theorem bearoffCode_any (p c h s : Int) (a : Option Addr) (n cap : Nat) (xs : List Int) (w : World) (hn : xs.length = n) (hle : n ≤ 1048576) (hr : IRow w a xs) :
    Calls Tryz.prog 48 #[.agg #[.int .i64 p, .int .i64 c, .int .i64 h, .int .i64 s], .slice a n cap] w fun e w' => e = .returned (.int .i64 (bcE p c h s xs)) ∧ Below w.heap.size w w' := by
  have BV := Blk.new w #[.int .i64 p, .int .i64 c, .int .i64 h, .int .i64 s] 25
  have hb : Below w.heap.size w (w.alloc (.cells #[.int .i64 p, .int .i64 c, .int .i64 h, .int .i64 s] 25)) := (Below.refl _ _).alloc (Nat.le_refl _) _
  obtain ⟨x0, x1, x2, x3, xf, xl⟩ := BV.four
  have hV := fun W => valid_any p c h s W
  by_cases g : vB p c h s = true
  rotate_left
  · have e0 : bcE p c h s xs = 1 := by simp [bcE, g]
    rw [e0]
    replace g : vB p c h s = false := by simpa using g
    rw [g] at hV
    have HV := Lib.hid hV
    clear hV e0
    go_enter Tryz.func48, Tryz.ntmps48
    go_wp2_with (first | (go_at_call 67; refine (HV.out _).mono ?_; rintro e w1 ⟨rfl, hb1⟩; obtain ⟨x0, x1, x2, x3, xf, xl⟩ := (BV.below hb1).four))
    go_ret
    exact ⟨rfl, chain hb hb1⟩
  · have hS := fun W (r : IRow W a xs) => isBearoffM_any p c h s a n cap xs W g hn hle r
    by_cases sx : sideB (h - 1) c xs = true
    rotate_left
    · have e0 : bcE p c h s xs = 2 := by simp [bcE, g, sx]
      rw [e0]
      replace sx : sideB (h - 1) c xs = false := by simpa using sx
      rw [g] at hV
      rw [sx] at hS
      have HV := Lib.hid hV
      have HS := Lib.hid hS
      clear hV hS e0 g sx
      go_enter Tryz.func48, Tryz.ntmps48
      go_wp2_with (first | (go_at_call 67; refine (HV.out _).mono ?_; rintro e w1 ⟨rfl, hb1⟩; obtain ⟨x0, x1, x2, x3, xf, xl⟩ := (BV.below hb1).four) | (go_at_call 85; refine (HS.out _ (hr.below (chain hb hb1))).mono ?_; rintro e w2 ⟨rfl, hb2⟩))
      go_ret
      exact ⟨rfl, chain (chain hb hb1) hb2⟩
    · have e0 : bcE p c h s xs = 0 := by simp [bcE, g, sx]
      rw [e0]
      rw [g] at hV
      rw [sx] at hS
      have HV := Lib.hid hV
      have HS := Lib.hid hS
      clear hV hS e0 g sx
      go_enter Tryz.func48, Tryz.ntmps48
      go_wp2_with (first | (go_at_call 67; refine (HV.out _).mono ?_; rintro e w1 ⟨rfl, hb1⟩; obtain ⟨x0, x1, x2, x3, xf, xl⟩ := (BV.below hb1).four) | (go_at_call 85; refine (HS.out _ (hr.below (chain hb hb1))).mono ?_; rintro e w2 ⟨rfl, hb2⟩))
      go_ret
      exact ⟨rfl, chain (chain hb hb1) hb2⟩
set_option maxHeartbeats 1000000 in
theorem l10Code_any (p c h s : Int) (a : Option Addr) (n cap : Nat) (xs : List Int) (w : World) (hn : xs.length = n) (hle : n ≤ 1048576) (hr : IRow w a xs) :
    Calls Tryz.prog 51 #[.agg #[.int .i64 p, .int .i64 c, .int .i64 h, .int .i64 s], .slice a n cap] w fun e w' => e = .returned (.int .i64 (bcE p c h s xs)) ∧ Below w.heap.size w w' := by
  have BV := Blk.new w #[.int .i64 p, .int .i64 c, .int .i64 h, .int .i64 s] 25
  have hb : Below w.heap.size w (w.alloc (.cells #[.int .i64 p, .int .i64 c, .int .i64 h, .int .i64 s] 25)) := (Below.refl _ _).alloc (Nat.le_refl _) _
  obtain ⟨x0, x1, x2, x3, xf, xl⟩ := BV.four
  have hV := fun W => specIsVariant_any p c h s W
  by_cases g : vB p c h s = true
  rotate_left
  · have e0 : bcE p c h s xs = 1 := by simp [bcE, g]
    rw [e0]
    replace g : vB p c h s = false := by simpa using g
    rw [g] at hV
    have HV := Lib.hid hV
    clear hV e0
    go_enter Tryz.func51, Tryz.ntmps51
    go_wp2_with (first | (go_at_call 31; refine (HV.out _).mono ?_; rintro e w1 ⟨rfl, hb1⟩; obtain ⟨x0, x1, x2, x3, xf, xl⟩ := (BV.below hb1).four))
    go_ret
    exact ⟨rfl, chain hb hb1⟩
  · have hS := fun W (r : IRow W a xs) => l10Valid_any p c h s a n cap xs W g hn hle r
    by_cases sx : sideB (h - 1) c xs = true
    rotate_left
    · have e0 : bcE p c h s xs = 2 := by simp [bcE, g, sx]
      rw [e0]
      replace sx : sideB (h - 1) c xs = false := by simpa using sx
      rw [g] at hV
      rw [sx] at hS
      have HV := Lib.hid hV
      have HS := Lib.hid hS
      clear hV hS e0 g sx
      go_enter Tryz.func51, Tryz.ntmps51
      go_wp2_with (first | (go_at_call 31; refine (HV.out _).mono ?_; rintro e w1 ⟨rfl, hb1⟩; obtain ⟨x0, x1, x2, x3, xf, xl⟩ := (BV.below hb1).four) | (go_at_call 63; refine (HS.out _ (hr.below (chain hb hb1))).mono ?_; rintro e w2 ⟨rfl, hb2⟩))
      go_ret
      exact ⟨rfl, chain (chain hb hb1) hb2⟩
    · have e0 : bcE p c h s xs = 0 := by simp [bcE, g, sx]
      rw [e0]
      rw [g] at hV
      rw [sx] at hS
      have HV := Lib.hid hV
      have HS := Lib.hid hS
      clear hV hS e0 g sx
      go_enter Tryz.func51, Tryz.ntmps51
      go_wp2_with (first | (go_at_call 31; refine (HV.out _).mono ?_; rintro e w1 ⟨rfl, hb1⟩; obtain ⟨x0, x1, x2, x3, xf, xl⟩ := (BV.below hb1).four) | (go_at_call 63; refine (HS.out _ (hr.below (chain hb hb1))).mono ?_; rintro e w2 ⟨rfl, hb2⟩))
      go_ret
      exact ⟨rfl, chain (chain hb hb1) hb2⟩
set_option maxHeartbeats 1000000 in
theorem checkersOf_any (a : Option Addr) (n cap : Nat) (xs : List Int) (w : World) (hn : xs.length = n) (hle : n ≤ 1000) (hx : ∀ x ∈ xs, 0 ≤ x ∧ x ≤ 1000) (hr : IRow w a xs) :
    Calls Tryz.prog 57 #[.slice a n cap] w fun e w' => e = .returned (.int .i64 xs.sum) ∧ w = w' := by
  subst hn
  go_enter Tryz.func57, Tryz.ntmps57
  go_wp2
  go_loopg [3, 8] xs.length (fun m q i wr => w = wr ∧ ∃ k : Nat, k ≤ xs.length ∧ m = xs.length - k ∧ i = .int .i64 k ∧ q = .int .i64 (xs.take k).sum)
  case atStart => exact ⟨rfl, 0, by omega, by omega, rfl, rfl⟩
  case round =>
    obtain ⟨rfl, k, hk, hm, rfl, rfl⟩ := hrel
    by_cases hlt : k < xs.length
    · have hlt' : (k : Int) < (xs.length : Int) := by omega
      obtain ⟨b, o, rfl, hc⟩ := hr k hlt
      have hb := sum_bound (c := 1000) (xs.take k) (fun x h => hx x (List.mem_of_mem_take h))
      have hl : (xs.take k).length ≤ 1000 := by simp; omega
      have hb0 : 0 ≤ (xs.take k).sum := hb.1
      have hb1 : (xs.take k).sum ≤ 1000000 := by have := hb.2; omega
      have hg := hx _ (getD_mem hlt)
      obtain ⟨v, hv⟩ : ∃ v, xs.getD k 0 = v := ⟨_, rfl⟩
      have hst := sum_take xs k hlt
      rw [hv] at hc hg hst
      have g0 : 0 ≤ v := hg.1
      have g1 : v ≤ 1000 := hg.2
      have HS := Lib.hid hst
      clear hst hv hb hl hg
      go_wp2
      go_roundg (xs.length - (k + 1))
      case measure => omega
      case rel => exact ⟨rfl, k + 1, by omega, rfl, by go_num, by rw [HS.out]⟩
    · obtain rfl : k = xs.length := by omega
      go_wp2
      go_ret
      exact ⟨by simp, rfl⟩
set_option maxHeartbeats 1000000 in
theorem l10Sum_any (a : Option Addr) (n cap : Nat) (xs : List Int) (w : World) (hn : xs.length = n) (hle : n ≤ 1000) (hx : ∀ x ∈ xs, 0 ≤ x ∧ x ≤ 1000) (hr : IRow w a xs) :
    Calls Tryz.prog 56 #[.slice a n cap] w fun e w' => e = .returned (.int .i64 xs.sum) ∧ w = w' := by
  subst hn
  go_enter Tryz.func56, Tryz.ntmps56
  go_wp2
  go_loopg [3, 4] xs.length (fun m q i wr => w = wr ∧ ∃ k : Nat, k ≤ xs.length ∧ m = xs.length - k ∧ i = .int .i64 k ∧ q = .int .i64 (xs.take k).sum)
  case atStart => exact ⟨rfl, 0, by omega, by omega, rfl, rfl⟩
  case round =>
    obtain ⟨rfl, k, hk, hm, rfl, rfl⟩ := hrel
    by_cases hlt : k < xs.length
    · have hlt' : (k : Int) < (xs.length : Int) := by omega
      obtain ⟨b, o, rfl, hc⟩ := hr k hlt
      have hb := sum_bound (c := 1000) (xs.take k) (fun x h => hx x (List.mem_of_mem_take h))
      have hl : (xs.take k).length ≤ 1000 := by simp; omega
      have hb0 : 0 ≤ (xs.take k).sum := hb.1
      have hb1 : (xs.take k).sum ≤ 1000000 := by have := hb.2; omega
      have hg := hx _ (getD_mem hlt)
      obtain ⟨v, hv⟩ : ∃ v, xs.getD k 0 = v := ⟨_, rfl⟩
      have hst := sum_take xs k hlt
      rw [hv] at hc hg hst
      have g0 : 0 ≤ v := hg.1
      have g1 : v ≤ 1000 := hg.2
      have HS := Lib.hid hst
      clear hst hv hb hl hg
      go_wp2
      go_roundg (xs.length - (k + 1))
      case measure => omega
      case rel => exact ⟨rfl, k + 1, by omega, rfl, by go_num, by rw [HS.out]⟩
    · obtain rfl : k = xs.length := by omega
      go_wp2
      go_ret
      exact ⟨by simp, rfl⟩
theorem ints_one {xs : List Int} : ∀ v ∈ ints xs, v.oneCell' = true := fun v hv => by
  obtain ⟨x, _, rfl⟩ := List.mem_map.1 hv
  rfl
def RowGot (xs : List Int) (w : World) (e : Ending) (w' : World) : Prop :=
  ∃ g k, e = .returned (.slice (some ⟨g, 0, none⟩) xs.length k) ∧ w.heap.size ≤ g ∧ Row w' g xs ∧ Below w.heap.size w w'
theorem Own.row {w : World} {base : Nat} {v : Value} {xs : List Int} (h : Own w base v xs) (h0 : 0 < xs.length) : ∃ g k, v = .slice (some ⟨g, 0, none⟩) xs.length k ∧ base ≤ g ∧ Row w g xs := by
  obtain ⟨a, k, rfl⟩ := h.form
  rcases h.osl with ⟨rfl, rfl⟩ | ⟨g, rfl, h1, h2, r⟩
  · simp at h0
  · exact ⟨g, k, rfl, h1, r⟩
set_option maxRecDepth 8000 in
set_option maxHeartbeats 1000000 in
theorem clone_any (b o n cap : Nat) (xs : List Int) (w : World) (hn : xs.length = n) (h0 : 0 < n) (hle : n ≤ 1048576) (hr : IRow w (some ⟨b, o, none⟩) xs) :
    Calls Tryz.prog 88 #[.slice (some ⟨b, o, none⟩) n cap] w (RowGot xs w) := by
  obtain ⟨i0, hi, hz0, hz1, hz2⟩ := info_parts infoI64
  have hrow : ∀ (W : World), IRow W (some ⟨b, o, none⟩) xs → ∀ (j : Nat) (u : Value), (ints xs)[j]? = some u → W.cell? ((⟨b, o, none⟩ : Addr).add j) = some u := by
    intro W hW j u hj
    obtain ⟨hlt, rfl⟩ := List.getElem?_eq_some_iff.1 hj
    have hlt2 : j < xs.length := by simpa [ints] using hlt
    obtain ⟨b', o', e, hc⟩ := hW j hlt2
    simp at e
    obtain ⟨rfl, rfl⟩ := e
    rw [show (⟨b, o, none⟩ : Addr).add j = ⟨b, o + j, none⟩ from by unfold Addr.add; split <;> simp_all, hc]
    simp [ints, hlt2]
  have hint : (ints xs).length = n * 1 := by simp [ints, hn]
  have HRW := Lib.hid hrow
  have HIN := Lib.hid hint
  have HR := Lib.hid hr
  have HX := Lib.hid hn
  clear hrow hint hr hn
  have hnil : ∀ W : World, (binOp .eql 26 (.slice (some ⟨b, o, none⟩) n cap) (.slice none 0 0)).run Tryz.prog W = .ok (.bool false) W := fun W => Lib.run_eql_slice_nil W _ _ _ _ _ _ _ Tryz.underlying26
  go_enter Tryz.func88, Tryz.ntmps88
  go_wp2_with (at_builtin; (refine wpList_append_grows _ rfl (.tmp 5) (.tmp 6) 26 rfl 2 i0 (.int .i64 0) 1 8 Tryz.underlying26 hi hz0 hz1 hz2 rfl (by decide) _ 0 0 [] rfl (by simp) rfl (by simp) ⟨b, o, none⟩ n cap (ints xs) rfl HIN.out (HRW.out _ (HR.out.alloc _)) ints_one (by omega) (by unfold maxLen; omega) (by omega) ?_))
  intro v' w' hown hgrow
  have ho : Own w' (w.alloc (.cells #[] 2)).heap.size v' xs := by
    show w'.ownsRow _ _ 1 v' xs.length (ints xs)
    rw [HX.out]
    simpa using hown
  obtain ⟨g, k, rfl, hg, r⟩ := (ho.mono (show w.heap.size ≤ _ by simp)).row (by have := HX.out; omega)
  have hb : Below w.heap.size w w' := from_alloc ⟨hgrow.os, hgrow.tape, hgrow.output, hgrow.size, fun k hk => hgrow.block k hk (by simp)⟩
  clear hown hgrow ho
  go_wp2
  go_ret
  exact ⟨g, k, rfl, hg, r, hb⟩
set_option maxHeartbeats 1000000 in
theorem equal_any (a b : Option Addr) (n m c1 c2 : Nat) (xs ys : List Int) (w : World) (hn : xs.length = n) (hm : ys.length = m) (hle : n ≤ 1048576) (hle2 : m ≤ 1048576) (ha : IRow w a xs) (hb : IRow w b ys) :
    Calls Tryz.prog 98 #[.slice a n c1, .slice b m c2] w fun e w' => e = .returned (.bool (decide (xs = ys))) ∧ Below w.heap.size w w' := by
  subst hn hm
  obtain ⟨R, hR⟩ : ∃ R, decide (xs = ys) = R := ⟨_, rfl⟩
  rw [hR]
  have HR := Lib.hid hR
  clear hR
  by_cases hl : xs.length = ys.length
  · have hln : ((xs.length : Int) != (ys.length : Int)) = false := by rw [bne_eq_false_iff_eq]; omega
    have HLN := Lib.hid hl
    clear hl
    go_enter Tryz.func98, Tryz.ntmps98
    go_wp2_with fail
    go_loopg [13] xs.length (fun m i wr => ∃ k : Nat, k ≤ xs.length ∧ m = xs.length - k ∧ i = .int .i64 k ∧ (∀ j, j < k → xs.getD j 0 = ys.getD j 0) ∧ Below w.heap.size w wr)
    case atStart => exact ⟨0, by omega, by omega, rfl, fun j hj => by omega, Below.refl _ _⟩
    case round =>
      obtain ⟨k, hk, hm, rfl, hall, hbel⟩ := hrel
      have HA := Lib.hid hall
      have HM := Lib.hid hm
      clear hall hm
      by_cases hlt : k < xs.length
      · have hlt' : (k : Int) < (xs.length : Int) := by omega
        have hlt2 : (k : Int) < (ys.length : Int) := by have := HLN.out; omega
        have hk0 : (0 : Int) ≤ (k : Int) := by omega
        obtain ⟨b1, o1, rfl, hc1⟩ := ha.below hbel k hlt
        obtain ⟨b2, o2, rfl, hc2⟩ := hb.below hbel k (by omega)
        obtain ⟨u, hu⟩ : ∃ u, xs.getD k 0 = u := ⟨_, rfl⟩
        obtain ⟨v, hv⟩ : ∃ v, ys.getD k 0 = v := ⟨_, rfl⟩
        rw [hu] at hc1
        rw [hv] at hc2
        have HU := Lib.hid hu
        have HV := Lib.hid hv
        clear hu hv
        by_cases huv : u = v
        · subst huv
          go_wp2_with fail
          go_quiet (fail)
          go_wp2
          go_roundg (xs.length - (k + 1))
          case measure => have := HM.out; omega
          case rel =>
            refine ⟨k + 1, by omega, rfl, by go_num, fun j hj => ?_, below_drewN hbel _⟩
            by_cases e : j = k
            · subst e; rw [HU.out, HV.out]
            · exact HA.out j (by omega)
        · have hne : (u != v) = true := by rw [bne_iff_ne]; exact huv
          have hno : R = false := by
            rw [← HR.out, decide_eq_false_iff_not]
            intro e
            subst e
            exact huv (HU.out.symm.trans HV.out)
          subst hno
          clear huv
          go_wp2_with fail
          go_quiet (fail)
          go_wp2
          go_ret
          exact ⟨rfl, below_drewN hbel _⟩
      · obtain rfl : k = xs.length := by omega
        have hlt' : ¬ ((xs.length : Int) < (xs.length : Int)) := by omega
        have hyes : R = true := by
          rw [← HR.out, decide_eq_true_iff]
          apply List.ext_getElem HLN.out
          intro j h1 h2
          have := HA.out j h1
          rwa [show xs.getD j 0 = xs[j] by simp [h1], show ys.getD j 0 = ys[j] by simp [h2]] at this
        subst hyes
        go_wp2
        go_ret
        exact ⟨rfl, hbel⟩
  · have hln : ((xs.length : Int) != (ys.length : Int)) = true := by rw [bne_iff_ne]; omega
    have hno : R = false := by
      rw [← HR.out, decide_eq_false_iff_not]
      intro e
      exact hl (by rw [e])
    subst hno
    clear hl
    go_enter Tryz.func98, Tryz.ntmps98
    go_wp2_with fail
    go_ret
    exact ⟨rfl, Below.refl _ _⟩
end Go.Proofs.YtnlclmlnpkncoaaGreat
