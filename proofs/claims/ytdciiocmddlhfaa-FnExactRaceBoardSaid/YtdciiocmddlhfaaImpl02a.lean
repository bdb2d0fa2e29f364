/- Contracts of the program's functions of chapter 2: the table of a board and its views. -/
import Derived.Test.YtdciiocmddlhfaaM02
import Derived.Test.YtdciiocmddlhfaaBoardLaws
import Derived.Deep.RegionHeld3
import Derived.Shelf.Abstract
import Derived.Laws.EntriesVeiled
namespace Go.Proofs.Ytdciiocmddlhfaa
open Go.ChangeShapes Go.WideShapes Go.ChangeAt Go.RowKit
set_option linter.unusedVariables false
set_option linter.unusedSimpArgs false

/-- A view: a function value of one capture that answers for each place of a row, however memory has grown since. -/
def Pays (fn B : Nat) (xs : List Int) (w : World) : Prop :=
  (∀ (args : Array Value) (w' : World), (callFunc fn args).run Try.prog w' = .ok (.enter fn args) w') ∧
  ∀ w' : World, Below w.heap.size w w' → ∀ i : Nat, i < xs.length → Calls Try.prog fn #[.int .i64 i, .pointer (some ⟨B, 0, none⟩)] w' fun e w'' => e = .returned (.int .i64 (xs.getD i 0)) ∧ Below w'.heap.size w' w''
theorem Pays.below {fn B : Nat} {xs : List Int} {w w1 : World} (h : Pays fn B xs w) (hb : Below w.heap.size w w1) : Pays fn B xs w1 :=
  ⟨h.1, fun w' hw => h.2 w' (chain hb hw)⟩
theorem Pays.drew {fn B : Nat} {xs : List Int} {w : World} (h : Pays fn B xs w) : Pays fn B xs w.drew := h.below (Below.refl _ _).drew
/-- A block of three cells: each cell by itself, and the marks. -/
theorem Blk.tri {w : World} {g : Nat} {v0 v1 v2 : Value} {t : TypeId} (h : Blk w g #[v0, v1, v2] t) :
    w.cell? ⟨g, 0, none⟩ = some v0 ∧ w.cell? ⟨g, 1, none⟩ = some v1 ∧ w.cell? ⟨g, 2, none⟩ = some v2 ∧ (∀ i, w.frozen? ⟨g, i, none⟩ = false) ∧ g < w.heap.size :=
  ⟨by simpa using h.cell 0, by simpa using h.cell 1, by simpa using h.cell 2, fun i => h.free i, h.lt⟩
/-- A view's value. -/
abbrev fv (fn B : Nat) : Value := .func (.func fn) #[] #[.pointer (some ⟨B, 0, none⟩)]

set_option maxHeartbeats 1000000 in
theorem own_pays (B : Nat) (a1 a2 : Option Addr) (n1 c1 n2 c2 : Nat) (xs : List Int) (w : World) (hB : Blk w B #[.slice a1 n1 c1, .slice a2 n2 c2] 26) (hn : xs.length = n1) (hr : IRow w a1 xs) :
    Pays 37 B xs w := by
  refine ⟨enters_of (fn := Try.f37) (by kernel_rfl) (by kernel_rfl) rfl, fun w' hw i hi => ?_⟩
  obtain ⟨b, o, rfl, hc⟩ := hr.below hw i hi
  obtain ⟨x0, x1, xf, xl⟩ := (hB.below hw).two
  obtain ⟨v, hv⟩ : ∃ v, xs.getD i 0 = v := ⟨_, rfl⟩
  rw [hv] at hc ⊢
  have hi2 : i < n1 := by omega
  clear hv hB hr
  go_enter Try.func37, Try.ntmps37
  go_wp2
  go_ret
  exact ⟨rfl, Below.refl _ _⟩
set_option maxHeartbeats 1000000 in
theorem other_pays (B : Nat) (a1 a2 : Option Addr) (n1 c1 n2 c2 : Nat) (xs : List Int) (w : World) (hB : Blk w B #[.slice a1 n1 c1, .slice a2 n2 c2] 26) (hn : xs.length = n2) (hr : IRow w a2 xs) :
    Pays 38 B xs w := by
  refine ⟨enters_of (fn := Try.f38) (by kernel_rfl) (by kernel_rfl) rfl, fun w' hw i hi => ?_⟩
  obtain ⟨b, o, rfl, hc⟩ := hr.below hw i hi
  obtain ⟨x0, x1, xf, xl⟩ := (hB.below hw).two
  obtain ⟨v, hv⟩ : ∃ v, xs.getD i 0 = v := ⟨_, rfl⟩
  rw [hv] at hc ⊢
  have hi2 : i < n2 := by omega
  clear hv hB hr
  go_enter Try.func38, Try.ntmps38
  go_wp2
  go_ret
  exact ⟨rfl, Below.refl _ _⟩
/-- The table of a board. -/
abbrev tv (p : Int) (f1 f2 B : Nat) : Value := .agg #[.int .i64 p, fv f1 B, fv f2 B]
set_option maxHeartbeats 1000000 in
theorem countsOf_any (p c h s : Int) (a1 a2 : Option Addr) (n1 c1 n2 c2 : Nat) (xs ys : List Int) (w : World) (h1 : xs.length = n1) (h2 : ys.length = n2) (r1 : IRow w a1 xs) (r2 : IRow w a2 ys) :
    Calls Try.prog 32 #[.agg #[.int .i64 p, .int .i64 c, .int .i64 h, .int .i64 s], .agg #[.slice a1 n1 c1, .slice a2 n2 c2]] w fun e w' => ∃ B, e = .returned (tv p 37 38 B) ∧ Pays 37 B xs w' ∧ Pays 38 B ys w' ∧ Below w.heap.size w w' := by
  go_enter Try.func32, Try.ntmps32
  go_wp2
  have hb : Below w.heap.size w (((w.alloc (.cells #[.int .i64 p, .int .i64 c, .int .i64 h, .int .i64 s] 29)).alloc (.cells #[.slice a1 n1 c1, .slice a2 n2 c2] 26)).alloc (.cells #[.int .i64 p, fv 37 (w.heap.size + 1), fv 38 (w.heap.size + 1)] 53)) :=
    (((Below.refl _ _).alloc (Nat.le_refl _) _).alloc (by simp) _).alloc (by simp <;> omega) _
  have B1 : Blk ((w.alloc (.cells #[.int .i64 p, .int .i64 c, .int .i64 h, .int .i64 s] 29)).alloc (.cells #[.slice a1 n1 c1, .slice a2 n2 c2] 26)) (w.heap.size + 1) #[.slice a1 n1 c1, .slice a2 n2 c2] 26 := by
    have := Blk.new (w.alloc (.cells #[.int .i64 p, .int .i64 c, .int .i64 h, .int .i64 s] 29)) #[.slice a1 n1 c1, .slice a2 n2 c2] 26
    simpa using this
  have B2 := B1.alloc (.cells #[.int .i64 p, fv 37 (w.heap.size + 1), fv 38 (w.heap.size + 1)] 53)
  refine bodyPost_ret (v := tv p 37 38 (w.heap.size + 1)) (by simp [results, Try.results32, go_sem]) rfl ⟨w.heap.size + 1, rfl, own_pays _ _ _ _ _ _ _ _ _ B2 h1 (r1.below hb), other_pays _ _ _ _ _ _ _ _ _ B2 h2 (r2.below hb), hb⟩
set_option maxHeartbeats 2000000 in
theorem checkers_any (p : Int) (f1 f2 B0 fn B : Nat) (xs : List Int) (w : World) (p0 : 0 ≤ p) (p1 : p ≤ 24) (hn : (xs.length : Int) = p + 1) (hx : ∀ x ∈ xs, 0 ≤ x ∧ x ≤ 1000) (hp : Pays fn B xs w) :
    Calls Try.prog 33 #[tv p f1 f2 B0, fv fn B] w fun e w' => e = .returned (.int .i64 xs.sum) ∧ Below w.heap.size w w' := by
  go_enter Try.func33, Try.ntmps33
  have hb : Below w.heap.size w (w.alloc (.cells #[.int .i64 p, fv f1 B0, fv f2 B0] 53)) := (Below.refl _ _).alloc (Nat.le_refl _) _
  have hp0 := hp.below hb
  have e199 := hp.1
  go_wp2
  generalize (w.alloc (.cells #[.int .i64 p, fv f1 B0, fv f2 B0] 53)) = v0 at *
  go_loopg [5, 10] xs.length (fun m q i wr => ∃ k : Nat, k ≤ xs.length ∧ m = xs.length - k ∧ i = .int .i64 k ∧ q = .int .i64 (xs.take k).sum ∧ Pays fn B xs wr ∧ Below w.heap.size w wr)
  case atStart => exact ⟨0, by omega, by omega, rfl, rfl, hp0, hb⟩
  case round =>
    obtain ⟨k, hk, hm, rfl, rfl, hpw, hbel⟩ := hrel
    by_cases hlt : k < xs.length
    · have hlt' : (k : Int) < p + 1 := by omega
      have hb := sum_bound (c := 1000) (xs.take k) (fun x h => hx x (List.mem_of_mem_take h))
      have hl : (xs.take k).length ≤ 1000 := by simp; omega
      have hb0 : 0 ≤ (xs.take k).sum := hb.1
      have hb1 : (xs.take k).sum ≤ 1000000 := by have := hb.2; omega
      have hg := hx _ (getD_mem hlt)
      have hpk := hpw.2 wr (Below.refl _ _) k hlt
      obtain ⟨v, hv⟩ : ∃ v, xs.getD k 0 = v := ⟨_, rfl⟩
      have hst := sum_take xs k hlt
      rw [hv] at hpk hg hst
      have g0 : 0 ≤ v := hg.1
      have g1 : v ≤ 1000 := hg.2
      have HS := Lib.hid hst
      have HP := Lib.hid hpk
      clear hst hv hb hl hg hpk
      go_wp2_with (go_at_fn fn; refine HP.out.mono ?_; rintro e w5 ⟨rfl, hb5⟩)
      go_roundg (xs.length - (k + 1))
      case measure => omega
      case rel => exact ⟨k + 1, by omega, rfl, by go_num, by rw [HS.out], hpw.below hb5, chain hbel hb5⟩
    · obtain rfl : k = xs.length := by omega
      have hlt' : ¬ ((xs.length : Nat) : Int) < p + 1 := by omega
      go_wp2
      go_ret
      exact ⟨by simp, hbel⟩
theorem lastL_pos {xs : List Int} {k : Nat} (h : 0 < xs.getD k 0) : lastL xs (k + 1) = (k : Int) := by rw [lastL, if_pos h]
theorem lastL_not {xs : List Int} {k : Nat} (h : xs.getD k 0 = 0) : lastL xs (k + 1) = lastL xs k := by rw [lastL, if_neg (by omega)]
set_option maxHeartbeats 2000000 in
theorem farthest_any (p : Int) (f1 f2 B0 fn B : Nat) (xs : List Int) (w : World) (p0 : 0 ≤ p) (p1 : p ≤ 24) (hn : (xs.length : Int) = p + 1) (hx : ∀ x ∈ xs, 0 ≤ x ∧ x ≤ 1000) (hp : Pays fn B xs w) :
    Calls Try.prog 41 #[tv p f1 f2 B0, fv fn B] w fun e w' => e = .returned (.int .i64 (lastL xs xs.length)) ∧ Below w.heap.size w w' := by
  obtain ⟨L, hL⟩ : ∃ L, lastL xs xs.length = L := ⟨_, rfl⟩
  rw [hL]
  have HL0 := Lib.hid hL
  clear hL
  go_enter Try.func41, Try.ntmps41
  have hb : Below w.heap.size w (w.alloc (.cells #[.int .i64 p, fv f1 B0, fv f2 B0] 53)) := (Below.refl _ _).alloc (Nat.le_refl _) _
  have hp0 := hp.below hb
  have e199 := hp.1
  have hlen : 1 ≤ xs.length := by omega
  go_wp2
  generalize (w.alloc (.cells #[.int .i64 p, fv f1 B0, fv f2 B0] 53)) = v0 at *
  go_loopg [5] xs.length (fun m q wr => ∃ k : Nat, k ≤ xs.length ∧ m = k ∧ q = .int .i64 ((k : Int) - 1) ∧ lastL xs k = L ∧ Pays fn B xs wr ∧ Below w.heap.size w wr)
  case atStart => exact ⟨xs.length, by omega, rfl, by congr 1; omega, HL0.out, hp0, hb⟩
  case round =>
    obtain ⟨k, hk, hm, rfl, hl, hpw, hbel⟩ := hrel
    cases k with
    | zero =>
      have : L = -1 := by rw [← hl]; rfl
      subst this
      go_wp2
      go_ret
      exact ⟨rfl, hbel⟩
    | succ k =>
      have hlt : k < xs.length := by omega
      have hg := hx _ (getD_mem hlt)
      have hpk := hpw.2 wr (Below.refl _ _) k hlt
      obtain ⟨v, hv⟩ : ∃ v, xs.getD k 0 = v := ⟨_, rfl⟩
      rw [hv] at hpk hg
      have g0 : 0 ≤ v := hg.1
      have g1 : v ≤ 1000 := hg.2
      have HP := Lib.hid hpk
      have HV := Lib.hid hv
      have HL := Lib.hid hl
      have e1 : (((k + 1 : Nat) : Int) - 1) = (k : Int) := by omega
      rw [e1]
      clear hv hg hpk hl e1
      by_cases hz : v = 0
      · subst hz
        go_wp2_with (go_at_fn fn; refine HP.out.mono ?_; rintro e w5 ⟨rfl, hb5⟩)
        go_roundg k
        case measure => omega
        case rel => exact ⟨k, by omega, rfl, by go_num, by rw [← HL.out, lastL_not HV.out], hpw.below hb5, chain hbel hb5⟩
      · have : L = k := by rw [← HL.out]; exact lastL_pos (by rw [HV.out]; omega)
        subst this
        go_wp2_with (go_at_fn fn; refine HP.out.mono ?_; rintro e w5 ⟨rfl, hb5⟩)
        go_ret
        exact ⟨rfl, chain hbel hb5⟩
end Go.Proofs.Ytdciiocmddlhfaa
