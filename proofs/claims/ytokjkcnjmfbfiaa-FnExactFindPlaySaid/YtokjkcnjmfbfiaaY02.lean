/- Texts of a proof, laid together: Slices of int64 that a call has made itself (or nil ones): how they lie, how they grow, how they are handed back. Contracts of the model's functions of chapter 2: sums and sides. -/
import Derived.Test.YtokjkcnjmfbfiaaY01
import Derived.ArgAppend
import Derived.Deep.RegionHeld3
namespace Go.Proofs.Ytokjkcnjmfbfiaa
open Go.ChangeShapes Go.WideShapes Go.ChangeAt Go.RowKit
set_option linter.unusedVariables false
set_option linter.unusedSimpArgs false

/-- A slice made between two marks of the heap's size: a row of its own, or nil. -/
def OSl (lo hi : Nat) (w : World) (a : Option Addr) (xs : List Int) : Prop :=
  (a = none ∧ xs = []) ∨ ∃ g, a = some ⟨g, 0, none⟩ ∧ lo ≤ g ∧ g < hi ∧ Row w g xs
theorem OSl.irow {lo hi : Nat} {w : World} {a : Option Addr} {xs : List Int} (h : OSl lo hi w a xs) : IRow w a xs := by
  rcases h with ⟨rfl, rfl⟩ | ⟨g, rfl, _, _, r⟩
  · exact IRow.nil _ _
  · exact r.irow
theorem OSl.below {lo hi : Nat} {w w' : World} {a : Option Addr} {xs : List Int} (h : OSl lo hi w a xs) (hb : Below w.heap.size w w') : OSl lo hi w' a xs := by
  rcases h with h | ⟨g, e, h1, h2, r⟩
  · exact .inl h
  · exact .inr ⟨g, e, h1, h2, r.below hb⟩
theorem OSl.drew {lo hi : Nat} {w : World} {a : Option Addr} {xs : List Int} (h : OSl lo hi w a xs) : OSl lo hi w.drew a xs := h
theorem OSl.alloc {lo hi : Nat} {w : World} {a : Option Addr} {xs : List Int} (h : OSl lo hi w a xs) (o : Obj) : OSl lo hi (w.alloc o) a xs := h.below ((Below.refl _ _).alloc (Nat.le_refl _) o)
theorem OBd.drew {lo hi : Nat} {w : World} {a1 a2 : Option Addr} {xs ys : List Int} (h : OBd lo hi w a1 a2 xs ys) : OBd lo hi w.drew a1 a2 xs ys := h
theorem OSl.mono {lo hi lo' hi' : Nat} {w : World} {a : Option Addr} {xs : List Int} (h : OSl lo hi w a xs) (h1 : lo' ≤ lo) (h2 : hi ≤ hi') : OSl lo' hi' w a xs := by
  rcases h with h | ⟨g, e, q1, q2, r⟩
  · exact .inl h
  · exact .inr ⟨g, e, by omega, by omega, r⟩
theorem OSl.same {lo hi lo2 hi2 : Nat} {w w' : World} {a : Option Addr} {xs : List Int} (h : OSl lo2 hi2 w a xs) (hs : Same lo hi w w') (hd : hi2 ≤ lo ∨ hi ≤ lo2) : OSl lo2 hi2 w' a xs := by
  rcases h with h | ⟨g, e, q1, q2, r⟩
  · exact .inl h
  · exact .inr ⟨g, e, q1, q2, r.same hs (by omega)⟩
/-- A slice has been made and is handed back. -/
def SliceGot (xs : List Int) (w : World) (e : Ending) (w' : World) : Prop :=
  ∃ a k, e = .returned (.slice a xs.length k) ∧ OSl w.heap.size w'.heap.size w' a xs ∧ Below w.heap.size w w'
/-- A slice has been made and is handed back, beside a number. -/
def SliceGot2 (xs : List Int) (r : Int) (w : World) (e : Ending) (w' : World) : Prop :=
  ∃ a k, e = .returned (.tuple #[.slice a xs.length k, .int .i64 r]) ∧ OSl w.heap.size w'.heap.size w' a xs ∧ Below w.heap.size w w'

/-- A slice of the call's own that grows. -/
def Own (w : World) (base : Nat) (v : Value) (xs : List Int) : Prop := w.ownsRow base 2 1 v xs.length (ints xs)
theorem Own.form {w : World} {base : Nat} {v : Value} {xs : List Int} (h : Own w base v xs) : ∃ a k, v = .slice a xs.length k := by
  rcases h.2 with ⟨h1, h2⟩ | ⟨g, cap, cur, h1, _⟩
  · exact ⟨none, 0, by rw [h1, h2]⟩
  · exact ⟨some ⟨g, 0, none⟩, cap, h1⟩
theorem Own.osl {w : World} {base : Nat} {a : Option Addr} {n k : Nat} {xs : List Int} (h : Own w base (.slice a n k) xs) : OSl base w.heap.size w a xs := by
  obtain ⟨hl, h1 | ⟨g, cap, cur, hv, hb, hh, hc, hm, hs, ht⟩⟩ := h
  · obtain ⟨h1, h2⟩ := h1
    simp at h1
    exact .inl ⟨h1.1, List.eq_nil_of_length_eq_zero h2⟩
  · simp at hv
    obtain ⟨rfl, _, rfl⟩ := hv
    exact .inr ⟨g, rfl, hb, (Array.getElem?_eq_some_iff.1 hh).1, cur, hh, by omega, by simpa using ht⟩
theorem Own.alloc {w : World} {base : Nat} {v : Value} {xs : List Int} (h : Own w base v xs) (o : Obj) : Own (w.alloc o) base v xs := World.ownsRow.alloc h o
theorem Own.drew {w : World} {base : Nat} {v : Value} {xs : List Int} (h : Own w base v xs) : Own w.drew base v xs := h
theorem Own.kept {w w' : World} {base : Nat} {v : Value} {xs : List Int} (h : Own w base v xs) (hb : Below w.heap.size w w') : Own w' base v xs :=
  World.ownsRow.kept (row := none) h ⟨hb.os, hb.tape, hb.output, hb.size, fun k hk _ => hb.block k hk⟩ (by
    cases hv : v.ownBlock with
    | none => exact .inl rfl
    | some g => exact .inr (by simp))
theorem Own.start (w : World) : Own (w.alloc (.cells #[] 2)) w.heap.size (.slice (some ⟨w.heap.size, 0, none⟩) 0 0) [] :=
  ⟨rfl, .inr ⟨w.heap.size, 0, #[], rfl, Nat.le_refl _, Blk.new w #[] _, Nat.le_refl _, by unfold maxLen; omega, rfl, rfl⟩⟩
theorem Own.nil (w : World) (base : Nat) : Own w base (.slice none 0 0) [] := World.ownsRow_nil w base _ _
theorem Own.mono {w : World} {base base' : Nat} {v : Value} {xs : List Int} (h : Own w base v xs) (hb : base' ≤ base) : Own w base' v xs := by
  obtain ⟨h1, h2 | ⟨g, cap, cur, q1, q2, q3⟩⟩ := h
  · exact ⟨h1, .inl h2⟩
  · exact ⟨h1, .inr ⟨g, cap, cur, q1, by omega, q3⟩⟩
/-- One number appended: 'out = append(out, x)'. -/
theorem wp_push {ops : Array Oper} {rest : List Oper} {o : Oper} {a : Act} {Q : Exit → Act → World → Prop} (hgd : o.guard = none) (s x : Operand)
    (ho : o.op = .call { callee := .builtin .append, args := #[s, x], argTypes := #[24, 24] })
    (base : Nat) (v : Value) (xs : List Int) (hs : a.eval s = v) {w0 : World} (hown : Own w0 base v xs) (u : Int)
    (hx : a.eval x = .slice (some ⟨w0.heap.size, 0, none⟩) 1 1) (hl : xs.length ≤ 1048576) (hbase : base ≤ w0.heap.size)
    (h : ∀ v' w', Own w' base v' (xs ++ [u]) → Below base w0 w' → wpList Try.prog ops Q rest (a.put o.dst v') w') : wpList Try.prog ops Q (o :: rest) a (w0.alloc (.cells #[.int .i64 u] 2)) := by
  obtain ⟨i0, hi, hz0, hz1, hz2⟩ := info_parts infoI64
  refine wpList_append1 hgd s x 24 ho base 2 i0 (.int .i64 0) 8 Try.underlying24 hi hz0 hz1 hz2 rfl v xs.length (ints xs) hs hown (.int .i64 u) hx rfl (by unfold maxLen; omega) (by omega) hbase ?_
  intro g cap w' ho' hb' _
  refine h _ w' ?_ hb'
  show w'.ownsRow base 2 1 _ (xs ++ [u]).length (ints (xs ++ [u]))
  rw [show (xs ++ [u]).length = xs.length + 1 by simp, show ints (xs ++ [u]) = ints xs ++ [.int .i64 u] by simp [ints]]
  exact ho'
/-- Marking such a slice: it alone changes. -/
theorem markS_own (lo hi : Nat) (a : Option Addr) (n cap : Nat) (xs : List Int) (k : Int) (w : World) (hn : xs.length = n) (hle : n ≤ 1048576) (k0 : 0 ≤ k) (k1 : k ≤ 1000000000) (h : OSl lo hi w a xs) :
    Calls Try.prog 35 #[.slice a n cap, .int .i64 k] w fun e w' => e = .returned (.int .i64 (k + n)) ∧ OSl lo hi w' a (marks k n) ∧ Same lo hi w w' := by
  rcases h with ⟨rfl, rfl⟩ | ⟨g, rfl, h1, h2, r⟩
  · obtain rfl : 0 = n := hn
    refine (markInt64S_nil cap k w).mono ?_
    rintro e w' ⟨rfl, rfl⟩
    exact ⟨by simp, .inl ⟨rfl, rfl⟩, rfl, rfl, rfl, Nat.le_refl _, fun i hi _ => rfl⟩
  · refine (markInt64S_any g n cap xs k w hn hle k0 k1 r).mono ?_
    rintro e w' ⟨rfl, q, hg⟩
    exact ⟨rfl, .inr ⟨g, rfl, h1, h2, q⟩, hg.os, hg.tape, hg.output, hg.size, fun i hi ho => hg.block i hi (fun e => by cases e; omega)⟩
end Go.Proofs.Ytokjkcnjmfbfiaa
namespace Go.Proofs.Ytokjkcnjmfbfiaa
open Go.ChangeShapes Go.WideShapes Go.ChangeAt Go.RowKit
set_option linter.unusedVariables false
set_option linter.unusedSimpArgs false

set_option maxHeartbeats 1000000 in
theorem l02Sum_any (a : Option Addr) (n cap : Nat) (xs : List Int) (w : World) (hn : xs.length = n) (hle : n ≤ 1000) (hx : ∀ x ∈ xs, 0 ≤ x ∧ x ≤ 1000) (hr : IRow w a xs) :
    Calls Try.prog 120 #[.slice a n cap] w fun e w' => e = .returned (.int .i64 xs.sum) ∧ w = w' := by
  subst hn
  go_enter Try.func120, Try.ntmps120
  go_wp2
  go_loopg [3, 4] xs.length (fun m q i wr => w = wr ∧ ∃ k : Nat, k ≤ xs.length ∧ m = xs.length - k ∧ i = .int .i64 k ∧ q = .int .i64 (xs.take k).sum)
  case atStart => exact ⟨rfl, 0, by omega, by omega, rfl, rfl⟩
  case round =>
    obtain ⟨rfl, k, hk, hm, rfl, rfl⟩ := hrel
    by_cases hlt : k < xs.length
    · have hlt' : (k : Int) < (xs.length : Int) := by omega
      obtain ⟨b, o, rfl, hc⟩ := hr k hlt
      have hb := sum_bound (c := 1000) (xs.take k) (fun x h => hx x (List.mem_of_mem_take h))
      have hl : (xs.take k).length ≤ 1000 := by simp; omega
      have hb0 : 0 ≤ (xs.take k).sum := hb.1
      have hb1 : (xs.take k).sum ≤ 1000000 := by have := hb.2; omega
      have hg := hx _ (getD_mem hlt)
      obtain ⟨v, hv⟩ : ∃ v, xs.getD k 0 = v := ⟨_, rfl⟩
      have hst := sum_take xs k hlt
      rw [hv] at hc hg hst
      have g0 : 0 ≤ v := hg.1
      have g1 : v ≤ 1000 := hg.2
      have HS := Lib.hid hst
      clear hst hv hb hl hg
      go_wp2
      go_roundg (xs.length - (k + 1))
      case measure => omega
      case rel => exact ⟨rfl, k + 1, by omega, rfl, by go_num, by rw [HS.out]⟩
    · obtain rfl : k = xs.length := by omega
      go_wp2
      go_ret
      exact ⟨by simp, rfl⟩
set_option maxHeartbeats 2000000 in
theorem l02Side_any (p c h s : Int) (a : Option Addr) (n cap : Nat) (xs : List Int) (w : World) (g : vB p c h s = true) (hn : xs.length = n) (hle : n ≤ 1048576) (hr : IRow w a xs) :
    Calls Try.prog 119 #[.agg #[.int .i64 p, .int .i64 c, .int .i64 h, .int .i64 s], .slice a n cap] w fun e w' => e = .returned (.bool (sideB p c xs)) ∧ Below w.heap.size w w' := by
  have hv := vB_iff.1 g
  have p0 : 2 ≤ p := hv.1
  have p1 : p ≤ 24 := hv.2.1
  have c0 : 1 ≤ c := hv.2.2.1
  have c1 : c ≤ 15 := hv.2.2.2.1
  clear hv g
  have B0 := Blk.new w #[.int .i64 p, .int .i64 c, .int .i64 h, .int .i64 s] 32
  have hb : Below w.heap.size w (w.alloc (.cells #[.int .i64 p, .int .i64 c, .int .i64 h, .int .i64 s] 32)) := (Below.refl _ _).alloc (Nat.le_refl _) _
  obtain ⟨R, hR⟩ : ∃ R, sideB p c xs = R := ⟨_, rfl⟩
  rw [hR]
  by_cases hlen : (n : Int) = p + 1
  · have e0 : ((n : Int) != p + 1) = false := by rw [bne_eq_false_iff_eq]; exact hlen
    have hr0 := hr.below hb
    subst hn
    have HR := Lib.hid hR
    have HL := Lib.hid hlen
    clear hR hlen
    go_enter Try.func119, Try.ntmps119
    go_wp2
    generalize (w.alloc (.cells #[.int .i64 p, .int .i64 c, .int .i64 h, .int .i64 s] 32)) = v0 at *
    go_loopg [5] xs.length (fun m i wr => ∃ k : Nat, k ≤ xs.length ∧ m = xs.length - k ∧ i = .int .i64 k ∧ (∀ j, j < k → inB (xs.getD j 0) 0 c = true) ∧ Blk wr w.heap.size #[.int .i64 p, .int .i64 c, .int .i64 h, .int .i64 s] 32 ∧ Below w.heap.size w wr)
    case atStart => exact ⟨0, by omega, by omega, rfl, fun j hj => by omega, B0, hb⟩
    case round =>
      obtain ⟨k, hk, hm, rfl, hall, BV, hbel⟩ := hrel
      have HA := Lib.hid hall
      clear hall
      obtain ⟨x0, x1, x2, x3, xf, xl⟩ := BV.four
      by_cases hlt : k < xs.length
      · have hlt' : (k : Int) < (xs.length : Int) := by omega
        have hk0 : (0 : Int) ≤ (k : Int) := by omega
        obtain ⟨b, o, rfl, hc⟩ := hr.below hbel k hlt
        obtain ⟨v, hv⟩ : ∃ v, xs.getD k 0 = v := ⟨_, rfl⟩
        rw [hv] at hc
        have HV := Lib.hid hv
        clear hv
        by_cases hin : inB v 0 c = true
        · go_wp2_with fail
          go_region_held3 (fun w' => w'.cell? ⟨b, o + k, none⟩ = some (.int .i64 v) ∧ w'.cell? ⟨w.heap.size, 1, none⟩ = some (.int .i64 c)) (first | exact ⟨hc, x1⟩ | assumption | go_keep) (first | (go_at_call 94; refine (l01In_any v 0 c _).mono ?_; rintro e w5 ⟨rfl, rfl⟩))
          go_wp2
          go_roundg (xs.length - (k + 1))
          case measure => omega
          case rel =>
            refine ⟨k + 1, by omega, rfl, by go_num, fun j hj => ?_, BV.drew, hbel.drew⟩
            by_cases hjk : j = k
            · subst hjk
              rw [HV.out]
              exact hin
            · exact HA.out j (by omega)
        · have hR2 : R = false := by
            rw [← HR.out]
            have : xs.all (fun x => inB x 0 c) = false := by
              rw [List.all_eq_false]
              exact ⟨v, HV.out ▸ getD_mem hlt, by simpa using hin⟩
            simp [sideB, this]
          subst hR2
          go_wp2_with fail
          go_region_held3 (fun w' => w'.cell? ⟨b, o + k, none⟩ = some (.int .i64 v) ∧ w'.cell? ⟨w.heap.size, 1, none⟩ = some (.int .i64 c)) (first | exact ⟨hc, x1⟩ | assumption | go_keep) (first | (go_at_call 94; refine (l01In_any v 0 c _).mono ?_; rintro e w5 ⟨rfl, rfl⟩))
          go_wp2
          go_ret
          exact ⟨rfl, hbel.drew⟩
      · obtain rfl : k = xs.length := by omega
        have hxs : ∀ x ∈ xs, 0 ≤ x ∧ x ≤ c := fun x hx => by
          obtain ⟨j, hj, rfl⟩ := List.mem_iff_getElem.1 hx
          have := HA.out j hj
          rw [show xs.getD j 0 = xs[j] by simp [hj]] at this
          exact inB_iff.1 this
        have hR2 : R = decide (xs.sum ≤ c) := by
          rw [← HR.out]
          have h1 : xs.all (fun x => inB x 0 c) = true := List.all_eq_true.2 fun x hx => inB_iff.2 (hxs x hx)
          have h2 := HL.out
          simp [sideB, h1, h2]
        have hlen2 : xs.length ≤ 1000 := by have := HL.out; omega
        subst hR2
        have hsum := fun w (hr : IRow w a xs) => l02Sum_any a xs.length cap xs w rfl hlen2 (fun x hx => by have := hxs x hx; omega) hr
        have HS := Lib.hid hsum
        have hrw := hr.below hbel
        have HRW := Lib.hid hrw
        clear hsum hxs hrw
        go_wp2_with fail
        go_region_held3 (fun w' => w'.cell? ⟨w.heap.size, 1, none⟩ = some (.int .i64 c)) (first | exact x1 | assumption | go_keep) (first | (go_at_call 120; refine (HS.out _ HRW.out.drew).mono ?_; rintro e w5 ⟨rfl, rfl⟩))
        go_wp2
        go_ret
        exact ⟨rfl, hbel.drew⟩
  · have e0 : ((n : Int) != p + 1) = true := by rw [bne_iff_ne]; exact hlen
    have hR2 : R = false := by
      rw [← hR]
      simp [sideB, hn, hlen]
    subst hR2
    clear hR
    go_enter Try.func119, Try.ntmps119
    go_wp2
    go_ret
    exact ⟨rfl, hb⟩
set_option maxHeartbeats 1000000 in
theorem l02Last_any (a : Option Addr) (n cap : Nat) (xs : List Int) (w : World) (hn : xs.length = n) (hle : n ≤ 1048576) (hr : IRow w a xs) :
    Calls Try.prog 144 #[.slice a n cap] w fun e w' => e = .returned (.int .i64 (lastL xs n)) ∧ w = w' := by
  subst hn
  go_enter Try.func144, Try.ntmps144
  go_wp2
  go_loopg [3, 4] xs.length (fun m q i wr => w = wr ∧ ∃ k : Nat, k ≤ xs.length ∧ m = xs.length - k ∧ i = .int .i64 k ∧ q = .int .i64 (lastL xs k))
  case atStart => exact ⟨rfl, 0, by omega, by omega, rfl, rfl⟩
  case round =>
    obtain ⟨rfl, k, hk, hm, rfl, rfl⟩ := hrel
    by_cases hlt : k < xs.length
    · have hlt' : (k : Int) < (xs.length : Int) := by omega
      obtain ⟨b, o, rfl, hc⟩ := hr k hlt
      obtain ⟨v, hv⟩ : ∃ v, xs.getD k 0 = v := ⟨_, rfl⟩
      have hst : lastL xs (k + 1) = if 0 < xs.getD k 0 then (k : Int) else lastL xs k := rfl
      rw [hv] at hc hst
      by_cases hp : 0 < v
      · rw [if_pos hp] at hst
        have HS := Lib.hid hst
        clear hst hv
        go_wp2
        go_roundg (xs.length - (k + 1))
        case measure => omega
        case rel => exact ⟨rfl, k + 1, by omega, rfl, by go_num, by rw [HS.out]⟩
      · rw [if_neg hp] at hst
        have HS := Lib.hid hst
        clear hst hv
        go_wp2
        go_roundg (xs.length - (k + 1))
        case measure => omega
        case rel => exact ⟨rfl, k + 1, by omega, rfl, by go_num, by rw [HS.out]⟩
    · obtain rfl : k = xs.length := by omega
      go_wp2
      go_ret
      exact ⟨rfl, rfl⟩
end Go.Proofs.Ytokjkcnjmfbfiaa
