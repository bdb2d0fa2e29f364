/- Exact numbers in memory; contract of the program's function that takes the scales for a variant and some numbers. -/
import Derived.Test.Ytgohipfaojiilaa05e0
import Derived.Test.Ytgohipfaojiilaa09d
import Derived.Test.Ytgohipfaojiilaa09e
import Derived.Test.Ytgohipfaojiilaa09f0
import Derived.Test.YtgohipfaojiilaaL01a
import Derived.Deep.LoopGhost
namespace Go.Proofs.Ytgohipfaojiilaa
open Go.ChangeShapes Go.WideShapes Go.ChangeAt Go.RowKit
set_option linter.unusedVariables false
set_option linter.unusedSimpArgs false
set_option maxRecDepth 4000

abbrev XRow (w : World) (g : Nat) (l : List Rl) : Prop := VRow w g (rlsC l) 66
theorem XRow.two {w : World} {g : Nat} {l : List Rl} (h : XRow w g l) (k : Nat) (s : Rl) (hk : l[k]? = some s) : w.cell? ⟨g, k * 2, none⟩ = some (.int .i64 s.1) ∧ w.cell? ⟨g, k * 2 + 1, none⟩ = some (.int .i64 s.2) :=
  ⟨h.cell _ _ (by have := rlsC_at l k s hk 0 (by omega); simpa [rlC] using this), h.cell _ _ (by have := rlsC_at l k s hk 1 (by omega); simpa [rlC] using this)⟩
/-- A slice of exact numbers. -/
def OX (w : World) (a : Option Addr) (l : List Rl) : Prop := (a = none ∧ l = []) ∨ ∃ g, a = some ⟨g, 0, none⟩ ∧ XRow w g l
theorem OX.nil (w : World) : OX w none [] := .inl ⟨rfl, rfl⟩
theorem OX.below {w w' : World} {a : Option Addr} {l : List Rl} (h : OX w a l) (hb : Below w.heap.size w w') : OX w' a l := by
  rcases h with h | ⟨g, e, r⟩
  · exact .inl h
  · exact .inr ⟨g, e, r.below hb⟩
theorem OX.drew {w : World} {a : Option Addr} {l : List Rl} (h : OX w a l) : OX w.drew a l := h
theorem OX.alloc {w : World} {a : Option Addr} {l : List Rl} (h : OX w a l) (o : Obj) : OX (w.alloc o) a l := h.below ((Below.refl _ _).alloc (Nat.le_refl _) o)
theorem OX.row {w : World} {a : Option Addr} {l : List Rl} (h : OX w a l) {k : Nat} (hk : k < l.length) : ∃ g, a = some ⟨g, 0, none⟩ ∧ XRow w g l := by
  rcases h with ⟨_, rfl⟩ | ⟨g, e, r⟩
  · simp at hk
  · exact ⟨g, e, r⟩
theorem OX.one {w : World} {g : Nat} {a b : Int} (h : Blk w g #[.int .i64 a, .int .i64 b] 66) : OX w (some ⟨g, 0, none⟩) [(a, b)] := .inr ⟨g, rfl, ⟨_, h, by simp [rlsC, rlC], by simp [rlsC, rlC]⟩⟩
theorem OX.two {w : World} {g : Nat} {a b c d : Int} (h : Blk w g #[.int .i64 a, .int .i64 b, .int .i64 c, .int .i64 d] 66) : OX w (some ⟨g, 0, none⟩) [(a, b), (c, d)] := .inr ⟨g, rfl, ⟨_, h, by simp [rlsC, rlC], by simp [rlsC, rlC]⟩⟩
/-- The code of a variant and some numbers. -/
def sfC (p c h s : Int) (L : List Rl) : Int := if vB p c h s = true then (if L.all (fun r => xvB s.toNat r.1 r.2) = true then 0 else 2) else 1
theorem sfC_zero {p c h s : Int} {L : List Rl} (h0 : sfC p c h s L = 0) : vB p c h s = true ∧ ∀ r ∈ L, xvB s.toNat r.1 r.2 = true := by
  unfold sfC at h0
  split at h0
  · rename_i g
    split at h0
    · rename_i g2
      exact ⟨g, fun r hr => List.all_eq_true.1 g2 r hr⟩
    · omega
  · omega
/-- The scales for a variant and some numbers have been taken, with a code. -/
def ScGot (s r : Int) (w : World) (e : Ending) (w' : World) : Prop :=
  ∃ mv, e = .returned (.tuple #[mv, .int .i64 r]) ∧ (r = 0 → ∃ b, mv = .map (some b) ∧ ScM w' b s.toNat (nn s.toNat)) ∧ (r ≠ 0 → mv = .map none) ∧ Below w.heap.size w w'
set_option maxRecDepth 8000 in
set_option maxHeartbeats 2000000 in
theorem scalesFor_any (p c h s : Int) (a : Option Addr) (L : List Rl) (k : Nat) (w : World) (hL : L.length ≤ 1048576) (HO : OX w a L) (hr : ∀ r ∈ L, -9223372036854775808 ≤ r.2 ∧ r.2 ≤ 9223372036854775807) :
    Calls Try.prog 46 #[.agg #[.int .i64 p, .int .i64 c, .int .i64 h, .int .i64 s], .slice a L.length k] w (ScGot s (sfC p c h s L) w) := by
  unfold ScGot
  have BV := Blk.new w #[.int .i64 p, .int .i64 c, .int .i64 h, .int .i64 s] 31
  have hb : Below w.heap.size w (w.alloc (.cells #[.int .i64 p, .int .i64 c, .int .i64 h, .int .i64 s] 31)) := (Below.refl _ _).alloc (Nat.le_refl _) _
  have hv := fun W => valid_any p c h s W
  obtain ⟨x0, x1, x2, x3, xf, xl⟩ := BV.four
  cases g : vB p c h s with
  | false =>
    rw [g] at hv
    have HV := Lib.hid hv
    rw [show sfC p c h s L = 1 by unfold sfC; rw [g]; rfl]
    clear hv g hr HO hL
    go_enter Try.func46, Try.ntmps46
    go_wp2_with (go_at_call 43; refine (HV.out _).mono ?_; clear HV; rintro e w1 ⟨rfl, hb1⟩; obtain ⟨x0, x1, x2, x3, xf, xl⟩ := (BV.below hb1).four)
    go_ret2
    exact ⟨_, rfl, fun q => by simp at q, fun _ => rfl, chain hb hb1⟩
  | true =>
    rw [g] at hv
    have HV := Lib.hid hv
    have hss := vB_iff.1 g
    obtain ⟨S, rfl⟩ := Int.eq_ofNat_of_zero_le (by omega : 0 ≤ s)
    have hS : 1 ≤ S ∧ S ≤ 6 := by omega
    obtain ⟨r0, hr0⟩ : ∃ r, sfC p c h (S : Int) L = r := ⟨_, rfl⟩
    rw [hr0]
    have HR0 := Lib.hid hr0
    have hsc := fun W => scales_any p c h S hS W
    have HSC := Lib.hid hsc
    have G := Lib.hid g
    clear hv hss g hr0 hsc
    go_enter Try.func46, Try.ntmps46
    go_wp2_with (first | (go_at_call 43; refine (HV.out _).mono ?_; clear HV; rintro e w1 ⟨rfl, hb1⟩; replace BV := BV.below hb1; replace hb := chain hb hb1; obtain ⟨x0, x1, x2, x3, xf, xl⟩ := BV.four) | (go_at_call 62; refine (HSC.out _).mono ?_; clear HSC; rintro e w2 ⟨b, rfl, HM, hbq, hb2⟩; replace BV := BV.below hb2; replace hb := chain hb hb2; obtain ⟨x0, x1, x2, x3, xf, xl⟩ := BV.four))
    replace HO := HO.below hb
    clear x0 x1 x2 x3 xf xl hb1 hb2 hbq BV
    go_loopg [16] L.length (fun n i wr => ∃ j : Nat, j ≤ L.length ∧ n = L.length - j ∧ i = .int .i64 (j : Int) ∧ (∀ x ∈ L.take j, xvB S x.1 x.2 = true) ∧ ScM wr b S (nn S) ∧ OX wr a L ∧ Below w.heap.size w wr)
    case atStart => exact ⟨0, by omega, by omega, rfl, by simp, HM, HO, hb⟩
    case round =>
      clear HM HO hb
      obtain ⟨j, hj, hm, rfl, hall, HM, HO, hb⟩ := hrel
      by_cases hlt : j < L.length
      · have hlt' : (j : Int) < (L.length : Int) := by omega
        have hk0 : (0 : Int) ≤ (j : Int) := by omega
        obtain ⟨ga, rfl, RX⟩ := HO.row hlt
        obtain ⟨⟨xn, xd⟩, hs⟩ : ∃ s, L[j]? = some s := ⟨_, List.getElem?_eq_getElem hlt⟩
        obtain ⟨y0, y1⟩ := RX.two j _ hs
        dsimp only at y0 y1
        have hmem : (xn, xd) ∈ L := List.mem_of_getElem? hs
        have hrx := hr _ hmem
        dsimp only at hrx
        have hha := fun W H => has_any b S hS xn xd hrx W H
        have hb3 : Below wr.heap.size wr (wr.alloc (.cells #[.int .i64 xn, .int .i64 xd] 66)) := (Below.refl _ _).alloc (Nat.le_refl _) _
        have HM3 := HM.alloc (.cells #[.int .i64 xn, .int .i64 xd] 66)
        have HO3 := HO.alloc (.cells #[.int .i64 xn, .int .i64 xd] 66)
        have BX := Blk.new wr #[.int .i64 xn, .int .i64 xd] 66
        have hz3 : (wr.alloc (.cells #[.int .i64 xn, .int .i64 xd] 66)).heap.size = wr.heap.size + 1 := by simp
        obtain ⟨z0, z1, zf, zl⟩ := BX.two
        replace hb := chain hb hb3
        cases gx : xvB S xn xd with
        | false =>
          rw [gx] at hha
          have HH := Lib.hid hha
          have hr2 : r0 = 2 := by
            rw [← HR0.out]
            unfold sfC
            rw [if_pos G.out, if_neg]
            intro q
            have := List.all_eq_true.1 q _ hmem
            rw [Int.toNat_natCast] at this
            dsimp only at this
            rw [gx] at this
            cases this
          subst hr2
          clear hha gx hs hmem hrx hall HO3 HO hr
          go_wp2_with (go_at_call 63; refine (HH.out _ HM3).mono ?_; clear HH; rintro e w4 ⟨rfl, hb4⟩)
          go_ret2
          exact ⟨_, rfl, fun q => by simp at q, fun _ => rfl, chain hb hb4⟩
        | true =>
          rw [gx] at hha
          have HH := Lib.hid hha
          have htk : ∀ x ∈ L.take (j + 1), xvB S x.1 x.2 = true := by
            intro x hx
            rw [List.take_add_one, hs, List.mem_append] at hx
            rcases hx with hx | hx
            · exact hall x hx
            · simp at hx
              subst hx
              exact gx
          have HT := Lib.hid htk
          clear hha gx hs hmem hrx hall htk HO
          go_wp2_with (go_at_call 63; refine (HH.out _ HM3).mono ?_; clear HH; rintro e w4 ⟨rfl, hb4⟩)
          go_roundg (L.length - (j + 1))
          case measure => omega
          case rel => exact ⟨j + 1, by omega, rfl, by go_num, HT.out, HM3.below hb4, HO3.below hb4, chain hb hb4⟩
      · obtain rfl : j = L.length := by omega
        have hr2 : r0 = 0 := by
          rw [← HR0.out]
          unfold sfC
          rw [if_pos G.out, if_pos]
          rw [List.all_eq_true]
          intro x hx
          rw [Int.toNat_natCast]
          exact hall x (by rw [List.take_length]; exact hx)
        subst hr2
        clear hall
        go_wp2
        go_ret2
        exact ⟨_, rfl, ⟨b, rfl, HM⟩, hb⟩
end Go.Proofs.Ytgohipfaojiilaa
