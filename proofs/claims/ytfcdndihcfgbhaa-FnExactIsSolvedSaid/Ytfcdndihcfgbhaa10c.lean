/- Contract of chapter 10: the table that counts the lists with a bounded sum. -/
import Derived.Test.YtfcdndihcfgbhaaM10
import Derived.Test.YtfcdndihcfgbhaaImpl02c
import Derived.Deep.LoopGhost
import Derived.Deep.RegionHeld3
namespace Go.Proofs.Ytfcdndihcfgbhaa
open Go.ChangeShapes Go.WideShapes Go.ChangeAt Go.RowKit
set_option linter.unusedVariables false
set_option linter.unusedSimpArgs false
set_option maxRecDepth 4000

/-- One number changed. -/
def updF (f : Nat → Int) (n : Nat) (v : Int) (m : Nat) : Int := if m = n then v else f m
/-- The first K numbers of the table. -/
def wyF (K n : Nat) : Int := if n < K then (cnt (n / 16) (n % 16) : Int) else 0
theorem wyF_next {K : Nat} {v : Int} (hv : v = (cnt (K / 16) (K % 16) : Int)) (n : Nat) : updF (wyF K) K v n = wyF (K + 1) n := by
  unfold updF wyF
  by_cases e : n = K
  · subst e
    rw [if_pos rfl, if_pos (by omega), hv]
  · rw [if_neg e]
    by_cases e2 : n < K
    · rw [if_pos e2, if_pos (by omega)]
    · rw [if_neg e2, if_neg (by omega)]
theorem updF_twice (f : Nat → Int) (n : Nat) (u v : Int) (m : Nat) : updF (updF f n u) n v m = updF f n v m := by
  unfold updF
  split <;> rfl
/-- A table of numbers in one block. -/
def TabN (w : World) (g : Nat) (f : Nat → Int) : Prop := ∃ cur, Blk w g cur 67 ∧ cur.size = 416 ∧ ∀ n, n < 416 → cur[n]? = some (.int .i64 (f n))
theorem TabN.cell {w : World} {g : Nat} {f : Nat → Int} (h : TabN w g f) (n : Nat) (hn : n < 416) : w.cell? ⟨g, n, none⟩ = some (.int .i64 (f n)) := by
  obtain ⟨cur, hB, h1, h2⟩ := h
  rw [hB.cell n, h2 n hn]
theorem TabN.free {w : World} {g : Nat} {f : Nat → Int} (h : TabN w g f) (n : Nat) : w.frozen? ⟨g, n, none⟩ = false := by
  obtain ⟨cur, hB, h1, h2⟩ := h
  exact hB.free n
theorem TabN.lt {w : World} {g : Nat} {f : Nat → Int} (h : TabN w g f) : g < w.heap.size := by
  obtain ⟨cur, hB, h1, h2⟩ := h
  exact hB.lt
theorem TabN.below {w w' : World} {g : Nat} {f : Nat → Int} (h : TabN w g f) (hb : Below w.heap.size w w') : TabN w' g f := by
  obtain ⟨cur, hB, h1, h2⟩ := h
  exact ⟨cur, hB.below hb, h1, h2⟩
theorem TabN.drew {w : World} {g : Nat} {f : Nat → Int} (h : TabN w g f) : TabN w.drew g f := h
theorem TabN.other {w : World} {g g' o : Nat} {v : Value} {f : Nat → Int} (h : TabN w g f) (hne : g ≠ g') : TabN (w.setCell ⟨g', o, none⟩ v) g f := by
  obtain ⟨cur, hB, h1, h2⟩ := h
  exact ⟨cur, hB.other hne, h1, h2⟩
theorem TabN.set {w : World} {g : Nat} {f : Nat → Int} (h : TabN w g f) (n : Nat) (v : Int) : TabN (w.setCell ⟨g, n, none⟩ (.int .i64 v)) g (updF f n v) := by
  obtain ⟨cur, hB, h1, h2⟩ := h
  refine ⟨_, hB.set (.int .i64 v), by simp [h1], fun m hm => ?_⟩
  rw [Array.getElem?_setIfInBounds]
  by_cases e : n = m
  · subst e
    simp [h1, hm, updF]
  · rw [if_neg e, h2 m hm, updF, if_neg (fun q => e q.symm)]
theorem TabN.wf {w : World} {g : Nat} {f f' : Nat → Int} (h : TabN w g f) (e : ∀ n, n < 416 → f n = f' n) : TabN w g f' := by
  obtain ⟨cur, hB, h1, h2⟩ := h
  exact ⟨cur, hB, h1, fun n hn => by rw [h2 n hn, e n hn]⟩
/-- The table of the numbers of lists. -/
def WaysAt (w : World) (g : Nat) : Prop := TabN w g (fun n => (cnt (n / 16) (n % 16) : Int))
theorem WaysAt.cell {w : World} {g : Nat} (h : WaysAt w g) (i j : Nat) (hi : i ≤ 25) (hj : j ≤ 15) : w.cell? ⟨g, i * 16 + j, none⟩ = some (.int .i64 (cnt i j)) := by
  have := TabN.cell h (i * 16 + j) (by omega)
  rw [this, show (i * 16 + j) / 16 = i by omega, show (i * 16 + j) % 16 = j by omega]
theorem WaysAt.below {w w' : World} {g : Nat} (h : WaysAt w g) (hb : Below w.heap.size w w') : WaysAt w' g := TabN.below h hb
theorem WaysAt.drew {w : World} {g : Nat} (h : WaysAt w g) : WaysAt w.drew g := h
theorem WaysAt.other {w : World} {g g' o : Nat} {v : Value} (h : WaysAt w g) (hne : g ≠ g') : WaysAt (w.setCell ⟨g', o, none⟩ v) g := TabN.other h hne
theorem WaysAt.alloc {w : World} {g : Nat} (h : WaysAt w g) (o : Obj) : WaysAt (w.alloc o) g := TabN.below h ((Below.refl _ _).alloc (Nat.le_refl _) o)
theorem WaysAt.lt {w : World} {g : Nat} (h : WaysAt w g) : g < w.heap.size := TabN.lt h
def zc416 : Array Value := Array.replicate 416 (.int .i64 0)
theorem zc416_ne : ¬ zc416 = #[] := fun e => by have := congrArg Array.size e; simp [zc416] at this
theorem zv416 (w : World) : (zeroValue 67).run Try.prog w = .ok (.agg zc416) w := by kernel_rfl
theorem zeroTab : ∀ n, n < 416 → zc416[n]? = some (.int .i64 0) := by
  have h : zc416 = Array.replicate 416 (.int .i64 0) := by kernel_rfl
  intro n hn
  rw [h, Array.getElem?_replicate, if_pos hn]
set_option maxRecDepth 4000 in
set_option maxHeartbeats 2000000 in
theorem countWays_any (w : World) :
    Calls Try.prog 49 #[] w fun e w' => ∃ g, e = .returned (.pointer (some ⟨g, 0, none⟩)) ∧ w.heap.size ≤ g ∧ WaysAt w' g ∧ Below w.heap.size w w' := by
  have hb : Below w.heap.size w (w.alloc (.cells zc416 67)) := (Below.refl _ _).alloc (Nat.le_refl _) _
  have B0 : TabN (w.alloc (.cells zc416 67)) w.heap.size (wyF 0) := ⟨_, Blk.new w zc416 67, by kernel_rfl, fun n hn => by rw [zeroTab n hn, wyF, if_neg (by omega)]⟩
  have hzc := zc416_ne
  have hzv := zv416
  go_enter Try.func49, Try.ntmps49
  go_wp2_with fail
  clear hzc hzv
  generalize (w.alloc (.cells zc416 67)) = v0 at *
  go_loopg [4] 26 (fun m i wr => ∃ k : Nat, k ≤ 26 ∧ m = 26 - k ∧ i = .int .i64 k ∧ TabN wr w.heap.size (wyF (k * 16)) ∧ Below w.heap.size w wr)
  case atStart => exact ⟨0, by omega, by omega, rfl, by simpa using B0, hb⟩
  case round =>
    obtain ⟨k, hk, hm, rfl, B, hbel⟩ := hrel
    clear B0 hb
    by_cases hlt : k < 26
    · have hlt' : (k : Int) < 26 := by omega
      have hk0 : (0 : Int) ≤ (k : Int) := by omega
      go_wp2_with fail
      go_loopg [7] 16 (fun m2 j wi => ∃ (W : World) (l : Nat), W = wi ∧ l ≤ 16 ∧ m2 = 16 - l ∧ j = .int .i64 l ∧ TabN wi w.heap.size (wyF (k * 16 + l)) ∧ Below w.heap.size w wi)
      case atStart => exact ⟨_, 0, rfl, by omega, by omega, rfl, by simpa using B, hbel⟩
      case round =>
        clear B hbel
        obtain ⟨W, l, hW, hl, hm2, rfl, B, hbel⟩ := hrel
        subst hW
        by_cases hll : l < 16
        · have hll' : (l : Int) < 16 := by omega
          have hl0 : (0 : Int) ≤ (l : Int) := by omega
          have hold := B.cell (k * 16 + l) (by omega)
          have hfr := B.free (k * 16 + l)
          have B1 := B.set (k * 16 + l) 1
          by_cases hz : k = 0 ∨ l = 0
          · have hone : cnt k l = 1 := by
              rcases hz with rfl | rfl
              · exact cnt_zero _
              · exact cnt_base _
            have B2 := B1.wf fun n hn => wyF_next (by rw [show (k * 16 + l) / 16 = k by omega, show (k * 16 + l) % 16 = l by omega, hone]; rfl) n
            clear B1
            have hzz : (decide ((0 : Int) < (k : Int)) && decide ((0 : Int) < (l : Int))) = false := by
              rcases hz with rfl | rfl <;> simp
            have HB2 := Lib.hid B2
            clear B2 B hone
            by_cases hk2 : 0 < k
            · have hl2 : ¬ 0 < l := by omega
              clear hzz hz
              go_wp2
              go_roundg (16 - (l + 1))
              case measure => omega
              case rel => exact ⟨_, l + 1, rfl, by omega, rfl, by go_num, HB2.out, hbel.setCell (p := ⟨w.heap.size, k * 16 + l, none⟩) (by simp) _⟩
            · clear hzz hz
              go_wp2
              go_roundg (16 - (l + 1))
              case measure => omega
              case rel => exact ⟨_, l + 1, rfl, by omega, rfl, by go_num, HB2.out, hbel.setCell (p := ⟨w.heap.size, k * 16 + l, none⟩) (by simp) _⟩
          · have hk2 : 0 < k := by omega
            have hl2 : 0 < l := by omega
            obtain ⟨k', rfl⟩ : ∃ k', k = k' + 1 := ⟨k - 1, by omega⟩
            obtain ⟨l', rfl⟩ : ∃ l', l = l' + 1 := ⟨l - 1, by omega⟩
            have hsum := cnt_step k' l'
            have hA := B1.cell (k' * 16 + (l' + 1)) (by omega)
            have hB := B1.cell ((k' + 1) * 16 + l') (by omega)
            have hT := B1.cell ((k' + 1) * 16 + (l' + 1)) (by omega)
            have hFr := B1.free ((k' + 1) * 16 + (l' + 1))
            rw [updF, if_neg (by omega), wyF, if_pos (by omega), show (k' * 16 + (l' + 1)) / 16 = k' by omega, show (k' * 16 + (l' + 1)) % 16 = l' + 1 by omega] at hA
            rw [updF, if_neg (by omega), wyF, if_pos (by omega), show ((k' + 1) * 16 + l') / 16 = k' + 1 by omega, show ((k' + 1) * 16 + l') % 16 = l' by omega] at hB
            have c1 := cnt_bound (n := k') (m := l' + 1) (by omega) (by omega)
            have c2 := cnt_bound (n := k' + 1) (m := l') (by omega) (by omega)
            have e1 : ((k' + 1 : Nat) : Int) - 1 = (k' : Int) := by omega
            have e2 : ((l' + 1 : Nat) : Int) - 1 = (l' : Int) := by omega
            have hb5 := hbel.setCell (p := ⟨w.heap.size, (k' + 1) * 16 + (l' + 1), none⟩) (by simp) (.int .i64 1)
            obtain ⟨x, hx⟩ : ∃ x : Nat, cnt k' (l' + 1) = x := ⟨_, rfl⟩
            obtain ⟨y, hy⟩ : ∃ y : Nat, cnt (k' + 1) l' = y := ⟨_, rfl⟩
            rw [hx] at hA c1 hsum
            rw [hy] at hB c2 hsum
            have HSUM := Lib.hid hsum
            have wz : IntKind.i64.wrap ((x : Int) + (y : Int)) = (x : Int) + (y : Int) := IntWalk.i64_in _ (by omega)
            clear B hsum hx hy c1 c2 hz hbel
            have wk : IntKind.i64.wrap (k' : Int) = (k' : Int) := IntWalk.i64_in _ (by omega)
            have wl : IntKind.i64.wrap (l' : Int) = (l' : Int) := IntWalk.i64_in _ (by omega)
            have f1 : (0 : Int) ≤ (k' : Int) := by omega
            have f2 : (k' : Int) < 26 := by omega
            have f3 : (0 : Int) ≤ (k' : Int) + 1 := by omega
            have f4 : (k' : Int) + 1 < 26 := by omega
            have f5 : (0 : Int) ≤ (l' : Int) := by omega
            have f6 : (l' : Int) < 16 := by omega
            have f7 : (0 : Int) ≤ (l' : Int) + 1 := by omega
            have f8 : (l' : Int) + 1 < 16 := by omega
            go_wp2_with fail
            clear hold hfr
            replace B1 := B1.drew
            replace hb5 := hb5.drew
            refine wp_region_held_drew (S := fun w' => w'.cell? ⟨w.heap.size, k' * 16 + (l' + 1), none⟩ = some (.int .i64 (x : Int)) ∧ w'.cell? ⟨w.heap.size, (k' + 1) * 16 + l', none⟩ = some (.int .i64 (y : Int))) (by kernel_rfl) ⟨hA, hB⟩ (fun hHeld => ?_)
            refine tk 0 20 ?_
            refine tk 1 21 ?_
            refine tk 2 22 ?_
            refine tk 3 23 ?_
            refine tk 4 24 ?_
            refine tk 5 25 ?_
            refine tk 6 26 ?_
            refine tk 7 27 ?_
            refine tk 8 28 ?_
            refine tk 9 29 ?_
            refine tk 10 30 ?_
            refine tk 11 31 ?_
            refine tk 12 32 ?_
            refine tk 13 33 ?_
            refine tk 14 34 ?_
            refine tk 15 35 ?_
            refine tk 16 36 ?_
            refine rdn 17 fun K hK => ?_
            have B2 := B1.set ((k' + 1) * 16 + (l' + 1)) ((x : Int) + (y : Int))
            have hA2 := B2.cell (k' * 16 + (l' + 1)) (by omega)
            have hB2 := B2.cell ((k' + 1) * 16 + l') (by omega)
            rw [updF, if_neg (by omega)] at hA2 hB2
            have hA3 := hA2.trans ((B1.cell (k' * 16 + (l' + 1)) (by omega)).symm.trans hA)
            have hB3 := hB2.trans ((B1.cell ((k' + 1) * 16 + l') (by omega)).symm.trans hB)
            clear hA2 hB2 B2
            go_simp
            (try go_wp2_with fail)
            refine hko hK ⟨hA3, hB3⟩ fun hHeld => ?_
            clear hK K
            refine wpAnyH_done (by kernel_rfl) ?_ _
            have B2 := B1.set ((k' + 1) * 16 + (l' + 1)) ((x : Int) + (y : Int))
            have B3 := B2.wf fun n hn => (updF_twice _ _ _ _ n).trans (wyF_next (K := (k' + 1) * 16 + (l' + 1)) (by rw [show ((k' + 1) * 16 + (l' + 1)) / 16 = k' + 1 by omega, show ((k' + 1) * 16 + (l' + 1)) % 16 = l' + 1 by omega, HSUM.out]; omega) n)
            have HB3 := Lib.hid B3
            clear B1 B2 B3 hT hFr hA hB
            go_wp2
            go_roundg (16 - (l' + 1 + 1))
            case measure => omega
            case rel => exact ⟨_, l' + 1 + 1, rfl, by omega, rfl, by go_num, HB3.out, hb5.setCell (p := ⟨w.heap.size, (k' + 1) * 16 + (l' + 1), none⟩) (by simp) _⟩
        · obtain rfl : l = 16 := by omega
          clear hll
          go_wp2
          go_roundg (26 - (k + 1))
          case measure => omega
          case rel => exact ⟨k + 1, by omega, rfl, by go_num, by rw [show (k + 1) * 16 = k * 16 + 16 by omega]; exact B, hbel⟩
    · obtain rfl : k = 26 := by omega
      go_wp2
      go_ret
      exact ⟨_, rfl, Nat.le_refl _, B.wf fun n hn => by rw [wyF, if_pos (by omega)], hbel⟩
end Go.Proofs.Ytfcdndihcfgbhaa
