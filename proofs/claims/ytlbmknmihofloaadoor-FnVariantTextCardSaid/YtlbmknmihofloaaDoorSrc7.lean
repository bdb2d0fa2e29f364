/- The model's draws of chapter 1 whole: a variant and a text from a code. -/
import Derived.Test.YtlbmknmihofloaaDoorSrc6
namespace Go.Proofs.YtlbmknmihofloaaDoor
open Go.ChangeShapes Go.WideShapes Go.ChangeAt Go.RowKit
set_option linter.unusedVariables false
set_option linter.unusedSimpArgs false

def DrawnVar (w : World) (e : Ending) (w' : World) : Prop := ∃ p c h s : Int, e = .returned (.agg #[.int .i64 p, .int .i64 c, .int .i64 h, .int .i64 s]) ∧ Below w.heap.size w w'
def DrawnText (w : World) (e : Ending) (w' : World) : Prop := ∃ u : ByteArray, e = .returned (.string u) ∧ u.size ≤ 5000 ∧ Below w.heap.size w w'
theorem vt_len (p c h s : Int) : (vt p c h s).length ≤ 11 := by
  have := num2_len p
  have := num2_len c
  have := num2_len h
  have := num2_len s
  unfold vt vtext
  split
  · simp; omega
  · simp
theorem chain_grown {w w1 w2 : World} {g : Nat} (h : Below w.heap.size w w1) (k : w1.grownBy w2 (some g)) (hg : w.heap.size ≤ g) : Below w.heap.size w w2 :=
  h.grown k h.size (fun i hi => by cases hi; exact hg)
theorem big_any (a : Option Addr) (len cap : Nat) (w : World) :
    Calls Tryd.prog 6 #[.slice a len cap] w fun e w' => e = .returned (.bool (decide (4096 < (len : Int)))) ∧ w = w' := by
  go_enter Tryd.func6, Tryd.ntmps6
  go_wp2
  go_ret
  exact ⟨rfl, rfl⟩

set_option maxHeartbeats 1000000 in
theorem drawVariant_any (B : Nat) (a : Option Addr) (len cap : Nat) (w : World) (hB : B ≤ w.heap.size) (hlen : len ≤ 1048576) (hcode : CodeIn B w a len) :
    Calls Tryd.prog 7 #[.slice a len cap] w (DrawnVar w) := by
  have hc1 := hcode.below ((Below.refl B w).alloc hB (.cells #[.int .i64 0, .int .i64 0, .int .i64 0, .int .i64 0] 25))
  go_enter Tryd.func7, Tryd.ntmps7
  go_wp2_with fail
  have B0 := Blk.new w #[.int .i64 0, .int .i64 0, .int .i64 0, .int .i64 0] 25
  refine (from_any B a len cap _ (by simp; omega) hlen hc1).mono ?_
  rintro e w1 ⟨g, rfl, hg, hS, hb⟩
  have hg' : w.heap.size < g := by simp at hg; omega
  replace B0 := B0.below hb
  replace hb := from_alloc hb
  go_wp2_with fail
  refine (drawAny_any B g a len cap _ hS).mono ?_
  rintro e w2 ⟨p, c, h, s, rfl, _, _, _, _, hS2, hG⟩
  replace B0 := B0.grown hG (by omega)
  replace hb := chain_grown hb hG (by omega)
  obtain ⟨y0, y1, y2, y3, yf, yl⟩ := B0.four
  go_wp2_with fail
  refine bodyPost_ret (v := .agg #[.int .i64 p, .int .i64 c, .int .i64 h, .int .i64 s]) (by simp [results, Tryd.results7, go_sem, y0, y1, y2, y3]) rfl ?_
  exact ⟨_, _, _, _, rfl, (((hb.setCell (Nat.le_refl _) _).setCell (Nat.le_refl _) _).setCell (Nat.le_refl _) _).setCell (Nat.le_refl _) _⟩

set_option maxHeartbeats 1000000 in
theorem drawText_any (B : Nat) (a : Option Addr) (len cap : Nat) (w : World) (hB : B ≤ w.heap.size) (hlen : len ≤ 1048576) (hcode : CodeIn B w a len) :
    Calls Tryd.prog 12 #[.slice a len cap] w (DrawnText w) := by
  go_enter Tryd.func12, Tryd.ntmps12
  go_wp2_with fail
  refine (from_any B a len cap _ hB hlen hcode).mono ?_
  rintro e w1 ⟨g, rfl, hg, hS, hb⟩
  go_wp2_with fail
  refine (drawAny_any B g a len cap _ hS).mono ?_
  rintro e w2 ⟨p, c, h, s, rfl, _, _, _, _, hS2, hG⟩
  replace hb := chain_grown hb hG hg
  obtain ⟨T, hT⟩ : ∃ T : ByteArray, T = ⟨(vt p c h s).toArray⟩ := ⟨_, rfl⟩
  have hz : T.size ≤ 1000 := by
    have := vt_len p c h s
    rw [hT]
    simp [ByteArray.size]; omega
  have ht := fun w => specVariantText_any p c h s w
  rw [← hT] at ht
  have HT := Lib.hid ht
  clear ht hT
  go_wp2_with fail
  refine (HT.out _).mono ?_
  rintro e w3 ⟨rfl, hb3⟩
  replace hb := chain hb hb3
  replace hS2 := hS2.below hb3
  go_wp2_with fail
  refine (damage_any B g a len cap T _ hS2 hz).mono ?_
  rintro e w4 ⟨u, rfl, hu, hS4, hG4⟩
  replace hb := chain_grown hb hG4 hg
  go_wp2_with fail
  go_ret
  exact ⟨u, rfl, hu, hb⟩
end Go.Proofs.YtlbmknmihofloaaDoor
