/- The law's marks on exact numbers and on a database. -/
import Derived.Test.YtgohipfaojiilaaDbArg
import Derived.BigQuiet
namespace Go.Proofs.Ytgohipfaojiilaa
open Go.ChangeShapes Go.WideShapes Go.ChangeAt Go.RowKit
set_option linter.unusedVariables false
set_option linter.unusedSimpArgs false
set_option maxRecDepth 4000

/-- The marks that the law writes into exact numbers. -/
def mkR (k : Int) (n : Nat) : List Rl := (List.range n).map fun (j : Nat) => (k + 2 * (j : Int), k + 2 * (j : Int) + 1)
theorem mkR_length (k : Int) (n : Nat) : (mkR k n).length = n := by simp [mkR]
theorem mkR_succ (k : Int) (n : Nat) : mkR k (n + 1) = mkR k n ++ [(k + 2 * (n : Int), k + 2 * (n : Int) + 1)] := by simp [mkR, List.range_succ]
theorem mkR_get (k : Int) (n j : Nat) (h : j < n) : (mkR k n)[j]? = some (k + 2 * (j : Int), k + 2 * (j : Int) + 1) := by simp [mkR, h]
theorem set2_app (A B : List Value) (v0 v1 x0 x1 : Value) (n : Nat) (hn : A.length = n) :
    (((A ++ v0 :: v1 :: B).set n x0).set (n + 1) x1) = A ++ x0 :: x1 :: B := by
  subst hn
  simp [List.set_append, Nat.add_sub_cancel_left]
theorem rlsC_drop : ∀ (l : List Rl) (j : Nat) (s : Rl), l[j]? = some s → (rlsC l).drop (j * 2) = .int .i64 s.1 :: .int .i64 s.2 :: (rlsC l).drop ((j + 1) * 2)
  | [], j, s, h => by simp at h
  | x :: l, 0, s, h => by
    simp at h
    subst h
    simp [rlsC, rlC]
  | x :: l, j + 1, s, h => by
    have ih := rlsC_drop l j s (by simpa using h)
    have e1 : (j + 1) * 2 = j * 2 + 2 := by omega
    have e2 : (j + 1 + 1) * 2 = (j + 1) * 2 + 2 := by omega
    rw [e1, e2]
    exact ih
set_option maxRecDepth 8000 in
set_option maxHeartbeats 2000000 in
theorem markExactS_any (g : Nat) (n cap : Nat) (l : List Rl) (k : Int) (w : World) (hn : l.length = n) (hle : n ≤ 1048576) (hk0 : 0 ≤ k) (hk1 : k ≤ 1000000000) (hR : XRow w g l) :
    Calls Try.prog 27 #[.slice (some ⟨g, 0, none⟩) n cap, .int .i64 k] w fun e w' => e = .returned (.int .i64 (k + 2 * (n : Int))) ∧ XRow w' g (mkR k n) ∧ w.grownBy w' (some g) := by
  subst hn
  go_enter Try.func27, Try.ntmps27
  go_wp2
  go_loopg [1, 5] l.length (fun m q i wr => ∃ j : Nat, j ≤ l.length ∧ m = l.length - j ∧ i = .int .i64 j ∧ q = .int .i64 (k + 2 * (j : Int)) ∧ VRow wr g (rlsC (mkR k j) ++ (rlsC l).drop (j * 2)) 66 ∧ w.grownBy wr (some g))
  case atStart => exact ⟨0, by omega, by omega, rfl, by simp, by simpa [mkR, rlsC] using hR, grown_refl _ _⟩
  case round =>
    obtain ⟨j, hj, hm, rfl, rfl, hr, hG⟩ := hrel
    by_cases hlt : j < l.length
    · have hlt' : (j : Int) < (l.length : Int) := by omega
      obtain ⟨s, hs⟩ : ∃ s, l[j]? = some s := ⟨_, List.getElem?_eq_getElem hlt⟩
      have hA : (rlsC (mkR k j)).length = j * 2 := by rw [rlsC_length, mkR_length]
      rw [rlsC_drop l j s hs] at hr
      have f0 := fun i => hr.free i
      have c0 := hr.cell (j * 2) (.int .i64 s.1) (by rw [List.getElem?_append_right (by omega), hA]; simp)
      have c1 := hr.cell (j * 2 + 1) (.int .i64 s.2) (by rw [List.getElem?_append_right (by omega), hA]; simp)
      have hR2 := ((hr.set (j * 2) (.int .i64 (k + 2 * (j : Int)))).set (j * 2 + 1) (.int .i64 (k + 2 * (j : Int) + 1))).wf (set2_app _ _ _ _ _ _ _ hA)
      have hR3 := Lib.hid (hR2.wf (show _ = rlsC (mkR k (j + 1)) ++ (rlsC l).drop ((j + 1) * 2) by rw [mkR_succ, rlsC_append]; simp [rlsC, rlC]))
      have hG3 := Lib.hid (grown_set (v := .int .i64 (k + 2 * (j : Int) + 1)) (o := j * 2 + 1) (grown_set (v := .int .i64 (k + 2 * (j : Int))) (o := j * 2) hG))
      clear hR2 hr hs hA
      go_wp2
      go_roundg (l.length - (j + 1))
      case measure => omega
      case rel =>
        exact ⟨j + 1, by omega, rfl, by go_num, by go_num, hR3.out, hG3.out⟩
    · obtain rfl : j = l.length := by omega
      have hfin := Lib.hid hr
      clear hr
      go_wp2
      go_ret
      refine ⟨rfl, hfin.out.wf ?_, hG⟩
      rw [List.drop_eq_nil_of_le (by rw [rlsC_length]; omega), List.append_nil]
set_option maxHeartbeats 1000000 in
theorem markDatabase_any (p c h s kd : Int) (g : Nat) (L : List Rl) (k : Int) (w : World) (hle : L.length ≤ 1048576) (hk0 : 0 ≤ k) (hk1 : k ≤ 1000000000) (hR : XRow w g L) :
    Calls Try.prog 11 #[.agg #[.int .i64 p, .int .i64 c, .int .i64 h, .int .i64 s, .int .i64 kd, .slice (some ⟨g, 0, none⟩) L.length L.length], .int .i64 k] w fun e w' => e = .returned (.int .i64 (k + 2 * (L.length : Int))) ∧ w.heap.size ≤ w'.heap.size ∧ Same g (g + 1) w w' := by
  have BD := Blk.new w #[.int .i64 p, .int .i64 c, .int .i64 h, .int .i64 s, .int .i64 kd, .slice (some ⟨g, 0, none⟩) L.length L.length] 34
  have hb : Below w.heap.size w (w.alloc (.cells #[.int .i64 p, .int .i64 c, .int .i64 h, .int .i64 s, .int .i64 kd, .slice (some ⟨g, 0, none⟩) L.length L.length] 34)) := (Below.refl _ _).alloc (Nat.le_refl _) _
  have H := Lib.hid (markExactS_any g L.length L.length L k _ rfl hle hk0 hk1 (VRow.below hR hb))
  obtain ⟨x0, x1, x2, x3, x4, x5, xf, xl⟩ := BD.six
  go_enter Try.func11, Try.ntmps11
  go_wp2_with fail
  refine H.out.mono ?_
  rintro e w2 ⟨rfl, -, hg⟩
  go_wp2_with fail
  go_ret
  refine ⟨rfl, Nat.le_trans hb.size hg.size, hg.os.trans hb.os, hg.tape.trans hb.tape, hg.output.trans hb.output, Nat.le_trans hb.size hg.size, fun i hi ho => ?_⟩
  have := hb.size
  exact (hg.block i (by omega) (fun e => by cases e; omega)).trans (hb.block i hi)
end Go.Proofs.Ytgohipfaojiilaa
