/- Contracts of the functions of chapter 1 that read a variant from a text: the program's reader. -/
import Derived.Test.YtlbmknmihofloaaDoorL01r
namespace Go.Proofs.YtlbmknmihofloaaDoor
open Go.ChangeShapes Go.WideShapes Go.ChangeAt Go.RowKit
set_option linter.unusedVariables false
set_option linter.unusedSimpArgs false

/-- What a reader of variants hands back. -/
def rvVal : Option (Int × Int × Int × Int) → Value
  | some (p, c, h, s) => .tuple #[.agg #[.int .i64 p, .int .i64 c, .int .i64 h, .int .i64 s], .bool true]
  | none => .tuple #[.agg #[.int .i64 0, .int .i64 0, .int .i64 0, .int .i64 0], .bool false]
theorem text_name {p c h s : Int} (g : vB p c h s = true) (t : ByteArray) : ∃ T : ByteArray, (T.toList == t.toList) = decide (vtext p c h s = t.data.toList) ∧
    (∀ w, Calls Tryd.prog 20 #[.agg #[.int .i64 p, .int .i64 c, .int .i64 h, .int .i64 s]] w fun e w' => e = .returned (.string T) ∧ Below w.heap.size w w') :=
  ⟨_, by rw [ByteArray.toList_mk, ByteArray.toList_eq, Bool.eq_iff_iff]; simp, fun w => text_any p c h s w g⟩

set_option maxHeartbeats 400000 in
theorem readVariant_any (t : ByteArray) (w : World) (ht : t.size ≤ maxLen) :
    Calls Tryd.prog 11 #[.string t] w fun e w' => e = .returned (rvVal (rvI t.data.toList)) ∧ Below w.heap.size w w' := by
  obtain ⟨F, hF⟩ : ∃ F, scanL t.data.toList 0 [0, 0, 0, 0] = F := ⟨_, rfl⟩
  have hcall := fun w => scan_any t w ht F hF
  have hr : rvI t.data.toList = if vB (F.getD 0 0) (F.getD 1 0) (F.getD 2 0) (F.getD 3 0) = true ∧ vtext (F.getD 0 0) (F.getD 1 0) (F.getD 2 0) (F.getD 3 0) = t.data.toList then some (F.getD 0 0, F.getD 1 0, F.getD 2 0, F.getD 3 0) else none := by
    unfold rvI; rw [hF]
  rw [hr]
  clear hr hF
  generalize F.getD 0 0 = p at *
  generalize F.getD 1 0 = c at *
  generalize F.getD 2 0 = h at *
  generalize F.getD 3 0 = s at *
  have HC := Lib.hid hcall
  clear hcall
  by_cases g : vB p c h s = true
  · obtain ⟨T, hT, htext⟩ := text_name g t
    have HT := Lib.hid htext
    clear htext
    by_cases q : vtext p c h s = t.data.toList
    · rw [if_pos ⟨g, q⟩]
      simp only [q, decide_true] at hT
      clear q
      show Calls Tryd.prog 11 #[.string t] w fun e w' => e = .returned (.tuple #[.agg #[.int .i64 p, .int .i64 c, .int .i64 h, .int .i64 s], .bool true]) ∧ Below w.heap.size w w'
      go_enter Tryd.func11, Tryd.ntmps11
      go_wp2_with fail
      refine (HC.out _).mono ?_
      rintro e w1 ⟨rfl, hb1⟩
      have B0 := (Blk.new w _ _).below hb1
      have hb := from_alloc hb1
      clear hb1
      go_wp2_with fail
      refine (valid_any _ _ _ _ _).mono ?_
      rintro e w2 ⟨rfl, hb2⟩
      have B1 := (Blk.new w1 _ _).below hb2
      replace B0 := (B0.alloc _).below hb2
      replace hb := chain hb (from_alloc hb2)
      clear hb2
      obtain ⟨x0, x1, x2, x3, xf, xl⟩ := B1.four
      go_wp2_with fail
      clear x0 x1 x2 x3 xf xl
      refine (HT.out _).mono ?_
      rintro e w3 ⟨rfl, hb3⟩
      replace B1 := B1.below hb3
      replace B0 := B0.below hb3
      replace hb := chain hb hb3
      clear hb3
      obtain ⟨y0, y1, y2, y3, yf, yl⟩ := B0.four
      obtain ⟨x0, x1, x2, x3, xf, xl⟩ := B1.four
      go_wp2_with fail
      refine bodyPost_ret (v := .tuple #[.agg #[.int .i64 p, .int .i64 c, .int .i64 h, .int .i64 s], .bool true]) (by simp [results, Tryd.results11, go_sem, y0, y1, y2, y3]) rfl ?_
      exact ⟨rfl, (((hb.setCell (Nat.le_refl _) _).setCell (Nat.le_refl _) _).setCell (Nat.le_refl _) _).setCell (Nat.le_refl _) _⟩
    · rw [if_neg (fun z => q z.2)]
      simp only [q, decide_false] at hT
      clear q
      show Calls Tryd.prog 11 #[.string t] w fun e w' => e = .returned (.tuple #[.agg #[.int .i64 0, .int .i64 0, .int .i64 0, .int .i64 0], .bool false]) ∧ Below w.heap.size w w'
      go_enter Tryd.func11, Tryd.ntmps11
      go_wp2_with fail
      refine (HC.out _).mono ?_
      rintro e w1 ⟨rfl, hb1⟩
      have B0 := (Blk.new w _ _).below hb1
      have hb := from_alloc hb1
      clear hb1
      go_wp2_with fail
      refine (valid_any _ _ _ _ _).mono ?_
      rintro e w2 ⟨rfl, hb2⟩
      have B1 := (Blk.new w1 _ _).below hb2
      replace B0 := (B0.alloc _).below hb2
      replace hb := chain hb (from_alloc hb2)
      clear hb2
      obtain ⟨x0, x1, x2, x3, xf, xl⟩ := B1.four
      go_wp2_with fail
      clear x0 x1 x2 x3 xf xl
      refine (HT.out _).mono ?_
      rintro e w3 ⟨rfl, hb3⟩
      replace B1 := B1.below hb3
      replace B0 := B0.below hb3
      replace hb := chain hb hb3
      clear hb3
      obtain ⟨y0, y1, y2, y3, yf, yl⟩ := B0.four
      obtain ⟨x0, x1, x2, x3, xf, xl⟩ := B1.four
      go_wp2_with fail
      refine bodyPost_ret (v := .tuple #[.agg #[.int .i64 0, .int .i64 0, .int .i64 0, .int .i64 0], .bool false]) (by simp [results, Tryd.results11, go_sem, y0, y1, y2, y3]) rfl ?_
      exact ⟨rfl, (((hb.setCell (Nat.le_refl _) _).setCell (Nat.le_refl _) _).setCell (Nat.le_refl _) _).setCell (Nat.le_refl _) _⟩
  · rw [if_neg (fun z => g z.1)]
    show Calls Tryd.prog 11 #[.string t] w fun e w' => e = .returned (.tuple #[.agg #[.int .i64 0, .int .i64 0, .int .i64 0, .int .i64 0], .bool false]) ∧ Below w.heap.size w w'
    go_enter Tryd.func11, Tryd.ntmps11
    go_wp2_with fail
    refine (HC.out _).mono ?_
    rintro e w1 ⟨rfl, hb1⟩
    have B0 := (Blk.new w _ _).below hb1
    have hb := from_alloc hb1
    clear hb1
    go_wp2_with fail
    refine (valid_any _ _ _ _ _).mono ?_
    rintro e w2 ⟨rfl, hb2⟩
    have B1 := (Blk.new w1 _ _).below hb2
    replace B0 := (B0.alloc _).below hb2
    replace hb := chain hb (from_alloc hb2)
    clear hb2
    obtain ⟨y0, y1, y2, y3, yf, yl⟩ := B0.four
    obtain ⟨x0, x1, x2, x3, xf, xl⟩ := B1.four
    go_wp2_with fail
    refine bodyPost_ret (v := .tuple #[.agg #[.int .i64 0, .int .i64 0, .int .i64 0, .int .i64 0], .bool false]) (by simp [results, Tryd.results11, go_sem, y0, y1, y2, y3]) rfl ?_
    exact ⟨rfl, (((hb.setCell (Nat.le_refl _) _).setCell (Nat.le_refl _) _).setCell (Nat.le_refl _) _).setCell (Nat.le_refl _) _⟩
end Go.Proofs.YtlbmknmihofloaaDoor
