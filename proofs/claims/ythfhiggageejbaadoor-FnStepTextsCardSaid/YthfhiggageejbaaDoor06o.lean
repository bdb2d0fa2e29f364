/- Contract of the model's guess of a step from a text. -/
import Derived.Test.YthfhiggageejbaaDoorM06
import Derived.Test.YthfhiggageejbaaDoorStp
import Derived.Test.YthfhiggageejbaaDoorL01w
import Derived.Test.YthfhiggageejbaaDoorL01x
import Derived.Test.YthfhiggageejbaaDoorBoardLaws
namespace Go.Proofs.YthfhiggageejbaaDoor
open Go.ChangeShapes Go.WideShapes Go.ChangeAt Go.RowKit
set_option linter.unusedVariables false
set_option linter.unusedSimpArgs false

theorem words_le (y : Nat) : ∀ (l : List UInt8) (x : List UInt8), x ∈ splitL y l → x.length ≤ l.length
  | [], x, h => by simp [splitL] at h; simp [h]
  | b :: r, x, h => by
    rw [splitL] at h
    split at h
    · rcases List.mem_cons.1 h with rfl | h
      · simp
      · have := words_le y r x h
        simp; omega
    · cases hs : splitL y r with
      | nil => exact absurd hs (splitL_ne y r)
      | cons p q =>
        rw [hs] at h
        rcases List.mem_cons.1 h with rfl | h
        · have := words_le y r p (by rw [hs]; simp)
          simp; omega
        · have := words_le y r x (by rw [hs]; simp [h])
          simp; omega
theorem list_size (l : List UInt8) : (⟨l.toArray⟩ : ByteArray).size = l.length := by simp [ByteArray.size]
theorem valL_bound (l : List UInt8) : 0 ≤ (valL l).1 ∧ (valL l).1 ≤ 1000000000000000 := by
  unfold valL
  split
  · simp
  · split
    · rename_i h1 h2
      have := digs_bound _ l rfl h2
      have hp : 10 ^ l.length ≤ 10 ^ 15 := Nat.pow_le_pow_right (by decide) (by omega)
      have : 10 ^ 15 = 1000000000000000 := by decide
      show 0 ≤ digs l ∧ digs l ≤ _
      omega
    · simp
/-- The value of a word, by name. -/
theorem value_named (t : ByteArray) (ht : t.size ≤ 1048576) : ∃ (v : Int) (b : Bool), v = (valL t.data.toList).1 ∧ 0 ≤ v ∧ v ≤ 1000000000000000 ∧ ∀ w, Calls Tryd.prog 81 #[.string t] w fun e w' => e = .returned (.tuple #[.int .i64 v, .bool b]) ∧ w = w' :=
  ⟨_, _, rfl, (valL_bound _).1, (valL_bound _).2, fun w => value_any t w (by unfold maxLen; omega)⟩
theorem ext0 (E : ByteArray) (k : Nat) : (E.extract 0 k).data.toList = E.data.toList.take k := by
  rw [extract_seg]
  show seg E 0 k = _
  simp [seg]
theorem getD_at (E : ByteArray) (K : Nat) (h : K < E.size) : E.data.toList.getD K 0 = E[K] := by
  have hj : K < E.data.toList.length := by rw [← Lib.size_eq]; exact h
  rw [List.getD_eq_getElem?_getD, List.getElem?_eq_getElem hj]
  rfl
set_option maxRecDepth 8000 in
set_option maxHeartbeats 8000000 in
theorem specGuess_any (p c h s : Int) (t : ByteArray) (w : World) (hp : 2 ≤ p ∧ p ≤ 24) (ht : t.size ≤ 1048576) :
    Calls Tryd.prog 67 #[.agg #[.int .i64 p, .int .i64 c, .int .i64 h, .int .i64 s], .string t] w fun e w' => e = .returned (.agg #[.int .i64 (guess p t.data.toList).1, .int .i64 (guess p t.data.toList).2.1, .int .i64 (guess p t.data.toList).2.2.1, .bool (guess p t.data.toList).2.2.2]) ∧ Below w.heap.size w w' := by
  obtain ⟨BV, BG, BO, hb, hz⟩ := three_new w #[.int .i64 p, .int .i64 c, .int .i64 h, .int .i64 s] #[.int .i64 0, .int .i64 0, .int .i64 0, .bool false] #[.int .i64 p, .int .i64 0, .int .i64 0, .bool false] 29 38 38
  clear hz
  have hcall := fun W => split_any t 47 W ht
  have hlen := words_le 47 t.data.toList
  unfold guess
  rw [show (47 : UInt8).toNat = 47 from rfl] at hcall
  obtain ⟨WW, hWW⟩ : ∃ WW, splitL 47 t.data.toList = WW := ⟨_, rfl⟩
  rw [hWW] at hcall hlen ⊢
  have hne : WW ≠ [] := hWW ▸ splitL_ne 47 t.data.toList
  rw [← Lib.size_eq] at hlen
  have HC := Lib.hid hcall
  clear hcall hWW
  obtain ⟨x0, x1, x2, x3, xf, xl⟩ := BV.four
  by_cases h2 : WW.length = 2
  · rw [if_pos h2]
    match WW, h2 with
    | [x, y], _ =>
      have hx := hlen x (by simp)
      have hy := hlen y (by simp)
      clear hlen hne
      show Calls Tryd.prog 67 #[.agg #[.int .i64 p, .int .i64 c, .int .i64 h, .int .i64 s], .string t] w fun e w' => e = .returned (.agg #[.int .i64 (gFrom p x), .int .i64 (gEnd (gFrom p x) y).1, .int .i64 (gEnd (gFrom p x) y).2.1, .bool (gEnd (gFrom p x) y).2.2]) ∧ Below w.heap.size w w'
      obtain ⟨X, hX, hXz⟩ : ∃ X : ByteArray, X = ⟨x.toArray⟩ ∧ X.size ≤ 1048576 := ⟨_, rfl, by rw [list_size]; omega⟩
      obtain ⟨E, hE_, hEz⟩ : ∃ E : ByteArray, E = ⟨y.toArray⟩ ∧ E.size ≤ 1048576 := ⟨_, rfl, by rw [list_size]; omega⟩
      have hE : E.data.toList = y := by rw [hE_]
      have hXd : X.data.toList = x := by rw [hX]
      obtain ⟨F, hF0⟩ : ∃ F, gFrom p x = F := ⟨_, rfl⟩
      rw [hF0]
      obtain ⟨⟨g1, g2, g3⟩, hG0⟩ : ∃ G, gEnd F y = G := ⟨_, rfl⟩
      rw [hG0]
      have HGR := Lib.hid hG0
      have HF0 := Lib.hid hF0
      clear hG0 hF0
      go_enter Tryd.func67, Tryd.ntmps67
      go_wp2_with fail
      generalize (((w.alloc (.cells #[.int .i64 p, .int .i64 c, .int .i64 h, .int .i64 s] 29)).alloc (.cells #[.int .i64 0, .int .i64 0, .int .i64 0, .bool false] 38)).alloc (.cells #[.int .i64 p, .int .i64 0, .int .i64 0, .bool false] 38)) = ww0 at *
      refine (HC.out _).mono ?_
      rintro e w1 ⟨sv, rfl, hown, hb1⟩
      obtain ⟨g, cap, rfl⟩ := Joins.ownsRow_form hown (by simp)
      replace BG := BG.below hb1
      replace BO := BO.below hb1
      replace hb := chain hb hb1
      have c0 : w1.cell? ⟨g, 0, none⟩ = some (.string X) := by rw [hown.cellAt 0 (by simp)]; rw [hX]; rfl
      have c1 : w1.cell? ⟨g, 1, none⟩ = some (.string E) := by rw [hown.cellAt 1 (by simp)]; rw [hE_]; rfl
      have hgl : ww0.heap.size ≤ g := by
        rcases hown.2 with ⟨q, _⟩ | ⟨g', cap', cur, q1, q2, _⟩
        · simp at q
        · simp at q1; omega
      have hl0 := BO.lt
      clear hown hb1 HC hE_ hx hy BV x0 x1 x2 x3 xf xl
      by_cases hbar : x = barL
      · have eF : gFrom p x = p := by unfold gFrom; rw [if_pos hbar]
        have qX : (X.toList == [98, 97, 114]) = true := by rw [beq_iff_eq, ByteArray.toList_eq, hXd]; exact hbar
        have hf := HF0.out
        rw [eF] at hf
        subst hf
        have hF : -1 ≤ p ∧ p ≤ 1000000000000000 := by omega
        have hbF := hb
        clear eF hbar hXd hX hXz hb hgl hp
        obtain ⟨x0, x1, x2, x3, xf, xl⟩ := BO.four
        obtain ⟨j0, j1, j2, j3, jf, jl⟩ := BG.four
        by_cases h3 : 3 ≤ E.size ∧ E.data.toList.take 3 = offL
        · obtain ⟨hn3, h3⟩ := h3
          have g3 : decide (3 ≤ (E.size : Int)) = true := by simp; omega
          have g3b : decide (3 ≤ E.size) = true := by simp; omega
          have g3c : (3 : Int) ≤ (E.size : Int) := by omega
          have qS3 : ((E.extract 0 3).toList == [111, 102, 102]) = true := by rw [beq_iff_eq, ByteArray.toList_eq, ext0]; exact h3
          have eG : gEnd p y = (-1, if 5 < y.length then (valL ((y.take (y.length - 1)).drop 4)).1 else p + 1, false) := by unfold gEnd; rw [if_pos (by rw [← hE]; exact ⟨by rw [← Lib.size_eq]; exact hn3, h3⟩)]
          have hg := HGR.out
          rw [eG] at hg
          clear eG h3
          have wF1 : IntKind.i64.wrap (p + 1) = p + 1 := IntWalk.i64_in _ (by omega)
          by_cases h5 : 5 < E.size
          · have g5 : decide (5 < (E.size : Int)) = true := by simp; omega
            have g5b : decide (5 < E.size) = true := by simp; omega
            have wK : IntKind.i64.wrap ((E.size : Int) - 1) = ((E.size - 1 : Nat) : Int) := by rw [show (E.size : Int) - 1 = ((E.size - 1 : Nat) : Int) by omega]; exact IntWalk.i64_in _ (by omega)
            obtain ⟨K, hK⟩ : ∃ K, E.size - 1 = K := ⟨_, rfl⟩
            rw [hK] at wK
            have hKj : (K : Int) ≤ (E.size : Int) := by omega
            have hKk : K ≤ E.size := by omega
            have hK4 : (4 : Int) ≤ (K : Int) := by omega
            have hK4b : 4 ≤ K := by omega
            have eS4 : (E.extract 4 K).data.toList = (E.data.toList.take K).drop 4 := by rw [extract_seg]; show seg E 4 K = _; unfold seg; rw [List.drop_take]
            obtain ⟨v, vb, ev, v0, v1, hv⟩ := value_named (E.extract 4 K) (by simp [ByteArray.size_extract]; omega)
            rw [show (if 5 < y.length then (valL ((y.take (y.length - 1)).drop 4)).1 else p + 1) = v by rw [if_pos (by rw [← hE, ← Lib.size_eq]; exact h5), ev, eS4, hE, show y.length - 1 = K by rw [← hE, ← Lib.size_eq]; exact hK]] at hg
            simp only [Prod.mk.injEq] at hg
            obtain ⟨rfl, rfl, rfl⟩ := hg
            have HVAL := Lib.hid hv
            clear hv ev eS4 hK h5 hn3 hEz hE hF v0 v1
            go_wp2_with (first | (go_at_call 81; refine (HVAL.out _).mono ?_; clear HVAL; rintro e wq1 ⟨rfl, hwq⟩; have BO2 := ((BO.set (i := 1) (.int .i64 (-1))).set (i := 2) (.int .i64 (p + 1))); have BG2 := ((BG.other (g := w.heap.size + 1 + 1) (o := 1) (v := .int .i64 (-1)) (by omega)).other (g := w.heap.size + 1 + 1) (o := 2) (v := .int .i64 (p + 1)) (by omega)); have hbF2 := ((hbF.setCell (p := ⟨w.heap.size + 1 + 1, 1, none⟩) (by show _ ≤ w.heap.size + 1 + 1; omega) (.int .i64 (-1))).setCell (p := ⟨w.heap.size + 1 + 1, 2, none⟩) (by show _ ≤ w.heap.size + 1 + 1; omega) (.int .i64 (p + 1))); simp only [List.setIfInBounds_toArray, List.set_cons_zero, List.set_cons_succ] at BO2; rw [hwq] at BO2 BG2 hbF2; clear hwq; obtain ⟨u0, u1, u2, u3, uf, ul⟩ := BO2.four; obtain ⟨j0, j1, j2, j3, jf, jl⟩ := BG2.four))
            refine bodyPost_ret (v := .agg #[.int .i64 p, .int .i64 (-1), .int .i64 v, .bool false]) (by simp [results, Tryd.results67, go_sem, j0, j1, j2, j3]) rfl ?_
            exact ⟨rfl, (((((hbF2.setCell (p := ⟨w.heap.size + 1 + 1, 2, none⟩) (by show _ ≤ w.heap.size + 1 + 1; omega) _).setCell (p := ⟨w.heap.size + 1, 0, none⟩) (by show _ ≤ w.heap.size + 1; omega) _).setCell (p := ⟨w.heap.size + 1, 1, none⟩) (by show _ ≤ w.heap.size + 1; omega) _).setCell (p := ⟨w.heap.size + 1, 2, none⟩) (by show _ ≤ w.heap.size + 1; omega) _).setCell (p := ⟨w.heap.size + 1, 3, none⟩) (by show _ ≤ w.heap.size + 1; omega) _)⟩
          · have g5 : decide (5 < (E.size : Int)) = false := by simp; omega
            have g5b : decide (5 < E.size) = false := by simp; omega
            rw [if_neg (by rw [← hE, ← Lib.size_eq]; exact h5)] at hg
            simp only [Prod.mk.injEq] at hg
            obtain ⟨rfl, rfl, rfl⟩ := hg
            clear h5 hn3 hEz hE hF
            go_wp2_with fail
            refine bodyPost_ret (v := .agg #[.int .i64 p, .int .i64 (-1), .int .i64 (p + 1), .bool false]) (by simp [results, Tryd.results67, go_sem, j0, j1, j2, j3]) rfl ?_
            exact ⟨rfl, ((((((hbF.setCell (p := ⟨w.heap.size + 1 + 1, 1, none⟩) (by show _ ≤ w.heap.size + 1 + 1; omega) _).setCell (p := ⟨w.heap.size + 1 + 1, 2, none⟩) (by show _ ≤ w.heap.size + 1 + 1; omega) _).setCell (p := ⟨w.heap.size + 1, 0, none⟩) (by show _ ≤ w.heap.size + 1; omega) _).setCell (p := ⟨w.heap.size + 1, 1, none⟩) (by show _ ≤ w.heap.size + 1; omega) _).setCell (p := ⟨w.heap.size + 1, 2, none⟩) (by show _ ≤ w.heap.size + 1; omega) _).setCell (p := ⟨w.heap.size + 1, 3, none⟩) (by show _ ≤ w.heap.size + 1; omega) _)⟩
        · by_cases h42 : 0 < E.size ∧ (E.data.toList.getD (E.size - 1) 0).toNat = 42
          · obtain ⟨hn0, h42⟩ := h42
            have eG : gEnd p y = ((valL (y.take (y.length - 1))).1 - 1, p - ((valL (y.take (y.length - 1))).1 - 1), true) := by unfold gEnd; rw [← hE, if_neg (by rw [← Lib.size_eq]; exact h3), if_pos (by rw [← Lib.size_eq]; exact ⟨hn0, h42⟩)]
            have wK : IntKind.i64.wrap ((E.size : Int) - 1) = ((E.size - 1 : Nat) : Int) := by rw [show (E.size : Int) - 1 = ((E.size - 1 : Nat) : Int) by omega]; exact IntWalk.i64_in _ (by omega)
            obtain ⟨K, hK⟩ : ∃ K, E.size - 1 = K := ⟨_, rfl⟩
            rw [hK] at wK h42
            have hKE : K < E.size := by omega
            have hKi : (K : Int) < (E.size : Int) := by omega
            have hKj : (K : Int) ≤ (E.size : Int) := by omega
            have hKk : K ≤ E.size := by omega
            have elb := getD_at E K hKE
            rw [elb] at h42
            have e42 : ((E[K].toNat : Int) == 42) = true := by rw [h42]; rfl
            have g0 : decide (0 < (E.size : Int)) = true := by simp; omega
            have g0b : decide (0 < E.size) = true := by simp; omega
            clear elb
            have eS1 := ext0 E K
            obtain ⟨v, vb, ev, v0, v1, hv⟩ := value_named (E.extract 0 K) (by simp [ByteArray.size_extract]; omega)
            have HVAL := Lib.hid hv
            have ey : (valL (y.take (y.length - 1))).1 = v := by rw [ev, eS1, hE, show y.length - 1 = K by rw [← hE, ← Lib.size_eq]; exact hK]
            have hg := HGR.out
            rw [eG, ey] at hg
            obtain ⟨TW, hTW⟩ : ∃ z, v - 1 = z := ⟨_, rfl⟩
            have wT : IntKind.i64.wrap (v - 1) = TW := by rw [hTW]; exact IntWalk.i64_in _ (by omega)
            obtain ⟨DW, hDW⟩ : ∃ z, p - TW = z := ⟨_, rfl⟩
            have wD : IntKind.i64.wrap (p - TW) = DW := by rw [hDW]; exact IntWalk.i64_in _ (by omega)
            rw [hTW, hDW] at hg
            simp only [Prod.mk.injEq] at hg
            obtain ⟨rfl, rfl, rfl⟩ := hg
            by_cases hn3 : 3 ≤ E.size
            · replace h3 : ¬ E.data.toList.take 3 = offL := fun q => h3 ⟨hn3, q⟩
              have g3 : decide (3 ≤ (E.size : Int)) = true := by simp; omega
              have g3b : decide (3 ≤ E.size) = true := by simp; omega
              have g3c : (3 : Int) ≤ (E.size : Int) := by omega
              have qS3 : ((E.extract 0 3).toList == [111, 102, 102]) = false := by rw [beq_eq_false_iff_ne, ByteArray.toList_eq, ext0]; exact h3
              clear h3 h42 hn3 hn0 hK eG ey ev eS1 hv v0 v1 hTW hDW hEz hE hF
              go_wp2_with (first | (go_at_call 81; refine (HVAL.out _).mono ?_; clear HVAL; rintro e wq1 ⟨rfl, rfl⟩))
              refine bodyPost_ret (v := .agg #[.int .i64 p, .int .i64 TW, .int .i64 DW, .bool true]) (by simp [results, Tryd.results67, go_sem, j0, j1, j2, j3]) rfl ?_
              exact ⟨rfl, (((((((hbF.setCell (p := ⟨w.heap.size + 1 + 1, 3, none⟩) (by show _ ≤ w.heap.size + 1 + 1; omega) _).setCell (p := ⟨w.heap.size + 1 + 1, 1, none⟩) (by show _ ≤ w.heap.size + 1 + 1; omega) _).setCell (p := ⟨w.heap.size + 1 + 1, 2, none⟩) (by show _ ≤ w.heap.size + 1 + 1; omega) _).setCell (p := ⟨w.heap.size + 1, 0, none⟩) (by show _ ≤ w.heap.size + 1; omega) _).setCell (p := ⟨w.heap.size + 1, 1, none⟩) (by show _ ≤ w.heap.size + 1; omega) _).setCell (p := ⟨w.heap.size + 1, 2, none⟩) (by show _ ≤ w.heap.size + 1; omega) _).setCell (p := ⟨w.heap.size + 1, 3, none⟩) (by show _ ≤ w.heap.size + 1; omega) _)⟩
            · have g3 : decide (3 ≤ (E.size : Int)) = false := by simp; omega
              have g3b : decide (3 ≤ E.size) = false := by simp; omega
              clear h3 h42 hn3 hn0 hK eG ey ev eS1 hv v0 v1 hTW hDW hEz hE hF
              go_wp2_with (first | (go_at_call 81; refine (HVAL.out _).mono ?_; clear HVAL; rintro e wq1 ⟨rfl, rfl⟩))
              refine bodyPost_ret (v := .agg #[.int .i64 p, .int .i64 TW, .int .i64 DW, .bool true]) (by simp [results, Tryd.results67, go_sem, j0, j1, j2, j3]) rfl ?_
              exact ⟨rfl, (((((((hbF.setCell (p := ⟨w.heap.size + 1 + 1, 3, none⟩) (by show _ ≤ w.heap.size + 1 + 1; omega) _).setCell (p := ⟨w.heap.size + 1 + 1, 1, none⟩) (by show _ ≤ w.heap.size + 1 + 1; omega) _).setCell (p := ⟨w.heap.size + 1 + 1, 2, none⟩) (by show _ ≤ w.heap.size + 1 + 1; omega) _).setCell (p := ⟨w.heap.size + 1, 0, none⟩) (by show _ ≤ w.heap.size + 1; omega) _).setCell (p := ⟨w.heap.size + 1, 1, none⟩) (by show _ ≤ w.heap.size + 1; omega) _).setCell (p := ⟨w.heap.size + 1, 2, none⟩) (by show _ ≤ w.heap.size + 1; omega) _).setCell (p := ⟨w.heap.size + 1, 3, none⟩) (by show _ ≤ w.heap.size + 1; omega) _)⟩
          · have eG : gEnd p y = ((valL y).1 - 1, p - ((valL y).1 - 1), false) := by unfold gEnd; rw [← hE, if_neg (by rw [← Lib.size_eq]; exact h3), if_neg (by rw [← Lib.size_eq]; exact h42)]
            obtain ⟨v, vb, ev, v0, v1, hv⟩ := value_named E (by omega)
            have HVAL := Lib.hid hv
            rw [hE] at ev
            have hg := HGR.out
            rw [eG, ← ev] at hg
            obtain ⟨TW, hTW⟩ : ∃ z, v - 1 = z := ⟨_, rfl⟩
            have wT : IntKind.i64.wrap (v - 1) = TW := by rw [hTW]; exact IntWalk.i64_in _ (by omega)
            obtain ⟨DW, hDW⟩ : ∃ z, p - TW = z := ⟨_, rfl⟩
            have wD : IntKind.i64.wrap (p - TW) = DW := by rw [hDW]; exact IntWalk.i64_in _ (by omega)
            rw [hTW, hDW] at hg
            simp only [Prod.mk.injEq] at hg
            obtain ⟨rfl, rfl, rfl⟩ := hg
            by_cases hn0 : E.size = 0
            · have g0 : decide (0 < (E.size : Int)) = false := by rw [decide_eq_false_iff_not]; omega
              have g0b : decide (0 < E.size) = false := by rw [decide_eq_false_iff_not]; omega
              have g3 : decide (3 ≤ (E.size : Int)) = false := by simp; omega
              have g3b : decide (3 ≤ E.size) = false := by simp; omega
              clear h3 h42 hn0 eG ev hv v0 v1 hTW hDW hEz hE hF
              go_wp2_with (first | (go_at_call 81; refine (HVAL.out _).mono ?_; clear HVAL; rintro e wq1 ⟨rfl, rfl⟩))
              refine bodyPost_ret (v := .agg #[.int .i64 p, .int .i64 TW, .int .i64 DW, .bool false]) (by simp [results, Tryd.results67, go_sem, j0, j1, j2, j3]) rfl ?_
              exact ⟨rfl, ((((((hbF.setCell (p := ⟨w.heap.size + 1 + 1, 1, none⟩) (by show _ ≤ w.heap.size + 1 + 1; omega) _).setCell (p := ⟨w.heap.size + 1 + 1, 2, none⟩) (by show _ ≤ w.heap.size + 1 + 1; omega) _).setCell (p := ⟨w.heap.size + 1, 0, none⟩) (by show _ ≤ w.heap.size + 1; omega) _).setCell (p := ⟨w.heap.size + 1, 1, none⟩) (by show _ ≤ w.heap.size + 1; omega) _).setCell (p := ⟨w.heap.size + 1, 2, none⟩) (by show _ ≤ w.heap.size + 1; omega) _).setCell (p := ⟨w.heap.size + 1, 3, none⟩) (by show _ ≤ w.heap.size + 1; omega) _)⟩
            · replace h42 : ¬ (E.data.toList.getD (E.size - 1) 0).toNat = 42 := fun q => h42 ⟨by omega, q⟩
              have wK : IntKind.i64.wrap ((E.size : Int) - 1) = ((E.size - 1 : Nat) : Int) := by rw [show (E.size : Int) - 1 = ((E.size - 1 : Nat) : Int) by omega]; exact IntWalk.i64_in _ (by omega)
              obtain ⟨K, hK⟩ : ∃ K, E.size - 1 = K := ⟨_, rfl⟩
              rw [hK] at wK h42
              have hKE : K < E.size := by omega
              have hKi : (K : Int) < (E.size : Int) := by omega
              have hKj : (K : Int) ≤ (E.size : Int) := by omega
              have hKk : K ≤ E.size := by omega
              have elb := getD_at E K hKE
              rw [elb] at h42
              have e42 : ((E[K].toNat : Int) == 42) = false := by rw [beq_eq_false_iff_ne]; omega
              have g0 : decide (0 < (E.size : Int)) = true := by simp; omega
              have g0b : decide (0 < E.size) = true := by simp; omega
              clear elb
              by_cases hn3 : 3 ≤ E.size
              · replace h3 : ¬ E.data.toList.take 3 = offL := fun q => h3 ⟨hn3, q⟩
                have g3 : decide (3 ≤ (E.size : Int)) = true := by simp; omega
                have g3b : decide (3 ≤ E.size) = true := by simp; omega
                have g3c : (3 : Int) ≤ (E.size : Int) := by omega
                have qS3 : ((E.extract 0 3).toList == [111, 102, 102]) = false := by rw [beq_eq_false_iff_ne, ByteArray.toList_eq, ext0]; exact h3
                clear h3 h42 hn3 hn0 hK eG ev hv v0 v1 hTW hDW hEz hE hF
                go_wp2_with (first | (go_at_call 81; refine (HVAL.out _).mono ?_; clear HVAL; rintro e wq1 ⟨rfl, rfl⟩))
                refine bodyPost_ret (v := .agg #[.int .i64 p, .int .i64 TW, .int .i64 DW, .bool false]) (by simp [results, Tryd.results67, go_sem, j0, j1, j2, j3]) rfl ?_
                exact ⟨rfl, ((((((hbF.setCell (p := ⟨w.heap.size + 1 + 1, 1, none⟩) (by show _ ≤ w.heap.size + 1 + 1; omega) _).setCell (p := ⟨w.heap.size + 1 + 1, 2, none⟩) (by show _ ≤ w.heap.size + 1 + 1; omega) _).setCell (p := ⟨w.heap.size + 1, 0, none⟩) (by show _ ≤ w.heap.size + 1; omega) _).setCell (p := ⟨w.heap.size + 1, 1, none⟩) (by show _ ≤ w.heap.size + 1; omega) _).setCell (p := ⟨w.heap.size + 1, 2, none⟩) (by show _ ≤ w.heap.size + 1; omega) _).setCell (p := ⟨w.heap.size + 1, 3, none⟩) (by show _ ≤ w.heap.size + 1; omega) _)⟩
              · have g3 : decide (3 ≤ (E.size : Int)) = false := by simp; omega
                have g3b : decide (3 ≤ E.size) = false := by simp; omega
                clear h3 h42 hn3 hn0 hK eG ev hv v0 v1 hTW hDW hEz hE hF
                go_wp2_with (first | (go_at_call 81; refine (HVAL.out _).mono ?_; clear HVAL; rintro e wq1 ⟨rfl, rfl⟩))
                refine bodyPost_ret (v := .agg #[.int .i64 p, .int .i64 TW, .int .i64 DW, .bool false]) (by simp [results, Tryd.results67, go_sem, j0, j1, j2, j3]) rfl ?_
                exact ⟨rfl, ((((((hbF.setCell (p := ⟨w.heap.size + 1 + 1, 1, none⟩) (by show _ ≤ w.heap.size + 1 + 1; omega) _).setCell (p := ⟨w.heap.size + 1 + 1, 2, none⟩) (by show _ ≤ w.heap.size + 1 + 1; omega) _).setCell (p := ⟨w.heap.size + 1, 0, none⟩) (by show _ ≤ w.heap.size + 1; omega) _).setCell (p := ⟨w.heap.size + 1, 1, none⟩) (by show _ ≤ w.heap.size + 1; omega) _).setCell (p := ⟨w.heap.size + 1, 2, none⟩) (by show _ ≤ w.heap.size + 1; omega) _).setCell (p := ⟨w.heap.size + 1, 3, none⟩) (by show _ ≤ w.heap.size + 1; omega) _)⟩
      · have eF : gFrom p x = (valL x).1 - 1 := by unfold gFrom; rw [if_neg hbar]
        have qX : (X.toList == [98, 97, 114]) = false := by rw [beq_eq_false_iff_ne, ByteArray.toList_eq, hXd]; exact hbar
        obtain ⟨vx, vxb, evx, vx0, vx1, hvx⟩ := value_named X (by omega)
        rw [hXd] at evx
        have HVX := Lib.hid hvx
        have hFq := HF0.out
        rw [eF, ← evx] at hFq
        have wFF : IntKind.i64.wrap (vx - 1) = F := by rw [hFq]; exact IntWalk.i64_in _ (by omega)
        have hF : -1 ≤ F ∧ F ≤ 1000000000000000 := by omega
        have hbF := hb
        clear eF hbar hXd hX hXz hb hgl hp hvx evx vx0 vx1 hFq
        obtain ⟨x0, x1, x2, x3, xf, xl⟩ := BO.four
        obtain ⟨j0, j1, j2, j3, jf, jl⟩ := BG.four
        by_cases h3 : 3 ≤ E.size ∧ E.data.toList.take 3 = offL
        · obtain ⟨hn3, h3⟩ := h3
          have g3 : decide (3 ≤ (E.size : Int)) = true := by simp; omega
          have g3b : decide (3 ≤ E.size) = true := by simp; omega
          have g3c : (3 : Int) ≤ (E.size : Int) := by omega
          have qS3 : ((E.extract 0 3).toList == [111, 102, 102]) = true := by rw [beq_iff_eq, ByteArray.toList_eq, ext0]; exact h3
          have eG : gEnd F y = (-1, if 5 < y.length then (valL ((y.take (y.length - 1)).drop 4)).1 else F + 1, false) := by unfold gEnd; rw [if_pos (by rw [← hE]; exact ⟨by rw [← Lib.size_eq]; exact hn3, h3⟩)]
          have hg := HGR.out
          rw [eG] at hg
          clear eG h3
          have wF1 : IntKind.i64.wrap (F + 1) = F + 1 := IntWalk.i64_in _ (by omega)
          by_cases h5 : 5 < E.size
          · have g5 : decide (5 < (E.size : Int)) = true := by simp; omega
            have g5b : decide (5 < E.size) = true := by simp; omega
            have wK : IntKind.i64.wrap ((E.size : Int) - 1) = ((E.size - 1 : Nat) : Int) := by rw [show (E.size : Int) - 1 = ((E.size - 1 : Nat) : Int) by omega]; exact IntWalk.i64_in _ (by omega)
            obtain ⟨K, hK⟩ : ∃ K, E.size - 1 = K := ⟨_, rfl⟩
            rw [hK] at wK
            have hKj : (K : Int) ≤ (E.size : Int) := by omega
            have hKk : K ≤ E.size := by omega
            have hK4 : (4 : Int) ≤ (K : Int) := by omega
            have hK4b : 4 ≤ K := by omega
            have eS4 : (E.extract 4 K).data.toList = (E.data.toList.take K).drop 4 := by rw [extract_seg]; show seg E 4 K = _; unfold seg; rw [List.drop_take]
            obtain ⟨v, vb, ev, v0, v1, hv⟩ := value_named (E.extract 4 K) (by simp [ByteArray.size_extract]; omega)
            rw [show (if 5 < y.length then (valL ((y.take (y.length - 1)).drop 4)).1 else F + 1) = v by rw [if_pos (by rw [← hE, ← Lib.size_eq]; exact h5), ev, eS4, hE, show y.length - 1 = K by rw [← hE, ← Lib.size_eq]; exact hK]] at hg
            simp only [Prod.mk.injEq] at hg
            obtain ⟨rfl, rfl, rfl⟩ := hg
            have HVAL := Lib.hid hv
            clear hv ev eS4 hK h5 hn3 hEz hE hF v0 v1
            go_wp2_with (first | (go_at_call 81; refine (HVX.out _).mono ?_; clear HVX; rintro e wq0 ⟨rfl, rfl⟩) | (go_at_call 81; refine (HVAL.out _).mono ?_; clear HVAL; rintro e wq1 ⟨rfl, hwq⟩; have BO2 := (((BO.set (i := 0) (.int .i64 F)).set (i := 1) (.int .i64 (-1))).set (i := 2) (.int .i64 (F + 1))); have BG2 := (((BG.other (g := w.heap.size + 1 + 1) (o := 0) (v := .int .i64 F) (by omega)).other (g := w.heap.size + 1 + 1) (o := 1) (v := .int .i64 (-1)) (by omega)).other (g := w.heap.size + 1 + 1) (o := 2) (v := .int .i64 (F + 1)) (by omega)); have hbF2 := (((hbF.setCell (p := ⟨w.heap.size + 1 + 1, 0, none⟩) (by show _ ≤ w.heap.size + 1 + 1; omega) (.int .i64 F)).setCell (p := ⟨w.heap.size + 1 + 1, 1, none⟩) (by show _ ≤ w.heap.size + 1 + 1; omega) (.int .i64 (-1))).setCell (p := ⟨w.heap.size + 1 + 1, 2, none⟩) (by show _ ≤ w.heap.size + 1 + 1; omega) (.int .i64 (F + 1))); simp only [List.setIfInBounds_toArray, List.set_cons_zero, List.set_cons_succ] at BO2; rw [hwq] at BO2 BG2 hbF2; clear hwq; obtain ⟨u0, u1, u2, u3, uf, ul⟩ := BO2.four; obtain ⟨j0, j1, j2, j3, jf, jl⟩ := BG2.four))
            refine bodyPost_ret (v := .agg #[.int .i64 F, .int .i64 (-1), .int .i64 v, .bool false]) (by simp [results, Tryd.results67, go_sem, j0, j1, j2, j3]) rfl ?_
            exact ⟨rfl, (((((hbF2.setCell (p := ⟨w.heap.size + 1 + 1, 2, none⟩) (by show _ ≤ w.heap.size + 1 + 1; omega) _).setCell (p := ⟨w.heap.size + 1, 0, none⟩) (by show _ ≤ w.heap.size + 1; omega) _).setCell (p := ⟨w.heap.size + 1, 1, none⟩) (by show _ ≤ w.heap.size + 1; omega) _).setCell (p := ⟨w.heap.size + 1, 2, none⟩) (by show _ ≤ w.heap.size + 1; omega) _).setCell (p := ⟨w.heap.size + 1, 3, none⟩) (by show _ ≤ w.heap.size + 1; omega) _)⟩
          · have g5 : decide (5 < (E.size : Int)) = false := by simp; omega
            have g5b : decide (5 < E.size) = false := by simp; omega
            rw [if_neg (by rw [← hE, ← Lib.size_eq]; exact h5)] at hg
            simp only [Prod.mk.injEq] at hg
            obtain ⟨rfl, rfl, rfl⟩ := hg
            clear h5 hn3 hEz hE hF
            go_wp2_with (go_at_call 81; refine (HVX.out _).mono ?_; clear HVX; rintro e wq0 ⟨rfl, rfl⟩)
            refine bodyPost_ret (v := .agg #[.int .i64 F, .int .i64 (-1), .int .i64 (F + 1), .bool false]) (by simp [results, Tryd.results67, go_sem, j0, j1, j2, j3]) rfl ?_
            exact ⟨rfl, (((((((hbF.setCell (p := ⟨w.heap.size + 1 + 1, 0, none⟩) (by show _ ≤ w.heap.size + 1 + 1; omega) _).setCell (p := ⟨w.heap.size + 1 + 1, 1, none⟩) (by show _ ≤ w.heap.size + 1 + 1; omega) _).setCell (p := ⟨w.heap.size + 1 + 1, 2, none⟩) (by show _ ≤ w.heap.size + 1 + 1; omega) _).setCell (p := ⟨w.heap.size + 1, 0, none⟩) (by show _ ≤ w.heap.size + 1; omega) _).setCell (p := ⟨w.heap.size + 1, 1, none⟩) (by show _ ≤ w.heap.size + 1; omega) _).setCell (p := ⟨w.heap.size + 1, 2, none⟩) (by show _ ≤ w.heap.size + 1; omega) _).setCell (p := ⟨w.heap.size + 1, 3, none⟩) (by show _ ≤ w.heap.size + 1; omega) _)⟩
        · by_cases h42 : 0 < E.size ∧ (E.data.toList.getD (E.size - 1) 0).toNat = 42
          · obtain ⟨hn0, h42⟩ := h42
            have eG : gEnd F y = ((valL (y.take (y.length - 1))).1 - 1, F - ((valL (y.take (y.length - 1))).1 - 1), true) := by unfold gEnd; rw [← hE, if_neg (by rw [← Lib.size_eq]; exact h3), if_pos (by rw [← Lib.size_eq]; exact ⟨hn0, h42⟩)]
            have wK : IntKind.i64.wrap ((E.size : Int) - 1) = ((E.size - 1 : Nat) : Int) := by rw [show (E.size : Int) - 1 = ((E.size - 1 : Nat) : Int) by omega]; exact IntWalk.i64_in _ (by omega)
            obtain ⟨K, hK⟩ : ∃ K, E.size - 1 = K := ⟨_, rfl⟩
            rw [hK] at wK h42
            have hKE : K < E.size := by omega
            have hKi : (K : Int) < (E.size : Int) := by omega
            have hKj : (K : Int) ≤ (E.size : Int) := by omega
            have hKk : K ≤ E.size := by omega
            have elb := getD_at E K hKE
            rw [elb] at h42
            have e42 : ((E[K].toNat : Int) == 42) = true := by rw [h42]; rfl
            have g0 : decide (0 < (E.size : Int)) = true := by simp; omega
            have g0b : decide (0 < E.size) = true := by simp; omega
            clear elb
            have eS1 := ext0 E K
            obtain ⟨v, vb, ev, v0, v1, hv⟩ := value_named (E.extract 0 K) (by simp [ByteArray.size_extract]; omega)
            have HVAL := Lib.hid hv
            have ey : (valL (y.take (y.length - 1))).1 = v := by rw [ev, eS1, hE, show y.length - 1 = K by rw [← hE, ← Lib.size_eq]; exact hK]
            have hg := HGR.out
            rw [eG, ey] at hg
            obtain ⟨TW, hTW⟩ : ∃ z, v - 1 = z := ⟨_, rfl⟩
            have wT : IntKind.i64.wrap (v - 1) = TW := by rw [hTW]; exact IntWalk.i64_in _ (by omega)
            obtain ⟨DW, hDW⟩ : ∃ z, F - TW = z := ⟨_, rfl⟩
            have wD : IntKind.i64.wrap (F - TW) = DW := by rw [hDW]; exact IntWalk.i64_in _ (by omega)
            rw [hTW, hDW] at hg
            simp only [Prod.mk.injEq] at hg
            obtain ⟨rfl, rfl, rfl⟩ := hg
            by_cases hn3 : 3 ≤ E.size
            · replace h3 : ¬ E.data.toList.take 3 = offL := fun q => h3 ⟨hn3, q⟩
              have g3 : decide (3 ≤ (E.size : Int)) = true := by simp; omega
              have g3b : decide (3 ≤ E.size) = true := by simp; omega
              have g3c : (3 : Int) ≤ (E.size : Int) := by omega
              have qS3 : ((E.extract 0 3).toList == [111, 102, 102]) = false := by rw [beq_eq_false_iff_ne, ByteArray.toList_eq, ext0]; exact h3
              clear h3 h42 hn3 hn0 hK eG ey ev eS1 hv v0 v1 hTW hDW hEz hE hF
              go_wp2_with (first | (go_at_call 81; refine (HVX.out _).mono ?_; clear HVX; rintro e wq0 ⟨rfl, rfl⟩) | (go_at_call 81; refine (HVAL.out _).mono ?_; clear HVAL; rintro e wq1 ⟨rfl, rfl⟩))
              refine bodyPost_ret (v := .agg #[.int .i64 F, .int .i64 TW, .int .i64 DW, .bool true]) (by simp [results, Tryd.results67, go_sem, j0, j1, j2, j3]) rfl ?_
              exact ⟨rfl, ((((((((hbF.setCell (p := ⟨w.heap.size + 1 + 1, 0, none⟩) (by show _ ≤ w.heap.size + 1 + 1; omega) _).setCell (p := ⟨w.heap.size + 1 + 1, 3, none⟩) (by show _ ≤ w.heap.size + 1 + 1; omega) _).setCell (p := ⟨w.heap.size + 1 + 1, 1, none⟩) (by show _ ≤ w.heap.size + 1 + 1; omega) _).setCell (p := ⟨w.heap.size + 1 + 1, 2, none⟩) (by show _ ≤ w.heap.size + 1 + 1; omega) _).setCell (p := ⟨w.heap.size + 1, 0, none⟩) (by show _ ≤ w.heap.size + 1; omega) _).setCell (p := ⟨w.heap.size + 1, 1, none⟩) (by show _ ≤ w.heap.size + 1; omega) _).setCell (p := ⟨w.heap.size + 1, 2, none⟩) (by show _ ≤ w.heap.size + 1; omega) _).setCell (p := ⟨w.heap.size + 1, 3, none⟩) (by show _ ≤ w.heap.size + 1; omega) _)⟩
            · have g3 : decide (3 ≤ (E.size : Int)) = false := by simp; omega
              have g3b : decide (3 ≤ E.size) = false := by simp; omega
              clear h3 h42 hn3 hn0 hK eG ey ev eS1 hv v0 v1 hTW hDW hEz hE hF
              go_wp2_with (first | (go_at_call 81; refine (HVX.out _).mono ?_; clear HVX; rintro e wq0 ⟨rfl, rfl⟩) | (go_at_call 81; refine (HVAL.out _).mono ?_; clear HVAL; rintro e wq1 ⟨rfl, rfl⟩))
              refine bodyPost_ret (v := .agg #[.int .i64 F, .int .i64 TW, .int .i64 DW, .bool true]) (by simp [results, Tryd.results67, go_sem, j0, j1, j2, j3]) rfl ?_
              exact ⟨rfl, ((((((((hbF.setCell (p := ⟨w.heap.size + 1 + 1, 0, none⟩) (by show _ ≤ w.heap.size + 1 + 1; omega) _).setCell (p := ⟨w.heap.size + 1 + 1, 3, none⟩) (by show _ ≤ w.heap.size + 1 + 1; omega) _).setCell (p := ⟨w.heap.size + 1 + 1, 1, none⟩) (by show _ ≤ w.heap.size + 1 + 1; omega) _).setCell (p := ⟨w.heap.size + 1 + 1, 2, none⟩) (by show _ ≤ w.heap.size + 1 + 1; omega) _).setCell (p := ⟨w.heap.size + 1, 0, none⟩) (by show _ ≤ w.heap.size + 1; omega) _).setCell (p := ⟨w.heap.size + 1, 1, none⟩) (by show _ ≤ w.heap.size + 1; omega) _).setCell (p := ⟨w.heap.size + 1, 2, none⟩) (by show _ ≤ w.heap.size + 1; omega) _).setCell (p := ⟨w.heap.size + 1, 3, none⟩) (by show _ ≤ w.heap.size + 1; omega) _)⟩
          · have eG : gEnd F y = ((valL y).1 - 1, F - ((valL y).1 - 1), false) := by unfold gEnd; rw [← hE, if_neg (by rw [← Lib.size_eq]; exact h3), if_neg (by rw [← Lib.size_eq]; exact h42)]
            obtain ⟨v, vb, ev, v0, v1, hv⟩ := value_named E (by omega)
            have HVAL := Lib.hid hv
            rw [hE] at ev
            have hg := HGR.out
            rw [eG, ← ev] at hg
            obtain ⟨TW, hTW⟩ : ∃ z, v - 1 = z := ⟨_, rfl⟩
            have wT : IntKind.i64.wrap (v - 1) = TW := by rw [hTW]; exact IntWalk.i64_in _ (by omega)
            obtain ⟨DW, hDW⟩ : ∃ z, F - TW = z := ⟨_, rfl⟩
            have wD : IntKind.i64.wrap (F - TW) = DW := by rw [hDW]; exact IntWalk.i64_in _ (by omega)
            rw [hTW, hDW] at hg
            simp only [Prod.mk.injEq] at hg
            obtain ⟨rfl, rfl, rfl⟩ := hg
            by_cases hn0 : E.size = 0
            · have g0 : decide (0 < (E.size : Int)) = false := by rw [decide_eq_false_iff_not]; omega
              have g0b : decide (0 < E.size) = false := by rw [decide_eq_false_iff_not]; omega
              have g3 : decide (3 ≤ (E.size : Int)) = false := by simp; omega
              have g3b : decide (3 ≤ E.size) = false := by simp; omega
              clear h3 h42 hn0 eG ev hv v0 v1 hTW hDW hEz hE hF
              go_wp2_with (first | (go_at_call 81; refine (HVX.out _).mono ?_; clear HVX; rintro e wq0 ⟨rfl, rfl⟩) | (go_at_call 81; refine (HVAL.out _).mono ?_; clear HVAL; rintro e wq1 ⟨rfl, rfl⟩))
              refine bodyPost_ret (v := .agg #[.int .i64 F, .int .i64 TW, .int .i64 DW, .bool false]) (by simp [results, Tryd.results67, go_sem, j0, j1, j2, j3]) rfl ?_
              exact ⟨rfl, (((((((hbF.setCell (p := ⟨w.heap.size + 1 + 1, 0, none⟩) (by show _ ≤ w.heap.size + 1 + 1; omega) _).setCell (p := ⟨w.heap.size + 1 + 1, 1, none⟩) (by show _ ≤ w.heap.size + 1 + 1; omega) _).setCell (p := ⟨w.heap.size + 1 + 1, 2, none⟩) (by show _ ≤ w.heap.size + 1 + 1; omega) _).setCell (p := ⟨w.heap.size + 1, 0, none⟩) (by show _ ≤ w.heap.size + 1; omega) _).setCell (p := ⟨w.heap.size + 1, 1, none⟩) (by show _ ≤ w.heap.size + 1; omega) _).setCell (p := ⟨w.heap.size + 1, 2, none⟩) (by show _ ≤ w.heap.size + 1; omega) _).setCell (p := ⟨w.heap.size + 1, 3, none⟩) (by show _ ≤ w.heap.size + 1; omega) _)⟩
            · replace h42 : ¬ (E.data.toList.getD (E.size - 1) 0).toNat = 42 := fun q => h42 ⟨by omega, q⟩
              have wK : IntKind.i64.wrap ((E.size : Int) - 1) = ((E.size - 1 : Nat) : Int) := by rw [show (E.size : Int) - 1 = ((E.size - 1 : Nat) : Int) by omega]; exact IntWalk.i64_in _ (by omega)
              obtain ⟨K, hK⟩ : ∃ K, E.size - 1 = K := ⟨_, rfl⟩
              rw [hK] at wK h42
              have hKE : K < E.size := by omega
              have hKi : (K : Int) < (E.size : Int) := by omega
              have hKj : (K : Int) ≤ (E.size : Int) := by omega
              have hKk : K ≤ E.size := by omega
              have elb := getD_at E K hKE
              rw [elb] at h42
              have e42 : ((E[K].toNat : Int) == 42) = false := by rw [beq_eq_false_iff_ne]; omega
              have g0 : decide (0 < (E.size : Int)) = true := by simp; omega
              have g0b : decide (0 < E.size) = true := by simp; omega
              clear elb
              by_cases hn3 : 3 ≤ E.size
              · replace h3 : ¬ E.data.toList.take 3 = offL := fun q => h3 ⟨hn3, q⟩
                have g3 : decide (3 ≤ (E.size : Int)) = true := by simp; omega
                have g3b : decide (3 ≤ E.size) = true := by simp; omega
                have g3c : (3 : Int) ≤ (E.size : Int) := by omega
                have qS3 : ((E.extract 0 3).toList == [111, 102, 102]) = false := by rw [beq_eq_false_iff_ne, ByteArray.toList_eq, ext0]; exact h3
                clear h3 h42 hn3 hn0 hK eG ev hv v0 v1 hTW hDW hEz hE hF
                go_wp2_with (first | (go_at_call 81; refine (HVX.out _).mono ?_; clear HVX; rintro e wq0 ⟨rfl, rfl⟩) | (go_at_call 81; refine (HVAL.out _).mono ?_; clear HVAL; rintro e wq1 ⟨rfl, rfl⟩))
                refine bodyPost_ret (v := .agg #[.int .i64 F, .int .i64 TW, .int .i64 DW, .bool false]) (by simp [results, Tryd.results67, go_sem, j0, j1, j2, j3]) rfl ?_
                exact ⟨rfl, (((((((hbF.setCell (p := ⟨w.heap.size + 1 + 1, 0, none⟩) (by show _ ≤ w.heap.size + 1 + 1; omega) _).setCell (p := ⟨w.heap.size + 1 + 1, 1, none⟩) (by show _ ≤ w.heap.size + 1 + 1; omega) _).setCell (p := ⟨w.heap.size + 1 + 1, 2, none⟩) (by show _ ≤ w.heap.size + 1 + 1; omega) _).setCell (p := ⟨w.heap.size + 1, 0, none⟩) (by show _ ≤ w.heap.size + 1; omega) _).setCell (p := ⟨w.heap.size + 1, 1, none⟩) (by show _ ≤ w.heap.size + 1; omega) _).setCell (p := ⟨w.heap.size + 1, 2, none⟩) (by show _ ≤ w.heap.size + 1; omega) _).setCell (p := ⟨w.heap.size + 1, 3, none⟩) (by show _ ≤ w.heap.size + 1; omega) _)⟩
              · have g3 : decide (3 ≤ (E.size : Int)) = false := by simp; omega
                have g3b : decide (3 ≤ E.size) = false := by simp; omega
                clear h3 h42 hn3 hn0 hK eG ev hv v0 v1 hTW hDW hEz hE hF
                go_wp2_with (first | (go_at_call 81; refine (HVX.out _).mono ?_; clear HVX; rintro e wq0 ⟨rfl, rfl⟩) | (go_at_call 81; refine (HVAL.out _).mono ?_; clear HVAL; rintro e wq1 ⟨rfl, rfl⟩))
                refine bodyPost_ret (v := .agg #[.int .i64 F, .int .i64 TW, .int .i64 DW, .bool false]) (by simp [results, Tryd.results67, go_sem, j0, j1, j2, j3]) rfl ?_
                exact ⟨rfl, (((((((hbF.setCell (p := ⟨w.heap.size + 1 + 1, 0, none⟩) (by show _ ≤ w.heap.size + 1 + 1; omega) _).setCell (p := ⟨w.heap.size + 1 + 1, 1, none⟩) (by show _ ≤ w.heap.size + 1 + 1; omega) _).setCell (p := ⟨w.heap.size + 1 + 1, 2, none⟩) (by show _ ≤ w.heap.size + 1 + 1; omega) _).setCell (p := ⟨w.heap.size + 1, 0, none⟩) (by show _ ≤ w.heap.size + 1; omega) _).setCell (p := ⟨w.heap.size + 1, 1, none⟩) (by show _ ≤ w.heap.size + 1; omega) _).setCell (p := ⟨w.heap.size + 1, 2, none⟩) (by show _ ≤ w.heap.size + 1; omega) _).setCell (p := ⟨w.heap.size + 1, 3, none⟩) (by show _ ≤ w.heap.size + 1; omega) _)⟩
  · rw [if_neg h2]
    have hpos : 0 < WW.length := List.length_pos_iff.2 hne
    have e1 : ((WW.length : Int) != 2) = true := by rw [bne_iff_ne]; omega
    have e2 : (WW.length != 2) = true := by rw [bne_iff_ne]; omega
    clear hlen hne h2
    show Calls Tryd.prog 67 #[.agg #[.int .i64 p, .int .i64 c, .int .i64 h, .int .i64 s], .string t] w fun e w' => e = .returned (.agg #[.int .i64 0, .int .i64 0, .int .i64 0, .bool false]) ∧ Below w.heap.size w w'
    go_enter Tryd.func67, Tryd.ntmps67
    go_wp2_with fail
    generalize (((w.alloc (.cells #[.int .i64 p, .int .i64 c, .int .i64 h, .int .i64 s] 29)).alloc (.cells #[.int .i64 0, .int .i64 0, .int .i64 0, .bool false] 38)).alloc (.cells #[.int .i64 p, .int .i64 0, .int .i64 0, .bool false] 38)) = ww0 at *
    refine (HC.out _).mono ?_
    rintro e w1 ⟨sv, rfl, hown, hb1⟩
    obtain ⟨g, cap, rfl⟩ := Joins.ownsRow_form hown hpos
    replace BG := BG.below hb1
    have hbF := chain hb hb1
    clear hown hb1 HC BO BV x0 x1 x2 x3 xf xl hb
    obtain ⟨j0, j1, j2, j3, jf, jl⟩ := BG.four
    go_wp2_with fail
    refine bodyPost_ret (v := .agg #[.int .i64 0, .int .i64 0, .int .i64 0, .bool false]) (by simp [results, Tryd.results67, go_sem, j0, j1, j2, j3]) rfl ?_
    exact ⟨rfl, ((((hbF.setCell (p := ⟨w.heap.size + 1, 0, none⟩) (by show _ ≤ w.heap.size + 1; omega) _).setCell (p := ⟨w.heap.size + 1, 1, none⟩) (by show _ ≤ w.heap.size + 1; omega) _).setCell (p := ⟨w.heap.size + 1, 2, none⟩) (by show _ ≤ w.heap.size + 1; omega) _).setCell (p := ⟨w.heap.size + 1, 3, none⟩) (by show _ ≤ w.heap.size + 1; omega) _)⟩
end Go.Proofs.YthfhiggageejbaaDoor
