/- Contracts of the functions that read a step from a text, of the program and of its model. -/
import Derived.Test.YthfhiggageejbaaDoor06n
import Derived.Test.YthfhiggageejbaaDoor06o
import Derived.Test.YthfhiggageejbaaDoor06b
namespace Go.Proofs.YthfhiggageejbaaDoor
open Go.ChangeShapes Go.WideShapes Go.ChangeAt Go.RowKit
set_option linter.unusedVariables false
set_option linter.unusedSimpArgs false

set_option maxRecDepth 8000 in
set_option maxHeartbeats 4000000 in
theorem specRead_any (p c h s : Int) (t : ByteArray) (w : World) (g : vB p c h s = true) (ht : t.size ≤ 1048576) :
    Calls Tryd.prog 53 #[.agg #[.int .i64 p, .int .i64 c, .int .i64 h, .int .i64 s], .string t] w fun e w' => e = .returned (rdV (rd p s t.data.toList)) ∧ Below w.heap.size w w' := by
  have hv := vB_iff.1 g
  obtain ⟨BV, BG, hb, hz⟩ := two_new w #[.int .i64 p, .int .i64 c, .int .i64 h, .int .i64 s] #[.int .i64 0, .int .i64 0, .int .i64 0, .bool false] 29 38
  clear hz
  obtain ⟨x0, x1, x2, x3, xf, xl⟩ := BV.four
  have hg := fun W => specGuess_any p c h s t W (by omega) ht
  unfold rd
  generalize guess p t.data.toList = Q at *
  obtain ⟨F, TT, D, H⟩ := Q
  have hg : ∀ W, Calls Tryd.prog 67 #[.agg #[.int .i64 p, .int .i64 c, .int .i64 h, .int .i64 s], .string t] W fun e w' => e = .returned (.agg #[.int .i64 F, .int .i64 TT, .int .i64 D, .bool H]) ∧ Below W.heap.size W w' := hg
  have HG := Lib.hid hg
  have hpl := fun W => specPlain_any p c h s F TT D H W g
  show Calls Tryd.prog 53 #[.agg #[.int .i64 p, .int .i64 c, .int .i64 h, .int .i64 s], .string t] w fun e w' => e = .returned (rdV (if plB p s F TT D H = true ∧ stT p F TT D H = t.data.toList then some (F, TT, D, H) else none)) ∧ Below w.heap.size w w'
  by_cases g0 : plB p s F TT D H = true
  · rw [g0] at hpl
    have HP := Lib.hid hpl
    have hst := fun W => specStepT_any p c h s F TT D H W g g0
    obtain ⟨T, hT⟩ : ∃ T : ByteArray, T = ⟨(stT p F TT D H).toArray⟩ := ⟨_, rfl⟩
    rw [← hT] at hst
    have HT := Lib.hid hst
    by_cases q : stT p F TT D H = t.data.toList
    · rw [if_pos ⟨g0, q⟩]
      have qT : (T.toList == t.toList) = true := by rw [beq_iff_eq, ByteArray.toList_eq, ByteArray.toList_eq, hT]; exact q
      clear hpl hst hT q g0 hv g hg ht
      show Calls Tryd.prog 53 #[.agg #[.int .i64 p, .int .i64 c, .int .i64 h, .int .i64 s], .string t] w fun e w' => e = .returned (.tuple #[.agg #[.int .i64 F, .int .i64 TT, .int .i64 D, .bool H], .bool true]) ∧ Below w.heap.size w w'
      go_enter Tryd.func53, Tryd.ntmps53
      go_wp2_with fail
      clear x0 x1 x2 x3 xf xl
      generalize ((w.alloc (.cells #[.int .i64 p, .int .i64 c, .int .i64 h, .int .i64 s] 29)).alloc (.cells #[.int .i64 0, .int .i64 0, .int .i64 0, .bool false] 38)) = ww0 at *
      refine (HG.out _).mono ?_
      rintro e w1 ⟨rfl, hb1⟩
      have BS := Blk.new w1 #[.int .i64 F, .int .i64 TT, .int .i64 D, .bool H] 38
      have hb1' := from_alloc_to hb1 (.cells #[.int .i64 F, .int .i64 TT, .int .i64 D, .bool H] 38)
      replace BV := BV.below hb1'
      replace BG := BG.below hb1'
      replace hb := chain hb hb1'
      clear hb1 hb1' HG
      obtain ⟨x0, x1, x2, x3, xf, xl⟩ := BV.four
      obtain ⟨j0, j1, j2, j3, jf, jl⟩ := BG.four
      obtain ⟨z0, z1, z2, z3, zf, zl⟩ := BS.four
      go_wp2_with (first | (go_at_call 42; refine (HP.out _).mono ?_; clear HP; rintro e w2 ⟨rfl, hb2⟩; obtain ⟨x0, x1, x2, x3, xf, xl⟩ := (BV.below hb2).four; obtain ⟨j0, j1, j2, j3, jf, jl⟩ := (BG.below hb2).four; obtain ⟨z0, z1, z2, z3, zf, zl⟩ := (BS.below hb2).four) | (go_at_call 43; refine (HT.out _).mono ?_; clear HT; rintro e w3 ⟨rfl, hb3⟩; obtain ⟨x0, x1, x2, x3, xf, xl⟩ := (BV.below (chain hb2 hb3)).four; obtain ⟨j0, j1, j2, j3, jf, jl⟩ := (BG.below (chain hb2 hb3)).four; obtain ⟨z0, z1, z2, z3, zf, zl⟩ := (BS.below (chain hb2 hb3)).four))
      refine bodyPost_ret (v := .tuple #[.agg #[.int .i64 F, .int .i64 TT, .int .i64 D, .bool H], .bool true]) (by simp [results, Tryd.results53, go_sem, j0, j1, j2, j3]) rfl ?_
      exact ⟨rfl, (((((chain (chain hb hb2) hb3).setCell (p := ⟨w.heap.size + 1, 0, none⟩) (by show _ ≤ w.heap.size + 1; omega) _).setCell (p := ⟨w.heap.size + 1, 1, none⟩) (by show _ ≤ w.heap.size + 1; omega) _).setCell (p := ⟨w.heap.size + 1, 2, none⟩) (by show _ ≤ w.heap.size + 1; omega) _).setCell (p := ⟨w.heap.size + 1, 3, none⟩) (by show _ ≤ w.heap.size + 1; omega) _)⟩
    · rw [if_neg (fun z => q z.2)]
      have qT : (T.toList == t.toList) = false := by rw [beq_eq_false_iff_ne, ByteArray.toList_eq, ByteArray.toList_eq, hT]; exact q
      clear hpl hst hT q g0 hv g hg ht
      show Calls Tryd.prog 53 #[.agg #[.int .i64 p, .int .i64 c, .int .i64 h, .int .i64 s], .string t] w fun e w' => e = .returned (.tuple #[.agg #[.int .i64 0, .int .i64 0, .int .i64 0, .bool false], .bool false]) ∧ Below w.heap.size w w'
      go_enter Tryd.func53, Tryd.ntmps53
      go_wp2_with fail
      clear x0 x1 x2 x3 xf xl
      generalize ((w.alloc (.cells #[.int .i64 p, .int .i64 c, .int .i64 h, .int .i64 s] 29)).alloc (.cells #[.int .i64 0, .int .i64 0, .int .i64 0, .bool false] 38)) = ww0 at *
      refine (HG.out _).mono ?_
      rintro e w1 ⟨rfl, hb1⟩
      have BS := Blk.new w1 #[.int .i64 F, .int .i64 TT, .int .i64 D, .bool H] 38
      have hb1' := from_alloc_to hb1 (.cells #[.int .i64 F, .int .i64 TT, .int .i64 D, .bool H] 38)
      replace BV := BV.below hb1'
      replace BG := BG.below hb1'
      replace hb := chain hb hb1'
      clear hb1 hb1' HG
      obtain ⟨x0, x1, x2, x3, xf, xl⟩ := BV.four
      obtain ⟨j0, j1, j2, j3, jf, jl⟩ := BG.four
      obtain ⟨z0, z1, z2, z3, zf, zl⟩ := BS.four
      go_wp2_with (first | (go_at_call 42; refine (HP.out _).mono ?_; clear HP; rintro e w2 ⟨rfl, hb2⟩; obtain ⟨x0, x1, x2, x3, xf, xl⟩ := (BV.below hb2).four; obtain ⟨j0, j1, j2, j3, jf, jl⟩ := (BG.below hb2).four; obtain ⟨z0, z1, z2, z3, zf, zl⟩ := (BS.below hb2).four) | (go_at_call 43; refine (HT.out _).mono ?_; clear HT; rintro e w3 ⟨rfl, hb3⟩; obtain ⟨x0, x1, x2, x3, xf, xl⟩ := (BV.below (chain hb2 hb3)).four; obtain ⟨j0, j1, j2, j3, jf, jl⟩ := (BG.below (chain hb2 hb3)).four; obtain ⟨z0, z1, z2, z3, zf, zl⟩ := (BS.below (chain hb2 hb3)).four))
      refine bodyPost_ret (v := .tuple #[.agg #[.int .i64 0, .int .i64 0, .int .i64 0, .bool false], .bool false]) (by simp [results, Tryd.results53, go_sem, j0, j1, j2, j3]) rfl ?_
      exact ⟨rfl, (((((chain (chain hb hb2) hb3).setCell (p := ⟨w.heap.size + 1, 0, none⟩) (by show _ ≤ w.heap.size + 1; omega) _).setCell (p := ⟨w.heap.size + 1, 1, none⟩) (by show _ ≤ w.heap.size + 1; omega) _).setCell (p := ⟨w.heap.size + 1, 2, none⟩) (by show _ ≤ w.heap.size + 1; omega) _).setCell (p := ⟨w.heap.size + 1, 3, none⟩) (by show _ ≤ w.heap.size + 1; omega) _)⟩
  · rw [if_neg (fun z => g0 z.1)]
    replace g0 : plB p s F TT D H = false := by simpa using g0
    rw [g0] at hpl
    have HP := Lib.hid hpl
    clear hpl g0 hv g hg ht
    show Calls Tryd.prog 53 #[.agg #[.int .i64 p, .int .i64 c, .int .i64 h, .int .i64 s], .string t] w fun e w' => e = .returned (.tuple #[.agg #[.int .i64 0, .int .i64 0, .int .i64 0, .bool false], .bool false]) ∧ Below w.heap.size w w'
    go_enter Tryd.func53, Tryd.ntmps53
    go_wp2_with fail
    clear x0 x1 x2 x3 xf xl
    generalize ((w.alloc (.cells #[.int .i64 p, .int .i64 c, .int .i64 h, .int .i64 s] 29)).alloc (.cells #[.int .i64 0, .int .i64 0, .int .i64 0, .bool false] 38)) = ww0 at *
    refine (HG.out _).mono ?_
    rintro e w1 ⟨rfl, hb1⟩
    have BS := Blk.new w1 #[.int .i64 F, .int .i64 TT, .int .i64 D, .bool H] 38
    have hb1' := from_alloc_to hb1 (.cells #[.int .i64 F, .int .i64 TT, .int .i64 D, .bool H] 38)
    replace BV := BV.below hb1'
    replace BG := BG.below hb1'
    replace hb := chain hb hb1'
    clear hb1 hb1' HG
    obtain ⟨x0, x1, x2, x3, xf, xl⟩ := BV.four
    obtain ⟨j0, j1, j2, j3, jf, jl⟩ := BG.four
    obtain ⟨z0, z1, z2, z3, zf, zl⟩ := BS.four
    go_wp2_with (first | (go_at_call 42; refine (HP.out _).mono ?_; clear HP; rintro e w2 ⟨rfl, hb2⟩; obtain ⟨x0, x1, x2, x3, xf, xl⟩ := (BV.below hb2).four; obtain ⟨j0, j1, j2, j3, jf, jl⟩ := (BG.below hb2).four; obtain ⟨z0, z1, z2, z3, zf, zl⟩ := (BS.below hb2).four))
    refine bodyPost_ret (v := .tuple #[.agg #[.int .i64 0, .int .i64 0, .int .i64 0, .bool false], .bool false]) (by simp [results, Tryd.results53, go_sem, j0, j1, j2, j3]) rfl ?_
    exact ⟨rfl, (((((chain hb hb2).setCell (p := ⟨w.heap.size + 1, 0, none⟩) (by show _ ≤ w.heap.size + 1; omega) _).setCell (p := ⟨w.heap.size + 1, 1, none⟩) (by show _ ≤ w.heap.size + 1; omega) _).setCell (p := ⟨w.heap.size + 1, 2, none⟩) (by show _ ≤ w.heap.size + 1; omega) _).setCell (p := ⟨w.heap.size + 1, 3, none⟩) (by show _ ≤ w.heap.size + 1; omega) _)⟩
set_option maxRecDepth 8000 in
set_option maxHeartbeats 2000000 in
theorem readStepP_any (p c h s : Int) (t : ByteArray) (w : World) (ht : t.size ≤ 1048576) (hM : IntCell w 0) (hE : ErrCell w 2) :
    Calls Tryd.prog 18 #[.agg #[.int .i64 p, .int .i64 c, .int .i64 h, .int .i64 s], .string t] w fun e w' => e = .returned (rdV (if vB p c h s = true then rd p s t.data.toList else none)) ∧ Below w.heap.size w w' := by
  obtain ⟨BV, BG, hb, hz⟩ := two_new w #[.int .i64 p, .int .i64 c, .int .i64 h, .int .i64 s] #[.int .i64 0, .int .i64 0, .int .i64 0, .bool false] 29 38
  clear hz
  obtain ⟨x0, x1, x2, x3, xf, xl⟩ := BV.four
  obtain ⟨j0, j1, j2, j3, jf, jl⟩ := BG.four
  have hv := fun W => valid_any p c h s W
  by_cases g : vB p c h s = true
  · rw [if_pos g]
    rw [g] at hv
    have HV := Lib.hid hv
    have hr := fun W (q1 : IntCell W 0) (q2 : ErrCell W 2) => readStep_any p c h s t W g ht q1 q2
    clear hv g
    cases hq : rd p s t.data.toList with
    | none =>
      rw [hq] at hr
      have hr : ∀ W, IntCell W 0 → ErrCell W 2 → Calls Tryd.prog 44 #[.agg #[.int .i64 p, .int .i64 c, .int .i64 h, .int .i64 s], .string t] W fun e w' => e = .returned (.tuple #[.agg #[.int .i64 0, .int .i64 0, .int .i64 0, .bool false], .bool false]) ∧ Below W.heap.size W w' := hr
      have HR := Lib.hid hr
      clear hr hq
      show Calls Tryd.prog 18 #[.agg #[.int .i64 p, .int .i64 c, .int .i64 h, .int .i64 s], .string t] w fun e w' => e = .returned (.tuple #[.agg #[.int .i64 0, .int .i64 0, .int .i64 0, .bool false], .bool false]) ∧ Below w.heap.size w w'
      go_enter Tryd.func18, Tryd.ntmps18
      go_wp2_with (first | (go_at_call 31; refine (HV.out _).mono ?_; clear HV; rintro e w1 ⟨rfl, hb1⟩; obtain ⟨x0, x1, x2, x3, xf, xl⟩ := (BV.below hb1).four; obtain ⟨j0, j1, j2, j3, jf, jl⟩ := (BG.below hb1).four) | (go_at_call 44; refine (HR.out _ ((hM.below hb).below hb1) ((hE.below hb).below hb1)).mono ?_; clear HR; rintro e w2 ⟨rfl, hb2⟩; obtain ⟨j0, j1, j2, j3, jf, jl⟩ := (BG.below (chain hb1 hb2)).four))
      refine bodyPost_ret (v := .tuple #[.agg #[.int .i64 0, .int .i64 0, .int .i64 0, .bool false], .bool false]) (by simp [results, Tryd.results18, go_sem, j0, j1, j2, j3]) rfl ?_
      exact ⟨rfl, (((((chain (chain hb hb1) hb2).setCell (p := ⟨w.heap.size + 1, 0, none⟩) (by show _ ≤ w.heap.size + 1; omega) _).setCell (p := ⟨w.heap.size + 1, 1, none⟩) (by show _ ≤ w.heap.size + 1; omega) _).setCell (p := ⟨w.heap.size + 1, 2, none⟩) (by show _ ≤ w.heap.size + 1; omega) _).setCell (p := ⟨w.heap.size + 1, 3, none⟩) (by show _ ≤ w.heap.size + 1; omega) _)⟩
    | some x =>
      obtain ⟨F, TT, D, H⟩ := x
      rw [hq] at hr
      have hr : ∀ W, IntCell W 0 → ErrCell W 2 → Calls Tryd.prog 44 #[.agg #[.int .i64 p, .int .i64 c, .int .i64 h, .int .i64 s], .string t] W fun e w' => e = .returned (.tuple #[.agg #[.int .i64 F, .int .i64 TT, .int .i64 D, .bool H], .bool true]) ∧ Below W.heap.size W w' := hr
      have HR := Lib.hid hr
      clear hr hq
      show Calls Tryd.prog 18 #[.agg #[.int .i64 p, .int .i64 c, .int .i64 h, .int .i64 s], .string t] w fun e w' => e = .returned (.tuple #[.agg #[.int .i64 F, .int .i64 TT, .int .i64 D, .bool H], .bool true]) ∧ Below w.heap.size w w'
      go_enter Tryd.func18, Tryd.ntmps18
      go_wp2_with (first | (go_at_call 31; refine (HV.out _).mono ?_; clear HV; rintro e w1 ⟨rfl, hb1⟩; obtain ⟨x0, x1, x2, x3, xf, xl⟩ := (BV.below hb1).four; obtain ⟨j0, j1, j2, j3, jf, jl⟩ := (BG.below hb1).four) | (go_at_call 44; refine (HR.out _ ((hM.below hb).below hb1) ((hE.below hb).below hb1)).mono ?_; clear HR; rintro e w2 ⟨rfl, hb2⟩; obtain ⟨j0, j1, j2, j3, jf, jl⟩ := (BG.below (chain hb1 hb2)).four))
      refine bodyPost_ret (v := .tuple #[.agg #[.int .i64 F, .int .i64 TT, .int .i64 D, .bool H], .bool true]) (by simp [results, Tryd.results18, go_sem, j0, j1, j2, j3]) rfl ?_
      exact ⟨rfl, (((((chain (chain hb hb1) hb2).setCell (p := ⟨w.heap.size + 1, 0, none⟩) (by show _ ≤ w.heap.size + 1; omega) _).setCell (p := ⟨w.heap.size + 1, 1, none⟩) (by show _ ≤ w.heap.size + 1; omega) _).setCell (p := ⟨w.heap.size + 1, 2, none⟩) (by show _ ≤ w.heap.size + 1; omega) _).setCell (p := ⟨w.heap.size + 1, 3, none⟩) (by show _ ≤ w.heap.size + 1; omega) _)⟩
  · rw [if_neg g]
    replace g : vB p c h s = false := by simpa using g
    rw [g] at hv
    have HV := Lib.hid hv
    clear hv g
    show Calls Tryd.prog 18 #[.agg #[.int .i64 p, .int .i64 c, .int .i64 h, .int .i64 s], .string t] w fun e w' => e = .returned (.tuple #[.agg #[.int .i64 0, .int .i64 0, .int .i64 0, .bool false], .bool false]) ∧ Below w.heap.size w w'
    go_enter Tryd.func18, Tryd.ntmps18
    go_wp2_with (first | (go_at_call 31; refine (HV.out _).mono ?_; clear HV; rintro e w1 ⟨rfl, hb1⟩; obtain ⟨x0, x1, x2, x3, xf, xl⟩ := (BV.below hb1).four; obtain ⟨j0, j1, j2, j3, jf, jl⟩ := (BG.below hb1).four))
    refine bodyPost_ret (v := .tuple #[.agg #[.int .i64 0, .int .i64 0, .int .i64 0, .bool false], .bool false]) (by simp [results, Tryd.results18, go_sem, j0, j1, j2, j3]) rfl ?_
    exact ⟨rfl, (((((chain hb hb1).setCell (p := ⟨w.heap.size + 1, 0, none⟩) (by show _ ≤ w.heap.size + 1; omega) _).setCell (p := ⟨w.heap.size + 1, 1, none⟩) (by show _ ≤ w.heap.size + 1; omega) _).setCell (p := ⟨w.heap.size + 1, 2, none⟩) (by show _ ≤ w.heap.size + 1; omega) _).setCell (p := ⟨w.heap.size + 1, 3, none⟩) (by show _ ≤ w.heap.size + 1; omega) _)⟩
end Go.Proofs.YthfhiggageejbaaDoor
