/- Contracts of the program and of its model on the rolls from a seed. -/
import Derived.Test.Ytcmfknkdfkchmaa07d
namespace Go.Proofs.Ytcmfknkdfkchmaa
open Go.ChangeShapes Go.WideShapes Go.ChangeAt Go.RowKit
set_option linter.unusedVariables false
set_option linter.unusedSimpArgs false

theorem OwnR.kept {w w' : World} {base : Nat} {v : Value} {l : List Rl} (h : OwnR w base v l) (hb : Below w.heap.size w w') : OwnR w' base v l :=
  World.ownsRow.kept (row := none) h ⟨hb.os, hb.tape, hb.output, hb.size, fun k hk _ => hb.block k hk⟩ (by
    cases hv : v.ownBlock with
    | none => exact .inl rfl
    | some g => exact .inr (by simp))
theorem OwnR.wf {w : World} {base : Nat} {v : Value} {l m : List Rl} (h : OwnR w base v l) (e : l = m) : OwnR w base v m := e ▸ h
theorem rlsC_zeros : ∀ n : Nat, rlsC (List.replicate n ((0, 0) : Rl)) = List.replicate (n * 2) (.int .i64 0)
  | 0 => rfl
  | n + 1 => by
    rw [List.replicate_succ, rlsC, rlsC_zeros n, show (n + 1) * 2 = n * 2 + 2 by omega, List.replicate_succ, List.replicate_succ]
    rfl
theorem made_rls (n : Nat) : (madeCells #[.int .i64 0, .int .i64 0] (n * 2)).toList = rlsC (List.replicate n ((0, 0) : Rl)) := by
  rw [rlsC_zeros]
  apply List.ext_getElem
  · simp [madeCells]
  · intro i h1 h2
    have h3 : i % 2 = 0 ∨ i % 2 = 1 := by omega
    simp only [madeCells, Array.toList_map, List.getElem_map, Array.getElem_toList, Array.getElem_range, List.getElem_replicate]
    rcases h3 with e | e
    · show #[Value.int .i64 0, .int .i64 0][i % 2]! = _
      rw [e]
      rfl
    · show #[Value.int .i64 0, .int .i64 0][i % 2]! = _
      rw [e]
      rfl
theorem rlsC_set : ∀ (l : List Rl) (k : Nat) (a b : Int), k < l.length → rlsC (l.set k (a, b)) = ((rlsC l).set (k * 2) (.int .i64 a)).set (k * 2 + 1) (.int .i64 b)
  | [], k, a, b, h => by simp at h
  | x :: l, 0, a, b, h => by simp [rlsC, rlC]
  | x :: l, k + 1, a, b, h => by
    rw [List.set_cons_succ, rlsC, rlsC_set l k a b (by simpa using h), show (k + 1) * 2 = k * 2 + 2 by omega]
    simp [rlsC, rlC]
theorem RRow.put {w : World} {g : Nat} {l : List Rl} (h : RRow w g l) (k : Nat) (a b : Int) (hk : k < l.length) : RRow ((w.setCell ⟨g, k * 2, none⟩ (.int .i64 a)).setCell ⟨g, k * 2 + 1, none⟩ (.int .i64 b)) g (l.set k (a, b)) :=
  ((h.set (k * 2) (.int .i64 a)).set (k * 2 + 1) (.int .i64 b)).wf (rlsC_set l k a b hk).symm
theorem OwnR.rrow {w : World} {base g n k : Nat} {l : List Rl} (h : OwnR w base (.slice (some ⟨g, 0, none⟩) n k) l) : RRow w g l ∧ base ≤ g := by
  rcases h.orl with ⟨h1, _⟩ | ⟨g', e, h1, h2, r⟩
  · simp at h1
  · simp at e
    subst e
    exact ⟨r, h1⟩
theorem VRow.grown {w w' : World} {g g' : Nat} {vs : List Value} {t : TypeId} (h : VRow w g' vs t) (hg : w.grownBy w' (some g)) (hne : g' ≠ g) : VRow w' g' vs t := by
  obtain ⟨c, hB, h1, h2⟩ := h
  exact ⟨c, hB.grown hg hne, h1, h2⟩
theorem set_zeros (l : List Rl) (m : Nat) (r : Rl) (hm : 0 < m) : (l ++ List.replicate m ((0, 0) : Rl)).set l.length r = l ++ [r] ++ List.replicate (m - 1) (0, 0) := by
  obtain ⟨m, rfl⟩ : ∃ k, m = k + 1 := ⟨m - 1, by omega⟩
  rw [List.set_append_right _ _ (Nat.le_refl _), Nat.sub_self, List.replicate_succ, List.set_cons_zero]
  simp
/-- Rolls have been made, beside a code. -/
def RollsGot2 (l : List Rl) (r : Int) (w : World) (e : Ending) (w' : World) : Prop :=
  ∃ a k, e = .returned (.tuple #[.slice a l.length k, .int .i64 r]) ∧ ORl w.heap.size w'.heap.size w' a l ∧ Below w.heap.size w w'
theorem rcI_zero {p c h s x n : Int} (g : rcI p c h s x n = 0) : vB p c h s = true ∧ sdB x = true ∧ 0 ≤ n ∧ n ≤ 400 := by
  unfold rcI at g
  split at g
  · rename_i h1
    split at g
    · rename_i h2
      split at g
      · omega
      · split at g
        · omega
        · exact ⟨h1, h2, by omega, by omega⟩
    · omega
  · omega
def rsL (p c h s x n : Int) : List Rl := if rcI p c h s x n = 0 then frN s x n.toNat else []
set_option maxRecDepth 8000 in
set_option maxHeartbeats 2000000 in
theorem rollsFrom_any (p c h s x n : Int) (w : World) : Calls Try.prog 25 #[.agg #[.int .i64 p, .int .i64 c, .int .i64 h, .int .i64 s], .int .i64 x, .int .i64 n] w (RollsGot2 (rsL p c h s x n) (rcI p c h s x n) w) := by
  have hc := fun W => rollsCode_any p c h s x n W
  unfold rsL
  by_cases g : rcI p c h s x n = 0
  · rw [if_pos g, g]
    rw [g] at hc
    obtain ⟨gv, gs, n0, n4⟩ := rcI_zero g
    have hss := vB_sides gv
    have hx := (sdB_iff x).1 gs
    obtain ⟨S, rfl⟩ := Int.eq_ofNat_of_zero_le (by omega : 0 ≤ s)
    obtain ⟨N, rfl⟩ := Int.eq_ofNat_of_zero_le n0
    rw [show ((N : Int)).toNat = N by simp]
    have hS : 1 ≤ S ∧ S ≤ 6 := by omega
    have hN : N ≤ 400 := by omega
    have hro := fun G y W hy B => roll_any p c h S G y W hy hS B
    have hsd := fun k => sdN_seed x hx k
    have hsucc := fun k => frN_succ (S : Int) x k
    have hlen := fun k => frN_length (S : Int) x k
    have HRO := Lib.hid hro
    have HC := Lib.hid hc
    have HSD := Lib.hid hsd
    have HSU := Lib.hid hsucc
    have HLN := Lib.hid hlen
    clear hc hro hsd hsucc hlen g gv gs hss hx n4
    have BV := Blk.new w #[.int .i64 p, .int .i64 c, .int .i64 h, .int .i64 (S : Int)] 25
    have hb : Below w.heap.size w (w.alloc (.cells #[.int .i64 p, .int .i64 c, .int .i64 h, .int .i64 (S : Int)] 25)) := (Below.refl _ _).alloc (Nat.le_refl _) _
    obtain ⟨x0, x1, x2, x3, xf, xl⟩ := BV.four
    obtain ⟨i0, hi, hz0, hz1, hz2⟩ := info_parts infoRl
    go_enter Try.func25, Try.ntmps25
    go_wp2_with fail
    clear x0 x1 x2 x3 xf xl
    generalize (w.alloc (.cells #[.int .i64 p, .int .i64 c, .int .i64 h, .int .i64 (S : Int)] 25)) = v0 at *
    refine (HC.out _).mono ?_
    rintro e w1 ⟨rfl, hb1⟩
    replace BV := BV.below hb1
    replace hb := chain hb hb1
    clear hb1 HC
    have hw0 := BV.lt
    have BG := Blk.new w1 #[.int .i64 x] 68
    have hal : Below w1.heap.size w1 (w1.alloc (.cells #[.int .i64 x] 68)) := (Below.refl _ _).alloc (Nat.le_refl _) _
    replace BV := BV.below hal
    replace hb := chain hb hal
    have hzal : w1.heap.size + 1 ≤ (w1.alloc (.cells #[.int .i64 x] 68)).heap.size := by simp
    have hw1 := BV.lt
    clear hal
    go_wp2_with (at_make; generalize (w1.alloc (.cells #[.int .i64 x] 68)) = v1 at *; refine wpList_make_full _ rfl _ _ 27 rfl v1.heap.size 33 i0 (.agg #[.int .i64 0, .int .i64 0]) 2 Try.underlying27 hi hz0 hz1 .i64 .i64 (N : Int) (N : Int) N rfl rfl rfl rfl (by rw [hz2]; omega) (by unfold maxLen; omega) (Nat.le_refl _) ?_; intro w2 hO hg)
    have hO : OwnR w2 v1.heap.size (.slice (some ⟨v1.heap.size, 0, none⟩) N N) (List.replicate N (0, 0)) := by
      have := made_rls N
      show w2.ownsRow _ _ _ _ _ _
      rw [List.length_replicate, ← this]
      exact hO
    have hb2 : Below v1.heap.size v1 w2 := ⟨hg.os, hg.tape, hg.output, hg.size, fun k hk => hg.block k hk (by simp)⟩
    obtain ⟨RR, -⟩ := hO.rrow
    replace BV := BV.below hb2
    replace BG := BG.below hb2
    replace hb := chain hb hb2
    clear hg hO
    go_wp2_with fail
    go_loopg [11, 25] N (fun m q11 q25 wr => ∃ k : Nat, k ≤ N ∧ m = N - k ∧ q25 = .int .i64 k ∧ RRow wr v1.heap.size (frN (S : Int) x k ++ List.replicate (N - k) (0, 0)) ∧ Blk wr w1.heap.size #[.int .i64 (sdN x k)] 68 ∧ Blk wr w.heap.size #[.int .i64 p, .int .i64 c, .int .i64 h, .int .i64 (S : Int)] 25 ∧ Below w.heap.size w wr)
    case atStart => exact ⟨0, by omega, by omega, rfl, RR, BG, BV, hb⟩
    case round =>
      clear RR BG BV hb hb2
      obtain ⟨k, hk, hm, rfl, RR, BG, BV, hb⟩ := hrel
      by_cases hlt : k < N
      · have hlt' : (k : Int) < (N : Int) := by omega
        have hk0 : (0 : Int) ≤ (k : Int) := by omega
        obtain ⟨x0, x1, x2, x3, xf, xl⟩ := BV.four
        go_wp2_with fail
        clear x0 x1 x2 x3 xf xl
        have hro := HRO.out w1.heap.size (sdN x k) _ (HSD.out k) BG
        unfold RollGot at hro
        have hsu := HSU.out k
        have hnx : nxS (nxS (sdN x k)) = sdN x (k + 1) := rfl
        have hput := set_zeros (frN (S : Int) x k) (N - k) (frR (S : Int) (sdN x k)) (by omega)
        have hln : (frN (S : Int) x k ++ List.replicate (N - k) ((0, 0) : Rl)).length = N := by rw [List.length_append, HLN.out k, List.length_replicate]; omega
        have hat : (frN (S : Int) x k ++ List.replicate (N - k) ((0, 0) : Rl))[k]? = some (0, 0) := by
          rw [List.getElem?_append_right (by rw [HLN.out k]; exact Nat.le_refl _), HLN.out k, Nat.sub_self, List.getElem?_replicate, if_pos (by omega)]
        rw [HLN.out k, ← hsu, show N - k - 1 = N - (k + 1) by omega] at hput
        rw [hnx] at hro
        obtain ⟨⟨fa, fb⟩, hFR⟩ : ∃ r, frR (S : Int) (sdN x k) = r := ⟨_, rfl⟩
        rw [hFR] at hro hput
        dsimp only at hro
        refine hro.mono ?_
        rintro e w3 ⟨rfl, BG2, hg⟩
        replace RR := RR.grown hg (by omega)
        replace BV := BV.grown hg (by omega)
        have hb3 : Below w.heap.size w w3 := hb.grown hg hb.size (fun q hq => by cases hq; omega)
        clear BG hb hro hsu hnx hFR
        have hRl := RR.lt
        obtain ⟨c0, c1⟩ := RRow.two RR k (0, 0) hat
        dsimp only at c0 c1
        have f0 := fun i => RR.free i
        have hR3 := Lib.hid ((RRow.put RR k fa fb (by omega)).wf (congrArg rlsC hput))
        have hV3 := Lib.hid ((BV.other (g := v1.heap.size) (o := k * 2) (v := .int .i64 fa) (by omega)).other (g := v1.heap.size) (o := k * 2 + 1) (v := .int .i64 fb) (by omega))
        have hG3 := Lib.hid ((BG2.other (g := v1.heap.size) (o := k * 2) (v := .int .i64 fa) (by omega)).other (g := v1.heap.size) (o := k * 2 + 1) (v := .int .i64 fb) (by omega))
        have hb4 := Lib.hid ((hb3.setCell (p := ⟨v1.heap.size, k * 2, none⟩) (by show w.heap.size ≤ v1.heap.size; omega) (.int .i64 fa)).setCell (p := ⟨v1.heap.size, k * 2 + 1, none⟩) (by show w.heap.size ≤ v1.heap.size; omega) (.int .i64 fb))
        clear RR BV BG2 hb3 hat hput hln hg
        go_wp2
        go_roundg (N - (k + 1))
        case measure => omega
        case rel => exact ⟨k + 1, by omega, rfl, by go_num, hR3.out, hG3.out, hV3.out, hb4.out⟩
      · obtain rfl : k = N := by omega
        rw [Nat.sub_self, List.replicate_zero, List.append_nil] at RR
        have hRl := RR.lt
        have hln := HLN.out k
        go_wp2
        go_ret2
        exact ⟨some ⟨v1.heap.size, 0, none⟩, k, by rw [hln]; rfl, .inr ⟨v1.heap.size, rfl, by omega, hRl, RR⟩, hb⟩
  · rw [if_neg g]
    obtain ⟨q, hq⟩ : ∃ q, rcI p c h s x n = q := ⟨_, rfl⟩
    rw [hq] at hc g ⊢
    have HC := Lib.hid hc
    have f0 : (q != 0) = true := by rw [bne_iff_ne]; exact g
    clear hc hq
    have BV := Blk.new w #[.int .i64 p, .int .i64 c, .int .i64 h, .int .i64 s] 25
    have hb : Below w.heap.size w (w.alloc (.cells #[.int .i64 p, .int .i64 c, .int .i64 h, .int .i64 s] 25)) := (Below.refl _ _).alloc (Nat.le_refl _) _
    obtain ⟨x0, x1, x2, x3, xf, xl⟩ := BV.four
    go_enter Try.func25, Try.ntmps25
    go_wp2_with (go_at_call 55; refine (HC.out _).mono ?_; clear HC; rintro e w1 ⟨rfl, hb1⟩)
    go_ret2
    exact ⟨none, 0, rfl, .inl ⟨rfl, rfl⟩, chain hb hb1⟩
end Go.Proofs.Ytcmfknkdfkchmaa
