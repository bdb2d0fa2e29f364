/- Contract of the program's stratified rolls. -/
import Derived.Test.Ytcmfknkdfkchmaa07g
import Derived.Test.YtcmfknkdfkchmaaOwn
namespace Go.Proofs.Ytcmfknkdfkchmaa
open Go.ChangeShapes Go.WideShapes Go.ChangeAt Go.RowKit
set_option linter.unusedVariables false
set_option linter.unusedSimpArgs false

theorem rlsC_one (l : List Rl) : ∀ y ∈ rlsC l, y.oneCell' = true := by
  induction l with
  | nil => intro y hy; simp [rlsC] at hy
  | cons s l ih =>
    intro y hy
    rw [rlsC, List.mem_append] at hy
    rcases hy with hy | hy
    · simp [rlC] at hy
      rcases hy with rfl | rfl <;> rfl
    · exact ih y hy
/-- Several rolls appended: 'out = append(out, list...)'. -/
theorem wp_pushAllR {ops : Array Oper} {rest : List Oper} {o : Oper} {a : Act} {Q : Exit → Act → World → Prop} (hgd : o.guard = none) (s x : Operand)
    (ho : o.op = .call { callee := .builtin .append, args := #[s, x], argTypes := #[27, 27] })
    (base : Nat) (v : Value) (D : List Rl) (hs : a.eval s = v) {w0 : World} (hown : OwnR w0 base v D) (g : Nat) (ys : List Rl) (m cap : Nat)
    (hx : a.eval x = .slice (some ⟨g, 0, none⟩) m cap) (hm : ys.length = m) (hr : RRow w0 g ys) (hl : D.length + m ≤ 1048576) (hbase : base ≤ w0.heap.size)
    (h : ∀ v' w', OwnR w' base v' (D ++ ys) → Below base w0 w' → wpList Try.prog ops Q rest (a.put o.dst v') w') : wpList Try.prog ops Q (o :: rest) a w0 := by
  obtain ⟨i0, hi, hz0, hz1, hz2⟩ := info_parts infoRl
  subst hm
  have hown0 : w0.ownsRow base 33 2 v D.length (rlsC D) := hown
  refine wpList_append_own _ hgd s x 27 ho base 33 i0 _ 2 16 Try.underlying27 hi hz0 hz1 hz2 rfl (by decide) v D.length (rlsC D) hs hown0 ⟨g, 0, none⟩ ys.length cap (rlsC ys) hx (rlsC_length ys) ?_ (rlsC_one ys) (by unfold maxLen; omega) (by omega) hbase ?_
  · intro j u hj
    rw [show (⟨g, 0, none⟩ : Addr).add j = ⟨g, j, none⟩ from by unfold Addr.add; split <;> simp_all]
    exact VRow.cell hr j u hj
  · intro v' w' hown' hgrow _
    refine h v' w' ?_ ((Below.refl base w0).grown hgrow hbase (fun k hk => (hown0.lt k hk).1))
    show w'.ownsRow base 33 2 _ (D ++ ys).length (rlsC (D ++ ys))
    rw [List.length_append, rlsC_append]
    exact hown'
theorem OwnR.keptG {w w' : World} {base g : Nat} {v : Value} {l : List Rl} (h : OwnR w base v l) (hg : w.grownBy w' (some g)) (hb : g < base) : OwnR w' base v l :=
  World.ownsRow.kept (row := some g) h hg (by
    cases hv : v.ownBlock with
    | none => exact .inl rfl
    | some k =>
      have := (World.ownsRow.lt h k hv).1
      exact .inr (by simp; omega))
theorem rlsC_take : ∀ (l : List Rl) (n : Nat), rlsC (l.take n) = (rlsC l).take (n * 2)
  | [], n => by simp [rlsC]
  | s :: l, 0 => by simp [rlsC]
  | s :: l, n + 1 => by
    rw [List.take_succ_cons, rlsC, rlsC, rlsC_take l n, show (n + 1) * 2 = n * 2 + 2 by omega]
    simp [rlC]
theorem ORl.take {lo hi : Nat} {w : World} {a : Option Addr} {l : List Rl} (h : ORl lo hi w a l) (n : Nat) : ORl lo hi w a (l.take n) := by
  rcases h with ⟨rfl, rfl⟩ | ⟨g, e, h1, h2, r⟩
  · exact .inl ⟨rfl, by simp⟩
  · exact .inr ⟨g, e, h1, h2, (VRow.take r (n * 2)).wf (rlsC_take l n).symm⟩
theorem OwnR.formC {w : World} {base : Nat} {v : Value} {l : List Rl} (h : OwnR w base v l) : ∃ a k, v = .slice a l.length k ∧ l.length ≤ k := by
  rcases h.2 with ⟨h1, h2⟩ | ⟨g, cap, cur, h1, hb, hh, hc, _⟩
  · exact ⟨none, 0, by rw [h1, h2], by omega⟩
  · exact ⟨some ⟨g, 0, none⟩, cap, h1, hc⟩
def ssL (p c h s x n : Int) : List Rl := if rcI p c h s x n = 0 then strN s.toNat x n.toNat else []
set_option maxRecDepth 8000 in
set_option maxHeartbeats 2000000 in
theorem stratRolls_any (p c h s x n : Int) (w : World) : Calls Try.prog 30 #[.agg #[.int .i64 p, .int .i64 c, .int .i64 h, .int .i64 s], .int .i64 x, .int .i64 n] w (RollsGot2 (ssL p c h s x n) (rcI p c h s x n) w) := by
  have hc := fun W => rollsCode_any p c h s x n W
  unfold ssL
  by_cases g : rcI p c h s x n = 0
  · rw [if_pos g, g]
    rw [g] at hc
    obtain ⟨gv, gs, n0, n4⟩ := rcI_zero g
    have hss := vB_sides gv
    have hx := (sdB_iff x).1 gs
    obtain ⟨S, rfl⟩ := Int.eq_ofNat_of_zero_le (by omega : 0 ≤ s)
    obtain ⟨N, rfl⟩ := Int.eq_ofNat_of_zero_le n0
    rw [show ((N : Int)).toNat = N by simp, show ((S : Int)).toNat = S by simp]
    have hS : 1 ≤ S ∧ S ≤ 6 := by omega
    have hN : N ≤ 400 := by omega
    have hM1 : 1 ≤ S * S := Nat.mul_pos hS.1 hS.1
    have hM36 : S * S ≤ 6 * 6 := Nat.mul_le_mul hS.2 hS.2
    have hgr := fun G g W B => group_any p c h S g (strS S x G) W (strS_seed S x hx G) hS B
    have hnx : ∀ G, strL S x (G + 1) = strL S x G ++ grpL S (strS S x G) := fun G => rfl
    have hsn : ∀ G, grpS S (strS S x G) = strS S x (G + 1) := fun G => rfl
    have hgl := fun G => grpL_length S (strS S x G)
    have hof := fun G hh => strN_of S x N G hS.1 hh
    have hNl := strN_length S x N hS.1
    have HGR := Lib.hid hgr
    have HC := Lib.hid hc
    have HNX := Lib.hid hnx
    have HSN := Lib.hid hsn
    have HGL := Lib.hid hgl
    have HOF := Lib.hid hof
    have HNL := Lib.hid hNl
    clear hc hgr hnx hsn hgl hof hNl g gv gs hss hx n4 n0
    have BV := Blk.new w #[.int .i64 p, .int .i64 c, .int .i64 h, .int .i64 (S : Int)] 25
    have hb : Below w.heap.size w (w.alloc (.cells #[.int .i64 p, .int .i64 c, .int .i64 h, .int .i64 (S : Int)] 25)) := (Below.refl _ _).alloc (Nat.le_refl _) _
    obtain ⟨x0, x1, x2, x3, xf, xl⟩ := BV.four
    go_enter Try.func30, Try.ntmps30
    go_wp2_with fail
    clear x0 x1 x2 x3 xf xl
    generalize (w.alloc (.cells #[.int .i64 p, .int .i64 c, .int .i64 h, .int .i64 (S : Int)] 25)) = v0 at *
    refine (HC.out _).mono ?_
    rintro e w1 ⟨rfl, hb1⟩
    replace BV := BV.below hb1
    replace hb := chain hb hb1
    clear hb1 HC
    have hw0 := BV.lt
    have BG := Blk.new w1 #[.int .i64 x] 68
    have hal : Below w1.heap.size w1 (w1.alloc (.cells #[.int .i64 x] 68)) := (Below.refl _ _).alloc (Nat.le_refl _) _
    replace BV := BV.below hal
    replace hb := chain hb hal
    have hzal : w1.heap.size + 1 ≤ (w1.alloc (.cells #[.int .i64 x] 68)).heap.size := by simp
    clear hal
    go_wp2_with fail
    generalize (w1.alloc (.cells #[.int .i64 x] 68)) = v1 at *
    go_loopg [10] N (fun m q10 wr => ∃ G : Nat, m = N - (strL S x G).length ∧ OwnR wr v1.heap.size q10 (strL S x G) ∧ Blk wr w1.heap.size #[.int .i64 (strS S x G)] 68 ∧ Blk wr w.heap.size #[.int .i64 p, .int .i64 c, .int .i64 h, .int .i64 (S : Int)] 25 ∧ v1.heap.size ≤ wr.heap.size ∧ Below w.heap.size w wr)
    case atStart => exact ⟨0, by simp [strL], OwnR.nil _ _, BG, BV, Nat.le_refl _, hb⟩
    case round =>
      clear BG BV hb
      obtain ⟨G, hm, hO, BG, BV, hvw, hb⟩ := hrel
      have hgl := HGL.out G
      have hnx := HNX.out G
      have hof := HOF.out G
      have hgrp := HGR.out G
      unfold GrpGot at hgrp
      rw [HSN.out G] at hgrp
      rw [hgl] at hgrp
      obtain ⟨L, hL⟩ : ∃ L, strL S x G = L := ⟨_, rfl⟩
      obtain ⟨L2, hL2⟩ : ∃ L, grpL S (strS S x G) = L := ⟨_, rfl⟩
      rw [hL] at hm hO hnx hof
      rw [hL2] at hnx hgrp hgl
      have HGP := Lib.hid hgrp
      have HN_ := Lib.hid hnx
      have HO_ := Lib.hid hof
      clear hgrp hnx hof hL hL2
      obtain ⟨aR, kR, rfl, hkR⟩ := hO.formC
      by_cases hlt : L.length < N
      · have hlt' : (L.length : Int) < (N : Int) := by omega
        obtain ⟨x0, x1, x2, x3, xf, xl⟩ := BV.four
        go_wp2_with fail
        clear x0 x1 x2 x3 xf xl
        refine (HGP.out w1.heap.size _ BG).mono ?_
        rintro e w3 ⟨aX, kX, rfl, hX, BG2, hg⟩
        rcases hX with ⟨-, hnil⟩ | ⟨gX, rfl, hgX1, hgX2, RX⟩
        · rw [hnil] at hgl
          simp at hgl
          omega
        replace hO := hO.keptG hg (by omega)
        replace BV := BV.grown hg (by omega)
        have hb3 := hb.grown hg hb.size (fun q hq => by cases hq; omega)
        have hz3 := hg.size
        clear BG hb hg HGP
        go_wp2_with (at_builtin; go_loud (refine wp_pushAllR rfl (.tmp 24) (.tmp 26) rfl v1.heap.size _ L rfl hO gX L2 (S * S) kX rfl hgl RX (by omega) (by omega) ?_; intro v2 w6 hO2 hb6))
        have hz6 := hb6.size
        go_roundg (N - (L ++ L2).length)
        case measure => rw [List.length_append]; omega
        case rel => exact ⟨G + 1, by rw [HN_.out], by rw [HN_.out]; exact hO2, BG2.low hb6 (by omega), BV.low hb6 (by omega), by omega, hb3.trans (hb6.mono (by omega))⟩
      · have hle : (N : Int) ≤ (L.length : Int) := by omega
        have hle2 : N ≤ L.length := by omega
        have hlk : (N : Int) ≤ (kR : Int) := by omega
        have hN0 : (0 : Int) ≤ (N : Int) := by omega
        have hres := hO.orl.take N
        rw [HO_.out hle2] at hres
        have hNL := HNL.out
        go_wp2
        go_ret2
        exact ⟨aR, kR, by rw [hNL]; rfl, hres.mono (by omega) (Nat.le_refl _), hb⟩
  · rw [if_neg g]
    obtain ⟨q, hq⟩ : ∃ q, rcI p c h s x n = q := ⟨_, rfl⟩
    rw [hq] at hc g ⊢
    have HC := Lib.hid hc
    have f0 : (q != 0) = true := by rw [bne_iff_ne]; exact g
    clear hc hq
    have BV := Blk.new w #[.int .i64 p, .int .i64 c, .int .i64 h, .int .i64 s] 25
    have hb : Below w.heap.size w (w.alloc (.cells #[.int .i64 p, .int .i64 c, .int .i64 h, .int .i64 s] 25)) := (Below.refl _ _).alloc (Nat.le_refl _) _
    obtain ⟨x0, x1, x2, x3, xf, xl⟩ := BV.four
    go_enter Try.func30, Try.ntmps30
    go_wp2_with (go_at_call 55; refine (HC.out _).mono ?_; clear HC; rintro e w1 ⟨rfl, hb1⟩)
    go_ret2
    exact ⟨none, 0, rfl, .inl ⟨rfl, rfl⟩, chain hb hb1⟩
end Go.Proofs.Ytcmfknkdfkchmaa
