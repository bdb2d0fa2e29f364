/- Contract of the model's stratified rolls. -/
import Derived.Test.Ytcmfknkdfkchmaa07i
namespace Go.Proofs.Ytcmfknkdfkchmaa
open Go.ChangeShapes Go.WideShapes Go.ChangeAt Go.RowKit
set_option linter.unusedVariables false
set_option linter.unusedSimpArgs false

/-- One roll appended, beside a row of rolls that stays as it is. -/
theorem wp_pushRA {ops : Array Oper} {rest : List Oper} {o : Oper} {a : Act} {Q : Exit → Act → World → Prop} (hgd : o.guard = none) (s x : Operand)
    (ho : o.op = .call { callee := .builtin .append, args := #[s, x], argTypes := #[27, 27] })
    (base : Nat) (v : Value) (l : List Rl) (hs : a.eval s = v) {w0 : World} (hown : OwnR w0 base v l) (u : Rl) (gx : Nat) (zs : List Rl) (hR : RRow w0 gx zs) (hne : v.ownBlock ≠ some gx)
    {zz : Nat} (hx : a.eval x = .slice (some ⟨zz, 0, none⟩) 1 1) (hzz : w0.heap.size = zz) (hl : l.length ≤ 1048576) (hbase : base ≤ w0.heap.size)
    (h : ∀ v' w', OwnR w' base v' (l ++ [u]) → RRow w' gx zs → v'.ownBlock ≠ some gx → Below base w0 w' → wpList Try.prog ops Q rest (a.put o.dst v') w') : wpList Try.prog ops Q (o :: rest) a (w0.alloc (.cells #[.int .i64 u.1, .int .i64 u.2] 33)) := by
  subst hzz
  obtain ⟨i0, hi, hz0, hz1, hz2⟩ := info_parts infoRl
  have hown0 : w0.ownsRow base 33 2 v l.length (rlsC l) := hown
  have hgx := hR.lt
  refine wpList_append_lies _ hgd s x 27 ho base 33 i0 _ 2 16 Try.underlying27 hi hz0 hz1 hz2 rfl (by decide) v l.length (rlsC l) hs (hown0.alloc _) ⟨w0.heap.size, 0, none⟩ 1 1 (rlC u) hx (by simp [rlC])
    (World.news_of_block (cs := #[.int .i64 u.1, .int .i64 u.2]) (Blk.new w0 _ 33)) (fun y hy => by simp [rlC] at hy; rcases hy with rfl | rfl <;> rfl) (by omega) (by unfold maxLen; omega) (by omega) (by simp; omega) (w0.heap.size + 1) (by simp) ?_
  intro g cap w' hown' hgrow hw hglt
  have hb : Below base w0 w' := ((Below.refl base w0).alloc hbase _).grown hgrow (by simp; omega) (fun k hk => (hown0.lt k hk).1)
  refine h _ w' ?_ ?_ ?_ hb
  · show w'.ownsRow base 33 2 _ (l ++ [u]).length (rlsC (l ++ [u]))
    rw [List.length_append, rlsC_append]
    simpa [rlsC] using hown'
  · obtain ⟨cur, hB, q1, q2⟩ := hR
    refine ⟨cur, ?_, q1, q2⟩
    show w'.heap[gx]? = _
    rw [hgrow.block gx (by simp; omega) (fun e => hne e.symm), Below.heap_alloc _ _ _ hgx]
    exact hB
  · show some g ≠ some gx
    intro e
    simp only [Option.some.injEq] at e
    subst e
    rcases hw with hw | hw
    · exact hne hw
    · omega
theorem take_app (L Y : List Rl) (N : Nat) (h : L.length ≤ N) : (L ++ Y).take N = L ++ Y.take (N - L.length) := by
  rw [List.take_append, List.take_of_length_le h]
set_option maxRecDepth 8000 in
set_option maxHeartbeats 2000000 in
theorem specStratRolls_any (p c h s x n : Int) (w : World) : Calls Try.prog 31 #[.agg #[.int .i64 p, .int .i64 c, .int .i64 h, .int .i64 s], .int .i64 x, .int .i64 n] w (RollsGot2 (ssL p c h s x n) (rcI p c h s x n) w) := by
  have hc := fun W => l07Code_any p c h s x n W
  unfold ssL
  by_cases g : rcI p c h s x n = 0
  · rw [if_pos g, g]
    rw [g] at hc
    obtain ⟨gv, gs, n0, n4⟩ := rcI_zero g
    have hss := vB_sides gv
    have hx := (sdB_iff x).1 gs
    obtain ⟨S, rfl⟩ := Int.eq_ofNat_of_zero_le (by omega : 0 ≤ s)
    obtain ⟨N, rfl⟩ := Int.eq_ofNat_of_zero_le n0
    rw [show ((N : Int)).toNat = N by simp, show ((S : Int)).toNat = S by simp]
    have hS : 1 ≤ S ∧ S ≤ 6 := by omega
    have hN : N ≤ 400 := by omega
    have hM1 : 1 ≤ S * S := Nat.mul_pos hS.1 hS.1
    have hM36 : S * S ≤ 6 * 6 := Nat.mul_le_mul hS.2 hS.2
    have hgr := fun G W => l07Group_any p c h S (strS S x G) W (strS_seed S x hx G) hS
    have hnx : ∀ G, strL S x (G + 1) = strL S x G ++ grpL S (strS S x G) := fun G => rfl
    have hsn : ∀ G, grpS S (strS S x G) = strS S x (G + 1) := fun G => rfl
    obtain ⟨M, hMe⟩ : ∃ M, S * S = M := ⟨_, rfl⟩
    have hgl : ∀ G, (grpL S (strS S x G)).length = M := fun G => by rw [grpL_length, hMe]
    rw [hMe] at hM1 hM36
    have hof := fun G hh => strN_of S x N G hS.1 hh
    have hNl := strN_length S x N hS.1
    have HNL := Lib.hid hNl
    have HGR := Lib.hid hgr
    have HC := Lib.hid hc
    have HNX := Lib.hid hnx
    have HSN := Lib.hid hsn
    have HGL := Lib.hid hgl
    have HOF := Lib.hid hof
    clear hc hgr hnx hsn hgl hof g gv gs hss hx n4 n0 hMe hNl
    have BV := (Blk.new w #[.int .i64 p, .int .i64 c, .int .i64 h, .int .i64 (S : Int)] 25).alloc (.cells #[] 33)
    have hb : Below w.heap.size w ((w.alloc (.cells #[.int .i64 p, .int .i64 c, .int .i64 h, .int .i64 (S : Int)] 25)).alloc (.cells #[] 33)) := chain_alloc ((Below.refl _ _).alloc (Nat.le_refl _) _) _
    have hO := OwnR.start2 w #[.int .i64 p, .int .i64 c, .int .i64 h, .int .i64 (S : Int)] 25
    obtain ⟨x0, x1, x2, x3, xf, xl⟩ := BV.four
    go_enter Try.func31, Try.ntmps31
    go_wp2_with fail
    clear x0 x1 x2 x3 xf xl
    generalize ((w.alloc (.cells #[.int .i64 p, .int .i64 c, .int .i64 h, .int .i64 (S : Int)] 25)).alloc (.cells #[] 33)) = v0 at *
    refine (HC.out _).mono ?_
    rintro e w1 ⟨rfl, hb1⟩
    replace BV := BV.below hb1
    replace hO := hO.kept hb1
    replace hb := chain hb hb1
    clear hb1 HC
    go_wp2_with fail
    go_loopg [1, 8, 10, 11, 12] N (fun m q1 q8 q10 q11 q12 wr => ∃ G : Nat, m = N - ((strL S x G).take N).length ∧ q1 = .int .i64 (strS S x G) ∧ OwnR wr (w.heap.size + 1) q8 ((strL S x G).take N) ∧ Blk wr w.heap.size #[.int .i64 p, .int .i64 c, .int .i64 h, .int .i64 (S : Int)] 25 ∧ Below w.heap.size w wr)
    case atStart => exact ⟨0, by simp [strL], rfl, by simpa [strL] using hO, BV, hb⟩
    case round =>
      clear BV hb hO
      obtain ⟨G, hm, rfl, hO, BV, hb⟩ := hrel
      have hgl := HGL.out G
      have hnx := HNX.out G
      have hof := HOF.out G
      have hgrp := HGR.out G
      unfold RollsGot2 at hgrp
      rw [HSN.out G] at hgrp
      rw [hgl] at hgrp
      obtain ⟨L, hL⟩ : ∃ L, strL S x G = L := ⟨_, rfl⟩
      obtain ⟨L2, hL2⟩ : ∃ L, grpL S (strS S x G) = L := ⟨_, rfl⟩
      rw [hL] at hm hO hnx hof
      rw [hL2] at hnx hgrp hgl
      obtain ⟨SX, hSX⟩ : ∃ z, strS S x (G + 1) = z := ⟨_, rfl⟩
      rw [hSX] at hgrp
      have HSX := Lib.hid hSX
      have HGP := Lib.hid hgrp
      have HN_ := Lib.hid hnx
      have HO_ := Lib.hid hof
      have HL_ := Lib.hid hL
      clear hgrp hnx hof hL hL2 hSX
      by_cases hlt : L.length < N
      · rw [List.take_of_length_le (Nat.le_of_lt hlt)] at hO hm
        obtain ⟨aR, kR, rfl⟩ := hO.form
        have hlt' : (L.length : Int) < (N : Int) := by omega
        obtain ⟨x0, x1, x2, x3, xf, xl⟩ := BV.four
        go_wp2_with fail
        clear x0 x1 x2 x3 xf xl
        refine (HGP.out _).mono ?_
        rintro e w3 ⟨aX, kX, rfl, hX, hq⟩
        rcases hX with ⟨-, hnil⟩ | ⟨gX, rfl, hgX1, hgX2, RX⟩
        · rw [hnil] at hgl
          simp at hgl
          omega
        have hne : (Value.slice aR L.length kR).ownBlock ≠ some gX := fun e => by
          have := (World.ownsRow.lt hO gX e).2
          omega
        replace hO := hO.kept hq
        replace BV := BV.below hq
        replace hb := chain hb hq
        clear hq HGP
        go_wp2_with fail
        obtain ⟨q8, hq8⟩ : ∃ q, Value.slice aR L.length kR = q := ⟨_, rfl⟩
        go_loopg [8, 12] (M) (fun m q8 q12 wr => ∃ i : Nat, i ≤ M ∧ m = M - i ∧ q12 = .int .i64 (i : Int) ∧ L.length + i ≤ N ∧ OwnR wr (w.heap.size + 1) q8 (L ++ L2.take i) ∧ q8.ownBlock ≠ some gX ∧ RRow wr gX L2 ∧ Blk wr w.heap.size #[.int .i64 p, .int .i64 c, .int .i64 h, .int .i64 (S : Int)] 25 ∧ Below w.heap.size w wr)
        case atStart => exact ⟨0, by omega, by omega, rfl, by omega, by simpa using hO, hne, RX, BV, hb⟩
        case round =>
          clear RX BV hb hO hne hq8
          obtain ⟨i, hi, hm2, rfl, hiN, hO, hne, RX, BV, hb⟩ := hrel
          have hln : (L ++ L2.take i).length = L.length + i := by rw [List.length_append, List.length_take]; omega
          obtain ⟨LL, hLL⟩ : ∃ z, L ++ L2.take i = z := ⟨_, rfl⟩
          rw [hLL] at hO hln
          obtain ⟨aQ, kQ, rfl⟩ := hO.form
          by_cases hgo : i < M ∧ L.length + i < N
          · obtain ⟨g1, g2⟩ := hgo
            have g1' : (i : Int) < (M : Int) := by omega
            have g2' : (LL.length : Int) < (N : Int) := by omega
            have hi0 : (0 : Int) ≤ (i : Int) := by omega
            obtain ⟨⟨fa, fb⟩, hr⟩ : ∃ r, L2[i]? = some r := ⟨_, List.getElem?_eq_getElem (by omega)⟩
            have hsu : L ++ L2.take (i + 1) = LL ++ [(fa, fb)] := by
              obtain ⟨hi2, he⟩ := List.getElem?_eq_some_iff.1 hr
              rw [← hLL, List.take_succ_eq_append_getElem hi2, he, List.append_assoc]
            obtain ⟨u0, u1⟩ := RX.two i _ hr
            dsimp only at u0 u1
            have f0 := fun q => VRow.free RX q
            have HSU := Lib.hid hsu
            have hLl : LL.length ≤ 1048576 := by omega
            have hVl := BV.lt
            have hXl := RX.lt
            clear hsu hr hLL hln
            go_wp2_with (at_builtin; go_loud (refine wp_pushRA rfl (.tmp 44) (.tmp 49) rfl (w.heap.size + 1) _ LL rfl hO (fa, fb) gX L2 RX hne rfl (by first | rfl | simp) hLl hVl ?_; intro v2 w6 hO2 RX2 hne2 hb6))
            go_roundg (M - (i + 1))
            case measure => omega
            case rel => exact ⟨i + 1, by omega, rfl, by go_num, by omega, by rw [HSU.out]; exact hO2, hne2, RX2, BV.low hb6 (by omega), hb.trans (hb6.mono (by omega))⟩
          · have htk : (strL S x (G + 1)).take N = LL := by
              rw [HN_.out, take_app L L2 N (by omega), ← hLL]
              congr 1
              by_cases g1 : i < M
              · rw [show N - L.length = i by omega]
              · rw [List.take_of_length_le (by omega), List.take_of_length_le (by omega)]
            have HTK := Lib.hid htk
            clear hLL htk
            by_cases g1 : i < M
            · have g1' : (i : Int) < (M : Int) := by omega
              have g2' : (N : Int) ≤ (LL.length : Int) := by omega
              go_wp2
              go_roundg (N - LL.length)
              case measure => omega
              case rel => exact ⟨G + 1, by rw [HTK.out], by rw [HSX.out], by rw [HTK.out]; exact hO, BV, hb⟩
            · have g1' : (M : Int) ≤ (i : Int) := by omega
              go_wp2
              go_roundg (N - LL.length)
              case measure => omega
              case rel => exact ⟨G + 1, by rw [HTK.out], by rw [HSX.out], by rw [HTK.out]; exact hO, BV, hb⟩
      · have hle : N ≤ L.length := by omega
        rw [HO_.out hle] at hO
        have hNL := HNL.out
        obtain ⟨T, hT⟩ : ∃ T, strN S x N = T := ⟨_, rfl⟩
        rw [hT] at hO hNL
        have HT := Lib.hid hT
        obtain ⟨aR, kR, rfl⟩ := hO.form
        have hle2 : (N : Int) ≤ (T.length : Int) := by omega
        clear hT hm
        go_wp2
        go_ret2
        exact ⟨aR, kR, by rw [HT.out]; rfl, by rw [HT.out]; exact hO.orl.mono (by omega) (Nat.le_refl _), hb⟩
  · rw [if_neg g]
    obtain ⟨q, hq⟩ : ∃ q, rcI p c h s x n = q := ⟨_, rfl⟩
    rw [hq] at hc g ⊢
    have HC := Lib.hid hc
    have f0 : (q != 0) = true := by rw [bne_iff_ne]; exact g
    clear hc hq
    have BV := (Blk.new w #[.int .i64 p, .int .i64 c, .int .i64 h, .int .i64 s] 25).alloc (.cells #[] 33)
    have hb : Below w.heap.size w ((w.alloc (.cells #[.int .i64 p, .int .i64 c, .int .i64 h, .int .i64 s] 25)).alloc (.cells #[] 33)) := chain_alloc ((Below.refl _ _).alloc (Nat.le_refl _) _) _
    have hO := OwnR.start2 w #[.int .i64 p, .int .i64 c, .int .i64 h, .int .i64 s] 25
    obtain ⟨x0, x1, x2, x3, xf, xl⟩ := BV.four
    go_enter Try.func31, Try.ntmps31
    go_wp2_with (go_at_call 57; refine (HC.out _).mono ?_; clear HC; rintro e w1 ⟨rfl, hb1⟩)
    go_ret2
    have hb2 := chain hb hb1
    exact ⟨some ⟨w.heap.size + 1, 0, none⟩, 0, rfl, (hO.kept hb1).orl.mono (by omega) (Nat.le_refl _), hb2⟩
end Go.Proofs.Ytcmfknkdfkchmaa
