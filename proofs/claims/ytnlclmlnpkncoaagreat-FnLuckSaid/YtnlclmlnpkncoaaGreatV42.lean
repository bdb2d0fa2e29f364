/- Texts of a proof, laid together. -/
import Derived.Test.YtnlclmlnpkncoaaGreatV38
import Derived.Test.YtnlclmlnpkncoaaGreatV37
import Derived.Test.YtnlclmlnpkncoaaGreatV05
import Derived.Deep.LoopGhost
import Derived.RegionTactic
import Derived.Deep.RegionWith
namespace Go.Proofs.YtnlclmlnpkncoaaGreat
open Go.ChangeShapes Go.WideShapes Go.ChangeAt Go.RowKit
set_option linter.unusedVariables false
set_option linter.unusedSimpArgs false
set_option maxRecDepth 4000
set_option maxRecDepth 8000 in
set_option maxHeartbeats 1000000 in
theorem specMeanExact_any (p c h s : Int) (va : Option Addr) (kv : Nat) (X : List Rl) (w : World) (hXl : X.length ≤ 1048576) (HO : OX w va X) (hr : ∀ r ∈ X, -9223372036854775808 ≤ r.2 ∧ r.2 ≤ 9223372036854775807) :
    Calls Tryz.prog 11 #[.agg #[.int .i64 p, .int .i64 c, .int .i64 h, .int .i64 s], .slice va X.length kv] w fun e w' => e = .returned (xoV (mnV p c h s X)) ∧ Below w.heap.size w w' := by
  have hva := fun W => specIsVariant_any p c h s W
  obtain ⟨BV, BO, hb, hz⟩ := two_new w #[.int .i64 p, .int .i64 c, .int .i64 h, .int .i64 s] #[.int .i64 0, .int .i64 0] 25 35
  replace HO := HO.below hb
  obtain ⟨⟨r1, r2, r3⟩, hv⟩ : ∃ r, mnV p c h s X = r := ⟨_, rfl⟩
  rw [hv]
  dsimp only [xoV]
  cases g : vB p c h s with
  | false =>
    have e1 : sfC p c h s X = 1 := sfC_no g
    unfold mnV at hv
    rw [e1, if_neg (by decide)] at hv
    simp only [Prod.mk.injEq] at hv
    obtain ⟨rfl, rfl, rfl⟩ := hv
    rw [g] at hva
    have HVA := Lib.hid hva
    clear hva g e1 hr
    obtain ⟨v0_, v1_, v2_, v3_, vf, vl⟩ := BV.four
    obtain ⟨o0, o1, of_, ol⟩ := BO.two
    go_enter Tryz.func11, Tryz.ntmps11
    go_wp2_with (go_at_call 31; refine (HVA.out _).mono ?_; clear HVA; rintro e w1 ⟨rfl, hb1⟩; replace BV := BV.below hb1; replace BO := BO.below hb1; replace HO := HO.below hb1; replace hb := chain hb hb1; clear hb1; obtain ⟨v0_, v1_, v2_, v3_, vf, vl⟩ := BV.four; obtain ⟨o0, o1, of_, ol⟩ := BO.two)
    have BRn := BO.set2 (.int .i64 0) (.int .i64 0)
    obtain ⟨u0, u1, uf, ul⟩ := BRn.two
    refine bodyPost_ret (v := .tuple #[.agg #[.int .i64 0, .int .i64 0], .int .i64 1]) (by simp [results, Tryz.results11, go_sem, u0, u1]) rfl ?_
    exact ⟨rfl, belowFar2 hb (by omega) _ _⟩
  | true =>
    obtain ⟨S, rfl, hS⟩ := vB_side g
    have hn := nn_range hS
    rw [g] at hva
    have HVA := Lib.hid hva
    have HR := Lib.hid hr
    have HG := Lib.hid g
    have HV := Lib.hid hv
    clear hva g hr hv
    obtain ⟨v0_, v1_, v2_, v3_, vf, vl⟩ := BV.four
    obtain ⟨o0, o1, of_, ol⟩ := BO.two
    go_enter Tryz.func11, Tryz.ntmps11
    go_wp2_with (go_at_call 31; refine (HVA.out _).mono ?_; clear HVA; rintro e w1 ⟨rfl, hb1⟩; replace BV := BV.below hb1; replace BO := BO.below hb1; replace HO := HO.below hb1; replace hb := chain hb hb1; clear hb1; obtain ⟨v0_, v1_, v2_, v3_, vf, vl⟩ := BV.four; obtain ⟨o0, o1, of_, ol⟩ := BO.two)
    clear v0_ v1_ v2_ v3_ vf vl o0 o1 of_ ol
    go_loopg [6] X.length (fun n i wr => ∃ j : Nat, j ≤ X.length ∧ n = X.length - j ∧ i = .int .i64 (j : Int) ∧ Hid (∀ x ∈ X.take j, xvB S x.1 x.2 = true) ∧ OX wr va X ∧ Blk wr w.heap.size #[.int .i64 p, .int .i64 c, .int .i64 h, .int .i64 (S : Int)] 25 ∧ Blk wr (w.heap.size + 1) #[.int .i64 0, .int .i64 0] 35 ∧ Below w.heap.size w wr)
    case atStart => exact ⟨0, by omega, by omega, rfl, Lib.hid (by simp), HO, BV, BO, hb⟩
    case round =>
      clear HO BV BO hb
      obtain ⟨j, hj, hm, rfl, HA, HO, BV, BO, hb⟩ := hrel
      by_cases hlt : j < X.length
      · have hlt' : (j : Int) < (X.length : Int) := by omega
        have hk0 : (0 : Int) ≤ (j : Int) := by omega
        obtain ⟨ga, rfl, RX⟩ := HO.row hlt
        obtain ⟨⟨xn, xd⟩, hs⟩ : ∃ s, X[j]? = some s := ⟨_, List.getElem?_eq_getElem hlt⟩
        have hmem : (xn, xd) ∈ X := List.mem_of_getElem? hs
        have hlv := fun W => l09Valid_any p c h S hS xn xd (HR.out _ hmem).2 W
        have HS1 := Lib.hid hs
        have hall := HA.out
        clear HO
        cases gx : xvB S xn xd with
        | false =>
          have e2 : sfC p c h (S : Int) X = 2 := by
            unfold sfC
            rw [if_pos HG.out, if_neg]
            intro q
            have := List.all_eq_true.1 q _ hmem
            rw [Int.toNat_natCast] at this
            dsimp only at this
            rw [gx] at this
            cases this
          have hv := HV.out
          unfold mnV at hv
          rw [e2, if_neg (by decide)] at hv
          simp only [Prod.mk.injEq] at hv
          obtain ⟨rfl, rfl, rfl⟩ := hv
          rw [gx] at hlv
          have HLV := Lib.hid hlv
          clear hlv gx e2 hs hmem hall
          obtain ⟨v0_, v1_, v2_, v3_, vf, vl⟩ := BV.four
          obtain ⟨o0, o1, of_, ol⟩ := BO.two
          go_wp2_with fail
          clear v0_ v1_ v2_ v3_ vf vl o0 o1 of_ ol
          refine wp_region_held_drew (S := fun w' => w'.cell? ⟨ga, j * 2, none⟩ = some (.int .i64 xn) ∧ w'.cell? ⟨ga, j * 2 + 1, none⟩ = some (.int .i64 xd) ∧ w'.cell? ⟨w.heap.size, 0, none⟩ = some (.int .i64 p) ∧ w'.cell? ⟨w.heap.size, 1, none⟩ = some (.int .i64 c) ∧ w'.cell? ⟨w.heap.size, 2, none⟩ = some (.int .i64 h) ∧ w'.cell? ⟨w.heap.size, 3, none⟩ = some (.int .i64 (S : Int))) (by kernel_rfl) ⟨(XRow.two RX.drew j _ HS1.out).1, (XRow.two RX.drew j _ HS1.out).2, BV.drew.four.1, BV.drew.four.2.1, BV.drew.four.2.2.1, BV.drew.four.2.2.2.1⟩ (fun hHeld => ?_)
          clear hHeld
          replace BV := BV.drew
          replace BO := BO.drew
          replace RX := RX.drew
          replace hb := hb.drew
          generalize wr.drew = vd at *
          have hHeld : vd.cell? ⟨ga, j * 2, none⟩ = some (.int .i64 xn) ∧ vd.cell? ⟨ga, j * 2 + 1, none⟩ = some (.int .i64 xd) ∧ vd.cell? ⟨w.heap.size, 0, none⟩ = some (.int .i64 p) ∧ vd.cell? ⟨w.heap.size, 1, none⟩ = some (.int .i64 c) ∧ vd.cell? ⟨w.heap.size, 2, none⟩ = some (.int .i64 h) ∧ vd.cell? ⟨w.heap.size, 3, none⟩ = some (.int .i64 (S : Int)) := ⟨(XRow.two RX j _ HS1.out).1, (XRow.two RX j _ HS1.out).2, BV.four.1, BV.four.2.1, BV.four.2.2.1, BV.four.2.2.2.1⟩
          refine tk 0 19 ?_
          refine tk 1 20 ?_
          refine tk 2 21 ?_
          refine tk 3 22 ?_
          refine tk 4 23 ?_
          refine rdk 5 24 fun K hK => ?_
          go_simp
          refine (HLV.out _).mono ?_
          rintro e w5 ⟨rfl, hb5⟩
          replace BV := BV.below hb5
          replace BO := BO.below hb5
          replace RX := RX.below hb5
          replace hb := chain hb hb5
          clear hb5
          (try go_wp2_with fail)
          refine hko hK ⟨(XRow.two RX j _ HS1.out).1, (XRow.two RX j _ HS1.out).2, (Blk.l4 BV)⟩ fun hHeld => ?_
          clear hK K
          refine tk 6 25 ?_
          refine wpAnyH_done (by kernel_rfl) ?_ _
          clear hHeld
          obtain ⟨v0_, v1_, v2_, v3_, vf, vl⟩ := BV.four
          obtain ⟨o0, o1, of_, ol⟩ := BO.two
          go_wp2_with fail
          have BRn := BO.set2 (.int .i64 0) (.int .i64 0)
          obtain ⟨u0, u1, uf, ul⟩ := BRn.two
          refine bodyPost_ret (v := .tuple #[.agg #[.int .i64 0, .int .i64 0], .int .i64 2]) (by simp [results, Tryz.results11, go_sem, u0, u1]) rfl ?_
          exact ⟨rfl, belowFar2 hb (by omega) _ _⟩
        | true =>
          have htk : ∀ x ∈ X.take (j + 1), xvB S x.1 x.2 = true := by
            intro x hx
            rw [List.take_add_one, hs, List.mem_append] at hx
            rcases hx with hx | hx
            · exact hall x hx
            · simp at hx
              subst hx
              exact gx
          have HT := Lib.hid htk
          rw [gx] at hlv
          have HLV := Lib.hid hlv
          clear hlv gx hs hmem hall htk
          obtain ⟨v0_, v1_, v2_, v3_, vf, vl⟩ := BV.four
          obtain ⟨o0, o1, of_, ol⟩ := BO.two
          go_wp2_with fail
          clear v0_ v1_ v2_ v3_ vf vl o0 o1 of_ ol
          refine wp_region_held_drew (S := fun w' => w'.cell? ⟨ga, j * 2, none⟩ = some (.int .i64 xn) ∧ w'.cell? ⟨ga, j * 2 + 1, none⟩ = some (.int .i64 xd) ∧ w'.cell? ⟨w.heap.size, 0, none⟩ = some (.int .i64 p) ∧ w'.cell? ⟨w.heap.size, 1, none⟩ = some (.int .i64 c) ∧ w'.cell? ⟨w.heap.size, 2, none⟩ = some (.int .i64 h) ∧ w'.cell? ⟨w.heap.size, 3, none⟩ = some (.int .i64 (S : Int))) (by kernel_rfl) ⟨(XRow.two RX.drew j _ HS1.out).1, (XRow.two RX.drew j _ HS1.out).2, BV.drew.four.1, BV.drew.four.2.1, BV.drew.four.2.2.1, BV.drew.four.2.2.2.1⟩ (fun hHeld => ?_)
          clear hHeld
          replace BV := BV.drew
          replace BO := BO.drew
          replace RX := RX.drew
          replace hb := hb.drew
          generalize wr.drew = vd at *
          have hHeld : vd.cell? ⟨ga, j * 2, none⟩ = some (.int .i64 xn) ∧ vd.cell? ⟨ga, j * 2 + 1, none⟩ = some (.int .i64 xd) ∧ vd.cell? ⟨w.heap.size, 0, none⟩ = some (.int .i64 p) ∧ vd.cell? ⟨w.heap.size, 1, none⟩ = some (.int .i64 c) ∧ vd.cell? ⟨w.heap.size, 2, none⟩ = some (.int .i64 h) ∧ vd.cell? ⟨w.heap.size, 3, none⟩ = some (.int .i64 (S : Int)) := ⟨(XRow.two RX j _ HS1.out).1, (XRow.two RX j _ HS1.out).2, BV.four.1, BV.four.2.1, BV.four.2.2.1, BV.four.2.2.2.1⟩
          refine tk 0 19 ?_
          refine tk 1 20 ?_
          refine tk 2 21 ?_
          refine tk 3 22 ?_
          refine tk 4 23 ?_
          refine rdk 5 24 fun K hK => ?_
          go_simp
          refine (HLV.out _).mono ?_
          rintro e w5 ⟨rfl, hb5⟩
          replace BV := BV.below hb5
          replace BO := BO.below hb5
          replace RX := RX.below hb5
          replace hb := chain hb hb5
          clear hb5
          (try go_wp2_with fail)
          refine hko hK ⟨(XRow.two RX j _ HS1.out).1, (XRow.two RX j _ HS1.out).2, (Blk.l4 BV)⟩ fun hHeld => ?_
          clear hK K
          refine tk 6 25 ?_
          refine wpAnyH_done (by kernel_rfl) ?_ _
          clear hHeld
          obtain ⟨v0_, v1_, v2_, v3_, vf, vl⟩ := BV.four
          obtain ⟨o0, o1, of_, ol⟩ := BO.two
          go_wp2_with fail
          go_roundg (X.length - (j + 1))
          case measure => omega
          case rel => exact ⟨j + 1, by omega, rfl, by go_num, HT, .inr ⟨ga, rfl, RX⟩, BV, BO, hb⟩
      · obtain rfl : j = X.length := by omega
        have hall : ∀ x ∈ X, xvB S x.1 x.2 = true := fun x hx => HA.out x (by rw [List.take_length]; exact hx)
        have e0 : sfC p c h (S : Int) X = 0 := by
          unfold sfC
          rw [if_pos HG.out, if_pos]
          rw [List.all_eq_true]
          intro x hx
          rw [Int.toNat_natCast]
          exact hall x hx
        have hv := HV.out
        unfold mnV at hv
        rw [e0, if_pos rfl, Int.toNat_natCast] at hv
        have hro := fun W => l09Rolls_any p c h S W (by omega)
        by_cases hl : X.length = (rollsTo S).length
        · rw [if_pos hl] at hv
          have hme := fun W => l09Mean_any p c h S hS va kv X hl hall W
          obtain ⟨RL, hRL⟩ : ∃ RL, rollsTo S = RL := ⟨_, rfl⟩
          rw [hRL] at hro hv hme hl
          have hl2 : (RL.length : Int) = (X.length : Int) := by omega
          have hro2 : ∀ W : World, Calls Tryz.prog 40 #[.agg #[.int .i64 p, .int .i64 c, .int .i64 h, .int .i64 (S : Int)]] W fun e w' => ∃ ra kr, e = .returned (.slice ra X.length kr) ∧ Below W.heap.size W w' := fun W => (hro W).mono (by rintro e w' ⟨ra, kr, rfl, -, hbq⟩; rw [← hl]; exact ⟨ra, kr, rfl, hbq⟩)
          have HRO := Lib.hid hro2
          obtain ⟨M, hM⟩ : ∃ M, mnX S (RL.zip X) = M := ⟨_, rfl⟩
          rw [hM] at hv hme
          clear hro hro2 hl hl2 hRL hM e0 hall
          cases M with
          | none =>
            simp only [xo3, Prod.mk.injEq] at hv
            obtain ⟨rfl, rfl, rfl⟩ := hv
            dsimp only [xoN, xoD, Option.isSome] at hme
            obtain ⟨s1, hs1⟩ : ∃ r : Int, (0 : Int) = r := ⟨_, rfl⟩
            obtain ⟨s2, hs2⟩ : ∃ r : Int, (0 : Int) = r := ⟨_, rfl⟩
            have hme2 : ∀ W : World, OX W va X → Calls Tryz.prog 41 #[.agg #[.int .i64 p, .int .i64 c, .int .i64 h, .int .i64 (S : Int)], .slice va X.length kv] W fun e w' => e = .returned (.tuple #[.agg #[.int .i64 s1, .int .i64 s2], .bool false]) ∧ Below W.heap.size W w' := fun W q => by rw [← hs1, ← hs2]; exact hme W q
            have HME := Lib.hid hme2
            clear hme hme2 hs1 hs2
            obtain ⟨v0_, v1_, v2_, v3_, vf, vl⟩ := BV.four
            obtain ⟨o0, o1, of_, ol⟩ := BO.two
            go_wp2_with (first | (go_at_call 40; refine (HRO.out _).mono ?_; clear HRO; rintro e w2 ⟨ra, kr, rfl, hb2⟩; replace BV := BV.below hb2; replace BO := BO.below hb2; replace HO := HO.below hb2; replace hb := chain hb hb2; clear hb2; obtain ⟨v0_, v1_, v2_, v3_, vf, vl⟩ := BV.four; obtain ⟨o0, o1, of_, ol⟩ := BO.two) | (go_at_call 41; refine (HME.out _ HO).mono ?_; clear HME; rintro e w3 ⟨rfl, hb3⟩; have BS := Blk.new w3 #[.int .i64 s1, .int .i64 s2] 35; replace BO := (BO.below hb3).alloc (.cells #[.int .i64 s1, .int .i64 s2] 35); replace hb := chain_alloc (chain hb hb3) (.cells #[.int .i64 s1, .int .i64 s2] 35); clear hb3 BV HO; obtain ⟨s0_, s1_, sf, sl⟩ := BS.two; obtain ⟨o0, o1, of_, ol⟩ := BO.two))
            have BRn := BO.set2 (.int .i64 0) (.int .i64 0)
            obtain ⟨u0, u1, uf, ul⟩ := BRn.two
            refine bodyPost_ret (v := .tuple #[.agg #[.int .i64 0, .int .i64 0], .int .i64 3]) (by simp [results, Tryz.results11, go_sem, u0, u1]) rfl ?_
            exact ⟨rfl, belowFar2 hb (by omega) _ _⟩
          | some z =>
            obtain ⟨s1, s2⟩ := z
            simp only [xo3, Prod.mk.injEq] at hv
            obtain ⟨rfl, rfl, rfl⟩ := hv
            dsimp only [xoN, xoD, Option.isSome] at hme
            have HME := Lib.hid hme
            clear hme
            obtain ⟨v0_, v1_, v2_, v3_, vf, vl⟩ := BV.four
            obtain ⟨o0, o1, of_, ol⟩ := BO.two
            go_wp2_with (first | (go_at_call 40; refine (HRO.out _).mono ?_; clear HRO; rintro e w2 ⟨ra, kr, rfl, hb2⟩; replace BV := BV.below hb2; replace BO := BO.below hb2; replace HO := HO.below hb2; replace hb := chain hb hb2; clear hb2; obtain ⟨v0_, v1_, v2_, v3_, vf, vl⟩ := BV.four; obtain ⟨o0, o1, of_, ol⟩ := BO.two) | (go_at_call 41; refine (HME.out _ HO).mono ?_; clear HME; rintro e w3 ⟨rfl, hb3⟩; have BS := Blk.new w3 #[.int .i64 s1, .int .i64 s2] 35; replace BO := (BO.below hb3).alloc (.cells #[.int .i64 s1, .int .i64 s2] 35); replace hb := chain_alloc (chain hb hb3) (.cells #[.int .i64 s1, .int .i64 s2] 35); clear hb3 BV HO; obtain ⟨s0_, s1_, sf, sl⟩ := BS.two; obtain ⟨o0, o1, of_, ol⟩ := BO.two))
            have BRn := BO.set2 (.int .i64 s1) (.int .i64 s2)
            obtain ⟨u0, u1, uf, ul⟩ := BRn.two
            refine bodyPost_ret (v := .tuple #[.agg #[.int .i64 s1, .int .i64 s2], .int .i64 0]) (by simp [results, Tryz.results11, go_sem, u0, u1]) rfl ?_
            exact ⟨rfl, belowFar2 hb (by omega) _ _⟩
        · rw [if_neg hl] at hv
          simp only [Prod.mk.injEq] at hv
          obtain ⟨rfl, rfl, rfl⟩ := hv
          obtain ⟨RL, hRL⟩ : ∃ RL, rollsTo S = RL := ⟨_, rfl⟩
          rw [hRL] at hro hl
          have f0 : ((X.length : Int) == (RL.length : Int)) = false := by rw [beq_eq_false_iff_ne]; omega
          have f1 : ((RL.length : Int) == (X.length : Int)) = false := by rw [beq_eq_false_iff_ne]; omega
          have hl2 : ¬ (X.length : Int) = (RL.length : Int) := by omega
          have HRO := Lib.hid hro
          clear hro hRL e0 hall
          obtain ⟨v0_, v1_, v2_, v3_, vf, vl⟩ := BV.four
          obtain ⟨o0, o1, of_, ol⟩ := BO.two
          go_wp2_with (go_at_call 40; refine (HRO.out _).mono ?_; clear HRO; rintro e w2 ⟨ra, kr, rfl, -, hb2⟩; replace BV := BV.below hb2; replace BO := BO.below hb2; replace HO := HO.below hb2; replace hb := chain hb hb2; clear hb2; obtain ⟨v0_, v1_, v2_, v3_, vf, vl⟩ := BV.four; obtain ⟨o0, o1, of_, ol⟩ := BO.two)
          have BRn := BO.set2 (.int .i64 0) (.int .i64 0)
          obtain ⟨u0, u1, uf, ul⟩ := BRn.two
          refine bodyPost_ret (v := .tuple #[.agg #[.int .i64 0, .int .i64 0], .int .i64 2]) (by simp [results, Tryz.results11, go_sem, u0, u1]) rfl ?_
          exact ⟨rfl, belowFar2 hb (by omega) _ _⟩
end Go.Proofs.YtnlclmlnpkncoaaGreat
namespace Go.Proofs.YtnlclmlnpkncoaaGreat
open Go.ChangeShapes Go.WideShapes Go.ChangeAt Go.RowKit
set_option linter.unusedVariables false
set_option linter.unusedSimpArgs false
theorem Src.lt {B g : Nat} {a : Option Addr} {len cap : Nat} {w : World} (h : Src B w g a len cap) : g < w.heap.size := by
  obtain ⟨k, s, hB, _⟩ := h; exact hB.lt
theorem Src.base {B g : Nat} {a : Option Addr} {len cap : Nat} {w : World} (h : Src B w g a len cap) : B ≤ g := by
  obtain ⟨k, s, _, _, _, _, hB, _⟩ := h; exact hB
theorem Src.alloc {B g : Nat} {a : Option Addr} {len cap : Nat} {w : World} (h : Src B w g a len cap) (o : Obj) : Src B (w.alloc o) g a len cap := by
  have hl := h.lt
  obtain ⟨k, s, hB, h1, h2, h3, h4, h5, h6⟩ := h
  exact ⟨k, s, hB.alloc o, h1, h2, h3, h4, h5, h6.below ((Below.refl B w).alloc (by omega) o)⟩
theorem Src.drew {B g : Nat} {a : Option Addr} {len cap : Nat} {w : World} (h : Src B w g a len cap) : Src B w.drew g a len cap := by
  obtain ⟨k, s, hB, h1, h2, h3, h4, h5, h6⟩ := h
  exact ⟨k, s, hB.drew, h1, h2, h3, h4, h5, h6.below (Below.refl B w).drew⟩
theorem Src.below {B g : Nat} {a : Option Addr} {len cap : Nat} {w w' : World} (h : Src B w g a len cap) (hb : Below w.heap.size w w') : Src B w' g a len cap := by
  have hl := h.lt
  obtain ⟨k, s, hB, h1, h2, h3, h4, h5, h6⟩ := h
  exact ⟨k, s, hB.below hb, h1, h2, h3, h4, h5, h6.below (hb.mono (by omega))⟩
theorem grown_new {w w1 : World} {g g' o : Nat} {v : Value} (h : w.grownBy w1 (some g)) (hn : w.heap.size ≤ g') : w.grownBy (w1.setCell ⟨g', o, none⟩ v) (some g) := by
  have hb := Below.setCell (Below.refl g' w1) (p := ⟨g', o, none⟩) (Nat.le_refl _) v
  refine ⟨hb.os.trans h.os, hb.tape.trans h.tape, hb.output.trans h.output, Nat.le_trans h.size hb.size, fun i hi hr => ?_⟩
  rw [Below.heap_setCell w1 ⟨g', o, none⟩ v i (fun e => by simp only at e; omega)]
  exact h.block i hi hr
theorem Src.set {B g g' o : Nat} {a : Option Addr} {len cap : Nat} {w : World} {v : Value} (h : Src B w g a len cap) (hn : g' ≠ g) (hB : B ≤ g') : Src B (w.setCell ⟨g', o, none⟩ v) g a len cap := by
  obtain ⟨k, s, hBk, h1, h2, h3, h4, h5, h6⟩ := h
  refine ⟨k, s, ?_, h1, h2, h3, h4, h5, h6.below ((Below.refl B w).setCell hB v)⟩
  exact (Below.heap_setCell w ⟨g', o, none⟩ v g (fun e => hn e.symm)).trans hBk
def CodeIs (B : Nat) (w : World) (a : Option Addr) (len : Nat) (bs : Nat → Int) : Prop :=
  ∀ i, i < len → ∃ b o, a = some ⟨b, o, none⟩ ∧ b < B ∧ w.cell? ⟨b, o + i, none⟩ = some (.int .u8 (bs i)) ∧ 0 ≤ bs i ∧ bs i ≤ 255
def SrcD (B : Nat) (w : World) (g : Nat) (a : Option Addr) (len cap : Nat) (bs : Nat → Int) (st : Nat × Int) : Prop :=
  Blk w g #[.slice a len cap, .int .i64 st.1, .int .i64 st.2] 103 ∧ st.1 ≤ len ∧ 0 ≤ st.2 ∧ st.2 ≤ 2147483646 ∧ B ≤ g ∧ len ≤ 1048576 ∧ CodeIs B w a len bs
theorem CodeIs.below {B : Nat} {w w' : World} {a : Option Addr} {len : Nat} {bs : Nat → Int} (h : CodeIs B w a len bs) (hb : Below B w w') : CodeIs B w' a len bs := fun i hi => by
  obtain ⟨b, o, e, hl, hc, h1, h2⟩ := h i hi
  exact ⟨b, o, e, hl, by rw [hb.cell (p := ⟨b, o + i, none⟩) hl]; exact hc, h1, h2⟩
theorem CodeIn.is {B : Nat} {w : World} {a : Option Addr} {len : Nat} (h : CodeIn B w a len) : ∃ bs, CodeIs B w a len bs := by
  have h2 : ∀ i, ∃ n : Int, i < len → ∃ b o, a = some ⟨b, o, none⟩ ∧ b < B ∧ w.cell? ⟨b, o + i, none⟩ = some (.int .u8 n) ∧ 0 ≤ n ∧ n ≤ 255 := by
    intro i
    by_cases hi : i < len
    · obtain ⟨b, o, n, h⟩ := h i hi
      exact ⟨n, fun _ => ⟨b, o, h⟩⟩
    · exact ⟨0, fun q => absurd q hi⟩
  obtain ⟨bs, hbs⟩ := Classical.axiomOfChoice h2
  exact ⟨bs, fun i hi => hbs i hi⟩
theorem SrcD.lt {B g : Nat} {a : Option Addr} {len cap : Nat} {bs : Nat → Int} {st : Nat × Int} {w : World} (h : SrcD B w g a len cap bs st) : g < w.heap.size := by
  obtain ⟨hB, _⟩ := h; exact hB.lt
theorem SrcD.base {B g : Nat} {a : Option Addr} {len cap : Nat} {bs : Nat → Int} {st : Nat × Int} {w : World} (h : SrcD B w g a len cap bs st) : B ≤ g := by
  obtain ⟨_, _, _, _, hB, _⟩ := h; exact hB
theorem SrcD.alloc {B g : Nat} {a : Option Addr} {len cap : Nat} {bs : Nat → Int} {st : Nat × Int} {w : World} (h : SrcD B w g a len cap bs st) (o : Obj) : SrcD B (w.alloc o) g a len cap bs st := by
  have hl := h.lt
  obtain ⟨hB, h1, h2, h3, h4, h5, h6⟩ := h
  exact ⟨hB.alloc o, h1, h2, h3, h4, h5, h6.below ((Below.refl B w).alloc (by omega) o)⟩
theorem SrcD.drew {B g : Nat} {a : Option Addr} {len cap : Nat} {bs : Nat → Int} {st : Nat × Int} {w : World} (h : SrcD B w g a len cap bs st) : SrcD B w.drew g a len cap bs st := by
  obtain ⟨hB, h1, h2, h3, h4, h5, h6⟩ := h
  exact ⟨hB.drew, h1, h2, h3, h4, h5, h6.below (Below.refl B w).drew⟩
theorem SrcD.below {B g : Nat} {a : Option Addr} {len cap : Nat} {bs : Nat → Int} {st : Nat × Int} {w w' : World} (h : SrcD B w g a len cap bs st) (hb : Below w.heap.size w w') : SrcD B w' g a len cap bs st := by
  have hl := h.lt
  obtain ⟨hB, h1, h2, h3, h4, h5, h6⟩ := h
  exact ⟨hB.below hb, h1, h2, h3, h4, h5, h6.below (hb.mono (by omega))⟩
theorem SrcD.set {B g g' o : Nat} {a : Option Addr} {len cap : Nat} {bs : Nat → Int} {st : Nat × Int} {w : World} {v : Value} (h : SrcD B w g a len cap bs st) (hn : g' ≠ g) (hB : B ≤ g') : SrcD B (w.setCell ⟨g', o, none⟩ v) g a len cap bs st := by
  obtain ⟨hBk, h1, h2, h3, h4, h5, h6⟩ := h
  refine ⟨?_, h1, h2, h3, h4, h5, h6.below ((Below.refl B w).setCell hB v)⟩
  exact (Below.heap_setCell w ⟨g', o, none⟩ v g (fun e => hn e.symm)).trans hBk
theorem SrcD.keepL {B g base : Nat} {a : Option Addr} {len cap : Nat} {bs : Nat → Int} {st : Nat × Int} {w w' : World} (h : SrcD B w g a len cap bs st) (hg : g < base) (hb : Below base w w') : SrcD B w' g a len cap bs st := by
  obtain ⟨hB, h1, h2, h3, h4, h5, h6⟩ := h
  exact ⟨(hb.block g hg).trans hB, h1, h2, h3, h4, h5, h6.below (hb.mono (by omega))⟩
def nxV (len : Nat) (bs : Nat → Int) (st : Nat × Int) (n : Int) : Int × (Nat × Int) :=
  if n ≤ 1 then (0, st)
  else if st.1 < len then
    (if n ≤ 256 ∧ (st.1 + 1) % 2 = 0 then bs st.1 % n else ((st.2 * 48271 + 17) % 2147483647 / 11 + bs st.1) % n, (st.1 + 1, (st.2 * 48271 + 17) % 2147483647))
  else ((st.2 * 48271 + 17) % 2147483647 / 11 % n, (st.1, (st.2 * 48271 + 17) % 2147483647))
theorem nx_bnd (len : Nat) (bs : Nat → Int) (st : Nat × Int) (n : Int) : 0 ≤ (nxV len bs st n).1 ∧ ((nxV len bs st n).1 < n ∨ (nxV len bs st n).1 = 0) := by
  unfold nxV
  by_cases h : n ≤ 1
  · rw [if_pos h]
    exact ⟨Int.le_refl _, .inr rfl⟩
  · rw [if_neg h]
    have h1 : n ≠ 0 := by omega
    have h2 : 0 < n := by omega
    split
    · dsimp only
      split
      · exact ⟨Int.emod_nonneg _ h1, .inl (Int.emod_lt_of_pos _ h2)⟩
      · exact ⟨Int.emod_nonneg _ h1, .inl (Int.emod_lt_of_pos _ h2)⟩
    · exact ⟨Int.emod_nonneg _ h1, .inl (Int.emod_lt_of_pos _ h2)⟩
def NextD (B g : Nat) (a : Option Addr) (len cap : Nat) (bs : Nat → Int) (q : Int × (Nat × Int)) (w : World) (e : Ending) (w' : World) : Prop :=
  e = .returned (.int .i64 q.1) ∧ SrcD B w' g a len cap bs q.2 ∧ w.grownBy w' (some g)
theorem srcD_step {B g : Nat} {a : Option Addr} {len cap : Nat} {bs : Nat → Int} {w W : World} {k : Nat} {s' : Int} (hB : Blk W g #[.slice a len cap, .int .i64 ((k + 1 : Nat) : Int), .int .i64 s'] 103) (hG : w.grownBy W (some g))
    (hk : k < len) (p0 : 0 ≤ s') (p1 : s' ≤ 2147483646) (hBg : B ≤ g) (cl : g < w.heap.size) (hlen : len ≤ 1048576) (hcode : CodeIs B w a len bs) : SrcD B W g a len cap bs (k + 1, s') :=
  ⟨hB, by show k + 1 ≤ len; omega, p0, p1, hBg, hlen, hcode.below (below_of_grown hG (by omega) hBg)⟩
set_option maxHeartbeats 1000000 in
theorem nextD_any (B g : Nat) (a : Option Addr) (len cap : Nat) (bs : Nat → Int) (st : Nat × Int) (n : Int) (w : World) (hS : SrcD B w g a len cap bs st) (hn : n ≤ 1000000000000) :
    Calls Tryz.prog 54 #[.pointer (some ⟨g, 0, none⟩), .int .i64 n] w (NextD B g a len cap bs (nxV len bs st n) w) := by
  obtain ⟨k, s⟩ := st
  by_cases h1 : n ≤ 1
  · rw [show nxV len bs (k, s) n = (0, (k, s)) by rw [nxV, if_pos h1]]
    go_enter Tryz.func54, Tryz.ntmps54
    go_wp2
    go_ret
    exact ⟨rfl, hS, grown_refl _ _⟩
  · obtain ⟨hB, hk, s0, s1, hBg, hlen, hcode⟩ := hS
    dsimp only at hB hk s0 s1
    obtain ⟨c0, c1, c2, cf, cl⟩ := hB.three
    obtain ⟨s', hs'⟩ : ∃ s' : Int, (s * 48271 + 17) % 2147483647 = s' := ⟨_, rfl⟩
    have p0 : 0 ≤ s' := by omega
    have p1 : s' ≤ 2147483646 := by omega
    by_cases hat : k < len
    · obtain ⟨b, o, rfl, hbB, hz, z0, z1⟩ := hcode k hat
      obtain ⟨z, hzz⟩ : ∃ z, bs k = z := ⟨_, rfl⟩
      rw [hzz] at hz z0 z1
      have hat' : decide ((k : Int) < (len : Int)) = true := by simp; omega
      have hlt' : (k : Int) < (len : Int) := by omega
      have hkk : (0 : Int) ≤ (k : Int) := by omega
      have hne : b ≠ g := by omega
      have hne' : g ≠ b := by omega
      by_cases h256 : n ≤ 256
      · have f1 : decide (n ≤ 256) = true := by simp; omega
        by_cases hev : (k + 1) % 2 = 0
        · have f2 : (((k : Int) + 1) % 2 == 0) = true := by rw [beq_iff_eq]; omega
          rw [show nxV len bs (k, s) n = (z % n, (k + 1, s')) by rw [nxV, if_neg h1, if_pos hat, if_pos ⟨h256, hev⟩]; dsimp only; rw [hzz, hs']]
          go_enter Tryz.func54, Tryz.ntmps54
          go_wp2_with fail
          go_quiet (fail)
          go_wp2_with fail
          go_quiet (fail)
          go_wp2_with fail
          go_quiet (fail)
          go_wp2
          go_ret
          refine ⟨rfl, srcD_step ((blk_step hB _).drewN _) (grown_drewN (grown_set (grown_drewN (grown_set (grown_refl w _)) _)) _) hat p0 p1 hBg cl hlen hcode, grown_drewN (grown_set (grown_drewN (grown_set (grown_refl w _)) _)) _⟩
        · have f2 : (((k : Int) + 1) % 2 == 0) = false := by rw [beq_eq_false_iff_ne]; omega
          rw [show nxV len bs (k, s) n = ((s' / 11 + z) % n, (k + 1, s')) by rw [nxV, if_neg h1, if_pos hat, if_neg (fun q => hev q.2)]; dsimp only; rw [hzz, hs']]
          go_enter Tryz.func54, Tryz.ntmps54
          go_wp2_with fail
          go_quiet (fail)
          go_wp2_with fail
          go_quiet (fail)
          go_wp2
          go_ret
          refine ⟨rfl, srcD_step (blk_step hB _) (grown_set (grown_drewN (grown_set (grown_refl w _)) _)) hat p0 p1 hBg cl hlen hcode, grown_set (grown_drewN (grown_set (grown_refl w _)) _)⟩
      · have f1 : decide (n ≤ 256) = false := by simp; omega
        rw [show nxV len bs (k, s) n = ((s' / 11 + z) % n, (k + 1, s')) by rw [nxV, if_neg h1, if_pos hat, if_neg (fun q => h256 q.1)]; dsimp only; rw [hzz, hs']]
        go_enter Tryz.func54, Tryz.ntmps54
        go_wp2_with fail
        go_quiet (fail)
        go_wp2_with fail
        go_quiet (fail)
        go_wp2
        go_ret
        refine ⟨rfl, srcD_step (blk_step hB _) (grown_set (grown_drewN (grown_set (grown_refl w _)) _)) hat p0 p1 hBg cl hlen hcode, grown_set (grown_drewN (grown_set (grown_refl w _)) _)⟩
    · have hat' : decide ((k : Int) < (len : Int)) = false := by simp; omega
      have hlt' : (len : Int) ≤ (k : Int) := by omega
      rw [show nxV len bs (k, s) n = (s' / 11 % n, (k, s')) by rw [nxV, if_neg h1, if_neg hat]; dsimp only; rw [hs']]
      go_enter Tryz.func54, Tryz.ntmps54
      go_wp2_with fail
      go_quiet (fail)
      go_wp2
      go_ret
      have hG : w.grownBy ((w.setCell ⟨g, 2, none⟩ (.int .i64 s')).drewN nq) (some g) := grown_drewN (grown_set (grown_refl w _)) nq
      refine ⟨rfl, ⟨?_, hk, p0, p1, hBg, hlen, hcode.below (below_of_grown hG (by omega) hBg)⟩, hG⟩
      simpa using (hB.set (i := 2) (.int .i64 s')).drewN nq
def frV (bs : Nat → Int) : Nat → Int
  | 0 => 24157
  | k + 1 => (frV bs k * 43 + bs k) % 2147483647
def frS (len : Nat) (bs : Nat → Int) : Nat × Int := (0, frV bs (min len 64))
def FromD (B : Nat) (a : Option Addr) (len cap : Nat) (bs : Nat → Int) (w : World) (e : Ending) (w' : World) : Prop :=
  ∃ g, e = .returned (.pointer (some ⟨g, 0, none⟩)) ∧ w.heap.size ≤ g ∧ SrcD B w' g a len cap bs (frS len bs) ∧ Below w.heap.size w w'
def fromDAt (B : Nat) (a : Option Addr) (len cap : Nat) (bs : Nat → Int) (w : World) (m : Nat) (i : Value) (wr : World) : Prop :=
  ∃ (k : Nat) (s : Int), k ≤ len ∧ k ≤ 64 ∧ frV bs k = s ∧ m = len - k ∧ i = .int .i64 k ∧ Blk wr w.heap.size #[.slice a len cap, .int .i64 0, .int .i64 s] 103 ∧ 0 ≤ s ∧ s ≤ 2147483646 ∧ Below w.heap.size w wr
set_option maxHeartbeats 1000000 in
theorem fromD_any (B : Nat) (a : Option Addr) (len cap : Nat) (bs : Nat → Int) (w : World) (hB : B ≤ w.heap.size) (hlen : len ≤ 1048576) (hcode : CodeIs B w a len bs) :
    Calls Tryz.prog 21 #[.slice a len cap] w (FromD B a len cap bs w) := by
  go_enter Tryz.func21, Tryz.ntmps21
  go_wp2
  go_loopg [4] len (fun m i wr => fromDAt B a len cap bs w m i wr)
  case atStart => exact ⟨0, 24157, by omega, by omega, rfl, by omega, rfl, Blk.new w _ _, by omega, by omega, (Below.refl _ _).alloc (Nat.le_refl _) _⟩
  case round =>
    obtain ⟨k, s, hk, hk64, hfr, hm, rfl, hS, s0, s1, hb⟩ := hrel
    obtain ⟨c0, c1, c2, cf, cl⟩ := hS.three
    have hc1 := hcode.below (hb.mono hB)
    obtain ⟨s', hs'⟩ : ∃ s' : Int, s' = s := ⟨_, rfl⟩
    by_cases hlt : k < len
    · have f1 : decide ((k : Int) < (len : Int)) = true := by simp; omega
      have hlt' : (k : Int) < (len : Int) := by omega
      have hkk : (0 : Int) ≤ (k : Int) := by omega
      by_cases h64 : k < 64
      · have f2 : decide ((k : Int) < 64) = true := by simp; omega
        obtain ⟨b, o, rfl, hbB, hz, z0, z1⟩ := hc1 k hlt
        obtain ⟨z, hzz⟩ : ∃ z, bs k = z := ⟨_, rfl⟩
        rw [hzz] at hz z0 z1
        clear hs' hc1
        go_wp2_with fail
        go_region
        go_wp2
        go_roundg (len - (k + 1))
        case measure => omega
        case rel => exact ⟨k + 1, (s * 43 + z) % 2147483647, by omega, by omega, by rw [frV, hfr, hzz], rfl, by go_num, (by simpa using (hS.set (i := 2) (.int .i64 ((s * 43 + z) % 2147483647))).drew), by omega, by omega, (hb.setCell (Nat.le_refl _) _).drew⟩
      · have f2 : decide ((k : Int) < 64) = false := by simp; omega
        clear hs' hc1
        go_wp2
        go_ret
        have hst : frS len bs = (0, s) := by rw [frS, show min len 64 = k by omega, hfr]
        exact ⟨w.heap.size, rfl, Nat.le_refl _, by rw [hst]; exact ⟨hS, Nat.zero_le _, s0, s1, hB, hlen, hcode.below (hb.mono hB)⟩, hb⟩
    · have f1 : decide ((k : Int) < (len : Int)) = false := by simp; omega
      clear hs' hc1
      go_wp2
      go_ret
      have hst : frS len bs = (0, s) := by rw [frS, show min len 64 = k by omega, hfr]
      exact ⟨w.heap.size, rfl, Nat.le_refl _, by rw [hst]; exact ⟨hS, Nat.zero_le _, s0, s1, hB, hlen, hcode.below (hb.mono hB)⟩, hb⟩
end Go.Proofs.YtnlclmlnpkncoaaGreat
