/- Contract of the model's MeanExact. -/
import Derived.Test.Ytgifkopgnpdkiaa09zc
import Derived.Test.Ytgifkopgnpdkiaa09za
namespace Go.Proofs.Ytgifkopgnpdkiaa
open Go.ChangeShapes Go.WideShapes Go.ChangeAt Go.RowKit
set_option linter.unusedVariables false
set_option linter.unusedSimpArgs false

set_option maxRecDepth 8000 in
set_option maxHeartbeats 1000000 in
theorem specMeanExact_any (p c h s : Int) (va : Option Addr) (kv : Nat) (X : List Rl) (w : World) (hXl : X.length ≤ 1048576) (HO : OX w va X) (hr : ∀ r ∈ X, -9223372036854775808 ≤ r.2 ∧ r.2 ≤ 9223372036854775807) :
    Calls Try.prog 29 #[.agg #[.int .i64 p, .int .i64 c, .int .i64 h, .int .i64 s], .slice va X.length kv] w fun e w' => e = .returned (xoV (mnV p c h s X)) ∧ Below w.heap.size w w' := by
  have hva := fun W => specIsVariant_any p c h s W
  obtain ⟨BV, BO, hb, hz⟩ := two_new w #[.int .i64 p, .int .i64 c, .int .i64 h, .int .i64 s] #[.int .i64 0, .int .i64 0] 27 29
  replace HO := HO.below hb
  obtain ⟨⟨r1, r2, r3⟩, hv⟩ : ∃ r, mnV p c h s X = r := ⟨_, rfl⟩
  rw [hv]
  dsimp only [xoV]
  cases g : vB p c h s with
  | false =>
    have e1 : sfC p c h s X = 1 := sfC_no g
    unfold mnV at hv
    rw [e1, if_neg (by decide)] at hv
    simp only [Prod.mk.injEq] at hv
    obtain ⟨rfl, rfl, rfl⟩ := hv
    rw [g] at hva
    have HVA := Lib.hid hva
    clear hva g e1 hr
    obtain ⟨v0_, v1_, v2_, v3_, vf, vl⟩ := BV.four
    obtain ⟨o0, o1, of_, ol⟩ := BO.two
    go_enter Try.func29, Try.ntmps29
    go_wp2_with (go_at_call 37; refine (HVA.out _).mono ?_; clear HVA; rintro e w1 ⟨rfl, hb1⟩; replace BV := BV.below hb1; replace BO := BO.below hb1; replace HO := HO.below hb1; replace hb := chain hb hb1; clear hb1; obtain ⟨v0_, v1_, v2_, v3_, vf, vl⟩ := BV.four; obtain ⟨o0, o1, of_, ol⟩ := BO.two)
    have BRn := BO.set2 (.int .i64 0) (.int .i64 0)
    obtain ⟨u0, u1, uf, ul⟩ := BRn.two
    refine bodyPost_ret (v := .tuple #[.agg #[.int .i64 0, .int .i64 0], .int .i64 1]) (by simp [results, Try.results29, go_sem, u0, u1]) rfl ?_
    exact ⟨rfl, belowFar2 hb (by omega) _ _⟩
  | true =>
    obtain ⟨S, rfl, hS⟩ := vB_side g
    have hn := nn_range hS
    rw [g] at hva
    have HVA := Lib.hid hva
    have HR := Lib.hid hr
    have HG := Lib.hid g
    have HV := Lib.hid hv
    clear hva g hr hv
    obtain ⟨v0_, v1_, v2_, v3_, vf, vl⟩ := BV.four
    obtain ⟨o0, o1, of_, ol⟩ := BO.two
    go_enter Try.func29, Try.ntmps29
    go_wp2_with (go_at_call 37; refine (HVA.out _).mono ?_; clear HVA; rintro e w1 ⟨rfl, hb1⟩; replace BV := BV.below hb1; replace BO := BO.below hb1; replace HO := HO.below hb1; replace hb := chain hb hb1; clear hb1; obtain ⟨v0_, v1_, v2_, v3_, vf, vl⟩ := BV.four; obtain ⟨o0, o1, of_, ol⟩ := BO.two)
    clear v0_ v1_ v2_ v3_ vf vl o0 o1 of_ ol
    go_loopg [6] X.length (fun n i wr => ∃ j : Nat, j ≤ X.length ∧ n = X.length - j ∧ i = .int .i64 (j : Int) ∧ Hid (∀ x ∈ X.take j, xvB S x.1 x.2 = true) ∧ OX wr va X ∧ Blk wr w.heap.size #[.int .i64 p, .int .i64 c, .int .i64 h, .int .i64 (S : Int)] 27 ∧ Blk wr (w.heap.size + 1) #[.int .i64 0, .int .i64 0] 29 ∧ Below w.heap.size w wr)
    case atStart => exact ⟨0, by omega, by omega, rfl, Lib.hid (by simp), HO, BV, BO, hb⟩
    case round =>
      clear HO BV BO hb
      obtain ⟨j, hj, hm, rfl, HA, HO, BV, BO, hb⟩ := hrel
      by_cases hlt : j < X.length
      · have hlt' : (j : Int) < (X.length : Int) := by omega
        have hk0 : (0 : Int) ≤ (j : Int) := by omega
        obtain ⟨ga, rfl, RX⟩ := HO.row hlt
        obtain ⟨⟨xn, xd⟩, hs⟩ : ∃ s, X[j]? = some s := ⟨_, List.getElem?_eq_getElem hlt⟩
        have hmem : (xn, xd) ∈ X := List.mem_of_getElem? hs
        have hlv := fun W => l09Valid_any p c h S hS xn xd (HR.out _ hmem).2 W
        have HS1 := Lib.hid hs
        have hall := HA.out
        clear HO
        cases gx : xvB S xn xd with
        | false =>
          have e2 : sfC p c h (S : Int) X = 2 := by
            unfold sfC
            rw [if_pos HG.out, if_neg]
            intro q
            have := List.all_eq_true.1 q _ hmem
            rw [Int.toNat_natCast] at this
            dsimp only at this
            rw [gx] at this
            cases this
          have hv := HV.out
          unfold mnV at hv
          rw [e2, if_neg (by decide)] at hv
          simp only [Prod.mk.injEq] at hv
          obtain ⟨rfl, rfl, rfl⟩ := hv
          rw [gx] at hlv
          have HLV := Lib.hid hlv
          clear hlv gx e2 hs hmem hall
          obtain ⟨v0_, v1_, v2_, v3_, vf, vl⟩ := BV.four
          obtain ⟨o0, o1, of_, ol⟩ := BO.two
          go_wp2_with fail
          clear v0_ v1_ v2_ v3_ vf vl o0 o1 of_ ol
          refine wp_region_held_drew (S := fun w' => w'.cell? ⟨ga, j * 2, none⟩ = some (.int .i64 xn) ∧ w'.cell? ⟨ga, j * 2 + 1, none⟩ = some (.int .i64 xd) ∧ w'.cell? ⟨w.heap.size, 0, none⟩ = some (.int .i64 p) ∧ w'.cell? ⟨w.heap.size, 1, none⟩ = some (.int .i64 c) ∧ w'.cell? ⟨w.heap.size, 2, none⟩ = some (.int .i64 h) ∧ w'.cell? ⟨w.heap.size, 3, none⟩ = some (.int .i64 (S : Int))) (by kernel_rfl) ⟨(XRow.two RX.drew j _ HS1.out).1, (XRow.two RX.drew j _ HS1.out).2, BV.drew.four.1, BV.drew.four.2.1, BV.drew.four.2.2.1, BV.drew.four.2.2.2.1⟩ (fun hHeld => ?_)
          clear hHeld
          replace BV := BV.drew
          replace BO := BO.drew
          replace RX := RX.drew
          replace hb := hb.drew
          generalize wr.drew = vd at *
          have hHeld : vd.cell? ⟨ga, j * 2, none⟩ = some (.int .i64 xn) ∧ vd.cell? ⟨ga, j * 2 + 1, none⟩ = some (.int .i64 xd) ∧ vd.cell? ⟨w.heap.size, 0, none⟩ = some (.int .i64 p) ∧ vd.cell? ⟨w.heap.size, 1, none⟩ = some (.int .i64 c) ∧ vd.cell? ⟨w.heap.size, 2, none⟩ = some (.int .i64 h) ∧ vd.cell? ⟨w.heap.size, 3, none⟩ = some (.int .i64 (S : Int)) := ⟨(XRow.two RX j _ HS1.out).1, (XRow.two RX j _ HS1.out).2, BV.four.1, BV.four.2.1, BV.four.2.2.1, BV.four.2.2.2.1⟩
          refine wpAnyH_take (i := 0) (oi := { dst := some 19, op := _, type := _, pos := _, after := _, guard := _ }) (v := ?_) rfl (by kernel_rfl) (by kernel_rfl) (by kernel_rfl) (fun _ _ _ h => h) (Or.inl ⟨by rfl, ?_⟩) (by assumption) ?_
          rotate_left
          · intro w hSw
            (try dsimp only at hSw)
            go_simp
            (try (with_reducible rfl))
          try simp only [Act.put, List.setIfInBounds_toArray, List.set_cons_zero, List.set_cons_succ]
          refine wpAnyH_take (i := 1) (oi := { dst := some 20, op := _, type := _, pos := _, after := _, guard := _ }) (v := ?_) rfl (by kernel_rfl) (by kernel_rfl) (by kernel_rfl) (fun _ _ _ h => h) (Or.inl ⟨by rfl, ?_⟩) (by assumption) ?_
          rotate_left
          · intro w hSw
            (try dsimp only at hSw)
            go_simp
            (try (with_reducible rfl))
          try simp only [Act.put, List.setIfInBounds_toArray, List.set_cons_zero, List.set_cons_succ]
          refine wpAnyH_take (i := 2) (oi := { dst := some 21, op := _, type := _, pos := _, after := _, guard := _ }) (v := ?_) rfl (by kernel_rfl) (by kernel_rfl) (by kernel_rfl) (fun _ _ _ h => h) (Or.inl ⟨by rfl, ?_⟩) (by assumption) ?_
          rotate_left
          · intro w hSw
            (try dsimp only at hSw)
            go_simp
            (try (with_reducible rfl))
          try simp only [Act.put, List.setIfInBounds_toArray, List.set_cons_zero, List.set_cons_succ]
          refine wpAnyH_take (i := 3) (oi := { dst := some 22, op := _, type := _, pos := _, after := _, guard := _ }) (v := ?_) rfl (by kernel_rfl) (by kernel_rfl) (by kernel_rfl) (fun _ _ _ h => h) (Or.inl ⟨by rfl, ?_⟩) (by assumption) ?_
          rotate_left
          · intro w hSw
            (try dsimp only at hSw)
            go_simp
            (try (with_reducible rfl))
          try simp only [Act.put, List.setIfInBounds_toArray, List.set_cons_zero, List.set_cons_succ]
          refine wpAnyH_take (i := 4) (oi := { dst := some 23, op := _, type := _, pos := _, after := _, guard := _ }) (v := ?_) rfl (by kernel_rfl) (by kernel_rfl) (by kernel_rfl) (fun _ _ _ h => h) (Or.inl ⟨by rfl, ?_⟩) (by assumption) ?_
          rotate_left
          · intro w hSw
            (try dsimp only at hSw)
            go_simp
            (try (with_reducible rfl))
          try simp only [Act.put, List.setIfInBounds_toArray, List.set_cons_zero, List.set_cons_succ]
          refine wpAnyH_ready (rs := [5]) (by kernel_rfl) (by simp) ?_
          refine AllReadyH.cons (o := { dst := some 24, op := _, type := _, pos := _, after := _, guard := _ }) rfl (fun K hK => ?_) AllReadyH.nil
          go_simp
          refine (HLV.out _).mono ?_
          rintro e w5 ⟨rfl, hb5⟩
          replace BV := BV.below hb5
          replace BO := BO.below hb5
          replace RX := RX.below hb5
          replace hb := chain hb hb5
          clear hb5
          (try go_wp2_with fail)
          refine hK.out _ _ ⟨(XRow.two RX j _ HS1.out).1, (XRow.two RX j _ HS1.out).2, BV.four.1, BV.four.2.1, BV.four.2.2.1, BV.four.2.2.2.1⟩ (fun hHeld => ?_)
          clear hK K
          try simp only [Act.put, List.setIfInBounds_toArray, List.set_cons_zero, List.set_cons_succ]
          refine wpAnyH_take (i := 6) (oi := { dst := some 25, op := _, type := _, pos := _, after := _, guard := _ }) (v := ?_) rfl (by kernel_rfl) (by kernel_rfl) (by kernel_rfl) (fun _ _ _ h => h) (Or.inl ⟨by rfl, ?_⟩) (by assumption) ?_
          rotate_left
          · intro w hSw
            (try dsimp only at hSw)
            go_simp
            (try (with_reducible rfl))
          try simp only [Act.put, List.setIfInBounds_toArray, List.set_cons_zero, List.set_cons_succ]
          refine wpAnyH_done (by kernel_rfl) ?_ _
          clear hHeld
          obtain ⟨v0_, v1_, v2_, v3_, vf, vl⟩ := BV.four
          obtain ⟨o0, o1, of_, ol⟩ := BO.two
          go_wp2_with fail
          have BRn := BO.set2 (.int .i64 0) (.int .i64 0)
          obtain ⟨u0, u1, uf, ul⟩ := BRn.two
          refine bodyPost_ret (v := .tuple #[.agg #[.int .i64 0, .int .i64 0], .int .i64 2]) (by simp [results, Try.results29, go_sem, u0, u1]) rfl ?_
          exact ⟨rfl, belowFar2 hb (by omega) _ _⟩
        | true =>
          have htk : ∀ x ∈ X.take (j + 1), xvB S x.1 x.2 = true := by
            intro x hx
            rw [List.take_add_one, hs, List.mem_append] at hx
            rcases hx with hx | hx
            · exact hall x hx
            · simp at hx
              subst hx
              exact gx
          have HT := Lib.hid htk
          rw [gx] at hlv
          have HLV := Lib.hid hlv
          clear hlv gx hs hmem hall htk
          obtain ⟨v0_, v1_, v2_, v3_, vf, vl⟩ := BV.four
          obtain ⟨o0, o1, of_, ol⟩ := BO.two
          go_wp2_with fail
          clear v0_ v1_ v2_ v3_ vf vl o0 o1 of_ ol
          refine wp_region_held_drew (S := fun w' => w'.cell? ⟨ga, j * 2, none⟩ = some (.int .i64 xn) ∧ w'.cell? ⟨ga, j * 2 + 1, none⟩ = some (.int .i64 xd) ∧ w'.cell? ⟨w.heap.size, 0, none⟩ = some (.int .i64 p) ∧ w'.cell? ⟨w.heap.size, 1, none⟩ = some (.int .i64 c) ∧ w'.cell? ⟨w.heap.size, 2, none⟩ = some (.int .i64 h) ∧ w'.cell? ⟨w.heap.size, 3, none⟩ = some (.int .i64 (S : Int))) (by kernel_rfl) ⟨(XRow.two RX.drew j _ HS1.out).1, (XRow.two RX.drew j _ HS1.out).2, BV.drew.four.1, BV.drew.four.2.1, BV.drew.four.2.2.1, BV.drew.four.2.2.2.1⟩ (fun hHeld => ?_)
          clear hHeld
          replace BV := BV.drew
          replace BO := BO.drew
          replace RX := RX.drew
          replace hb := hb.drew
          generalize wr.drew = vd at *
          have hHeld : vd.cell? ⟨ga, j * 2, none⟩ = some (.int .i64 xn) ∧ vd.cell? ⟨ga, j * 2 + 1, none⟩ = some (.int .i64 xd) ∧ vd.cell? ⟨w.heap.size, 0, none⟩ = some (.int .i64 p) ∧ vd.cell? ⟨w.heap.size, 1, none⟩ = some (.int .i64 c) ∧ vd.cell? ⟨w.heap.size, 2, none⟩ = some (.int .i64 h) ∧ vd.cell? ⟨w.heap.size, 3, none⟩ = some (.int .i64 (S : Int)) := ⟨(XRow.two RX j _ HS1.out).1, (XRow.two RX j _ HS1.out).2, BV.four.1, BV.four.2.1, BV.four.2.2.1, BV.four.2.2.2.1⟩
          refine wpAnyH_take (i := 0) (oi := { dst := some 19, op := _, type := _, pos := _, after := _, guard := _ }) (v := ?_) rfl (by kernel_rfl) (by kernel_rfl) (by kernel_rfl) (fun _ _ _ h => h) (Or.inl ⟨by rfl, ?_⟩) (by assumption) ?_
          rotate_left
          · intro w hSw
            (try dsimp only at hSw)
            go_simp
            (try (with_reducible rfl))
          try simp only [Act.put, List.setIfInBounds_toArray, List.set_cons_zero, List.set_cons_succ]
          refine wpAnyH_take (i := 1) (oi := { dst := some 20, op := _, type := _, pos := _, after := _, guard := _ }) (v := ?_) rfl (by kernel_rfl) (by kernel_rfl) (by kernel_rfl) (fun _ _ _ h => h) (Or.inl ⟨by rfl, ?_⟩) (by assumption) ?_
          rotate_left
          · intro w hSw
            (try dsimp only at hSw)
            go_simp
            (try (with_reducible rfl))
          try simp only [Act.put, List.setIfInBounds_toArray, List.set_cons_zero, List.set_cons_succ]
          refine wpAnyH_take (i := 2) (oi := { dst := some 21, op := _, type := _, pos := _, after := _, guard := _ }) (v := ?_) rfl (by kernel_rfl) (by kernel_rfl) (by kernel_rfl) (fun _ _ _ h => h) (Or.inl ⟨by rfl, ?_⟩) (by assumption) ?_
          rotate_left
          · intro w hSw
            (try dsimp only at hSw)
            go_simp
            (try (with_reducible rfl))
          try simp only [Act.put, List.setIfInBounds_toArray, List.set_cons_zero, List.set_cons_succ]
          refine wpAnyH_take (i := 3) (oi := { dst := some 22, op := _, type := _, pos := _, after := _, guard := _ }) (v := ?_) rfl (by kernel_rfl) (by kernel_rfl) (by kernel_rfl) (fun _ _ _ h => h) (Or.inl ⟨by rfl, ?_⟩) (by assumption) ?_
          rotate_left
          · intro w hSw
            (try dsimp only at hSw)
            go_simp
            (try (with_reducible rfl))
          try simp only [Act.put, List.setIfInBounds_toArray, List.set_cons_zero, List.set_cons_succ]
          refine wpAnyH_take (i := 4) (oi := { dst := some 23, op := _, type := _, pos := _, after := _, guard := _ }) (v := ?_) rfl (by kernel_rfl) (by kernel_rfl) (by kernel_rfl) (fun _ _ _ h => h) (Or.inl ⟨by rfl, ?_⟩) (by assumption) ?_
          rotate_left
          · intro w hSw
            (try dsimp only at hSw)
            go_simp
            (try (with_reducible rfl))
          try simp only [Act.put, List.setIfInBounds_toArray, List.set_cons_zero, List.set_cons_succ]
          refine wpAnyH_ready (rs := [5]) (by kernel_rfl) (by simp) ?_
          refine AllReadyH.cons (o := { dst := some 24, op := _, type := _, pos := _, after := _, guard := _ }) rfl (fun K hK => ?_) AllReadyH.nil
          go_simp
          refine (HLV.out _).mono ?_
          rintro e w5 ⟨rfl, hb5⟩
          replace BV := BV.below hb5
          replace BO := BO.below hb5
          replace RX := RX.below hb5
          replace hb := chain hb hb5
          clear hb5
          (try go_wp2_with fail)
          refine hK.out _ _ ⟨(XRow.two RX j _ HS1.out).1, (XRow.two RX j _ HS1.out).2, BV.four.1, BV.four.2.1, BV.four.2.2.1, BV.four.2.2.2.1⟩ (fun hHeld => ?_)
          clear hK K
          try simp only [Act.put, List.setIfInBounds_toArray, List.set_cons_zero, List.set_cons_succ]
          refine wpAnyH_take (i := 6) (oi := { dst := some 25, op := _, type := _, pos := _, after := _, guard := _ }) (v := ?_) rfl (by kernel_rfl) (by kernel_rfl) (by kernel_rfl) (fun _ _ _ h => h) (Or.inl ⟨by rfl, ?_⟩) (by assumption) ?_
          rotate_left
          · intro w hSw
            (try dsimp only at hSw)
            go_simp
            (try (with_reducible rfl))
          try simp only [Act.put, List.setIfInBounds_toArray, List.set_cons_zero, List.set_cons_succ]
          refine wpAnyH_done (by kernel_rfl) ?_ _
          clear hHeld
          obtain ⟨v0_, v1_, v2_, v3_, vf, vl⟩ := BV.four
          obtain ⟨o0, o1, of_, ol⟩ := BO.two
          go_wp2_with fail
          go_roundg (X.length - (j + 1))
          case measure => omega
          case rel => exact ⟨j + 1, by omega, rfl, by go_num, HT, .inr ⟨ga, rfl, RX⟩, BV, BO, hb⟩
      · obtain rfl : j = X.length := by omega
        have hall : ∀ x ∈ X, xvB S x.1 x.2 = true := fun x hx => HA.out x (by rw [List.take_length]; exact hx)
        have e0 : sfC p c h (S : Int) X = 0 := by
          unfold sfC
          rw [if_pos HG.out, if_pos]
          rw [List.all_eq_true]
          intro x hx
          rw [Int.toNat_natCast]
          exact hall x hx
        have hv := HV.out
        unfold mnV at hv
        rw [e0, if_pos rfl, Int.toNat_natCast] at hv
        have hro := fun W => l09Rolls_any p c h S W (by omega)
        by_cases hl : X.length = (rollsTo S).length
        · rw [if_pos hl] at hv
          have hme := fun W => l09Mean_any p c h S hS va kv X hl hall W
          obtain ⟨RL, hRL⟩ : ∃ RL, rollsTo S = RL := ⟨_, rfl⟩
          rw [hRL] at hro hv hme hl
          have hl2 : (RL.length : Int) = (X.length : Int) := by omega
          have hro2 : ∀ W : World, Calls Try.prog 55 #[.agg #[.int .i64 p, .int .i64 c, .int .i64 h, .int .i64 (S : Int)]] W fun e w' => ∃ ra kr, e = .returned (.slice ra X.length kr) ∧ Below W.heap.size W w' := fun W => (hro W).mono (by rintro e w' ⟨ra, kr, rfl, -, hbq⟩; rw [← hl]; exact ⟨ra, kr, rfl, hbq⟩)
          have HRO := Lib.hid hro2
          obtain ⟨M, hM⟩ : ∃ M, mnX S (RL.zip X) = M := ⟨_, rfl⟩
          rw [hM] at hv hme
          clear hro hro2 hl hl2 hRL hM e0 hall
          cases M with
          | none =>
            simp only [xo3, Prod.mk.injEq] at hv
            obtain ⟨rfl, rfl, rfl⟩ := hv
            dsimp only [xoN, xoD, Option.isSome] at hme
            obtain ⟨s1, hs1⟩ : ∃ r : Int, (0 : Int) = r := ⟨_, rfl⟩
            obtain ⟨s2, hs2⟩ : ∃ r : Int, (0 : Int) = r := ⟨_, rfl⟩
            have hme2 : ∀ W : World, OX W va X → Calls Try.prog 56 #[.agg #[.int .i64 p, .int .i64 c, .int .i64 h, .int .i64 (S : Int)], .slice va X.length kv] W fun e w' => e = .returned (.tuple #[.agg #[.int .i64 s1, .int .i64 s2], .bool false]) ∧ Below W.heap.size W w' := fun W q => by rw [← hs1, ← hs2]; exact hme W q
            have HME := Lib.hid hme2
            clear hme hme2 hs1 hs2
            obtain ⟨v0_, v1_, v2_, v3_, vf, vl⟩ := BV.four
            obtain ⟨o0, o1, of_, ol⟩ := BO.two
            go_wp2_with (first | (go_at_call 55; refine (HRO.out _).mono ?_; clear HRO; rintro e w2 ⟨ra, kr, rfl, hb2⟩; replace BV := BV.below hb2; replace BO := BO.below hb2; replace HO := HO.below hb2; replace hb := chain hb hb2; clear hb2; obtain ⟨v0_, v1_, v2_, v3_, vf, vl⟩ := BV.four; obtain ⟨o0, o1, of_, ol⟩ := BO.two) | (go_at_call 56; refine (HME.out _ HO).mono ?_; clear HME; rintro e w3 ⟨rfl, hb3⟩; have BS := Blk.new w3 #[.int .i64 s1, .int .i64 s2] 29; replace BO := (BO.below hb3).alloc (.cells #[.int .i64 s1, .int .i64 s2] 29); replace hb := chain_alloc (chain hb hb3) (.cells #[.int .i64 s1, .int .i64 s2] 29); clear hb3 BV HO; obtain ⟨s0_, s1_, sf, sl⟩ := BS.two; obtain ⟨o0, o1, of_, ol⟩ := BO.two))
            have BRn := BO.set2 (.int .i64 0) (.int .i64 0)
            obtain ⟨u0, u1, uf, ul⟩ := BRn.two
            refine bodyPost_ret (v := .tuple #[.agg #[.int .i64 0, .int .i64 0], .int .i64 3]) (by simp [results, Try.results29, go_sem, u0, u1]) rfl ?_
            exact ⟨rfl, belowFar2 hb (by omega) _ _⟩
          | some z =>
            obtain ⟨s1, s2⟩ := z
            simp only [xo3, Prod.mk.injEq] at hv
            obtain ⟨rfl, rfl, rfl⟩ := hv
            dsimp only [xoN, xoD, Option.isSome] at hme
            have HME := Lib.hid hme
            clear hme
            obtain ⟨v0_, v1_, v2_, v3_, vf, vl⟩ := BV.four
            obtain ⟨o0, o1, of_, ol⟩ := BO.two
            go_wp2_with (first | (go_at_call 55; refine (HRO.out _).mono ?_; clear HRO; rintro e w2 ⟨ra, kr, rfl, hb2⟩; replace BV := BV.below hb2; replace BO := BO.below hb2; replace HO := HO.below hb2; replace hb := chain hb hb2; clear hb2; obtain ⟨v0_, v1_, v2_, v3_, vf, vl⟩ := BV.four; obtain ⟨o0, o1, of_, ol⟩ := BO.two) | (go_at_call 56; refine (HME.out _ HO).mono ?_; clear HME; rintro e w3 ⟨rfl, hb3⟩; have BS := Blk.new w3 #[.int .i64 s1, .int .i64 s2] 29; replace BO := (BO.below hb3).alloc (.cells #[.int .i64 s1, .int .i64 s2] 29); replace hb := chain_alloc (chain hb hb3) (.cells #[.int .i64 s1, .int .i64 s2] 29); clear hb3 BV HO; obtain ⟨s0_, s1_, sf, sl⟩ := BS.two; obtain ⟨o0, o1, of_, ol⟩ := BO.two))
            have BRn := BO.set2 (.int .i64 s1) (.int .i64 s2)
            obtain ⟨u0, u1, uf, ul⟩ := BRn.two
            refine bodyPost_ret (v := .tuple #[.agg #[.int .i64 s1, .int .i64 s2], .int .i64 0]) (by simp [results, Try.results29, go_sem, u0, u1]) rfl ?_
            exact ⟨rfl, belowFar2 hb (by omega) _ _⟩
        · rw [if_neg hl] at hv
          simp only [Prod.mk.injEq] at hv
          obtain ⟨rfl, rfl, rfl⟩ := hv
          obtain ⟨RL, hRL⟩ : ∃ RL, rollsTo S = RL := ⟨_, rfl⟩
          rw [hRL] at hro hl
          have f0 : ((X.length : Int) == (RL.length : Int)) = false := by rw [beq_eq_false_iff_ne]; omega
          have f1 : ((RL.length : Int) == (X.length : Int)) = false := by rw [beq_eq_false_iff_ne]; omega
          have hl2 : ¬ (X.length : Int) = (RL.length : Int) := by omega
          have HRO := Lib.hid hro
          clear hro hRL e0 hall
          obtain ⟨v0_, v1_, v2_, v3_, vf, vl⟩ := BV.four
          obtain ⟨o0, o1, of_, ol⟩ := BO.two
          go_wp2_with (go_at_call 55; refine (HRO.out _).mono ?_; clear HRO; rintro e w2 ⟨ra, kr, rfl, -, hb2⟩; replace BV := BV.below hb2; replace BO := BO.below hb2; replace HO := HO.below hb2; replace hb := chain hb hb2; clear hb2; obtain ⟨v0_, v1_, v2_, v3_, vf, vl⟩ := BV.four; obtain ⟨o0, o1, of_, ol⟩ := BO.two)
          have BRn := BO.set2 (.int .i64 0) (.int .i64 0)
          obtain ⟨u0, u1, uf, ul⟩ := BRn.two
          refine bodyPost_ret (v := .tuple #[.agg #[.int .i64 0, .int .i64 0], .int .i64 2]) (by simp [results, Try.results29, go_sem, u0, u1]) rfl ?_
          exact ⟨rfl, belowFar2 hb (by omega) _ _⟩
end Go.Proofs.Ytgifkopgnpdkiaa
