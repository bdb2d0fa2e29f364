/- Contracts of chapter 10: NextBearoff, of the program and of its model. -/
import Derived.Test.Ythnkckflajkaiaa10i
namespace Go.Proofs.Ythnkckflajkaiaa
open Go.ChangeShapes Go.WideShapes Go.ChangeAt Go.RowKit
set_option linter.unusedVariables false
set_option linter.unusedSimpArgs false

set_option maxHeartbeats 1000000 in
theorem nextBearoff_any (p c h s : Int) (a : Option Addr) (n cap : Nat) (xs : List Int) (w : World) (hn : xs.length = n) (hle : n ≤ 1048576) (hr : IRow w a xs) :
    Calls Try.prog 26 #[.agg #[.int .i64 p, .int .i64 c, .int .i64 h, .int .i64 s], .slice a n cap] w (SliceGot2 (nxL p c h s xs) (nxE p c h s xs) w) := by
  have BV := Blk.new w #[.int .i64 p, .int .i64 c, .int .i64 h, .int .i64 s] 26
  have hb : Below w.heap.size w (w.alloc (.cells #[.int .i64 p, .int .i64 c, .int .i64 h, .int .i64 s] 26)) := (Below.refl _ _).alloc (Nat.le_refl _) _
  obtain ⟨x0, x1, x2, x3, xf, xl⟩ := BV.four
  have hC := fun W (r : IRow W a xs) => bearoffCode_any p c h s a n cap xs W hn hle r
  replace hr := hr.below hb
  cases z : okP p c h s xs with
  | false =>
    have e1 : nxL p c h s xs = [] := by simp [nxL, z]
    have e2 : nxE p c h s xs = bcE p c h s xs := by simp [nxE, z]
    have e3 : bcE p c h s xs ≠ 0 := fun q => by have := okP_of q; rw [z] at this; simp at this
    rw [e1, e2]
    obtain ⟨e, he⟩ : ∃ e, bcE p c h s xs = e := ⟨_, rfl⟩
    rw [he] at hC e3 ⊢
    have z1 : (e != 0) = true := by rw [bne_iff_ne]; exact e3
    have HC := Lib.hid hC
    clear hC e1 e2 he z e3
    go_enter Try.func26, Try.ntmps26
    go_wp2_with (first | (go_at_call 60; refine (HC.out _ hr).mono ?_; rintro e wq ⟨rfl, hbq⟩; clear x0 x1 x2 x3 xf xl; replace BV := BV.below hbq; replace hr := hr.below hbq; replace hb := chain hb hbq; clear hbq; obtain ⟨x0, x1, x2, x3, xf, xl⟩ := BV.four))
    go_ret2
    exact ⟨none, 0, rfl, .inl ⟨rfl, rfl⟩, hb⟩
  | true =>
    have hN := fun W (r : IRow W a xs) => nextBearoffM_any p c h s a n cap xs W z hn r
    rw [bcE_of z] at hC
    have HC := Lib.hid hC
    clear hC
    unfold NextGot at hN
    cases y : nxB c xs with
    | true =>
      have e1 : nxL p c h s xs = nxR c xs := by simp [nxL, z, y]
      have e2 : nxE p c h s xs = 0 := by simp [nxE, z, y]
      rw [e1, e2]
      rw [y] at hN
      simp only [if_true] at hN
      have hlen := nxR_length c xs
      obtain ⟨X, hX⟩ : ∃ X, nxR c xs = X := ⟨_, rfl⟩
      rw [hX] at hN hlen ⊢
      have HN := Lib.hid hN
      have HL := Lib.hid hlen
      clear hN hX hlen z y e1 e2
      go_enter Try.func26, Try.ntmps26
      go_wp2_with (first | (go_at_call 60; refine (HC.out _ hr).mono ?_; rintro e wq ⟨rfl, hbq⟩; clear x0 x1 x2 x3 xf xl; replace BV := BV.below hbq; replace hr := hr.below hbq; replace hb := chain hb hbq; clear hbq; obtain ⟨x0, x1, x2, x3, xf, xl⟩ := BV.four) | (go_at_call 63; refine (HN.out _ hr).mono ?_; have hsz := hb.size; rintro e wq ⟨aN, kN, rfl, ON, hbq⟩; clear x0 x1 x2 x3 xf xl; replace BV := BV.below hbq; replace hb := chain hb hbq; clear hbq; obtain ⟨x0, x1, x2, x3, xf, xl⟩ := BV.four))
      go_ret2
      exact ⟨aN, kN, by rw [HL.out, hn]; rfl, ON.mono hsz (Nat.le_refl _), hb⟩
    | false =>
      have e1 : nxL p c h s xs = [] := by simp [nxL, z, y]
      have e2 : nxE p c h s xs = 4 := by simp [nxE, z, y]
      rw [e1, e2]
      rw [y] at hN
      simp only [Bool.false_eq_true, if_false] at hN
      have HN := Lib.hid hN
      clear hN z y e1 e2
      go_enter Try.func26, Try.ntmps26
      go_wp2_with (first | (go_at_call 60; refine (HC.out _ hr).mono ?_; rintro e wq ⟨rfl, hbq⟩; clear x0 x1 x2 x3 xf xl; replace BV := BV.below hbq; replace hr := hr.below hbq; replace hb := chain hb hbq; clear hbq; obtain ⟨x0, x1, x2, x3, xf, xl⟩ := BV.four) | (go_at_call 63; refine (HN.out _ hr).mono ?_; have hsz := hb.size; rintro e wq ⟨aN, kN, rfl, ON, hbq⟩; clear x0 x1 x2 x3 xf xl; replace BV := BV.below hbq; replace hb := chain hb hbq; clear hbq; obtain ⟨x0, x1, x2, x3, xf, xl⟩ := BV.four))
      go_ret2
      exact ⟨none, 0, rfl, .inl ⟨rfl, rfl⟩, hb⟩
set_option maxRecDepth 8000 in
set_option maxHeartbeats 2000000 in
theorem specNextBearoff_any (p c h s : Int) (a : Option Addr) (n cap : Nat) (xs : List Int) (w : World) (hn : xs.length = n) (hle : n ≤ 1048576) (hr : IRow w a xs) :
    Calls Try.prog 25 #[.agg #[.int .i64 p, .int .i64 c, .int .i64 h, .int .i64 s], .slice a n cap] w (SliceGot2 (nxL p c h s xs) (nxE p c h s xs) w) := by
  have BV := Blk.new w #[.int .i64 p, .int .i64 c, .int .i64 h, .int .i64 s] 26
  have hb : Below w.heap.size w (w.alloc (.cells #[.int .i64 p, .int .i64 c, .int .i64 h, .int .i64 s] 26)) := (Below.refl _ _).alloc (Nat.le_refl _) _
  obtain ⟨x0, x1, x2, x3, xf, xl⟩ := BV.four
  have hC := fun W (r : IRow W a xs) => l10Code_any p c h s a n cap xs W hn hle r
  replace hr := hr.below hb
  cases z : okP p c h s xs with
  | false =>
    have e1 : nxL p c h s xs = [] := by simp [nxL, z]
    have e2 : nxE p c h s xs = bcE p c h s xs := by simp [nxE, z]
    have e3 : bcE p c h s xs ≠ 0 := fun q => by have := okP_of q; rw [z] at this; simp at this
    rw [e1, e2]
    obtain ⟨e, he⟩ : ∃ e, bcE p c h s xs = e := ⟨_, rfl⟩
    rw [he] at hC e3 ⊢
    have z1 : (e != 0) = true := by rw [bne_iff_ne]; exact e3
    have HC := Lib.hid hC
    clear hC e1 e2 he z e3
    go_enter Try.func25, Try.ntmps25
    go_wp2_with (first | (go_at_call 58; refine (HC.out _ hr).mono ?_; rintro e wq ⟨rfl, hbq⟩; clear x0 x1 x2 x3 xf xl; replace BV := BV.below hbq; replace hr := hr.below hbq; replace hb := chain hb hbq; clear hbq; obtain ⟨x0, x1, x2, x3, xf, xl⟩ := BV.four))
    go_ret2
    exact ⟨none, 0, rfl, .inl ⟨rfl, rfl⟩, hb⟩
  | true =>
    have hok := okP_parts z
    have h1 : 1 ≤ n := by omega
    have h24 : n ≤ 24 := by omega
    obtain ⟨b, o, rfl, _⟩ := hr 0 (by omega)
    have hS := fun W (r : IRow W (some ⟨b, o, none⟩) xs) => l10Sum_any (some ⟨b, o, none⟩) n cap xs W hn (by omega) (fun x hx => by have := hok.2.2.1 x hx; omega) r
    rw [bcE_of z] at hC
    obtain ⟨i0, hi, hz0, hz1, hz2⟩ := info_parts infoI64
    have hrow : ∀ (W : World), IRow W (some ⟨b, o, none⟩) xs → ∀ (j : Nat) (u : Value), (ints xs)[j]? = some u → W.cell? ((⟨b, o, none⟩ : Addr).add j) = some u := by
      intro W hW j u hj
      obtain ⟨hlt, rfl⟩ := List.getElem?_eq_some_iff.1 hj
      have hlt2 : j < xs.length := by simpa [ints] using hlt
      obtain ⟨b', o', e, hc⟩ := hW j hlt2
      simp at e
      obtain ⟨rfl, rfl⟩ := e
      rw [show (⟨b, o, none⟩ : Addr).add j = ⟨b, o + j, none⟩ from by unfold Addr.add; split <;> simp_all, hc]
      simp [ints, hlt2]
    have hint : (ints xs).length = n * 1 := by simp [ints, hn]
    have hx15 := hok.2.2.1
    have hc15 : c ≤ 15 := by omega
    have hfp : ¬ xs.sum < c → fpos xs < n := fun q => by have := fpos_sum xs (by omega); omega
    have hlenR := nxR_length c xs
    have HRW := Lib.hid hrow
    have HIN := Lib.hid hint
    have HX := Lib.hid hn
    have HC := Lib.hid hC
    have HS := Lib.hid hS
    clear hrow hint hn hC hS hok
    by_cases hlt : xs.sum < c
    · have e0 : nxB c xs = true := by simp [nxB, hlt]
      have e1 : nxL p c h s xs = xs.set 0 (xs.getD 0 0 + 1) := by rw [nxL, if_pos ⟨z, e0⟩, nxR, if_pos hlt]
      have e2 : nxE p c h s xs = 0 := by simp [nxE, z, e0]
      rw [e1, e2]
      have hx0 := hx15 _ (getD_mem (xs := xs) (k := 0) (by have := HX.out; omega))
      obtain ⟨S, hSe⟩ : ∃ S, xs.sum = S := ⟨_, rfl⟩
      rw [hSe] at HS hlt
      obtain ⟨v, hv⟩ : ∃ v, xs.getD 0 0 = v := ⟨_, rfl⟩
      rw [hv] at hx0 ⊢
      have hv0 : 0 ≤ v := hx0.1
      have hv1 : v ≤ 15 := hx0.2
      have HV := Lib.hid hv
      have h1' : (1 : Int) ≤ (n : Int) := by omega
      clear hx15 hfp hSe hv hx0 e0 e1 e2 hlenR z
      go_enter Try.func25, Try.ntmps25
      go_wp2_with (first | (go_at_call 58; refine (HC.out _ hr).mono ?_; rintro e wq ⟨rfl, hbq⟩; clear x0 x1 x2 x3 xf xl; replace BV := BV.below hbq; replace hr := hr.below hbq; replace hb := chain hb hbq; clear hbq; obtain ⟨x0, x1, x2, x3, xf, xl⟩ := BV.four) | (at_builtin; (refine wpList_append_grows _ rfl (.tmp 15) (.tmp 16) 24 rfl 2 i0 (.int .i64 0) 1 8 Try.underlying24 hi hz0 hz1 hz2 rfl (by decide) _ 0 0 [] rfl (by simp) rfl (by simp) ⟨b, o, none⟩ n cap (ints xs) rfl HIN.out (HRW.out _ (hr.alloc _)) ints_one (by omega) (by unfold maxLen; omega) (by omega) ?_)))
      intro v' w4 hown hgrow
      clear x0 x1 x2 x3 xf xl
      have ho : Own w4 (wq.alloc (.cells #[] 2)).heap.size v' xs := by
        show w4.ownsRow _ _ 1 v' xs.length (ints xs)
        rw [HX.out]
        simpa using hown
      obtain ⟨g1, k1, rfl, hg, R1⟩ := (ho.mono (show wq.heap.size ≤ _ by simp)).row (by have := HX.out; omega)
      have hbq : Below wq.heap.size wq w4 := from_alloc ⟨hgrow.os, hgrow.tape, hgrow.output, hgrow.size, fun k hk => hgrow.block k hk (by simp)⟩
      have hg2 : w.heap.size < g1 := by have := hb.size; have := BV.lt; omega
      replace BV := BV.below hbq
      replace hr := hr.below hbq
      replace hb := chain hb hbq
      clear hown hgrow ho hbq hg
      rw [HX.out]
      go_wp2_with fail
      have hd_ : w4.drew.heap.size = w4.heap.size := rfl
      replace BV := BV.drew
      replace hb := hb.drew
      replace hr := hr.drew
      replace R1 := R1.drew
      refine wp_region_held_drew (S := fun w' => w'.cell? ⟨w.heap.size, 0, none⟩ = some (.int .i64 p) ∧ w'.cell? ⟨w.heap.size, 1, none⟩ = some (.int .i64 c) ∧ w'.cell? ⟨w.heap.size, 2, none⟩ = some (.int .i64 h) ∧ w'.cell? ⟨w.heap.size, 3, none⟩ = some (.int .i64 s)) (by kernel_rfl) ⟨BV.four.1, BV.four.2.1, BV.four.2.2.1, BV.four.2.2.2.1⟩ (fun hHeld => ?_)
      clear hHeld
      generalize w4.drew = vd at *
      have hHeld : vd.cell? ⟨w.heap.size, 0, none⟩ = some (.int .i64 p) ∧ vd.cell? ⟨w.heap.size, 1, none⟩ = some (.int .i64 c) ∧ vd.cell? ⟨w.heap.size, 2, none⟩ = some (.int .i64 h) ∧ vd.cell? ⟨w.heap.size, 3, none⟩ = some (.int .i64 s) := ⟨BV.four.1, BV.four.2.1, BV.four.2.2.1, BV.four.2.2.2.1⟩
      refine wpAnyH_take (i := 0) (oi := { dst := some 18, op := _, type := _, pos := _, after := _, guard := _ }) (v := ?_) rfl (by kernel_rfl) (by kernel_rfl) (by kernel_rfl) (fun _ _ _ h => h) (Or.inl ⟨by rfl, ?_⟩) (by assumption) ?_
      rotate_left
      · intro w hSw
        (try dsimp only at hSw)
        go_simp
        (try (with_reducible rfl))
      try simp only [Act.put, List.setIfInBounds_toArray, List.set_cons_zero, List.set_cons_succ]
      refine wpAnyH_take (i := 2) (oi := { dst := some 20, op := _, type := _, pos := _, after := _, guard := _ }) (v := ?_) rfl (by kernel_rfl) (by kernel_rfl) (by kernel_rfl) (fun _ _ _ h => h) (Or.inl ⟨by rfl, ?_⟩) (by assumption) ?_
      rotate_left
      · intro w hSw
        (try dsimp only at hSw)
        go_simp
        (try (with_reducible rfl))
      try simp only [Act.put, List.setIfInBounds_toArray, List.set_cons_zero, List.set_cons_succ]
      refine wpAnyH_take (i := 3) (oi := { dst := some 21, op := _, type := _, pos := _, after := _, guard := _ }) (v := ?_) rfl (by kernel_rfl) (by kernel_rfl) (by kernel_rfl) (fun _ _ _ h => h) (Or.inl ⟨by rfl, ?_⟩) (by assumption) ?_
      rotate_left
      · intro w hSw
        (try dsimp only at hSw)
        go_simp
        (try (with_reducible rfl))
      try simp only [Act.put, List.setIfInBounds_toArray, List.set_cons_zero, List.set_cons_succ]
      refine wpAnyH_ready (rs := [1]) (by kernel_rfl) (by simp) ?_
      refine AllReadyH.cons (o := { dst := some 19, op := _, type := _, pos := _, after := _, guard := _ }) rfl (fun K hK => ?_) AllReadyH.nil
      go_simp
      refine (HS.out _ hr).mono ?_
      rintro e wq ⟨rfl, rfl⟩
      (try go_wp2_with fail)
      refine hK.out _ _ ⟨BV.four.1, BV.four.2.1, BV.four.2.2.1, BV.four.2.2.2.1⟩ (fun hHeld => ?_)
      clear hK K
      try simp only [Act.put, List.setIfInBounds_toArray, List.set_cons_zero, List.set_cons_succ]
      refine wpAnyH_take (i := 4) (oi := { dst := some 22, op := _, type := _, pos := _, after := _, guard := _ }) (v := ?_) rfl (by kernel_rfl) (by kernel_rfl) (by kernel_rfl) (fun _ _ _ h => h) (Or.inl ⟨by rfl, ?_⟩) (by assumption) ?_
      rotate_left
      · intro w hSw
        (try dsimp only at hSw)
        go_simp
        (try (with_reducible rfl))
      try simp only [Act.put, List.setIfInBounds_toArray, List.set_cons_zero, List.set_cons_succ]
      refine wpAnyH_done (by kernel_rfl) ?_ _
      clear hHeld
      have hcell := R1.cell 0 (by have := HX.out; omega)
      have hfree := R1.free 0
      rw [HV.out] at hcell
      have R2 := R1.set 0 (v + 1)
      have HR2 := Lib.hid R2
      clear R1 R2 hHeld
      go_wp2
      go_ret2
      exact ⟨_, _, by rw [List.length_set, HX.out]; rfl, .inr ⟨_, rfl, by omega, HR2.out.lt, HR2.out⟩, hb.setCell (p := ⟨g1, 0, none⟩) (by show _ ≤ g1; omega) _⟩
    · have hq := hfp hlt
      obtain ⟨S, hSe⟩ : ∃ S, xs.sum = S := ⟨_, rfl⟩
      have hnone := fpos_none xs
      have hat := fpos_at xs
      have hnx : nxL p c h s xs = if fpos xs + 1 < n then (xs.set (fpos xs) 0).set (fpos xs + 1) (xs.getD (fpos xs + 1) 0 + 1) else [] := by
        have := HX.out
        by_cases q : fpos xs + 1 < n
        · rw [if_pos q, nxL, if_pos ⟨z, by simp [nxB]; omega⟩, nxR, if_neg hlt]
        · rw [if_neg q, nxL, if_neg]
          rintro ⟨_, q2⟩
          simp [nxB] at q2
          omega
      have hne : nxE p c h s xs = if fpos xs + 1 < n then 0 else 4 := by
        have := HX.out
        by_cases q : fpos xs + 1 < n
        · rw [if_pos q, nxE, if_pos z, if_pos (by simp [nxB]; omega)]
        · rw [if_neg q, nxE, if_pos z, if_neg]
          intro q2
          simp [nxB] at q2
          omega
      obtain ⟨X, hX⟩ : ∃ X, nxL p c h s xs = X := ⟨_, rfl⟩
      obtain ⟨E, hE⟩ : ∃ E, nxE p c h s xs = E := ⟨_, rfl⟩
      rw [hX] at hnx ⊢
      rw [hE] at hne ⊢
      obtain ⟨Q, hqe⟩ : ∃ q, fpos xs = q := ⟨_, rfl⟩
      have hpos := fpos_some xs (by have := HX.out; omega)
      rw [hqe] at hq hnone hat hpos hnx hne
      rw [hSe] at HS hlt
      have HNO := Lib.hid hnone
      have HPS := Lib.hid hpos
      have HNX := Lib.hid hnx
      have HNE := Lib.hid hne
      have HAT := Lib.hid hat
      have HX15 := Lib.hid hx15
      have n5 : (n : Int) ≤ 24 := by omega
      clear hfp hSe hlenR hnone hat hpos hnx hne hqe hx15 z hX hE
      go_enter Try.func25, Try.ntmps25
      go_wp2_with (first | (go_at_call 58; refine (HC.out _ hr).mono ?_; rintro e wq ⟨rfl, hbq⟩; clear x0 x1 x2 x3 xf xl; replace BV := BV.below hbq; replace hr := hr.below hbq; replace hb := chain hb hbq; clear hbq; obtain ⟨x0, x1, x2, x3, xf, xl⟩ := BV.four) | (at_builtin; (refine wpList_append_grows _ rfl (.tmp 15) (.tmp 16) 24 rfl 2 i0 (.int .i64 0) 1 8 Try.underlying24 hi hz0 hz1 hz2 rfl (by decide) _ 0 0 [] rfl (by simp) rfl (by simp) ⟨b, o, none⟩ n cap (ints xs) rfl HIN.out (HRW.out _ (hr.alloc _)) ints_one (by omega) (by unfold maxLen; omega) (by omega) ?_)))
      intro v' w4 hown hgrow
      clear x0 x1 x2 x3 xf xl
      have ho : Own w4 (wq.alloc (.cells #[] 2)).heap.size v' xs := by
        show w4.ownsRow _ _ 1 v' xs.length (ints xs)
        rw [HX.out]
        simpa using hown
      obtain ⟨g1, k1, rfl, hg, R1⟩ := (ho.mono (show wq.heap.size ≤ _ by simp)).row (by have := HX.out; omega)
      have hbq : Below wq.heap.size wq w4 := from_alloc ⟨hgrow.os, hgrow.tape, hgrow.output, hgrow.size, fun k hk => hgrow.block k hk (by simp)⟩
      have hg2 : w.heap.size < g1 := by have := hb.size; have := BV.lt; omega
      replace BV := BV.below hbq
      replace hr := hr.below hbq
      replace hb := chain hb hbq
      clear hown hgrow ho hbq hg
      rw [HX.out]
      go_wp2_with fail
      have hd_ : w4.drew.heap.size = w4.heap.size := rfl
      replace BV := BV.drew
      replace hb := hb.drew
      replace hr := hr.drew
      replace R1 := R1.drew
      refine wp_region_held_drew (S := fun w' => w'.cell? ⟨w.heap.size, 0, none⟩ = some (.int .i64 p) ∧ w'.cell? ⟨w.heap.size, 1, none⟩ = some (.int .i64 c) ∧ w'.cell? ⟨w.heap.size, 2, none⟩ = some (.int .i64 h) ∧ w'.cell? ⟨w.heap.size, 3, none⟩ = some (.int .i64 s)) (by kernel_rfl) ⟨BV.four.1, BV.four.2.1, BV.four.2.2.1, BV.four.2.2.2.1⟩ (fun hHeld => ?_)
      clear hHeld
      generalize w4.drew = vd at *
      have hHeld : vd.cell? ⟨w.heap.size, 0, none⟩ = some (.int .i64 p) ∧ vd.cell? ⟨w.heap.size, 1, none⟩ = some (.int .i64 c) ∧ vd.cell? ⟨w.heap.size, 2, none⟩ = some (.int .i64 h) ∧ vd.cell? ⟨w.heap.size, 3, none⟩ = some (.int .i64 s) := ⟨BV.four.1, BV.four.2.1, BV.four.2.2.1, BV.four.2.2.2.1⟩
      refine wpAnyH_take (i := 0) (oi := { dst := some 18, op := _, type := _, pos := _, after := _, guard := _ }) (v := ?_) rfl (by kernel_rfl) (by kernel_rfl) (by kernel_rfl) (fun _ _ _ h => h) (Or.inl ⟨by rfl, ?_⟩) (by assumption) ?_
      rotate_left
      · intro w hSw
        (try dsimp only at hSw)
        go_simp
        (try (with_reducible rfl))
      try simp only [Act.put, List.setIfInBounds_toArray, List.set_cons_zero, List.set_cons_succ]
      refine wpAnyH_take (i := 2) (oi := { dst := some 20, op := _, type := _, pos := _, after := _, guard := _ }) (v := ?_) rfl (by kernel_rfl) (by kernel_rfl) (by kernel_rfl) (fun _ _ _ h => h) (Or.inl ⟨by rfl, ?_⟩) (by assumption) ?_
      rotate_left
      · intro w hSw
        (try dsimp only at hSw)
        go_simp
        (try (with_reducible rfl))
      try simp only [Act.put, List.setIfInBounds_toArray, List.set_cons_zero, List.set_cons_succ]
      refine wpAnyH_take (i := 3) (oi := { dst := some 21, op := _, type := _, pos := _, after := _, guard := _ }) (v := ?_) rfl (by kernel_rfl) (by kernel_rfl) (by kernel_rfl) (fun _ _ _ h => h) (Or.inl ⟨by rfl, ?_⟩) (by assumption) ?_
      rotate_left
      · intro w hSw
        (try dsimp only at hSw)
        go_simp
        (try (with_reducible rfl))
      try simp only [Act.put, List.setIfInBounds_toArray, List.set_cons_zero, List.set_cons_succ]
      refine wpAnyH_ready (rs := [1]) (by kernel_rfl) (by simp) ?_
      refine AllReadyH.cons (o := { dst := some 19, op := _, type := _, pos := _, after := _, guard := _ }) rfl (fun K hK => ?_) AllReadyH.nil
      go_simp
      refine (HS.out _ hr).mono ?_
      rintro e wq ⟨rfl, rfl⟩
      (try go_wp2_with fail)
      refine hK.out _ _ ⟨BV.four.1, BV.four.2.1, BV.four.2.2.1, BV.four.2.2.2.1⟩ (fun hHeld => ?_)
      clear hK K
      try simp only [Act.put, List.setIfInBounds_toArray, List.set_cons_zero, List.set_cons_succ]
      refine wpAnyH_take (i := 4) (oi := { dst := some 22, op := _, type := _, pos := _, after := _, guard := _ }) (v := ?_) rfl (by kernel_rfl) (by kernel_rfl) (by kernel_rfl) (fun _ _ _ h => h) (Or.inl ⟨by rfl, ?_⟩) (by assumption) ?_
      rotate_left
      · intro w hSw
        (try dsimp only at hSw)
        go_simp
        (try (with_reducible rfl))
      try simp only [Act.put, List.setIfInBounds_toArray, List.set_cons_zero, List.set_cons_succ]
      refine wpAnyH_done (by kernel_rfl) ?_ _
      clear hHeld
      clear hHeld BV
      go_wp2_with fail
      go_loopg [8] n (fun m i wr => vd = wr ∧ ∃ k : Nat, k ≤ Q ∧ m = n - k ∧ i = .int .i64 k ∧ (∀ j, j < k → xs.getD j 0 ≤ 0))
      case atStart => exact ⟨rfl, 0, by omega, rfl, rfl, fun j hj => by omega⟩
      case round =>
        obtain ⟨rfl, k, hk, hm, rfl, hall⟩ := hrel
        have hkn : k < n := by omega
        have hk0 : (0 : Int) ≤ (k : Int) := by omega
        have hk1 : (k : Int) < (n : Int) := by omega
        have hcell := R1.cell k (by have := HX.out; omega)
        have hv15 := HX15.out _ (getD_mem (xs := xs) (k := k) (by have := HX.out; omega))
        have hat := HAT.out k hall
        obtain ⟨v, hv⟩ : ∃ v, xs.getD k 0 = v := ⟨_, rfl⟩
        rw [hv] at hcell hv15 hat
        have hv0 : 0 ≤ v := hv15.1
        have HA := Lib.hid hall
        have HV := Lib.hid hv
        clear hall hv hv15
        by_cases hl : k + 1 < n
        · have hl' : (k : Int) + 1 < (n : Int) := by omega
          by_cases hz : v = 0
          · have hkQ : k < Q := by
              rcases Nat.lt_or_ge k Q with q | q
              · exact q
              · have := HAT.out
                obtain rfl : k = Q := by omega
                have := HPS.out
                rw [HV.out] at this
                omega
            subst hz
            clear hat hl
            go_wp2
            go_roundg (n - (k + 1))
            case measure => omega
            case rel => exact ⟨rfl, k + 1, by omega, rfl, by go_num, fun j hj => by
              by_cases e : j = k
              · subst e; rw [HV.out]; omega
              · exact HA.out j (by omega)⟩
          · obtain rfl : Q = k := hat (by omega)
            have hvz : (v == 0) = false := by rw [beq_eq_false_iff_ne]; exact hz
            have hx1 := HX15.out _ (getD_mem (xs := xs) (k := Q + 1) (by have := HX.out; omega))
            have hgd : (xs.set Q 0).getD (Q + 1) 0 = xs.getD (Q + 1) 0 := by
              simp only [List.getD_eq_getElem?_getD]
              rw [List.getElem?_set_ne (by omega)]
            have hnx := HNX.out
            have hne := HNE.out
            rw [if_pos hl] at hnx hne
            subst hnx hne
            obtain ⟨u, hu⟩ : ∃ u, xs.getD (Q + 1) 0 = u := ⟨_, rfl⟩
            rw [hu] at hx1 hgd ⊢
            have hu0 : 0 ≤ u := hx1.1
            have hu1 : u ≤ 15 := hx1.2
            have hfree := R1.free Q
            have R2 := R1.set Q 0
            have hcell2 := R2.cell (Q + 1) (by rw [List.length_set]; have := HX.out; omega)
            have hfree2 := R2.free (Q + 1)
            rw [hgd] at hcell2
            have R3 := R2.set (Q + 1) (u + 1)
            have HR3 := Lib.hid R3
            have HU := Lib.hid hu
            have ne1 : ((Q : Int) + 1 == (n : Int)) = false := by rw [beq_eq_false_iff_ne]; omega
            have n6 : (0 : Int) ≤ (Q : Int) + 1 := by omega
            clear R1 R2 R3 hat hl hu hx1 hgd
            go_wp2
            go_ret2
            exact ⟨_, _, by rw [List.length_set, List.length_set, HX.out]; rfl, .inr ⟨_, rfl, by omega, HR3.out.lt, by rw [HU.out]; exact HR3.out⟩, (hb.setCell (p := ⟨g1, Q, none⟩) (by show _ ≤ g1; omega) _).setCell (p := ⟨g1, Q + 1, none⟩) (by show _ ≤ g1; omega) _⟩
        · have hl' : ¬ (k : Int) + 1 < (n : Int) := by omega
          obtain rfl : k = Q := by omega
          have hnx := HNX.out
          have hne := HNE.out
          rw [if_neg hl] at hnx hne
          subst hnx hne
          have ne1 : ((k : Int) + 1 == (n : Int)) = true := by rw [beq_iff_eq]; omega
          have ne2 : (k : Int) + 1 = (n : Int) := by omega
          clear hat hl R1
          go_wp2
          go_ret2
          exact ⟨none, 0, rfl, .inl ⟨rfl, rfl⟩, hb⟩
end Go.Proofs.Ythnkckflajkaiaa
