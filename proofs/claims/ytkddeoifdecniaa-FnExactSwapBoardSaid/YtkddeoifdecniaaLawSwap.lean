/- The exact law of chapter 2 on the exchange of sides holds: for every input the law returns true and its arguments read behind the call as they read before. No conditions. -/
import Derived.Test.YtkddeoifdecniaaLawB0
import Derived.Test.YtkddeoifdecniaaSwapS
import Derived.Test.YtkddeoifdecniaaVarB
namespace Go.Proofs.Ytkddeoifdecniaa
open Go.ChangeMaps (open_string shut_string)
open Go.ChangeShapes Go.WideShapes Go.ChangeAt Go.RowKit
set_option linter.unusedVariables false
set_option linter.unusedSimpArgs false
set_option maxRecDepth 4000

theorem fnExactSwapBoard_both (p c h s : Int) (xs ys : List Int) (l1 : xs.length ≤ 1048576) (l2 : ys.length ≤ 1048576) : ∃ sx sy : List Int, sx.length ≤ 1048576 ∧ sy.length ≤ 1048576 ∧ (∀ (a1 a2 : Option Addr) (n1 n2 c1 c2 : Nat) (w : World), xs.length = n1 → ys.length = n2 → n1 ≤ 1048576 → n2 ≤ 1048576 → IRow w a1 xs → IRow w a2 ys → Calls Try.prog 27 #[.agg #[.int .i64 p, .int .i64 c, .int .i64 h, .int .i64 s], .agg #[.slice a1 n1 c1, .slice a2 n2 c2]] w (BoardGot sx sy w)) ∧ (∀ (a1 a2 : Option Addr) (n1 n2 c1 c2 : Nat) (w : World), xs.length = n1 → ys.length = n2 → n1 ≤ 1048576 → n2 ≤ 1048576 → IRow w a1 xs → IRow w a2 ys → Calls Try.prog 14 #[.agg #[.int .i64 p, .int .i64 c, .int .i64 h, .int .i64 s], .agg #[.slice a1 n1 c1, .slice a2 n2 c2]] w (BoardGot sx sy w)) := by
  refine ⟨swL p c h s xs ys ys, swL p c h s xs ys xs, ?_, ?_, fun a1 a2 n1 n2 c1 c2 w h1 h2 l1 l2 r1 r2 => specSwapBoard_any p c h s a1 a2 n1 n2 c1 c2 xs ys w h1 h2 l1 l2 r1 r2, fun a1 a2 n1 n2 c1 c2 w h1 h2 l1 l2 r1 r2 => swapBoard_any p c h s a1 a2 n1 n2 c1 c2 xs ys w h1 h2 l1 l2 r1 r2⟩
  · unfold swL; split <;> simp [l2]
  · unfold swL; split <;> simp [l1]
set_option maxHeartbeats 4000000 in
theorem fnExactSwapBoard_walk (p c h s : Int) (a1 a2 : Option Addr) (n1 n2 c1 c2 : Nat) (xs ys : List Int) (w : World) (h1 : xs.length = n1) (h2 : ys.length = n2) (m1 : n1 ≤ 9223372036854775807) (m2 : n2 ≤ 9223372036854775807) (r1 : IRow w a1 xs) (r2 : IRow w a2 ys) :
    Calls Try.prog 5 #[.agg #[.int .i64 p, .int .i64 c, .int .i64 h, .int .i64 s], .agg #[.slice a1 n1 c1, .slice a2 n2 c2]] w fun e w' => e = .returned (.bool true) ∧ Below w.heap.size w w' := by
  obtain ⟨BV, BB, hb, hz⟩ := two_new w #[.int .i64 p, .int .i64 c, .int .i64 h, .int .i64 s] #[.slice a1 n1 c1, .slice a2 n2 c2] 39 40
  have hz1 : w.heap.size + 1 < ((w.alloc (.cells #[.int .i64 p, .int .i64 c, .int .i64 h, .int .i64 s] 39)).alloc (.cells #[.slice a1 n1 c1, .slice a2 n2 c2] 40)).heap.size := by rw [hz]; omega
  clear hz
  have hsz := fun w => szBoard_any a1 a2 n1 n2 c1 c2 1048576 w (by omega) (by omega) m1 m2
  by_cases hneg : szAfter 1048576 n1 n2 = -1
  · rw [hneg] at hsz
    have HZ := Lib.hid hsz
    clear hsz hneg
    go_enter Try.func5, Try.ntmps5
    go_wp2_with fail
    generalize ((w.alloc (.cells #[.int .i64 p, .int .i64 c, .int .i64 h, .int .i64 s] 39)).alloc (.cells #[.slice a1 n1 c1, .slice a2 n2 c2] 40)) = v0 at *
    refine (HZ.out _).mono ?_
    rintro e w1 ⟨rfl, hb1⟩
    go_wp2
    go_ret
    exact ⟨rfl, hb.trans (hb1.mono (by omega))⟩
  · have hle : (n1 : Int) + n2 ≤ 1048576 := by
      unfold szAfter at hneg
      split at hneg
      · exact absurd rfl hneg
      · split at hneg
        · exact absurd rfl hneg
        · omega
    obtain ⟨z, hzz⟩ : ∃ z, szAfter 1048576 n1 n2 = z := ⟨_, rfl⟩
    have hz0 : 0 ≤ z := by
      rw [← hzz]
      unfold szAfter
      rw [if_neg (by omega), if_neg (by omega)]
      omega
    rw [hzz] at hsz
    have HZ := Lib.hid hsz
    clear hsz hneg hzz
    have l1 : n1 ≤ 1048576 := by omega
    have l2 : n2 ≤ 1048576 := by omega
    subst h1 h2
    obtain ⟨sx, sy, ls1, ls2, hsp, him⟩ := fnExactSwapBoard_both p c h s xs ys l1 l2
    have HSP := Lib.hid hsp
    have HIM := Lib.hid him
    clear hsp him
    go_enter Try.func5, Try.ntmps5
    go_wp2_with fail
    generalize ((w.alloc (.cells #[.int .i64 p, .int .i64 c, .int .i64 h, .int .i64 s] 39)).alloc (.cells #[.slice a1 xs.length c1, .slice a2 ys.length c2] 40)) = v0 at *
    refine (HZ.out _).mono ?_
    rintro e w1 ⟨rfl, hb1⟩
    replace BV := BV.below hb1
    replace BB := BB.below hb1
    have hlt : w.heap.size + 1 < w1.heap.size := BB.lt
    replace hb := hb.trans (hb1.mono (by omega))
    obtain ⟨x0, x1, x2, x3, xf, xl⟩ := BV.four
    obtain ⟨y0, y1, yf, yl⟩ := BB.two
    clear hb1 hz1 HZ BV BB
    go_wp2_with fail
    obtain ⟨J, hJ⟩ : ∃ J : Act → Act → World → Prop, J = fun a a' w' => ∃ B d1 d2 k1 k2 lo hi g1 g2, a' = ((((((a.put (some 18) (.agg #[.int .i64 p, .int .i64 c, .int .i64 h, .int .i64 s])).put (some 19) (.agg #[.int .i64 p, .int .i64 c, .int .i64 h, .int .i64 s])).put (some 20) (.agg #[.slice a1 xs.length c1, .slice a2 ys.length c2])).put (some 21) (.agg #[.slice (some ⟨g1, 0, none⟩) xs.length xs.length, .slice (some ⟨g2, 0, none⟩) ys.length ys.length])).put (some 22) (.agg #[.slice d1 sx.length k1, .slice d2 sy.length k2])).put (some 6) (.pointer (some ⟨B, 0, none⟩))) ∧ VarB w1.heap.size w' B d1 d2 sx.length sy.length k1 k2 lo hi sx sy ∧ (w'.cell? ⟨w.heap.size, 0, none⟩ = some (.int .i64 p) ∧ w'.cell? ⟨w.heap.size, 1, none⟩ = some (.int .i64 c) ∧ w'.cell? ⟨w.heap.size, 2, none⟩ = some (.int .i64 h) ∧ w'.cell? ⟨w.heap.size, 3, none⟩ = some (.int .i64 s) ∧ w'.cell? ⟨w.heap.size + 1, 0, none⟩ = some (.slice a1 xs.length c1) ∧ w'.cell? ⟨w.heap.size + 1, 1, none⟩ = some (.slice a2 ys.length c2) ∧ Below w.heap.size w w' ∧ w.heap.size + 1 < w'.heap.size) := ⟨_, rfl⟩
    have HJ := Lib.hid hJ
    clear hJ
    refine wp_region_join J ?_ ?_
    · have hd : w1.drew.heap.size = w1.heap.size := rfl
      refine wp_region_held_drew (S := fun w' => w'.cell? ⟨w.heap.size, 0, none⟩ = some (.int .i64 p) ∧ w'.cell? ⟨w.heap.size, 1, none⟩ = some (.int .i64 c) ∧ w'.cell? ⟨w.heap.size, 2, none⟩ = some (.int .i64 h) ∧ w'.cell? ⟨w.heap.size, 3, none⟩ = some (.int .i64 s) ∧ w'.cell? ⟨w.heap.size + 1, 0, none⟩ = some (.slice a1 xs.length c1) ∧ w'.cell? ⟨w.heap.size + 1, 1, none⟩ = some (.slice a2 ys.length c2) ∧ Below w.heap.size w w' ∧ w.heap.size + 1 < w'.heap.size) (by kernel_rfl) ⟨x0, x1, x2, x3, y0, y1, hb.drew, hlt⟩ (fun hHeld => ?_)
      clear x0 x1 x2 x3 xf xl y0 y1 yf yl hb
      generalize w1.drew = vd at *
      refine wpAnyH_take (i := 0) (oi := { dst := some 18, op := _, type := _, pos := _, after := _, guard := _ }) (v := ?_) rfl (by kernel_rfl) (by kernel_rfl) (by kernel_rfl) (fun _ _ _ h => absurd h.1 (by simp)) (Or.inl ⟨by rfl, ?_⟩) (by assumption) ?_
      rotate_left
      · intro w hSw
        (try dsimp only at hSw)
        go_simp
        (try (with_reducible rfl))
      try simp only [Act.put, List.setIfInBounds_toArray, List.set_cons_zero, List.set_cons_succ]
      refine wpAnyH_take (i := 2) (oi := { dst := some 20, op := _, type := _, pos := _, after := _, guard := _ }) (v := ?_) rfl (by kernel_rfl) (by kernel_rfl) (by kernel_rfl) (fun _ _ _ h => absurd h.1 (by simp)) (Or.inl ⟨by rfl, ?_⟩) (by assumption) ?_
      rotate_left
      · intro w hSw
        (try dsimp only at hSw)
        go_simp
        (try (with_reducible rfl))
      try simp only [Act.put, List.setIfInBounds_toArray, List.set_cons_zero, List.set_cons_succ]
      refine wpAnyH_ready (rs := [1, 5]) (by kernel_rfl) (by simp) ?_
      refine AllReadyH.cons (o := { dst := some 19, op := _, type := _, pos := _, after := _, guard := _ }) rfl (fun K hK => ?_) (AllReadyH.cons (o := { dst := some 6, op := _, type := _, pos := _, after := _, guard := _ }) rfl (fun K hK => ?_) AllReadyH.nil)
      · go_simp
        refine (toVariant_any _ _ _ _ _).mono ?_
        rintro e wA ⟨rfl, hbA⟩
        have hlA := hbA.size
        (try go_wp2_with fail)
        refine hK.out _ _ (heldVB hHeld hbA) (fun hHeld => ?_)
        clear hK K
        try simp only [Act.put, List.setIfInBounds_toArray, List.set_cons_zero, List.set_cons_succ]
        refine wpAnyH_ready (rs := [3, 5]) (by kernel_rfl) (by simp) ?_
        refine AllReadyH.cons (o := { dst := some 21, op := _, type := _, pos := _, after := _, guard := _ }) rfl (fun K hK => ?_) (AllReadyH.cons (o := { dst := some 6, op := _, type := _, pos := _, after := _, guard := _ }) rfl (fun K hK => ?_) AllReadyH.nil)
        · go_simp
          refine (toBoard_any a1 a2 _ _ c1 c2 xs ys _ rfl rfl l1 l2 (r1.below hHeld.2.2.2.2.2.2.1) (r2.below hHeld.2.2.2.2.2.2.1)).mono ?_
          rintro e wB ⟨g1, g2, rfl, gg1, gg2, R1, R2, hbB⟩
          have hlB := hbB.size
          (try go_wp2_with fail)
          refine hK.out _ _ (heldVB hHeld hbB) (fun hHeld => ?_)
          clear hK K
          try simp only [Act.put, List.setIfInBounds_toArray, List.set_cons_zero, List.set_cons_succ]
          refine wpAnyH_ready (rs := [4, 5]) (by kernel_rfl) (by simp) ?_
          refine AllReadyH.cons (o := { dst := some 22, op := _, type := _, pos := _, after := _, guard := _ }) rfl (fun K hK => ?_) (AllReadyH.cons (o := { dst := some 6, op := _, type := _, pos := _, after := _, guard := _ }) rfl (fun K hK => ?_) AllReadyH.nil)
          · go_simp
            refine (HSP.out _ _ _ _ _ _ _ rfl rfl l1 l2 R1.irow R2.irow).mono ?_
            rintro e wC ⟨d1, d2, k1, k2, rfl, hO, hbC⟩
            have hlC := hbC.size
            (try go_wp2_with fail)
            refine hK.out _ _ (heldVB hHeld hbC) (fun hHeld => ?_)
            clear hK K
            try simp only [Act.put, List.setIfInBounds_toArray, List.set_cons_zero, List.set_cons_succ]
            refine wpAnyH_ready (rs := [5]) (by kernel_rfl) (by simp) ?_
            refine AllReadyH.cons (o := { dst := some 6, op := _, type := _, pos := _, after := _, guard := _ }) rfl (fun K hK => ?_) AllReadyH.nil
            go_simp
            refine hK.out _ _ (heldVB hHeld ((Below.refl _ _).alloc (Nat.le_refl _) _)) (fun hHeld => ?_)
            clear hK K
            try simp only [Act.put, List.setIfInBounds_toArray, List.set_cons_zero, List.set_cons_succ]
            have BA := Blk.new wC #[.slice none 0 0, .slice none 0 0] 28
            have hlN : (wC.alloc (.cells #[.slice none 0 0, .slice none 0 0] 28)).heap.size = wC.heap.size + 1 := by simp
            replace hO := hO.alloc (.cells #[.slice none 0 0, .slice none 0 0] 28)
            (try rw [hd] at BA)
            generalize wC.alloc (.cells #[.slice none 0 0, .slice none 0 0] 28) = wN at *
            refine wpAnyH_ready (rs := [6]) (by kernel_rfl) (by simp) ?_
            refine AllReadyH.cons (o := { dst := none, op := _, type := _, pos := _, after := _, guard := _ }) rfl (fun K hK => ?_) AllReadyH.nil
            obtain ⟨q0, q1, qf, ql⟩ := BA.two
            go_simp
            (try go_wp2_with fail)
            refine hK.out _ _ (storeVB hHeld (by omega) _ _) (fun hHeld => ?_)
            clear hK K
            try simp only [Act.put, List.setIfInBounds_toArray, List.set_cons_zero, List.set_cons_succ]
            refine wpAnyH_done (by kernel_rfl) ?_ _
            rw [HJ.out]
            refine ⟨rfl, _, d1, d2, k1, k2, _, _, g1, g2, ?_, VarB.stored BA hO ?_ ?_ ?_ ?_, hHeld⟩
            all_goals (first | rfl | omega | (simp; omega))
          · go_simp
            refine hK.out _ _ (heldVB hHeld ((Below.refl _ _).alloc (Nat.le_refl _) _)) (fun hHeld => ?_)
            clear hK K
            try simp only [Act.put, List.setIfInBounds_toArray, List.set_cons_zero, List.set_cons_succ]
            have BA := Blk.new wB #[.slice none 0 0, .slice none 0 0] 28
            have hlN : (wB.alloc (.cells #[.slice none 0 0, .slice none 0 0] 28)).heap.size = wB.heap.size + 1 := by simp
            replace R1 := R1.alloc (.cells #[.slice none 0 0, .slice none 0 0] 28)
            replace R2 := R2.alloc (.cells #[.slice none 0 0, .slice none 0 0] 28)
            (try rw [hd] at BA)
            generalize wB.alloc (.cells #[.slice none 0 0, .slice none 0 0] 28) = wN at *
            refine wpAnyH_ready (rs := [4]) (by kernel_rfl) (by simp) ?_
            refine AllReadyH.cons (o := { dst := some 22, op := _, type := _, pos := _, after := _, guard := _ }) rfl (fun K hK => ?_) AllReadyH.nil
            go_simp
            refine (HSP.out _ _ _ _ _ _ _ rfl rfl l1 l2 R1.irow R2.irow).mono ?_
            rintro e wC ⟨d1, d2, k1, k2, rfl, hO, hbC⟩
            have hlC := hbC.size
            replace BA := BA.below hbC
            (try go_wp2_with fail)
            refine hK.out _ _ (heldVB hHeld hbC) (fun hHeld => ?_)
            clear hK K
            try simp only [Act.put, List.setIfInBounds_toArray, List.set_cons_zero, List.set_cons_succ]
            refine wpAnyH_ready (rs := [6]) (by kernel_rfl) (by simp) ?_
            refine AllReadyH.cons (o := { dst := none, op := _, type := _, pos := _, after := _, guard := _ }) rfl (fun K hK => ?_) AllReadyH.nil
            obtain ⟨q0, q1, qf, ql⟩ := BA.two
            go_simp
            (try go_wp2_with fail)
            refine hK.out _ _ (storeVB hHeld (by omega) _ _) (fun hHeld => ?_)
            clear hK K
            try simp only [Act.put, List.setIfInBounds_toArray, List.set_cons_zero, List.set_cons_succ]
            refine wpAnyH_done (by kernel_rfl) ?_ _
            rw [HJ.out]
            refine ⟨rfl, _, d1, d2, k1, k2, _, _, g1, g2, ?_, VarB.stored BA hO ?_ ?_ ?_ ?_, hHeld⟩
            all_goals (first | rfl | omega | (simp; omega))
        · go_simp
          refine hK.out _ _ (heldVB hHeld ((Below.refl _ _).alloc (Nat.le_refl _) _)) (fun hHeld => ?_)
          clear hK K
          try simp only [Act.put, List.setIfInBounds_toArray, List.set_cons_zero, List.set_cons_succ]
          have BA := Blk.new wA #[.slice none 0 0, .slice none 0 0] 28
          have hlN : (wA.alloc (.cells #[.slice none 0 0, .slice none 0 0] 28)).heap.size = wA.heap.size + 1 := by simp
          (try rw [hd] at BA)
          generalize wA.alloc (.cells #[.slice none 0 0, .slice none 0 0] 28) = wN at *
          refine wpAnyH_ready (rs := [3]) (by kernel_rfl) (by simp) ?_
          refine AllReadyH.cons (o := { dst := some 21, op := _, type := _, pos := _, after := _, guard := _ }) rfl (fun K hK => ?_) AllReadyH.nil
          go_simp
          refine (toBoard_any a1 a2 _ _ c1 c2 xs ys _ rfl rfl l1 l2 (r1.below hHeld.2.2.2.2.2.2.1) (r2.below hHeld.2.2.2.2.2.2.1)).mono ?_
          rintro e wB ⟨g1, g2, rfl, gg1, gg2, R1, R2, hbB⟩
          have hlB := hbB.size
          replace BA := BA.below hbB
          (try go_wp2_with fail)
          refine hK.out _ _ (heldVB hHeld hbB) (fun hHeld => ?_)
          clear hK K
          try simp only [Act.put, List.setIfInBounds_toArray, List.set_cons_zero, List.set_cons_succ]
          refine wpAnyH_ready (rs := [4]) (by kernel_rfl) (by simp) ?_
          refine AllReadyH.cons (o := { dst := some 22, op := _, type := _, pos := _, after := _, guard := _ }) rfl (fun K hK => ?_) AllReadyH.nil
          go_simp
          refine (HSP.out _ _ _ _ _ _ _ rfl rfl l1 l2 R1.irow R2.irow).mono ?_
          rintro e wC ⟨d1, d2, k1, k2, rfl, hO, hbC⟩
          have hlC := hbC.size
          replace BA := BA.below hbC
          (try go_wp2_with fail)
          refine hK.out _ _ (heldVB hHeld hbC) (fun hHeld => ?_)
          clear hK K
          try simp only [Act.put, List.setIfInBounds_toArray, List.set_cons_zero, List.set_cons_succ]
          refine wpAnyH_ready (rs := [6]) (by kernel_rfl) (by simp) ?_
          refine AllReadyH.cons (o := { dst := none, op := _, type := _, pos := _, after := _, guard := _ }) rfl (fun K hK => ?_) AllReadyH.nil
          obtain ⟨q0, q1, qf, ql⟩ := BA.two
          go_simp
          (try go_wp2_with fail)
          refine hK.out _ _ (storeVB hHeld (by omega) _ _) (fun hHeld => ?_)
          clear hK K
          try simp only [Act.put, List.setIfInBounds_toArray, List.set_cons_zero, List.set_cons_succ]
          refine wpAnyH_done (by kernel_rfl) ?_ _
          rw [HJ.out]
          refine ⟨rfl, _, d1, d2, k1, k2, _, _, g1, g2, ?_, VarB.stored BA hO ?_ ?_ ?_ ?_, hHeld⟩
          all_goals (first | rfl | omega | (simp; omega))
      · go_simp
        refine hK.out _ _ (heldVB hHeld ((Below.refl _ _).alloc (Nat.le_refl _) _)) (fun hHeld => ?_)
        clear hK K
        try simp only [Act.put, List.setIfInBounds_toArray, List.set_cons_zero, List.set_cons_succ]
        have BA := Blk.new vd #[.slice none 0 0, .slice none 0 0] 28
        have hlN : (vd.alloc (.cells #[.slice none 0 0, .slice none 0 0] 28)).heap.size = vd.heap.size + 1 := by simp
        (try rw [hd] at BA)
        generalize vd.alloc (.cells #[.slice none 0 0, .slice none 0 0] 28) = wN at *
        refine wpAnyH_ready (rs := [1]) (by kernel_rfl) (by simp) ?_
        refine AllReadyH.cons (o := { dst := some 19, op := _, type := _, pos := _, after := _, guard := _ }) rfl (fun K hK => ?_) AllReadyH.nil
        go_simp
        refine (toVariant_any _ _ _ _ _).mono ?_
        rintro e wA ⟨rfl, hbA⟩
        have hlA := hbA.size
        replace BA := BA.below hbA
        (try go_wp2_with fail)
        refine hK.out _ _ (heldVB hHeld hbA) (fun hHeld => ?_)
        clear hK K
        try simp only [Act.put, List.setIfInBounds_toArray, List.set_cons_zero, List.set_cons_succ]
        refine wpAnyH_ready (rs := [3]) (by kernel_rfl) (by simp) ?_
        refine AllReadyH.cons (o := { dst := some 21, op := _, type := _, pos := _, after := _, guard := _ }) rfl (fun K hK => ?_) AllReadyH.nil
        go_simp
        refine (toBoard_any a1 a2 _ _ c1 c2 xs ys _ rfl rfl l1 l2 (r1.below hHeld.2.2.2.2.2.2.1) (r2.below hHeld.2.2.2.2.2.2.1)).mono ?_
        rintro e wB ⟨g1, g2, rfl, gg1, gg2, R1, R2, hbB⟩
        have hlB := hbB.size
        replace BA := BA.below hbB
        (try go_wp2_with fail)
        refine hK.out _ _ (heldVB hHeld hbB) (fun hHeld => ?_)
        clear hK K
        try simp only [Act.put, List.setIfInBounds_toArray, List.set_cons_zero, List.set_cons_succ]
        refine wpAnyH_ready (rs := [4]) (by kernel_rfl) (by simp) ?_
        refine AllReadyH.cons (o := { dst := some 22, op := _, type := _, pos := _, after := _, guard := _ }) rfl (fun K hK => ?_) AllReadyH.nil
        go_simp
        refine (HSP.out _ _ _ _ _ _ _ rfl rfl l1 l2 R1.irow R2.irow).mono ?_
        rintro e wC ⟨d1, d2, k1, k2, rfl, hO, hbC⟩
        have hlC := hbC.size
        replace BA := BA.below hbC
        (try go_wp2_with fail)
        refine hK.out _ _ (heldVB hHeld hbC) (fun hHeld => ?_)
        clear hK K
        try simp only [Act.put, List.setIfInBounds_toArray, List.set_cons_zero, List.set_cons_succ]
        refine wpAnyH_ready (rs := [6]) (by kernel_rfl) (by simp) ?_
        refine AllReadyH.cons (o := { dst := none, op := _, type := _, pos := _, after := _, guard := _ }) rfl (fun K hK => ?_) AllReadyH.nil
        obtain ⟨q0, q1, qf, ql⟩ := BA.two
        go_simp
        (try go_wp2_with fail)
        refine hK.out _ _ (storeVB hHeld (by omega) _ _) (fun hHeld => ?_)
        clear hK K
        try simp only [Act.put, List.setIfInBounds_toArray, List.set_cons_zero, List.set_cons_succ]
        refine wpAnyH_done (by kernel_rfl) ?_ _
        rw [HJ.out]
        refine ⟨rfl, _, d1, d2, k1, k2, _, _, g1, g2, ?_, VarB.stored BA hO ?_ ?_ ?_ ?_, hHeld⟩
        all_goals (first | rfl | omega | (simp; omega))
    · intro a' w6 hj
      rw [HJ.out] at hj
      obtain ⟨B6, d1, d2, k1, k2, lo6, hi6, g1, g2, rfl, V6, x0, x1, x2, x3, y0, y1, hbw, hlw⟩ := hj
      clear HJ HSP
      try simp only [Act.put, List.setIfInBounds_toArray, List.set_cons_zero, List.set_cons_succ]
      have hB6 : B6 < w6.heap.size := V6.1.lt
      have hH6 : hi6 ≤ w6.heap.size := V6.2.2.2.2.1
      have hlw6 : w.heap.size + 1 < w6.heap.size := hlw
      go_wp2_with fail
      refine (toBoard_any a1 a2 _ _ c1 c2 xs ys _ rfl rfl l1 l2 (r1.below hbw) (r2.below hbw)).mono ?_
      rintro e w7 ⟨b1, b2, rfl, gb1, gb2, R1, R2, hb7⟩
      have hl7 := hb7.size
      have hlR := R2.lt
      have hal : Below w7.heap.size w7 (w7.alloc (.cells #[.slice (some ⟨b1, 0, none⟩) xs.length xs.length, .slice (some ⟨b2, 0, none⟩) ys.length ys.length] 28)) := (Below.refl _ _).alloc (Nat.le_refl _) _
      have V7 : VarB w6.heap.size (w7.alloc (.cells #[.slice (some ⟨b1, 0, none⟩) xs.length xs.length, .slice (some ⟨b2, 0, none⟩) ys.length ys.length] 28)) w7.heap.size (some ⟨b1, 0, none⟩) (some ⟨b2, 0, none⟩) xs.length ys.length xs.length ys.length w6.heap.size w7.heap.size xs ys :=
        ⟨Blk.new _ _ _, .inr ⟨b1, b2, rfl, rfl, by omega, gb1, by omega, by omega, hlR, R1.alloc _, R2.alloc _⟩, .inr (Nat.le_refl _), Nat.le_refl _, by simp, hl7⟩
      replace V6 := (V6.below hb7).below hal
      have hS := heldVB (heldVB ⟨x0, x1, x2, x3, y0, y1, hbw, hlw⟩ hb7) hal
      clear x0 x1 x2 x3 y0 y1 hbw hlw R1 R2
      obtain ⟨x0, x1, x2, x3, y0, y1, hbw, hlw⟩ := hS
      obtain ⟨t0, t1, tf, tl⟩ := V7.1.two
      go_wp2_with fail
      clear hal
      have hv7 : (w7.alloc (.cells #[.slice (some ⟨b1, 0, none⟩) xs.length xs.length, .slice (some ⟨b2, 0, none⟩) ys.length ys.length] 28)).heap.size = w7.heap.size + 1 := by simp
      generalize (w7.alloc (.cells #[.slice (some ⟨b1, 0, none⟩) xs.length xs.length, .slice (some ⟨b2, 0, none⟩) ys.length ys.length] 28)) = v7 at *
      have hS : v7.cell? ⟨w.heap.size, 0, none⟩ = some (.int .i64 p) ∧ v7.cell? ⟨w.heap.size, 1, none⟩ = some (.int .i64 c) ∧ v7.cell? ⟨w.heap.size, 2, none⟩ = some (.int .i64 h) ∧ v7.cell? ⟨w.heap.size, 3, none⟩ = some (.int .i64 s) ∧ v7.cell? ⟨w.heap.size + 1, 0, none⟩ = some (.slice a1 xs.length c1) ∧ v7.cell? ⟨w.heap.size + 1, 1, none⟩ = some (.slice a2 ys.length c2) ∧ Below w.heap.size w v7 ∧ w.heap.size + 1 < v7.heap.size ∧ v7.cell? ⟨w7.heap.size, 0, none⟩ = some (.slice (some ⟨b1, 0, none⟩) xs.length xs.length) ∧ v7.cell? ⟨w7.heap.size, 1, none⟩ = some (.slice (some ⟨b2, 0, none⟩) ys.length ys.length) ∧ VarB w6.heap.size v7 w7.heap.size (some ⟨b1, 0, none⟩) (some ⟨b2, 0, none⟩) xs.length ys.length xs.length ys.length w6.heap.size w7.heap.size xs ys ∧ VarB w1.heap.size v7 B6 d1 d2 sx.length sy.length k1 k2 lo6 hi6 sx sy ∧ VarB w1.heap.size v7 B6 d1 d2 sx.length sy.length k1 k2 lo6 hi6 sx sy := ⟨x0, x1, x2, x3, y0, y1, hbw, hlw, t0, t1, V7, V6, V6⟩
      clear x0 x1 x2 x3 y0 y1 hbw hlw t0 t1 tf V6 V7
      obtain ⟨J, hJ⟩ : ∃ J : Act → Act → World → Prop, J = fun a a' w' => ∃ B f1 f2 i1 i2 lo hi, a' = (((((a.put (some 25) (.agg #[.int .i64 p, .int .i64 c, .int .i64 h, .int .i64 s])).put (some 26) (.agg #[.int .i64 p, .int .i64 c, .int .i64 h, .int .i64 s])).put (some 27) (.agg #[.slice (some ⟨b1, 0, none⟩) xs.length xs.length, .slice (some ⟨b2, 0, none⟩) ys.length ys.length])).put (some 28) (.agg #[.slice f1 sx.length i1, .slice f2 sy.length i2])).put (some 8) (.pointer (some ⟨B, 0, none⟩))) ∧ VarB v7.heap.size w' B f1 f2 sx.length sy.length i1 i2 lo hi sx sy ∧ (w'.cell? ⟨w.heap.size, 0, none⟩ = some (.int .i64 p) ∧ w'.cell? ⟨w.heap.size, 1, none⟩ = some (.int .i64 c) ∧ w'.cell? ⟨w.heap.size, 2, none⟩ = some (.int .i64 h) ∧ w'.cell? ⟨w.heap.size, 3, none⟩ = some (.int .i64 s) ∧ w'.cell? ⟨w.heap.size + 1, 0, none⟩ = some (.slice a1 xs.length c1) ∧ w'.cell? ⟨w.heap.size + 1, 1, none⟩ = some (.slice a2 ys.length c2) ∧ Below w.heap.size w w' ∧ w.heap.size + 1 < w'.heap.size ∧ w'.cell? ⟨w7.heap.size, 0, none⟩ = some (.slice (some ⟨b1, 0, none⟩) xs.length xs.length) ∧ w'.cell? ⟨w7.heap.size, 1, none⟩ = some (.slice (some ⟨b2, 0, none⟩) ys.length ys.length) ∧ VarB w6.heap.size w' w7.heap.size (some ⟨b1, 0, none⟩) (some ⟨b2, 0, none⟩) xs.length ys.length xs.length ys.length w6.heap.size w7.heap.size xs ys ∧ VarB w1.heap.size w' B6 d1 d2 sx.length sy.length k1 k2 lo6 hi6 sx sy ∧ VarB w1.heap.size w' B6 d1 d2 sx.length sy.length k1 k2 lo6 hi6 sx sy) := ⟨_, rfl⟩
      have HJ := Lib.hid hJ
      clear hJ
      refine wp_region_join J ?_ ?_
      · have hd : v7.drew.heap.size = w7.heap.size + 1 := hv7
        have hS0 := hS
        obtain ⟨x0, x1, x2, x3, y0, y1, hbw, hlw, t0, t1, VX, VY, VZ⟩ := hS0
        refine wp_region_held_drew (S := fun w' => w'.cell? ⟨w.heap.size, 0, none⟩ = some (.int .i64 p) ∧ w'.cell? ⟨w.heap.size, 1, none⟩ = some (.int .i64 c) ∧ w'.cell? ⟨w.heap.size, 2, none⟩ = some (.int .i64 h) ∧ w'.cell? ⟨w.heap.size, 3, none⟩ = some (.int .i64 s) ∧ w'.cell? ⟨w.heap.size + 1, 0, none⟩ = some (.slice a1 xs.length c1) ∧ w'.cell? ⟨w.heap.size + 1, 1, none⟩ = some (.slice a2 ys.length c2) ∧ Below w.heap.size w w' ∧ w.heap.size + 1 < w'.heap.size ∧ w'.cell? ⟨w7.heap.size, 0, none⟩ = some (.slice (some ⟨b1, 0, none⟩) xs.length xs.length) ∧ w'.cell? ⟨w7.heap.size, 1, none⟩ = some (.slice (some ⟨b2, 0, none⟩) ys.length ys.length) ∧ VarB w6.heap.size w' w7.heap.size (some ⟨b1, 0, none⟩) (some ⟨b2, 0, none⟩) xs.length ys.length xs.length ys.length w6.heap.size w7.heap.size xs ys ∧ VarB w1.heap.size w' B6 d1 d2 sx.length sy.length k1 k2 lo6 hi6 sx sy ∧ VarB w1.heap.size w' B6 d1 d2 sx.length sy.length k1 k2 lo6 hi6 sx sy) (by kernel_rfl) (drew3V hS) (fun hHeld => ?_)
        clear x0 x1 x2 x3 y0 y1 hbw hlw t0 t1 VX VY VZ hS
        generalize v7.drew = vd at *
        refine wpAnyH_take (i := 0) (oi := { dst := some 25, op := _, type := _, pos := _, after := _, guard := _ }) (v := ?_) rfl (by kernel_rfl) (by kernel_rfl) (by kernel_rfl) (fun _ _ _ h => absurd h.1 (by simp)) (Or.inl ⟨by rfl, ?_⟩) (by assumption) ?_
        rotate_left
        · intro w hSw
          (try dsimp only at hSw)
          go_simp
          (try (with_reducible rfl))
        try simp only [Act.put, List.setIfInBounds_toArray, List.set_cons_zero, List.set_cons_succ]
        refine wpAnyH_take (i := 2) (oi := { dst := some 27, op := _, type := _, pos := _, after := _, guard := _ }) (v := ?_) rfl (by kernel_rfl) (by kernel_rfl) (by kernel_rfl) (fun _ _ _ h => absurd h.1 (by simp)) (Or.inl ⟨by rfl, ?_⟩) (by assumption) ?_
        rotate_left
        · intro w hSw
          (try dsimp only at hSw)
          go_simp
          (try (with_reducible rfl))
        try simp only [Act.put, List.setIfInBounds_toArray, List.set_cons_zero, List.set_cons_succ]
        refine wpAnyH_ready (rs := [1, 4]) (by kernel_rfl) (by simp) ?_
        refine AllReadyH.cons (o := { dst := some 26, op := _, type := _, pos := _, after := _, guard := _ }) rfl (fun K hK => ?_) (AllReadyH.cons (o := { dst := some 8, op := _, type := _, pos := _, after := _, guard := _ }) rfl (fun K hK => ?_) AllReadyH.nil)
        · go_simp
          refine (toVariant_any _ _ _ _ _).mono ?_
          rintro e wA ⟨rfl, hbA⟩
          have hlA := hbA.size
          (try go_wp2_with fail)
          refine hK.out _ _ (held3V hHeld hbA) (fun hHeld => ?_)
          clear hK K
          try simp only [Act.put, List.setIfInBounds_toArray, List.set_cons_zero, List.set_cons_succ]
          refine wpAnyH_ready (rs := [3, 4]) (by kernel_rfl) (by simp) ?_
          refine AllReadyH.cons (o := { dst := some 28, op := _, type := _, pos := _, after := _, guard := _ }) rfl (fun K hK => ?_) (AllReadyH.cons (o := { dst := some 8, op := _, type := _, pos := _, after := _, guard := _ }) rfl (fun K hK => ?_) AllReadyH.nil)
          · go_simp
            refine (HIM.out _ _ _ _ _ _ _ rfl rfl l1 l2 hHeld.2.2.2.2.2.2.2.2.2.2.1.2.1.irow1 hHeld.2.2.2.2.2.2.2.2.2.2.1.2.1.irow2).mono ?_
            rintro e wC ⟨f1, f2, i1, i2, rfl, hO, hbC⟩
            have hlC := hbC.size
            (try go_wp2_with fail)
            refine hK.out _ _ (held3V hHeld hbC) (fun hHeld => ?_)
            clear hK K
            try simp only [Act.put, List.setIfInBounds_toArray, List.set_cons_zero, List.set_cons_succ]
            refine wpAnyH_ready (rs := [4]) (by kernel_rfl) (by simp) ?_
            refine AllReadyH.cons (o := { dst := some 8, op := _, type := _, pos := _, after := _, guard := _ }) rfl (fun K hK => ?_) AllReadyH.nil
            go_simp
            refine hK.out _ _ (held3V hHeld ((Below.refl _ _).alloc (Nat.le_refl _) _)) (fun hHeld => ?_)
            clear hK K
            try simp only [Act.put, List.setIfInBounds_toArray, List.set_cons_zero, List.set_cons_succ]
            have BA := Blk.new wC #[.slice none 0 0, .slice none 0 0] 28
            have hlN : (wC.alloc (.cells #[.slice none 0 0, .slice none 0 0] 28)).heap.size = wC.heap.size + 1 := by simp
            replace hO := hO.alloc (.cells #[.slice none 0 0, .slice none 0 0] 28)
            (try rw [hd] at BA)
            generalize wC.alloc (.cells #[.slice none 0 0, .slice none 0 0] 28) = wN at *
            refine wpAnyH_ready (rs := [5]) (by kernel_rfl) (by simp) ?_
            refine AllReadyH.cons (o := { dst := none, op := _, type := _, pos := _, after := _, guard := _ }) rfl (fun K hK => ?_) AllReadyH.nil
            obtain ⟨q0, q1, qf, ql⟩ := BA.two
            go_simp
            (try go_wp2_with fail)
            refine hK.out _ _ (store3V hHeld (by omega) (by omega) (by omega) (by omega) _ _) (fun hHeld => ?_)
            clear hK K
            try simp only [Act.put, List.setIfInBounds_toArray, List.set_cons_zero, List.set_cons_succ]
            refine wpAnyH_done (by kernel_rfl) ?_ _
            rw [HJ.out]
            refine ⟨rfl, _, f1, f2, i1, i2, _, _, ?_, VarB.stored BA hO ?_ ?_ ?_ ?_, hHeld⟩
            all_goals (first | rfl | omega | (simp; omega))
          · go_simp
            refine hK.out _ _ (held3V hHeld ((Below.refl _ _).alloc (Nat.le_refl _) _)) (fun hHeld => ?_)
            clear hK K
            try simp only [Act.put, List.setIfInBounds_toArray, List.set_cons_zero, List.set_cons_succ]
            have BA := Blk.new wA #[.slice none 0 0, .slice none 0 0] 28
            have hlN : (wA.alloc (.cells #[.slice none 0 0, .slice none 0 0] 28)).heap.size = wA.heap.size + 1 := by simp
            (try rw [hd] at BA)
            generalize wA.alloc (.cells #[.slice none 0 0, .slice none 0 0] 28) = wN at *
            refine wpAnyH_ready (rs := [3]) (by kernel_rfl) (by simp) ?_
            refine AllReadyH.cons (o := { dst := some 28, op := _, type := _, pos := _, after := _, guard := _ }) rfl (fun K hK => ?_) AllReadyH.nil
            go_simp
            refine (HIM.out _ _ _ _ _ _ _ rfl rfl l1 l2 hHeld.2.2.2.2.2.2.2.2.2.2.1.2.1.irow1 hHeld.2.2.2.2.2.2.2.2.2.2.1.2.1.irow2).mono ?_
            rintro e wC ⟨f1, f2, i1, i2, rfl, hO, hbC⟩
            have hlC := hbC.size
            replace BA := BA.below hbC
            (try go_wp2_with fail)
            refine hK.out _ _ (held3V hHeld hbC) (fun hHeld => ?_)
            clear hK K
            try simp only [Act.put, List.setIfInBounds_toArray, List.set_cons_zero, List.set_cons_succ]
            refine wpAnyH_ready (rs := [5]) (by kernel_rfl) (by simp) ?_
            refine AllReadyH.cons (o := { dst := none, op := _, type := _, pos := _, after := _, guard := _ }) rfl (fun K hK => ?_) AllReadyH.nil
            obtain ⟨q0, q1, qf, ql⟩ := BA.two
            go_simp
            (try go_wp2_with fail)
            refine hK.out _ _ (store3V hHeld (by omega) (by omega) (by omega) (by omega) _ _) (fun hHeld => ?_)
            clear hK K
            try simp only [Act.put, List.setIfInBounds_toArray, List.set_cons_zero, List.set_cons_succ]
            refine wpAnyH_done (by kernel_rfl) ?_ _
            rw [HJ.out]
            refine ⟨rfl, _, f1, f2, i1, i2, _, _, ?_, VarB.stored BA hO ?_ ?_ ?_ ?_, hHeld⟩
            all_goals (first | rfl | omega | (simp; omega))
        · go_simp
          refine hK.out _ _ (held3V hHeld ((Below.refl _ _).alloc (Nat.le_refl _) _)) (fun hHeld => ?_)
          clear hK K
          try simp only [Act.put, List.setIfInBounds_toArray, List.set_cons_zero, List.set_cons_succ]
          have BA := Blk.new vd #[.slice none 0 0, .slice none 0 0] 28
          have hlN : (vd.alloc (.cells #[.slice none 0 0, .slice none 0 0] 28)).heap.size = vd.heap.size + 1 := by simp
          (try rw [hd] at BA)
          generalize vd.alloc (.cells #[.slice none 0 0, .slice none 0 0] 28) = wN at *
          refine wpAnyH_ready (rs := [1]) (by kernel_rfl) (by simp) ?_
          refine AllReadyH.cons (o := { dst := some 26, op := _, type := _, pos := _, after := _, guard := _ }) rfl (fun K hK => ?_) AllReadyH.nil
          go_simp
          refine (toVariant_any _ _ _ _ _).mono ?_
          rintro e wA ⟨rfl, hbA⟩
          have hlA := hbA.size
          replace BA := BA.below hbA
          (try go_wp2_with fail)
          refine hK.out _ _ (held3V hHeld hbA) (fun hHeld => ?_)
          clear hK K
          try simp only [Act.put, List.setIfInBounds_toArray, List.set_cons_zero, List.set_cons_succ]
          refine wpAnyH_ready (rs := [3]) (by kernel_rfl) (by simp) ?_
          refine AllReadyH.cons (o := { dst := some 28, op := _, type := _, pos := _, after := _, guard := _ }) rfl (fun K hK => ?_) AllReadyH.nil
          go_simp
          refine (HIM.out _ _ _ _ _ _ _ rfl rfl l1 l2 hHeld.2.2.2.2.2.2.2.2.2.2.1.2.1.irow1 hHeld.2.2.2.2.2.2.2.2.2.2.1.2.1.irow2).mono ?_
          rintro e wC ⟨f1, f2, i1, i2, rfl, hO, hbC⟩
          have hlC := hbC.size
          replace BA := BA.below hbC
          (try go_wp2_with fail)
          refine hK.out _ _ (held3V hHeld hbC) (fun hHeld => ?_)
          clear hK K
          try simp only [Act.put, List.setIfInBounds_toArray, List.set_cons_zero, List.set_cons_succ]
          refine wpAnyH_ready (rs := [5]) (by kernel_rfl) (by simp) ?_
          refine AllReadyH.cons (o := { dst := none, op := _, type := _, pos := _, after := _, guard := _ }) rfl (fun K hK => ?_) AllReadyH.nil
          obtain ⟨q0, q1, qf, ql⟩ := BA.two
          go_simp
          (try go_wp2_with fail)
          refine hK.out _ _ (store3V hHeld (by omega) (by omega) (by omega) (by omega) _ _) (fun hHeld => ?_)
          clear hK K
          try simp only [Act.put, List.setIfInBounds_toArray, List.set_cons_zero, List.set_cons_succ]
          refine wpAnyH_done (by kernel_rfl) ?_ _
          rw [HJ.out]
          refine ⟨rfl, _, f1, f2, i1, i2, _, _, ?_, VarB.stored BA hO ?_ ?_ ?_ ?_, hHeld⟩
          all_goals (first | rfl | omega | (simp; omega))
      · intro a' w8 hj
        rw [HJ.out] at hj
        clear HJ hS
        obtain ⟨B8, e1, e2, j1, j2, lo8, hi8, rfl, V8, hS⟩ := hj
        obtain ⟨x0, x1, x2, x3, y0, y1, hbw, hlw, t0, t1, VX, VY, VZ⟩ := hS
        have hlo8 : v7.heap.size ≤ lo8 := V8.2.2.2.1
        have hlB8 : v7.heap.size ≤ B8 := V8.2.2.2.2.2
        have hS : w8.cell? ⟨w.heap.size, 0, none⟩ = some (.int .i64 p) ∧ w8.cell? ⟨w.heap.size, 1, none⟩ = some (.int .i64 c) ∧ w8.cell? ⟨w.heap.size, 2, none⟩ = some (.int .i64 h) ∧ w8.cell? ⟨w.heap.size, 3, none⟩ = some (.int .i64 s) ∧ w8.cell? ⟨w.heap.size + 1, 0, none⟩ = some (.slice a1 xs.length c1) ∧ w8.cell? ⟨w.heap.size + 1, 1, none⟩ = some (.slice a2 ys.length c2) ∧ Below w.heap.size w w8 ∧ w.heap.size + 1 < w8.heap.size ∧ w8.cell? ⟨w7.heap.size, 0, none⟩ = some (.slice (some ⟨b1, 0, none⟩) xs.length xs.length) ∧ w8.cell? ⟨w7.heap.size, 1, none⟩ = some (.slice (some ⟨b2, 0, none⟩) ys.length ys.length) ∧ VarB w6.heap.size w8 w7.heap.size (some ⟨b1, 0, none⟩) (some ⟨b2, 0, none⟩) xs.length ys.length xs.length ys.length w6.heap.size w7.heap.size xs ys ∧ VarB w1.heap.size w8 B6 d1 d2 sx.length sy.length k1 k2 lo6 hi6 sx sy ∧ VarB v7.heap.size w8 B8 e1 e2 sx.length sy.length j1 j2 lo8 hi8 sx sy := ⟨x0, x1, x2, x3, y0, y1, hbw, hlw, t0, t1, VX, VY, V8⟩
        clear x0 x1 x2 x3 y0 y1 hbw hlw t0 t1 VX VY VZ V8
        have hS0 := hS
        obtain ⟨x0, x1, x2, x3, y0, y1, hbw, hlw, t0, t1, VX, VY, VZ⟩ := hS0
        obtain ⟨u0, u1, uf, ul⟩ := VY.1.two
        obtain ⟨z0, z1, zf, zl⟩ := VZ.1.two
        try simp only [Act.put, List.setIfInBounds_toArray, List.set_cons_zero, List.set_cons_succ]
        go_wp2_with fail
        refine (eqBoard_same _ _ _ _ _ _ _ _ _ _ sx sy _ rfl rfl ls1 ls2 VZ.2.1.irow1 VZ.2.1.irow2 VY.2.1.irow1 VY.2.1.irow2).mono ?_
        rintro e w9 ⟨rfl, hb9⟩
        replace hS := held3V hS hb9
        clear x0 x1 x2 x3 y0 y1 hbw hlw t0 t1 VX VY VZ u0 u1 uf ul z0 z1 zf zl
        have hS0 := hS
        obtain ⟨x0, x1, x2, x3, y0, y1, hbw, hlw, t0, t1, VX, VY, VZ⟩ := hS0
        go_wp2_with fail
        refine wp_region_held_drew (S := fun w' => w'.cell? ⟨w.heap.size, 0, none⟩ = some (.int .i64 p) ∧ w'.cell? ⟨w.heap.size, 1, none⟩ = some (.int .i64 c) ∧ w'.cell? ⟨w.heap.size, 2, none⟩ = some (.int .i64 h) ∧ w'.cell? ⟨w.heap.size, 3, none⟩ = some (.int .i64 s) ∧ w'.cell? ⟨w.heap.size + 1, 0, none⟩ = some (.slice a1 xs.length c1) ∧ w'.cell? ⟨w.heap.size + 1, 1, none⟩ = some (.slice a2 ys.length c2) ∧ Below w.heap.size w w' ∧ w.heap.size + 1 < w'.heap.size ∧ w'.cell? ⟨w7.heap.size, 0, none⟩ = some (.slice (some ⟨b1, 0, none⟩) xs.length xs.length) ∧ w'.cell? ⟨w7.heap.size, 1, none⟩ = some (.slice (some ⟨b2, 0, none⟩) ys.length ys.length) ∧ VarB w6.heap.size w' w7.heap.size (some ⟨b1, 0, none⟩) (some ⟨b2, 0, none⟩) xs.length ys.length xs.length ys.length w6.heap.size w7.heap.size xs ys ∧ VarB w1.heap.size w' B6 d1 d2 sx.length sy.length k1 k2 lo6 hi6 sx sy ∧ VarB v7.heap.size w' B8 e1 e2 sx.length sy.length j1 j2 lo8 hi8 sx sy) (by kernel_rfl) (drew3V hS) (fun hHeld => ?_)
        refine wpAnyH_take (i := 0) (oi := { dst := some 33, op := _, type := _, pos := _, after := _, guard := _ }) (v := ?_) rfl (by kernel_rfl) (by kernel_rfl) (by kernel_rfl) (fun _ _ _ h => h) (Or.inl ⟨by rfl, ?_⟩) (by assumption) ?_
        rotate_left
        · intro w hSw
          (try dsimp only at hSw)
          go_simp
          (try (with_reducible rfl))
        try simp only [Act.put, List.setIfInBounds_toArray, List.set_cons_zero, List.set_cons_succ]
        refine wpAnyH_take (i := 1) (oi := { dst := some 34, op := _, type := _, pos := _, after := _, guard := _ }) (v := ?_) rfl (by kernel_rfl) (by kernel_rfl) (by kernel_rfl) (fun _ _ _ h => h) (Or.inl ⟨by rfl, ?_⟩) (by assumption) ?_
        rotate_left
        · intro w hSw
          (try dsimp only at hSw)
          go_simp
          (try (with_reducible rfl))
        try simp only [Act.put, List.setIfInBounds_toArray, List.set_cons_zero, List.set_cons_succ]
        refine wpAnyH_ready (rs := [2]) (by kernel_rfl) (by simp) ?_
        refine AllReadyH.cons (o := { dst := some 35, op := _, type := _, pos := _, after := _, guard := _ }) rfl (fun K hK => ?_) AllReadyH.nil
        go_simp
        refine (toBoard_any a1 a2 _ _ c1 c2 xs ys _ rfl rfl l1 l2 (r1.below hHeld.2.2.2.2.2.2.1) (r2.below hHeld.2.2.2.2.2.2.1)).mono ?_
        rintro e w10 ⟨g1, g2, rfl, gg1, gg2, Q1, Q2, hb10⟩
        (try go_wp2_with fail)
        refine hK.out _ _ (held3V hHeld hb10) (fun hHeld => ?_)
        clear hK K
        try simp only [Act.put, List.setIfInBounds_toArray, List.set_cons_zero, List.set_cons_succ]
        refine wpAnyH_ready (rs := [3]) (by kernel_rfl) (by simp) ?_
        refine AllReadyH.cons (o := { dst := some 36, op := _, type := _, pos := _, after := _, guard := _ }) rfl (fun K hK => ?_) AllReadyH.nil
        go_simp
        refine (eqBoard_same _ _ _ _ _ _ _ _ _ _ xs ys _ rfl rfl l1 l2 hHeld.2.2.2.2.2.2.2.2.2.2.1.2.1.irow1 hHeld.2.2.2.2.2.2.2.2.2.2.1.2.1.irow2 Q1.irow Q2.irow).mono ?_
        rintro e w11 ⟨rfl, hb11⟩
        (try go_wp2_with fail)
        refine hK.out _ _ (held3V hHeld hb11) (fun hHeld => ?_)
        clear hK K
        try simp only [Act.put, List.setIfInBounds_toArray, List.set_cons_zero, List.set_cons_succ]
        refine wpAnyH_take (i := 4) (oi := { dst := some 37, op := _, type := _, pos := _, after := _, guard := _ }) (v := ?_) rfl (by kernel_rfl) (by kernel_rfl) (by kernel_rfl) (fun _ _ _ h => h) (Or.inl ⟨by rfl, ?_⟩) (by assumption) ?_
        rotate_left
        · intro w hSw
          (try dsimp only at hSw)
          go_simp
          (try (with_reducible rfl))
        try simp only [Act.put, List.setIfInBounds_toArray, List.set_cons_zero, List.set_cons_succ]
        refine wpAnyH_done (by kernel_rfl) ?_ _
        have hS := hHeld
        clear x0 x1 x2 x3 y0 y1 hbw hlw t0 t1 VX VY VZ
        have hS0 := hS
        obtain ⟨x0, x1, x2, x3, y0, y1, hbw, hlw, t0, t1, VX, VY, VZ⟩ := hS0
        go_wp2_with fail
        have hH8 := VZ.2.2.2.2.1
        refine (markBoard_own w6.heap.size w7.heap.size _ _ _ _ _ _ xs ys 1 _ rfl rfl l1 l2 (by omega) (by omega) VX.2.1).mono ?_
        rintro e w13 ⟨rfl, hO13, hs13⟩
        replace hS := mark3V hS hs13 hO13 (by omega) (by omega) (by omega)
        have hSv : w13.cell? ⟨w.heap.size, 0, none⟩ = some (.int .i64 p) ∧ w13.cell? ⟨w.heap.size, 1, none⟩ = some (.int .i64 c) ∧ w13.cell? ⟨w.heap.size, 2, none⟩ = some (.int .i64 h) ∧ w13.cell? ⟨w.heap.size, 3, none⟩ = some (.int .i64 s) ∧ w13.cell? ⟨w.heap.size + 1, 0, none⟩ = some (.slice a1 xs.length c1) ∧ w13.cell? ⟨w.heap.size + 1, 1, none⟩ = some (.slice a2 ys.length c2) ∧ Below w.heap.size w w13 ∧ w.heap.size + 1 < w13.heap.size ∧ w13.cell? ⟨B8, 0, none⟩ = some (.slice e1 sx.length j1) ∧ w13.cell? ⟨B8, 1, none⟩ = some (.slice e2 sy.length j2) ∧ VarB v7.heap.size w13 B8 e1 e2 sx.length sy.length j1 j2 lo8 hi8 sx sy ∧ VarB w1.heap.size w13 B6 d1 d2 sx.length sy.length k1 k2 lo6 hi6 sx sy ∧ VarB w1.heap.size w13 B6 d1 d2 sx.length sy.length k1 k2 lo6 hi6 sx sy := by
          obtain ⟨x0, x1, x2, x3, y0, y1, hbw, hlw, t0, t1, VX, VY, VZ⟩ := hS
          exact ⟨x0, x1, x2, x3, y0, y1, hbw, hlw, VZ.1.two.1, VZ.1.two.2.1, VZ, VY, VY⟩
        clear x0 x1 x2 x3 y0 y1 hbw hlw t0 t1 VX VY VZ hS hHeld hO13 hs13
        have hS := hSv
        obtain ⟨x0, x1, x2, x3, y0, y1, hbw, hlw, t0, t1, VX, VY, VZ⟩ := hSv
        obtain ⟨u0, u1, uf, ul⟩ := VY.1.two
        have hk0 : ¬ ((1 : Int) + (xs.length : Int) + (ys.length : Int) < 0) := by omega
        have hq0 : ¬ ((1 : Int) + (sx.length : Int) + (sy.length : Int) < 0) := by omega
        go_wp2_with fail
        refine (eqBoard_same _ _ _ _ _ _ _ _ _ _ sx sy _ rfl rfl ls1 ls2 VX.2.1.irow1 VX.2.1.irow2 VY.2.1.irow1 VY.2.1.irow2).mono ?_
        rintro e w14 ⟨rfl, hb14⟩
        replace hS := held3V hS hb14
        clear x0 x1 x2 x3 y0 y1 hbw hlw t0 t1 VX VY VZ u0 u1 uf ul
        have hS0 := hS
        obtain ⟨x0, x1, x2, x3, y0, y1, hbw, hlw, t0, t1, VX, VY, VZ⟩ := hS0
        go_wp2_with fail
        refine (markBoard_own lo8 hi8 _ _ _ _ _ _ sx sy 1 _ rfl rfl ls1 ls2 (by omega) (by omega) VX.2.1).mono ?_
        rintro e w17 ⟨rfl, hO17, hs17⟩
        replace hS := mark3V hS hs17 hO17 (by omega) (by omega) (by omega)
        clear x0 x1 x2 x3 y0 y1 hbw hlw t0 t1 VX VY VZ hO17 hs17
        have hS0 := hS
        obtain ⟨x0, x1, x2, x3, y0, y1, hbw, hlw, t0, t1, VX, VY, VZ⟩ := hS0
        go_wp2_with fail
        refine (heldBoard_any _ _ sx.length sy.length _ _ 1 _ ls1 ls2 (by omega) (by omega) VX.2.1.irow1 VX.2.1.irow2).mono ?_
        rintro e w19 ⟨rfl, hb19⟩
        replace hS := held3V hS hb19
        clear x0 x1 x2 x3 y0 y1 hbw hlw t0 t1 VX VY VZ
        have hS0 := hS
        obtain ⟨x0, x1, x2, x3, y0, y1, hbw, hlw, t0, t1, VX, VY, VZ⟩ := hS0
        have hB6' : B6 < w19.heap.size := VY.1.lt
        have hH6' : hi6 ≤ w19.heap.size := VY.2.2.2.2.1
        have hB8' : B8 < w19.heap.size := VX.1.lt
        have hH8' : hi8 ≤ w19.heap.size := VX.2.2.2.2.1
        go_wp2_with fail
        obtain ⟨J, hJ⟩ : ∃ J : Act → Act → World → Prop, J = fun a a' w' => ∃ B f1 f2 i1 i2 lo hi g1 g2, a' = ((((((a.put (some 60) (.agg #[.int .i64 p, .int .i64 c, .int .i64 h, .int .i64 s])).put (some 61) (.agg #[.int .i64 p, .int .i64 c, .int .i64 h, .int .i64 s])).put (some 62) (.agg #[.slice a1 xs.length c1, .slice a2 ys.length c2])).put (some 63) (.agg #[.slice (some ⟨g1, 0, none⟩) xs.length xs.length, .slice (some ⟨g2, 0, none⟩) ys.length ys.length])).put (some 64) (.agg #[.slice f1 sx.length i1, .slice f2 sy.length i2])).put (some 12) (.pointer (some ⟨B, 0, none⟩))) ∧ VarB w19.heap.size w' B f1 f2 sx.length sy.length i1 i2 lo hi sx sy ∧ (w'.cell? ⟨w.heap.size, 0, none⟩ = some (.int .i64 p) ∧ w'.cell? ⟨w.heap.size, 1, none⟩ = some (.int .i64 c) ∧ w'.cell? ⟨w.heap.size, 2, none⟩ = some (.int .i64 h) ∧ w'.cell? ⟨w.heap.size, 3, none⟩ = some (.int .i64 s) ∧ w'.cell? ⟨w.heap.size + 1, 0, none⟩ = some (.slice a1 xs.length c1) ∧ w'.cell? ⟨w.heap.size + 1, 1, none⟩ = some (.slice a2 ys.length c2) ∧ Below w.heap.size w w' ∧ w.heap.size + 1 < w'.heap.size ∧ w'.cell? ⟨B8, 0, none⟩ = some (.slice e1 sx.length j1) ∧ w'.cell? ⟨B8, 1, none⟩ = some (.slice e2 sy.length j2) ∧ VarB v7.heap.size w' B8 e1 e2 sx.length sy.length j1 j2 lo8 hi8 (marks 1 sx.length) (marks (1 + (sx.length : Int)) sy.length) ∧ VarB w1.heap.size w' B6 d1 d2 sx.length sy.length k1 k2 lo6 hi6 sx sy ∧ VarB w1.heap.size w' B6 d1 d2 sx.length sy.length k1 k2 lo6 hi6 sx sy) := ⟨_, rfl⟩
        have HJ := Lib.hid hJ
        clear hJ
        refine wp_region_join J ?_ ?_
        · have hd : w19.drew.heap.size = w19.heap.size := rfl
          refine wp_region_held_drew (S := fun w' => w'.cell? ⟨w.heap.size, 0, none⟩ = some (.int .i64 p) ∧ w'.cell? ⟨w.heap.size, 1, none⟩ = some (.int .i64 c) ∧ w'.cell? ⟨w.heap.size, 2, none⟩ = some (.int .i64 h) ∧ w'.cell? ⟨w.heap.size, 3, none⟩ = some (.int .i64 s) ∧ w'.cell? ⟨w.heap.size + 1, 0, none⟩ = some (.slice a1 xs.length c1) ∧ w'.cell? ⟨w.heap.size + 1, 1, none⟩ = some (.slice a2 ys.length c2) ∧ Below w.heap.size w w' ∧ w.heap.size + 1 < w'.heap.size ∧ w'.cell? ⟨B8, 0, none⟩ = some (.slice e1 sx.length j1) ∧ w'.cell? ⟨B8, 1, none⟩ = some (.slice e2 sy.length j2) ∧ VarB v7.heap.size w' B8 e1 e2 sx.length sy.length j1 j2 lo8 hi8 (marks 1 sx.length) (marks (1 + (sx.length : Int)) sy.length) ∧ VarB w1.heap.size w' B6 d1 d2 sx.length sy.length k1 k2 lo6 hi6 sx sy ∧ VarB w1.heap.size w' B6 d1 d2 sx.length sy.length k1 k2 lo6 hi6 sx sy) (by kernel_rfl) (drew3V hS) (fun hHeld => ?_)
          clear x0 x1 x2 x3 y0 y1 hbw hlw t0 t1 VX VY VZ hS
          generalize w19.drew = vd at *
          refine wpAnyH_take (i := 0) (oi := { dst := some 60, op := _, type := _, pos := _, after := _, guard := _ }) (v := ?_) rfl (by kernel_rfl) (by kernel_rfl) (by kernel_rfl) (fun _ _ _ h => absurd h.1 (by simp)) (Or.inl ⟨by rfl, ?_⟩) (by assumption) ?_
          rotate_left
          · intro w hSw
            (try dsimp only at hSw)
            go_simp
            (try (with_reducible rfl))
          try simp only [Act.put, List.setIfInBounds_toArray, List.set_cons_zero, List.set_cons_succ]
          refine wpAnyH_take (i := 2) (oi := { dst := some 62, op := _, type := _, pos := _, after := _, guard := _ }) (v := ?_) rfl (by kernel_rfl) (by kernel_rfl) (by kernel_rfl) (fun _ _ _ h => absurd h.1 (by simp)) (Or.inl ⟨by rfl, ?_⟩) (by assumption) ?_
          rotate_left
          · intro w hSw
            (try dsimp only at hSw)
            go_simp
            (try (with_reducible rfl))
          try simp only [Act.put, List.setIfInBounds_toArray, List.set_cons_zero, List.set_cons_succ]
          refine wpAnyH_ready (rs := [1, 5]) (by kernel_rfl) (by simp) ?_
          refine AllReadyH.cons (o := { dst := some 61, op := _, type := _, pos := _, after := _, guard := _ }) rfl (fun K hK => ?_) (AllReadyH.cons (o := { dst := some 12, op := _, type := _, pos := _, after := _, guard := _ }) rfl (fun K hK => ?_) AllReadyH.nil)
          · go_simp
            refine (toVariant_any _ _ _ _ _).mono ?_
            rintro e wA ⟨rfl, hbA⟩
            have hlA := hbA.size
            (try go_wp2_with fail)
            refine hK.out _ _ (held3V hHeld hbA) (fun hHeld => ?_)
            clear hK K
            try simp only [Act.put, List.setIfInBounds_toArray, List.set_cons_zero, List.set_cons_succ]
            refine wpAnyH_ready (rs := [3, 5]) (by kernel_rfl) (by simp) ?_
            refine AllReadyH.cons (o := { dst := some 63, op := _, type := _, pos := _, after := _, guard := _ }) rfl (fun K hK => ?_) (AllReadyH.cons (o := { dst := some 12, op := _, type := _, pos := _, after := _, guard := _ }) rfl (fun K hK => ?_) AllReadyH.nil)
            · go_simp
              refine (toBoard_any a1 a2 _ _ c1 c2 xs ys _ rfl rfl l1 l2 (r1.below hHeld.2.2.2.2.2.2.1) (r2.below hHeld.2.2.2.2.2.2.1)).mono ?_
              rintro e wB ⟨g1, g2, rfl, gg1, gg2, R1, R2, hbB⟩
              have hlB := hbB.size
              (try go_wp2_with fail)
              refine hK.out _ _ (held3V hHeld hbB) (fun hHeld => ?_)
              clear hK K
              try simp only [Act.put, List.setIfInBounds_toArray, List.set_cons_zero, List.set_cons_succ]
              refine wpAnyH_ready (rs := [4, 5]) (by kernel_rfl) (by simp) ?_
              refine AllReadyH.cons (o := { dst := some 64, op := _, type := _, pos := _, after := _, guard := _ }) rfl (fun K hK => ?_) (AllReadyH.cons (o := { dst := some 12, op := _, type := _, pos := _, after := _, guard := _ }) rfl (fun K hK => ?_) AllReadyH.nil)
              · go_simp
                refine (HIM.out _ _ _ _ _ _ _ rfl rfl l1 l2 R1.irow R2.irow).mono ?_
                rintro e wC ⟨f1, f2, i1, i2, rfl, hO, hbC⟩
                have hlC := hbC.size
                (try go_wp2_with fail)
                refine hK.out _ _ (held3V hHeld hbC) (fun hHeld => ?_)
                clear hK K
                try simp only [Act.put, List.setIfInBounds_toArray, List.set_cons_zero, List.set_cons_succ]
                refine wpAnyH_ready (rs := [5]) (by kernel_rfl) (by simp) ?_
                refine AllReadyH.cons (o := { dst := some 12, op := _, type := _, pos := _, after := _, guard := _ }) rfl (fun K hK => ?_) AllReadyH.nil
                go_simp
                refine hK.out _ _ (held3V hHeld ((Below.refl _ _).alloc (Nat.le_refl _) _)) (fun hHeld => ?_)
                clear hK K
                try simp only [Act.put, List.setIfInBounds_toArray, List.set_cons_zero, List.set_cons_succ]
                have BA := Blk.new wC #[.slice none 0 0, .slice none 0 0] 28
                have hlN : (wC.alloc (.cells #[.slice none 0 0, .slice none 0 0] 28)).heap.size = wC.heap.size + 1 := by simp
                replace hO := hO.alloc (.cells #[.slice none 0 0, .slice none 0 0] 28)
                (try rw [hd] at BA)
                generalize wC.alloc (.cells #[.slice none 0 0, .slice none 0 0] 28) = wN at *
                refine wpAnyH_ready (rs := [6]) (by kernel_rfl) (by simp) ?_
                refine AllReadyH.cons (o := { dst := none, op := _, type := _, pos := _, after := _, guard := _ }) rfl (fun K hK => ?_) AllReadyH.nil
                obtain ⟨q0, q1, qf, ql⟩ := BA.two
                go_simp
                (try go_wp2_with fail)
                refine hK.out _ _ (store3V hHeld (by omega) (by omega) (by omega) (by omega) _ _) (fun hHeld => ?_)
                clear hK K
                try simp only [Act.put, List.setIfInBounds_toArray, List.set_cons_zero, List.set_cons_succ]
                refine wpAnyH_done (by kernel_rfl) ?_ _
                rw [HJ.out]
                refine ⟨rfl, _, f1, f2, i1, i2, _, _, g1, g2, ?_, VarB.stored BA hO ?_ ?_ ?_ ?_, hHeld⟩
                all_goals (first | rfl | omega | (simp; omega))
              · go_simp
                refine hK.out _ _ (held3V hHeld ((Below.refl _ _).alloc (Nat.le_refl _) _)) (fun hHeld => ?_)
                clear hK K
                try simp only [Act.put, List.setIfInBounds_toArray, List.set_cons_zero, List.set_cons_succ]
                have BA := Blk.new wB #[.slice none 0 0, .slice none 0 0] 28
                have hlN : (wB.alloc (.cells #[.slice none 0 0, .slice none 0 0] 28)).heap.size = wB.heap.size + 1 := by simp
                replace R1 := R1.alloc (.cells #[.slice none 0 0, .slice none 0 0] 28)
                replace R2 := R2.alloc (.cells #[.slice none 0 0, .slice none 0 0] 28)
                (try rw [hd] at BA)
                generalize wB.alloc (.cells #[.slice none 0 0, .slice none 0 0] 28) = wN at *
                refine wpAnyH_ready (rs := [4]) (by kernel_rfl) (by simp) ?_
                refine AllReadyH.cons (o := { dst := some 64, op := _, type := _, pos := _, after := _, guard := _ }) rfl (fun K hK => ?_) AllReadyH.nil
                go_simp
                refine (HIM.out _ _ _ _ _ _ _ rfl rfl l1 l2 R1.irow R2.irow).mono ?_
                rintro e wC ⟨f1, f2, i1, i2, rfl, hO, hbC⟩
                have hlC := hbC.size
                replace BA := BA.below hbC
                (try go_wp2_with fail)
                refine hK.out _ _ (held3V hHeld hbC) (fun hHeld => ?_)
                clear hK K
                try simp only [Act.put, List.setIfInBounds_toArray, List.set_cons_zero, List.set_cons_succ]
                refine wpAnyH_ready (rs := [6]) (by kernel_rfl) (by simp) ?_
                refine AllReadyH.cons (o := { dst := none, op := _, type := _, pos := _, after := _, guard := _ }) rfl (fun K hK => ?_) AllReadyH.nil
                obtain ⟨q0, q1, qf, ql⟩ := BA.two
                go_simp
                (try go_wp2_with fail)
                refine hK.out _ _ (store3V hHeld (by omega) (by omega) (by omega) (by omega) _ _) (fun hHeld => ?_)
                clear hK K
                try simp only [Act.put, List.setIfInBounds_toArray, List.set_cons_zero, List.set_cons_succ]
                refine wpAnyH_done (by kernel_rfl) ?_ _
                rw [HJ.out]
                refine ⟨rfl, _, f1, f2, i1, i2, _, _, g1, g2, ?_, VarB.stored BA hO ?_ ?_ ?_ ?_, hHeld⟩
                all_goals (first | rfl | omega | (simp; omega))
            · go_simp
              refine hK.out _ _ (held3V hHeld ((Below.refl _ _).alloc (Nat.le_refl _) _)) (fun hHeld => ?_)
              clear hK K
              try simp only [Act.put, List.setIfInBounds_toArray, List.set_cons_zero, List.set_cons_succ]
              have BA := Blk.new wA #[.slice none 0 0, .slice none 0 0] 28
              have hlN : (wA.alloc (.cells #[.slice none 0 0, .slice none 0 0] 28)).heap.size = wA.heap.size + 1 := by simp
              (try rw [hd] at BA)
              generalize wA.alloc (.cells #[.slice none 0 0, .slice none 0 0] 28) = wN at *
              refine wpAnyH_ready (rs := [3]) (by kernel_rfl) (by simp) ?_
              refine AllReadyH.cons (o := { dst := some 63, op := _, type := _, pos := _, after := _, guard := _ }) rfl (fun K hK => ?_) AllReadyH.nil
              go_simp
              refine (toBoard_any a1 a2 _ _ c1 c2 xs ys _ rfl rfl l1 l2 (r1.below hHeld.2.2.2.2.2.2.1) (r2.below hHeld.2.2.2.2.2.2.1)).mono ?_
              rintro e wB ⟨g1, g2, rfl, gg1, gg2, R1, R2, hbB⟩
              have hlB := hbB.size
              replace BA := BA.below hbB
              (try go_wp2_with fail)
              refine hK.out _ _ (held3V hHeld hbB) (fun hHeld => ?_)
              clear hK K
              try simp only [Act.put, List.setIfInBounds_toArray, List.set_cons_zero, List.set_cons_succ]
              refine wpAnyH_ready (rs := [4]) (by kernel_rfl) (by simp) ?_
              refine AllReadyH.cons (o := { dst := some 64, op := _, type := _, pos := _, after := _, guard := _ }) rfl (fun K hK => ?_) AllReadyH.nil
              go_simp
              refine (HIM.out _ _ _ _ _ _ _ rfl rfl l1 l2 R1.irow R2.irow).mono ?_
              rintro e wC ⟨f1, f2, i1, i2, rfl, hO, hbC⟩
              have hlC := hbC.size
              replace BA := BA.below hbC
              (try go_wp2_with fail)
              refine hK.out _ _ (held3V hHeld hbC) (fun hHeld => ?_)
              clear hK K
              try simp only [Act.put, List.setIfInBounds_toArray, List.set_cons_zero, List.set_cons_succ]
              refine wpAnyH_ready (rs := [6]) (by kernel_rfl) (by simp) ?_
              refine AllReadyH.cons (o := { dst := none, op := _, type := _, pos := _, after := _, guard := _ }) rfl (fun K hK => ?_) AllReadyH.nil
              obtain ⟨q0, q1, qf, ql⟩ := BA.two
              go_simp
              (try go_wp2_with fail)
              refine hK.out _ _ (store3V hHeld (by omega) (by omega) (by omega) (by omega) _ _) (fun hHeld => ?_)
              clear hK K
              try simp only [Act.put, List.setIfInBounds_toArray, List.set_cons_zero, List.set_cons_succ]
              refine wpAnyH_done (by kernel_rfl) ?_ _
              rw [HJ.out]
              refine ⟨rfl, _, f1, f2, i1, i2, _, _, g1, g2, ?_, VarB.stored BA hO ?_ ?_ ?_ ?_, hHeld⟩
              all_goals (first | rfl | omega | (simp; omega))
          · go_simp
            refine hK.out _ _ (held3V hHeld ((Below.refl _ _).alloc (Nat.le_refl _) _)) (fun hHeld => ?_)
            clear hK K
            try simp only [Act.put, List.setIfInBounds_toArray, List.set_cons_zero, List.set_cons_succ]
            have BA := Blk.new vd #[.slice none 0 0, .slice none 0 0] 28
            have hlN : (vd.alloc (.cells #[.slice none 0 0, .slice none 0 0] 28)).heap.size = vd.heap.size + 1 := by simp
            (try rw [hd] at BA)
            generalize vd.alloc (.cells #[.slice none 0 0, .slice none 0 0] 28) = wN at *
            refine wpAnyH_ready (rs := [1]) (by kernel_rfl) (by simp) ?_
            refine AllReadyH.cons (o := { dst := some 61, op := _, type := _, pos := _, after := _, guard := _ }) rfl (fun K hK => ?_) AllReadyH.nil
            go_simp
            refine (toVariant_any _ _ _ _ _).mono ?_
            rintro e wA ⟨rfl, hbA⟩
            have hlA := hbA.size
            replace BA := BA.below hbA
            (try go_wp2_with fail)
            refine hK.out _ _ (held3V hHeld hbA) (fun hHeld => ?_)
            clear hK K
            try simp only [Act.put, List.setIfInBounds_toArray, List.set_cons_zero, List.set_cons_succ]
            refine wpAnyH_ready (rs := [3]) (by kernel_rfl) (by simp) ?_
            refine AllReadyH.cons (o := { dst := some 63, op := _, type := _, pos := _, after := _, guard := _ }) rfl (fun K hK => ?_) AllReadyH.nil
            go_simp
            refine (toBoard_any a1 a2 _ _ c1 c2 xs ys _ rfl rfl l1 l2 (r1.below hHeld.2.2.2.2.2.2.1) (r2.below hHeld.2.2.2.2.2.2.1)).mono ?_
            rintro e wB ⟨g1, g2, rfl, gg1, gg2, R1, R2, hbB⟩
            have hlB := hbB.size
            replace BA := BA.below hbB
            (try go_wp2_with fail)
            refine hK.out _ _ (held3V hHeld hbB) (fun hHeld => ?_)
            clear hK K
            try simp only [Act.put, List.setIfInBounds_toArray, List.set_cons_zero, List.set_cons_succ]
            refine wpAnyH_ready (rs := [4]) (by kernel_rfl) (by simp) ?_
            refine AllReadyH.cons (o := { dst := some 64, op := _, type := _, pos := _, after := _, guard := _ }) rfl (fun K hK => ?_) AllReadyH.nil
            go_simp
            refine (HIM.out _ _ _ _ _ _ _ rfl rfl l1 l2 R1.irow R2.irow).mono ?_
            rintro e wC ⟨f1, f2, i1, i2, rfl, hO, hbC⟩
            have hlC := hbC.size
            replace BA := BA.below hbC
            (try go_wp2_with fail)
            refine hK.out _ _ (held3V hHeld hbC) (fun hHeld => ?_)
            clear hK K
            try simp only [Act.put, List.setIfInBounds_toArray, List.set_cons_zero, List.set_cons_succ]
            refine wpAnyH_ready (rs := [6]) (by kernel_rfl) (by simp) ?_
            refine AllReadyH.cons (o := { dst := none, op := _, type := _, pos := _, after := _, guard := _ }) rfl (fun K hK => ?_) AllReadyH.nil
            obtain ⟨q0, q1, qf, ql⟩ := BA.two
            go_simp
            (try go_wp2_with fail)
            refine hK.out _ _ (store3V hHeld (by omega) (by omega) (by omega) (by omega) _ _) (fun hHeld => ?_)
            clear hK K
            try simp only [Act.put, List.setIfInBounds_toArray, List.set_cons_zero, List.set_cons_succ]
            refine wpAnyH_done (by kernel_rfl) ?_ _
            rw [HJ.out]
            refine ⟨rfl, _, f1, f2, i1, i2, _, _, g1, g2, ?_, VarB.stored BA hO ?_ ?_ ?_ ?_, hHeld⟩
            all_goals (first | rfl | omega | (simp; omega))
        · intro a' w24 hj
          rw [HJ.out] at hj
          clear HJ hS x0 x1 x2 x3 y0 y1 hbw hlw t0 t1 VX VY VZ
          obtain ⟨B12, i1, i2, o1, o2, lo12, hi12, g1, g2, rfl, V12, hS⟩ := hj
          have hS0 := hS
          obtain ⟨x0, x1, x2, x3, y0, y1, hbw, hlw, t0, t1, VX, VY, VZ⟩ := hS0
          obtain ⟨u0, u1, uf, ul⟩ := VY.1.two
          obtain ⟨z0, z1, zf, zl⟩ := V12.1.two
          try simp only [Act.put, List.setIfInBounds_toArray, List.set_cons_zero, List.set_cons_succ]
          go_wp2_with fail
          refine (eqBoard_same _ _ _ _ _ _ _ _ _ _ sx sy _ rfl rfl ls1 ls2 V12.2.1.irow1 V12.2.1.irow2 VY.2.1.irow1 VY.2.1.irow2).mono ?_
          rintro e w25 ⟨rfl, hb25⟩
          replace hS := held3V hS hb25
          clear x0 x1 x2 x3 y0 y1 hbw hlw t0 t1 VX VY VZ u0 u1 uf ul z0 z1 zf zl
          have hS0 := hS
          obtain ⟨x0, x1, x2, x3, y0, y1, hbw, hlw, t0, t1, VX, VY, VZ⟩ := hS0
          go_wp2_with fail
          refine (heldBoard_any _ _ sx.length sy.length _ _ 1 _ ls1 ls2 (by omega) (by omega) VX.2.1.irow1 VX.2.1.irow2).mono ?_
          rintro e w28 ⟨rfl, hb28⟩
          go_wp2_with fail
          go_ret
          exact ⟨rfl, chain hbw hb28⟩
set_option maxRecDepth 100000 in
theorem fnExactSwapBoard_lifted (os : Os) (started : os.Started) (H : Type) (enc : TypeId × Value → H) :
    ReturnsInHanded {} Try.checked os 5 .any (Rows.fnExactSwapBoardSpec.pre6 enc Try.prog Try.f5 Rows.fnExactSwapBoardRow.domain false) (Rows.fnExactSwapBoardSpec.post enc Try.prog Try.f5 false true false false) := by
  refine returnsInHanded_of_change (C := Try.checked) own started (by kernel_rfl) Try.func5
    (ChangeSpec.witness6 (enc := enc) (C := Try.checked) false ⟨#[], #[.agg #[.int .i64 0, .int .i64 0, .int .i64 0, .int .i64 0], .agg #[.slice none 0 0, .slice none 0 0]], []⟩ 8 (by kernel_rfl) (by kernel_rfl) (by kernel_rfl) (by kernel_rfl)) ?_
  intro W base args ds gs before hval0 hW hcnd _
  have hval : ∀ (j : Nat) t v, Try.f5.params[j]? = some t → args[j]? = some v → Value.okWide Try.prog W .any base t v := hval0
  have hW' := hW
  obtain ⟨p, q, hA0, hV, rfl, hfz, hnd⟩ := hW
  have hA : DataW.TrodAll enc Try.prog W 0 (fun _ => true) true Try.f5.params.toList args.toList ds p := hA0
  rw [Try.params5] at hA hval
  obtain ⟨v0, vs0, d0, ds0, p0, q0, hargs, rfl, rfl, h0, r0⟩ := trodAll_cons hA
  obtain ⟨v1, vs1, d1, ds1, p1, q1, rfl, rfl, rfl, h1, r1⟩ := trodAll_cons r0
  obtain ⟨rfl, rfl, rfl⟩ := trodAll_nil r1
  obtain rfl : args = #[v0, v1] := by cases args; simp_all
  obtain ⟨rfl, rfl⟩ := trodVars_none hV
  have k0 := h0
  have lt0 : ∀ x ∈ p0, x.block < W.heap.size := by obtain ⟨m, hm⟩ := k0; exact DataW.trod_lt m _ _ _ hm
  have k1 := h1
  have lt1 : ∀ x ∈ p1, x.block < W.heap.size := by obtain ⟨m, hm⟩ := k1; exact DataW.trod_lt m _ _ _ hm
  obtain ⟨x0_0, x1_0, x2_0, x3_0, y0_0, y1_0, y2_0, y3_0, m_0, rfl, _, _, hy0_0, hy1_0, hy2_0, hy3_0⟩ := Joins.open_agg4 Try.underlying39 (by kernel_rfl) (show Try.prog.cellsOf 39 = 4 by kernel_rfl) (hval 0 39 v0 rfl rfl) h0
  obtain ⟨a0_0, e0_0, _, wa0_0⟩ := DataW.trod_int Try.underlying2 hy0_0
  obtain ⟨a1_0, e1_0, _, wa1_0⟩ := DataW.trod_int Try.underlying2 hy1_0
  obtain ⟨a2_0, e2_0, _, wa2_0⟩ := DataW.trod_int Try.underlying2 hy2_0
  obtain ⟨a3_0, e3_0, _, wa3_0⟩ := DataW.trod_int Try.underlying2 hy3_0
  simp at e0_0 e1_0 e2_0 e3_0
  subst e0_0 e1_0 e2_0 e3_0
  obtain ⟨x0_1, x1_1, y0_1, y1_1, m_1, rfl, _, _, hy0_1, hy1_1⟩ := Joins.open_agg2 Try.underlying40 (by kernel_rfl) (show Try.prog.cellsOf 40 = 2 by kernel_rfl) (hval 1 40 v1 rfl rfl) h1
  obtain ⟨ra_1, rn_1, rc_1, rx_1, rfl, rl_1, rm_1, rr_1, rw_1⟩ := open_row hy0_1
  obtain ⟨sa_1, sn_1, sc_1, sx_1, rfl, sl_1, sm_1, sr_1, sw_1⟩ := open_row hy1_1
  clear hA0 hval0
  refine (fnExactSwapBoard_walk a0_0 a1_0 a2_0 a3_0 ra_1 sa_1 rn_1 sn_1 rc_1 sc_1 rx_1 sx_1 W rl_1 sl_1 rm_1 sm_1 rr_1 sr_1).mono fun e W' ⟨he, bel⟩ => ?_
  subst he
  exact ⟨_, rfl, _, _, _, [], _, [], hW', trodAll_mk1 (shut_bool Try.underlying4 _), (trodAll_cons_mk (Below.trod laidOut (by kernel_rfl) (of_decide_eq_true (by kernel_rfl)) k0 bel lt0) (trodAll_cons_mk (Below.trod laidOut (by kernel_rfl) (of_decide_eq_true (by kernel_rfl)) k1 bel lt1) trodAll_mk0)), rfl, bel.frame _, fun h => by cases h⟩
theorem fnExactSwapBoard_holds : Rows.FnExactSwapBoardSaid :=
  OpenClaim.holds_of_wide 5 Try.f5 rfl rfl rfl rfl rfl rfl rfl ⟨rfl, rfl, rfl, rfl, rfl⟩ rfl rfl rfl rfl rfl (by kernel_rfl) Try.func5 (by kernel_rfl)
    (of_decide_eq_true (by kernel_rfl)) (by unfold Func.isWrapper; first | (rw [if_pos (by decide +kernel)]; kernel_rfl) | (rw [if_neg (by decide +kernel)]; exact ⟨rfl, rfl⟩))
    (fun os started H enc _ => fnExactSwapBoard_lifted os started H enc)
end Go.Proofs.Ytkddeoifdecniaa
