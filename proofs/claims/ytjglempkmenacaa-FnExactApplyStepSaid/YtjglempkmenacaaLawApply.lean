/- The exact law of chapter 4 on the board behind a step holds: for every input the law returns true and its arguments read behind the call as they read before. No conditions. -/
import Derived.Test.Ytjglempkmenacaa04w
import Derived.Test.YtjglempkmenacaaStpL
import Derived.Test.YtjglempkmenacaaOpen
import Derived.Test.YtjglempkmenacaaVarB
import Derived.ChangeOld
namespace Go.Proofs.Ytjglempkmenacaa
open Go.ChangeMaps (open_string shut_string)
open Go.ChangeShapes Go.WideShapes Go.ChangeAt Go.RowKit
set_option linter.unusedVariables false
set_option linter.unusedSimpArgs false
set_option maxRecDepth 4000

theorem below2s {wS W : World} {B : Nat} {u0 u1 v0 v1 : Value} {t : TypeId} (_ : Blk W B #[u0, u1] t) (h : Below wS.heap.size wS W) (hB : wS.heap.size ≤ B) : Below wS.heap.size wS ((W.setCell ⟨B, 0, none⟩ v0).setCell ⟨B, 1, none⟩ v1) :=
  (h.setCell (p := ⟨B, 0, none⟩) hB _).setCell (p := ⟨B, 1, none⟩) hB _
theorem fnExactApplyStep_both (p c h s : Int) (xs ys : List Int) (t : Stp) : ∃ (X Y : List Int) (r : Int), X.length ≤ 1048576 ∧ Y.length ≤ 1048576 ∧ (∀ (a1 a2 : Option Addr) (n1 n2 c1 c2 : Nat) (w : World), xs.length = n1 → ys.length = n2 → n1 ≤ 1048576 → n2 ≤ 1048576 → IRow w a1 xs → IRow w a2 ys → Calls Try.prog 17 #[.agg #[.int .i64 p, .int .i64 c, .int .i64 h, .int .i64 s], .agg #[.slice a1 n1 c1, .slice a2 n2 c2], stV t] w (BoardGotN X Y r w)) ∧ (∀ (a1 a2 : Option Addr) (n1 n2 c1 c2 : Nat) (w : World), xs.length = n1 → ys.length = n2 → n1 ≤ 1048576 → n2 ≤ 1048576 → IRow w a1 xs → IRow w a2 ys → Calls Try.prog 16 #[.agg #[.int .i64 p, .int .i64 c, .int .i64 h, .int .i64 s], .agg #[.slice a1 n1 c1, .slice a2 n2 c2], stV t] w (BoardGotN X Y r w)) :=
  ⟨_, _, _, (as_length p c h s xs ys t).1, (as_length p c h s xs ys t).2, fun a1 a2 n1 n2 c1 c2 w h1 h2 l1 l2 r1 r2 => specApplyStep_any t p c h s a1 a2 n1 n2 c1 c2 xs ys w h1 h2 l1 l2 r1 r2, fun a1 a2 n1 n2 c1 c2 w h1 h2 l1 l2 r1 r2 => applyStep_any t p c h s a1 a2 n1 n2 c1 c2 xs ys w h1 h2 l1 l2 r1 r2⟩
set_option maxRecDepth 8000 in
set_option maxHeartbeats 4000000 in
theorem fnExactApplyStep_walk (p c h s : Int) (a1 a2 : Option Addr) (n1 n2 c1 c2 : Nat) (xs ys : List Int) (ta tb td : Int) (tq : Bool) (w : World) (h1 : xs.length = n1) (h2 : ys.length = n2) (m1 : n1 ≤ 9223372036854775807) (m2 : n2 ≤ 9223372036854775807) (r1 : IRow w a1 xs) (r2 : IRow w a2 ys) :
    Calls Try.prog 9 #[.agg #[.int .i64 p, .int .i64 c, .int .i64 h, .int .i64 s], .agg #[.slice a1 n1 c1, .slice a2 n2 c2], .agg #[.int .i64 ta, .int .i64 tb, .int .i64 td, .bool tq]] w fun e w' => e = .returned (.bool true) ∧ Below w.heap.size w w' := by
  obtain ⟨BV, BB, BS, hb, hz⟩ := three_new w #[.int .i64 p, .int .i64 c, .int .i64 h, .int .i64 s] #[.slice a1 n1 c1, .slice a2 n2 c2] #[.int .i64 ta, .int .i64 tb, .int .i64 td, .bool tq] 52 53 61
  have hz0 : w.heap.size + 1 + 1 < (((w.alloc (.cells #[.int .i64 p, .int .i64 c, .int .i64 h, .int .i64 s] 52)).alloc (.cells #[.slice a1 n1 c1, .slice a2 n2 c2] 53)).alloc (.cells #[.int .i64 ta, .int .i64 tb, .int .i64 td, .bool tq] 61)).heap.size := by rw [hz]; omega
  clear hz
  have hsz := fun w => szBoard_any a1 a2 n1 n2 c1 c2 1048576 w (by omega) (by omega) m1 m2
  obtain ⟨y0, y1, yf, yl⟩ := BB.two
  by_cases hneg : szAfter 1048576 n1 n2 = -1
  · rw [hneg] at hsz
    have HZ := Lib.hid hsz
    clear hsz hneg
    go_enter Try.func9, Try.ntmps9
    go_wp2_with fail
    generalize (((w.alloc (.cells #[.int .i64 p, .int .i64 c, .int .i64 h, .int .i64 s] 52)).alloc (.cells #[.slice a1 n1 c1, .slice a2 n2 c2] 53)).alloc (.cells #[.int .i64 ta, .int .i64 tb, .int .i64 td, .bool tq] 61)) = v0 at *
    refine (HZ.out _).mono ?_
    rintro e w1 ⟨rfl, hb1⟩
    go_wp2
    go_ret
    exact ⟨rfl, hb.trans (hb1.mono (by omega))⟩
  · have hle : (n1 : Int) + n2 ≤ 1048576 := by
      unfold szAfter at hneg
      split at hneg
      · exact absurd rfl hneg
      · split at hneg
        · exact absurd rfl hneg
        · omega
    obtain ⟨z, hzz⟩ : ∃ z, szAfter 1048576 n1 n2 = z := ⟨_, rfl⟩
    have hzp : 0 ≤ z := by
      rw [← hzz]
      unfold szAfter
      rw [if_neg (by omega), if_neg (by omega)]
      omega
    rw [hzz] at hsz
    have HZ := Lib.hid hsz
    clear hsz hneg hzz
    have l1 : n1 ≤ 1048576 := by omega
    have l2 : n2 ≤ 1048576 := by omega
    subst h1 h2
    obtain ⟨X, Y, r, lX, lY, hsp, him⟩ := fnExactApplyStep_both p c h s xs ys (ta, tb, td, tq)
    have HSP := Lib.hid hsp
    have HIM := Lib.hid him
    clear hsp him
    go_enter Try.func9, Try.ntmps9
    go_wp2_with fail
    clear y0 y1 yf yl
    generalize (((w.alloc (.cells #[.int .i64 p, .int .i64 c, .int .i64 h, .int .i64 s] 52)).alloc (.cells #[.slice a1 xs.length c1, .slice a2 ys.length c2] 53)).alloc (.cells #[.int .i64 ta, .int .i64 tb, .int .i64 td, .bool tq] 61)) = v0 at *
    refine (HZ.out _).mono ?_
    rintro e w0 ⟨rfl, hb1⟩
    replace BV := BV.below hb1
    replace BB := BB.below hb1
    replace BS := BS.below hb1
    have hlt0 : w.heap.size + 1 + 1 < w0.heap.size := BS.lt
    replace hb := hb.trans (hb1.mono (by omega))
    clear hb1 hz0 HZ
    obtain ⟨q0_BV, q1_BV, q2_BV, q3_BV, qf_BV, ql_BV⟩ := BV.four
    obtain ⟨q0_BB, q1_BB, qf_BB, ql_BB⟩ := BB.two
    obtain ⟨q0_BS, q1_BS, q2_BS, q3_BS, qf_BS, ql_BS⟩ := BS.four
    go_wp2_with fail
    clear q0_BV q1_BV q2_BV q3_BV qf_BV ql_BV
    clear q0_BB q1_BB qf_BB ql_BB
    clear q0_BS q1_BS q2_BS q3_BS qf_BS ql_BS
    obtain ⟨J, hJ⟩ : ∃ J : Act → Act → World → Prop, J = fun a a' w' => ∃ B d1 d2 k1 k2 lo hi g1 g2, a' = ((((((((((((a.put (some 24) (.agg #[.int .i64 p, .int .i64 c, .int .i64 h, .int .i64 s])).put (some 25) (.agg #[.int .i64 p, .int .i64 c, .int .i64 h, .int .i64 s])).put (some 26) (.agg #[.slice a1 xs.length c1, .slice a2 ys.length c2])).put (some 27) (.agg #[.slice (some ⟨g1, 0, none⟩) xs.length xs.length, .slice (some ⟨g2, 0, none⟩) ys.length ys.length])).put (some 28) (.agg #[.int .i64 ta, .int .i64 tb, .int .i64 td, .bool tq])).put (some 29) (.agg #[.int .i64 ta, .int .i64 tb, .int .i64 td, .bool tq])).put (some 30) (.tuple #[.agg #[.slice d1 X.length k1, .slice d2 Y.length k2], .int .i64 r])).put (some 23) (.tuple #[.agg #[.slice d1 X.length k1, .slice d2 Y.length k2], .int .i64 r])).put (some 31) (.agg #[.slice d1 X.length k1, .slice d2 Y.length k2])).put (some 32) (.int .i64 r)).put (some 9) (.int .i64 r)).put (some 8) (.pointer (some ⟨B, 0, none⟩))) ∧ VarB w0.heap.size w' B d1 d2 X.length Y.length k1 k2 lo hi X Y ∧ Below w0.heap.size w0 w' := ⟨_, rfl⟩
    have HJ := Lib.hid hJ
    clear hJ
    refine wp_region_join J ?_ ?_
    · skip
      refine wp_region_held_drew (S := fun w' => w'.cell? ⟨w.heap.size, 0, none⟩ = some (.int .i64 p) ∧ w'.cell? ⟨w.heap.size, 1, none⟩ = some (.int .i64 c) ∧ w'.cell? ⟨w.heap.size, 2, none⟩ = some (.int .i64 h) ∧ w'.cell? ⟨w.heap.size, 3, none⟩ = some (.int .i64 s) ∧ w'.cell? ⟨(w.heap.size + 1), 0, none⟩ = some (.slice a1 xs.length c1) ∧ w'.cell? ⟨(w.heap.size + 1), 1, none⟩ = some (.slice a2 ys.length c2) ∧ w'.cell? ⟨(w.heap.size + 1 + 1), 0, none⟩ = some (.int .i64 ta) ∧ w'.cell? ⟨(w.heap.size + 1 + 1), 1, none⟩ = some (.int .i64 tb) ∧ w'.cell? ⟨(w.heap.size + 1 + 1), 2, none⟩ = some (.int .i64 td) ∧ w'.cell? ⟨(w.heap.size + 1 + 1), 3, none⟩ = some (.bool tq)) (by kernel_rfl) ⟨(BV.below (Below.refl _ _).drew).four.1, (BV.below (Below.refl _ _).drew).four.2.1, (BV.below (Below.refl _ _).drew).four.2.2.1, (BV.below (Below.refl _ _).drew).four.2.2.2.1, (BB.below (Below.refl _ _).drew).two.1, (BB.below (Below.refl _ _).drew).two.2.1, (BS.below (Below.refl _ _).drew).four.1, (BS.below (Below.refl _ _).drew).four.2.1, (BS.below (Below.refl _ _).drew).four.2.2.1, (BS.below (Below.refl _ _).drew).four.2.2.2.1⟩ (fun hHeld => ?_)
      clear hHeld
      have hbS : Below w0.heap.size w0 w0.drew := (Below.refl _ _).drew
      have hzd := hbS.size
      generalize w0.drew = vd at *
      have hHeld := (show vd.cell? ⟨w.heap.size, 0, none⟩ = some (.int .i64 p) ∧ vd.cell? ⟨w.heap.size, 1, none⟩ = some (.int .i64 c) ∧ vd.cell? ⟨w.heap.size, 2, none⟩ = some (.int .i64 h) ∧ vd.cell? ⟨w.heap.size, 3, none⟩ = some (.int .i64 s) ∧ vd.cell? ⟨(w.heap.size + 1), 0, none⟩ = some (.slice a1 xs.length c1) ∧ vd.cell? ⟨(w.heap.size + 1), 1, none⟩ = some (.slice a2 ys.length c2) ∧ vd.cell? ⟨(w.heap.size + 1 + 1), 0, none⟩ = some (.int .i64 ta) ∧ vd.cell? ⟨(w.heap.size + 1 + 1), 1, none⟩ = some (.int .i64 tb) ∧ vd.cell? ⟨(w.heap.size + 1 + 1), 2, none⟩ = some (.int .i64 td) ∧ vd.cell? ⟨(w.heap.size + 1 + 1), 3, none⟩ = some (.bool tq) from ⟨(BV.below hbS).four.1, (BV.below hbS).four.2.1, (BV.below hbS).four.2.2.1, (BV.below hbS).four.2.2.2.1, (BB.below hbS).two.1, (BB.below hbS).two.2.1, (BS.below hbS).four.1, (BS.below hbS).four.2.1, (BS.below hbS).four.2.2.1, (BS.below hbS).four.2.2.2.1⟩)
      refine wpAnyH_take (i := 0) (oi := { dst := some 24, op := _, type := _, pos := _, after := _, guard := _ }) (v := ?_) rfl (by kernel_rfl) (by kernel_rfl) (by kernel_rfl) (fun _ _ _ h => absurd h.1 (by simp)) (Or.inl ⟨by rfl, ?_⟩) (by assumption) ?_
      rotate_left
      · intro w hSw
        (try dsimp only at hSw)
        go_simp
        (try (with_reducible rfl))
      try simp only [Act.put, List.setIfInBounds_toArray, List.set_cons_zero, List.set_cons_succ]
      refine wpAnyH_take (i := 2) (oi := { dst := some 26, op := _, type := _, pos := _, after := _, guard := _ }) (v := ?_) rfl (by kernel_rfl) (by kernel_rfl) (by kernel_rfl) (fun _ _ _ h => absurd h.1 (by simp)) (Or.inl ⟨by rfl, ?_⟩) (by assumption) ?_
      rotate_left
      · intro w hSw
        (try dsimp only at hSw)
        go_simp
        (try (with_reducible rfl))
      try simp only [Act.put, List.setIfInBounds_toArray, List.set_cons_zero, List.set_cons_succ]
      refine wpAnyH_take (i := 4) (oi := { dst := some 28, op := _, type := _, pos := _, after := _, guard := _ }) (v := ?_) rfl (by kernel_rfl) (by kernel_rfl) (by kernel_rfl) (fun _ _ _ h => absurd h.1 (by simp)) (Or.inl ⟨by rfl, ?_⟩) (by assumption) ?_
      rotate_left
      · intro w hSw
        (try dsimp only at hSw)
        go_simp
        (try (with_reducible rfl))
      try simp only [Act.put, List.setIfInBounds_toArray, List.set_cons_zero, List.set_cons_succ]
      refine wpAnyH_ready (rs := [1, 10]) (by kernel_rfl) (by simp) ?_
      refine AllReadyH.cons (o := { dst := some 25, op := _, type := _, pos := _, after := _, guard := _ }) rfl (fun K hK => ?_) (AllReadyH.cons (o := { dst := some 8, op := _, type := _, pos := _, after := _, guard := _ }) rfl (fun K hK => ?_) AllReadyH.nil)
      · go_simp
        refine (toVariant_any _ _ _ _ _).mono ?_
        rintro e wt0 ⟨rfl, hbt0⟩
        have hz_hbt0 := hbt0.size
        replace hbS := chain hbS hbt0
        clear hbt0
        (try go_wp2_with fail)
        refine hK.out _ _ ⟨(BV.below hbS).four.1, (BV.below hbS).four.2.1, (BV.below hbS).four.2.2.1, (BV.below hbS).four.2.2.2.1, (BB.below hbS).two.1, (BB.below hbS).two.2.1, (BS.below hbS).four.1, (BS.below hbS).four.2.1, (BS.below hbS).four.2.2.1, (BS.below hbS).four.2.2.2.1⟩ (fun hHeld => ?_)
        clear hK K
        try simp only [Act.put, List.setIfInBounds_toArray, List.set_cons_zero, List.set_cons_succ]
        refine wpAnyH_ready (rs := [3, 10]) (by kernel_rfl) (by simp) ?_
        refine AllReadyH.cons (o := { dst := some 27, op := _, type := _, pos := _, after := _, guard := _ }) rfl (fun K hK => ?_) (AllReadyH.cons (o := { dst := some 8, op := _, type := _, pos := _, after := _, guard := _ }) rfl (fun K hK => ?_) AllReadyH.nil)
        · go_simp
          refine (toBoard_any a1 a2 _ _ c1 c2 xs ys _ rfl rfl l1 l2 (r1.below (chain hb hbS)) (r2.below (chain hb hbS))).mono ?_
          rintro e wt1 ⟨g1, g2, rfl, gg1, gg2, R1, R2, hbt1⟩
          have hz_hbt1 := hbt1.size
          replace hbS := chain hbS hbt1
          clear hbt1
          (try go_wp2_with fail)
          refine hK.out _ _ ⟨(BV.below hbS).four.1, (BV.below hbS).four.2.1, (BV.below hbS).four.2.2.1, (BV.below hbS).four.2.2.2.1, (BB.below hbS).two.1, (BB.below hbS).two.2.1, (BS.below hbS).four.1, (BS.below hbS).four.2.1, (BS.below hbS).four.2.2.1, (BS.below hbS).four.2.2.2.1⟩ (fun hHeld => ?_)
          clear hK K
          try simp only [Act.put, List.setIfInBounds_toArray, List.set_cons_zero, List.set_cons_succ]
          refine wpAnyH_ready (rs := [5, 10]) (by kernel_rfl) (by simp) ?_
          refine AllReadyH.cons (o := { dst := some 29, op := _, type := _, pos := _, after := _, guard := _ }) rfl (fun K hK => ?_) (AllReadyH.cons (o := { dst := some 8, op := _, type := _, pos := _, after := _, guard := _ }) rfl (fun K hK => ?_) AllReadyH.nil)
          · go_simp
            refine (toStep_any (ta, tb, td, tq) _).mono ?_
            rintro e wt2 ⟨rfl, hbt2⟩
            replace R1 := R1.below hbt2
            replace R2 := R2.below hbt2
            have hz_hbt2 := hbt2.size
            replace hbS := chain hbS hbt2
            clear hbt2
            (try go_wp2_with fail)
            refine hK.out _ _ ⟨(BV.below hbS).four.1, (BV.below hbS).four.2.1, (BV.below hbS).four.2.2.1, (BV.below hbS).four.2.2.2.1, (BB.below hbS).two.1, (BB.below hbS).two.2.1, (BS.below hbS).four.1, (BS.below hbS).four.2.1, (BS.below hbS).four.2.2.1, (BS.below hbS).four.2.2.2.1⟩ (fun hHeld => ?_)
            clear hK K
            try simp only [Act.put, List.setIfInBounds_toArray, List.set_cons_zero, List.set_cons_succ]
            refine wpAnyH_ready (rs := [6, 10]) (by kernel_rfl) (by simp) ?_
            refine AllReadyH.cons (o := { dst := some 30, op := _, type := _, pos := _, after := _, guard := _ }) rfl (fun K hK => ?_) (AllReadyH.cons (o := { dst := some 8, op := _, type := _, pos := _, after := _, guard := _ }) rfl (fun K hK => ?_) AllReadyH.nil)
            · go_simp
              refine (HSP.out _ _ _ _ _ _ _ rfl rfl l1 l2 R1.irow R2.irow).mono ?_
              rintro e wt3 ⟨d1, d2, k1, k2, rfl, hO, hbt3⟩
              replace R1 := R1.below hbt3
              replace R2 := R2.below hbt3
              have hz_hbt3 := hbt3.size
              replace hbS := chain hbS hbt3
              clear hbt3
              (try go_wp2_with fail)
              refine hK.out _ _ ⟨(BV.below hbS).four.1, (BV.below hbS).four.2.1, (BV.below hbS).four.2.2.1, (BV.below hbS).four.2.2.2.1, (BB.below hbS).two.1, (BB.below hbS).two.2.1, (BS.below hbS).four.1, (BS.below hbS).four.2.1, (BS.below hbS).four.2.2.1, (BS.below hbS).four.2.2.2.1⟩ (fun hHeld => ?_)
              clear hK K
              try simp only [Act.put, List.setIfInBounds_toArray, List.set_cons_zero, List.set_cons_succ]
              refine wpAnyH_take (i := 7) (oi := { dst := some 23, op := _, type := _, pos := _, after := _, guard := _ }) (v := ?_) rfl (by kernel_rfl) (by kernel_rfl) (by kernel_rfl) (fun _ _ _ h => absurd h.1 (by simp)) (Or.inl ⟨by rfl, ?_⟩) (by assumption) ?_
              rotate_left
              · intro w hSw
                (try dsimp only at hSw)
                go_simp
                (try (with_reducible rfl))
              try simp only [Act.put, List.setIfInBounds_toArray, List.set_cons_zero, List.set_cons_succ]
              refine wpAnyH_take (i := 8) (oi := { dst := some 31, op := _, type := _, pos := _, after := _, guard := _ }) (v := ?_) rfl (by kernel_rfl) (by kernel_rfl) (by kernel_rfl) (fun _ _ _ h => absurd h.1 (by simp)) (Or.inl ⟨by rfl, ?_⟩) (by assumption) ?_
              rotate_left
              · intro w hSw
                (try dsimp only at hSw)
                go_simp
                (try (with_reducible rfl))
              try simp only [Act.put, List.setIfInBounds_toArray, List.set_cons_zero, List.set_cons_succ]
              refine wpAnyH_take (i := 9) (oi := { dst := some 32, op := _, type := _, pos := _, after := _, guard := _ }) (v := ?_) rfl (by kernel_rfl) (by kernel_rfl) (by kernel_rfl) (fun _ _ _ h => absurd h.1 (by simp)) (Or.inl ⟨by rfl, ?_⟩) (by assumption) ?_
              rotate_left
              · intro w hSw
                (try dsimp only at hSw)
                go_simp
                (try (with_reducible rfl))
              try simp only [Act.put, List.setIfInBounds_toArray, List.set_cons_zero, List.set_cons_succ]
              refine wpAnyH_ready (rs := [10]) (by kernel_rfl) (by simp) ?_
              refine AllReadyH.cons (o := { dst := some 8, op := _, type := _, pos := _, after := _, guard := _ }) rfl (fun K hK => ?_) AllReadyH.nil
              go_simp
              refine hK.out _ _ ⟨(BV.below (hbS.alloc hbS.size _)).four.1, (BV.below (hbS.alloc hbS.size _)).four.2.1, (BV.below (hbS.alloc hbS.size _)).four.2.2.1, (BV.below (hbS.alloc hbS.size _)).four.2.2.2.1, (BB.below (hbS.alloc hbS.size _)).two.1, (BB.below (hbS.alloc hbS.size _)).two.2.1, (BS.below (hbS.alloc hbS.size _)).four.1, (BS.below (hbS.alloc hbS.size _)).four.2.1, (BS.below (hbS.alloc hbS.size _)).four.2.2.1, (BS.below (hbS.alloc hbS.size _)).four.2.2.2.1⟩ (fun hHeld => ?_)
              clear hK K
              try simp only [Act.put, List.setIfInBounds_toArray, List.set_cons_zero, List.set_cons_succ]
              have BA := Blk.new wt3 #[.slice none 0 0, .slice none 0 0] 28
              have hal : Below wt3.heap.size wt3 (wt3.alloc (.cells #[.slice none 0 0, .slice none 0 0] 28)) := (Below.refl _ _).alloc (Nat.le_refl _) _
              have hlN : wt3.heap.size + 1 ≤ (wt3.alloc (.cells #[.slice none 0 0, .slice none 0 0] 28)).heap.size ∧ (wt3.alloc (.cells #[.slice none 0 0, .slice none 0 0] 28)).heap.size ≤ wt3.heap.size + 1 := by simp
              have hzS := hbS.size
              replace R1 := R1.below hal
              replace R2 := R2.below hal
              replace hO := hO.below hal
              replace hbS := chain hbS hal
              clear hal
              generalize wt3.alloc (.cells #[.slice none 0 0, .slice none 0 0] 28) = wN at *
              refine wpAnyH_ready (rs := [11]) (by kernel_rfl) (by simp) ?_
              refine AllReadyH.cons (o := { dst := none, op := _, type := _, pos := _, after := _, guard := _ }) rfl (fun K hK => ?_) AllReadyH.nil
              have q0 := BA.two.1
              have q1 := BA.two.2.1
              have qf := BA.two.2.2.1
              have ql := BA.two.2.2.2
              go_simp
              (try go_wp2_with fail)
              refine hK.out _ _ ⟨(BV.below (below2s BA hbS (by omega))).four.1, (BV.below (below2s BA hbS (by omega))).four.2.1, (BV.below (below2s BA hbS (by omega))).four.2.2.1, (BV.below (below2s BA hbS (by omega))).four.2.2.2.1, (BB.below (below2s BA hbS (by omega))).two.1, (BB.below (below2s BA hbS (by omega))).two.2.1, (BS.below (below2s BA hbS (by omega))).four.1, (BS.below (below2s BA hbS (by omega))).four.2.1, (BS.below (below2s BA hbS (by omega))).four.2.2.1, (BS.below (below2s BA hbS (by omega))).four.2.2.2.1⟩ (fun hHeld => ?_)
              clear hK K
              try simp only [Act.put, List.setIfInBounds_toArray, List.set_cons_zero, List.set_cons_succ]
              refine wpAnyH_take (i := 12) (oi := { dst := some 9, op := _, type := _, pos := _, after := _, guard := _ }) (v := ?_) rfl (by kernel_rfl) (by kernel_rfl) (by kernel_rfl) (fun _ _ _ h => absurd h.1 (by simp)) (Or.inl ⟨by rfl, ?_⟩) (by assumption) ?_
              rotate_left
              · intro w hSw
                (try dsimp only at hSw)
                go_simp
                (try (with_reducible rfl))
              try simp only [Act.put, List.setIfInBounds_toArray, List.set_cons_zero, List.set_cons_succ]
              refine wpAnyH_done (by kernel_rfl) ?_ _
              rw [HJ.out]
              refine ⟨rfl, _, d1, d2, k1, k2, _, _, g1, g2, ?_, VarB.stored BA hO ?_ ?_ ?_ ?_, below2s BA hbS (by omega)⟩
              · simp only [Act.put, List.setIfInBounds_toArray, List.set_cons_zero, List.set_cons_succ]
              all_goals (first | omega | (simp; omega))
            · go_simp
              refine hK.out _ _ ⟨(BV.below (hbS.alloc hbS.size _)).four.1, (BV.below (hbS.alloc hbS.size _)).four.2.1, (BV.below (hbS.alloc hbS.size _)).four.2.2.1, (BV.below (hbS.alloc hbS.size _)).four.2.2.2.1, (BB.below (hbS.alloc hbS.size _)).two.1, (BB.below (hbS.alloc hbS.size _)).two.2.1, (BS.below (hbS.alloc hbS.size _)).four.1, (BS.below (hbS.alloc hbS.size _)).four.2.1, (BS.below (hbS.alloc hbS.size _)).four.2.2.1, (BS.below (hbS.alloc hbS.size _)).four.2.2.2.1⟩ (fun hHeld => ?_)
              clear hK K
              try simp only [Act.put, List.setIfInBounds_toArray, List.set_cons_zero, List.set_cons_succ]
              have BA := Blk.new wt2 #[.slice none 0 0, .slice none 0 0] 28
              have hal : Below wt2.heap.size wt2 (wt2.alloc (.cells #[.slice none 0 0, .slice none 0 0] 28)) := (Below.refl _ _).alloc (Nat.le_refl _) _
              have hlN : wt2.heap.size + 1 ≤ (wt2.alloc (.cells #[.slice none 0 0, .slice none 0 0] 28)).heap.size ∧ (wt2.alloc (.cells #[.slice none 0 0, .slice none 0 0] 28)).heap.size ≤ wt2.heap.size + 1 := by simp
              have hzS := hbS.size
              replace R1 := R1.below hal
              replace R2 := R2.below hal
              replace hbS := chain hbS hal
              clear hal
              generalize wt2.alloc (.cells #[.slice none 0 0, .slice none 0 0] 28) = wN at *
              refine wpAnyH_ready (rs := [6]) (by kernel_rfl) (by simp) ?_
              refine AllReadyH.cons (o := { dst := some 30, op := _, type := _, pos := _, after := _, guard := _ }) rfl (fun K hK => ?_) AllReadyH.nil
              go_simp
              refine (HSP.out _ _ _ _ _ _ _ rfl rfl l1 l2 R1.irow R2.irow).mono ?_
              rintro e wt3 ⟨d1, d2, k1, k2, rfl, hO, hbt3⟩
              replace R1 := R1.below hbt3
              replace R2 := R2.below hbt3
              replace BA := BA.below hbt3
              have hz_hbt3 := hbt3.size
              replace hbS := chain hbS hbt3
              clear hbt3
              (try go_wp2_with fail)
              refine hK.out _ _ ⟨(BV.below hbS).four.1, (BV.below hbS).four.2.1, (BV.below hbS).four.2.2.1, (BV.below hbS).four.2.2.2.1, (BB.below hbS).two.1, (BB.below hbS).two.2.1, (BS.below hbS).four.1, (BS.below hbS).four.2.1, (BS.below hbS).four.2.2.1, (BS.below hbS).four.2.2.2.1⟩ (fun hHeld => ?_)
              clear hK K
              try simp only [Act.put, List.setIfInBounds_toArray, List.set_cons_zero, List.set_cons_succ]
              refine wpAnyH_take (i := 7) (oi := { dst := some 23, op := _, type := _, pos := _, after := _, guard := _ }) (v := ?_) rfl (by kernel_rfl) (by kernel_rfl) (by kernel_rfl) (fun _ _ _ h => absurd h.1 (by simp)) (Or.inl ⟨by rfl, ?_⟩) (by assumption) ?_
              rotate_left
              · intro w hSw
                (try dsimp only at hSw)
                go_simp
                (try (with_reducible rfl))
              try simp only [Act.put, List.setIfInBounds_toArray, List.set_cons_zero, List.set_cons_succ]
              refine wpAnyH_take (i := 8) (oi := { dst := some 31, op := _, type := _, pos := _, after := _, guard := _ }) (v := ?_) rfl (by kernel_rfl) (by kernel_rfl) (by kernel_rfl) (fun _ _ _ h => absurd h.1 (by simp)) (Or.inl ⟨by rfl, ?_⟩) (by assumption) ?_
              rotate_left
              · intro w hSw
                (try dsimp only at hSw)
                go_simp
                (try (with_reducible rfl))
              try simp only [Act.put, List.setIfInBounds_toArray, List.set_cons_zero, List.set_cons_succ]
              refine wpAnyH_take (i := 9) (oi := { dst := some 32, op := _, type := _, pos := _, after := _, guard := _ }) (v := ?_) rfl (by kernel_rfl) (by kernel_rfl) (by kernel_rfl) (fun _ _ _ h => absurd h.1 (by simp)) (Or.inl ⟨by rfl, ?_⟩) (by assumption) ?_
              rotate_left
              · intro w hSw
                (try dsimp only at hSw)
                go_simp
                (try (with_reducible rfl))
              try simp only [Act.put, List.setIfInBounds_toArray, List.set_cons_zero, List.set_cons_succ]
              refine wpAnyH_ready (rs := [11]) (by kernel_rfl) (by simp) ?_
              refine AllReadyH.cons (o := { dst := none, op := _, type := _, pos := _, after := _, guard := _ }) rfl (fun K hK => ?_) AllReadyH.nil
              have q0 := BA.two.1
              have q1 := BA.two.2.1
              have qf := BA.two.2.2.1
              have ql := BA.two.2.2.2
              go_simp
              (try go_wp2_with fail)
              refine hK.out _ _ ⟨(BV.below (below2s BA hbS (by omega))).four.1, (BV.below (below2s BA hbS (by omega))).four.2.1, (BV.below (below2s BA hbS (by omega))).four.2.2.1, (BV.below (below2s BA hbS (by omega))).four.2.2.2.1, (BB.below (below2s BA hbS (by omega))).two.1, (BB.below (below2s BA hbS (by omega))).two.2.1, (BS.below (below2s BA hbS (by omega))).four.1, (BS.below (below2s BA hbS (by omega))).four.2.1, (BS.below (below2s BA hbS (by omega))).four.2.2.1, (BS.below (below2s BA hbS (by omega))).four.2.2.2.1⟩ (fun hHeld => ?_)
              clear hK K
              try simp only [Act.put, List.setIfInBounds_toArray, List.set_cons_zero, List.set_cons_succ]
              refine wpAnyH_take (i := 12) (oi := { dst := some 9, op := _, type := _, pos := _, after := _, guard := _ }) (v := ?_) rfl (by kernel_rfl) (by kernel_rfl) (by kernel_rfl) (fun _ _ _ h => absurd h.1 (by simp)) (Or.inl ⟨by rfl, ?_⟩) (by assumption) ?_
              rotate_left
              · intro w hSw
                (try dsimp only at hSw)
                go_simp
                (try (with_reducible rfl))
              try simp only [Act.put, List.setIfInBounds_toArray, List.set_cons_zero, List.set_cons_succ]
              refine wpAnyH_done (by kernel_rfl) ?_ _
              rw [HJ.out]
              refine ⟨rfl, _, d1, d2, k1, k2, _, _, g1, g2, ?_, VarB.stored BA hO ?_ ?_ ?_ ?_, below2s BA hbS (by omega)⟩
              · simp only [Act.put, List.setIfInBounds_toArray, List.set_cons_zero, List.set_cons_succ]
              all_goals (first | omega | (simp; omega))
          · go_simp
            refine hK.out _ _ ⟨(BV.below (hbS.alloc hbS.size _)).four.1, (BV.below (hbS.alloc hbS.size _)).four.2.1, (BV.below (hbS.alloc hbS.size _)).four.2.2.1, (BV.below (hbS.alloc hbS.size _)).four.2.2.2.1, (BB.below (hbS.alloc hbS.size _)).two.1, (BB.below (hbS.alloc hbS.size _)).two.2.1, (BS.below (hbS.alloc hbS.size _)).four.1, (BS.below (hbS.alloc hbS.size _)).four.2.1, (BS.below (hbS.alloc hbS.size _)).four.2.2.1, (BS.below (hbS.alloc hbS.size _)).four.2.2.2.1⟩ (fun hHeld => ?_)
            clear hK K
            try simp only [Act.put, List.setIfInBounds_toArray, List.set_cons_zero, List.set_cons_succ]
            have BA := Blk.new wt1 #[.slice none 0 0, .slice none 0 0] 28
            have hal : Below wt1.heap.size wt1 (wt1.alloc (.cells #[.slice none 0 0, .slice none 0 0] 28)) := (Below.refl _ _).alloc (Nat.le_refl _) _
            have hlN : wt1.heap.size + 1 ≤ (wt1.alloc (.cells #[.slice none 0 0, .slice none 0 0] 28)).heap.size ∧ (wt1.alloc (.cells #[.slice none 0 0, .slice none 0 0] 28)).heap.size ≤ wt1.heap.size + 1 := by simp
            have hzS := hbS.size
            replace R1 := R1.below hal
            replace R2 := R2.below hal
            replace hbS := chain hbS hal
            clear hal
            generalize wt1.alloc (.cells #[.slice none 0 0, .slice none 0 0] 28) = wN at *
            refine wpAnyH_ready (rs := [5]) (by kernel_rfl) (by simp) ?_
            refine AllReadyH.cons (o := { dst := some 29, op := _, type := _, pos := _, after := _, guard := _ }) rfl (fun K hK => ?_) AllReadyH.nil
            go_simp
            refine (toStep_any (ta, tb, td, tq) _).mono ?_
            rintro e wt2 ⟨rfl, hbt2⟩
            replace R1 := R1.below hbt2
            replace R2 := R2.below hbt2
            replace BA := BA.below hbt2
            have hz_hbt2 := hbt2.size
            replace hbS := chain hbS hbt2
            clear hbt2
            (try go_wp2_with fail)
            refine hK.out _ _ ⟨(BV.below hbS).four.1, (BV.below hbS).four.2.1, (BV.below hbS).four.2.2.1, (BV.below hbS).four.2.2.2.1, (BB.below hbS).two.1, (BB.below hbS).two.2.1, (BS.below hbS).four.1, (BS.below hbS).four.2.1, (BS.below hbS).four.2.2.1, (BS.below hbS).four.2.2.2.1⟩ (fun hHeld => ?_)
            clear hK K
            try simp only [Act.put, List.setIfInBounds_toArray, List.set_cons_zero, List.set_cons_succ]
            refine wpAnyH_ready (rs := [6]) (by kernel_rfl) (by simp) ?_
            refine AllReadyH.cons (o := { dst := some 30, op := _, type := _, pos := _, after := _, guard := _ }) rfl (fun K hK => ?_) AllReadyH.nil
            go_simp
            refine (HSP.out _ _ _ _ _ _ _ rfl rfl l1 l2 R1.irow R2.irow).mono ?_
            rintro e wt3 ⟨d1, d2, k1, k2, rfl, hO, hbt3⟩
            replace R1 := R1.below hbt3
            replace R2 := R2.below hbt3
            replace BA := BA.below hbt3
            have hz_hbt3 := hbt3.size
            replace hbS := chain hbS hbt3
            clear hbt3
            (try go_wp2_with fail)
            refine hK.out _ _ ⟨(BV.below hbS).four.1, (BV.below hbS).four.2.1, (BV.below hbS).four.2.2.1, (BV.below hbS).four.2.2.2.1, (BB.below hbS).two.1, (BB.below hbS).two.2.1, (BS.below hbS).four.1, (BS.below hbS).four.2.1, (BS.below hbS).four.2.2.1, (BS.below hbS).four.2.2.2.1⟩ (fun hHeld => ?_)
            clear hK K
            try simp only [Act.put, List.setIfInBounds_toArray, List.set_cons_zero, List.set_cons_succ]
            refine wpAnyH_take (i := 7) (oi := { dst := some 23, op := _, type := _, pos := _, after := _, guard := _ }) (v := ?_) rfl (by kernel_rfl) (by kernel_rfl) (by kernel_rfl) (fun _ _ _ h => absurd h.1 (by simp)) (Or.inl ⟨by rfl, ?_⟩) (by assumption) ?_
            rotate_left
            · intro w hSw
              (try dsimp only at hSw)
              go_simp
              (try (with_reducible rfl))
            try simp only [Act.put, List.setIfInBounds_toArray, List.set_cons_zero, List.set_cons_succ]
            refine wpAnyH_take (i := 8) (oi := { dst := some 31, op := _, type := _, pos := _, after := _, guard := _ }) (v := ?_) rfl (by kernel_rfl) (by kernel_rfl) (by kernel_rfl) (fun _ _ _ h => absurd h.1 (by simp)) (Or.inl ⟨by rfl, ?_⟩) (by assumption) ?_
            rotate_left
            · intro w hSw
              (try dsimp only at hSw)
              go_simp
              (try (with_reducible rfl))
            try simp only [Act.put, List.setIfInBounds_toArray, List.set_cons_zero, List.set_cons_succ]
            refine wpAnyH_take (i := 9) (oi := { dst := some 32, op := _, type := _, pos := _, after := _, guard := _ }) (v := ?_) rfl (by kernel_rfl) (by kernel_rfl) (by kernel_rfl) (fun _ _ _ h => absurd h.1 (by simp)) (Or.inl ⟨by rfl, ?_⟩) (by assumption) ?_
            rotate_left
            · intro w hSw
              (try dsimp only at hSw)
              go_simp
              (try (with_reducible rfl))
            try simp only [Act.put, List.setIfInBounds_toArray, List.set_cons_zero, List.set_cons_succ]
            refine wpAnyH_ready (rs := [11]) (by kernel_rfl) (by simp) ?_
            refine AllReadyH.cons (o := { dst := none, op := _, type := _, pos := _, after := _, guard := _ }) rfl (fun K hK => ?_) AllReadyH.nil
            have q0 := BA.two.1
            have q1 := BA.two.2.1
            have qf := BA.two.2.2.1
            have ql := BA.two.2.2.2
            go_simp
            (try go_wp2_with fail)
            refine hK.out _ _ ⟨(BV.below (below2s BA hbS (by omega))).four.1, (BV.below (below2s BA hbS (by omega))).four.2.1, (BV.below (below2s BA hbS (by omega))).four.2.2.1, (BV.below (below2s BA hbS (by omega))).four.2.2.2.1, (BB.below (below2s BA hbS (by omega))).two.1, (BB.below (below2s BA hbS (by omega))).two.2.1, (BS.below (below2s BA hbS (by omega))).four.1, (BS.below (below2s BA hbS (by omega))).four.2.1, (BS.below (below2s BA hbS (by omega))).four.2.2.1, (BS.below (below2s BA hbS (by omega))).four.2.2.2.1⟩ (fun hHeld => ?_)
            clear hK K
            try simp only [Act.put, List.setIfInBounds_toArray, List.set_cons_zero, List.set_cons_succ]
            refine wpAnyH_take (i := 12) (oi := { dst := some 9, op := _, type := _, pos := _, after := _, guard := _ }) (v := ?_) rfl (by kernel_rfl) (by kernel_rfl) (by kernel_rfl) (fun _ _ _ h => absurd h.1 (by simp)) (Or.inl ⟨by rfl, ?_⟩) (by assumption) ?_
            rotate_left
            · intro w hSw
              (try dsimp only at hSw)
              go_simp
              (try (with_reducible rfl))
            try simp only [Act.put, List.setIfInBounds_toArray, List.set_cons_zero, List.set_cons_succ]
            refine wpAnyH_done (by kernel_rfl) ?_ _
            rw [HJ.out]
            refine ⟨rfl, _, d1, d2, k1, k2, _, _, g1, g2, ?_, VarB.stored BA hO ?_ ?_ ?_ ?_, below2s BA hbS (by omega)⟩
            · simp only [Act.put, List.setIfInBounds_toArray, List.set_cons_zero, List.set_cons_succ]
            all_goals (first | omega | (simp; omega))
        · go_simp
          refine hK.out _ _ ⟨(BV.below (hbS.alloc hbS.size _)).four.1, (BV.below (hbS.alloc hbS.size _)).four.2.1, (BV.below (hbS.alloc hbS.size _)).four.2.2.1, (BV.below (hbS.alloc hbS.size _)).four.2.2.2.1, (BB.below (hbS.alloc hbS.size _)).two.1, (BB.below (hbS.alloc hbS.size _)).two.2.1, (BS.below (hbS.alloc hbS.size _)).four.1, (BS.below (hbS.alloc hbS.size _)).four.2.1, (BS.below (hbS.alloc hbS.size _)).four.2.2.1, (BS.below (hbS.alloc hbS.size _)).four.2.2.2.1⟩ (fun hHeld => ?_)
          clear hK K
          try simp only [Act.put, List.setIfInBounds_toArray, List.set_cons_zero, List.set_cons_succ]
          have BA := Blk.new wt0 #[.slice none 0 0, .slice none 0 0] 28
          have hal : Below wt0.heap.size wt0 (wt0.alloc (.cells #[.slice none 0 0, .slice none 0 0] 28)) := (Below.refl _ _).alloc (Nat.le_refl _) _
          have hlN : wt0.heap.size + 1 ≤ (wt0.alloc (.cells #[.slice none 0 0, .slice none 0 0] 28)).heap.size ∧ (wt0.alloc (.cells #[.slice none 0 0, .slice none 0 0] 28)).heap.size ≤ wt0.heap.size + 1 := by simp
          have hzS := hbS.size
          replace hbS := chain hbS hal
          clear hal
          generalize wt0.alloc (.cells #[.slice none 0 0, .slice none 0 0] 28) = wN at *
          refine wpAnyH_ready (rs := [3]) (by kernel_rfl) (by simp) ?_
          refine AllReadyH.cons (o := { dst := some 27, op := _, type := _, pos := _, after := _, guard := _ }) rfl (fun K hK => ?_) AllReadyH.nil
          go_simp
          refine (toBoard_any a1 a2 _ _ c1 c2 xs ys _ rfl rfl l1 l2 (r1.below (chain hb hbS)) (r2.below (chain hb hbS))).mono ?_
          rintro e wt1 ⟨g1, g2, rfl, gg1, gg2, R1, R2, hbt1⟩
          replace BA := BA.below hbt1
          have hz_hbt1 := hbt1.size
          replace hbS := chain hbS hbt1
          clear hbt1
          (try go_wp2_with fail)
          refine hK.out _ _ ⟨(BV.below hbS).four.1, (BV.below hbS).four.2.1, (BV.below hbS).four.2.2.1, (BV.below hbS).four.2.2.2.1, (BB.below hbS).two.1, (BB.below hbS).two.2.1, (BS.below hbS).four.1, (BS.below hbS).four.2.1, (BS.below hbS).four.2.2.1, (BS.below hbS).four.2.2.2.1⟩ (fun hHeld => ?_)
          clear hK K
          try simp only [Act.put, List.setIfInBounds_toArray, List.set_cons_zero, List.set_cons_succ]
          refine wpAnyH_ready (rs := [5]) (by kernel_rfl) (by simp) ?_
          refine AllReadyH.cons (o := { dst := some 29, op := _, type := _, pos := _, after := _, guard := _ }) rfl (fun K hK => ?_) AllReadyH.nil
          go_simp
          refine (toStep_any (ta, tb, td, tq) _).mono ?_
          rintro e wt2 ⟨rfl, hbt2⟩
          replace R1 := R1.below hbt2
          replace R2 := R2.below hbt2
          replace BA := BA.below hbt2
          have hz_hbt2 := hbt2.size
          replace hbS := chain hbS hbt2
          clear hbt2
          (try go_wp2_with fail)
          refine hK.out _ _ ⟨(BV.below hbS).four.1, (BV.below hbS).four.2.1, (BV.below hbS).four.2.2.1, (BV.below hbS).four.2.2.2.1, (BB.below hbS).two.1, (BB.below hbS).two.2.1, (BS.below hbS).four.1, (BS.below hbS).four.2.1, (BS.below hbS).four.2.2.1, (BS.below hbS).four.2.2.2.1⟩ (fun hHeld => ?_)
          clear hK K
          try simp only [Act.put, List.setIfInBounds_toArray, List.set_cons_zero, List.set_cons_succ]
          refine wpAnyH_ready (rs := [6]) (by kernel_rfl) (by simp) ?_
          refine AllReadyH.cons (o := { dst := some 30, op := _, type := _, pos := _, after := _, guard := _ }) rfl (fun K hK => ?_) AllReadyH.nil
          go_simp
          refine (HSP.out _ _ _ _ _ _ _ rfl rfl l1 l2 R1.irow R2.irow).mono ?_
          rintro e wt3 ⟨d1, d2, k1, k2, rfl, hO, hbt3⟩
          replace R1 := R1.below hbt3
          replace R2 := R2.below hbt3
          replace BA := BA.below hbt3
          have hz_hbt3 := hbt3.size
          replace hbS := chain hbS hbt3
          clear hbt3
          (try go_wp2_with fail)
          refine hK.out _ _ ⟨(BV.below hbS).four.1, (BV.below hbS).four.2.1, (BV.below hbS).four.2.2.1, (BV.below hbS).four.2.2.2.1, (BB.below hbS).two.1, (BB.below hbS).two.2.1, (BS.below hbS).four.1, (BS.below hbS).four.2.1, (BS.below hbS).four.2.2.1, (BS.below hbS).four.2.2.2.1⟩ (fun hHeld => ?_)
          clear hK K
          try simp only [Act.put, List.setIfInBounds_toArray, List.set_cons_zero, List.set_cons_succ]
          refine wpAnyH_take (i := 7) (oi := { dst := some 23, op := _, type := _, pos := _, after := _, guard := _ }) (v := ?_) rfl (by kernel_rfl) (by kernel_rfl) (by kernel_rfl) (fun _ _ _ h => absurd h.1 (by simp)) (Or.inl ⟨by rfl, ?_⟩) (by assumption) ?_
          rotate_left
          · intro w hSw
            (try dsimp only at hSw)
            go_simp
            (try (with_reducible rfl))
          try simp only [Act.put, List.setIfInBounds_toArray, List.set_cons_zero, List.set_cons_succ]
          refine wpAnyH_take (i := 8) (oi := { dst := some 31, op := _, type := _, pos := _, after := _, guard := _ }) (v := ?_) rfl (by kernel_rfl) (by kernel_rfl) (by kernel_rfl) (fun _ _ _ h => absurd h.1 (by simp)) (Or.inl ⟨by rfl, ?_⟩) (by assumption) ?_
          rotate_left
          · intro w hSw
            (try dsimp only at hSw)
            go_simp
            (try (with_reducible rfl))
          try simp only [Act.put, List.setIfInBounds_toArray, List.set_cons_zero, List.set_cons_succ]
          refine wpAnyH_take (i := 9) (oi := { dst := some 32, op := _, type := _, pos := _, after := _, guard := _ }) (v := ?_) rfl (by kernel_rfl) (by kernel_rfl) (by kernel_rfl) (fun _ _ _ h => absurd h.1 (by simp)) (Or.inl ⟨by rfl, ?_⟩) (by assumption) ?_
          rotate_left
          · intro w hSw
            (try dsimp only at hSw)
            go_simp
            (try (with_reducible rfl))
          try simp only [Act.put, List.setIfInBounds_toArray, List.set_cons_zero, List.set_cons_succ]
          refine wpAnyH_ready (rs := [11]) (by kernel_rfl) (by simp) ?_
          refine AllReadyH.cons (o := { dst := none, op := _, type := _, pos := _, after := _, guard := _ }) rfl (fun K hK => ?_) AllReadyH.nil
          have q0 := BA.two.1
          have q1 := BA.two.2.1
          have qf := BA.two.2.2.1
          have ql := BA.two.2.2.2
          go_simp
          (try go_wp2_with fail)
          refine hK.out _ _ ⟨(BV.below (below2s BA hbS (by omega))).four.1, (BV.below (below2s BA hbS (by omega))).four.2.1, (BV.below (below2s BA hbS (by omega))).four.2.2.1, (BV.below (below2s BA hbS (by omega))).four.2.2.2.1, (BB.below (below2s BA hbS (by omega))).two.1, (BB.below (below2s BA hbS (by omega))).two.2.1, (BS.below (below2s BA hbS (by omega))).four.1, (BS.below (below2s BA hbS (by omega))).four.2.1, (BS.below (below2s BA hbS (by omega))).four.2.2.1, (BS.below (below2s BA hbS (by omega))).four.2.2.2.1⟩ (fun hHeld => ?_)
          clear hK K
          try simp only [Act.put, List.setIfInBounds_toArray, List.set_cons_zero, List.set_cons_succ]
          refine wpAnyH_take (i := 12) (oi := { dst := some 9, op := _, type := _, pos := _, after := _, guard := _ }) (v := ?_) rfl (by kernel_rfl) (by kernel_rfl) (by kernel_rfl) (fun _ _ _ h => absurd h.1 (by simp)) (Or.inl ⟨by rfl, ?_⟩) (by assumption) ?_
          rotate_left
          · intro w hSw
            (try dsimp only at hSw)
            go_simp
            (try (with_reducible rfl))
          try simp only [Act.put, List.setIfInBounds_toArray, List.set_cons_zero, List.set_cons_succ]
          refine wpAnyH_done (by kernel_rfl) ?_ _
          rw [HJ.out]
          refine ⟨rfl, _, d1, d2, k1, k2, _, _, g1, g2, ?_, VarB.stored BA hO ?_ ?_ ?_ ?_, below2s BA hbS (by omega)⟩
          · simp only [Act.put, List.setIfInBounds_toArray, List.set_cons_zero, List.set_cons_succ]
          all_goals (first | omega | (simp; omega))
      · go_simp
        refine hK.out _ _ ⟨(BV.below (hbS.alloc hbS.size _)).four.1, (BV.below (hbS.alloc hbS.size _)).four.2.1, (BV.below (hbS.alloc hbS.size _)).four.2.2.1, (BV.below (hbS.alloc hbS.size _)).four.2.2.2.1, (BB.below (hbS.alloc hbS.size _)).two.1, (BB.below (hbS.alloc hbS.size _)).two.2.1, (BS.below (hbS.alloc hbS.size _)).four.1, (BS.below (hbS.alloc hbS.size _)).four.2.1, (BS.below (hbS.alloc hbS.size _)).four.2.2.1, (BS.below (hbS.alloc hbS.size _)).four.2.2.2.1⟩ (fun hHeld => ?_)
        clear hK K
        try simp only [Act.put, List.setIfInBounds_toArray, List.set_cons_zero, List.set_cons_succ]
        have BA := Blk.new vd #[.slice none 0 0, .slice none 0 0] 28
        have hal : Below vd.heap.size vd (vd.alloc (.cells #[.slice none 0 0, .slice none 0 0] 28)) := (Below.refl _ _).alloc (Nat.le_refl _) _
        have hlN : vd.heap.size + 1 ≤ (vd.alloc (.cells #[.slice none 0 0, .slice none 0 0] 28)).heap.size ∧ (vd.alloc (.cells #[.slice none 0 0, .slice none 0 0] 28)).heap.size ≤ vd.heap.size + 1 := by simp
        have hzS := hbS.size
        replace hbS := chain hbS hal
        clear hal
        generalize vd.alloc (.cells #[.slice none 0 0, .slice none 0 0] 28) = wN at *
        refine wpAnyH_ready (rs := [1]) (by kernel_rfl) (by simp) ?_
        refine AllReadyH.cons (o := { dst := some 25, op := _, type := _, pos := _, after := _, guard := _ }) rfl (fun K hK => ?_) AllReadyH.nil
        go_simp
        refine (toVariant_any _ _ _ _ _).mono ?_
        rintro e wt0 ⟨rfl, hbt0⟩
        replace BA := BA.below hbt0
        have hz_hbt0 := hbt0.size
        replace hbS := chain hbS hbt0
        clear hbt0
        (try go_wp2_with fail)
        refine hK.out _ _ ⟨(BV.below hbS).four.1, (BV.below hbS).four.2.1, (BV.below hbS).four.2.2.1, (BV.below hbS).four.2.2.2.1, (BB.below hbS).two.1, (BB.below hbS).two.2.1, (BS.below hbS).four.1, (BS.below hbS).four.2.1, (BS.below hbS).four.2.2.1, (BS.below hbS).four.2.2.2.1⟩ (fun hHeld => ?_)
        clear hK K
        try simp only [Act.put, List.setIfInBounds_toArray, List.set_cons_zero, List.set_cons_succ]
        refine wpAnyH_ready (rs := [3]) (by kernel_rfl) (by simp) ?_
        refine AllReadyH.cons (o := { dst := some 27, op := _, type := _, pos := _, after := _, guard := _ }) rfl (fun K hK => ?_) AllReadyH.nil
        go_simp
        refine (toBoard_any a1 a2 _ _ c1 c2 xs ys _ rfl rfl l1 l2 (r1.below (chain hb hbS)) (r2.below (chain hb hbS))).mono ?_
        rintro e wt1 ⟨g1, g2, rfl, gg1, gg2, R1, R2, hbt1⟩
        replace BA := BA.below hbt1
        have hz_hbt1 := hbt1.size
        replace hbS := chain hbS hbt1
        clear hbt1
        (try go_wp2_with fail)
        refine hK.out _ _ ⟨(BV.below hbS).four.1, (BV.below hbS).four.2.1, (BV.below hbS).four.2.2.1, (BV.below hbS).four.2.2.2.1, (BB.below hbS).two.1, (BB.below hbS).two.2.1, (BS.below hbS).four.1, (BS.below hbS).four.2.1, (BS.below hbS).four.2.2.1, (BS.below hbS).four.2.2.2.1⟩ (fun hHeld => ?_)
        clear hK K
        try simp only [Act.put, List.setIfInBounds_toArray, List.set_cons_zero, List.set_cons_succ]
        refine wpAnyH_ready (rs := [5]) (by kernel_rfl) (by simp) ?_
        refine AllReadyH.cons (o := { dst := some 29, op := _, type := _, pos := _, after := _, guard := _ }) rfl (fun K hK => ?_) AllReadyH.nil
        go_simp
        refine (toStep_any (ta, tb, td, tq) _).mono ?_
        rintro e wt2 ⟨rfl, hbt2⟩
        replace R1 := R1.below hbt2
        replace R2 := R2.below hbt2
        replace BA := BA.below hbt2
        have hz_hbt2 := hbt2.size
        replace hbS := chain hbS hbt2
        clear hbt2
        (try go_wp2_with fail)
        refine hK.out _ _ ⟨(BV.below hbS).four.1, (BV.below hbS).four.2.1, (BV.below hbS).four.2.2.1, (BV.below hbS).four.2.2.2.1, (BB.below hbS).two.1, (BB.below hbS).two.2.1, (BS.below hbS).four.1, (BS.below hbS).four.2.1, (BS.below hbS).four.2.2.1, (BS.below hbS).four.2.2.2.1⟩ (fun hHeld => ?_)
        clear hK K
        try simp only [Act.put, List.setIfInBounds_toArray, List.set_cons_zero, List.set_cons_succ]
        refine wpAnyH_ready (rs := [6]) (by kernel_rfl) (by simp) ?_
        refine AllReadyH.cons (o := { dst := some 30, op := _, type := _, pos := _, after := _, guard := _ }) rfl (fun K hK => ?_) AllReadyH.nil
        go_simp
        refine (HSP.out _ _ _ _ _ _ _ rfl rfl l1 l2 R1.irow R2.irow).mono ?_
        rintro e wt3 ⟨d1, d2, k1, k2, rfl, hO, hbt3⟩
        replace R1 := R1.below hbt3
        replace R2 := R2.below hbt3
        replace BA := BA.below hbt3
        have hz_hbt3 := hbt3.size
        replace hbS := chain hbS hbt3
        clear hbt3
        (try go_wp2_with fail)
        refine hK.out _ _ ⟨(BV.below hbS).four.1, (BV.below hbS).four.2.1, (BV.below hbS).four.2.2.1, (BV.below hbS).four.2.2.2.1, (BB.below hbS).two.1, (BB.below hbS).two.2.1, (BS.below hbS).four.1, (BS.below hbS).four.2.1, (BS.below hbS).four.2.2.1, (BS.below hbS).four.2.2.2.1⟩ (fun hHeld => ?_)
        clear hK K
        try simp only [Act.put, List.setIfInBounds_toArray, List.set_cons_zero, List.set_cons_succ]
        refine wpAnyH_take (i := 7) (oi := { dst := some 23, op := _, type := _, pos := _, after := _, guard := _ }) (v := ?_) rfl (by kernel_rfl) (by kernel_rfl) (by kernel_rfl) (fun _ _ _ h => absurd h.1 (by simp)) (Or.inl ⟨by rfl, ?_⟩) (by assumption) ?_
        rotate_left
        · intro w hSw
          (try dsimp only at hSw)
          go_simp
          (try (with_reducible rfl))
        try simp only [Act.put, List.setIfInBounds_toArray, List.set_cons_zero, List.set_cons_succ]
        refine wpAnyH_take (i := 8) (oi := { dst := some 31, op := _, type := _, pos := _, after := _, guard := _ }) (v := ?_) rfl (by kernel_rfl) (by kernel_rfl) (by kernel_rfl) (fun _ _ _ h => absurd h.1 (by simp)) (Or.inl ⟨by rfl, ?_⟩) (by assumption) ?_
        rotate_left
        · intro w hSw
          (try dsimp only at hSw)
          go_simp
          (try (with_reducible rfl))
        try simp only [Act.put, List.setIfInBounds_toArray, List.set_cons_zero, List.set_cons_succ]
        refine wpAnyH_take (i := 9) (oi := { dst := some 32, op := _, type := _, pos := _, after := _, guard := _ }) (v := ?_) rfl (by kernel_rfl) (by kernel_rfl) (by kernel_rfl) (fun _ _ _ h => absurd h.1 (by simp)) (Or.inl ⟨by rfl, ?_⟩) (by assumption) ?_
        rotate_left
        · intro w hSw
          (try dsimp only at hSw)
          go_simp
          (try (with_reducible rfl))
        try simp only [Act.put, List.setIfInBounds_toArray, List.set_cons_zero, List.set_cons_succ]
        refine wpAnyH_ready (rs := [11]) (by kernel_rfl) (by simp) ?_
        refine AllReadyH.cons (o := { dst := none, op := _, type := _, pos := _, after := _, guard := _ }) rfl (fun K hK => ?_) AllReadyH.nil
        have q0 := BA.two.1
        have q1 := BA.two.2.1
        have qf := BA.two.2.2.1
        have ql := BA.two.2.2.2
        go_simp
        (try go_wp2_with fail)
        refine hK.out _ _ ⟨(BV.below (below2s BA hbS (by omega))).four.1, (BV.below (below2s BA hbS (by omega))).four.2.1, (BV.below (below2s BA hbS (by omega))).four.2.2.1, (BV.below (below2s BA hbS (by omega))).four.2.2.2.1, (BB.below (below2s BA hbS (by omega))).two.1, (BB.below (below2s BA hbS (by omega))).two.2.1, (BS.below (below2s BA hbS (by omega))).four.1, (BS.below (below2s BA hbS (by omega))).four.2.1, (BS.below (below2s BA hbS (by omega))).four.2.2.1, (BS.below (below2s BA hbS (by omega))).four.2.2.2.1⟩ (fun hHeld => ?_)
        clear hK K
        try simp only [Act.put, List.setIfInBounds_toArray, List.set_cons_zero, List.set_cons_succ]
        refine wpAnyH_take (i := 12) (oi := { dst := some 9, op := _, type := _, pos := _, after := _, guard := _ }) (v := ?_) rfl (by kernel_rfl) (by kernel_rfl) (by kernel_rfl) (fun _ _ _ h => absurd h.1 (by simp)) (Or.inl ⟨by rfl, ?_⟩) (by assumption) ?_
        rotate_left
        · intro w hSw
          (try dsimp only at hSw)
          go_simp
          (try (with_reducible rfl))
        try simp only [Act.put, List.setIfInBounds_toArray, List.set_cons_zero, List.set_cons_succ]
        refine wpAnyH_done (by kernel_rfl) ?_ _
        rw [HJ.out]
        refine ⟨rfl, _, d1, d2, k1, k2, _, _, g1, g2, ?_, VarB.stored BA hO ?_ ?_ ?_ ?_, below2s BA hbS (by omega)⟩
        · simp only [Act.put, List.setIfInBounds_toArray, List.set_cons_zero, List.set_cons_succ]
        all_goals (first | omega | (simp; omega))
    · intro a' w1 hj
      rw [HJ.out] at hj
      clear HJ
      obtain ⟨BV0, d1V0, d2V0, k1V0, k2V0, loV0, hiV0, g1V0, g2V0, rfl, V0, hbS⟩ := hj
      try simp only [Act.put, List.setIfInBounds_toArray, List.set_cons_zero, List.set_cons_succ]
      replace BV := BV.below hbS
      replace BB := BB.below hbS
      replace BS := BS.below hbS
      have hz1 := hbS.size
      replace hb := chain hb hbS
      clear hbS
      have e1V0 := V0.2.2.1
      have e2V0 := V0.2.2.2.1
      have e3V0 := V0.2.2.2.2.1
      have e4V0 := V0.2.2.2.2.2
      have e5V0 := V0.1.lt
      obtain ⟨q0_BV, q1_BV, q2_BV, q3_BV, qf_BV, ql_BV⟩ := BV.four
      obtain ⟨q0_BB, q1_BB, qf_BB, ql_BB⟩ := BB.two
      obtain ⟨q0_BS, q1_BS, q2_BS, q3_BS, qf_BS, ql_BS⟩ := BS.four
      obtain ⟨q0_V0_1, q1_V0_1, qf_V0_1, ql_V0_1⟩ := V0.1.two
      go_wp2_with fail
      clear q0_BV q1_BV q2_BV q3_BV qf_BV ql_BV
      clear q0_BB q1_BB qf_BB ql_BB
      clear q0_BS q1_BS q2_BS q3_BS qf_BS ql_BS
      clear q0_V0_1 q1_V0_1 qf_V0_1 ql_V0_1
      refine (toBoard_any a1 a2 _ _ c1 c2 xs ys _ rfl rfl l1 l2 (r1.below hb) (r2.below hb)).mono ?_
      rintro e w2 ⟨b1, b2, rfl, gb1, gb2, R1, R2, hb2⟩
      replace BV := BV.below hb2
      replace BB := BB.below hb2
      replace BS := BS.below hb2
      replace V0 := V0.below hb2
      have hz2 := hb2.size
      replace hb := chain hb hb2
      clear hb2
      have OX : OBd w1.heap.size w2.heap.size w2 (some ⟨b1, 0, none⟩) (some ⟨b2, 0, none⟩) xs ys := .inr ⟨b1, b2, rfl, rfl, by omega, gb1, R1.lt, by omega, R2.lt, R1, R2⟩
      clear R1 R2 gb1 gb2
      have BX := Blk.new w2 #[.slice (some ⟨b1, 0, none⟩) xs.length xs.length, .slice (some ⟨b2, 0, none⟩) ys.length ys.length] 28
      have hal3 : Below w2.heap.size w2 (w2.alloc (.cells #[.slice (some ⟨b1, 0, none⟩) xs.length xs.length, .slice (some ⟨b2, 0, none⟩) ys.length ys.length] 28)) := (Below.refl _ _).alloc (Nat.le_refl _) _
      have hz3 : (w2.alloc (.cells #[.slice (some ⟨b1, 0, none⟩) xs.length xs.length, .slice (some ⟨b2, 0, none⟩) ys.length ys.length] 28)).heap.size = w2.heap.size + 1 := by simp
      replace BV := BV.below hal3
      replace BB := BB.below hal3
      replace BS := BS.below hal3
      replace V0 := V0.below hal3
      replace OX := OX.below hal3
      replace hb := chain hb hal3
      clear hal3
      obtain ⟨q0_BV, q1_BV, q2_BV, q3_BV, qf_BV, ql_BV⟩ := BV.four
      obtain ⟨q0_BB, q1_BB, qf_BB, ql_BB⟩ := BB.two
      obtain ⟨q0_BS, q1_BS, q2_BS, q3_BS, qf_BS, ql_BS⟩ := BS.four
      obtain ⟨q0_V0_1, q1_V0_1, qf_V0_1, ql_V0_1⟩ := V0.1.two
      obtain ⟨q0_BX, q1_BX, qf_BX, ql_BX⟩ := BX.two
      go_wp2_with fail
      clear q0_BV q1_BV q2_BV q3_BV qf_BV ql_BV
      clear q0_BB q1_BB qf_BB ql_BB
      clear q0_BS q1_BS q2_BS q3_BS qf_BS ql_BS
      clear q0_V0_1 q1_V0_1 qf_V0_1 ql_V0_1
      clear q0_BX q1_BX qf_BX ql_BX
      generalize (w2.alloc (.cells #[.slice (some ⟨b1, 0, none⟩) xs.length xs.length, .slice (some ⟨b2, 0, none⟩) ys.length ys.length] 28)) = w3 at *
      obtain ⟨q0_BV, q1_BV, q2_BV, q3_BV, qf_BV, ql_BV⟩ := BV.four
      obtain ⟨q0_BB, q1_BB, qf_BB, ql_BB⟩ := BB.two
      obtain ⟨q0_BS, q1_BS, q2_BS, q3_BS, qf_BS, ql_BS⟩ := BS.four
      obtain ⟨q0_V0_1, q1_V0_1, qf_V0_1, ql_V0_1⟩ := V0.1.two
      obtain ⟨q0_BX, q1_BX, qf_BX, ql_BX⟩ := BX.two
      go_wp2_with fail
      clear q0_BV q1_BV q2_BV q3_BV qf_BV ql_BV
      clear q0_BB q1_BB qf_BB ql_BB
      clear q0_BS q1_BS q2_BS q3_BS qf_BS ql_BS
      clear q0_V0_1 q1_V0_1 qf_V0_1 ql_V0_1
      clear q0_BX q1_BX qf_BX ql_BX
      obtain ⟨J, hJ⟩ : ∃ J : Act → Act → World → Prop, J = fun a a' w' => ∃ B d1 d2 k1 k2 lo hi, a' = (((((((((((a.put (some 36) (.agg #[.int .i64 p, .int .i64 c, .int .i64 h, .int .i64 s])).put (some 37) (.agg #[.int .i64 p, .int .i64 c, .int .i64 h, .int .i64 s])).put (some 38) (.agg #[.slice (some ⟨b1, 0, none⟩) xs.length xs.length, .slice (some ⟨b2, 0, none⟩) ys.length ys.length])).put (some 39) (.agg #[.int .i64 ta, .int .i64 tb, .int .i64 td, .bool tq])).put (some 40) (.agg #[.int .i64 ta, .int .i64 tb, .int .i64 td, .bool tq])).put (some 41) (.tuple #[.agg #[.slice d1 X.length k1, .slice d2 Y.length k2], .int .i64 r])).put (some 35) (.tuple #[.agg #[.slice d1 X.length k1, .slice d2 Y.length k2], .int .i64 r])).put (some 42) (.agg #[.slice d1 X.length k1, .slice d2 Y.length k2])).put (some 43) (.int .i64 r)).put (some 12) (.int .i64 r)).put (some 11) (.pointer (some ⟨B, 0, none⟩))) ∧ VarB w3.heap.size w' B d1 d2 X.length Y.length k1 k2 lo hi X Y ∧ Below w3.heap.size w3 w' := ⟨_, rfl⟩
      have HJ := Lib.hid hJ
      clear hJ
      refine wp_region_join J ?_ ?_
      · skip
        refine wp_region_held_drew (S := fun w' => w'.cell? ⟨w.heap.size, 0, none⟩ = some (.int .i64 p) ∧ w'.cell? ⟨w.heap.size, 1, none⟩ = some (.int .i64 c) ∧ w'.cell? ⟨w.heap.size, 2, none⟩ = some (.int .i64 h) ∧ w'.cell? ⟨w.heap.size, 3, none⟩ = some (.int .i64 s) ∧ w'.cell? ⟨(w.heap.size + 1), 0, none⟩ = some (.slice a1 xs.length c1) ∧ w'.cell? ⟨(w.heap.size + 1), 1, none⟩ = some (.slice a2 ys.length c2) ∧ w'.cell? ⟨(w.heap.size + 1 + 1), 0, none⟩ = some (.int .i64 ta) ∧ w'.cell? ⟨(w.heap.size + 1 + 1), 1, none⟩ = some (.int .i64 tb) ∧ w'.cell? ⟨(w.heap.size + 1 + 1), 2, none⟩ = some (.int .i64 td) ∧ w'.cell? ⟨(w.heap.size + 1 + 1), 3, none⟩ = some (.bool tq) ∧ w'.cell? ⟨BV0, 0, none⟩ = some (.slice d1V0 X.length k1V0) ∧ w'.cell? ⟨BV0, 1, none⟩ = some (.slice d2V0 Y.length k2V0) ∧ w'.cell? ⟨w2.heap.size, 0, none⟩ = some (.slice (some ⟨b1, 0, none⟩) xs.length xs.length) ∧ w'.cell? ⟨w2.heap.size, 1, none⟩ = some (.slice (some ⟨b2, 0, none⟩) ys.length ys.length)) (by kernel_rfl) ⟨(BV.below (Below.refl _ _).drew).four.1, (BV.below (Below.refl _ _).drew).four.2.1, (BV.below (Below.refl _ _).drew).four.2.2.1, (BV.below (Below.refl _ _).drew).four.2.2.2.1, (BB.below (Below.refl _ _).drew).two.1, (BB.below (Below.refl _ _).drew).two.2.1, (BS.below (Below.refl _ _).drew).four.1, (BS.below (Below.refl _ _).drew).four.2.1, (BS.below (Below.refl _ _).drew).four.2.2.1, (BS.below (Below.refl _ _).drew).four.2.2.2.1, (V0.below (Below.refl _ _).drew).1.two.1, (V0.below (Below.refl _ _).drew).1.two.2.1, (BX.below (Below.refl _ _).drew).two.1, (BX.below (Below.refl _ _).drew).two.2.1⟩ (fun hHeld => ?_)
        clear hHeld
        have hbS : Below w3.heap.size w3 w3.drew := (Below.refl _ _).drew
        have hzd := hbS.size
        generalize w3.drew = vd at *
        have hHeld := (show vd.cell? ⟨w.heap.size, 0, none⟩ = some (.int .i64 p) ∧ vd.cell? ⟨w.heap.size, 1, none⟩ = some (.int .i64 c) ∧ vd.cell? ⟨w.heap.size, 2, none⟩ = some (.int .i64 h) ∧ vd.cell? ⟨w.heap.size, 3, none⟩ = some (.int .i64 s) ∧ vd.cell? ⟨(w.heap.size + 1), 0, none⟩ = some (.slice a1 xs.length c1) ∧ vd.cell? ⟨(w.heap.size + 1), 1, none⟩ = some (.slice a2 ys.length c2) ∧ vd.cell? ⟨(w.heap.size + 1 + 1), 0, none⟩ = some (.int .i64 ta) ∧ vd.cell? ⟨(w.heap.size + 1 + 1), 1, none⟩ = some (.int .i64 tb) ∧ vd.cell? ⟨(w.heap.size + 1 + 1), 2, none⟩ = some (.int .i64 td) ∧ vd.cell? ⟨(w.heap.size + 1 + 1), 3, none⟩ = some (.bool tq) ∧ vd.cell? ⟨BV0, 0, none⟩ = some (.slice d1V0 X.length k1V0) ∧ vd.cell? ⟨BV0, 1, none⟩ = some (.slice d2V0 Y.length k2V0) ∧ vd.cell? ⟨w2.heap.size, 0, none⟩ = some (.slice (some ⟨b1, 0, none⟩) xs.length xs.length) ∧ vd.cell? ⟨w2.heap.size, 1, none⟩ = some (.slice (some ⟨b2, 0, none⟩) ys.length ys.length) from ⟨(BV.below hbS).four.1, (BV.below hbS).four.2.1, (BV.below hbS).four.2.2.1, (BV.below hbS).four.2.2.2.1, (BB.below hbS).two.1, (BB.below hbS).two.2.1, (BS.below hbS).four.1, (BS.below hbS).four.2.1, (BS.below hbS).four.2.2.1, (BS.below hbS).four.2.2.2.1, (V0.below hbS).1.two.1, (V0.below hbS).1.two.2.1, (BX.below hbS).two.1, (BX.below hbS).two.2.1⟩)
        refine wpAnyH_take (i := 0) (oi := { dst := some 36, op := _, type := _, pos := _, after := _, guard := _ }) (v := ?_) rfl (by kernel_rfl) (by kernel_rfl) (by kernel_rfl) (fun _ _ _ h => absurd h.1 (by simp)) (Or.inl ⟨by rfl, ?_⟩) (by assumption) ?_
        rotate_left
        · intro w hSw
          (try dsimp only at hSw)
          go_simp
          (try (with_reducible rfl))
        try simp only [Act.put, List.setIfInBounds_toArray, List.set_cons_zero, List.set_cons_succ]
        refine wpAnyH_take (i := 2) (oi := { dst := some 38, op := _, type := _, pos := _, after := _, guard := _ }) (v := ?_) rfl (by kernel_rfl) (by kernel_rfl) (by kernel_rfl) (fun _ _ _ h => absurd h.1 (by simp)) (Or.inl ⟨by rfl, ?_⟩) (by assumption) ?_
        rotate_left
        · intro w hSw
          (try dsimp only at hSw)
          go_simp
          (try (with_reducible rfl))
        try simp only [Act.put, List.setIfInBounds_toArray, List.set_cons_zero, List.set_cons_succ]
        refine wpAnyH_take (i := 3) (oi := { dst := some 39, op := _, type := _, pos := _, after := _, guard := _ }) (v := ?_) rfl (by kernel_rfl) (by kernel_rfl) (by kernel_rfl) (fun _ _ _ h => absurd h.1 (by simp)) (Or.inl ⟨by rfl, ?_⟩) (by assumption) ?_
        rotate_left
        · intro w hSw
          (try dsimp only at hSw)
          go_simp
          (try (with_reducible rfl))
        try simp only [Act.put, List.setIfInBounds_toArray, List.set_cons_zero, List.set_cons_succ]
        refine wpAnyH_ready (rs := [1, 9]) (by kernel_rfl) (by simp) ?_
        refine AllReadyH.cons (o := { dst := some 37, op := _, type := _, pos := _, after := _, guard := _ }) rfl (fun K hK => ?_) (AllReadyH.cons (o := { dst := some 11, op := _, type := _, pos := _, after := _, guard := _ }) rfl (fun K hK => ?_) AllReadyH.nil)
        · go_simp
          refine (toVariant_any _ _ _ _ _).mono ?_
          rintro e wt0 ⟨rfl, hbt0⟩
          have hz_hbt0 := hbt0.size
          replace hbS := chain hbS hbt0
          clear hbt0
          (try go_wp2_with fail)
          refine hK.out _ _ ⟨(BV.below hbS).four.1, (BV.below hbS).four.2.1, (BV.below hbS).four.2.2.1, (BV.below hbS).four.2.2.2.1, (BB.below hbS).two.1, (BB.below hbS).two.2.1, (BS.below hbS).four.1, (BS.below hbS).four.2.1, (BS.below hbS).four.2.2.1, (BS.below hbS).four.2.2.2.1, (V0.below hbS).1.two.1, (V0.below hbS).1.two.2.1, (BX.below hbS).two.1, (BX.below hbS).two.2.1⟩ (fun hHeld => ?_)
          clear hK K
          try simp only [Act.put, List.setIfInBounds_toArray, List.set_cons_zero, List.set_cons_succ]
          refine wpAnyH_ready (rs := [4, 9]) (by kernel_rfl) (by simp) ?_
          refine AllReadyH.cons (o := { dst := some 40, op := _, type := _, pos := _, after := _, guard := _ }) rfl (fun K hK => ?_) (AllReadyH.cons (o := { dst := some 11, op := _, type := _, pos := _, after := _, guard := _ }) rfl (fun K hK => ?_) AllReadyH.nil)
          · go_simp
            refine (toStep_any (ta, tb, td, tq) _).mono ?_
            rintro e wt1 ⟨rfl, hbt1⟩
            have hz_hbt1 := hbt1.size
            replace hbS := chain hbS hbt1
            clear hbt1
            (try go_wp2_with fail)
            refine hK.out _ _ ⟨(BV.below hbS).four.1, (BV.below hbS).four.2.1, (BV.below hbS).four.2.2.1, (BV.below hbS).four.2.2.2.1, (BB.below hbS).two.1, (BB.below hbS).two.2.1, (BS.below hbS).four.1, (BS.below hbS).four.2.1, (BS.below hbS).four.2.2.1, (BS.below hbS).four.2.2.2.1, (V0.below hbS).1.two.1, (V0.below hbS).1.two.2.1, (BX.below hbS).two.1, (BX.below hbS).two.2.1⟩ (fun hHeld => ?_)
            clear hK K
            try simp only [Act.put, List.setIfInBounds_toArray, List.set_cons_zero, List.set_cons_succ]
            refine wpAnyH_ready (rs := [5, 9]) (by kernel_rfl) (by simp) ?_
            refine AllReadyH.cons (o := { dst := some 41, op := _, type := _, pos := _, after := _, guard := _ }) rfl (fun K hK => ?_) (AllReadyH.cons (o := { dst := some 11, op := _, type := _, pos := _, after := _, guard := _ }) rfl (fun K hK => ?_) AllReadyH.nil)
            · go_simp
              refine (HIM.out _ _ _ _ _ _ _ rfl rfl l1 l2 (OX.below hbS).irow1 (OX.below hbS).irow2).mono ?_
              rintro e wt2 ⟨d1, d2, k1, k2, rfl, hO, hbt2⟩
              have hz_hbt2 := hbt2.size
              replace hbS := chain hbS hbt2
              clear hbt2
              (try go_wp2_with fail)
              refine hK.out _ _ ⟨(BV.below hbS).four.1, (BV.below hbS).four.2.1, (BV.below hbS).four.2.2.1, (BV.below hbS).four.2.2.2.1, (BB.below hbS).two.1, (BB.below hbS).two.2.1, (BS.below hbS).four.1, (BS.below hbS).four.2.1, (BS.below hbS).four.2.2.1, (BS.below hbS).four.2.2.2.1, (V0.below hbS).1.two.1, (V0.below hbS).1.two.2.1, (BX.below hbS).two.1, (BX.below hbS).two.2.1⟩ (fun hHeld => ?_)
              clear hK K
              try simp only [Act.put, List.setIfInBounds_toArray, List.set_cons_zero, List.set_cons_succ]
              refine wpAnyH_take (i := 6) (oi := { dst := some 35, op := _, type := _, pos := _, after := _, guard := _ }) (v := ?_) rfl (by kernel_rfl) (by kernel_rfl) (by kernel_rfl) (fun _ _ _ h => absurd h.1 (by simp)) (Or.inl ⟨by rfl, ?_⟩) (by assumption) ?_
              rotate_left
              · intro w hSw
                (try dsimp only at hSw)
                go_simp
                (try (with_reducible rfl))
              try simp only [Act.put, List.setIfInBounds_toArray, List.set_cons_zero, List.set_cons_succ]
              refine wpAnyH_take (i := 7) (oi := { dst := some 42, op := _, type := _, pos := _, after := _, guard := _ }) (v := ?_) rfl (by kernel_rfl) (by kernel_rfl) (by kernel_rfl) (fun _ _ _ h => absurd h.1 (by simp)) (Or.inl ⟨by rfl, ?_⟩) (by assumption) ?_
              rotate_left
              · intro w hSw
                (try dsimp only at hSw)
                go_simp
                (try (with_reducible rfl))
              try simp only [Act.put, List.setIfInBounds_toArray, List.set_cons_zero, List.set_cons_succ]
              refine wpAnyH_take (i := 8) (oi := { dst := some 43, op := _, type := _, pos := _, after := _, guard := _ }) (v := ?_) rfl (by kernel_rfl) (by kernel_rfl) (by kernel_rfl) (fun _ _ _ h => absurd h.1 (by simp)) (Or.inl ⟨by rfl, ?_⟩) (by assumption) ?_
              rotate_left
              · intro w hSw
                (try dsimp only at hSw)
                go_simp
                (try (with_reducible rfl))
              try simp only [Act.put, List.setIfInBounds_toArray, List.set_cons_zero, List.set_cons_succ]
              refine wpAnyH_ready (rs := [9]) (by kernel_rfl) (by simp) ?_
              refine AllReadyH.cons (o := { dst := some 11, op := _, type := _, pos := _, after := _, guard := _ }) rfl (fun K hK => ?_) AllReadyH.nil
              go_simp
              refine hK.out _ _ ⟨(BV.below (hbS.alloc hbS.size _)).four.1, (BV.below (hbS.alloc hbS.size _)).four.2.1, (BV.below (hbS.alloc hbS.size _)).four.2.2.1, (BV.below (hbS.alloc hbS.size _)).four.2.2.2.1, (BB.below (hbS.alloc hbS.size _)).two.1, (BB.below (hbS.alloc hbS.size _)).two.2.1, (BS.below (hbS.alloc hbS.size _)).four.1, (BS.below (hbS.alloc hbS.size _)).four.2.1, (BS.below (hbS.alloc hbS.size _)).four.2.2.1, (BS.below (hbS.alloc hbS.size _)).four.2.2.2.1, (V0.below (hbS.alloc hbS.size _)).1.two.1, (V0.below (hbS.alloc hbS.size _)).1.two.2.1, (BX.below (hbS.alloc hbS.size _)).two.1, (BX.below (hbS.alloc hbS.size _)).two.2.1⟩ (fun hHeld => ?_)
              clear hK K
              try simp only [Act.put, List.setIfInBounds_toArray, List.set_cons_zero, List.set_cons_succ]
              have BA := Blk.new wt2 #[.slice none 0 0, .slice none 0 0] 28
              have hal : Below wt2.heap.size wt2 (wt2.alloc (.cells #[.slice none 0 0, .slice none 0 0] 28)) := (Below.refl _ _).alloc (Nat.le_refl _) _
              have hlN : wt2.heap.size + 1 ≤ (wt2.alloc (.cells #[.slice none 0 0, .slice none 0 0] 28)).heap.size ∧ (wt2.alloc (.cells #[.slice none 0 0, .slice none 0 0] 28)).heap.size ≤ wt2.heap.size + 1 := by simp
              have hzS := hbS.size
              replace hO := hO.below hal
              replace hbS := chain hbS hal
              clear hal
              generalize wt2.alloc (.cells #[.slice none 0 0, .slice none 0 0] 28) = wN at *
              refine wpAnyH_ready (rs := [10]) (by kernel_rfl) (by simp) ?_
              refine AllReadyH.cons (o := { dst := none, op := _, type := _, pos := _, after := _, guard := _ }) rfl (fun K hK => ?_) AllReadyH.nil
              have q0 := BA.two.1
              have q1 := BA.two.2.1
              have qf := BA.two.2.2.1
              have ql := BA.two.2.2.2
              go_simp
              (try go_wp2_with fail)
              refine hK.out _ _ ⟨(BV.below (below2s BA hbS (by omega))).four.1, (BV.below (below2s BA hbS (by omega))).four.2.1, (BV.below (below2s BA hbS (by omega))).four.2.2.1, (BV.below (below2s BA hbS (by omega))).four.2.2.2.1, (BB.below (below2s BA hbS (by omega))).two.1, (BB.below (below2s BA hbS (by omega))).two.2.1, (BS.below (below2s BA hbS (by omega))).four.1, (BS.below (below2s BA hbS (by omega))).four.2.1, (BS.below (below2s BA hbS (by omega))).four.2.2.1, (BS.below (below2s BA hbS (by omega))).four.2.2.2.1, (V0.below (below2s BA hbS (by omega))).1.two.1, (V0.below (below2s BA hbS (by omega))).1.two.2.1, (BX.below (below2s BA hbS (by omega))).two.1, (BX.below (below2s BA hbS (by omega))).two.2.1⟩ (fun hHeld => ?_)
              clear hK K
              try simp only [Act.put, List.setIfInBounds_toArray, List.set_cons_zero, List.set_cons_succ]
              refine wpAnyH_take (i := 11) (oi := { dst := some 12, op := _, type := _, pos := _, after := _, guard := _ }) (v := ?_) rfl (by kernel_rfl) (by kernel_rfl) (by kernel_rfl) (fun _ _ _ h => absurd h.1 (by simp)) (Or.inl ⟨by rfl, ?_⟩) (by assumption) ?_
              rotate_left
              · intro w hSw
                (try dsimp only at hSw)
                go_simp
                (try (with_reducible rfl))
              try simp only [Act.put, List.setIfInBounds_toArray, List.set_cons_zero, List.set_cons_succ]
              refine wpAnyH_done (by kernel_rfl) ?_ _
              rw [HJ.out]
              refine ⟨rfl, _, d1, d2, k1, k2, _, _, ?_, VarB.stored BA hO ?_ ?_ ?_ ?_, below2s BA hbS (by omega)⟩
              · simp only [Act.put, List.setIfInBounds_toArray, List.set_cons_zero, List.set_cons_succ]
              all_goals (first | omega | (simp; omega))
            · go_simp
              refine hK.out _ _ ⟨(BV.below (hbS.alloc hbS.size _)).four.1, (BV.below (hbS.alloc hbS.size _)).four.2.1, (BV.below (hbS.alloc hbS.size _)).four.2.2.1, (BV.below (hbS.alloc hbS.size _)).four.2.2.2.1, (BB.below (hbS.alloc hbS.size _)).two.1, (BB.below (hbS.alloc hbS.size _)).two.2.1, (BS.below (hbS.alloc hbS.size _)).four.1, (BS.below (hbS.alloc hbS.size _)).four.2.1, (BS.below (hbS.alloc hbS.size _)).four.2.2.1, (BS.below (hbS.alloc hbS.size _)).four.2.2.2.1, (V0.below (hbS.alloc hbS.size _)).1.two.1, (V0.below (hbS.alloc hbS.size _)).1.two.2.1, (BX.below (hbS.alloc hbS.size _)).two.1, (BX.below (hbS.alloc hbS.size _)).two.2.1⟩ (fun hHeld => ?_)
              clear hK K
              try simp only [Act.put, List.setIfInBounds_toArray, List.set_cons_zero, List.set_cons_succ]
              have BA := Blk.new wt1 #[.slice none 0 0, .slice none 0 0] 28
              have hal : Below wt1.heap.size wt1 (wt1.alloc (.cells #[.slice none 0 0, .slice none 0 0] 28)) := (Below.refl _ _).alloc (Nat.le_refl _) _
              have hlN : wt1.heap.size + 1 ≤ (wt1.alloc (.cells #[.slice none 0 0, .slice none 0 0] 28)).heap.size ∧ (wt1.alloc (.cells #[.slice none 0 0, .slice none 0 0] 28)).heap.size ≤ wt1.heap.size + 1 := by simp
              have hzS := hbS.size
              replace hbS := chain hbS hal
              clear hal
              generalize wt1.alloc (.cells #[.slice none 0 0, .slice none 0 0] 28) = wN at *
              refine wpAnyH_ready (rs := [5]) (by kernel_rfl) (by simp) ?_
              refine AllReadyH.cons (o := { dst := some 41, op := _, type := _, pos := _, after := _, guard := _ }) rfl (fun K hK => ?_) AllReadyH.nil
              go_simp
              refine (HIM.out _ _ _ _ _ _ _ rfl rfl l1 l2 (OX.below hbS).irow1 (OX.below hbS).irow2).mono ?_
              rintro e wt2 ⟨d1, d2, k1, k2, rfl, hO, hbt2⟩
              replace BA := BA.below hbt2
              have hz_hbt2 := hbt2.size
              replace hbS := chain hbS hbt2
              clear hbt2
              (try go_wp2_with fail)
              refine hK.out _ _ ⟨(BV.below hbS).four.1, (BV.below hbS).four.2.1, (BV.below hbS).four.2.2.1, (BV.below hbS).four.2.2.2.1, (BB.below hbS).two.1, (BB.below hbS).two.2.1, (BS.below hbS).four.1, (BS.below hbS).four.2.1, (BS.below hbS).four.2.2.1, (BS.below hbS).four.2.2.2.1, (V0.below hbS).1.two.1, (V0.below hbS).1.two.2.1, (BX.below hbS).two.1, (BX.below hbS).two.2.1⟩ (fun hHeld => ?_)
              clear hK K
              try simp only [Act.put, List.setIfInBounds_toArray, List.set_cons_zero, List.set_cons_succ]
              refine wpAnyH_take (i := 6) (oi := { dst := some 35, op := _, type := _, pos := _, after := _, guard := _ }) (v := ?_) rfl (by kernel_rfl) (by kernel_rfl) (by kernel_rfl) (fun _ _ _ h => absurd h.1 (by simp)) (Or.inl ⟨by rfl, ?_⟩) (by assumption) ?_
              rotate_left
              · intro w hSw
                (try dsimp only at hSw)
                go_simp
                (try (with_reducible rfl))
              try simp only [Act.put, List.setIfInBounds_toArray, List.set_cons_zero, List.set_cons_succ]
              refine wpAnyH_take (i := 7) (oi := { dst := some 42, op := _, type := _, pos := _, after := _, guard := _ }) (v := ?_) rfl (by kernel_rfl) (by kernel_rfl) (by kernel_rfl) (fun _ _ _ h => absurd h.1 (by simp)) (Or.inl ⟨by rfl, ?_⟩) (by assumption) ?_
              rotate_left
              · intro w hSw
                (try dsimp only at hSw)
                go_simp
                (try (with_reducible rfl))
              try simp only [Act.put, List.setIfInBounds_toArray, List.set_cons_zero, List.set_cons_succ]
              refine wpAnyH_take (i := 8) (oi := { dst := some 43, op := _, type := _, pos := _, after := _, guard := _ }) (v := ?_) rfl (by kernel_rfl) (by kernel_rfl) (by kernel_rfl) (fun _ _ _ h => absurd h.1 (by simp)) (Or.inl ⟨by rfl, ?_⟩) (by assumption) ?_
              rotate_left
              · intro w hSw
                (try dsimp only at hSw)
                go_simp
                (try (with_reducible rfl))
              try simp only [Act.put, List.setIfInBounds_toArray, List.set_cons_zero, List.set_cons_succ]
              refine wpAnyH_ready (rs := [10]) (by kernel_rfl) (by simp) ?_
              refine AllReadyH.cons (o := { dst := none, op := _, type := _, pos := _, after := _, guard := _ }) rfl (fun K hK => ?_) AllReadyH.nil
              have q0 := BA.two.1
              have q1 := BA.two.2.1
              have qf := BA.two.2.2.1
              have ql := BA.two.2.2.2
              go_simp
              (try go_wp2_with fail)
              refine hK.out _ _ ⟨(BV.below (below2s BA hbS (by omega))).four.1, (BV.below (below2s BA hbS (by omega))).four.2.1, (BV.below (below2s BA hbS (by omega))).four.2.2.1, (BV.below (below2s BA hbS (by omega))).four.2.2.2.1, (BB.below (below2s BA hbS (by omega))).two.1, (BB.below (below2s BA hbS (by omega))).two.2.1, (BS.below (below2s BA hbS (by omega))).four.1, (BS.below (below2s BA hbS (by omega))).four.2.1, (BS.below (below2s BA hbS (by omega))).four.2.2.1, (BS.below (below2s BA hbS (by omega))).four.2.2.2.1, (V0.below (below2s BA hbS (by omega))).1.two.1, (V0.below (below2s BA hbS (by omega))).1.two.2.1, (BX.below (below2s BA hbS (by omega))).two.1, (BX.below (below2s BA hbS (by omega))).two.2.1⟩ (fun hHeld => ?_)
              clear hK K
              try simp only [Act.put, List.setIfInBounds_toArray, List.set_cons_zero, List.set_cons_succ]
              refine wpAnyH_take (i := 11) (oi := { dst := some 12, op := _, type := _, pos := _, after := _, guard := _ }) (v := ?_) rfl (by kernel_rfl) (by kernel_rfl) (by kernel_rfl) (fun _ _ _ h => absurd h.1 (by simp)) (Or.inl ⟨by rfl, ?_⟩) (by assumption) ?_
              rotate_left
              · intro w hSw
                (try dsimp only at hSw)
                go_simp
                (try (with_reducible rfl))
              try simp only [Act.put, List.setIfInBounds_toArray, List.set_cons_zero, List.set_cons_succ]
              refine wpAnyH_done (by kernel_rfl) ?_ _
              rw [HJ.out]
              refine ⟨rfl, _, d1, d2, k1, k2, _, _, ?_, VarB.stored BA hO ?_ ?_ ?_ ?_, below2s BA hbS (by omega)⟩
              · simp only [Act.put, List.setIfInBounds_toArray, List.set_cons_zero, List.set_cons_succ]
              all_goals (first | omega | (simp; omega))
          · go_simp
            refine hK.out _ _ ⟨(BV.below (hbS.alloc hbS.size _)).four.1, (BV.below (hbS.alloc hbS.size _)).four.2.1, (BV.below (hbS.alloc hbS.size _)).four.2.2.1, (BV.below (hbS.alloc hbS.size _)).four.2.2.2.1, (BB.below (hbS.alloc hbS.size _)).two.1, (BB.below (hbS.alloc hbS.size _)).two.2.1, (BS.below (hbS.alloc hbS.size _)).four.1, (BS.below (hbS.alloc hbS.size _)).four.2.1, (BS.below (hbS.alloc hbS.size _)).four.2.2.1, (BS.below (hbS.alloc hbS.size _)).four.2.2.2.1, (V0.below (hbS.alloc hbS.size _)).1.two.1, (V0.below (hbS.alloc hbS.size _)).1.two.2.1, (BX.below (hbS.alloc hbS.size _)).two.1, (BX.below (hbS.alloc hbS.size _)).two.2.1⟩ (fun hHeld => ?_)
            clear hK K
            try simp only [Act.put, List.setIfInBounds_toArray, List.set_cons_zero, List.set_cons_succ]
            have BA := Blk.new wt0 #[.slice none 0 0, .slice none 0 0] 28
            have hal : Below wt0.heap.size wt0 (wt0.alloc (.cells #[.slice none 0 0, .slice none 0 0] 28)) := (Below.refl _ _).alloc (Nat.le_refl _) _
            have hlN : wt0.heap.size + 1 ≤ (wt0.alloc (.cells #[.slice none 0 0, .slice none 0 0] 28)).heap.size ∧ (wt0.alloc (.cells #[.slice none 0 0, .slice none 0 0] 28)).heap.size ≤ wt0.heap.size + 1 := by simp
            have hzS := hbS.size
            replace hbS := chain hbS hal
            clear hal
            generalize wt0.alloc (.cells #[.slice none 0 0, .slice none 0 0] 28) = wN at *
            refine wpAnyH_ready (rs := [4]) (by kernel_rfl) (by simp) ?_
            refine AllReadyH.cons (o := { dst := some 40, op := _, type := _, pos := _, after := _, guard := _ }) rfl (fun K hK => ?_) AllReadyH.nil
            go_simp
            refine (toStep_any (ta, tb, td, tq) _).mono ?_
            rintro e wt1 ⟨rfl, hbt1⟩
            replace BA := BA.below hbt1
            have hz_hbt1 := hbt1.size
            replace hbS := chain hbS hbt1
            clear hbt1
            (try go_wp2_with fail)
            refine hK.out _ _ ⟨(BV.below hbS).four.1, (BV.below hbS).four.2.1, (BV.below hbS).four.2.2.1, (BV.below hbS).four.2.2.2.1, (BB.below hbS).two.1, (BB.below hbS).two.2.1, (BS.below hbS).four.1, (BS.below hbS).four.2.1, (BS.below hbS).four.2.2.1, (BS.below hbS).four.2.2.2.1, (V0.below hbS).1.two.1, (V0.below hbS).1.two.2.1, (BX.below hbS).two.1, (BX.below hbS).two.2.1⟩ (fun hHeld => ?_)
            clear hK K
            try simp only [Act.put, List.setIfInBounds_toArray, List.set_cons_zero, List.set_cons_succ]
            refine wpAnyH_ready (rs := [5]) (by kernel_rfl) (by simp) ?_
            refine AllReadyH.cons (o := { dst := some 41, op := _, type := _, pos := _, after := _, guard := _ }) rfl (fun K hK => ?_) AllReadyH.nil
            go_simp
            refine (HIM.out _ _ _ _ _ _ _ rfl rfl l1 l2 (OX.below hbS).irow1 (OX.below hbS).irow2).mono ?_
            rintro e wt2 ⟨d1, d2, k1, k2, rfl, hO, hbt2⟩
            replace BA := BA.below hbt2
            have hz_hbt2 := hbt2.size
            replace hbS := chain hbS hbt2
            clear hbt2
            (try go_wp2_with fail)
            refine hK.out _ _ ⟨(BV.below hbS).four.1, (BV.below hbS).four.2.1, (BV.below hbS).four.2.2.1, (BV.below hbS).four.2.2.2.1, (BB.below hbS).two.1, (BB.below hbS).two.2.1, (BS.below hbS).four.1, (BS.below hbS).four.2.1, (BS.below hbS).four.2.2.1, (BS.below hbS).four.2.2.2.1, (V0.below hbS).1.two.1, (V0.below hbS).1.two.2.1, (BX.below hbS).two.1, (BX.below hbS).two.2.1⟩ (fun hHeld => ?_)
            clear hK K
            try simp only [Act.put, List.setIfInBounds_toArray, List.set_cons_zero, List.set_cons_succ]
            refine wpAnyH_take (i := 6) (oi := { dst := some 35, op := _, type := _, pos := _, after := _, guard := _ }) (v := ?_) rfl (by kernel_rfl) (by kernel_rfl) (by kernel_rfl) (fun _ _ _ h => absurd h.1 (by simp)) (Or.inl ⟨by rfl, ?_⟩) (by assumption) ?_
            rotate_left
            · intro w hSw
              (try dsimp only at hSw)
              go_simp
              (try (with_reducible rfl))
            try simp only [Act.put, List.setIfInBounds_toArray, List.set_cons_zero, List.set_cons_succ]
            refine wpAnyH_take (i := 7) (oi := { dst := some 42, op := _, type := _, pos := _, after := _, guard := _ }) (v := ?_) rfl (by kernel_rfl) (by kernel_rfl) (by kernel_rfl) (fun _ _ _ h => absurd h.1 (by simp)) (Or.inl ⟨by rfl, ?_⟩) (by assumption) ?_
            rotate_left
            · intro w hSw
              (try dsimp only at hSw)
              go_simp
              (try (with_reducible rfl))
            try simp only [Act.put, List.setIfInBounds_toArray, List.set_cons_zero, List.set_cons_succ]
            refine wpAnyH_take (i := 8) (oi := { dst := some 43, op := _, type := _, pos := _, after := _, guard := _ }) (v := ?_) rfl (by kernel_rfl) (by kernel_rfl) (by kernel_rfl) (fun _ _ _ h => absurd h.1 (by simp)) (Or.inl ⟨by rfl, ?_⟩) (by assumption) ?_
            rotate_left
            · intro w hSw
              (try dsimp only at hSw)
              go_simp
              (try (with_reducible rfl))
            try simp only [Act.put, List.setIfInBounds_toArray, List.set_cons_zero, List.set_cons_succ]
            refine wpAnyH_ready (rs := [10]) (by kernel_rfl) (by simp) ?_
            refine AllReadyH.cons (o := { dst := none, op := _, type := _, pos := _, after := _, guard := _ }) rfl (fun K hK => ?_) AllReadyH.nil
            have q0 := BA.two.1
            have q1 := BA.two.2.1
            have qf := BA.two.2.2.1
            have ql := BA.two.2.2.2
            go_simp
            (try go_wp2_with fail)
            refine hK.out _ _ ⟨(BV.below (below2s BA hbS (by omega))).four.1, (BV.below (below2s BA hbS (by omega))).four.2.1, (BV.below (below2s BA hbS (by omega))).four.2.2.1, (BV.below (below2s BA hbS (by omega))).four.2.2.2.1, (BB.below (below2s BA hbS (by omega))).two.1, (BB.below (below2s BA hbS (by omega))).two.2.1, (BS.below (below2s BA hbS (by omega))).four.1, (BS.below (below2s BA hbS (by omega))).four.2.1, (BS.below (below2s BA hbS (by omega))).four.2.2.1, (BS.below (below2s BA hbS (by omega))).four.2.2.2.1, (V0.below (below2s BA hbS (by omega))).1.two.1, (V0.below (below2s BA hbS (by omega))).1.two.2.1, (BX.below (below2s BA hbS (by omega))).two.1, (BX.below (below2s BA hbS (by omega))).two.2.1⟩ (fun hHeld => ?_)
            clear hK K
            try simp only [Act.put, List.setIfInBounds_toArray, List.set_cons_zero, List.set_cons_succ]
            refine wpAnyH_take (i := 11) (oi := { dst := some 12, op := _, type := _, pos := _, after := _, guard := _ }) (v := ?_) rfl (by kernel_rfl) (by kernel_rfl) (by kernel_rfl) (fun _ _ _ h => absurd h.1 (by simp)) (Or.inl ⟨by rfl, ?_⟩) (by assumption) ?_
            rotate_left
            · intro w hSw
              (try dsimp only at hSw)
              go_simp
              (try (with_reducible rfl))
            try simp only [Act.put, List.setIfInBounds_toArray, List.set_cons_zero, List.set_cons_succ]
            refine wpAnyH_done (by kernel_rfl) ?_ _
            rw [HJ.out]
            refine ⟨rfl, _, d1, d2, k1, k2, _, _, ?_, VarB.stored BA hO ?_ ?_ ?_ ?_, below2s BA hbS (by omega)⟩
            · simp only [Act.put, List.setIfInBounds_toArray, List.set_cons_zero, List.set_cons_succ]
            all_goals (first | omega | (simp; omega))
        · go_simp
          refine hK.out _ _ ⟨(BV.below (hbS.alloc hbS.size _)).four.1, (BV.below (hbS.alloc hbS.size _)).four.2.1, (BV.below (hbS.alloc hbS.size _)).four.2.2.1, (BV.below (hbS.alloc hbS.size _)).four.2.2.2.1, (BB.below (hbS.alloc hbS.size _)).two.1, (BB.below (hbS.alloc hbS.size _)).two.2.1, (BS.below (hbS.alloc hbS.size _)).four.1, (BS.below (hbS.alloc hbS.size _)).four.2.1, (BS.below (hbS.alloc hbS.size _)).four.2.2.1, (BS.below (hbS.alloc hbS.size _)).four.2.2.2.1, (V0.below (hbS.alloc hbS.size _)).1.two.1, (V0.below (hbS.alloc hbS.size _)).1.two.2.1, (BX.below (hbS.alloc hbS.size _)).two.1, (BX.below (hbS.alloc hbS.size _)).two.2.1⟩ (fun hHeld => ?_)
          clear hK K
          try simp only [Act.put, List.setIfInBounds_toArray, List.set_cons_zero, List.set_cons_succ]
          have BA := Blk.new vd #[.slice none 0 0, .slice none 0 0] 28
          have hal : Below vd.heap.size vd (vd.alloc (.cells #[.slice none 0 0, .slice none 0 0] 28)) := (Below.refl _ _).alloc (Nat.le_refl _) _
          have hlN : vd.heap.size + 1 ≤ (vd.alloc (.cells #[.slice none 0 0, .slice none 0 0] 28)).heap.size ∧ (vd.alloc (.cells #[.slice none 0 0, .slice none 0 0] 28)).heap.size ≤ vd.heap.size + 1 := by simp
          have hzS := hbS.size
          replace hbS := chain hbS hal
          clear hal
          generalize vd.alloc (.cells #[.slice none 0 0, .slice none 0 0] 28) = wN at *
          refine wpAnyH_ready (rs := [1]) (by kernel_rfl) (by simp) ?_
          refine AllReadyH.cons (o := { dst := some 37, op := _, type := _, pos := _, after := _, guard := _ }) rfl (fun K hK => ?_) AllReadyH.nil
          go_simp
          refine (toVariant_any _ _ _ _ _).mono ?_
          rintro e wt0 ⟨rfl, hbt0⟩
          replace BA := BA.below hbt0
          have hz_hbt0 := hbt0.size
          replace hbS := chain hbS hbt0
          clear hbt0
          (try go_wp2_with fail)
          refine hK.out _ _ ⟨(BV.below hbS).four.1, (BV.below hbS).four.2.1, (BV.below hbS).four.2.2.1, (BV.below hbS).four.2.2.2.1, (BB.below hbS).two.1, (BB.below hbS).two.2.1, (BS.below hbS).four.1, (BS.below hbS).four.2.1, (BS.below hbS).four.2.2.1, (BS.below hbS).four.2.2.2.1, (V0.below hbS).1.two.1, (V0.below hbS).1.two.2.1, (BX.below hbS).two.1, (BX.below hbS).two.2.1⟩ (fun hHeld => ?_)
          clear hK K
          try simp only [Act.put, List.setIfInBounds_toArray, List.set_cons_zero, List.set_cons_succ]
          refine wpAnyH_ready (rs := [4]) (by kernel_rfl) (by simp) ?_
          refine AllReadyH.cons (o := { dst := some 40, op := _, type := _, pos := _, after := _, guard := _ }) rfl (fun K hK => ?_) AllReadyH.nil
          go_simp
          refine (toStep_any (ta, tb, td, tq) _).mono ?_
          rintro e wt1 ⟨rfl, hbt1⟩
          replace BA := BA.below hbt1
          have hz_hbt1 := hbt1.size
          replace hbS := chain hbS hbt1
          clear hbt1
          (try go_wp2_with fail)
          refine hK.out _ _ ⟨(BV.below hbS).four.1, (BV.below hbS).four.2.1, (BV.below hbS).four.2.2.1, (BV.below hbS).four.2.2.2.1, (BB.below hbS).two.1, (BB.below hbS).two.2.1, (BS.below hbS).four.1, (BS.below hbS).four.2.1, (BS.below hbS).four.2.2.1, (BS.below hbS).four.2.2.2.1, (V0.below hbS).1.two.1, (V0.below hbS).1.two.2.1, (BX.below hbS).two.1, (BX.below hbS).two.2.1⟩ (fun hHeld => ?_)
          clear hK K
          try simp only [Act.put, List.setIfInBounds_toArray, List.set_cons_zero, List.set_cons_succ]
          refine wpAnyH_ready (rs := [5]) (by kernel_rfl) (by simp) ?_
          refine AllReadyH.cons (o := { dst := some 41, op := _, type := _, pos := _, after := _, guard := _ }) rfl (fun K hK => ?_) AllReadyH.nil
          go_simp
          refine (HIM.out _ _ _ _ _ _ _ rfl rfl l1 l2 (OX.below hbS).irow1 (OX.below hbS).irow2).mono ?_
          rintro e wt2 ⟨d1, d2, k1, k2, rfl, hO, hbt2⟩
          replace BA := BA.below hbt2
          have hz_hbt2 := hbt2.size
          replace hbS := chain hbS hbt2
          clear hbt2
          (try go_wp2_with fail)
          refine hK.out _ _ ⟨(BV.below hbS).four.1, (BV.below hbS).four.2.1, (BV.below hbS).four.2.2.1, (BV.below hbS).four.2.2.2.1, (BB.below hbS).two.1, (BB.below hbS).two.2.1, (BS.below hbS).four.1, (BS.below hbS).four.2.1, (BS.below hbS).four.2.2.1, (BS.below hbS).four.2.2.2.1, (V0.below hbS).1.two.1, (V0.below hbS).1.two.2.1, (BX.below hbS).two.1, (BX.below hbS).two.2.1⟩ (fun hHeld => ?_)
          clear hK K
          try simp only [Act.put, List.setIfInBounds_toArray, List.set_cons_zero, List.set_cons_succ]
          refine wpAnyH_take (i := 6) (oi := { dst := some 35, op := _, type := _, pos := _, after := _, guard := _ }) (v := ?_) rfl (by kernel_rfl) (by kernel_rfl) (by kernel_rfl) (fun _ _ _ h => absurd h.1 (by simp)) (Or.inl ⟨by rfl, ?_⟩) (by assumption) ?_
          rotate_left
          · intro w hSw
            (try dsimp only at hSw)
            go_simp
            (try (with_reducible rfl))
          try simp only [Act.put, List.setIfInBounds_toArray, List.set_cons_zero, List.set_cons_succ]
          refine wpAnyH_take (i := 7) (oi := { dst := some 42, op := _, type := _, pos := _, after := _, guard := _ }) (v := ?_) rfl (by kernel_rfl) (by kernel_rfl) (by kernel_rfl) (fun _ _ _ h => absurd h.1 (by simp)) (Or.inl ⟨by rfl, ?_⟩) (by assumption) ?_
          rotate_left
          · intro w hSw
            (try dsimp only at hSw)
            go_simp
            (try (with_reducible rfl))
          try simp only [Act.put, List.setIfInBounds_toArray, List.set_cons_zero, List.set_cons_succ]
          refine wpAnyH_take (i := 8) (oi := { dst := some 43, op := _, type := _, pos := _, after := _, guard := _ }) (v := ?_) rfl (by kernel_rfl) (by kernel_rfl) (by kernel_rfl) (fun _ _ _ h => absurd h.1 (by simp)) (Or.inl ⟨by rfl, ?_⟩) (by assumption) ?_
          rotate_left
          · intro w hSw
            (try dsimp only at hSw)
            go_simp
            (try (with_reducible rfl))
          try simp only [Act.put, List.setIfInBounds_toArray, List.set_cons_zero, List.set_cons_succ]
          refine wpAnyH_ready (rs := [10]) (by kernel_rfl) (by simp) ?_
          refine AllReadyH.cons (o := { dst := none, op := _, type := _, pos := _, after := _, guard := _ }) rfl (fun K hK => ?_) AllReadyH.nil
          have q0 := BA.two.1
          have q1 := BA.two.2.1
          have qf := BA.two.2.2.1
          have ql := BA.two.2.2.2
          go_simp
          (try go_wp2_with fail)
          refine hK.out _ _ ⟨(BV.below (below2s BA hbS (by omega))).four.1, (BV.below (below2s BA hbS (by omega))).four.2.1, (BV.below (below2s BA hbS (by omega))).four.2.2.1, (BV.below (below2s BA hbS (by omega))).four.2.2.2.1, (BB.below (below2s BA hbS (by omega))).two.1, (BB.below (below2s BA hbS (by omega))).two.2.1, (BS.below (below2s BA hbS (by omega))).four.1, (BS.below (below2s BA hbS (by omega))).four.2.1, (BS.below (below2s BA hbS (by omega))).four.2.2.1, (BS.below (below2s BA hbS (by omega))).four.2.2.2.1, (V0.below (below2s BA hbS (by omega))).1.two.1, (V0.below (below2s BA hbS (by omega))).1.two.2.1, (BX.below (below2s BA hbS (by omega))).two.1, (BX.below (below2s BA hbS (by omega))).two.2.1⟩ (fun hHeld => ?_)
          clear hK K
          try simp only [Act.put, List.setIfInBounds_toArray, List.set_cons_zero, List.set_cons_succ]
          refine wpAnyH_take (i := 11) (oi := { dst := some 12, op := _, type := _, pos := _, after := _, guard := _ }) (v := ?_) rfl (by kernel_rfl) (by kernel_rfl) (by kernel_rfl) (fun _ _ _ h => absurd h.1 (by simp)) (Or.inl ⟨by rfl, ?_⟩) (by assumption) ?_
          rotate_left
          · intro w hSw
            (try dsimp only at hSw)
            go_simp
            (try (with_reducible rfl))
          try simp only [Act.put, List.setIfInBounds_toArray, List.set_cons_zero, List.set_cons_succ]
          refine wpAnyH_done (by kernel_rfl) ?_ _
          rw [HJ.out]
          refine ⟨rfl, _, d1, d2, k1, k2, _, _, ?_, VarB.stored BA hO ?_ ?_ ?_ ?_, below2s BA hbS (by omega)⟩
          · simp only [Act.put, List.setIfInBounds_toArray, List.set_cons_zero, List.set_cons_succ]
          all_goals (first | omega | (simp; omega))
      · intro a' w4 hj
        rw [HJ.out] at hj
        clear HJ
        obtain ⟨BV1, d1V1, d2V1, k1V1, k2V1, loV1, hiV1, rfl, V1, hbS⟩ := hj
        try simp only [Act.put, List.setIfInBounds_toArray, List.set_cons_zero, List.set_cons_succ]
        replace BV := BV.below hbS
        replace BB := BB.below hbS
        replace BS := BS.below hbS
        replace V0 := V0.below hbS
        replace OX := OX.below hbS
        replace BX := BX.below hbS
        have hz4 := hbS.size
        replace hb := chain hb hbS
        clear hbS
        have e1V1 := V1.2.2.1
        have e2V1 := V1.2.2.2.1
        have e3V1 := V1.2.2.2.2.1
        have e4V1 := V1.2.2.2.2.2
        have e5V1 := V1.1.lt
        obtain ⟨q0_BV, q1_BV, q2_BV, q3_BV, qf_BV, ql_BV⟩ := BV.four
        obtain ⟨q0_BB, q1_BB, qf_BB, ql_BB⟩ := BB.two
        obtain ⟨q0_BS, q1_BS, q2_BS, q3_BS, qf_BS, ql_BS⟩ := BS.four
        obtain ⟨q0_V0_1, q1_V0_1, qf_V0_1, ql_V0_1⟩ := V0.1.two
        obtain ⟨q0_BX, q1_BX, qf_BX, ql_BX⟩ := BX.two
        obtain ⟨q0_V1_1, q1_V1_1, qf_V1_1, ql_V1_1⟩ := V1.1.two
        go_wp2_with fail
        clear q0_BV q1_BV q2_BV q3_BV qf_BV ql_BV
        clear q0_BB q1_BB qf_BB ql_BB
        clear q0_BS q1_BS q2_BS q3_BS qf_BS ql_BS
        clear q0_V0_1 q1_V0_1 qf_V0_1 ql_V0_1
        clear q0_BX q1_BX qf_BX ql_BX
        clear q0_V1_1 q1_V1_1 qf_V1_1 ql_V1_1
        refine (eqBoard_same _ _ _ _ _ _ _ _ _ _ X Y _ rfl rfl lX lY V1.2.1.irow1 V1.2.1.irow2 V0.2.1.irow1 V0.2.1.irow2).mono ?_
        rintro e w5 ⟨rfl, hb5⟩
        replace BV := BV.below hb5
        replace BB := BB.below hb5
        replace BS := BS.below hb5
        replace V0 := V0.below hb5
        replace OX := OX.below hb5
        replace BX := BX.below hb5
        replace V1 := V1.below hb5
        have hz5 := hb5.size
        replace hb := chain hb hb5
        clear hb5
        obtain ⟨q0_BV, q1_BV, q2_BV, q3_BV, qf_BV, ql_BV⟩ := BV.four
        obtain ⟨q0_BB, q1_BB, qf_BB, ql_BB⟩ := BB.two
        obtain ⟨q0_BS, q1_BS, q2_BS, q3_BS, qf_BS, ql_BS⟩ := BS.four
        obtain ⟨q0_V0_1, q1_V0_1, qf_V0_1, ql_V0_1⟩ := V0.1.two
        obtain ⟨q0_BX, q1_BX, qf_BX, ql_BX⟩ := BX.two
        obtain ⟨q0_V1_1, q1_V1_1, qf_V1_1, ql_V1_1⟩ := V1.1.two
        go_wp2_with fail
        clear q0_BV q1_BV q2_BV q3_BV qf_BV ql_BV
        clear q0_BB q1_BB qf_BB ql_BB
        clear q0_BS q1_BS q2_BS q3_BS qf_BS ql_BS
        clear q0_V0_1 q1_V0_1 qf_V0_1 ql_V0_1
        clear q0_BX q1_BX qf_BX ql_BX
        clear q0_V1_1 q1_V1_1 qf_V1_1 ql_V1_1
        have hd6 : w5.drew.heap.size = w5.heap.size := rfl
        replace BV := BV.drew
        replace BB := BB.drew
        replace BS := BS.drew
        replace V0 := V0.drew
        replace OX := OX.drew
        replace BX := BX.drew
        replace V1 := V1.drew
        replace hb := hb.drew
        refine wp_region_held_drew (S := fun w' => w'.cell? ⟨w.heap.size, 0, none⟩ = some (.int .i64 p) ∧ w'.cell? ⟨w.heap.size, 1, none⟩ = some (.int .i64 c) ∧ w'.cell? ⟨w.heap.size, 2, none⟩ = some (.int .i64 h) ∧ w'.cell? ⟨w.heap.size, 3, none⟩ = some (.int .i64 s) ∧ w'.cell? ⟨(w.heap.size + 1), 0, none⟩ = some (.slice a1 xs.length c1) ∧ w'.cell? ⟨(w.heap.size + 1), 1, none⟩ = some (.slice a2 ys.length c2) ∧ w'.cell? ⟨(w.heap.size + 1 + 1), 0, none⟩ = some (.int .i64 ta) ∧ w'.cell? ⟨(w.heap.size + 1 + 1), 1, none⟩ = some (.int .i64 tb) ∧ w'.cell? ⟨(w.heap.size + 1 + 1), 2, none⟩ = some (.int .i64 td) ∧ w'.cell? ⟨(w.heap.size + 1 + 1), 3, none⟩ = some (.bool tq) ∧ w'.cell? ⟨BV0, 0, none⟩ = some (.slice d1V0 X.length k1V0) ∧ w'.cell? ⟨BV0, 1, none⟩ = some (.slice d2V0 Y.length k2V0) ∧ w'.cell? ⟨w2.heap.size, 0, none⟩ = some (.slice (some ⟨b1, 0, none⟩) xs.length xs.length) ∧ w'.cell? ⟨w2.heap.size, 1, none⟩ = some (.slice (some ⟨b2, 0, none⟩) ys.length ys.length) ∧ w'.cell? ⟨BV1, 0, none⟩ = some (.slice d1V1 X.length k1V1) ∧ w'.cell? ⟨BV1, 1, none⟩ = some (.slice d2V1 Y.length k2V1)) (by kernel_rfl) ⟨BV.four.1, BV.four.2.1, BV.four.2.2.1, BV.four.2.2.2.1, BB.two.1, BB.two.2.1, BS.four.1, BS.four.2.1, BS.four.2.2.1, BS.four.2.2.2.1, V0.1.two.1, V0.1.two.2.1, BX.two.1, BX.two.2.1, V1.1.two.1, V1.1.two.2.1⟩ (fun hHeld => ?_)
        clear hHeld
        generalize w5.drew = vd6 at *
        have hHeld : vd6.cell? ⟨w.heap.size, 0, none⟩ = some (.int .i64 p) ∧ vd6.cell? ⟨w.heap.size, 1, none⟩ = some (.int .i64 c) ∧ vd6.cell? ⟨w.heap.size, 2, none⟩ = some (.int .i64 h) ∧ vd6.cell? ⟨w.heap.size, 3, none⟩ = some (.int .i64 s) ∧ vd6.cell? ⟨(w.heap.size + 1), 0, none⟩ = some (.slice a1 xs.length c1) ∧ vd6.cell? ⟨(w.heap.size + 1), 1, none⟩ = some (.slice a2 ys.length c2) ∧ vd6.cell? ⟨(w.heap.size + 1 + 1), 0, none⟩ = some (.int .i64 ta) ∧ vd6.cell? ⟨(w.heap.size + 1 + 1), 1, none⟩ = some (.int .i64 tb) ∧ vd6.cell? ⟨(w.heap.size + 1 + 1), 2, none⟩ = some (.int .i64 td) ∧ vd6.cell? ⟨(w.heap.size + 1 + 1), 3, none⟩ = some (.bool tq) ∧ vd6.cell? ⟨BV0, 0, none⟩ = some (.slice d1V0 X.length k1V0) ∧ vd6.cell? ⟨BV0, 1, none⟩ = some (.slice d2V0 Y.length k2V0) ∧ vd6.cell? ⟨w2.heap.size, 0, none⟩ = some (.slice (some ⟨b1, 0, none⟩) xs.length xs.length) ∧ vd6.cell? ⟨w2.heap.size, 1, none⟩ = some (.slice (some ⟨b2, 0, none⟩) ys.length ys.length) ∧ vd6.cell? ⟨BV1, 0, none⟩ = some (.slice d1V1 X.length k1V1) ∧ vd6.cell? ⟨BV1, 1, none⟩ = some (.slice d2V1 Y.length k2V1) := ⟨BV.four.1, BV.four.2.1, BV.four.2.2.1, BV.four.2.2.2.1, BB.two.1, BB.two.2.1, BS.four.1, BS.four.2.1, BS.four.2.2.1, BS.four.2.2.2.1, V0.1.two.1, V0.1.two.2.1, BX.two.1, BX.two.2.1, V1.1.two.1, V1.1.two.2.1⟩
        refine wpAnyH_take (i := 0) (oi := { dst := some 53, op := _, type := _, pos := _, after := _, guard := _ }) (v := ?_) rfl (by kernel_rfl) (by kernel_rfl) (by kernel_rfl) (fun _ _ _ h => h) (Or.inl ⟨by rfl, ?_⟩) (by assumption) ?_
        rotate_left
        · intro w hSw
          (try dsimp only at hSw)
          go_simp
          (try (with_reducible rfl))
        try simp only [Act.put, List.setIfInBounds_toArray, List.set_cons_zero, List.set_cons_succ]
        refine wpAnyH_take (i := 1) (oi := { dst := some 54, op := _, type := _, pos := _, after := _, guard := _ }) (v := ?_) rfl (by kernel_rfl) (by kernel_rfl) (by kernel_rfl) (fun _ _ _ h => h) (Or.inl ⟨by rfl, ?_⟩) (by assumption) ?_
        rotate_left
        · intro w hSw
          (try dsimp only at hSw)
          go_simp
          (try (with_reducible rfl))
        try simp only [Act.put, List.setIfInBounds_toArray, List.set_cons_zero, List.set_cons_succ]
        refine wpAnyH_ready (rs := [2]) (by kernel_rfl) (by simp) ?_
        refine AllReadyH.cons (o := { dst := some 55, op := _, type := _, pos := _, after := _, guard := _ }) rfl (fun K hK => ?_) AllReadyH.nil
        go_simp
        refine (toBoard_any a1 a2 _ _ c1 c2 xs ys _ rfl rfl l1 l2 (r1.below hb) (r2.below hb)).mono ?_
        rintro e w7 ⟨g1, g2, rfl, gg1, gg2, R1, R2, hb7⟩
        replace BV := BV.below hb7
        replace BB := BB.below hb7
        replace BS := BS.below hb7
        replace V0 := V0.below hb7
        replace OX := OX.below hb7
        replace BX := BX.below hb7
        replace V1 := V1.below hb7
        have hz7 := hb7.size
        replace hb := chain hb hb7
        clear hb7
        (try go_wp2_with fail)
        refine hK.out _ _ ⟨BV.four.1, BV.four.2.1, BV.four.2.2.1, BV.four.2.2.2.1, BB.two.1, BB.two.2.1, BS.four.1, BS.four.2.1, BS.four.2.2.1, BS.four.2.2.2.1, V0.1.two.1, V0.1.two.2.1, BX.two.1, BX.two.2.1, V1.1.two.1, V1.1.two.2.1⟩ (fun hHeld => ?_)
        clear hK K
        try simp only [Act.put, List.setIfInBounds_toArray, List.set_cons_zero, List.set_cons_succ]
        refine wpAnyH_ready (rs := [3]) (by kernel_rfl) (by simp) ?_
        refine AllReadyH.cons (o := { dst := some 56, op := _, type := _, pos := _, after := _, guard := _ }) rfl (fun K hK => ?_) AllReadyH.nil
        go_simp
        refine (eqBoard_same _ _ _ _ _ _ _ _ _ _ xs ys _ rfl rfl l1 l2 OX.irow1 OX.irow2 R1.irow R2.irow).mono ?_
        rintro e w8 ⟨rfl, hb8⟩
        replace BV := BV.below hb8
        replace BB := BB.below hb8
        replace BS := BS.below hb8
        replace V0 := V0.below hb8
        replace OX := OX.below hb8
        replace BX := BX.below hb8
        replace V1 := V1.below hb8
        replace R1 := R1.below hb8
        replace R2 := R2.below hb8
        have hz8 := hb8.size
        replace hb := chain hb hb8
        clear hb8
        (try go_wp2_with fail)
        refine hK.out _ _ ⟨BV.four.1, BV.four.2.1, BV.four.2.2.1, BV.four.2.2.2.1, BB.two.1, BB.two.2.1, BS.four.1, BS.four.2.1, BS.four.2.2.1, BS.four.2.2.2.1, V0.1.two.1, V0.1.two.2.1, BX.two.1, BX.two.2.1, V1.1.two.1, V1.1.two.2.1⟩ (fun hHeld => ?_)
        clear hK K
        try simp only [Act.put, List.setIfInBounds_toArray, List.set_cons_zero, List.set_cons_succ]
        refine wpAnyH_take (i := 4) (oi := { dst := some 57, op := _, type := _, pos := _, after := _, guard := _ }) (v := ?_) rfl (by kernel_rfl) (by kernel_rfl) (by kernel_rfl) (fun _ _ _ h => h) (Or.inl ⟨by rfl, ?_⟩) (by assumption) ?_
        rotate_left
        · intro w hSw
          (try dsimp only at hSw)
          go_simp
          (try (with_reducible rfl))
        try simp only [Act.put, List.setIfInBounds_toArray, List.set_cons_zero, List.set_cons_succ]
        refine wpAnyH_done (by kernel_rfl) ?_ _
        clear hHeld
        clear R1 R2 gg1 gg2
        obtain ⟨q0_BV, q1_BV, q2_BV, q3_BV, qf_BV, ql_BV⟩ := BV.four
        obtain ⟨q0_BB, q1_BB, qf_BB, ql_BB⟩ := BB.two
        obtain ⟨q0_BS, q1_BS, q2_BS, q3_BS, qf_BS, ql_BS⟩ := BS.four
        obtain ⟨q0_V0_1, q1_V0_1, qf_V0_1, ql_V0_1⟩ := V0.1.two
        obtain ⟨q0_BX, q1_BX, qf_BX, ql_BX⟩ := BX.two
        obtain ⟨q0_V1_1, q1_V1_1, qf_V1_1, ql_V1_1⟩ := V1.1.two
        go_wp2_with fail
        clear q0_BV q1_BV q2_BV q3_BV qf_BV ql_BV
        clear q0_BB q1_BB qf_BB ql_BB
        clear q0_BS q1_BS q2_BS q3_BS qf_BS ql_BS
        clear q0_V0_1 q1_V0_1 qf_V0_1 ql_V0_1
        clear q0_BX q1_BX qf_BX ql_BX
        clear q0_V1_1 q1_V1_1 qf_V1_1 ql_V1_1
        refine (markBoard_own _ _ _ _ _ _ _ _ xs ys 1 _ rfl rfl l1 l2 (by omega) (by omega) OX).mono ?_
        rintro e w9 ⟨rfl, OX, hs9⟩
        replace BV := BV.same hs9 (by omega)
        replace BB := BB.same hs9 (by omega)
        replace BS := BS.same hs9 (by omega)
        replace V0 := V0.same hs9 (by omega) (by omega)
        replace BX := BX.same hs9 (by omega)
        replace V1 := V1.same hs9 (by omega) (by omega)
        have hz9 := hs9.size
        replace hb := below_same hb hs9 (by omega) (by omega)
        clear hs9
        have hk0 : ¬ ((1 : Int) + (xs.length : Int) + (ys.length : Int) < 0) := by omega
        have hq0 : ¬ ((1 : Int) + (X.length : Int) + (Y.length : Int) < 0) := by omega
        clear OX
        obtain ⟨q0_BV, q1_BV, q2_BV, q3_BV, qf_BV, ql_BV⟩ := BV.four
        obtain ⟨q0_BB, q1_BB, qf_BB, ql_BB⟩ := BB.two
        obtain ⟨q0_BS, q1_BS, q2_BS, q3_BS, qf_BS, ql_BS⟩ := BS.four
        obtain ⟨q0_V0_1, q1_V0_1, qf_V0_1, ql_V0_1⟩ := V0.1.two
        obtain ⟨q0_BX, q1_BX, qf_BX, ql_BX⟩ := BX.two
        obtain ⟨q0_V1_1, q1_V1_1, qf_V1_1, ql_V1_1⟩ := V1.1.two
        go_wp2_with fail
        clear q0_BV q1_BV q2_BV q3_BV qf_BV ql_BV
        clear q0_BB q1_BB qf_BB ql_BB
        clear q0_BS q1_BS q2_BS q3_BS qf_BS ql_BS
        clear q0_V0_1 q1_V0_1 qf_V0_1 ql_V0_1
        clear q0_BX q1_BX qf_BX ql_BX
        clear q0_V1_1 q1_V1_1 qf_V1_1 ql_V1_1
        refine (eqBoard_same _ _ _ _ _ _ _ _ _ _ X Y _ rfl rfl lX lY V1.2.1.irow1 V1.2.1.irow2 V0.2.1.irow1 V0.2.1.irow2).mono ?_
        rintro e w10 ⟨rfl, hb10⟩
        replace BV := BV.below hb10
        replace BB := BB.below hb10
        replace BS := BS.below hb10
        replace V0 := V0.below hb10
        replace BX := BX.below hb10
        replace V1 := V1.below hb10
        have hz10 := hb10.size
        replace hb := chain hb hb10
        clear hb10
        obtain ⟨q0_BV, q1_BV, q2_BV, q3_BV, qf_BV, ql_BV⟩ := BV.four
        obtain ⟨q0_BB, q1_BB, qf_BB, ql_BB⟩ := BB.two
        obtain ⟨q0_BS, q1_BS, q2_BS, q3_BS, qf_BS, ql_BS⟩ := BS.four
        obtain ⟨q0_V0_1, q1_V0_1, qf_V0_1, ql_V0_1⟩ := V0.1.two
        obtain ⟨q0_BX, q1_BX, qf_BX, ql_BX⟩ := BX.two
        obtain ⟨q0_V1_1, q1_V1_1, qf_V1_1, ql_V1_1⟩ := V1.1.two
        go_wp2_with fail
        clear q0_BV q1_BV q2_BV q3_BV qf_BV ql_BV
        clear q0_BB q1_BB qf_BB ql_BB
        clear q0_BS q1_BS q2_BS q3_BS qf_BS ql_BS
        clear q0_V0_1 q1_V0_1 qf_V0_1 ql_V0_1
        clear q0_BX q1_BX qf_BX ql_BX
        clear q0_V1_1 q1_V1_1 qf_V1_1 ql_V1_1
        refine (markBoard_own _ _ _ _ _ _ _ _ X Y 1 _ rfl rfl lX lY (by omega) (by omega) V1.2.1).mono ?_
        rintro e w11 ⟨rfl, hOm, hs11⟩
        replace BV := BV.same hs11 (by omega)
        replace BB := BB.same hs11 (by omega)
        replace BS := BS.same hs11 (by omega)
        replace V0 := V0.same hs11 (by omega) (by omega)
        replace BX := BX.same hs11 (by omega)
        replace V1 := V1.marked hs11 hOm
        clear hOm
        have hz11 := hs11.size
        replace hb := below_same hb hs11 (by omega) (by omega)
        clear hs11
        obtain ⟨q0_BV, q1_BV, q2_BV, q3_BV, qf_BV, ql_BV⟩ := BV.four
        obtain ⟨q0_BB, q1_BB, qf_BB, ql_BB⟩ := BB.two
        obtain ⟨q0_BS, q1_BS, q2_BS, q3_BS, qf_BS, ql_BS⟩ := BS.four
        obtain ⟨q0_V0_1, q1_V0_1, qf_V0_1, ql_V0_1⟩ := V0.1.two
        obtain ⟨q0_BX, q1_BX, qf_BX, ql_BX⟩ := BX.two
        obtain ⟨q0_V1_1, q1_V1_1, qf_V1_1, ql_V1_1⟩ := V1.1.two
        go_wp2_with fail
        clear q0_BV q1_BV q2_BV q3_BV qf_BV ql_BV
        clear q0_BB q1_BB qf_BB ql_BB
        clear q0_BS q1_BS q2_BS q3_BS qf_BS ql_BS
        clear q0_V0_1 q1_V0_1 qf_V0_1 ql_V0_1
        clear q0_BX q1_BX qf_BX ql_BX
        clear q0_V1_1 q1_V1_1 qf_V1_1 ql_V1_1
        refine (heldBoard_any _ _ X.length Y.length _ _ 1 _ lX lY (by omega) (by omega) V1.2.1.irow1 V1.2.1.irow2).mono ?_
        rintro e w12 ⟨rfl, hb12⟩
        replace BV := BV.below hb12
        replace BB := BB.below hb12
        replace BS := BS.below hb12
        replace V0 := V0.below hb12
        replace BX := BX.below hb12
        replace V1 := V1.below hb12
        have hz12 := hb12.size
        replace hb := chain hb hb12
        clear hb12
        obtain ⟨q0_BV, q1_BV, q2_BV, q3_BV, qf_BV, ql_BV⟩ := BV.four
        obtain ⟨q0_BB, q1_BB, qf_BB, ql_BB⟩ := BB.two
        obtain ⟨q0_BS, q1_BS, q2_BS, q3_BS, qf_BS, ql_BS⟩ := BS.four
        obtain ⟨q0_V0_1, q1_V0_1, qf_V0_1, ql_V0_1⟩ := V0.1.two
        obtain ⟨q0_BX, q1_BX, qf_BX, ql_BX⟩ := BX.two
        obtain ⟨q0_V1_1, q1_V1_1, qf_V1_1, ql_V1_1⟩ := V1.1.two
        go_wp2_with fail
        clear q0_BV q1_BV q2_BV q3_BV qf_BV ql_BV
        clear q0_BB q1_BB qf_BB ql_BB
        clear q0_BS q1_BS q2_BS q3_BS qf_BS ql_BS
        clear q0_V0_1 q1_V0_1 qf_V0_1 ql_V0_1
        clear q0_BX q1_BX qf_BX ql_BX
        clear q0_V1_1 q1_V1_1 qf_V1_1 ql_V1_1
        obtain ⟨J, hJ⟩ : ∃ J : Act → Act → World → Prop, J = fun a a' w' => ∃ B d1 d2 k1 k2 lo hi g1 g2, a' = ((((((((((((a.put (some 86) (.agg #[.int .i64 p, .int .i64 c, .int .i64 h, .int .i64 s])).put (some 87) (.agg #[.int .i64 p, .int .i64 c, .int .i64 h, .int .i64 s])).put (some 88) (.agg #[.slice a1 xs.length c1, .slice a2 ys.length c2])).put (some 89) (.agg #[.slice (some ⟨g1, 0, none⟩) xs.length xs.length, .slice (some ⟨g2, 0, none⟩) ys.length ys.length])).put (some 90) (.agg #[.int .i64 ta, .int .i64 tb, .int .i64 td, .bool tq])).put (some 91) (.agg #[.int .i64 ta, .int .i64 tb, .int .i64 td, .bool tq])).put (some 92) (.tuple #[.agg #[.slice d1 X.length k1, .slice d2 Y.length k2], .int .i64 r])).put (some 85) (.tuple #[.agg #[.slice d1 X.length k1, .slice d2 Y.length k2], .int .i64 r])).put (some 93) (.agg #[.slice d1 X.length k1, .slice d2 Y.length k2])).put (some 94) (.int .i64 r)).put (some 17) (.int .i64 r)).put (some 16) (.pointer (some ⟨B, 0, none⟩))) ∧ VarB w12.heap.size w' B d1 d2 X.length Y.length k1 k2 lo hi X Y ∧ Below w12.heap.size w12 w' := ⟨_, rfl⟩
        have HJ := Lib.hid hJ
        clear hJ
        refine wp_region_join J ?_ ?_
        · skip
          refine wp_region_held_drew (S := fun w' => w'.cell? ⟨w.heap.size, 0, none⟩ = some (.int .i64 p) ∧ w'.cell? ⟨w.heap.size, 1, none⟩ = some (.int .i64 c) ∧ w'.cell? ⟨w.heap.size, 2, none⟩ = some (.int .i64 h) ∧ w'.cell? ⟨w.heap.size, 3, none⟩ = some (.int .i64 s) ∧ w'.cell? ⟨(w.heap.size + 1), 0, none⟩ = some (.slice a1 xs.length c1) ∧ w'.cell? ⟨(w.heap.size + 1), 1, none⟩ = some (.slice a2 ys.length c2) ∧ w'.cell? ⟨(w.heap.size + 1 + 1), 0, none⟩ = some (.int .i64 ta) ∧ w'.cell? ⟨(w.heap.size + 1 + 1), 1, none⟩ = some (.int .i64 tb) ∧ w'.cell? ⟨(w.heap.size + 1 + 1), 2, none⟩ = some (.int .i64 td) ∧ w'.cell? ⟨(w.heap.size + 1 + 1), 3, none⟩ = some (.bool tq) ∧ w'.cell? ⟨BV0, 0, none⟩ = some (.slice d1V0 X.length k1V0) ∧ w'.cell? ⟨BV0, 1, none⟩ = some (.slice d2V0 Y.length k2V0) ∧ w'.cell? ⟨w2.heap.size, 0, none⟩ = some (.slice (some ⟨b1, 0, none⟩) xs.length xs.length) ∧ w'.cell? ⟨w2.heap.size, 1, none⟩ = some (.slice (some ⟨b2, 0, none⟩) ys.length ys.length) ∧ w'.cell? ⟨BV1, 0, none⟩ = some (.slice d1V1 X.length k1V1) ∧ w'.cell? ⟨BV1, 1, none⟩ = some (.slice d2V1 Y.length k2V1)) (by kernel_rfl) ⟨(BV.below (Below.refl _ _).drew).four.1, (BV.below (Below.refl _ _).drew).four.2.1, (BV.below (Below.refl _ _).drew).four.2.2.1, (BV.below (Below.refl _ _).drew).four.2.2.2.1, (BB.below (Below.refl _ _).drew).two.1, (BB.below (Below.refl _ _).drew).two.2.1, (BS.below (Below.refl _ _).drew).four.1, (BS.below (Below.refl _ _).drew).four.2.1, (BS.below (Below.refl _ _).drew).four.2.2.1, (BS.below (Below.refl _ _).drew).four.2.2.2.1, (V0.below (Below.refl _ _).drew).1.two.1, (V0.below (Below.refl _ _).drew).1.two.2.1, (BX.below (Below.refl _ _).drew).two.1, (BX.below (Below.refl _ _).drew).two.2.1, (V1.below (Below.refl _ _).drew).1.two.1, (V1.below (Below.refl _ _).drew).1.two.2.1⟩ (fun hHeld => ?_)
          clear hHeld
          have hbS : Below w12.heap.size w12 w12.drew := (Below.refl _ _).drew
          have hzd := hbS.size
          generalize w12.drew = vd at *
          have hHeld := (show vd.cell? ⟨w.heap.size, 0, none⟩ = some (.int .i64 p) ∧ vd.cell? ⟨w.heap.size, 1, none⟩ = some (.int .i64 c) ∧ vd.cell? ⟨w.heap.size, 2, none⟩ = some (.int .i64 h) ∧ vd.cell? ⟨w.heap.size, 3, none⟩ = some (.int .i64 s) ∧ vd.cell? ⟨(w.heap.size + 1), 0, none⟩ = some (.slice a1 xs.length c1) ∧ vd.cell? ⟨(w.heap.size + 1), 1, none⟩ = some (.slice a2 ys.length c2) ∧ vd.cell? ⟨(w.heap.size + 1 + 1), 0, none⟩ = some (.int .i64 ta) ∧ vd.cell? ⟨(w.heap.size + 1 + 1), 1, none⟩ = some (.int .i64 tb) ∧ vd.cell? ⟨(w.heap.size + 1 + 1), 2, none⟩ = some (.int .i64 td) ∧ vd.cell? ⟨(w.heap.size + 1 + 1), 3, none⟩ = some (.bool tq) ∧ vd.cell? ⟨BV0, 0, none⟩ = some (.slice d1V0 X.length k1V0) ∧ vd.cell? ⟨BV0, 1, none⟩ = some (.slice d2V0 Y.length k2V0) ∧ vd.cell? ⟨w2.heap.size, 0, none⟩ = some (.slice (some ⟨b1, 0, none⟩) xs.length xs.length) ∧ vd.cell? ⟨w2.heap.size, 1, none⟩ = some (.slice (some ⟨b2, 0, none⟩) ys.length ys.length) ∧ vd.cell? ⟨BV1, 0, none⟩ = some (.slice d1V1 X.length k1V1) ∧ vd.cell? ⟨BV1, 1, none⟩ = some (.slice d2V1 Y.length k2V1) from ⟨(BV.below hbS).four.1, (BV.below hbS).four.2.1, (BV.below hbS).four.2.2.1, (BV.below hbS).four.2.2.2.1, (BB.below hbS).two.1, (BB.below hbS).two.2.1, (BS.below hbS).four.1, (BS.below hbS).four.2.1, (BS.below hbS).four.2.2.1, (BS.below hbS).four.2.2.2.1, (V0.below hbS).1.two.1, (V0.below hbS).1.two.2.1, (BX.below hbS).two.1, (BX.below hbS).two.2.1, (V1.below hbS).1.two.1, (V1.below hbS).1.two.2.1⟩)
          refine wpAnyH_take (i := 0) (oi := { dst := some 86, op := _, type := _, pos := _, after := _, guard := _ }) (v := ?_) rfl (by kernel_rfl) (by kernel_rfl) (by kernel_rfl) (fun _ _ _ h => absurd h.1 (by simp)) (Or.inl ⟨by rfl, ?_⟩) (by assumption) ?_
          rotate_left
          · intro w hSw
            (try dsimp only at hSw)
            go_simp
            (try (with_reducible rfl))
          try simp only [Act.put, List.setIfInBounds_toArray, List.set_cons_zero, List.set_cons_succ]
          refine wpAnyH_take (i := 2) (oi := { dst := some 88, op := _, type := _, pos := _, after := _, guard := _ }) (v := ?_) rfl (by kernel_rfl) (by kernel_rfl) (by kernel_rfl) (fun _ _ _ h => absurd h.1 (by simp)) (Or.inl ⟨by rfl, ?_⟩) (by assumption) ?_
          rotate_left
          · intro w hSw
            (try dsimp only at hSw)
            go_simp
            (try (with_reducible rfl))
          try simp only [Act.put, List.setIfInBounds_toArray, List.set_cons_zero, List.set_cons_succ]
          refine wpAnyH_take (i := 4) (oi := { dst := some 90, op := _, type := _, pos := _, after := _, guard := _ }) (v := ?_) rfl (by kernel_rfl) (by kernel_rfl) (by kernel_rfl) (fun _ _ _ h => absurd h.1 (by simp)) (Or.inl ⟨by rfl, ?_⟩) (by assumption) ?_
          rotate_left
          · intro w hSw
            (try dsimp only at hSw)
            go_simp
            (try (with_reducible rfl))
          try simp only [Act.put, List.setIfInBounds_toArray, List.set_cons_zero, List.set_cons_succ]
          refine wpAnyH_ready (rs := [1, 10]) (by kernel_rfl) (by simp) ?_
          refine AllReadyH.cons (o := { dst := some 87, op := _, type := _, pos := _, after := _, guard := _ }) rfl (fun K hK => ?_) (AllReadyH.cons (o := { dst := some 16, op := _, type := _, pos := _, after := _, guard := _ }) rfl (fun K hK => ?_) AllReadyH.nil)
          · go_simp
            refine (toVariant_any _ _ _ _ _).mono ?_
            rintro e wt0 ⟨rfl, hbt0⟩
            have hz_hbt0 := hbt0.size
            replace hbS := chain hbS hbt0
            clear hbt0
            (try go_wp2_with fail)
            refine hK.out _ _ ⟨(BV.below hbS).four.1, (BV.below hbS).four.2.1, (BV.below hbS).four.2.2.1, (BV.below hbS).four.2.2.2.1, (BB.below hbS).two.1, (BB.below hbS).two.2.1, (BS.below hbS).four.1, (BS.below hbS).four.2.1, (BS.below hbS).four.2.2.1, (BS.below hbS).four.2.2.2.1, (V0.below hbS).1.two.1, (V0.below hbS).1.two.2.1, (BX.below hbS).two.1, (BX.below hbS).two.2.1, (V1.below hbS).1.two.1, (V1.below hbS).1.two.2.1⟩ (fun hHeld => ?_)
            clear hK K
            try simp only [Act.put, List.setIfInBounds_toArray, List.set_cons_zero, List.set_cons_succ]
            refine wpAnyH_ready (rs := [3, 10]) (by kernel_rfl) (by simp) ?_
            refine AllReadyH.cons (o := { dst := some 89, op := _, type := _, pos := _, after := _, guard := _ }) rfl (fun K hK => ?_) (AllReadyH.cons (o := { dst := some 16, op := _, type := _, pos := _, after := _, guard := _ }) rfl (fun K hK => ?_) AllReadyH.nil)
            · go_simp
              refine (toBoard_any a1 a2 _ _ c1 c2 xs ys _ rfl rfl l1 l2 (r1.below (chain hb hbS)) (r2.below (chain hb hbS))).mono ?_
              rintro e wt1 ⟨g1, g2, rfl, gg1, gg2, R1, R2, hbt1⟩
              have hz_hbt1 := hbt1.size
              replace hbS := chain hbS hbt1
              clear hbt1
              (try go_wp2_with fail)
              refine hK.out _ _ ⟨(BV.below hbS).four.1, (BV.below hbS).four.2.1, (BV.below hbS).four.2.2.1, (BV.below hbS).four.2.2.2.1, (BB.below hbS).two.1, (BB.below hbS).two.2.1, (BS.below hbS).four.1, (BS.below hbS).four.2.1, (BS.below hbS).four.2.2.1, (BS.below hbS).four.2.2.2.1, (V0.below hbS).1.two.1, (V0.below hbS).1.two.2.1, (BX.below hbS).two.1, (BX.below hbS).two.2.1, (V1.below hbS).1.two.1, (V1.below hbS).1.two.2.1⟩ (fun hHeld => ?_)
              clear hK K
              try simp only [Act.put, List.setIfInBounds_toArray, List.set_cons_zero, List.set_cons_succ]
              refine wpAnyH_ready (rs := [5, 10]) (by kernel_rfl) (by simp) ?_
              refine AllReadyH.cons (o := { dst := some 91, op := _, type := _, pos := _, after := _, guard := _ }) rfl (fun K hK => ?_) (AllReadyH.cons (o := { dst := some 16, op := _, type := _, pos := _, after := _, guard := _ }) rfl (fun K hK => ?_) AllReadyH.nil)
              · go_simp
                refine (toStep_any (ta, tb, td, tq) _).mono ?_
                rintro e wt2 ⟨rfl, hbt2⟩
                replace R1 := R1.below hbt2
                replace R2 := R2.below hbt2
                have hz_hbt2 := hbt2.size
                replace hbS := chain hbS hbt2
                clear hbt2
                (try go_wp2_with fail)
                refine hK.out _ _ ⟨(BV.below hbS).four.1, (BV.below hbS).four.2.1, (BV.below hbS).four.2.2.1, (BV.below hbS).four.2.2.2.1, (BB.below hbS).two.1, (BB.below hbS).two.2.1, (BS.below hbS).four.1, (BS.below hbS).four.2.1, (BS.below hbS).four.2.2.1, (BS.below hbS).four.2.2.2.1, (V0.below hbS).1.two.1, (V0.below hbS).1.two.2.1, (BX.below hbS).two.1, (BX.below hbS).two.2.1, (V1.below hbS).1.two.1, (V1.below hbS).1.two.2.1⟩ (fun hHeld => ?_)
                clear hK K
                try simp only [Act.put, List.setIfInBounds_toArray, List.set_cons_zero, List.set_cons_succ]
                refine wpAnyH_ready (rs := [6, 10]) (by kernel_rfl) (by simp) ?_
                refine AllReadyH.cons (o := { dst := some 92, op := _, type := _, pos := _, after := _, guard := _ }) rfl (fun K hK => ?_) (AllReadyH.cons (o := { dst := some 16, op := _, type := _, pos := _, after := _, guard := _ }) rfl (fun K hK => ?_) AllReadyH.nil)
                · go_simp
                  refine (HIM.out _ _ _ _ _ _ _ rfl rfl l1 l2 R1.irow R2.irow).mono ?_
                  rintro e wt3 ⟨d1, d2, k1, k2, rfl, hO, hbt3⟩
                  replace R1 := R1.below hbt3
                  replace R2 := R2.below hbt3
                  have hz_hbt3 := hbt3.size
                  replace hbS := chain hbS hbt3
                  clear hbt3
                  (try go_wp2_with fail)
                  refine hK.out _ _ ⟨(BV.below hbS).four.1, (BV.below hbS).four.2.1, (BV.below hbS).four.2.2.1, (BV.below hbS).four.2.2.2.1, (BB.below hbS).two.1, (BB.below hbS).two.2.1, (BS.below hbS).four.1, (BS.below hbS).four.2.1, (BS.below hbS).four.2.2.1, (BS.below hbS).four.2.2.2.1, (V0.below hbS).1.two.1, (V0.below hbS).1.two.2.1, (BX.below hbS).two.1, (BX.below hbS).two.2.1, (V1.below hbS).1.two.1, (V1.below hbS).1.two.2.1⟩ (fun hHeld => ?_)
                  clear hK K
                  try simp only [Act.put, List.setIfInBounds_toArray, List.set_cons_zero, List.set_cons_succ]
                  refine wpAnyH_take (i := 7) (oi := { dst := some 85, op := _, type := _, pos := _, after := _, guard := _ }) (v := ?_) rfl (by kernel_rfl) (by kernel_rfl) (by kernel_rfl) (fun _ _ _ h => absurd h.1 (by simp)) (Or.inl ⟨by rfl, ?_⟩) (by assumption) ?_
                  rotate_left
                  · intro w hSw
                    (try dsimp only at hSw)
                    go_simp
                    (try (with_reducible rfl))
                  try simp only [Act.put, List.setIfInBounds_toArray, List.set_cons_zero, List.set_cons_succ]
                  refine wpAnyH_take (i := 8) (oi := { dst := some 93, op := _, type := _, pos := _, after := _, guard := _ }) (v := ?_) rfl (by kernel_rfl) (by kernel_rfl) (by kernel_rfl) (fun _ _ _ h => absurd h.1 (by simp)) (Or.inl ⟨by rfl, ?_⟩) (by assumption) ?_
                  rotate_left
                  · intro w hSw
                    (try dsimp only at hSw)
                    go_simp
                    (try (with_reducible rfl))
                  try simp only [Act.put, List.setIfInBounds_toArray, List.set_cons_zero, List.set_cons_succ]
                  refine wpAnyH_take (i := 9) (oi := { dst := some 94, op := _, type := _, pos := _, after := _, guard := _ }) (v := ?_) rfl (by kernel_rfl) (by kernel_rfl) (by kernel_rfl) (fun _ _ _ h => absurd h.1 (by simp)) (Or.inl ⟨by rfl, ?_⟩) (by assumption) ?_
                  rotate_left
                  · intro w hSw
                    (try dsimp only at hSw)
                    go_simp
                    (try (with_reducible rfl))
                  try simp only [Act.put, List.setIfInBounds_toArray, List.set_cons_zero, List.set_cons_succ]
                  refine wpAnyH_ready (rs := [10]) (by kernel_rfl) (by simp) ?_
                  refine AllReadyH.cons (o := { dst := some 16, op := _, type := _, pos := _, after := _, guard := _ }) rfl (fun K hK => ?_) AllReadyH.nil
                  go_simp
                  refine hK.out _ _ ⟨(BV.below (hbS.alloc hbS.size _)).four.1, (BV.below (hbS.alloc hbS.size _)).four.2.1, (BV.below (hbS.alloc hbS.size _)).four.2.2.1, (BV.below (hbS.alloc hbS.size _)).four.2.2.2.1, (BB.below (hbS.alloc hbS.size _)).two.1, (BB.below (hbS.alloc hbS.size _)).two.2.1, (BS.below (hbS.alloc hbS.size _)).four.1, (BS.below (hbS.alloc hbS.size _)).four.2.1, (BS.below (hbS.alloc hbS.size _)).four.2.2.1, (BS.below (hbS.alloc hbS.size _)).four.2.2.2.1, (V0.below (hbS.alloc hbS.size _)).1.two.1, (V0.below (hbS.alloc hbS.size _)).1.two.2.1, (BX.below (hbS.alloc hbS.size _)).two.1, (BX.below (hbS.alloc hbS.size _)).two.2.1, (V1.below (hbS.alloc hbS.size _)).1.two.1, (V1.below (hbS.alloc hbS.size _)).1.two.2.1⟩ (fun hHeld => ?_)
                  clear hK K
                  try simp only [Act.put, List.setIfInBounds_toArray, List.set_cons_zero, List.set_cons_succ]
                  have BA := Blk.new wt3 #[.slice none 0 0, .slice none 0 0] 28
                  have hal : Below wt3.heap.size wt3 (wt3.alloc (.cells #[.slice none 0 0, .slice none 0 0] 28)) := (Below.refl _ _).alloc (Nat.le_refl _) _
                  have hlN : wt3.heap.size + 1 ≤ (wt3.alloc (.cells #[.slice none 0 0, .slice none 0 0] 28)).heap.size ∧ (wt3.alloc (.cells #[.slice none 0 0, .slice none 0 0] 28)).heap.size ≤ wt3.heap.size + 1 := by simp
                  have hzS := hbS.size
                  replace R1 := R1.below hal
                  replace R2 := R2.below hal
                  replace hO := hO.below hal
                  replace hbS := chain hbS hal
                  clear hal
                  generalize wt3.alloc (.cells #[.slice none 0 0, .slice none 0 0] 28) = wN at *
                  refine wpAnyH_ready (rs := [11]) (by kernel_rfl) (by simp) ?_
                  refine AllReadyH.cons (o := { dst := none, op := _, type := _, pos := _, after := _, guard := _ }) rfl (fun K hK => ?_) AllReadyH.nil
                  have q0 := BA.two.1
                  have q1 := BA.two.2.1
                  have qf := BA.two.2.2.1
                  have ql := BA.two.2.2.2
                  go_simp
                  (try go_wp2_with fail)
                  refine hK.out _ _ ⟨(BV.below (below2s BA hbS (by omega))).four.1, (BV.below (below2s BA hbS (by omega))).four.2.1, (BV.below (below2s BA hbS (by omega))).four.2.2.1, (BV.below (below2s BA hbS (by omega))).four.2.2.2.1, (BB.below (below2s BA hbS (by omega))).two.1, (BB.below (below2s BA hbS (by omega))).two.2.1, (BS.below (below2s BA hbS (by omega))).four.1, (BS.below (below2s BA hbS (by omega))).four.2.1, (BS.below (below2s BA hbS (by omega))).four.2.2.1, (BS.below (below2s BA hbS (by omega))).four.2.2.2.1, (V0.below (below2s BA hbS (by omega))).1.two.1, (V0.below (below2s BA hbS (by omega))).1.two.2.1, (BX.below (below2s BA hbS (by omega))).two.1, (BX.below (below2s BA hbS (by omega))).two.2.1, (V1.below (below2s BA hbS (by omega))).1.two.1, (V1.below (below2s BA hbS (by omega))).1.two.2.1⟩ (fun hHeld => ?_)
                  clear hK K
                  try simp only [Act.put, List.setIfInBounds_toArray, List.set_cons_zero, List.set_cons_succ]
                  refine wpAnyH_take (i := 12) (oi := { dst := some 17, op := _, type := _, pos := _, after := _, guard := _ }) (v := ?_) rfl (by kernel_rfl) (by kernel_rfl) (by kernel_rfl) (fun _ _ _ h => absurd h.1 (by simp)) (Or.inl ⟨by rfl, ?_⟩) (by assumption) ?_
                  rotate_left
                  · intro w hSw
                    (try dsimp only at hSw)
                    go_simp
                    (try (with_reducible rfl))
                  try simp only [Act.put, List.setIfInBounds_toArray, List.set_cons_zero, List.set_cons_succ]
                  refine wpAnyH_done (by kernel_rfl) ?_ _
                  rw [HJ.out]
                  refine ⟨rfl, _, d1, d2, k1, k2, _, _, g1, g2, ?_, VarB.stored BA hO ?_ ?_ ?_ ?_, below2s BA hbS (by omega)⟩
                  · simp only [Act.put, List.setIfInBounds_toArray, List.set_cons_zero, List.set_cons_succ]
                  all_goals (first | omega | (simp; omega))
                · go_simp
                  refine hK.out _ _ ⟨(BV.below (hbS.alloc hbS.size _)).four.1, (BV.below (hbS.alloc hbS.size _)).four.2.1, (BV.below (hbS.alloc hbS.size _)).four.2.2.1, (BV.below (hbS.alloc hbS.size _)).four.2.2.2.1, (BB.below (hbS.alloc hbS.size _)).two.1, (BB.below (hbS.alloc hbS.size _)).two.2.1, (BS.below (hbS.alloc hbS.size _)).four.1, (BS.below (hbS.alloc hbS.size _)).four.2.1, (BS.below (hbS.alloc hbS.size _)).four.2.2.1, (BS.below (hbS.alloc hbS.size _)).four.2.2.2.1, (V0.below (hbS.alloc hbS.size _)).1.two.1, (V0.below (hbS.alloc hbS.size _)).1.two.2.1, (BX.below (hbS.alloc hbS.size _)).two.1, (BX.below (hbS.alloc hbS.size _)).two.2.1, (V1.below (hbS.alloc hbS.size _)).1.two.1, (V1.below (hbS.alloc hbS.size _)).1.two.2.1⟩ (fun hHeld => ?_)
                  clear hK K
                  try simp only [Act.put, List.setIfInBounds_toArray, List.set_cons_zero, List.set_cons_succ]
                  have BA := Blk.new wt2 #[.slice none 0 0, .slice none 0 0] 28
                  have hal : Below wt2.heap.size wt2 (wt2.alloc (.cells #[.slice none 0 0, .slice none 0 0] 28)) := (Below.refl _ _).alloc (Nat.le_refl _) _
                  have hlN : wt2.heap.size + 1 ≤ (wt2.alloc (.cells #[.slice none 0 0, .slice none 0 0] 28)).heap.size ∧ (wt2.alloc (.cells #[.slice none 0 0, .slice none 0 0] 28)).heap.size ≤ wt2.heap.size + 1 := by simp
                  have hzS := hbS.size
                  replace R1 := R1.below hal
                  replace R2 := R2.below hal
                  replace hbS := chain hbS hal
                  clear hal
                  generalize wt2.alloc (.cells #[.slice none 0 0, .slice none 0 0] 28) = wN at *
                  refine wpAnyH_ready (rs := [6]) (by kernel_rfl) (by simp) ?_
                  refine AllReadyH.cons (o := { dst := some 92, op := _, type := _, pos := _, after := _, guard := _ }) rfl (fun K hK => ?_) AllReadyH.nil
                  go_simp
                  refine (HIM.out _ _ _ _ _ _ _ rfl rfl l1 l2 R1.irow R2.irow).mono ?_
                  rintro e wt3 ⟨d1, d2, k1, k2, rfl, hO, hbt3⟩
                  replace R1 := R1.below hbt3
                  replace R2 := R2.below hbt3
                  replace BA := BA.below hbt3
                  have hz_hbt3 := hbt3.size
                  replace hbS := chain hbS hbt3
                  clear hbt3
                  (try go_wp2_with fail)
                  refine hK.out _ _ ⟨(BV.below hbS).four.1, (BV.below hbS).four.2.1, (BV.below hbS).four.2.2.1, (BV.below hbS).four.2.2.2.1, (BB.below hbS).two.1, (BB.below hbS).two.2.1, (BS.below hbS).four.1, (BS.below hbS).four.2.1, (BS.below hbS).four.2.2.1, (BS.below hbS).four.2.2.2.1, (V0.below hbS).1.two.1, (V0.below hbS).1.two.2.1, (BX.below hbS).two.1, (BX.below hbS).two.2.1, (V1.below hbS).1.two.1, (V1.below hbS).1.two.2.1⟩ (fun hHeld => ?_)
                  clear hK K
                  try simp only [Act.put, List.setIfInBounds_toArray, List.set_cons_zero, List.set_cons_succ]
                  refine wpAnyH_take (i := 7) (oi := { dst := some 85, op := _, type := _, pos := _, after := _, guard := _ }) (v := ?_) rfl (by kernel_rfl) (by kernel_rfl) (by kernel_rfl) (fun _ _ _ h => absurd h.1 (by simp)) (Or.inl ⟨by rfl, ?_⟩) (by assumption) ?_
                  rotate_left
                  · intro w hSw
                    (try dsimp only at hSw)
                    go_simp
                    (try (with_reducible rfl))
                  try simp only [Act.put, List.setIfInBounds_toArray, List.set_cons_zero, List.set_cons_succ]
                  refine wpAnyH_take (i := 8) (oi := { dst := some 93, op := _, type := _, pos := _, after := _, guard := _ }) (v := ?_) rfl (by kernel_rfl) (by kernel_rfl) (by kernel_rfl) (fun _ _ _ h => absurd h.1 (by simp)) (Or.inl ⟨by rfl, ?_⟩) (by assumption) ?_
                  rotate_left
                  · intro w hSw
                    (try dsimp only at hSw)
                    go_simp
                    (try (with_reducible rfl))
                  try simp only [Act.put, List.setIfInBounds_toArray, List.set_cons_zero, List.set_cons_succ]
                  refine wpAnyH_take (i := 9) (oi := { dst := some 94, op := _, type := _, pos := _, after := _, guard := _ }) (v := ?_) rfl (by kernel_rfl) (by kernel_rfl) (by kernel_rfl) (fun _ _ _ h => absurd h.1 (by simp)) (Or.inl ⟨by rfl, ?_⟩) (by assumption) ?_
                  rotate_left
                  · intro w hSw
                    (try dsimp only at hSw)
                    go_simp
                    (try (with_reducible rfl))
                  try simp only [Act.put, List.setIfInBounds_toArray, List.set_cons_zero, List.set_cons_succ]
                  refine wpAnyH_ready (rs := [11]) (by kernel_rfl) (by simp) ?_
                  refine AllReadyH.cons (o := { dst := none, op := _, type := _, pos := _, after := _, guard := _ }) rfl (fun K hK => ?_) AllReadyH.nil
                  have q0 := BA.two.1
                  have q1 := BA.two.2.1
                  have qf := BA.two.2.2.1
                  have ql := BA.two.2.2.2
                  go_simp
                  (try go_wp2_with fail)
                  refine hK.out _ _ ⟨(BV.below (below2s BA hbS (by omega))).four.1, (BV.below (below2s BA hbS (by omega))).four.2.1, (BV.below (below2s BA hbS (by omega))).four.2.2.1, (BV.below (below2s BA hbS (by omega))).four.2.2.2.1, (BB.below (below2s BA hbS (by omega))).two.1, (BB.below (below2s BA hbS (by omega))).two.2.1, (BS.below (below2s BA hbS (by omega))).four.1, (BS.below (below2s BA hbS (by omega))).four.2.1, (BS.below (below2s BA hbS (by omega))).four.2.2.1, (BS.below (below2s BA hbS (by omega))).four.2.2.2.1, (V0.below (below2s BA hbS (by omega))).1.two.1, (V0.below (below2s BA hbS (by omega))).1.two.2.1, (BX.below (below2s BA hbS (by omega))).two.1, (BX.below (below2s BA hbS (by omega))).two.2.1, (V1.below (below2s BA hbS (by omega))).1.two.1, (V1.below (below2s BA hbS (by omega))).1.two.2.1⟩ (fun hHeld => ?_)
                  clear hK K
                  try simp only [Act.put, List.setIfInBounds_toArray, List.set_cons_zero, List.set_cons_succ]
                  refine wpAnyH_take (i := 12) (oi := { dst := some 17, op := _, type := _, pos := _, after := _, guard := _ }) (v := ?_) rfl (by kernel_rfl) (by kernel_rfl) (by kernel_rfl) (fun _ _ _ h => absurd h.1 (by simp)) (Or.inl ⟨by rfl, ?_⟩) (by assumption) ?_
                  rotate_left
                  · intro w hSw
                    (try dsimp only at hSw)
                    go_simp
                    (try (with_reducible rfl))
                  try simp only [Act.put, List.setIfInBounds_toArray, List.set_cons_zero, List.set_cons_succ]
                  refine wpAnyH_done (by kernel_rfl) ?_ _
                  rw [HJ.out]
                  refine ⟨rfl, _, d1, d2, k1, k2, _, _, g1, g2, ?_, VarB.stored BA hO ?_ ?_ ?_ ?_, below2s BA hbS (by omega)⟩
                  · simp only [Act.put, List.setIfInBounds_toArray, List.set_cons_zero, List.set_cons_succ]
                  all_goals (first | omega | (simp; omega))
              · go_simp
                refine hK.out _ _ ⟨(BV.below (hbS.alloc hbS.size _)).four.1, (BV.below (hbS.alloc hbS.size _)).four.2.1, (BV.below (hbS.alloc hbS.size _)).four.2.2.1, (BV.below (hbS.alloc hbS.size _)).four.2.2.2.1, (BB.below (hbS.alloc hbS.size _)).two.1, (BB.below (hbS.alloc hbS.size _)).two.2.1, (BS.below (hbS.alloc hbS.size _)).four.1, (BS.below (hbS.alloc hbS.size _)).four.2.1, (BS.below (hbS.alloc hbS.size _)).four.2.2.1, (BS.below (hbS.alloc hbS.size _)).four.2.2.2.1, (V0.below (hbS.alloc hbS.size _)).1.two.1, (V0.below (hbS.alloc hbS.size _)).1.two.2.1, (BX.below (hbS.alloc hbS.size _)).two.1, (BX.below (hbS.alloc hbS.size _)).two.2.1, (V1.below (hbS.alloc hbS.size _)).1.two.1, (V1.below (hbS.alloc hbS.size _)).1.two.2.1⟩ (fun hHeld => ?_)
                clear hK K
                try simp only [Act.put, List.setIfInBounds_toArray, List.set_cons_zero, List.set_cons_succ]
                have BA := Blk.new wt1 #[.slice none 0 0, .slice none 0 0] 28
                have hal : Below wt1.heap.size wt1 (wt1.alloc (.cells #[.slice none 0 0, .slice none 0 0] 28)) := (Below.refl _ _).alloc (Nat.le_refl _) _
                have hlN : wt1.heap.size + 1 ≤ (wt1.alloc (.cells #[.slice none 0 0, .slice none 0 0] 28)).heap.size ∧ (wt1.alloc (.cells #[.slice none 0 0, .slice none 0 0] 28)).heap.size ≤ wt1.heap.size + 1 := by simp
                have hzS := hbS.size
                replace R1 := R1.below hal
                replace R2 := R2.below hal
                replace hbS := chain hbS hal
                clear hal
                generalize wt1.alloc (.cells #[.slice none 0 0, .slice none 0 0] 28) = wN at *
                refine wpAnyH_ready (rs := [5]) (by kernel_rfl) (by simp) ?_
                refine AllReadyH.cons (o := { dst := some 91, op := _, type := _, pos := _, after := _, guard := _ }) rfl (fun K hK => ?_) AllReadyH.nil
                go_simp
                refine (toStep_any (ta, tb, td, tq) _).mono ?_
                rintro e wt2 ⟨rfl, hbt2⟩
                replace R1 := R1.below hbt2
                replace R2 := R2.below hbt2
                replace BA := BA.below hbt2
                have hz_hbt2 := hbt2.size
                replace hbS := chain hbS hbt2
                clear hbt2
                (try go_wp2_with fail)
                refine hK.out _ _ ⟨(BV.below hbS).four.1, (BV.below hbS).four.2.1, (BV.below hbS).four.2.2.1, (BV.below hbS).four.2.2.2.1, (BB.below hbS).two.1, (BB.below hbS).two.2.1, (BS.below hbS).four.1, (BS.below hbS).four.2.1, (BS.below hbS).four.2.2.1, (BS.below hbS).four.2.2.2.1, (V0.below hbS).1.two.1, (V0.below hbS).1.two.2.1, (BX.below hbS).two.1, (BX.below hbS).two.2.1, (V1.below hbS).1.two.1, (V1.below hbS).1.two.2.1⟩ (fun hHeld => ?_)
                clear hK K
                try simp only [Act.put, List.setIfInBounds_toArray, List.set_cons_zero, List.set_cons_succ]
                refine wpAnyH_ready (rs := [6]) (by kernel_rfl) (by simp) ?_
                refine AllReadyH.cons (o := { dst := some 92, op := _, type := _, pos := _, after := _, guard := _ }) rfl (fun K hK => ?_) AllReadyH.nil
                go_simp
                refine (HIM.out _ _ _ _ _ _ _ rfl rfl l1 l2 R1.irow R2.irow).mono ?_
                rintro e wt3 ⟨d1, d2, k1, k2, rfl, hO, hbt3⟩
                replace R1 := R1.below hbt3
                replace R2 := R2.below hbt3
                replace BA := BA.below hbt3
                have hz_hbt3 := hbt3.size
                replace hbS := chain hbS hbt3
                clear hbt3
                (try go_wp2_with fail)
                refine hK.out _ _ ⟨(BV.below hbS).four.1, (BV.below hbS).four.2.1, (BV.below hbS).four.2.2.1, (BV.below hbS).four.2.2.2.1, (BB.below hbS).two.1, (BB.below hbS).two.2.1, (BS.below hbS).four.1, (BS.below hbS).four.2.1, (BS.below hbS).four.2.2.1, (BS.below hbS).four.2.2.2.1, (V0.below hbS).1.two.1, (V0.below hbS).1.two.2.1, (BX.below hbS).two.1, (BX.below hbS).two.2.1, (V1.below hbS).1.two.1, (V1.below hbS).1.two.2.1⟩ (fun hHeld => ?_)
                clear hK K
                try simp only [Act.put, List.setIfInBounds_toArray, List.set_cons_zero, List.set_cons_succ]
                refine wpAnyH_take (i := 7) (oi := { dst := some 85, op := _, type := _, pos := _, after := _, guard := _ }) (v := ?_) rfl (by kernel_rfl) (by kernel_rfl) (by kernel_rfl) (fun _ _ _ h => absurd h.1 (by simp)) (Or.inl ⟨by rfl, ?_⟩) (by assumption) ?_
                rotate_left
                · intro w hSw
                  (try dsimp only at hSw)
                  go_simp
                  (try (with_reducible rfl))
                try simp only [Act.put, List.setIfInBounds_toArray, List.set_cons_zero, List.set_cons_succ]
                refine wpAnyH_take (i := 8) (oi := { dst := some 93, op := _, type := _, pos := _, after := _, guard := _ }) (v := ?_) rfl (by kernel_rfl) (by kernel_rfl) (by kernel_rfl) (fun _ _ _ h => absurd h.1 (by simp)) (Or.inl ⟨by rfl, ?_⟩) (by assumption) ?_
                rotate_left
                · intro w hSw
                  (try dsimp only at hSw)
                  go_simp
                  (try (with_reducible rfl))
                try simp only [Act.put, List.setIfInBounds_toArray, List.set_cons_zero, List.set_cons_succ]
                refine wpAnyH_take (i := 9) (oi := { dst := some 94, op := _, type := _, pos := _, after := _, guard := _ }) (v := ?_) rfl (by kernel_rfl) (by kernel_rfl) (by kernel_rfl) (fun _ _ _ h => absurd h.1 (by simp)) (Or.inl ⟨by rfl, ?_⟩) (by assumption) ?_
                rotate_left
                · intro w hSw
                  (try dsimp only at hSw)
                  go_simp
                  (try (with_reducible rfl))
                try simp only [Act.put, List.setIfInBounds_toArray, List.set_cons_zero, List.set_cons_succ]
                refine wpAnyH_ready (rs := [11]) (by kernel_rfl) (by simp) ?_
                refine AllReadyH.cons (o := { dst := none, op := _, type := _, pos := _, after := _, guard := _ }) rfl (fun K hK => ?_) AllReadyH.nil
                have q0 := BA.two.1
                have q1 := BA.two.2.1
                have qf := BA.two.2.2.1
                have ql := BA.two.2.2.2
                go_simp
                (try go_wp2_with fail)
                refine hK.out _ _ ⟨(BV.below (below2s BA hbS (by omega))).four.1, (BV.below (below2s BA hbS (by omega))).four.2.1, (BV.below (below2s BA hbS (by omega))).four.2.2.1, (BV.below (below2s BA hbS (by omega))).four.2.2.2.1, (BB.below (below2s BA hbS (by omega))).two.1, (BB.below (below2s BA hbS (by omega))).two.2.1, (BS.below (below2s BA hbS (by omega))).four.1, (BS.below (below2s BA hbS (by omega))).four.2.1, (BS.below (below2s BA hbS (by omega))).four.2.2.1, (BS.below (below2s BA hbS (by omega))).four.2.2.2.1, (V0.below (below2s BA hbS (by omega))).1.two.1, (V0.below (below2s BA hbS (by omega))).1.two.2.1, (BX.below (below2s BA hbS (by omega))).two.1, (BX.below (below2s BA hbS (by omega))).two.2.1, (V1.below (below2s BA hbS (by omega))).1.two.1, (V1.below (below2s BA hbS (by omega))).1.two.2.1⟩ (fun hHeld => ?_)
                clear hK K
                try simp only [Act.put, List.setIfInBounds_toArray, List.set_cons_zero, List.set_cons_succ]
                refine wpAnyH_take (i := 12) (oi := { dst := some 17, op := _, type := _, pos := _, after := _, guard := _ }) (v := ?_) rfl (by kernel_rfl) (by kernel_rfl) (by kernel_rfl) (fun _ _ _ h => absurd h.1 (by simp)) (Or.inl ⟨by rfl, ?_⟩) (by assumption) ?_
                rotate_left
                · intro w hSw
                  (try dsimp only at hSw)
                  go_simp
                  (try (with_reducible rfl))
                try simp only [Act.put, List.setIfInBounds_toArray, List.set_cons_zero, List.set_cons_succ]
                refine wpAnyH_done (by kernel_rfl) ?_ _
                rw [HJ.out]
                refine ⟨rfl, _, d1, d2, k1, k2, _, _, g1, g2, ?_, VarB.stored BA hO ?_ ?_ ?_ ?_, below2s BA hbS (by omega)⟩
                · simp only [Act.put, List.setIfInBounds_toArray, List.set_cons_zero, List.set_cons_succ]
                all_goals (first | omega | (simp; omega))
            · go_simp
              refine hK.out _ _ ⟨(BV.below (hbS.alloc hbS.size _)).four.1, (BV.below (hbS.alloc hbS.size _)).four.2.1, (BV.below (hbS.alloc hbS.size _)).four.2.2.1, (BV.below (hbS.alloc hbS.size _)).four.2.2.2.1, (BB.below (hbS.alloc hbS.size _)).two.1, (BB.below (hbS.alloc hbS.size _)).two.2.1, (BS.below (hbS.alloc hbS.size _)).four.1, (BS.below (hbS.alloc hbS.size _)).four.2.1, (BS.below (hbS.alloc hbS.size _)).four.2.2.1, (BS.below (hbS.alloc hbS.size _)).four.2.2.2.1, (V0.below (hbS.alloc hbS.size _)).1.two.1, (V0.below (hbS.alloc hbS.size _)).1.two.2.1, (BX.below (hbS.alloc hbS.size _)).two.1, (BX.below (hbS.alloc hbS.size _)).two.2.1, (V1.below (hbS.alloc hbS.size _)).1.two.1, (V1.below (hbS.alloc hbS.size _)).1.two.2.1⟩ (fun hHeld => ?_)
              clear hK K
              try simp only [Act.put, List.setIfInBounds_toArray, List.set_cons_zero, List.set_cons_succ]
              have BA := Blk.new wt0 #[.slice none 0 0, .slice none 0 0] 28
              have hal : Below wt0.heap.size wt0 (wt0.alloc (.cells #[.slice none 0 0, .slice none 0 0] 28)) := (Below.refl _ _).alloc (Nat.le_refl _) _
              have hlN : wt0.heap.size + 1 ≤ (wt0.alloc (.cells #[.slice none 0 0, .slice none 0 0] 28)).heap.size ∧ (wt0.alloc (.cells #[.slice none 0 0, .slice none 0 0] 28)).heap.size ≤ wt0.heap.size + 1 := by simp
              have hzS := hbS.size
              replace hbS := chain hbS hal
              clear hal
              generalize wt0.alloc (.cells #[.slice none 0 0, .slice none 0 0] 28) = wN at *
              refine wpAnyH_ready (rs := [3]) (by kernel_rfl) (by simp) ?_
              refine AllReadyH.cons (o := { dst := some 89, op := _, type := _, pos := _, after := _, guard := _ }) rfl (fun K hK => ?_) AllReadyH.nil
              go_simp
              refine (toBoard_any a1 a2 _ _ c1 c2 xs ys _ rfl rfl l1 l2 (r1.below (chain hb hbS)) (r2.below (chain hb hbS))).mono ?_
              rintro e wt1 ⟨g1, g2, rfl, gg1, gg2, R1, R2, hbt1⟩
              replace BA := BA.below hbt1
              have hz_hbt1 := hbt1.size
              replace hbS := chain hbS hbt1
              clear hbt1
              (try go_wp2_with fail)
              refine hK.out _ _ ⟨(BV.below hbS).four.1, (BV.below hbS).four.2.1, (BV.below hbS).four.2.2.1, (BV.below hbS).four.2.2.2.1, (BB.below hbS).two.1, (BB.below hbS).two.2.1, (BS.below hbS).four.1, (BS.below hbS).four.2.1, (BS.below hbS).four.2.2.1, (BS.below hbS).four.2.2.2.1, (V0.below hbS).1.two.1, (V0.below hbS).1.two.2.1, (BX.below hbS).two.1, (BX.below hbS).two.2.1, (V1.below hbS).1.two.1, (V1.below hbS).1.two.2.1⟩ (fun hHeld => ?_)
              clear hK K
              try simp only [Act.put, List.setIfInBounds_toArray, List.set_cons_zero, List.set_cons_succ]
              refine wpAnyH_ready (rs := [5]) (by kernel_rfl) (by simp) ?_
              refine AllReadyH.cons (o := { dst := some 91, op := _, type := _, pos := _, after := _, guard := _ }) rfl (fun K hK => ?_) AllReadyH.nil
              go_simp
              refine (toStep_any (ta, tb, td, tq) _).mono ?_
              rintro e wt2 ⟨rfl, hbt2⟩
              replace R1 := R1.below hbt2
              replace R2 := R2.below hbt2
              replace BA := BA.below hbt2
              have hz_hbt2 := hbt2.size
              replace hbS := chain hbS hbt2
              clear hbt2
              (try go_wp2_with fail)
              refine hK.out _ _ ⟨(BV.below hbS).four.1, (BV.below hbS).four.2.1, (BV.below hbS).four.2.2.1, (BV.below hbS).four.2.2.2.1, (BB.below hbS).two.1, (BB.below hbS).two.2.1, (BS.below hbS).four.1, (BS.below hbS).four.2.1, (BS.below hbS).four.2.2.1, (BS.below hbS).four.2.2.2.1, (V0.below hbS).1.two.1, (V0.below hbS).1.two.2.1, (BX.below hbS).two.1, (BX.below hbS).two.2.1, (V1.below hbS).1.two.1, (V1.below hbS).1.two.2.1⟩ (fun hHeld => ?_)
              clear hK K
              try simp only [Act.put, List.setIfInBounds_toArray, List.set_cons_zero, List.set_cons_succ]
              refine wpAnyH_ready (rs := [6]) (by kernel_rfl) (by simp) ?_
              refine AllReadyH.cons (o := { dst := some 92, op := _, type := _, pos := _, after := _, guard := _ }) rfl (fun K hK => ?_) AllReadyH.nil
              go_simp
              refine (HIM.out _ _ _ _ _ _ _ rfl rfl l1 l2 R1.irow R2.irow).mono ?_
              rintro e wt3 ⟨d1, d2, k1, k2, rfl, hO, hbt3⟩
              replace R1 := R1.below hbt3
              replace R2 := R2.below hbt3
              replace BA := BA.below hbt3
              have hz_hbt3 := hbt3.size
              replace hbS := chain hbS hbt3
              clear hbt3
              (try go_wp2_with fail)
              refine hK.out _ _ ⟨(BV.below hbS).four.1, (BV.below hbS).four.2.1, (BV.below hbS).four.2.2.1, (BV.below hbS).four.2.2.2.1, (BB.below hbS).two.1, (BB.below hbS).two.2.1, (BS.below hbS).four.1, (BS.below hbS).four.2.1, (BS.below hbS).four.2.2.1, (BS.below hbS).four.2.2.2.1, (V0.below hbS).1.two.1, (V0.below hbS).1.two.2.1, (BX.below hbS).two.1, (BX.below hbS).two.2.1, (V1.below hbS).1.two.1, (V1.below hbS).1.two.2.1⟩ (fun hHeld => ?_)
              clear hK K
              try simp only [Act.put, List.setIfInBounds_toArray, List.set_cons_zero, List.set_cons_succ]
              refine wpAnyH_take (i := 7) (oi := { dst := some 85, op := _, type := _, pos := _, after := _, guard := _ }) (v := ?_) rfl (by kernel_rfl) (by kernel_rfl) (by kernel_rfl) (fun _ _ _ h => absurd h.1 (by simp)) (Or.inl ⟨by rfl, ?_⟩) (by assumption) ?_
              rotate_left
              · intro w hSw
                (try dsimp only at hSw)
                go_simp
                (try (with_reducible rfl))
              try simp only [Act.put, List.setIfInBounds_toArray, List.set_cons_zero, List.set_cons_succ]
              refine wpAnyH_take (i := 8) (oi := { dst := some 93, op := _, type := _, pos := _, after := _, guard := _ }) (v := ?_) rfl (by kernel_rfl) (by kernel_rfl) (by kernel_rfl) (fun _ _ _ h => absurd h.1 (by simp)) (Or.inl ⟨by rfl, ?_⟩) (by assumption) ?_
              rotate_left
              · intro w hSw
                (try dsimp only at hSw)
                go_simp
                (try (with_reducible rfl))
              try simp only [Act.put, List.setIfInBounds_toArray, List.set_cons_zero, List.set_cons_succ]
              refine wpAnyH_take (i := 9) (oi := { dst := some 94, op := _, type := _, pos := _, after := _, guard := _ }) (v := ?_) rfl (by kernel_rfl) (by kernel_rfl) (by kernel_rfl) (fun _ _ _ h => absurd h.1 (by simp)) (Or.inl ⟨by rfl, ?_⟩) (by assumption) ?_
              rotate_left
              · intro w hSw
                (try dsimp only at hSw)
                go_simp
                (try (with_reducible rfl))
              try simp only [Act.put, List.setIfInBounds_toArray, List.set_cons_zero, List.set_cons_succ]
              refine wpAnyH_ready (rs := [11]) (by kernel_rfl) (by simp) ?_
              refine AllReadyH.cons (o := { dst := none, op := _, type := _, pos := _, after := _, guard := _ }) rfl (fun K hK => ?_) AllReadyH.nil
              have q0 := BA.two.1
              have q1 := BA.two.2.1
              have qf := BA.two.2.2.1
              have ql := BA.two.2.2.2
              go_simp
              (try go_wp2_with fail)
              refine hK.out _ _ ⟨(BV.below (below2s BA hbS (by omega))).four.1, (BV.below (below2s BA hbS (by omega))).four.2.1, (BV.below (below2s BA hbS (by omega))).four.2.2.1, (BV.below (below2s BA hbS (by omega))).four.2.2.2.1, (BB.below (below2s BA hbS (by omega))).two.1, (BB.below (below2s BA hbS (by omega))).two.2.1, (BS.below (below2s BA hbS (by omega))).four.1, (BS.below (below2s BA hbS (by omega))).four.2.1, (BS.below (below2s BA hbS (by omega))).four.2.2.1, (BS.below (below2s BA hbS (by omega))).four.2.2.2.1, (V0.below (below2s BA hbS (by omega))).1.two.1, (V0.below (below2s BA hbS (by omega))).1.two.2.1, (BX.below (below2s BA hbS (by omega))).two.1, (BX.below (below2s BA hbS (by omega))).two.2.1, (V1.below (below2s BA hbS (by omega))).1.two.1, (V1.below (below2s BA hbS (by omega))).1.two.2.1⟩ (fun hHeld => ?_)
              clear hK K
              try simp only [Act.put, List.setIfInBounds_toArray, List.set_cons_zero, List.set_cons_succ]
              refine wpAnyH_take (i := 12) (oi := { dst := some 17, op := _, type := _, pos := _, after := _, guard := _ }) (v := ?_) rfl (by kernel_rfl) (by kernel_rfl) (by kernel_rfl) (fun _ _ _ h => absurd h.1 (by simp)) (Or.inl ⟨by rfl, ?_⟩) (by assumption) ?_
              rotate_left
              · intro w hSw
                (try dsimp only at hSw)
                go_simp
                (try (with_reducible rfl))
              try simp only [Act.put, List.setIfInBounds_toArray, List.set_cons_zero, List.set_cons_succ]
              refine wpAnyH_done (by kernel_rfl) ?_ _
              rw [HJ.out]
              refine ⟨rfl, _, d1, d2, k1, k2, _, _, g1, g2, ?_, VarB.stored BA hO ?_ ?_ ?_ ?_, below2s BA hbS (by omega)⟩
              · simp only [Act.put, List.setIfInBounds_toArray, List.set_cons_zero, List.set_cons_succ]
              all_goals (first | omega | (simp; omega))
          · go_simp
            refine hK.out _ _ ⟨(BV.below (hbS.alloc hbS.size _)).four.1, (BV.below (hbS.alloc hbS.size _)).four.2.1, (BV.below (hbS.alloc hbS.size _)).four.2.2.1, (BV.below (hbS.alloc hbS.size _)).four.2.2.2.1, (BB.below (hbS.alloc hbS.size _)).two.1, (BB.below (hbS.alloc hbS.size _)).two.2.1, (BS.below (hbS.alloc hbS.size _)).four.1, (BS.below (hbS.alloc hbS.size _)).four.2.1, (BS.below (hbS.alloc hbS.size _)).four.2.2.1, (BS.below (hbS.alloc hbS.size _)).four.2.2.2.1, (V0.below (hbS.alloc hbS.size _)).1.two.1, (V0.below (hbS.alloc hbS.size _)).1.two.2.1, (BX.below (hbS.alloc hbS.size _)).two.1, (BX.below (hbS.alloc hbS.size _)).two.2.1, (V1.below (hbS.alloc hbS.size _)).1.two.1, (V1.below (hbS.alloc hbS.size _)).1.two.2.1⟩ (fun hHeld => ?_)
            clear hK K
            try simp only [Act.put, List.setIfInBounds_toArray, List.set_cons_zero, List.set_cons_succ]
            have BA := Blk.new vd #[.slice none 0 0, .slice none 0 0] 28
            have hal : Below vd.heap.size vd (vd.alloc (.cells #[.slice none 0 0, .slice none 0 0] 28)) := (Below.refl _ _).alloc (Nat.le_refl _) _
            have hlN : vd.heap.size + 1 ≤ (vd.alloc (.cells #[.slice none 0 0, .slice none 0 0] 28)).heap.size ∧ (vd.alloc (.cells #[.slice none 0 0, .slice none 0 0] 28)).heap.size ≤ vd.heap.size + 1 := by simp
            have hzS := hbS.size
            replace hbS := chain hbS hal
            clear hal
            generalize vd.alloc (.cells #[.slice none 0 0, .slice none 0 0] 28) = wN at *
            refine wpAnyH_ready (rs := [1]) (by kernel_rfl) (by simp) ?_
            refine AllReadyH.cons (o := { dst := some 87, op := _, type := _, pos := _, after := _, guard := _ }) rfl (fun K hK => ?_) AllReadyH.nil
            go_simp
            refine (toVariant_any _ _ _ _ _).mono ?_
            rintro e wt0 ⟨rfl, hbt0⟩
            replace BA := BA.below hbt0
            have hz_hbt0 := hbt0.size
            replace hbS := chain hbS hbt0
            clear hbt0
            (try go_wp2_with fail)
            refine hK.out _ _ ⟨(BV.below hbS).four.1, (BV.below hbS).four.2.1, (BV.below hbS).four.2.2.1, (BV.below hbS).four.2.2.2.1, (BB.below hbS).two.1, (BB.below hbS).two.2.1, (BS.below hbS).four.1, (BS.below hbS).four.2.1, (BS.below hbS).four.2.2.1, (BS.below hbS).four.2.2.2.1, (V0.below hbS).1.two.1, (V0.below hbS).1.two.2.1, (BX.below hbS).two.1, (BX.below hbS).two.2.1, (V1.below hbS).1.two.1, (V1.below hbS).1.two.2.1⟩ (fun hHeld => ?_)
            clear hK K
            try simp only [Act.put, List.setIfInBounds_toArray, List.set_cons_zero, List.set_cons_succ]
            refine wpAnyH_ready (rs := [3]) (by kernel_rfl) (by simp) ?_
            refine AllReadyH.cons (o := { dst := some 89, op := _, type := _, pos := _, after := _, guard := _ }) rfl (fun K hK => ?_) AllReadyH.nil
            go_simp
            refine (toBoard_any a1 a2 _ _ c1 c2 xs ys _ rfl rfl l1 l2 (r1.below (chain hb hbS)) (r2.below (chain hb hbS))).mono ?_
            rintro e wt1 ⟨g1, g2, rfl, gg1, gg2, R1, R2, hbt1⟩
            replace BA := BA.below hbt1
            have hz_hbt1 := hbt1.size
            replace hbS := chain hbS hbt1
            clear hbt1
            (try go_wp2_with fail)
            refine hK.out _ _ ⟨(BV.below hbS).four.1, (BV.below hbS).four.2.1, (BV.below hbS).four.2.2.1, (BV.below hbS).four.2.2.2.1, (BB.below hbS).two.1, (BB.below hbS).two.2.1, (BS.below hbS).four.1, (BS.below hbS).four.2.1, (BS.below hbS).four.2.2.1, (BS.below hbS).four.2.2.2.1, (V0.below hbS).1.two.1, (V0.below hbS).1.two.2.1, (BX.below hbS).two.1, (BX.below hbS).two.2.1, (V1.below hbS).1.two.1, (V1.below hbS).1.two.2.1⟩ (fun hHeld => ?_)
            clear hK K
            try simp only [Act.put, List.setIfInBounds_toArray, List.set_cons_zero, List.set_cons_succ]
            refine wpAnyH_ready (rs := [5]) (by kernel_rfl) (by simp) ?_
            refine AllReadyH.cons (o := { dst := some 91, op := _, type := _, pos := _, after := _, guard := _ }) rfl (fun K hK => ?_) AllReadyH.nil
            go_simp
            refine (toStep_any (ta, tb, td, tq) _).mono ?_
            rintro e wt2 ⟨rfl, hbt2⟩
            replace R1 := R1.below hbt2
            replace R2 := R2.below hbt2
            replace BA := BA.below hbt2
            have hz_hbt2 := hbt2.size
            replace hbS := chain hbS hbt2
            clear hbt2
            (try go_wp2_with fail)
            refine hK.out _ _ ⟨(BV.below hbS).four.1, (BV.below hbS).four.2.1, (BV.below hbS).four.2.2.1, (BV.below hbS).four.2.2.2.1, (BB.below hbS).two.1, (BB.below hbS).two.2.1, (BS.below hbS).four.1, (BS.below hbS).four.2.1, (BS.below hbS).four.2.2.1, (BS.below hbS).four.2.2.2.1, (V0.below hbS).1.two.1, (V0.below hbS).1.two.2.1, (BX.below hbS).two.1, (BX.below hbS).two.2.1, (V1.below hbS).1.two.1, (V1.below hbS).1.two.2.1⟩ (fun hHeld => ?_)
            clear hK K
            try simp only [Act.put, List.setIfInBounds_toArray, List.set_cons_zero, List.set_cons_succ]
            refine wpAnyH_ready (rs := [6]) (by kernel_rfl) (by simp) ?_
            refine AllReadyH.cons (o := { dst := some 92, op := _, type := _, pos := _, after := _, guard := _ }) rfl (fun K hK => ?_) AllReadyH.nil
            go_simp
            refine (HIM.out _ _ _ _ _ _ _ rfl rfl l1 l2 R1.irow R2.irow).mono ?_
            rintro e wt3 ⟨d1, d2, k1, k2, rfl, hO, hbt3⟩
            replace R1 := R1.below hbt3
            replace R2 := R2.below hbt3
            replace BA := BA.below hbt3
            have hz_hbt3 := hbt3.size
            replace hbS := chain hbS hbt3
            clear hbt3
            (try go_wp2_with fail)
            refine hK.out _ _ ⟨(BV.below hbS).four.1, (BV.below hbS).four.2.1, (BV.below hbS).four.2.2.1, (BV.below hbS).four.2.2.2.1, (BB.below hbS).two.1, (BB.below hbS).two.2.1, (BS.below hbS).four.1, (BS.below hbS).four.2.1, (BS.below hbS).four.2.2.1, (BS.below hbS).four.2.2.2.1, (V0.below hbS).1.two.1, (V0.below hbS).1.two.2.1, (BX.below hbS).two.1, (BX.below hbS).two.2.1, (V1.below hbS).1.two.1, (V1.below hbS).1.two.2.1⟩ (fun hHeld => ?_)
            clear hK K
            try simp only [Act.put, List.setIfInBounds_toArray, List.set_cons_zero, List.set_cons_succ]
            refine wpAnyH_take (i := 7) (oi := { dst := some 85, op := _, type := _, pos := _, after := _, guard := _ }) (v := ?_) rfl (by kernel_rfl) (by kernel_rfl) (by kernel_rfl) (fun _ _ _ h => absurd h.1 (by simp)) (Or.inl ⟨by rfl, ?_⟩) (by assumption) ?_
            rotate_left
            · intro w hSw
              (try dsimp only at hSw)
              go_simp
              (try (with_reducible rfl))
            try simp only [Act.put, List.setIfInBounds_toArray, List.set_cons_zero, List.set_cons_succ]
            refine wpAnyH_take (i := 8) (oi := { dst := some 93, op := _, type := _, pos := _, after := _, guard := _ }) (v := ?_) rfl (by kernel_rfl) (by kernel_rfl) (by kernel_rfl) (fun _ _ _ h => absurd h.1 (by simp)) (Or.inl ⟨by rfl, ?_⟩) (by assumption) ?_
            rotate_left
            · intro w hSw
              (try dsimp only at hSw)
              go_simp
              (try (with_reducible rfl))
            try simp only [Act.put, List.setIfInBounds_toArray, List.set_cons_zero, List.set_cons_succ]
            refine wpAnyH_take (i := 9) (oi := { dst := some 94, op := _, type := _, pos := _, after := _, guard := _ }) (v := ?_) rfl (by kernel_rfl) (by kernel_rfl) (by kernel_rfl) (fun _ _ _ h => absurd h.1 (by simp)) (Or.inl ⟨by rfl, ?_⟩) (by assumption) ?_
            rotate_left
            · intro w hSw
              (try dsimp only at hSw)
              go_simp
              (try (with_reducible rfl))
            try simp only [Act.put, List.setIfInBounds_toArray, List.set_cons_zero, List.set_cons_succ]
            refine wpAnyH_ready (rs := [11]) (by kernel_rfl) (by simp) ?_
            refine AllReadyH.cons (o := { dst := none, op := _, type := _, pos := _, after := _, guard := _ }) rfl (fun K hK => ?_) AllReadyH.nil
            have q0 := BA.two.1
            have q1 := BA.two.2.1
            have qf := BA.two.2.2.1
            have ql := BA.two.2.2.2
            go_simp
            (try go_wp2_with fail)
            refine hK.out _ _ ⟨(BV.below (below2s BA hbS (by omega))).four.1, (BV.below (below2s BA hbS (by omega))).four.2.1, (BV.below (below2s BA hbS (by omega))).four.2.2.1, (BV.below (below2s BA hbS (by omega))).four.2.2.2.1, (BB.below (below2s BA hbS (by omega))).two.1, (BB.below (below2s BA hbS (by omega))).two.2.1, (BS.below (below2s BA hbS (by omega))).four.1, (BS.below (below2s BA hbS (by omega))).four.2.1, (BS.below (below2s BA hbS (by omega))).four.2.2.1, (BS.below (below2s BA hbS (by omega))).four.2.2.2.1, (V0.below (below2s BA hbS (by omega))).1.two.1, (V0.below (below2s BA hbS (by omega))).1.two.2.1, (BX.below (below2s BA hbS (by omega))).two.1, (BX.below (below2s BA hbS (by omega))).two.2.1, (V1.below (below2s BA hbS (by omega))).1.two.1, (V1.below (below2s BA hbS (by omega))).1.two.2.1⟩ (fun hHeld => ?_)
            clear hK K
            try simp only [Act.put, List.setIfInBounds_toArray, List.set_cons_zero, List.set_cons_succ]
            refine wpAnyH_take (i := 12) (oi := { dst := some 17, op := _, type := _, pos := _, after := _, guard := _ }) (v := ?_) rfl (by kernel_rfl) (by kernel_rfl) (by kernel_rfl) (fun _ _ _ h => absurd h.1 (by simp)) (Or.inl ⟨by rfl, ?_⟩) (by assumption) ?_
            rotate_left
            · intro w hSw
              (try dsimp only at hSw)
              go_simp
              (try (with_reducible rfl))
            try simp only [Act.put, List.setIfInBounds_toArray, List.set_cons_zero, List.set_cons_succ]
            refine wpAnyH_done (by kernel_rfl) ?_ _
            rw [HJ.out]
            refine ⟨rfl, _, d1, d2, k1, k2, _, _, g1, g2, ?_, VarB.stored BA hO ?_ ?_ ?_ ?_, below2s BA hbS (by omega)⟩
            · simp only [Act.put, List.setIfInBounds_toArray, List.set_cons_zero, List.set_cons_succ]
            all_goals (first | omega | (simp; omega))
        · intro a' w13 hj
          rw [HJ.out] at hj
          clear HJ
          obtain ⟨BV2, d1V2, d2V2, k1V2, k2V2, loV2, hiV2, g1V2, g2V2, rfl, V2, hbS⟩ := hj
          try simp only [Act.put, List.setIfInBounds_toArray, List.set_cons_zero, List.set_cons_succ]
          replace BV := BV.below hbS
          replace BB := BB.below hbS
          replace BS := BS.below hbS
          replace V0 := V0.below hbS
          replace BX := BX.below hbS
          replace V1 := V1.below hbS
          have hz13 := hbS.size
          replace hb := chain hb hbS
          clear hbS
          have e1V2 := V2.2.2.1
          have e2V2 := V2.2.2.2.1
          have e3V2 := V2.2.2.2.2.1
          have e4V2 := V2.2.2.2.2.2
          have e5V2 := V2.1.lt
          obtain ⟨q0_BV, q1_BV, q2_BV, q3_BV, qf_BV, ql_BV⟩ := BV.four
          obtain ⟨q0_BB, q1_BB, qf_BB, ql_BB⟩ := BB.two
          obtain ⟨q0_BS, q1_BS, q2_BS, q3_BS, qf_BS, ql_BS⟩ := BS.four
          obtain ⟨q0_V0_1, q1_V0_1, qf_V0_1, ql_V0_1⟩ := V0.1.two
          obtain ⟨q0_BX, q1_BX, qf_BX, ql_BX⟩ := BX.two
          obtain ⟨q0_V1_1, q1_V1_1, qf_V1_1, ql_V1_1⟩ := V1.1.two
          obtain ⟨q0_V2_1, q1_V2_1, qf_V2_1, ql_V2_1⟩ := V2.1.two
          go_wp2_with fail
          clear q0_BV q1_BV q2_BV q3_BV qf_BV ql_BV
          clear q0_BB q1_BB qf_BB ql_BB
          clear q0_BS q1_BS q2_BS q3_BS qf_BS ql_BS
          clear q0_V0_1 q1_V0_1 qf_V0_1 ql_V0_1
          clear q0_BX q1_BX qf_BX ql_BX
          clear q0_V1_1 q1_V1_1 qf_V1_1 ql_V1_1
          clear q0_V2_1 q1_V2_1 qf_V2_1 ql_V2_1
          refine (eqBoard_same _ _ _ _ _ _ _ _ _ _ X Y _ rfl rfl lX lY V2.2.1.irow1 V2.2.1.irow2 V0.2.1.irow1 V0.2.1.irow2).mono ?_
          rintro e w14 ⟨rfl, hb14⟩
          replace BV := BV.below hb14
          replace BB := BB.below hb14
          replace BS := BS.below hb14
          replace V0 := V0.below hb14
          replace BX := BX.below hb14
          replace V1 := V1.below hb14
          replace V2 := V2.below hb14
          have hz14 := hb14.size
          replace hb := chain hb hb14
          clear hb14
          obtain ⟨q0_BV, q1_BV, q2_BV, q3_BV, qf_BV, ql_BV⟩ := BV.four
          obtain ⟨q0_BB, q1_BB, qf_BB, ql_BB⟩ := BB.two
          obtain ⟨q0_BS, q1_BS, q2_BS, q3_BS, qf_BS, ql_BS⟩ := BS.four
          obtain ⟨q0_V0_1, q1_V0_1, qf_V0_1, ql_V0_1⟩ := V0.1.two
          obtain ⟨q0_BX, q1_BX, qf_BX, ql_BX⟩ := BX.two
          obtain ⟨q0_V1_1, q1_V1_1, qf_V1_1, ql_V1_1⟩ := V1.1.two
          obtain ⟨q0_V2_1, q1_V2_1, qf_V2_1, ql_V2_1⟩ := V2.1.two
          go_wp2_with fail
          clear q0_BV q1_BV q2_BV q3_BV qf_BV ql_BV
          clear q0_BB q1_BB qf_BB ql_BB
          clear q0_BS q1_BS q2_BS q3_BS qf_BS ql_BS
          clear q0_V0_1 q1_V0_1 qf_V0_1 ql_V0_1
          clear q0_BX q1_BX qf_BX ql_BX
          clear q0_V1_1 q1_V1_1 qf_V1_1 ql_V1_1
          clear q0_V2_1 q1_V2_1 qf_V2_1 ql_V2_1
          refine (heldBoard_any _ _ X.length Y.length _ _ 1 _ lX lY (by omega) (by omega) V1.2.1.irow1 V1.2.1.irow2).mono ?_
          rintro e w15 ⟨rfl, hb15⟩
          replace BV := BV.below hb15
          replace BB := BB.below hb15
          replace BS := BS.below hb15
          replace V0 := V0.below hb15
          replace BX := BX.below hb15
          replace V1 := V1.below hb15
          replace V2 := V2.below hb15
          have hz15 := hb15.size
          replace hb := chain hb hb15
          clear hb15
          obtain ⟨q0_BV, q1_BV, q2_BV, q3_BV, qf_BV, ql_BV⟩ := BV.four
          obtain ⟨q0_BB, q1_BB, qf_BB, ql_BB⟩ := BB.two
          obtain ⟨q0_BS, q1_BS, q2_BS, q3_BS, qf_BS, ql_BS⟩ := BS.four
          obtain ⟨q0_V0_1, q1_V0_1, qf_V0_1, ql_V0_1⟩ := V0.1.two
          obtain ⟨q0_BX, q1_BX, qf_BX, ql_BX⟩ := BX.two
          obtain ⟨q0_V1_1, q1_V1_1, qf_V1_1, ql_V1_1⟩ := V1.1.two
          obtain ⟨q0_V2_1, q1_V2_1, qf_V2_1, ql_V2_1⟩ := V2.1.two
          go_wp2_with fail
          go_ret
          exact ⟨rfl, hb⟩
set_option maxRecDepth 100000 in
theorem fnExactApplyStep_lifted (os : Os) (started : os.Started) (H : Type) (enc : TypeId × Value → H) :
    ReturnsInHanded {} Try.checked os 9 .any (Rows.fnExactApplyStepSpec.pre6 enc Try.prog Try.f9 Rows.fnExactApplyStepRow.domain false) (Rows.fnExactApplyStepSpec.post enc Try.prog Try.f9 false true false false) := by
  refine returnsInHanded_of_change (C := Try.checked) own started (by kernel_rfl) Try.func9
    (ChangeSpec.witness6 (enc := enc) (C := Try.checked) false ⟨#[], #[.agg #[.int .i64 0, .int .i64 0, .int .i64 0, .int .i64 0], .agg #[.slice none 0 0, .slice none 0 0], .agg #[.int .i64 0, .int .i64 0, .int .i64 0, .bool false]], []⟩ 8 (by kernel_rfl) (by kernel_rfl) (by kernel_rfl) (by kernel_rfl)) ?_
  intro W base args ds gs before hval0 hW hcnd _
  have hval : ∀ (j : Nat) t v, Try.f9.params[j]? = some t → args[j]? = some v → Value.okWide Try.prog W .any base t v := hval0
  have hW' := hW
  obtain ⟨p, q, hA0, hV, rfl, hfz, hnd⟩ := hW
  have hA : DataW.TrodAll enc Try.prog W 0 (fun _ => true) true Try.f9.params.toList args.toList ds p := hA0
  rw [Try.params9] at hA hval
  obtain ⟨v0, vs0, d0, ds0, p0, q0, hargs, rfl, rfl, h0, r0⟩ := trodAll_cons hA
  obtain ⟨v1, vs1, d1, ds1, p1, q1, rfl, rfl, rfl, h1, r1⟩ := trodAll_cons r0
  obtain ⟨v2, vs2, d2, ds2, p2, q2, rfl, rfl, rfl, h2, r2⟩ := trodAll_cons r1
  obtain ⟨rfl, rfl, rfl⟩ := trodAll_nil r2
  obtain rfl : args = #[v0, v1, v2] := by cases args; simp_all
  obtain ⟨rfl, rfl⟩ := trodVars_none hV
  have k0 := h0
  have lt0 : ∀ x ∈ p0, x.block < W.heap.size := by obtain ⟨m, hm⟩ := k0; exact DataW.trod_lt m _ _ _ hm
  have k1 := h1
  have lt1 : ∀ x ∈ p1, x.block < W.heap.size := by obtain ⟨m, hm⟩ := k1; exact DataW.trod_lt m _ _ _ hm
  have k2 := h2
  have lt2 : ∀ x ∈ p2, x.block < W.heap.size := by obtain ⟨m, hm⟩ := k2; exact DataW.trod_lt m _ _ _ hm
  obtain ⟨x0_0, x1_0, x2_0, x3_0, y0_0, y1_0, y2_0, y3_0, m_0, rfl, _, _, hy0_0, hy1_0, hy2_0, hy3_0⟩ := Joins.open_agg4 Try.underlying52 (by kernel_rfl) (show Try.prog.cellsOf 52 = 4 by kernel_rfl) (hval 0 52 v0 rfl rfl) h0
  obtain ⟨a0_0, e0_0, _, wa0_0⟩ := DataW.trod_int Try.underlying2 hy0_0
  obtain ⟨a1_0, e1_0, _, wa1_0⟩ := DataW.trod_int Try.underlying2 hy1_0
  obtain ⟨a2_0, e2_0, _, wa2_0⟩ := DataW.trod_int Try.underlying2 hy2_0
  obtain ⟨a3_0, e3_0, _, wa3_0⟩ := DataW.trod_int Try.underlying2 hy3_0
  simp at e0_0 e1_0 e2_0 e3_0
  subst e0_0 e1_0 e2_0 e3_0
  obtain ⟨x0_1, x1_1, y0_1, y1_1, m_1, rfl, _, _, hy0_1, hy1_1⟩ := Joins.open_agg2 Try.underlying53 (by kernel_rfl) (show Try.prog.cellsOf 53 = 2 by kernel_rfl) (hval 1 53 v1 rfl rfl) h1
  obtain ⟨ra_1, rn_1, rc_1, rx_1, rfl, rl_1, rm_1, rr_1, rw_1⟩ := open_row hy0_1
  obtain ⟨sa_1, sn_1, sc_1, sx_1, rfl, sl_1, sm_1, sr_1, sw_1⟩ := open_row hy1_1
  obtain ⟨x0_2, x1_2, x2_2, x3_2, y0_2, y1_2, y2_2, y3_2, m_2, rfl, _, _, hy0_2, hy1_2, hy2_2, hy3_2⟩ := Joins.open_agg4 Try.underlying61 (by kernel_rfl) (show Try.prog.cellsOf 61 = 4 by kernel_rfl) (hval 2 61 v2 rfl rfl) h2
  obtain ⟨a0_2, e0_2, _, wa0_2⟩ := DataW.trod_int Try.underlying2 hy0_2
  obtain ⟨a1_2, e1_2, _, wa1_2⟩ := DataW.trod_int Try.underlying2 hy1_2
  obtain ⟨a2_2, e2_2, _, wa2_2⟩ := DataW.trod_int Try.underlying2 hy2_2
  obtain ⟨a3_2, e3_2, _⟩ := DataW.trod_bool Try.underlying4 hy3_2
  simp at e0_2 e1_2 e2_2 e3_2
  subst e0_2 e1_2 e2_2 e3_2
  clear hA0 hval0
  refine (fnExactApplyStep_walk a0_0 a1_0 a2_0 a3_0 ra_1 sa_1 rn_1 sn_1 rc_1 sc_1 rx_1 sx_1 a0_2 a1_2 a2_2 a3_2 W rl_1 sl_1 rm_1 sm_1 rr_1 sr_1).mono fun e W' ⟨he, bel⟩ => ?_
  subst he
  exact ⟨_, rfl, _, _, _, [], _, [], hW', trodAll_mk1 (shut_bool Try.underlying4 _), (trodAll_cons_mk (Below.trod laidOut (by kernel_rfl) (of_decide_eq_true (by kernel_rfl)) k0 bel lt0) (trodAll_cons_mk (Below.trod laidOut (by kernel_rfl) (of_decide_eq_true (by kernel_rfl)) k1 bel lt1) (trodAll_cons_mk (Below.trod laidOut (by kernel_rfl) (of_decide_eq_true (by kernel_rfl)) k2 bel lt2) trodAll_mk0))), rfl, bel.frame _, fun h => by cases h⟩
theorem fnExactApplyStep_holds : Rows.FnExactApplyStepSaid :=
  OpenClaim.holds_of_wide 9 Try.f9 rfl rfl rfl rfl rfl rfl rfl ⟨rfl, rfl, rfl, rfl, rfl⟩ rfl rfl rfl rfl rfl (by kernel_rfl) Try.func9 (by kernel_rfl)
    (of_decide_eq_true (by kernel_rfl)) (by unfold Func.isWrapper; first | (rw [if_pos (by decide +kernel)]; kernel_rfl) | (rw [if_neg (by decide +kernel)]; exact ⟨rfl, rfl⟩))
    (fun os started H enc _ => fnExactApplyStep_lifted os started H enc)
end Go.Proofs.Ytjglempkmenacaa
