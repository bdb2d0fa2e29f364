/- Contract of the program's board ahead of a step. -/
import Derived.Test.Ytjglempkmenacaa04u
namespace Go.Proofs.Ytjglempkmenacaa
open Go.ChangeShapes Go.WideShapes Go.ChangeAt Go.RowKit
set_option linter.unusedVariables false
set_option linter.unusedSimpArgs false
set_option maxRecDepth 4000

/-- The board ahead of a step is the one from which it leads here. -/
def udOk (p c h s : Int) (xs ys : List Int) (t : Stp) : Bool := placesB p t && lgB p c h s (mvX xs t.1 t.2.1 (-1)) (mvY p.toNat ys t.2.1 t.2.2.2 (-1)) t
def udX (p c h s : Int) (xs ys : List Int) (t : Stp) : List Int := if isB p c h s xs ys = true then (if udOk p c h s xs ys t = true then mvX xs t.1 t.2.1 (-1) else []) else []
def udY (p c h s : Int) (xs ys : List Int) (t : Stp) : List Int := if isB p c h s xs ys = true then (if udOk p c h s xs ys t = true then mvY p.toNat ys t.2.1 t.2.2.2 (-1) else []) else []
def udR (p c h s : Int) (xs ys : List Int) (t : Stp) : Int := if isB p c h s xs ys = true then (if udOk p c h s xs ys t = true then 0 else 4) else 1
theorem ud_length (p c h s : Int) (xs ys : List Int) (t : Stp) : (udX p c h s xs ys t).length ≤ 1048576 ∧ (udY p c h s xs ys t).length ≤ 1048576 := by
  unfold udX udY
  split
  · rename_i g
    obtain ⟨p0, p1, k0, k1, k2, k3, N1, N2, hx, hy, s0, s1, s2, s3⟩ := isB_parts g
    split
    · rw [mvX_length, mvY_length]
      omega
    · simp
  · simp
theorem below2u {wS W : World} {B : Nat} {u0 u1 v0 v1 : Value} {t : TypeId} (_ : Blk W B #[u0, u1] t) (h : Below wS.heap.size wS W) (hB : wS.heap.size ≤ B) : Below wS.heap.size wS ((W.setCell ⟨B, 0, none⟩ v0).setCell ⟨B, 1, none⟩ v1) :=
  (h.setCell (p := ⟨B, 0, none⟩) hB _).setCell (p := ⟨B, 1, none⟩) hB _
set_option maxRecDepth 8000 in
set_option maxHeartbeats 4000000 in
theorem undoStep_any (t : Stp) (p c h s : Int) (a1 a2 : Option Addr) (n1 n2 c1 c2 : Nat) (xs ys : List Int) (w : World) (h1 : xs.length = n1) (h2 : ys.length = n2) (l1 : n1 ≤ 1048576) (l2 : n2 ≤ 1048576) (r1 : IRow w a1 xs) (r2 : IRow w a2 ys) :
    Calls Try.prog 19 #[.agg #[.int .i64 p, .int .i64 c, .int .i64 h, .int .i64 s], .agg #[.slice a1 n1 c1, .slice a2 n2 c2], stV t] w (BoardGotN (udX p c h s xs ys t) (udY p c h s xs ys t) (udR p c h s xs ys t) w) := by
  unfold udX udY udR udOk
  by_cases g : isB p c h s xs ys = true
  · rw [if_pos g, if_pos g, if_pos g]
    obtain ⟨p0, p1, k0, k1, k2, k3, N1, N2, hx, hy, s0, s1, s2, s3⟩ := isB_parts g
    obtain ⟨P, rfl⟩ := Int.eq_ofNat_of_zero_le (by omega : 0 ≤ p)
    rw [show (P : Int).toNat = P by simp]
    have hs6 := isB_sides g
    have hB := fun W (q1 : IRow W a1 xs) (q2 : IRow W a2 ys) => isBoard_any (P : Int) c h s a1 a2 n1 n2 c1 c2 xs ys W h1 h2 l1 l2 q1 q2
    simp only [g] at hB
    have HB := Lib.hid hB
    clear hB
    have hp0 := fun W => hasPlaces_any (P : Int) c h s t W
    cases gp : placesB (P : Int) t with
    | false =>
      rw [Bool.false_and, if_neg (by simp), if_neg (by simp), if_neg (by simp)]
      rw [gp] at hp0
      obtain ⟨ta, tb, td, tq⟩ := t
      have HPL := Lib.hid hp0
      clear hp0 gp
      obtain ⟨BV, BB, BS, BR, hb, hz⟩ := four_new w #[.int .i64 (P : Int), .int .i64 c, .int .i64 h, .int .i64 s] #[.slice a1 n1 c1, .slice a2 n2 c2] #[.int .i64 ta, .int .i64 tb, .int .i64 td, .bool tq] #[.slice none 0 0, .slice none 0 0] 25 28 30 28
      obtain ⟨x0, x1, x2, x3, xf, xl⟩ := BV.four
      obtain ⟨y0, y1, yf, yl⟩ := BB.two
      obtain ⟨s0, s1, s2, s3, sf, sl⟩ := BS.four
      obtain ⟨u0, u1, uf, ul⟩ := BR.two
      go_enter Try.func19, Try.ntmps19
      go_wp2_with (first | (go_at_call 57; refine (HB.out _ (r1.below hb) (r2.below hb)).mono ?_; rintro e w1 ⟨rfl, hb1⟩; obtain ⟨x0, x1, x2, x3, xf, xl⟩ := (BV.below hb1).four; obtain ⟨y0, y1, yf, yl⟩ := (BB.below hb1).two; obtain ⟨s0, s1, s2, s3, sf, sl⟩ := (BS.below hb1).four; obtain ⟨u0, u1, uf, ul⟩ := (BR.below hb1).two) | (go_at_call 63; refine (HPL.out _).mono ?_; rintro e w2 ⟨rfl, hb2⟩; obtain ⟨x0, x1, x2, x3, xf, xl⟩ := (BV.below (chain hb1 hb2)).four; obtain ⟨y0, y1, yf, yl⟩ := (BB.below (chain hb1 hb2)).two; obtain ⟨s0, s1, s2, s3, sf, sl⟩ := (BS.below (chain hb1 hb2)).four; obtain ⟨u0, u1, uf, ul⟩ := (BR.below (chain hb1 hb2)).two))
      refine bodyPost_ret (v := .tuple #[.agg #[.slice none 0 0, .slice none 0 0], .int .i64 4]) (by first | (simp [results, Try.results19, go_sem, u0, u1]; done) | (simp [results, Try.results19, go_sem, *]; done)) rfl ?_
      exact ⟨none, none, 0, 0, rfl, .inl ⟨rfl, rfl, rfl, rfl⟩, ((chain hb (chain hb1 hb2)).setCell (by simp; omega) _).setCell (by simp; omega) _⟩
    | true =>
      rw [Bool.true_and]
      rw [gp] at hp0
      have hm0 := fun W f1 f2 B (q1 : Pays f1 B xs W) (q2 : Pays f2 B ys W) => moved_any P f1 f2 B xs ys W (by omega) (by omega) (by omega) (by omega) hx hy q1 q2 t (-1) (by omega) (by omega) gp
      have lX0 : (mvX xs t.1 t.2.1 (-1)).length ≤ 1048576 := by rw [mvX_length]; omega
      have lY0 : (mvY P ys t.2.1 t.2.2.2 (-1)).length ≤ 1048576 := by rw [mvY_length]; omega
      obtain ⟨X, hX⟩ : ∃ X, mvX xs t.1 t.2.1 (-1) = X := ⟨_, rfl⟩
      obtain ⟨Y, hY⟩ : ∃ Y, mvY P ys t.2.1 t.2.2.2 (-1) = Y := ⟨_, rfl⟩
      rw [hX, hY] at hm0
      rw [hX] at lX0
      rw [hY] at lY0
      rw [hX, hY]
      have hi0 := fun W e1 e2 k1 k2 (q1 : IRow W e1 X) (q2 : IRow W e2 Y) => isLegalStep_any t (P : Int) c h s e1 e2 X.length Y.length k1 k2 X Y W rfl rfl lX0 lY0 q1 q2
      obtain ⟨ta, tb, td, tq⟩ := t
      have HPL := Lib.hid hp0
      have HM := Lib.hid hm0
      cases gl : lgB (P : Int) c h s X Y (ta, tb, td, tq) with
      | true =>
        rw [if_pos rfl, if_pos rfl, if_pos rfl]
        rw [gl] at hi0
        have HI := Lib.hid hi0
        clear hp0 hm0 hX hY gp gl hi0
        obtain ⟨BV, BB, BS, BR, hb, hz⟩ := four_new w #[.int .i64 (P : Int), .int .i64 c, .int .i64 h, .int .i64 s] #[.slice a1 n1 c1, .slice a2 n2 c2] #[.int .i64 ta, .int .i64 tb, .int .i64 td, .bool tq] #[.slice none 0 0, .slice none 0 0] 25 28 30 28
        obtain ⟨x0, x1, x2, x3, xf, xl⟩ := BV.four
        obtain ⟨y0, y1, yf, yl⟩ := BB.two
        obtain ⟨s0, s1, s2, s3, sf, sl⟩ := BS.four
        obtain ⟨u0, u1, uf, ul⟩ := BR.two
        go_enter Try.func19, Try.ntmps19
        go_wp2_with (first | (go_at_call 57; refine (HB.out _ (r1.below hb) (r2.below hb)).mono ?_; rintro e w1 ⟨rfl, hb1⟩; obtain ⟨x0, x1, x2, x3, xf, xl⟩ := (BV.below hb1).four; obtain ⟨y0, y1, yf, yl⟩ := (BB.below hb1).two; obtain ⟨s0, s1, s2, s3, sf, sl⟩ := (BS.below hb1).four; obtain ⟨u0, u1, uf, ul⟩ := (BR.below hb1).two) | (go_at_call 63; refine (HPL.out _).mono ?_; rintro e w2 ⟨rfl, hb2⟩; obtain ⟨x0, x1, x2, x3, xf, xl⟩ := (BV.below (chain hb1 hb2)).four; obtain ⟨y0, y1, yf, yl⟩ := (BB.below (chain hb1 hb2)).two; obtain ⟨s0, s1, s2, s3, sf, sl⟩ := (BS.below (chain hb1 hb2)).four; obtain ⟨u0, u1, uf, ul⟩ := (BR.below (chain hb1 hb2)).two))
        clear x0 x1 x2 x3 xf xl y0 y1 yf yl s0 s1 s2 s3 sf sl u0 u1 uf ul hz HPL HB
        replace BV := BV.below (chain hb1 hb2)
        replace BB := BB.below (chain hb1 hb2)
        replace BS := BS.below (chain hb1 hb2)
        replace BR := BR.below (chain hb1 hb2)
        replace hb := chain hb (chain hb1 hb2)
        clear hb1 hb2
        replace r1 := r1.below hb
        replace r2 := r2.below hb
        have hlR := BR.lt
        obtain ⟨J, hJ⟩ : ∃ J : Act → Act → World → Prop, J = fun a a' w' => ∃ B d1 d2 k1 k2 lo hi B0, a' = ((((((a.put (some 19) (.agg #[.int .i64 (P : Int), .int .i64 c, .int .i64 h, .int .i64 s])).put (some 20) (.agg #[.slice a1 n1 c1, .slice a2 n2 c2])).put (some 21) (tv (P : Int) 97 98 B0)).put (some 22) (.agg #[.int .i64 ta, .int .i64 tb, .int .i64 td, .bool tq])).put (some 23) (.agg #[.slice d1 X.length k1, .slice d2 Y.length k2])).put (some 8) (.pointer (some ⟨B, 0, none⟩))) ∧ VarB w2.heap.size w' B d1 d2 X.length Y.length k1 k2 lo hi X Y ∧ Below w2.heap.size w2 w' := ⟨_, rfl⟩
        have HJ := Lib.hid hJ
        clear hJ
        refine wp_region_join J ?_ ?_
        · skip
          refine wp_region_held_drew (S := fun w' => w'.cell? ⟨w.heap.size, 0, none⟩ = some (.int .i64 (P : Int)) ∧ w'.cell? ⟨w.heap.size, 1, none⟩ = some (.int .i64 c) ∧ w'.cell? ⟨w.heap.size, 2, none⟩ = some (.int .i64 h) ∧ w'.cell? ⟨w.heap.size, 3, none⟩ = some (.int .i64 s) ∧ w'.cell? ⟨(w.heap.size + 1), 0, none⟩ = some (.slice a1 n1 c1) ∧ w'.cell? ⟨(w.heap.size + 1), 1, none⟩ = some (.slice a2 n2 c2) ∧ w'.cell? ⟨(w.heap.size + 1 + 1), 0, none⟩ = some (.int .i64 ta) ∧ w'.cell? ⟨(w.heap.size + 1 + 1), 1, none⟩ = some (.int .i64 tb) ∧ w'.cell? ⟨(w.heap.size + 1 + 1), 2, none⟩ = some (.int .i64 td) ∧ w'.cell? ⟨(w.heap.size + 1 + 1), 3, none⟩ = some (.bool tq) ∧ w'.cell? ⟨(w.heap.size + 1 + 1 + 1), 0, none⟩ = some (.slice none 0 0) ∧ w'.cell? ⟨(w.heap.size + 1 + 1 + 1), 1, none⟩ = some (.slice none 0 0)) (by kernel_rfl) ⟨(BV.below (Below.refl _ _).drew).four.1, (BV.below (Below.refl _ _).drew).four.2.1, (BV.below (Below.refl _ _).drew).four.2.2.1, (BV.below (Below.refl _ _).drew).four.2.2.2.1, (BB.below (Below.refl _ _).drew).two.1, (BB.below (Below.refl _ _).drew).two.2.1, (BS.below (Below.refl _ _).drew).four.1, (BS.below (Below.refl _ _).drew).four.2.1, (BS.below (Below.refl _ _).drew).four.2.2.1, (BS.below (Below.refl _ _).drew).four.2.2.2.1, (BR.below (Below.refl _ _).drew).two.1, (BR.below (Below.refl _ _).drew).two.2.1⟩ (fun hHeld => ?_)
          clear hHeld
          have hbS : Below w2.heap.size w2 w2.drew := (Below.refl _ _).drew
          have hzd := hbS.size
          generalize w2.drew = vd at *
          have hHeld := (show vd.cell? ⟨w.heap.size, 0, none⟩ = some (.int .i64 (P : Int)) ∧ vd.cell? ⟨w.heap.size, 1, none⟩ = some (.int .i64 c) ∧ vd.cell? ⟨w.heap.size, 2, none⟩ = some (.int .i64 h) ∧ vd.cell? ⟨w.heap.size, 3, none⟩ = some (.int .i64 s) ∧ vd.cell? ⟨(w.heap.size + 1), 0, none⟩ = some (.slice a1 n1 c1) ∧ vd.cell? ⟨(w.heap.size + 1), 1, none⟩ = some (.slice a2 n2 c2) ∧ vd.cell? ⟨(w.heap.size + 1 + 1), 0, none⟩ = some (.int .i64 ta) ∧ vd.cell? ⟨(w.heap.size + 1 + 1), 1, none⟩ = some (.int .i64 tb) ∧ vd.cell? ⟨(w.heap.size + 1 + 1), 2, none⟩ = some (.int .i64 td) ∧ vd.cell? ⟨(w.heap.size + 1 + 1), 3, none⟩ = some (.bool tq) ∧ vd.cell? ⟨(w.heap.size + 1 + 1 + 1), 0, none⟩ = some (.slice none 0 0) ∧ vd.cell? ⟨(w.heap.size + 1 + 1 + 1), 1, none⟩ = some (.slice none 0 0) from ⟨(BV.below hbS).four.1, (BV.below hbS).four.2.1, (BV.below hbS).four.2.2.1, (BV.below hbS).four.2.2.2.1, (BB.below hbS).two.1, (BB.below hbS).two.2.1, (BS.below hbS).four.1, (BS.below hbS).four.2.1, (BS.below hbS).four.2.2.1, (BS.below hbS).four.2.2.2.1, (BR.below hbS).two.1, (BR.below hbS).two.2.1⟩)
          refine wpAnyH_take (i := 0) (oi := { dst := some 19, op := _, type := _, pos := _, after := _, guard := _ }) (v := ?_) rfl (by kernel_rfl) (by kernel_rfl) (by kernel_rfl) (fun _ _ _ h => absurd h.1 (by simp)) (Or.inl ⟨by rfl, ?_⟩) (by assumption) ?_
          rotate_left
          · intro w hSw
            (try dsimp only at hSw)
            go_simp
            (try (with_reducible rfl))
          try simp only [Act.put, List.setIfInBounds_toArray, List.set_cons_zero, List.set_cons_succ]
          refine wpAnyH_take (i := 1) (oi := { dst := some 20, op := _, type := _, pos := _, after := _, guard := _ }) (v := ?_) rfl (by kernel_rfl) (by kernel_rfl) (by kernel_rfl) (fun _ _ _ h => absurd h.1 (by simp)) (Or.inl ⟨by rfl, ?_⟩) (by assumption) ?_
          rotate_left
          · intro w hSw
            (try dsimp only at hSw)
            go_simp
            (try (with_reducible rfl))
          try simp only [Act.put, List.setIfInBounds_toArray, List.set_cons_zero, List.set_cons_succ]
          refine wpAnyH_take (i := 3) (oi := { dst := some 22, op := _, type := _, pos := _, after := _, guard := _ }) (v := ?_) rfl (by kernel_rfl) (by kernel_rfl) (by kernel_rfl) (fun _ _ _ h => absurd h.1 (by simp)) (Or.inl ⟨by rfl, ?_⟩) (by assumption) ?_
          rotate_left
          · intro w hSw
            (try dsimp only at hSw)
            go_simp
            (try (with_reducible rfl))
          try simp only [Act.put, List.setIfInBounds_toArray, List.set_cons_zero, List.set_cons_succ]
          refine wpAnyH_ready (rs := [2, 5]) (by kernel_rfl) (by simp) ?_
          refine AllReadyH.cons (o := { dst := some 21, op := _, type := _, pos := _, after := _, guard := _ }) rfl (fun K hK => ?_) (AllReadyH.cons (o := { dst := some 8, op := _, type := _, pos := _, after := _, guard := _ }) rfl (fun K hK => ?_) AllReadyH.nil)
          · go_simp
            refine (countsOf_any (P : Int) c h s a1 a2 n1 c1 n2 c2 xs ys _ h1 h2 (r1.below hbS) (r2.below hbS)).mono ?_
            rintro e wt0 ⟨B0, rfl, q1, q2, hbt0⟩
            have hz_hbt0 := hbt0.size
            replace hbS := chain hbS hbt0
            clear hbt0
            (try go_wp2_with fail)
            refine hK.out _ _ ⟨(BV.below hbS).four.1, (BV.below hbS).four.2.1, (BV.below hbS).four.2.2.1, (BV.below hbS).four.2.2.2.1, (BB.below hbS).two.1, (BB.below hbS).two.2.1, (BS.below hbS).four.1, (BS.below hbS).four.2.1, (BS.below hbS).four.2.2.1, (BS.below hbS).four.2.2.2.1, (BR.below hbS).two.1, (BR.below hbS).two.2.1⟩ (fun hHeld => ?_)
            clear hK K
            try simp only [Act.put, List.setIfInBounds_toArray, List.set_cons_zero, List.set_cons_succ]
            refine wpAnyH_ready (rs := [4, 5]) (by kernel_rfl) (by simp) ?_
            refine AllReadyH.cons (o := { dst := some 23, op := _, type := _, pos := _, after := _, guard := _ }) rfl (fun K hK => ?_) (AllReadyH.cons (o := { dst := some 8, op := _, type := _, pos := _, after := _, guard := _ }) rfl (fun K hK => ?_) AllReadyH.nil)
            · go_simp
              refine ((HM.out _ _ _ B0 q1 q2).mono fun e w h => BoardGot.of_made h).mono ?_
              rintro e wt1 ⟨d1, d2, k1, k2, rfl, hO, hbt1⟩
              replace q1 := q1.below hbt1
              replace q2 := q2.below hbt1
              have hz_hbt1 := hbt1.size
              replace hbS := chain hbS hbt1
              clear hbt1
              (try go_wp2_with fail)
              refine hK.out _ _ ⟨(BV.below hbS).four.1, (BV.below hbS).four.2.1, (BV.below hbS).four.2.2.1, (BV.below hbS).four.2.2.2.1, (BB.below hbS).two.1, (BB.below hbS).two.2.1, (BS.below hbS).four.1, (BS.below hbS).four.2.1, (BS.below hbS).four.2.2.1, (BS.below hbS).four.2.2.2.1, (BR.below hbS).two.1, (BR.below hbS).two.2.1⟩ (fun hHeld => ?_)
              clear hK K
              try simp only [Act.put, List.setIfInBounds_toArray, List.set_cons_zero, List.set_cons_succ]
              refine wpAnyH_ready (rs := [5]) (by kernel_rfl) (by simp) ?_
              refine AllReadyH.cons (o := { dst := some 8, op := _, type := _, pos := _, after := _, guard := _ }) rfl (fun K hK => ?_) AllReadyH.nil
              go_simp
              refine hK.out _ _ ⟨(BV.below (hbS.alloc hbS.size _)).four.1, (BV.below (hbS.alloc hbS.size _)).four.2.1, (BV.below (hbS.alloc hbS.size _)).four.2.2.1, (BV.below (hbS.alloc hbS.size _)).four.2.2.2.1, (BB.below (hbS.alloc hbS.size _)).two.1, (BB.below (hbS.alloc hbS.size _)).two.2.1, (BS.below (hbS.alloc hbS.size _)).four.1, (BS.below (hbS.alloc hbS.size _)).four.2.1, (BS.below (hbS.alloc hbS.size _)).four.2.2.1, (BS.below (hbS.alloc hbS.size _)).four.2.2.2.1, (BR.below (hbS.alloc hbS.size _)).two.1, (BR.below (hbS.alloc hbS.size _)).two.2.1⟩ (fun hHeld => ?_)
              clear hK K
              try simp only [Act.put, List.setIfInBounds_toArray, List.set_cons_zero, List.set_cons_succ]
              have BA := Blk.new wt1 #[.slice none 0 0, .slice none 0 0] 28
              have hal : Below wt1.heap.size wt1 (wt1.alloc (.cells #[.slice none 0 0, .slice none 0 0] 28)) := (Below.refl _ _).alloc (Nat.le_refl _) _
              have hlN : wt1.heap.size + 1 ≤ (wt1.alloc (.cells #[.slice none 0 0, .slice none 0 0] 28)).heap.size ∧ (wt1.alloc (.cells #[.slice none 0 0, .slice none 0 0] 28)).heap.size ≤ wt1.heap.size + 1 := by simp
              have hzS := hbS.size
              replace q1 := q1.below hal
              replace q2 := q2.below hal
              replace hO := hO.below hal
              replace hbS := chain hbS hal
              clear hal
              generalize wt1.alloc (.cells #[.slice none 0 0, .slice none 0 0] 28) = wN at *
              refine wpAnyH_ready (rs := [6]) (by kernel_rfl) (by simp) ?_
              refine AllReadyH.cons (o := { dst := none, op := _, type := _, pos := _, after := _, guard := _ }) rfl (fun K hK => ?_) AllReadyH.nil
              have q0 := BA.two.1
              have q1 := BA.two.2.1
              have qf := BA.two.2.2.1
              have ql := BA.two.2.2.2
              go_simp
              (try go_wp2_with fail)
              refine hK.out _ _ ⟨(BV.below (below2u BA hbS (by omega))).four.1, (BV.below (below2u BA hbS (by omega))).four.2.1, (BV.below (below2u BA hbS (by omega))).four.2.2.1, (BV.below (below2u BA hbS (by omega))).four.2.2.2.1, (BB.below (below2u BA hbS (by omega))).two.1, (BB.below (below2u BA hbS (by omega))).two.2.1, (BS.below (below2u BA hbS (by omega))).four.1, (BS.below (below2u BA hbS (by omega))).four.2.1, (BS.below (below2u BA hbS (by omega))).four.2.2.1, (BS.below (below2u BA hbS (by omega))).four.2.2.2.1, (BR.below (below2u BA hbS (by omega))).two.1, (BR.below (below2u BA hbS (by omega))).two.2.1⟩ (fun hHeld => ?_)
              clear hK K
              try simp only [Act.put, List.setIfInBounds_toArray, List.set_cons_zero, List.set_cons_succ]
              refine wpAnyH_done (by kernel_rfl) ?_ _
              rw [HJ.out]
              refine ⟨rfl, _, d1, d2, k1, k2, _, _, B0, ?_, VarB.stored BA hO ?_ ?_ ?_ ?_, below2u BA hbS (by omega)⟩
              · simp only [Act.put, List.setIfInBounds_toArray, List.set_cons_zero, List.set_cons_succ]
              all_goals (first | omega | (simp; omega))
            · go_simp
              refine hK.out _ _ ⟨(BV.below (hbS.alloc hbS.size _)).four.1, (BV.below (hbS.alloc hbS.size _)).four.2.1, (BV.below (hbS.alloc hbS.size _)).four.2.2.1, (BV.below (hbS.alloc hbS.size _)).four.2.2.2.1, (BB.below (hbS.alloc hbS.size _)).two.1, (BB.below (hbS.alloc hbS.size _)).two.2.1, (BS.below (hbS.alloc hbS.size _)).four.1, (BS.below (hbS.alloc hbS.size _)).four.2.1, (BS.below (hbS.alloc hbS.size _)).four.2.2.1, (BS.below (hbS.alloc hbS.size _)).four.2.2.2.1, (BR.below (hbS.alloc hbS.size _)).two.1, (BR.below (hbS.alloc hbS.size _)).two.2.1⟩ (fun hHeld => ?_)
              clear hK K
              try simp only [Act.put, List.setIfInBounds_toArray, List.set_cons_zero, List.set_cons_succ]
              have BA := Blk.new wt0 #[.slice none 0 0, .slice none 0 0] 28
              have hal : Below wt0.heap.size wt0 (wt0.alloc (.cells #[.slice none 0 0, .slice none 0 0] 28)) := (Below.refl _ _).alloc (Nat.le_refl _) _
              have hlN : wt0.heap.size + 1 ≤ (wt0.alloc (.cells #[.slice none 0 0, .slice none 0 0] 28)).heap.size ∧ (wt0.alloc (.cells #[.slice none 0 0, .slice none 0 0] 28)).heap.size ≤ wt0.heap.size + 1 := by simp
              have hzS := hbS.size
              replace q1 := q1.below hal
              replace q2 := q2.below hal
              replace hbS := chain hbS hal
              clear hal
              generalize wt0.alloc (.cells #[.slice none 0 0, .slice none 0 0] 28) = wN at *
              refine wpAnyH_ready (rs := [4]) (by kernel_rfl) (by simp) ?_
              refine AllReadyH.cons (o := { dst := some 23, op := _, type := _, pos := _, after := _, guard := _ }) rfl (fun K hK => ?_) AllReadyH.nil
              go_simp
              refine ((HM.out _ _ _ B0 q1 q2).mono fun e w h => BoardGot.of_made h).mono ?_
              rintro e wt1 ⟨d1, d2, k1, k2, rfl, hO, hbt1⟩
              replace q1 := q1.below hbt1
              replace q2 := q2.below hbt1
              replace BA := BA.below hbt1
              have hz_hbt1 := hbt1.size
              replace hbS := chain hbS hbt1
              clear hbt1
              (try go_wp2_with fail)
              refine hK.out _ _ ⟨(BV.below hbS).four.1, (BV.below hbS).four.2.1, (BV.below hbS).four.2.2.1, (BV.below hbS).four.2.2.2.1, (BB.below hbS).two.1, (BB.below hbS).two.2.1, (BS.below hbS).four.1, (BS.below hbS).four.2.1, (BS.below hbS).four.2.2.1, (BS.below hbS).four.2.2.2.1, (BR.below hbS).two.1, (BR.below hbS).two.2.1⟩ (fun hHeld => ?_)
              clear hK K
              try simp only [Act.put, List.setIfInBounds_toArray, List.set_cons_zero, List.set_cons_succ]
              refine wpAnyH_ready (rs := [6]) (by kernel_rfl) (by simp) ?_
              refine AllReadyH.cons (o := { dst := none, op := _, type := _, pos := _, after := _, guard := _ }) rfl (fun K hK => ?_) AllReadyH.nil
              have q0 := BA.two.1
              have q1 := BA.two.2.1
              have qf := BA.two.2.2.1
              have ql := BA.two.2.2.2
              go_simp
              (try go_wp2_with fail)
              refine hK.out _ _ ⟨(BV.below (below2u BA hbS (by omega))).four.1, (BV.below (below2u BA hbS (by omega))).four.2.1, (BV.below (below2u BA hbS (by omega))).four.2.2.1, (BV.below (below2u BA hbS (by omega))).four.2.2.2.1, (BB.below (below2u BA hbS (by omega))).two.1, (BB.below (below2u BA hbS (by omega))).two.2.1, (BS.below (below2u BA hbS (by omega))).four.1, (BS.below (below2u BA hbS (by omega))).four.2.1, (BS.below (below2u BA hbS (by omega))).four.2.2.1, (BS.below (below2u BA hbS (by omega))).four.2.2.2.1, (BR.below (below2u BA hbS (by omega))).two.1, (BR.below (below2u BA hbS (by omega))).two.2.1⟩ (fun hHeld => ?_)
              clear hK K
              try simp only [Act.put, List.setIfInBounds_toArray, List.set_cons_zero, List.set_cons_succ]
              refine wpAnyH_done (by kernel_rfl) ?_ _
              rw [HJ.out]
              refine ⟨rfl, _, d1, d2, k1, k2, _, _, B0, ?_, VarB.stored BA hO ?_ ?_ ?_ ?_, below2u BA hbS (by omega)⟩
              · simp only [Act.put, List.setIfInBounds_toArray, List.set_cons_zero, List.set_cons_succ]
              all_goals (first | omega | (simp; omega))
          · go_simp
            refine hK.out _ _ ⟨(BV.below (hbS.alloc hbS.size _)).four.1, (BV.below (hbS.alloc hbS.size _)).four.2.1, (BV.below (hbS.alloc hbS.size _)).four.2.2.1, (BV.below (hbS.alloc hbS.size _)).four.2.2.2.1, (BB.below (hbS.alloc hbS.size _)).two.1, (BB.below (hbS.alloc hbS.size _)).two.2.1, (BS.below (hbS.alloc hbS.size _)).four.1, (BS.below (hbS.alloc hbS.size _)).four.2.1, (BS.below (hbS.alloc hbS.size _)).four.2.2.1, (BS.below (hbS.alloc hbS.size _)).four.2.2.2.1, (BR.below (hbS.alloc hbS.size _)).two.1, (BR.below (hbS.alloc hbS.size _)).two.2.1⟩ (fun hHeld => ?_)
            clear hK K
            try simp only [Act.put, List.setIfInBounds_toArray, List.set_cons_zero, List.set_cons_succ]
            have BA := Blk.new vd #[.slice none 0 0, .slice none 0 0] 28
            have hal : Below vd.heap.size vd (vd.alloc (.cells #[.slice none 0 0, .slice none 0 0] 28)) := (Below.refl _ _).alloc (Nat.le_refl _) _
            have hlN : vd.heap.size + 1 ≤ (vd.alloc (.cells #[.slice none 0 0, .slice none 0 0] 28)).heap.size ∧ (vd.alloc (.cells #[.slice none 0 0, .slice none 0 0] 28)).heap.size ≤ vd.heap.size + 1 := by simp
            have hzS := hbS.size
            replace hbS := chain hbS hal
            clear hal
            generalize vd.alloc (.cells #[.slice none 0 0, .slice none 0 0] 28) = wN at *
            refine wpAnyH_ready (rs := [2]) (by kernel_rfl) (by simp) ?_
            refine AllReadyH.cons (o := { dst := some 21, op := _, type := _, pos := _, after := _, guard := _ }) rfl (fun K hK => ?_) AllReadyH.nil
            go_simp
            refine (countsOf_any (P : Int) c h s a1 a2 n1 c1 n2 c2 xs ys _ h1 h2 (r1.below hbS) (r2.below hbS)).mono ?_
            rintro e wt0 ⟨B0, rfl, q1, q2, hbt0⟩
            replace BA := BA.below hbt0
            have hz_hbt0 := hbt0.size
            replace hbS := chain hbS hbt0
            clear hbt0
            (try go_wp2_with fail)
            refine hK.out _ _ ⟨(BV.below hbS).four.1, (BV.below hbS).four.2.1, (BV.below hbS).four.2.2.1, (BV.below hbS).four.2.2.2.1, (BB.below hbS).two.1, (BB.below hbS).two.2.1, (BS.below hbS).four.1, (BS.below hbS).four.2.1, (BS.below hbS).four.2.2.1, (BS.below hbS).four.2.2.2.1, (BR.below hbS).two.1, (BR.below hbS).two.2.1⟩ (fun hHeld => ?_)
            clear hK K
            try simp only [Act.put, List.setIfInBounds_toArray, List.set_cons_zero, List.set_cons_succ]
            refine wpAnyH_ready (rs := [4]) (by kernel_rfl) (by simp) ?_
            refine AllReadyH.cons (o := { dst := some 23, op := _, type := _, pos := _, after := _, guard := _ }) rfl (fun K hK => ?_) AllReadyH.nil
            go_simp
            refine ((HM.out _ _ _ B0 q1 q2).mono fun e w h => BoardGot.of_made h).mono ?_
            rintro e wt1 ⟨d1, d2, k1, k2, rfl, hO, hbt1⟩
            replace q1 := q1.below hbt1
            replace q2 := q2.below hbt1
            replace BA := BA.below hbt1
            have hz_hbt1 := hbt1.size
            replace hbS := chain hbS hbt1
            clear hbt1
            (try go_wp2_with fail)
            refine hK.out _ _ ⟨(BV.below hbS).four.1, (BV.below hbS).four.2.1, (BV.below hbS).four.2.2.1, (BV.below hbS).four.2.2.2.1, (BB.below hbS).two.1, (BB.below hbS).two.2.1, (BS.below hbS).four.1, (BS.below hbS).four.2.1, (BS.below hbS).four.2.2.1, (BS.below hbS).four.2.2.2.1, (BR.below hbS).two.1, (BR.below hbS).two.2.1⟩ (fun hHeld => ?_)
            clear hK K
            try simp only [Act.put, List.setIfInBounds_toArray, List.set_cons_zero, List.set_cons_succ]
            refine wpAnyH_ready (rs := [6]) (by kernel_rfl) (by simp) ?_
            refine AllReadyH.cons (o := { dst := none, op := _, type := _, pos := _, after := _, guard := _ }) rfl (fun K hK => ?_) AllReadyH.nil
            have q0 := BA.two.1
            have q1 := BA.two.2.1
            have qf := BA.two.2.2.1
            have ql := BA.two.2.2.2
            go_simp
            (try go_wp2_with fail)
            refine hK.out _ _ ⟨(BV.below (below2u BA hbS (by omega))).four.1, (BV.below (below2u BA hbS (by omega))).four.2.1, (BV.below (below2u BA hbS (by omega))).four.2.2.1, (BV.below (below2u BA hbS (by omega))).four.2.2.2.1, (BB.below (below2u BA hbS (by omega))).two.1, (BB.below (below2u BA hbS (by omega))).two.2.1, (BS.below (below2u BA hbS (by omega))).four.1, (BS.below (below2u BA hbS (by omega))).four.2.1, (BS.below (below2u BA hbS (by omega))).four.2.2.1, (BS.below (below2u BA hbS (by omega))).four.2.2.2.1, (BR.below (below2u BA hbS (by omega))).two.1, (BR.below (below2u BA hbS (by omega))).two.2.1⟩ (fun hHeld => ?_)
            clear hK K
            try simp only [Act.put, List.setIfInBounds_toArray, List.set_cons_zero, List.set_cons_succ]
            refine wpAnyH_done (by kernel_rfl) ?_ _
            rw [HJ.out]
            refine ⟨rfl, _, d1, d2, k1, k2, _, _, B0, ?_, VarB.stored BA hO ?_ ?_ ?_ ?_, below2u BA hbS (by omega)⟩
            · simp only [Act.put, List.setIfInBounds_toArray, List.set_cons_zero, List.set_cons_succ]
            all_goals (first | omega | (simp; omega))
        · intro a' w1 hj
          rw [HJ.out] at hj
          clear HJ
          obtain ⟨BV0, d1V0, d2V0, k1V0, k2V0, loV0, hiV0, B0V0, rfl, V0, hbS⟩ := hj
          try simp only [Act.put, List.setIfInBounds_toArray, List.set_cons_zero, List.set_cons_succ]
          replace BV := BV.below hbS
          replace BB := BB.below hbS
          replace BS := BS.below hbS
          replace BR := BR.below hbS
          have hz1 := hbS.size
          replace hb := chain hb hbS
          clear hbS
          have e1V0 := V0.2.2.1
          have e2V0 := V0.2.2.2.1
          have e3V0 := V0.2.2.2.2.1
          have e4V0 := V0.2.2.2.2.2
          have e5V0 := V0.1.lt
          obtain ⟨q0_BV, q1_BV, q2_BV, q3_BV, qf_BV, ql_BV⟩ := BV.four
          obtain ⟨q0_BB, q1_BB, qf_BB, ql_BB⟩ := BB.two
          obtain ⟨q0_BS, q1_BS, q2_BS, q3_BS, qf_BS, ql_BS⟩ := BS.four
          obtain ⟨q0_BR, q1_BR, qf_BR, ql_BR⟩ := BR.two
          obtain ⟨q0_V0_1, q1_V0_1, qf_V0_1, ql_V0_1⟩ := V0.1.two
          go_wp2_with (go_at_call 18; refine (HI.out _ _ _ _ _ V0.2.1.irow1 V0.2.1.irow2).mono ?_; rintro e w9 ⟨rfl, hb9⟩; obtain ⟨u0, u1, uf, ul⟩ := (BR.below hb9).two; obtain ⟨v0, v1, vf, vl⟩ := (V0.below hb9).1.two)
          have hOz := (V0.below hb9).2.1
          have hszw := hb9.size
          refine bodyPost_ret (v := .tuple #[.agg #[.slice d1V0 X.length k1V0, .slice d2V0 Y.length k2V0], .int .i64 0]) (by first | (simp [results, Try.results19, go_sem, u0, u1]; done) | (simp [results, Try.results19, go_sem, *]; done)) rfl ?_
          refine ⟨d1V0, d2V0, k1V0, k2V0, rfl, ?_, ((chain hb hb9).setCell (by simp; omega) _).setCell (by simp; omega) _⟩
          rcases hOz with h | ⟨g1, g2, e1, e2, hne, b1, b2, b3, b4, q1, q2⟩
          · exact .inl h
          · exact .inr ⟨g1, g2, e1, e2, hne, by omega, by simpa using q1.lt, by omega, by simpa using q2.lt, (q1.other (by omega)).other (by omega), (q2.other (by omega)).other (by omega)⟩
      | false =>
        rw [if_neg (by simp), if_neg (by simp), if_neg (by simp)]
        rw [gl] at hi0
        have HI := Lib.hid hi0
        clear hp0 hm0 hX hY gp gl hi0
        obtain ⟨BV, BB, BS, BR, hb, hz⟩ := four_new w #[.int .i64 (P : Int), .int .i64 c, .int .i64 h, .int .i64 s] #[.slice a1 n1 c1, .slice a2 n2 c2] #[.int .i64 ta, .int .i64 tb, .int .i64 td, .bool tq] #[.slice none 0 0, .slice none 0 0] 25 28 30 28
        obtain ⟨x0, x1, x2, x3, xf, xl⟩ := BV.four
        obtain ⟨y0, y1, yf, yl⟩ := BB.two
        obtain ⟨s0, s1, s2, s3, sf, sl⟩ := BS.four
        obtain ⟨u0, u1, uf, ul⟩ := BR.two
        go_enter Try.func19, Try.ntmps19
        go_wp2_with (first | (go_at_call 57; refine (HB.out _ (r1.below hb) (r2.below hb)).mono ?_; rintro e w1 ⟨rfl, hb1⟩; obtain ⟨x0, x1, x2, x3, xf, xl⟩ := (BV.below hb1).four; obtain ⟨y0, y1, yf, yl⟩ := (BB.below hb1).two; obtain ⟨s0, s1, s2, s3, sf, sl⟩ := (BS.below hb1).four; obtain ⟨u0, u1, uf, ul⟩ := (BR.below hb1).two) | (go_at_call 63; refine (HPL.out _).mono ?_; rintro e w2 ⟨rfl, hb2⟩; obtain ⟨x0, x1, x2, x3, xf, xl⟩ := (BV.below (chain hb1 hb2)).four; obtain ⟨y0, y1, yf, yl⟩ := (BB.below (chain hb1 hb2)).two; obtain ⟨s0, s1, s2, s3, sf, sl⟩ := (BS.below (chain hb1 hb2)).four; obtain ⟨u0, u1, uf, ul⟩ := (BR.below (chain hb1 hb2)).two))
        clear x0 x1 x2 x3 xf xl y0 y1 yf yl s0 s1 s2 s3 sf sl u0 u1 uf ul hz HPL HB
        replace BV := BV.below (chain hb1 hb2)
        replace BB := BB.below (chain hb1 hb2)
        replace BS := BS.below (chain hb1 hb2)
        replace BR := BR.below (chain hb1 hb2)
        replace hb := chain hb (chain hb1 hb2)
        clear hb1 hb2
        replace r1 := r1.below hb
        replace r2 := r2.below hb
        have hlR := BR.lt
        obtain ⟨J, hJ⟩ : ∃ J : Act → Act → World → Prop, J = fun a a' w' => ∃ B d1 d2 k1 k2 lo hi B0, a' = ((((((a.put (some 19) (.agg #[.int .i64 (P : Int), .int .i64 c, .int .i64 h, .int .i64 s])).put (some 20) (.agg #[.slice a1 n1 c1, .slice a2 n2 c2])).put (some 21) (tv (P : Int) 97 98 B0)).put (some 22) (.agg #[.int .i64 ta, .int .i64 tb, .int .i64 td, .bool tq])).put (some 23) (.agg #[.slice d1 X.length k1, .slice d2 Y.length k2])).put (some 8) (.pointer (some ⟨B, 0, none⟩))) ∧ VarB w2.heap.size w' B d1 d2 X.length Y.length k1 k2 lo hi X Y ∧ Below w2.heap.size w2 w' := ⟨_, rfl⟩
        have HJ := Lib.hid hJ
        clear hJ
        refine wp_region_join J ?_ ?_
        · skip
          refine wp_region_held_drew (S := fun w' => w'.cell? ⟨w.heap.size, 0, none⟩ = some (.int .i64 (P : Int)) ∧ w'.cell? ⟨w.heap.size, 1, none⟩ = some (.int .i64 c) ∧ w'.cell? ⟨w.heap.size, 2, none⟩ = some (.int .i64 h) ∧ w'.cell? ⟨w.heap.size, 3, none⟩ = some (.int .i64 s) ∧ w'.cell? ⟨(w.heap.size + 1), 0, none⟩ = some (.slice a1 n1 c1) ∧ w'.cell? ⟨(w.heap.size + 1), 1, none⟩ = some (.slice a2 n2 c2) ∧ w'.cell? ⟨(w.heap.size + 1 + 1), 0, none⟩ = some (.int .i64 ta) ∧ w'.cell? ⟨(w.heap.size + 1 + 1), 1, none⟩ = some (.int .i64 tb) ∧ w'.cell? ⟨(w.heap.size + 1 + 1), 2, none⟩ = some (.int .i64 td) ∧ w'.cell? ⟨(w.heap.size + 1 + 1), 3, none⟩ = some (.bool tq) ∧ w'.cell? ⟨(w.heap.size + 1 + 1 + 1), 0, none⟩ = some (.slice none 0 0) ∧ w'.cell? ⟨(w.heap.size + 1 + 1 + 1), 1, none⟩ = some (.slice none 0 0)) (by kernel_rfl) ⟨(BV.below (Below.refl _ _).drew).four.1, (BV.below (Below.refl _ _).drew).four.2.1, (BV.below (Below.refl _ _).drew).four.2.2.1, (BV.below (Below.refl _ _).drew).four.2.2.2.1, (BB.below (Below.refl _ _).drew).two.1, (BB.below (Below.refl _ _).drew).two.2.1, (BS.below (Below.refl _ _).drew).four.1, (BS.below (Below.refl _ _).drew).four.2.1, (BS.below (Below.refl _ _).drew).four.2.2.1, (BS.below (Below.refl _ _).drew).four.2.2.2.1, (BR.below (Below.refl _ _).drew).two.1, (BR.below (Below.refl _ _).drew).two.2.1⟩ (fun hHeld => ?_)
          clear hHeld
          have hbS : Below w2.heap.size w2 w2.drew := (Below.refl _ _).drew
          have hzd := hbS.size
          generalize w2.drew = vd at *
          have hHeld := (show vd.cell? ⟨w.heap.size, 0, none⟩ = some (.int .i64 (P : Int)) ∧ vd.cell? ⟨w.heap.size, 1, none⟩ = some (.int .i64 c) ∧ vd.cell? ⟨w.heap.size, 2, none⟩ = some (.int .i64 h) ∧ vd.cell? ⟨w.heap.size, 3, none⟩ = some (.int .i64 s) ∧ vd.cell? ⟨(w.heap.size + 1), 0, none⟩ = some (.slice a1 n1 c1) ∧ vd.cell? ⟨(w.heap.size + 1), 1, none⟩ = some (.slice a2 n2 c2) ∧ vd.cell? ⟨(w.heap.size + 1 + 1), 0, none⟩ = some (.int .i64 ta) ∧ vd.cell? ⟨(w.heap.size + 1 + 1), 1, none⟩ = some (.int .i64 tb) ∧ vd.cell? ⟨(w.heap.size + 1 + 1), 2, none⟩ = some (.int .i64 td) ∧ vd.cell? ⟨(w.heap.size + 1 + 1), 3, none⟩ = some (.bool tq) ∧ vd.cell? ⟨(w.heap.size + 1 + 1 + 1), 0, none⟩ = some (.slice none 0 0) ∧ vd.cell? ⟨(w.heap.size + 1 + 1 + 1), 1, none⟩ = some (.slice none 0 0) from ⟨(BV.below hbS).four.1, (BV.below hbS).four.2.1, (BV.below hbS).four.2.2.1, (BV.below hbS).four.2.2.2.1, (BB.below hbS).two.1, (BB.below hbS).two.2.1, (BS.below hbS).four.1, (BS.below hbS).four.2.1, (BS.below hbS).four.2.2.1, (BS.below hbS).four.2.2.2.1, (BR.below hbS).two.1, (BR.below hbS).two.2.1⟩)
          refine wpAnyH_take (i := 0) (oi := { dst := some 19, op := _, type := _, pos := _, after := _, guard := _ }) (v := ?_) rfl (by kernel_rfl) (by kernel_rfl) (by kernel_rfl) (fun _ _ _ h => absurd h.1 (by simp)) (Or.inl ⟨by rfl, ?_⟩) (by assumption) ?_
          rotate_left
          · intro w hSw
            (try dsimp only at hSw)
            go_simp
            (try (with_reducible rfl))
          try simp only [Act.put, List.setIfInBounds_toArray, List.set_cons_zero, List.set_cons_succ]
          refine wpAnyH_take (i := 1) (oi := { dst := some 20, op := _, type := _, pos := _, after := _, guard := _ }) (v := ?_) rfl (by kernel_rfl) (by kernel_rfl) (by kernel_rfl) (fun _ _ _ h => absurd h.1 (by simp)) (Or.inl ⟨by rfl, ?_⟩) (by assumption) ?_
          rotate_left
          · intro w hSw
            (try dsimp only at hSw)
            go_simp
            (try (with_reducible rfl))
          try simp only [Act.put, List.setIfInBounds_toArray, List.set_cons_zero, List.set_cons_succ]
          refine wpAnyH_take (i := 3) (oi := { dst := some 22, op := _, type := _, pos := _, after := _, guard := _ }) (v := ?_) rfl (by kernel_rfl) (by kernel_rfl) (by kernel_rfl) (fun _ _ _ h => absurd h.1 (by simp)) (Or.inl ⟨by rfl, ?_⟩) (by assumption) ?_
          rotate_left
          · intro w hSw
            (try dsimp only at hSw)
            go_simp
            (try (with_reducible rfl))
          try simp only [Act.put, List.setIfInBounds_toArray, List.set_cons_zero, List.set_cons_succ]
          refine wpAnyH_ready (rs := [2, 5]) (by kernel_rfl) (by simp) ?_
          refine AllReadyH.cons (o := { dst := some 21, op := _, type := _, pos := _, after := _, guard := _ }) rfl (fun K hK => ?_) (AllReadyH.cons (o := { dst := some 8, op := _, type := _, pos := _, after := _, guard := _ }) rfl (fun K hK => ?_) AllReadyH.nil)
          · go_simp
            refine (countsOf_any (P : Int) c h s a1 a2 n1 c1 n2 c2 xs ys _ h1 h2 (r1.below hbS) (r2.below hbS)).mono ?_
            rintro e wt0 ⟨B0, rfl, q1, q2, hbt0⟩
            have hz_hbt0 := hbt0.size
            replace hbS := chain hbS hbt0
            clear hbt0
            (try go_wp2_with fail)
            refine hK.out _ _ ⟨(BV.below hbS).four.1, (BV.below hbS).four.2.1, (BV.below hbS).four.2.2.1, (BV.below hbS).four.2.2.2.1, (BB.below hbS).two.1, (BB.below hbS).two.2.1, (BS.below hbS).four.1, (BS.below hbS).four.2.1, (BS.below hbS).four.2.2.1, (BS.below hbS).four.2.2.2.1, (BR.below hbS).two.1, (BR.below hbS).two.2.1⟩ (fun hHeld => ?_)
            clear hK K
            try simp only [Act.put, List.setIfInBounds_toArray, List.set_cons_zero, List.set_cons_succ]
            refine wpAnyH_ready (rs := [4, 5]) (by kernel_rfl) (by simp) ?_
            refine AllReadyH.cons (o := { dst := some 23, op := _, type := _, pos := _, after := _, guard := _ }) rfl (fun K hK => ?_) (AllReadyH.cons (o := { dst := some 8, op := _, type := _, pos := _, after := _, guard := _ }) rfl (fun K hK => ?_) AllReadyH.nil)
            · go_simp
              refine ((HM.out _ _ _ B0 q1 q2).mono fun e w h => BoardGot.of_made h).mono ?_
              rintro e wt1 ⟨d1, d2, k1, k2, rfl, hO, hbt1⟩
              replace q1 := q1.below hbt1
              replace q2 := q2.below hbt1
              have hz_hbt1 := hbt1.size
              replace hbS := chain hbS hbt1
              clear hbt1
              (try go_wp2_with fail)
              refine hK.out _ _ ⟨(BV.below hbS).four.1, (BV.below hbS).four.2.1, (BV.below hbS).four.2.2.1, (BV.below hbS).four.2.2.2.1, (BB.below hbS).two.1, (BB.below hbS).two.2.1, (BS.below hbS).four.1, (BS.below hbS).four.2.1, (BS.below hbS).four.2.2.1, (BS.below hbS).four.2.2.2.1, (BR.below hbS).two.1, (BR.below hbS).two.2.1⟩ (fun hHeld => ?_)
              clear hK K
              try simp only [Act.put, List.setIfInBounds_toArray, List.set_cons_zero, List.set_cons_succ]
              refine wpAnyH_ready (rs := [5]) (by kernel_rfl) (by simp) ?_
              refine AllReadyH.cons (o := { dst := some 8, op := _, type := _, pos := _, after := _, guard := _ }) rfl (fun K hK => ?_) AllReadyH.nil
              go_simp
              refine hK.out _ _ ⟨(BV.below (hbS.alloc hbS.size _)).four.1, (BV.below (hbS.alloc hbS.size _)).four.2.1, (BV.below (hbS.alloc hbS.size _)).four.2.2.1, (BV.below (hbS.alloc hbS.size _)).four.2.2.2.1, (BB.below (hbS.alloc hbS.size _)).two.1, (BB.below (hbS.alloc hbS.size _)).two.2.1, (BS.below (hbS.alloc hbS.size _)).four.1, (BS.below (hbS.alloc hbS.size _)).four.2.1, (BS.below (hbS.alloc hbS.size _)).four.2.2.1, (BS.below (hbS.alloc hbS.size _)).four.2.2.2.1, (BR.below (hbS.alloc hbS.size _)).two.1, (BR.below (hbS.alloc hbS.size _)).two.2.1⟩ (fun hHeld => ?_)
              clear hK K
              try simp only [Act.put, List.setIfInBounds_toArray, List.set_cons_zero, List.set_cons_succ]
              have BA := Blk.new wt1 #[.slice none 0 0, .slice none 0 0] 28
              have hal : Below wt1.heap.size wt1 (wt1.alloc (.cells #[.slice none 0 0, .slice none 0 0] 28)) := (Below.refl _ _).alloc (Nat.le_refl _) _
              have hlN : wt1.heap.size + 1 ≤ (wt1.alloc (.cells #[.slice none 0 0, .slice none 0 0] 28)).heap.size ∧ (wt1.alloc (.cells #[.slice none 0 0, .slice none 0 0] 28)).heap.size ≤ wt1.heap.size + 1 := by simp
              have hzS := hbS.size
              replace q1 := q1.below hal
              replace q2 := q2.below hal
              replace hO := hO.below hal
              replace hbS := chain hbS hal
              clear hal
              generalize wt1.alloc (.cells #[.slice none 0 0, .slice none 0 0] 28) = wN at *
              refine wpAnyH_ready (rs := [6]) (by kernel_rfl) (by simp) ?_
              refine AllReadyH.cons (o := { dst := none, op := _, type := _, pos := _, after := _, guard := _ }) rfl (fun K hK => ?_) AllReadyH.nil
              have q0 := BA.two.1
              have q1 := BA.two.2.1
              have qf := BA.two.2.2.1
              have ql := BA.two.2.2.2
              go_simp
              (try go_wp2_with fail)
              refine hK.out _ _ ⟨(BV.below (below2u BA hbS (by omega))).four.1, (BV.below (below2u BA hbS (by omega))).four.2.1, (BV.below (below2u BA hbS (by omega))).four.2.2.1, (BV.below (below2u BA hbS (by omega))).four.2.2.2.1, (BB.below (below2u BA hbS (by omega))).two.1, (BB.below (below2u BA hbS (by omega))).two.2.1, (BS.below (below2u BA hbS (by omega))).four.1, (BS.below (below2u BA hbS (by omega))).four.2.1, (BS.below (below2u BA hbS (by omega))).four.2.2.1, (BS.below (below2u BA hbS (by omega))).four.2.2.2.1, (BR.below (below2u BA hbS (by omega))).two.1, (BR.below (below2u BA hbS (by omega))).two.2.1⟩ (fun hHeld => ?_)
              clear hK K
              try simp only [Act.put, List.setIfInBounds_toArray, List.set_cons_zero, List.set_cons_succ]
              refine wpAnyH_done (by kernel_rfl) ?_ _
              rw [HJ.out]
              refine ⟨rfl, _, d1, d2, k1, k2, _, _, B0, ?_, VarB.stored BA hO ?_ ?_ ?_ ?_, below2u BA hbS (by omega)⟩
              · simp only [Act.put, List.setIfInBounds_toArray, List.set_cons_zero, List.set_cons_succ]
              all_goals (first | omega | (simp; omega))
            · go_simp
              refine hK.out _ _ ⟨(BV.below (hbS.alloc hbS.size _)).four.1, (BV.below (hbS.alloc hbS.size _)).four.2.1, (BV.below (hbS.alloc hbS.size _)).four.2.2.1, (BV.below (hbS.alloc hbS.size _)).four.2.2.2.1, (BB.below (hbS.alloc hbS.size _)).two.1, (BB.below (hbS.alloc hbS.size _)).two.2.1, (BS.below (hbS.alloc hbS.size _)).four.1, (BS.below (hbS.alloc hbS.size _)).four.2.1, (BS.below (hbS.alloc hbS.size _)).four.2.2.1, (BS.below (hbS.alloc hbS.size _)).four.2.2.2.1, (BR.below (hbS.alloc hbS.size _)).two.1, (BR.below (hbS.alloc hbS.size _)).two.2.1⟩ (fun hHeld => ?_)
              clear hK K
              try simp only [Act.put, List.setIfInBounds_toArray, List.set_cons_zero, List.set_cons_succ]
              have BA := Blk.new wt0 #[.slice none 0 0, .slice none 0 0] 28
              have hal : Below wt0.heap.size wt0 (wt0.alloc (.cells #[.slice none 0 0, .slice none 0 0] 28)) := (Below.refl _ _).alloc (Nat.le_refl _) _
              have hlN : wt0.heap.size + 1 ≤ (wt0.alloc (.cells #[.slice none 0 0, .slice none 0 0] 28)).heap.size ∧ (wt0.alloc (.cells #[.slice none 0 0, .slice none 0 0] 28)).heap.size ≤ wt0.heap.size + 1 := by simp
              have hzS := hbS.size
              replace q1 := q1.below hal
              replace q2 := q2.below hal
              replace hbS := chain hbS hal
              clear hal
              generalize wt0.alloc (.cells #[.slice none 0 0, .slice none 0 0] 28) = wN at *
              refine wpAnyH_ready (rs := [4]) (by kernel_rfl) (by simp) ?_
              refine AllReadyH.cons (o := { dst := some 23, op := _, type := _, pos := _, after := _, guard := _ }) rfl (fun K hK => ?_) AllReadyH.nil
              go_simp
              refine ((HM.out _ _ _ B0 q1 q2).mono fun e w h => BoardGot.of_made h).mono ?_
              rintro e wt1 ⟨d1, d2, k1, k2, rfl, hO, hbt1⟩
              replace q1 := q1.below hbt1
              replace q2 := q2.below hbt1
              replace BA := BA.below hbt1
              have hz_hbt1 := hbt1.size
              replace hbS := chain hbS hbt1
              clear hbt1
              (try go_wp2_with fail)
              refine hK.out _ _ ⟨(BV.below hbS).four.1, (BV.below hbS).four.2.1, (BV.below hbS).four.2.2.1, (BV.below hbS).four.2.2.2.1, (BB.below hbS).two.1, (BB.below hbS).two.2.1, (BS.below hbS).four.1, (BS.below hbS).four.2.1, (BS.below hbS).four.2.2.1, (BS.below hbS).four.2.2.2.1, (BR.below hbS).two.1, (BR.below hbS).two.2.1⟩ (fun hHeld => ?_)
              clear hK K
              try simp only [Act.put, List.setIfInBounds_toArray, List.set_cons_zero, List.set_cons_succ]
              refine wpAnyH_ready (rs := [6]) (by kernel_rfl) (by simp) ?_
              refine AllReadyH.cons (o := { dst := none, op := _, type := _, pos := _, after := _, guard := _ }) rfl (fun K hK => ?_) AllReadyH.nil
              have q0 := BA.two.1
              have q1 := BA.two.2.1
              have qf := BA.two.2.2.1
              have ql := BA.two.2.2.2
              go_simp
              (try go_wp2_with fail)
              refine hK.out _ _ ⟨(BV.below (below2u BA hbS (by omega))).four.1, (BV.below (below2u BA hbS (by omega))).four.2.1, (BV.below (below2u BA hbS (by omega))).four.2.2.1, (BV.below (below2u BA hbS (by omega))).four.2.2.2.1, (BB.below (below2u BA hbS (by omega))).two.1, (BB.below (below2u BA hbS (by omega))).two.2.1, (BS.below (below2u BA hbS (by omega))).four.1, (BS.below (below2u BA hbS (by omega))).four.2.1, (BS.below (below2u BA hbS (by omega))).four.2.2.1, (BS.below (below2u BA hbS (by omega))).four.2.2.2.1, (BR.below (below2u BA hbS (by omega))).two.1, (BR.below (below2u BA hbS (by omega))).two.2.1⟩ (fun hHeld => ?_)
              clear hK K
              try simp only [Act.put, List.setIfInBounds_toArray, List.set_cons_zero, List.set_cons_succ]
              refine wpAnyH_done (by kernel_rfl) ?_ _
              rw [HJ.out]
              refine ⟨rfl, _, d1, d2, k1, k2, _, _, B0, ?_, VarB.stored BA hO ?_ ?_ ?_ ?_, below2u BA hbS (by omega)⟩
              · simp only [Act.put, List.setIfInBounds_toArray, List.set_cons_zero, List.set_cons_succ]
              all_goals (first | omega | (simp; omega))
          · go_simp
            refine hK.out _ _ ⟨(BV.below (hbS.alloc hbS.size _)).four.1, (BV.below (hbS.alloc hbS.size _)).four.2.1, (BV.below (hbS.alloc hbS.size _)).four.2.2.1, (BV.below (hbS.alloc hbS.size _)).four.2.2.2.1, (BB.below (hbS.alloc hbS.size _)).two.1, (BB.below (hbS.alloc hbS.size _)).two.2.1, (BS.below (hbS.alloc hbS.size _)).four.1, (BS.below (hbS.alloc hbS.size _)).four.2.1, (BS.below (hbS.alloc hbS.size _)).four.2.2.1, (BS.below (hbS.alloc hbS.size _)).four.2.2.2.1, (BR.below (hbS.alloc hbS.size _)).two.1, (BR.below (hbS.alloc hbS.size _)).two.2.1⟩ (fun hHeld => ?_)
            clear hK K
            try simp only [Act.put, List.setIfInBounds_toArray, List.set_cons_zero, List.set_cons_succ]
            have BA := Blk.new vd #[.slice none 0 0, .slice none 0 0] 28
            have hal : Below vd.heap.size vd (vd.alloc (.cells #[.slice none 0 0, .slice none 0 0] 28)) := (Below.refl _ _).alloc (Nat.le_refl _) _
            have hlN : vd.heap.size + 1 ≤ (vd.alloc (.cells #[.slice none 0 0, .slice none 0 0] 28)).heap.size ∧ (vd.alloc (.cells #[.slice none 0 0, .slice none 0 0] 28)).heap.size ≤ vd.heap.size + 1 := by simp
            have hzS := hbS.size
            replace hbS := chain hbS hal
            clear hal
            generalize vd.alloc (.cells #[.slice none 0 0, .slice none 0 0] 28) = wN at *
            refine wpAnyH_ready (rs := [2]) (by kernel_rfl) (by simp) ?_
            refine AllReadyH.cons (o := { dst := some 21, op := _, type := _, pos := _, after := _, guard := _ }) rfl (fun K hK => ?_) AllReadyH.nil
            go_simp
            refine (countsOf_any (P : Int) c h s a1 a2 n1 c1 n2 c2 xs ys _ h1 h2 (r1.below hbS) (r2.below hbS)).mono ?_
            rintro e wt0 ⟨B0, rfl, q1, q2, hbt0⟩
            replace BA := BA.below hbt0
            have hz_hbt0 := hbt0.size
            replace hbS := chain hbS hbt0
            clear hbt0
            (try go_wp2_with fail)
            refine hK.out _ _ ⟨(BV.below hbS).four.1, (BV.below hbS).four.2.1, (BV.below hbS).four.2.2.1, (BV.below hbS).four.2.2.2.1, (BB.below hbS).two.1, (BB.below hbS).two.2.1, (BS.below hbS).four.1, (BS.below hbS).four.2.1, (BS.below hbS).four.2.2.1, (BS.below hbS).four.2.2.2.1, (BR.below hbS).two.1, (BR.below hbS).two.2.1⟩ (fun hHeld => ?_)
            clear hK K
            try simp only [Act.put, List.setIfInBounds_toArray, List.set_cons_zero, List.set_cons_succ]
            refine wpAnyH_ready (rs := [4]) (by kernel_rfl) (by simp) ?_
            refine AllReadyH.cons (o := { dst := some 23, op := _, type := _, pos := _, after := _, guard := _ }) rfl (fun K hK => ?_) AllReadyH.nil
            go_simp
            refine ((HM.out _ _ _ B0 q1 q2).mono fun e w h => BoardGot.of_made h).mono ?_
            rintro e wt1 ⟨d1, d2, k1, k2, rfl, hO, hbt1⟩
            replace q1 := q1.below hbt1
            replace q2 := q2.below hbt1
            replace BA := BA.below hbt1
            have hz_hbt1 := hbt1.size
            replace hbS := chain hbS hbt1
            clear hbt1
            (try go_wp2_with fail)
            refine hK.out _ _ ⟨(BV.below hbS).four.1, (BV.below hbS).four.2.1, (BV.below hbS).four.2.2.1, (BV.below hbS).four.2.2.2.1, (BB.below hbS).two.1, (BB.below hbS).two.2.1, (BS.below hbS).four.1, (BS.below hbS).four.2.1, (BS.below hbS).four.2.2.1, (BS.below hbS).four.2.2.2.1, (BR.below hbS).two.1, (BR.below hbS).two.2.1⟩ (fun hHeld => ?_)
            clear hK K
            try simp only [Act.put, List.setIfInBounds_toArray, List.set_cons_zero, List.set_cons_succ]
            refine wpAnyH_ready (rs := [6]) (by kernel_rfl) (by simp) ?_
            refine AllReadyH.cons (o := { dst := none, op := _, type := _, pos := _, after := _, guard := _ }) rfl (fun K hK => ?_) AllReadyH.nil
            have q0 := BA.two.1
            have q1 := BA.two.2.1
            have qf := BA.two.2.2.1
            have ql := BA.two.2.2.2
            go_simp
            (try go_wp2_with fail)
            refine hK.out _ _ ⟨(BV.below (below2u BA hbS (by omega))).four.1, (BV.below (below2u BA hbS (by omega))).four.2.1, (BV.below (below2u BA hbS (by omega))).four.2.2.1, (BV.below (below2u BA hbS (by omega))).four.2.2.2.1, (BB.below (below2u BA hbS (by omega))).two.1, (BB.below (below2u BA hbS (by omega))).two.2.1, (BS.below (below2u BA hbS (by omega))).four.1, (BS.below (below2u BA hbS (by omega))).four.2.1, (BS.below (below2u BA hbS (by omega))).four.2.2.1, (BS.below (below2u BA hbS (by omega))).four.2.2.2.1, (BR.below (below2u BA hbS (by omega))).two.1, (BR.below (below2u BA hbS (by omega))).two.2.1⟩ (fun hHeld => ?_)
            clear hK K
            try simp only [Act.put, List.setIfInBounds_toArray, List.set_cons_zero, List.set_cons_succ]
            refine wpAnyH_done (by kernel_rfl) ?_ _
            rw [HJ.out]
            refine ⟨rfl, _, d1, d2, k1, k2, _, _, B0, ?_, VarB.stored BA hO ?_ ?_ ?_ ?_, below2u BA hbS (by omega)⟩
            · simp only [Act.put, List.setIfInBounds_toArray, List.set_cons_zero, List.set_cons_succ]
            all_goals (first | omega | (simp; omega))
        · intro a' w1 hj
          rw [HJ.out] at hj
          clear HJ
          obtain ⟨BV0, d1V0, d2V0, k1V0, k2V0, loV0, hiV0, B0V0, rfl, V0, hbS⟩ := hj
          try simp only [Act.put, List.setIfInBounds_toArray, List.set_cons_zero, List.set_cons_succ]
          replace BV := BV.below hbS
          replace BB := BB.below hbS
          replace BS := BS.below hbS
          replace BR := BR.below hbS
          have hz1 := hbS.size
          replace hb := chain hb hbS
          clear hbS
          have e1V0 := V0.2.2.1
          have e2V0 := V0.2.2.2.1
          have e3V0 := V0.2.2.2.2.1
          have e4V0 := V0.2.2.2.2.2
          have e5V0 := V0.1.lt
          obtain ⟨q0_BV, q1_BV, q2_BV, q3_BV, qf_BV, ql_BV⟩ := BV.four
          obtain ⟨q0_BB, q1_BB, qf_BB, ql_BB⟩ := BB.two
          obtain ⟨q0_BS, q1_BS, q2_BS, q3_BS, qf_BS, ql_BS⟩ := BS.four
          obtain ⟨q0_BR, q1_BR, qf_BR, ql_BR⟩ := BR.two
          obtain ⟨q0_V0_1, q1_V0_1, qf_V0_1, ql_V0_1⟩ := V0.1.two
          go_wp2_with (go_at_call 18; refine (HI.out _ _ _ _ _ V0.2.1.irow1 V0.2.1.irow2).mono ?_; rintro e w9 ⟨rfl, hb9⟩; obtain ⟨u0, u1, uf, ul⟩ := (BR.below hb9).two)
          refine bodyPost_ret (v := .tuple #[.agg #[.slice none 0 0, .slice none 0 0], .int .i64 4]) (by first | (simp [results, Try.results19, go_sem, u0, u1]; done) | (simp [results, Try.results19, go_sem, *]; done)) rfl ?_
          exact ⟨none, none, 0, 0, rfl, .inl ⟨rfl, rfl, rfl, rfl⟩, ((chain hb hb9).setCell (by simp; omega) _).setCell (by simp; omega) _⟩
  · rw [if_neg g, if_neg g, if_neg g]
    replace g : isB p c h s xs ys = false := by simpa using g
    obtain ⟨ta, tb, td, tq⟩ := t
    have hB := fun W (q1 : IRow W a1 xs) (q2 : IRow W a2 ys) => isBoard_any p c h s a1 a2 n1 n2 c1 c2 xs ys W h1 h2 l1 l2 q1 q2
    simp only [g] at hB
    have HB := Lib.hid hB
    clear hB
    obtain ⟨BV, BB, BS, BR, hb, hz⟩ := four_new w #[.int .i64 p, .int .i64 c, .int .i64 h, .int .i64 s] #[.slice a1 n1 c1, .slice a2 n2 c2] #[.int .i64 ta, .int .i64 tb, .int .i64 td, .bool tq] #[.slice none 0 0, .slice none 0 0] 25 28 30 28
    obtain ⟨x0, x1, x2, x3, xf, xl⟩ := BV.four
    obtain ⟨y0, y1, yf, yl⟩ := BB.two
    obtain ⟨s0, s1, s2, s3, sf, sl⟩ := BS.four
    obtain ⟨u0, u1, uf, ul⟩ := BR.two
    go_enter Try.func19, Try.ntmps19
    go_wp2_with (go_at_call 57; refine (HB.out _ (r1.below hb) (r2.below hb)).mono ?_; rintro e w1 ⟨rfl, hb1⟩; obtain ⟨x0, x1, x2, x3, xf, xl⟩ := (BV.below hb1).four; obtain ⟨y0, y1, yf, yl⟩ := (BB.below hb1).two; obtain ⟨s0, s1, s2, s3, sf, sl⟩ := (BS.below hb1).four; obtain ⟨u0, u1, uf, ul⟩ := (BR.below hb1).two)
    refine bodyPost_ret (v := .tuple #[.agg #[.slice none 0 0, .slice none 0 0], .int .i64 1]) (by first | (simp [results, Try.results19, go_sem, u0, u1]; done) | (simp [results, Try.results19, go_sem, *]; done)) rfl ?_
    exact ⟨none, none, 0, 0, rfl, .inl ⟨rfl, rfl, rfl, rfl⟩, ((chain hb hb1).setCell (by simp; omega) _).setCell (by simp; omega) _⟩
end Go.Proofs.Ytjglempkmenacaa
