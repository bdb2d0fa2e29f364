/- Contracts of the program's functions that read a step from a text. -/
import Derived.Test.YthfhiggageejbaaDoor06m
namespace Go.Proofs.YthfhiggageejbaaDoor
open Go.ChangeShapes Go.WideShapes Go.ChangeAt Go.RowKit
set_option linter.unusedVariables false
set_option linter.unusedSimpArgs false

theorem Blk.nine11 {w : World} {g : Nat} {v0 v1 v2 v3 v4 v5 v6 v7 v8 : Value} {t : TypeId} (h : Blk w g #[v0, v1, v2, v3, v4, v5, v6, v7, v8] t) : w.cell? ⟨g, 0, none⟩ = some v0 ∧ w.cell? ⟨g, 1, none⟩ = some v1 ∧ w.cell? ⟨g, 2, none⟩ = some v2 ∧ w.cell? ⟨g, 3, none⟩ = some v3 ∧ w.cell? ⟨g, 4, none⟩ = some v4 ∧ w.cell? ⟨g, 5, none⟩ = some v5 ∧ w.cell? ⟨g, 6, none⟩ = some v6 ∧ w.cell? ⟨g, 7, none⟩ = some v7 ∧ w.cell? ⟨g, 8, none⟩ = some v8 ∧ (∀ i, w.frozen? ⟨g, i, none⟩ = false) ∧ g < w.heap.size :=
  ⟨by rw [h.cell 0]; rfl, by rw [h.cell 1]; rfl, by rw [h.cell 2]; rfl, by rw [h.cell 3]; rfl, by rw [h.cell 4]; rfl, by rw [h.cell 5]; rfl, by rw [h.cell 6]; rfl, by rw [h.cell 7]; rfl, by rw [h.cell 8]; rfl, fun i => h.free i, h.lt⟩
theorem from_alloc_to {w w' : World} (hb : Below w.heap.size w w') (o : Obj) : Below w.heap.size w (w'.alloc o) := hb.alloc hb.size o
/-- What a reader of steps hands back. -/
def rdV : Option St4 → Value
  | some x => .tuple #[.agg #[.int .i64 x.1, .int .i64 x.2.1, .int .i64 x.2.2.1, .bool x.2.2.2], .bool true]
  | none => .tuple #[.agg #[.int .i64 0, .int .i64 0, .int .i64 0, .bool false], .bool false]
theorem sizeOfU8 (w : World) : (sizeOf 5).run Tryd.prog w = .ok 1 w := by kernel_rfl
theorem neq_bytes (l m : List UInt8) (hl : l.length ≤ 8) (hm : m.length ≤ 8) (W : World) : (binOp .neq 73 (.agg (bytV l)) (.agg (bytV m))).run Tryd.prog W = .ok (.bool (!decide (l = m))) W := by
  have h := run_equalIn_bytes (P := Tryd.prog) W 9998 73 5 9 (by kernel_rfl) (by kernel_rfl) sizeOfU8 (bytL l) (bytL m) (bytL_length hl) (bytL_length hm)
  have e : (bytL l == bytL m) = decide (l = m) := by
    rw [Bool.eq_iff_iff]
    simp only [beq_iff_eq, decide_eq_true_eq]
    exact ⟨bytL_inj hl hm, fun q => by rw [q]⟩
  rw [e] at h
  rw [run_neq_struct]
  have h2 : (Op.equalIn 10000 73 (.agg (bytV l)) (.agg (bytV m))).run Tryd.prog W = .ok (decide (l = m)) W := h
  rw [h2]
  rfl
set_option maxRecDepth 8000 in
set_option maxHeartbeats 4000000 in
theorem readStep_any (p c h s : Int) (t : ByteArray) (w : World) (g : vB p c h s = true) (ht : t.size ≤ 1048576) (hM : IntCell w 0) (hE : ErrCell w 2) :
    Calls Tryd.prog 44 #[.agg #[.int .i64 p, .int .i64 c, .int .i64 h, .int .i64 s], .string t] w fun e w' => e = .returned (rdV (rd p s t.data.toList)) ∧ Below w.heap.size w w' := by
  have hv := vB_iff.1 g
  obtain ⟨BV, BG, hb, hz⟩ := two_new w #[.int .i64 p, .int .i64 c, .int .i64 h, .int .i64 s] #[.int .i64 0, .int .i64 0, .int .i64 0, .bool false] 29 38
  clear hz
  have hsz := Lib.size_eq t
  by_cases h8 : t.size ≤ 8
  · have G := fun f t' d hh (q1 : plB p s f t' d hh = true) (q2 : stT p f t' d hh = t.data.toList) => sc_good (by omega) (by omega) q1 q2
    rw [rd_of (by omega) (by omega) G]
    clear G
    have hsc := fun (W : World) (q1 : IntCell W 0) (q2 : ErrCell W 2) => scanStep_any p c h s t W (by omega) h8 q1 q2
    have hbt := fun W => bytesOfText_any t W h8
    generalize plN p (scA t.data.toList) = F at *
    generalize scDie F (plN p (scT (scR t.data.toList))) (scR t.data.toList) = D at *
    generalize plN p (scT (scR t.data.toList)) = TT at *
    generalize scH (scR t.data.toList) = H at *
    obtain ⟨v0, v1, v2, v3, v4, v5, v6, v7, v8, hbv, hv0⟩ := bytV_nine (l := t.data.toList) (by omega)
    clear hv0
    rw [hbv] at hbt
    have HSC := Lib.hid hsc
    have HBT := Lib.hid hbt
    have hpl := fun W => isPlain_any p c h s F TT D H W g
    replace hM := hM.below hb
    replace hE := hE.below hb
    clear hsc hbt
    by_cases g0 : plB p s F TT D H = true
    · rw [g0] at hpl
      have HP := Lib.hid hpl
      have hbo := fun W => bytesOfStep_any p c h s F TT D H W g g0
      have hcmp := fun W => neq_bytes (stT p F TT D H) t.data.toList (stT_len (by omega) (by omega) g0).1 (by omega) W
      rw [hbv] at hcmp
      obtain ⟨KA, hKA⟩ : ∃ KA, bytV (stT p F TT D H) = KA := ⟨_, rfl⟩
      rw [hKA] at hbo hcmp
      have HB := Lib.hid hbo
      by_cases q : stT p F TT D H = t.data.toList
      · rw [if_pos ⟨g0, q⟩]
        rw [decide_eq_true q, Bool.not_true] at hcmp
        clear hpl hbo hKA q g0 hv g hbv hsz h8 ht
        show Calls Tryd.prog 44 #[.agg #[.int .i64 p, .int .i64 c, .int .i64 h, .int .i64 s], .string t] w fun e w' => e = .returned (.tuple #[.agg #[.int .i64 F, .int .i64 TT, .int .i64 D, .bool H], .bool true]) ∧ Below w.heap.size w w'
        go_enter Tryd.func44, Tryd.ntmps44
        go_wp2_with fail
        generalize ((w.alloc (.cells #[.int .i64 p, .int .i64 c, .int .i64 h, .int .i64 s] 29)).alloc (.cells #[.int .i64 0, .int .i64 0, .int .i64 0, .bool false] 38)) = ww0 at *
        refine (HBT.out _).mono ?_
        rintro e w1 ⟨rfl, hb1⟩
        have B9 := Blk.new w1 #[.int .u8 v0, .int .u8 v1, .int .u8 v2, .int .u8 v3, .int .u8 v4, .int .u8 v5, .int .u8 v6, .int .u8 v7, .int .u8 v8] 73
        have hb1' := from_alloc_to hb1 (.cells #[.int .u8 v0, .int .u8 v1, .int .u8 v2, .int .u8 v3, .int .u8 v4, .int .u8 v5, .int .u8 v6, .int .u8 v7, .int .u8 v8] 73)
        replace BV := BV.below hb1'
        replace BG := BG.below hb1'
        replace hM := hM.below hb1'
        replace hE := hE.below hb1'
        replace hb := chain hb hb1'
        clear hb1 hb1' HBT
        obtain ⟨x0, x1, x2, x3, xf, xl⟩ := BV.four
        go_wp2_with fail
        clear x0 x1 x2 x3 xf xl
        generalize (w1.alloc (.cells #[.int .u8 v0, .int .u8 v1, .int .u8 v2, .int .u8 v3, .int .u8 v4, .int .u8 v5, .int .u8 v6, .int .u8 v7, .int .u8 v8] 73)) = ww1 at *
        refine (HSC.out _ hM hE).mono ?_
        rintro e w2 ⟨rfl, hb2⟩
        have BS := Blk.new w2 #[.int .i64 F, .int .i64 TT, .int .i64 D, .bool H] 38
        have hb2' := from_alloc_to hb2 (.cells #[.int .i64 F, .int .i64 TT, .int .i64 D, .bool H] 38)
        replace BV := BV.below hb2'
        replace BG := BG.below hb2'
        replace B9 := B9.below hb2'
        replace hb := chain hb hb2'
        clear hb2 hb2' HSC
        obtain ⟨x0, x1, x2, x3, xf, xl⟩ := BV.four
        go_wp2_with fail
        clear x0 x1 x2 x3 xf xl hM hE
        generalize (w2.alloc (.cells #[.int .i64 F, .int .i64 TT, .int .i64 D, .bool H] 38)) = ww2 at *
        replace BV := BV.drew
        replace BG := BG.drew
        replace B9 := B9.drew
        replace BS := BS.drew
        replace hb := hb.drew
        refine wp_region_held_drew (S := fun w' => w'.cell? ⟨w.heap.size, 0, none⟩ = some (.int .i64 p) ∧ w'.cell? ⟨w.heap.size, 1, none⟩ = some (.int .i64 c) ∧ w'.cell? ⟨w.heap.size, 2, none⟩ = some (.int .i64 h) ∧ w'.cell? ⟨w.heap.size, 3, none⟩ = some (.int .i64 s) ∧ w'.cell? ⟨(w.heap.size + 1), 0, none⟩ = some (.int .i64 0) ∧ w'.cell? ⟨(w.heap.size + 1), 1, none⟩ = some (.int .i64 0) ∧ w'.cell? ⟨(w.heap.size + 1), 2, none⟩ = some (.int .i64 0) ∧ w'.cell? ⟨(w.heap.size + 1), 3, none⟩ = some (.bool false) ∧ w'.cell? ⟨w1.heap.size, 0, none⟩ = some (.int .u8 v0) ∧ w'.cell? ⟨w1.heap.size, 1, none⟩ = some (.int .u8 v1) ∧ w'.cell? ⟨w1.heap.size, 2, none⟩ = some (.int .u8 v2) ∧ w'.cell? ⟨w1.heap.size, 3, none⟩ = some (.int .u8 v3) ∧ w'.cell? ⟨w1.heap.size, 4, none⟩ = some (.int .u8 v4) ∧ w'.cell? ⟨w1.heap.size, 5, none⟩ = some (.int .u8 v5) ∧ w'.cell? ⟨w1.heap.size, 6, none⟩ = some (.int .u8 v6) ∧ w'.cell? ⟨w1.heap.size, 7, none⟩ = some (.int .u8 v7) ∧ w'.cell? ⟨w1.heap.size, 8, none⟩ = some (.int .u8 v8) ∧ w'.cell? ⟨w2.heap.size, 0, none⟩ = some (.int .i64 F) ∧ w'.cell? ⟨w2.heap.size, 1, none⟩ = some (.int .i64 TT) ∧ w'.cell? ⟨w2.heap.size, 2, none⟩ = some (.int .i64 D) ∧ w'.cell? ⟨w2.heap.size, 3, none⟩ = some (.bool H) ∧ Blk w' w.heap.size #[.int .i64 p, .int .i64 c, .int .i64 h, .int .i64 s] 29 ∧ Blk w' ((w.heap.size + 1)) #[.int .i64 0, .int .i64 0, .int .i64 0, .bool false] 38 ∧ Blk w' w1.heap.size #[.int .u8 v0, .int .u8 v1, .int .u8 v2, .int .u8 v3, .int .u8 v4, .int .u8 v5, .int .u8 v6, .int .u8 v7, .int .u8 v8] 73 ∧ Blk w' w2.heap.size #[.int .i64 F, .int .i64 TT, .int .i64 D, .bool H] 38 ∧ Below w.heap.size w w') (by kernel_rfl) ⟨BV.four.1, BV.four.2.1, BV.four.2.2.1, BV.four.2.2.2.1, BG.four.1, BG.four.2.1, BG.four.2.2.1, BG.four.2.2.2.1, B9.nine11.1, B9.nine11.2.1, B9.nine11.2.2.1, B9.nine11.2.2.2.1, B9.nine11.2.2.2.2.1, B9.nine11.2.2.2.2.2.1, B9.nine11.2.2.2.2.2.2.1, B9.nine11.2.2.2.2.2.2.2.1, B9.nine11.2.2.2.2.2.2.2.2.1, BS.four.1, BS.four.2.1, BS.four.2.2.1, BS.four.2.2.2.1, BV, BG, B9, BS, hb⟩ (fun hHeld => ?_)
        refine wpAnyH_take (i := 0) (oi := { dst := some 20, op := _, type := _, pos := _, after := _, guard := _ }) (v := ?_) rfl (by kernel_rfl) (by kernel_rfl) (by kernel_rfl) (fun _ _ _ h => h) (Or.inl ⟨by rfl, ?_⟩) (by assumption) ?_
        rotate_left
        · intro w hSw
          (try dsimp only at hSw)
          go_simp
          (try (with_reducible rfl))
        try simp only [Act.put, List.setIfInBounds_toArray, List.set_cons_zero, List.set_cons_succ]
        refine wpAnyH_take (i := 1) (oi := { dst := some 21, op := _, type := _, pos := _, after := _, guard := _ }) (v := ?_) rfl (by kernel_rfl) (by kernel_rfl) (by kernel_rfl) (fun _ _ _ h => h) (Or.inl ⟨by rfl, ?_⟩) (by assumption) ?_
        rotate_left
        · intro w hSw
          (try dsimp only at hSw)
          go_simp
          (try (with_reducible rfl))
        try simp only [Act.put, List.setIfInBounds_toArray, List.set_cons_zero, List.set_cons_succ]
        refine wpAnyH_ready (rs := [2]) (by kernel_rfl) (by simp) ?_
        refine AllReadyH.cons (o := { dst := some 22, op := _, type := _, pos := _, after := _, guard := _ }) rfl (fun K hK => ?_) AllReadyH.nil
        go_simp
        -- call
        have BV := hHeld.2.2.2.2.2.2.2.2.2.2.2.2.2.2.2.2.2.2.2.2.2.1
        have BG := hHeld.2.2.2.2.2.2.2.2.2.2.2.2.2.2.2.2.2.2.2.2.2.2.1
        have B9 := hHeld.2.2.2.2.2.2.2.2.2.2.2.2.2.2.2.2.2.2.2.2.2.2.2.1
        have BS := hHeld.2.2.2.2.2.2.2.2.2.2.2.2.2.2.2.2.2.2.2.2.2.2.2.2.1
        have hb := hHeld.2.2.2.2.2.2.2.2.2.2.2.2.2.2.2.2.2.2.2.2.2.2.2.2.2
        clear hHeld
        refine (HP.out _).mono ?_
        rintro e wq1 ⟨rfl, hq1⟩
        replace BV := BV.below hq1
        replace BG := BG.below hq1
        replace B9 := B9.below hq1
        replace BS := BS.below hq1
        replace hb := chain hb hq1
        (try go_wp2_with fail)
        refine hK.out _ _ ⟨BV.four.1, BV.four.2.1, BV.four.2.2.1, BV.four.2.2.2.1, BG.four.1, BG.four.2.1, BG.four.2.2.1, BG.four.2.2.2.1, B9.nine11.1, B9.nine11.2.1, B9.nine11.2.2.1, B9.nine11.2.2.2.1, B9.nine11.2.2.2.2.1, B9.nine11.2.2.2.2.2.1, B9.nine11.2.2.2.2.2.2.1, B9.nine11.2.2.2.2.2.2.2.1, B9.nine11.2.2.2.2.2.2.2.2.1, BS.four.1, BS.four.2.1, BS.four.2.2.1, BS.four.2.2.2.1, BV, BG, B9, BS, hb⟩ (fun hHeld => ?_)
        clear hK K
        try simp only [Act.put, List.setIfInBounds_toArray, List.set_cons_zero, List.set_cons_succ]
        refine wpAnyH_take (i := 3) (oi := { dst := some 23, op := _, type := _, pos := _, after := _, guard := _ }) (v := ?_) rfl (by kernel_rfl) (by kernel_rfl) (by kernel_rfl) (fun _ _ _ h => h) (Or.inl ⟨by rfl, ?_⟩) (by assumption) ?_
        rotate_left
        · intro w hSw
          (try dsimp only at hSw)
          go_simp
          (try (with_reducible rfl))
        try simp only [Act.put, List.setIfInBounds_toArray, List.set_cons_zero, List.set_cons_succ]
        refine wpAnyH_take (i := 4) (oi := { dst := some 24, op := _, type := _, pos := _, after := _, guard := _ }) (v := ?_) rfl (by kernel_rfl) (by kernel_rfl) (by kernel_rfl) (fun _ _ _ h => h) (Or.inl ⟨by rfl, ?_⟩) (by assumption) ?_
        rotate_left
        · intro w hSw
          (try dsimp only at hSw)
          go_simp
          (try (with_reducible rfl))
        try simp only [Act.put, List.setIfInBounds_toArray, List.set_cons_zero, List.set_cons_succ]
        refine wpAnyH_take (i := 5) (oi := { dst := some 25, op := _, type := _, pos := _, after := _, guard := _ }) (v := ?_) rfl (by kernel_rfl) (by kernel_rfl) (by kernel_rfl) (fun _ _ _ h => h) (Or.inl ⟨by rfl, ?_⟩) (by assumption) ?_
        rotate_left
        · intro w hSw
          (try dsimp only at hSw)
          go_simp
          (try (with_reducible rfl))
        try simp only [Act.put, List.setIfInBounds_toArray, List.set_cons_zero, List.set_cons_succ]
        refine wpAnyH_take (i := 6) (oi := { dst := some 26, op := _, type := _, pos := _, after := _, guard := _ }) (v := ?_) rfl (by kernel_rfl) (by kernel_rfl) (by kernel_rfl) (fun _ _ _ h => h) (Or.inl ⟨by rfl, ?_⟩) (by assumption) ?_
        rotate_left
        · intro w hSw
          (try dsimp only at hSw)
          go_simp
          (try (with_reducible rfl))
        try simp only [Act.put, List.setIfInBounds_toArray, List.set_cons_zero, List.set_cons_succ]
        refine wpAnyH_take (i := 8) (oi := { dst := some 28, op := _, type := _, pos := _, after := _, guard := _ }) (v := ?_) rfl (by kernel_rfl) (by kernel_rfl) (by kernel_rfl) (fun _ _ _ h => h) (Or.inl ⟨by rfl, ?_⟩) (by assumption) ?_
        rotate_left
        · intro w hSw
          (try dsimp only at hSw)
          go_simp
          (try (with_reducible rfl))
        try simp only [Act.put, List.setIfInBounds_toArray, List.set_cons_zero, List.set_cons_succ]
        refine wpAnyH_ready (rs := [7]) (by kernel_rfl) (by simp) ?_
        refine AllReadyH.cons (o := { dst := some 27, op := _, type := _, pos := _, after := _, guard := _ }) rfl (fun K hK => ?_) AllReadyH.nil
        go_simp
        -- call
        have BV := hHeld.2.2.2.2.2.2.2.2.2.2.2.2.2.2.2.2.2.2.2.2.2.1
        have BG := hHeld.2.2.2.2.2.2.2.2.2.2.2.2.2.2.2.2.2.2.2.2.2.2.1
        have B9 := hHeld.2.2.2.2.2.2.2.2.2.2.2.2.2.2.2.2.2.2.2.2.2.2.2.1
        have BS := hHeld.2.2.2.2.2.2.2.2.2.2.2.2.2.2.2.2.2.2.2.2.2.2.2.2.1
        have hb := hHeld.2.2.2.2.2.2.2.2.2.2.2.2.2.2.2.2.2.2.2.2.2.2.2.2.2
        clear hHeld
        refine (HB.out _).mono ?_
        rintro e wq2 ⟨rfl, hq2⟩
        replace BV := BV.below hq2
        replace BG := BG.below hq2
        replace B9 := B9.below hq2
        replace BS := BS.below hq2
        replace hb := chain hb hq2
        (try go_wp2_with fail)
        refine hK.out _ _ ⟨BV.four.1, BV.four.2.1, BV.four.2.2.1, BV.four.2.2.2.1, BG.four.1, BG.four.2.1, BG.four.2.2.1, BG.four.2.2.2.1, B9.nine11.1, B9.nine11.2.1, B9.nine11.2.2.1, B9.nine11.2.2.2.1, B9.nine11.2.2.2.2.1, B9.nine11.2.2.2.2.2.1, B9.nine11.2.2.2.2.2.2.1, B9.nine11.2.2.2.2.2.2.2.1, B9.nine11.2.2.2.2.2.2.2.2.1, BS.four.1, BS.four.2.1, BS.four.2.2.1, BS.four.2.2.2.1, BV, BG, B9, BS, hb⟩ (fun hHeld => ?_)
        clear hK K
        try simp only [Act.put, List.setIfInBounds_toArray, List.set_cons_zero, List.set_cons_succ]
        refine wpAnyH_take (i := 9) (oi := { dst := some 29, op := _, type := _, pos := _, after := _, guard := _ }) (v := ?_) rfl (by kernel_rfl) (by kernel_rfl) (by kernel_rfl) (fun _ _ _ h => h) (Or.inl ⟨by rfl, ?_⟩) (by assumption) ?_
        rotate_left
        · intro w hSw
          (try dsimp only at hSw)
          go_simp
          (try (with_reducible rfl))
        try simp only [Act.put, List.setIfInBounds_toArray, List.set_cons_zero, List.set_cons_succ]
        refine wpAnyH_take (i := 10) (oi := { dst := some 30, op := _, type := _, pos := _, after := _, guard := _ }) (v := ?_) rfl (by kernel_rfl) (by kernel_rfl) (by kernel_rfl) (fun _ _ _ h => h) (Or.inl ⟨by rfl, ?_⟩) (by assumption) ?_
        rotate_left
        · intro w hSw
          (try dsimp only at hSw)
          go_simp
          (try (with_reducible rfl))
        try simp only [Act.put, List.setIfInBounds_toArray, List.set_cons_zero, List.set_cons_succ]
        refine wpAnyH_done (by kernel_rfl) ?_ _
        have BV := hHeld.2.2.2.2.2.2.2.2.2.2.2.2.2.2.2.2.2.2.2.2.2.1
        have BG := hHeld.2.2.2.2.2.2.2.2.2.2.2.2.2.2.2.2.2.2.2.2.2.2.1
        have B9 := hHeld.2.2.2.2.2.2.2.2.2.2.2.2.2.2.2.2.2.2.2.2.2.2.2.1
        have BS := hHeld.2.2.2.2.2.2.2.2.2.2.2.2.2.2.2.2.2.2.2.2.2.2.2.2.1
        have hb := hHeld.2.2.2.2.2.2.2.2.2.2.2.2.2.2.2.2.2.2.2.2.2.2.2.2.2
        clear hHeld
        obtain ⟨j0, j1, j2, j3, jf, jl⟩ := BG.four
        obtain ⟨x0, x1, x2, x3, xf, xl⟩ := BS.four
        go_wp2
        refine bodyPost_ret (v := .tuple #[.agg #[.int .i64 F, .int .i64 TT, .int .i64 D, .bool H], .bool true]) (by simp [results, Tryd.results44, go_sem, j0, j1, j2, j3]) rfl ?_
        exact ⟨rfl, (((hb.setCell (p := ⟨w.heap.size + 1, 0, none⟩) (by show _ ≤ w.heap.size + 1; omega) _).setCell (p := ⟨w.heap.size + 1, 1, none⟩) (by show _ ≤ w.heap.size + 1; omega) _).setCell (p := ⟨w.heap.size + 1, 2, none⟩) (by show _ ≤ w.heap.size + 1; omega) _).setCell (p := ⟨w.heap.size + 1, 3, none⟩) (by show _ ≤ w.heap.size + 1; omega) _⟩
      · rw [if_neg (fun z => q z.2)]
        rw [decide_eq_false q, Bool.not_false] at hcmp
        clear hpl hbo hKA q g0 hv g hbv hsz h8 ht
        show Calls Tryd.prog 44 #[.agg #[.int .i64 p, .int .i64 c, .int .i64 h, .int .i64 s], .string t] w fun e w' => e = .returned (.tuple #[.agg #[.int .i64 0, .int .i64 0, .int .i64 0, .bool false], .bool false]) ∧ Below w.heap.size w w'
        go_enter Tryd.func44, Tryd.ntmps44
        go_wp2_with fail
        generalize ((w.alloc (.cells #[.int .i64 p, .int .i64 c, .int .i64 h, .int .i64 s] 29)).alloc (.cells #[.int .i64 0, .int .i64 0, .int .i64 0, .bool false] 38)) = ww0 at *
        refine (HBT.out _).mono ?_
        rintro e w1 ⟨rfl, hb1⟩
        have B9 := Blk.new w1 #[.int .u8 v0, .int .u8 v1, .int .u8 v2, .int .u8 v3, .int .u8 v4, .int .u8 v5, .int .u8 v6, .int .u8 v7, .int .u8 v8] 73
        have hb1' := from_alloc_to hb1 (.cells #[.int .u8 v0, .int .u8 v1, .int .u8 v2, .int .u8 v3, .int .u8 v4, .int .u8 v5, .int .u8 v6, .int .u8 v7, .int .u8 v8] 73)
        replace BV := BV.below hb1'
        replace BG := BG.below hb1'
        replace hM := hM.below hb1'
        replace hE := hE.below hb1'
        replace hb := chain hb hb1'
        clear hb1 hb1' HBT
        obtain ⟨x0, x1, x2, x3, xf, xl⟩ := BV.four
        go_wp2_with fail
        clear x0 x1 x2 x3 xf xl
        generalize (w1.alloc (.cells #[.int .u8 v0, .int .u8 v1, .int .u8 v2, .int .u8 v3, .int .u8 v4, .int .u8 v5, .int .u8 v6, .int .u8 v7, .int .u8 v8] 73)) = ww1 at *
        refine (HSC.out _ hM hE).mono ?_
        rintro e w2 ⟨rfl, hb2⟩
        have BS := Blk.new w2 #[.int .i64 F, .int .i64 TT, .int .i64 D, .bool H] 38
        have hb2' := from_alloc_to hb2 (.cells #[.int .i64 F, .int .i64 TT, .int .i64 D, .bool H] 38)
        replace BV := BV.below hb2'
        replace BG := BG.below hb2'
        replace B9 := B9.below hb2'
        replace hb := chain hb hb2'
        clear hb2 hb2' HSC
        obtain ⟨x0, x1, x2, x3, xf, xl⟩ := BV.four
        go_wp2_with fail
        clear x0 x1 x2 x3 xf xl hM hE
        generalize (w2.alloc (.cells #[.int .i64 F, .int .i64 TT, .int .i64 D, .bool H] 38)) = ww2 at *
        replace BV := BV.drew
        replace BG := BG.drew
        replace B9 := B9.drew
        replace BS := BS.drew
        replace hb := hb.drew
        refine wp_region_held_drew (S := fun w' => w'.cell? ⟨w.heap.size, 0, none⟩ = some (.int .i64 p) ∧ w'.cell? ⟨w.heap.size, 1, none⟩ = some (.int .i64 c) ∧ w'.cell? ⟨w.heap.size, 2, none⟩ = some (.int .i64 h) ∧ w'.cell? ⟨w.heap.size, 3, none⟩ = some (.int .i64 s) ∧ w'.cell? ⟨(w.heap.size + 1), 0, none⟩ = some (.int .i64 0) ∧ w'.cell? ⟨(w.heap.size + 1), 1, none⟩ = some (.int .i64 0) ∧ w'.cell? ⟨(w.heap.size + 1), 2, none⟩ = some (.int .i64 0) ∧ w'.cell? ⟨(w.heap.size + 1), 3, none⟩ = some (.bool false) ∧ w'.cell? ⟨w1.heap.size, 0, none⟩ = some (.int .u8 v0) ∧ w'.cell? ⟨w1.heap.size, 1, none⟩ = some (.int .u8 v1) ∧ w'.cell? ⟨w1.heap.size, 2, none⟩ = some (.int .u8 v2) ∧ w'.cell? ⟨w1.heap.size, 3, none⟩ = some (.int .u8 v3) ∧ w'.cell? ⟨w1.heap.size, 4, none⟩ = some (.int .u8 v4) ∧ w'.cell? ⟨w1.heap.size, 5, none⟩ = some (.int .u8 v5) ∧ w'.cell? ⟨w1.heap.size, 6, none⟩ = some (.int .u8 v6) ∧ w'.cell? ⟨w1.heap.size, 7, none⟩ = some (.int .u8 v7) ∧ w'.cell? ⟨w1.heap.size, 8, none⟩ = some (.int .u8 v8) ∧ w'.cell? ⟨w2.heap.size, 0, none⟩ = some (.int .i64 F) ∧ w'.cell? ⟨w2.heap.size, 1, none⟩ = some (.int .i64 TT) ∧ w'.cell? ⟨w2.heap.size, 2, none⟩ = some (.int .i64 D) ∧ w'.cell? ⟨w2.heap.size, 3, none⟩ = some (.bool H) ∧ Blk w' w.heap.size #[.int .i64 p, .int .i64 c, .int .i64 h, .int .i64 s] 29 ∧ Blk w' ((w.heap.size + 1)) #[.int .i64 0, .int .i64 0, .int .i64 0, .bool false] 38 ∧ Blk w' w1.heap.size #[.int .u8 v0, .int .u8 v1, .int .u8 v2, .int .u8 v3, .int .u8 v4, .int .u8 v5, .int .u8 v6, .int .u8 v7, .int .u8 v8] 73 ∧ Blk w' w2.heap.size #[.int .i64 F, .int .i64 TT, .int .i64 D, .bool H] 38 ∧ Below w.heap.size w w') (by kernel_rfl) ⟨BV.four.1, BV.four.2.1, BV.four.2.2.1, BV.four.2.2.2.1, BG.four.1, BG.four.2.1, BG.four.2.2.1, BG.four.2.2.2.1, B9.nine11.1, B9.nine11.2.1, B9.nine11.2.2.1, B9.nine11.2.2.2.1, B9.nine11.2.2.2.2.1, B9.nine11.2.2.2.2.2.1, B9.nine11.2.2.2.2.2.2.1, B9.nine11.2.2.2.2.2.2.2.1, B9.nine11.2.2.2.2.2.2.2.2.1, BS.four.1, BS.four.2.1, BS.four.2.2.1, BS.four.2.2.2.1, BV, BG, B9, BS, hb⟩ (fun hHeld => ?_)
        refine wpAnyH_take (i := 0) (oi := { dst := some 20, op := _, type := _, pos := _, after := _, guard := _ }) (v := ?_) rfl (by kernel_rfl) (by kernel_rfl) (by kernel_rfl) (fun _ _ _ h => h) (Or.inl ⟨by rfl, ?_⟩) (by assumption) ?_
        rotate_left
        · intro w hSw
          (try dsimp only at hSw)
          go_simp
          (try (with_reducible rfl))
        try simp only [Act.put, List.setIfInBounds_toArray, List.set_cons_zero, List.set_cons_succ]
        refine wpAnyH_take (i := 1) (oi := { dst := some 21, op := _, type := _, pos := _, after := _, guard := _ }) (v := ?_) rfl (by kernel_rfl) (by kernel_rfl) (by kernel_rfl) (fun _ _ _ h => h) (Or.inl ⟨by rfl, ?_⟩) (by assumption) ?_
        rotate_left
        · intro w hSw
          (try dsimp only at hSw)
          go_simp
          (try (with_reducible rfl))
        try simp only [Act.put, List.setIfInBounds_toArray, List.set_cons_zero, List.set_cons_succ]
        refine wpAnyH_ready (rs := [2]) (by kernel_rfl) (by simp) ?_
        refine AllReadyH.cons (o := { dst := some 22, op := _, type := _, pos := _, after := _, guard := _ }) rfl (fun K hK => ?_) AllReadyH.nil
        go_simp
        -- call
        have BV := hHeld.2.2.2.2.2.2.2.2.2.2.2.2.2.2.2.2.2.2.2.2.2.1
        have BG := hHeld.2.2.2.2.2.2.2.2.2.2.2.2.2.2.2.2.2.2.2.2.2.2.1
        have B9 := hHeld.2.2.2.2.2.2.2.2.2.2.2.2.2.2.2.2.2.2.2.2.2.2.2.1
        have BS := hHeld.2.2.2.2.2.2.2.2.2.2.2.2.2.2.2.2.2.2.2.2.2.2.2.2.1
        have hb := hHeld.2.2.2.2.2.2.2.2.2.2.2.2.2.2.2.2.2.2.2.2.2.2.2.2.2
        clear hHeld
        refine (HP.out _).mono ?_
        rintro e wq1 ⟨rfl, hq1⟩
        replace BV := BV.below hq1
        replace BG := BG.below hq1
        replace B9 := B9.below hq1
        replace BS := BS.below hq1
        replace hb := chain hb hq1
        (try go_wp2_with fail)
        refine hK.out _ _ ⟨BV.four.1, BV.four.2.1, BV.four.2.2.1, BV.four.2.2.2.1, BG.four.1, BG.four.2.1, BG.four.2.2.1, BG.four.2.2.2.1, B9.nine11.1, B9.nine11.2.1, B9.nine11.2.2.1, B9.nine11.2.2.2.1, B9.nine11.2.2.2.2.1, B9.nine11.2.2.2.2.2.1, B9.nine11.2.2.2.2.2.2.1, B9.nine11.2.2.2.2.2.2.2.1, B9.nine11.2.2.2.2.2.2.2.2.1, BS.four.1, BS.four.2.1, BS.four.2.2.1, BS.four.2.2.2.1, BV, BG, B9, BS, hb⟩ (fun hHeld => ?_)
        clear hK K
        try simp only [Act.put, List.setIfInBounds_toArray, List.set_cons_zero, List.set_cons_succ]
        refine wpAnyH_take (i := 3) (oi := { dst := some 23, op := _, type := _, pos := _, after := _, guard := _ }) (v := ?_) rfl (by kernel_rfl) (by kernel_rfl) (by kernel_rfl) (fun _ _ _ h => h) (Or.inl ⟨by rfl, ?_⟩) (by assumption) ?_
        rotate_left
        · intro w hSw
          (try dsimp only at hSw)
          go_simp
          (try (with_reducible rfl))
        try simp only [Act.put, List.setIfInBounds_toArray, List.set_cons_zero, List.set_cons_succ]
        refine wpAnyH_take (i := 4) (oi := { dst := some 24, op := _, type := _, pos := _, after := _, guard := _ }) (v := ?_) rfl (by kernel_rfl) (by kernel_rfl) (by kernel_rfl) (fun _ _ _ h => h) (Or.inl ⟨by rfl, ?_⟩) (by assumption) ?_
        rotate_left
        · intro w hSw
          (try dsimp only at hSw)
          go_simp
          (try (with_reducible rfl))
        try simp only [Act.put, List.setIfInBounds_toArray, List.set_cons_zero, List.set_cons_succ]
        refine wpAnyH_take (i := 5) (oi := { dst := some 25, op := _, type := _, pos := _, after := _, guard := _ }) (v := ?_) rfl (by kernel_rfl) (by kernel_rfl) (by kernel_rfl) (fun _ _ _ h => h) (Or.inl ⟨by rfl, ?_⟩) (by assumption) ?_
        rotate_left
        · intro w hSw
          (try dsimp only at hSw)
          go_simp
          (try (with_reducible rfl))
        try simp only [Act.put, List.setIfInBounds_toArray, List.set_cons_zero, List.set_cons_succ]
        refine wpAnyH_take (i := 6) (oi := { dst := some 26, op := _, type := _, pos := _, after := _, guard := _ }) (v := ?_) rfl (by kernel_rfl) (by kernel_rfl) (by kernel_rfl) (fun _ _ _ h => h) (Or.inl ⟨by rfl, ?_⟩) (by assumption) ?_
        rotate_left
        · intro w hSw
          (try dsimp only at hSw)
          go_simp
          (try (with_reducible rfl))
        try simp only [Act.put, List.setIfInBounds_toArray, List.set_cons_zero, List.set_cons_succ]
        refine wpAnyH_take (i := 8) (oi := { dst := some 28, op := _, type := _, pos := _, after := _, guard := _ }) (v := ?_) rfl (by kernel_rfl) (by kernel_rfl) (by kernel_rfl) (fun _ _ _ h => h) (Or.inl ⟨by rfl, ?_⟩) (by assumption) ?_
        rotate_left
        · intro w hSw
          (try dsimp only at hSw)
          go_simp
          (try (with_reducible rfl))
        try simp only [Act.put, List.setIfInBounds_toArray, List.set_cons_zero, List.set_cons_succ]
        refine wpAnyH_ready (rs := [7]) (by kernel_rfl) (by simp) ?_
        refine AllReadyH.cons (o := { dst := some 27, op := _, type := _, pos := _, after := _, guard := _ }) rfl (fun K hK => ?_) AllReadyH.nil
        go_simp
        -- call
        have BV := hHeld.2.2.2.2.2.2.2.2.2.2.2.2.2.2.2.2.2.2.2.2.2.1
        have BG := hHeld.2.2.2.2.2.2.2.2.2.2.2.2.2.2.2.2.2.2.2.2.2.2.1
        have B9 := hHeld.2.2.2.2.2.2.2.2.2.2.2.2.2.2.2.2.2.2.2.2.2.2.2.1
        have BS := hHeld.2.2.2.2.2.2.2.2.2.2.2.2.2.2.2.2.2.2.2.2.2.2.2.2.1
        have hb := hHeld.2.2.2.2.2.2.2.2.2.2.2.2.2.2.2.2.2.2.2.2.2.2.2.2.2
        clear hHeld
        refine (HB.out _).mono ?_
        rintro e wq2 ⟨rfl, hq2⟩
        replace BV := BV.below hq2
        replace BG := BG.below hq2
        replace B9 := B9.below hq2
        replace BS := BS.below hq2
        replace hb := chain hb hq2
        (try go_wp2_with fail)
        refine hK.out _ _ ⟨BV.four.1, BV.four.2.1, BV.four.2.2.1, BV.four.2.2.2.1, BG.four.1, BG.four.2.1, BG.four.2.2.1, BG.four.2.2.2.1, B9.nine11.1, B9.nine11.2.1, B9.nine11.2.2.1, B9.nine11.2.2.2.1, B9.nine11.2.2.2.2.1, B9.nine11.2.2.2.2.2.1, B9.nine11.2.2.2.2.2.2.1, B9.nine11.2.2.2.2.2.2.2.1, B9.nine11.2.2.2.2.2.2.2.2.1, BS.four.1, BS.four.2.1, BS.four.2.2.1, BS.four.2.2.2.1, BV, BG, B9, BS, hb⟩ (fun hHeld => ?_)
        clear hK K
        try simp only [Act.put, List.setIfInBounds_toArray, List.set_cons_zero, List.set_cons_succ]
        refine wpAnyH_take (i := 9) (oi := { dst := some 29, op := _, type := _, pos := _, after := _, guard := _ }) (v := ?_) rfl (by kernel_rfl) (by kernel_rfl) (by kernel_rfl) (fun _ _ _ h => h) (Or.inl ⟨by rfl, ?_⟩) (by assumption) ?_
        rotate_left
        · intro w hSw
          (try dsimp only at hSw)
          go_simp
          (try (with_reducible rfl))
        try simp only [Act.put, List.setIfInBounds_toArray, List.set_cons_zero, List.set_cons_succ]
        refine wpAnyH_take (i := 10) (oi := { dst := some 30, op := _, type := _, pos := _, after := _, guard := _ }) (v := ?_) rfl (by kernel_rfl) (by kernel_rfl) (by kernel_rfl) (fun _ _ _ h => h) (Or.inl ⟨by rfl, ?_⟩) (by assumption) ?_
        rotate_left
        · intro w hSw
          (try dsimp only at hSw)
          go_simp
          (try (with_reducible rfl))
        try simp only [Act.put, List.setIfInBounds_toArray, List.set_cons_zero, List.set_cons_succ]
        refine wpAnyH_done (by kernel_rfl) ?_ _
        have BV := hHeld.2.2.2.2.2.2.2.2.2.2.2.2.2.2.2.2.2.2.2.2.2.1
        have BG := hHeld.2.2.2.2.2.2.2.2.2.2.2.2.2.2.2.2.2.2.2.2.2.2.1
        have B9 := hHeld.2.2.2.2.2.2.2.2.2.2.2.2.2.2.2.2.2.2.2.2.2.2.2.1
        have BS := hHeld.2.2.2.2.2.2.2.2.2.2.2.2.2.2.2.2.2.2.2.2.2.2.2.2.1
        have hb := hHeld.2.2.2.2.2.2.2.2.2.2.2.2.2.2.2.2.2.2.2.2.2.2.2.2.2
        clear hHeld
        obtain ⟨j0, j1, j2, j3, jf, jl⟩ := BG.four
        obtain ⟨x0, x1, x2, x3, xf, xl⟩ := BS.four
        go_wp2
        refine bodyPost_ret (v := .tuple #[.agg #[.int .i64 0, .int .i64 0, .int .i64 0, .bool false], .bool false]) (by simp [results, Tryd.results44, go_sem, j0, j1, j2, j3]) rfl ?_
        exact ⟨rfl, (((hb.setCell (p := ⟨w.heap.size + 1, 0, none⟩) (by show _ ≤ w.heap.size + 1; omega) _).setCell (p := ⟨w.heap.size + 1, 1, none⟩) (by show _ ≤ w.heap.size + 1; omega) _).setCell (p := ⟨w.heap.size + 1, 2, none⟩) (by show _ ≤ w.heap.size + 1; omega) _).setCell (p := ⟨w.heap.size + 1, 3, none⟩) (by show _ ≤ w.heap.size + 1; omega) _⟩
    · rw [if_neg (fun z => g0 z.1)]
      replace g0 : plB p s F TT D H = false := by simpa using g0
      rw [g0] at hpl
      have HP := Lib.hid hpl
      clear hpl g0 hv g hbv hsz h8 ht
      show Calls Tryd.prog 44 #[.agg #[.int .i64 p, .int .i64 c, .int .i64 h, .int .i64 s], .string t] w fun e w' => e = .returned (.tuple #[.agg #[.int .i64 0, .int .i64 0, .int .i64 0, .bool false], .bool false]) ∧ Below w.heap.size w w'
      go_enter Tryd.func44, Tryd.ntmps44
      go_wp2_with fail
      generalize ((w.alloc (.cells #[.int .i64 p, .int .i64 c, .int .i64 h, .int .i64 s] 29)).alloc (.cells #[.int .i64 0, .int .i64 0, .int .i64 0, .bool false] 38)) = ww0 at *
      refine (HBT.out _).mono ?_
      rintro e w1 ⟨rfl, hb1⟩
      have B9 := Blk.new w1 #[.int .u8 v0, .int .u8 v1, .int .u8 v2, .int .u8 v3, .int .u8 v4, .int .u8 v5, .int .u8 v6, .int .u8 v7, .int .u8 v8] 73
      have hb1' := from_alloc_to hb1 (.cells #[.int .u8 v0, .int .u8 v1, .int .u8 v2, .int .u8 v3, .int .u8 v4, .int .u8 v5, .int .u8 v6, .int .u8 v7, .int .u8 v8] 73)
      replace BV := BV.below hb1'
      replace BG := BG.below hb1'
      replace hM := hM.below hb1'
      replace hE := hE.below hb1'
      replace hb := chain hb hb1'
      clear hb1 hb1' HBT
      obtain ⟨x0, x1, x2, x3, xf, xl⟩ := BV.four
      go_wp2_with fail
      clear x0 x1 x2 x3 xf xl
      generalize (w1.alloc (.cells #[.int .u8 v0, .int .u8 v1, .int .u8 v2, .int .u8 v3, .int .u8 v4, .int .u8 v5, .int .u8 v6, .int .u8 v7, .int .u8 v8] 73)) = ww1 at *
      refine (HSC.out _ hM hE).mono ?_
      rintro e w2 ⟨rfl, hb2⟩
      have BS := Blk.new w2 #[.int .i64 F, .int .i64 TT, .int .i64 D, .bool H] 38
      have hb2' := from_alloc_to hb2 (.cells #[.int .i64 F, .int .i64 TT, .int .i64 D, .bool H] 38)
      replace BV := BV.below hb2'
      replace BG := BG.below hb2'
      replace B9 := B9.below hb2'
      replace hb := chain hb hb2'
      clear hb2 hb2' HSC
      obtain ⟨x0, x1, x2, x3, xf, xl⟩ := BV.four
      go_wp2_with fail
      clear x0 x1 x2 x3 xf xl hM hE
      generalize (w2.alloc (.cells #[.int .i64 F, .int .i64 TT, .int .i64 D, .bool H] 38)) = ww2 at *
      replace BV := BV.drew
      replace BG := BG.drew
      replace B9 := B9.drew
      replace BS := BS.drew
      replace hb := hb.drew
      refine wp_region_held_drew (S := fun w' => w'.cell? ⟨w.heap.size, 0, none⟩ = some (.int .i64 p) ∧ w'.cell? ⟨w.heap.size, 1, none⟩ = some (.int .i64 c) ∧ w'.cell? ⟨w.heap.size, 2, none⟩ = some (.int .i64 h) ∧ w'.cell? ⟨w.heap.size, 3, none⟩ = some (.int .i64 s) ∧ w'.cell? ⟨(w.heap.size + 1), 0, none⟩ = some (.int .i64 0) ∧ w'.cell? ⟨(w.heap.size + 1), 1, none⟩ = some (.int .i64 0) ∧ w'.cell? ⟨(w.heap.size + 1), 2, none⟩ = some (.int .i64 0) ∧ w'.cell? ⟨(w.heap.size + 1), 3, none⟩ = some (.bool false) ∧ w'.cell? ⟨w1.heap.size, 0, none⟩ = some (.int .u8 v0) ∧ w'.cell? ⟨w1.heap.size, 1, none⟩ = some (.int .u8 v1) ∧ w'.cell? ⟨w1.heap.size, 2, none⟩ = some (.int .u8 v2) ∧ w'.cell? ⟨w1.heap.size, 3, none⟩ = some (.int .u8 v3) ∧ w'.cell? ⟨w1.heap.size, 4, none⟩ = some (.int .u8 v4) ∧ w'.cell? ⟨w1.heap.size, 5, none⟩ = some (.int .u8 v5) ∧ w'.cell? ⟨w1.heap.size, 6, none⟩ = some (.int .u8 v6) ∧ w'.cell? ⟨w1.heap.size, 7, none⟩ = some (.int .u8 v7) ∧ w'.cell? ⟨w1.heap.size, 8, none⟩ = some (.int .u8 v8) ∧ w'.cell? ⟨w2.heap.size, 0, none⟩ = some (.int .i64 F) ∧ w'.cell? ⟨w2.heap.size, 1, none⟩ = some (.int .i64 TT) ∧ w'.cell? ⟨w2.heap.size, 2, none⟩ = some (.int .i64 D) ∧ w'.cell? ⟨w2.heap.size, 3, none⟩ = some (.bool H) ∧ Blk w' w.heap.size #[.int .i64 p, .int .i64 c, .int .i64 h, .int .i64 s] 29 ∧ Blk w' ((w.heap.size + 1)) #[.int .i64 0, .int .i64 0, .int .i64 0, .bool false] 38 ∧ Blk w' w1.heap.size #[.int .u8 v0, .int .u8 v1, .int .u8 v2, .int .u8 v3, .int .u8 v4, .int .u8 v5, .int .u8 v6, .int .u8 v7, .int .u8 v8] 73 ∧ Blk w' w2.heap.size #[.int .i64 F, .int .i64 TT, .int .i64 D, .bool H] 38 ∧ Below w.heap.size w w') (by kernel_rfl) ⟨BV.four.1, BV.four.2.1, BV.four.2.2.1, BV.four.2.2.2.1, BG.four.1, BG.four.2.1, BG.four.2.2.1, BG.four.2.2.2.1, B9.nine11.1, B9.nine11.2.1, B9.nine11.2.2.1, B9.nine11.2.2.2.1, B9.nine11.2.2.2.2.1, B9.nine11.2.2.2.2.2.1, B9.nine11.2.2.2.2.2.2.1, B9.nine11.2.2.2.2.2.2.2.1, B9.nine11.2.2.2.2.2.2.2.2.1, BS.four.1, BS.four.2.1, BS.four.2.2.1, BS.four.2.2.2.1, BV, BG, B9, BS, hb⟩ (fun hHeld => ?_)
      refine wpAnyH_take (i := 0) (oi := { dst := some 20, op := _, type := _, pos := _, after := _, guard := _ }) (v := ?_) rfl (by kernel_rfl) (by kernel_rfl) (by kernel_rfl) (fun _ _ _ h => h) (Or.inl ⟨by rfl, ?_⟩) (by assumption) ?_
      rotate_left
      · intro w hSw
        (try dsimp only at hSw)
        go_simp
        (try (with_reducible rfl))
      try simp only [Act.put, List.setIfInBounds_toArray, List.set_cons_zero, List.set_cons_succ]
      refine wpAnyH_take (i := 1) (oi := { dst := some 21, op := _, type := _, pos := _, after := _, guard := _ }) (v := ?_) rfl (by kernel_rfl) (by kernel_rfl) (by kernel_rfl) (fun _ _ _ h => h) (Or.inl ⟨by rfl, ?_⟩) (by assumption) ?_
      rotate_left
      · intro w hSw
        (try dsimp only at hSw)
        go_simp
        (try (with_reducible rfl))
      try simp only [Act.put, List.setIfInBounds_toArray, List.set_cons_zero, List.set_cons_succ]
      refine wpAnyH_ready (rs := [2]) (by kernel_rfl) (by simp) ?_
      refine AllReadyH.cons (o := { dst := some 22, op := _, type := _, pos := _, after := _, guard := _ }) rfl (fun K hK => ?_) AllReadyH.nil
      go_simp
      -- call
      have BV := hHeld.2.2.2.2.2.2.2.2.2.2.2.2.2.2.2.2.2.2.2.2.2.1
      have BG := hHeld.2.2.2.2.2.2.2.2.2.2.2.2.2.2.2.2.2.2.2.2.2.2.1
      have B9 := hHeld.2.2.2.2.2.2.2.2.2.2.2.2.2.2.2.2.2.2.2.2.2.2.2.1
      have BS := hHeld.2.2.2.2.2.2.2.2.2.2.2.2.2.2.2.2.2.2.2.2.2.2.2.2.1
      have hb := hHeld.2.2.2.2.2.2.2.2.2.2.2.2.2.2.2.2.2.2.2.2.2.2.2.2.2
      clear hHeld
      refine (HP.out _).mono ?_
      rintro e wq1 ⟨rfl, hq1⟩
      replace BV := BV.below hq1
      replace BG := BG.below hq1
      replace B9 := B9.below hq1
      replace BS := BS.below hq1
      replace hb := chain hb hq1
      (try go_wp2_with fail)
      refine hK.out _ _ ⟨BV.four.1, BV.four.2.1, BV.four.2.2.1, BV.four.2.2.2.1, BG.four.1, BG.four.2.1, BG.four.2.2.1, BG.four.2.2.2.1, B9.nine11.1, B9.nine11.2.1, B9.nine11.2.2.1, B9.nine11.2.2.2.1, B9.nine11.2.2.2.2.1, B9.nine11.2.2.2.2.2.1, B9.nine11.2.2.2.2.2.2.1, B9.nine11.2.2.2.2.2.2.2.1, B9.nine11.2.2.2.2.2.2.2.2.1, BS.four.1, BS.four.2.1, BS.four.2.2.1, BS.four.2.2.2.1, BV, BG, B9, BS, hb⟩ (fun hHeld => ?_)
      clear hK K
      try simp only [Act.put, List.setIfInBounds_toArray, List.set_cons_zero, List.set_cons_succ]
      refine wpAnyH_take (i := 3) (oi := { dst := some 23, op := _, type := _, pos := _, after := _, guard := _ }) (v := ?_) rfl (by kernel_rfl) (by kernel_rfl) (by kernel_rfl) (fun _ _ _ h => h) (Or.inl ⟨by rfl, ?_⟩) (by assumption) ?_
      rotate_left
      · intro w hSw
        (try dsimp only at hSw)
        go_simp
        (try (with_reducible rfl))
      try simp only [Act.put, List.setIfInBounds_toArray, List.set_cons_zero, List.set_cons_succ]
      refine wpAnyH_take (i := 4) (oi := { dst := some 24, op := _, type := _, pos := _, after := _, guard := _ }) (v := ?_) rfl (by kernel_rfl) (by kernel_rfl) (by kernel_rfl) (fun _ _ _ h => h) (Or.inl ⟨by rfl, ?_⟩) (by assumption) ?_
      rotate_left
      · intro w hSw
        (try dsimp only at hSw)
        go_simp
        (try (with_reducible rfl))
      try simp only [Act.put, List.setIfInBounds_toArray, List.set_cons_zero, List.set_cons_succ]
      refine wpAnyH_take (i := 5) (oi := { dst := some 25, op := _, type := _, pos := _, after := _, guard := _ }) (v := undef) rfl (by kernel_rfl) (by kernel_rfl) (by kernel_rfl) (fun _ _ _ h => h) (Or.inr ⟨by rfl, rfl⟩) (by assumption) ?_
      try simp only [Act.put, List.setIfInBounds_toArray, List.set_cons_zero, List.set_cons_succ]
      refine wpAnyH_take (i := 6) (oi := { dst := some 26, op := _, type := _, pos := _, after := _, guard := _ }) (v := undef) rfl (by kernel_rfl) (by kernel_rfl) (by kernel_rfl) (fun _ _ _ h => h) (Or.inr ⟨by rfl, rfl⟩) (by assumption) ?_
      try simp only [Act.put, List.setIfInBounds_toArray, List.set_cons_zero, List.set_cons_succ]
      refine wpAnyH_take (i := 7) (oi := { dst := some 27, op := _, type := _, pos := _, after := _, guard := _ }) (v := undef) rfl (by kernel_rfl) (by kernel_rfl) (by kernel_rfl) (fun _ _ _ h => h) (Or.inr ⟨by rfl, rfl⟩) (by assumption) ?_
      try simp only [Act.put, List.setIfInBounds_toArray, List.set_cons_zero, List.set_cons_succ]
      refine wpAnyH_take (i := 8) (oi := { dst := some 28, op := _, type := _, pos := _, after := _, guard := _ }) (v := undef) rfl (by kernel_rfl) (by kernel_rfl) (by kernel_rfl) (fun _ _ _ h => h) (Or.inr ⟨by rfl, rfl⟩) (by assumption) ?_
      try simp only [Act.put, List.setIfInBounds_toArray, List.set_cons_zero, List.set_cons_succ]
      refine wpAnyH_take (i := 9) (oi := { dst := some 29, op := _, type := _, pos := _, after := _, guard := _ }) (v := undef) rfl (by kernel_rfl) (by kernel_rfl) (by kernel_rfl) (fun _ _ _ h => h) (Or.inr ⟨by rfl, rfl⟩) (by assumption) ?_
      try simp only [Act.put, List.setIfInBounds_toArray, List.set_cons_zero, List.set_cons_succ]
      refine wpAnyH_take (i := 10) (oi := { dst := some 30, op := _, type := _, pos := _, after := _, guard := _ }) (v := ?_) rfl (by kernel_rfl) (by kernel_rfl) (by kernel_rfl) (fun _ _ _ h => h) (Or.inl ⟨by rfl, ?_⟩) (by assumption) ?_
      rotate_left
      · intro w hSw
        (try dsimp only at hSw)
        go_simp
        (try (with_reducible rfl))
      try simp only [Act.put, List.setIfInBounds_toArray, List.set_cons_zero, List.set_cons_succ]
      refine wpAnyH_done (by kernel_rfl) ?_ _
      have BV := hHeld.2.2.2.2.2.2.2.2.2.2.2.2.2.2.2.2.2.2.2.2.2.1
      have BG := hHeld.2.2.2.2.2.2.2.2.2.2.2.2.2.2.2.2.2.2.2.2.2.2.1
      have B9 := hHeld.2.2.2.2.2.2.2.2.2.2.2.2.2.2.2.2.2.2.2.2.2.2.2.1
      have BS := hHeld.2.2.2.2.2.2.2.2.2.2.2.2.2.2.2.2.2.2.2.2.2.2.2.2.1
      have hb := hHeld.2.2.2.2.2.2.2.2.2.2.2.2.2.2.2.2.2.2.2.2.2.2.2.2.2
      clear hHeld
      obtain ⟨j0, j1, j2, j3, jf, jl⟩ := BG.four
      obtain ⟨x0, x1, x2, x3, xf, xl⟩ := BS.four
      go_wp2
      refine bodyPost_ret (v := .tuple #[.agg #[.int .i64 0, .int .i64 0, .int .i64 0, .bool false], .bool false]) (by simp [results, Tryd.results44, go_sem, j0, j1, j2, j3]) rfl ?_
      exact ⟨rfl, (((hb.setCell (p := ⟨w.heap.size + 1, 0, none⟩) (by show _ ≤ w.heap.size + 1; omega) _).setCell (p := ⟨w.heap.size + 1, 1, none⟩) (by show _ ≤ w.heap.size + 1; omega) _).setCell (p := ⟨w.heap.size + 1, 2, none⟩) (by show _ ≤ w.heap.size + 1; omega) _).setCell (p := ⟨w.heap.size + 1, 3, none⟩) (by show _ ≤ w.heap.size + 1; omega) _⟩
  · rw [rd_long (by omega) (by omega) (by omega)]
    have hbt := fun W => bytesOfText_long t W (by omega) (by omega)
    have HBT := Lib.hid hbt
    clear hbt hv g hM hE h8
    show Calls Tryd.prog 44 #[.agg #[.int .i64 p, .int .i64 c, .int .i64 h, .int .i64 s], .string t] w fun e w' => e = .returned (.tuple #[.agg #[.int .i64 0, .int .i64 0, .int .i64 0, .bool false], .bool false]) ∧ Below w.heap.size w w'
    go_enter Tryd.func44, Tryd.ntmps44
    go_wp2_with fail
    generalize ((w.alloc (.cells #[.int .i64 p, .int .i64 c, .int .i64 h, .int .i64 s] 29)).alloc (.cells #[.int .i64 0, .int .i64 0, .int .i64 0, .bool false] 38)) = ww0 at *
    refine (HBT.out _).mono ?_
    rintro e w1 ⟨rfl, hb1⟩
    have hb1' := from_alloc_to hb1 (.cells #[.int .u8 0, .int .u8 0, .int .u8 0, .int .u8 0, .int .u8 0, .int .u8 0, .int .u8 0, .int .u8 0, .int .u8 0] 73)
    replace BG := BG.below hb1'
    replace hb := chain hb hb1'
    clear hb1 hb1' HBT
    obtain ⟨j0, j1, j2, j3, jf, jl⟩ := BG.four
    go_wp2
    refine bodyPost_ret (v := .tuple #[.agg #[.int .i64 0, .int .i64 0, .int .i64 0, .bool false], .bool false]) (by simp [results, Tryd.results44, go_sem, j0, j1, j2, j3]) rfl ?_
    exact ⟨rfl, (((hb.setCell (p := ⟨w.heap.size + 1, 0, none⟩) (by show _ ≤ w.heap.size + 1; omega) _).setCell (p := ⟨w.heap.size + 1, 1, none⟩) (by show _ ≤ w.heap.size + 1; omega) _).setCell (p := ⟨w.heap.size + 1, 2, none⟩) (by show _ ≤ w.heap.size + 1; omega) _).setCell (p := ⟨w.heap.size + 1, 3, none⟩) (by show _ ≤ w.heap.size + 1; omega) _⟩
end Go.Proofs.YthfhiggageejbaaDoor
