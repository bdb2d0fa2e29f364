/- Texts of a proof, laid together. -/
import Derived.Test.YtfomfbfcnenhbaaGreatV27
import Derived.Test.YtfomfbfcnenhbaaGreatV25
import Derived.Deep.LoopGhost
import Derived.Deep.AppendLies
namespace Go.Proofs.YtfomfbfcnenhbaaGreat
open Go.ChangeShapes Go.WideShapes Go.ChangeAt Go.RowKit
set_option linter.unusedVariables false
set_option linter.unusedSimpArgs false
set_option maxRecDepth 4000
theorem OwnE.away {w : World} {base g o : Nat} {v u : Value} {l : List PQ} (h : OwnQ w base v l) (hg : g < base) : OwnQ (w.setCell ⟨g, o, none⟩ u) base v l := by
  obtain ⟨h1, h2 | ⟨g', cap, cur, q1, q2, q3, q4⟩⟩ := h
  · exact ⟨h1, .inl h2⟩
  · exact ⟨h1, .inr ⟨g', cap, cur, q1, q2, (Below.heap_setCell w ⟨g, o, none⟩ u g' (by show g' ≠ g; omega)).trans q3, q4⟩⟩
structure Mid (t : Tb) (ws w : World) (X : Nat) (cur : Array Value) (v0 v : Value) (l : List PQ) : Prop where
  gr : Gr t.gR t.gR ws w
  cell : Blk w t.gR (cur.setIfInBounds X v0) 62
  own : OwnQ w ws.heap.size v l
  rows : ∀ x ∈ l, Row w x.1 x.2.2
theorem Mid.below {t : Tb} {ws w w' : World} {X : Nat} {cur : Array Value} {v0 v : Value} {l : List PQ} (h : Mid t ws w X cur v0 v l) (hb : Below w.heap.size w w') : Mid t ws w' X cur v0 v l :=
  ⟨h.gr.then hb, h.cell.below hb, h.own.below hb, fun x hx => (h.rows x hx).below hb⟩
theorem Mid.drew {t : Tb} {ws w : World} {X : Nat} {cur : Array Value} {v0 v : Value} {l : List PQ} (h : Mid t ws w X cur v0 v l) : Mid t ws w.drew X cur v0 v l := h.below (Below.refl _ _).drew
theorem Mid.size {t : Tb} {ws w : World} {X : Nat} {cur : Array Value} {v0 v : Value} {l : List PQ} (h : Mid t ws w X cur v0 v l) : ws.heap.size ≤ w.heap.size := h.gr.size
theorem Gr.weak {gR gC : Nat} {w w' : World} (h : Gr gR gR w w') : Gr gR gC w w' := ⟨h.os, h.tape, h.output, h.size, fun k hk n1 _ => h.block k hk n1 n1⟩
theorem Mid.store {t : Tb} {ws w : World} {X : Nat} {cur : Array Value} {v0 v : Value} {l : List PQ} (h : Mid t ws w X cur v0 v l) (hR : t.gR < ws.heap.size) : Mid t ws (w.setCell ⟨t.gR, X, none⟩ v) X cur v v l := by
  have hg : Gr t.gR t.gR w (w.setCell ⟨t.gR, X, none⟩ v) := Gr.grownR (grown_set (show w.grownBy w (some t.gR) from ⟨rfl, rfl, rfl, Nat.le_refl _, fun _ _ _ => rfl⟩))
  refine ⟨h.gr.trans hg, ?_, h.own.away hR, fun x hx => ?_⟩
  · have := h.cell.set (i := X) v
    simpa using this
  · obtain ⟨c1, hB, r⟩ := h.rows x hx
    exact ⟨c1, hB.other (hB.ne h.cell (by decide)), r⟩
theorem Mid.alloc {t : Tb} {ws w : World} {X : Nat} {cur : Array Value} {v0 v : Value} {l : List PQ} (h : Mid t ws w X cur v0 v l) (o : Obj) : Mid t ws (w.alloc o) X cur v0 v l := h.below ((Below.refl _ _).alloc (Nat.le_refl _) o)
theorem midCell {t : Tb} {ws w : World} {X : Nat} {cur : Array Value} {v0 v : Value} {l : List PQ} (h : Mid t ws w X cur v0 v l) (hX : X < cur.size) : w.cell? ⟨t.gR, X, none⟩ = some v0 := by
  rw [h.cell.cell X, Array.getElem?_setIfInBounds_self, if_pos hX]
theorem midT {t : Tb} {ws w : World} {X : Nat} {cur : Array Value} {v0 v : Value} {l : List PQ} (h : Mid t ws w X cur v0 v l) (hS : TabS t ws) (hT : TabT t ws) : Blk w t.g t.cells 84 := (hS.gr hT h.gr.weak).1
theorem midW {t : Tb} {ws w : World} {X : Nat} {cur : Array Value} {v0 v : Value} {l : List PQ} (h : Mid t ws w X cur v0 v l) (hS : TabS t ws) (hT : TabT t ws) : TabS t w := hS.gr hT h.gr.weak
structure Rsf (W : World) (R n j : Nat) (l : List PQ) : Prop where
  own : ∃ cur, Blk W R cur 26 ∧ cur.size = n ∧ cur.toList = l.flatMap pqC ++ List.replicate (n - j) (.slice none 0 0)
  rows : ∀ x ∈ l, Row W x.1 x.2.2
theorem Rsf.below {W W' : World} {R n j : Nat} {l : List PQ} (h : Rsf W R n j l) (hb : Below W.heap.size W W') : Rsf W' R n j l := by
  obtain ⟨⟨cur, q1, q2, q3⟩, r⟩ := h
  exact ⟨⟨cur, q1.below hb, q2, q3⟩, fun x hx => (r x hx).below hb⟩
theorem Rsf.drew {W : World} {R n j : Nat} {l : List PQ} (h : Rsf W R n j l) : Rsf W.drew R n j l := h.below (Below.refl _ _).drew
theorem Rsf.lt {W : World} {R n j : Nat} {l : List PQ} (h : Rsf W R n j l) : R < W.heap.size := by obtain ⟨⟨cur, q1, _⟩, _⟩ := h; exact q1.lt
theorem Rsf.next {W : World} {R n j : Nat} {l : List PQ} (h : Rsf W R n j l) (hj : j < n) (hl : l.length = j) : W.cell? ⟨R, j, none⟩ = some (.slice none 0 0) ∧ W.frozen? ⟨R, j, none⟩ = false := by
  obtain ⟨⟨cur, q1, q2, q3⟩, r⟩ := h
  refine ⟨?_, q1.free j⟩
  rw [q1.cell j, ← Array.getElem?_toList, q3, List.getElem?_append_right (by rw [pq_len]; omega), pq_len, hl, Nat.sub_self, List.getElem?_replicate, if_pos (by omega)]
theorem Rsf.set {W : World} {R n j : Nat} {l : List PQ} {u : PQ} (h : Rsf W R n j l) (hj : j < n) (hl : l.length = j) (hu : Row W u.1 u.2.2) : Rsf (W.setCell ⟨R, j, none⟩ (pqV u)) R n (j + 1) (l ++ [u]) := by
  obtain ⟨⟨cur, q1, q2, q3⟩, r⟩ := h
  have hk : ∀ (g : Nat) (xs : List Int), Row W g xs → Row (W.setCell ⟨R, j, none⟩ (pqV u)) g xs := fun g xs hr => by
    have hr2 := hr
    obtain ⟨c1, hB, _⟩ := hr2
    exact hr.other (hB.ne q1 (by decide))
  refine ⟨⟨_, q1.set (i := j) (pqV u), by simpa using q2, ?_⟩, fun x hx => ?_⟩
  · rw [Array.toList_setIfInBounds, q3, show n - j = (n - (j + 1)) + 1 by omega, List.replicate_succ, List.set_append_right _ _ (by rw [pq_len]; omega), pq_len, hl, Nat.sub_self, List.set_cons_zero, List.flatMap_append]
    simp [pqC]
  · rcases List.mem_append.1 hx with hx | hx
    · exact hk _ _ (r x hx)
    · simp at hx
      subst hx
      exact hk _ _ hu
theorem Rsf.made {W : World} {R n b : Nat} {l : List PQ} (h : Rsf W R n n l) (hl : l.length = n) (hb : b ≤ R) (hn : n ≤ 1048576) : OwnQ W b (.slice (some ⟨R, 0, none⟩) n n) l := by
  obtain ⟨⟨cur, q1, q2, q3⟩, r⟩ := h
  rw [Nat.sub_self, List.replicate_zero, List.append_nil] at q3
  subst hl
  exact ⟨by rw [pq_len]; omega, .inr ⟨R, l.length, cur, rfl, hb, q1, Nat.le_refl _, by unfold maxLen; omega, by omega, by rw [q3]; exact List.take_of_length_le (by rw [pq_len]; omega)⟩⟩
set_option maxRecDepth 8000 in
set_option maxHeartbeats 2000000 in
theorem resultsFrom_any (t : Tb) (xs : List Int) (X : Nat) (gr n k : Nat) (RL : List Rl) (w : World) (hx : t.In xs) (few : fewB t.c t.h = true) (hX : nm t.c xs = X) (hW : WaysAt w t.gw) (hn : RL.length = n) (hn36 : n ≤ 36) (hRR : RRow w gr RL) (hmem : ∀ r ∈ RL, 1 ≤ r.2 ∧ r.2 ≤ r.1 ∧ r.1 ≤ 6) :
    Calls Tryz.prog 115 #[.agg #[.int .i64 t.p, .int .i64 t.c, .int .i64 t.h, .int .i64 (t.S : Int), .pointer (some ⟨t.gw, 0, none⟩)], .int .i64 X, .slice (some ⟨gr, 0, none⟩) n k] w fun e w' => ∃ q l, e = .returned (.slice (some ⟨q, 0, none⟩) n n) ∧ w.heap.size ≤ q ∧ OwnQ w' w.heap.size (.slice (some ⟨q, 0, none⟩) n n) l ∧ nmQ l = RL.map (nmR t xs) ∧ (∀ x ∈ l, Row w' x.1 x.2.2) ∧ Below w.heap.size w w' := by
  obtain ⟨i0, hi, hz0, hz1, hz2⟩ := info_parts infoQ
  obtain ⟨a1, a2, a3, a4, a5, a6, a7, a8⟩ := hx.1.po
  have hPO : PO xs.length xs := by rw [a4]; exact a1
  have hl1 : 1 ≤ xs.length ∧ xs.length ≤ 24 := by omega
  have BN := Blk.new w #[.int .i64 t.p, .int .i64 t.c, .int .i64 t.h, .int .i64 (t.S : Int), .pointer (some ⟨t.gw, 0, none⟩)] 78
  have hb : Below w.heap.size w (w.alloc (.cells #[.int .i64 t.p, .int .i64 t.c, .int .i64 t.h, .int .i64 (t.S : Int), .pointer (some ⟨t.gw, 0, none⟩)] 78)) := (Below.refl _ _).alloc (Nat.le_refl _) _
  have hv1 : (w.alloc (.cells #[.int .i64 t.p, .int .i64 t.c, .int .i64 t.h, .int .i64 (t.S : Int), .pointer (some ⟨t.gw, 0, none⟩)] 78)).heap.size = w.heap.size + 1 := by simp
  have hpa := Lib.hid (posAt_any t.p t.c t.h (t.S : Int) t.gw xs X (w.alloc (.cells #[.int .i64 t.p, .int .i64 t.c, .int .i64 t.h, .int .i64 (t.S : Int), .pointer (some ⟨t.gw, 0, none⟩)] 78)) hx.1 few hX (hW.below hb))
  have HW := Lib.hid hW
  have HRR := Lib.hid hRR
  have HMEM := Lib.hid hmem
  have HN := Lib.hid hn
  have HIx := Lib.hid hx
  have HPO := Lib.hid (⟨hPO, hl1⟩ : PO xs.length xs ∧ 1 ≤ xs.length ∧ xs.length ≤ 24)
  have hxl : xs.length ≤ 24 := hl1.2
  have n0 : (n : Int) ≤ 36 := by omega
  clear hW hRR hmem hn hx hX hPO hl1 a1 a2 a3 a4 a5 a6 a7 a8
  obtain ⟨c0, c1, c2, c3, c4, cf, cl⟩ := BN.five
  go_enter Tryz.func115, Tryz.ntmps115
  go_wp2_with fail
  refine (hpa.out).mono ?_
  rintro e ws ⟨gp, rfl, hgp, RP, hbp⟩
  clear hpa c0 c1 c2 c3 c4 cf cl
  replace BN := BN.below hbp
  have hbw := chain hb hbp
  have hsw := hbp.size
  rw [hv1] at hsw
  clear hb hbp hv1 hgp
  go_wp2_with (at_make; refine wpList_make_row _ rfl _ _ 62 rfl 26 i0 (.slice none 0 0) Tryz.underlying62 hi hz0 hz1 rfl .i64 .i64 n rfl rfl (by rw [hz2]; omega) (by omega) ?_)
  go_loopg [19] n (fun m i wr => ∃ (j : Nat) (l : List PQ), j ≤ n ∧ m = n - j ∧ i = .int .i64 j ∧ Rsf wr ws.heap.size n j l ∧ nmQ l = (RL.take j).map (nmR t xs) ∧ Blk wr w.heap.size #[.int .i64 t.p, .int .i64 t.c, .int .i64 t.h, .int .i64 (t.S : Int), .pointer (some ⟨t.gw, 0, none⟩)] 78 ∧ Row wr gp xs ∧ Below w.heap.size w wr ∧ ws.heap.size < wr.heap.size)
  case atStart => exact ⟨0, [], by omega, by omega, by go_num, ⟨⟨_, Blk.new ws _ _, by have := congrArg List.length (toList_madeCells_one (.slice none 0 0) n); simpa using this, by rw [toList_madeCells_one]; simp⟩, by simp⟩, by simp, BN.alloc _, RP.alloc _, hbw.alloc (by omega) _, by simp⟩
  case round =>
    clear BN RP hbw
    obtain ⟨j, l, hj, hm, rfl, hM, hnl, BN, RP, hbw, hsr⟩ := hrel
    by_cases hlt : j < n
    · have hlt' : (j : Int) < (n : Int) := by omega
      have j0 : (0 : Int) ≤ (j : Int) := by omega
      obtain ⟨⟨ra, rb⟩, hr⟩ : ∃ r, RL[j]? = some r := ⟨_, List.getElem?_eq_getElem (by rw [HN.out]; exact hlt)⟩
      have hrm := HMEM.out _ (List.mem_of_getElem? hr)
      have hRRw : RRow wr gr RL := VRow.below HRR.out hbw
      obtain ⟨u0, u1⟩ := RRow.two hRRw j _ hr
      have htk : (RL.take (j + 1)).map (nmR t xs) = (RL.take j).map (nmR t xs) ++ [nmR t xs (ra, rb)] := by
        rw [List.take_add_one, hr]
        simp
      have HTK := Lib.hid htk
      dsimp only at hrm u0 u1
      obtain ⟨r1, r2, r3⟩ := hrm
      have HB := Lib.hid (fun (W : World) (r : IRow W (some ⟨gp, 0, none⟩) xs) => bearoffResultsM_any (some ⟨gp, 0, none⟩) xs.length xs.length xs ra rb W rfl HPO.out.2.1 HPO.out.2.2 HPO.out.1 r1 r2 r3 r)
      have HLEN := Lib.hid (show (resI xs (ordersP ra rb)).length ≤ 1048576 by have := resI_len HPO.out.2.1 HPO.out.2.2 HPO.out.1 r1 r2 r3; omega)
      have HPS := Lib.hid (show ∀ z ∈ resI xs (ordersP ra rb), Ps t.p t.c t.h (t.S : Int) z from fun z hz => (HIx.out.1.res (r := (ra, rb)) r1 r2 r3 z hz).1)
      have hll : l.length = j := by
        have := congrArg List.length hnl
        rw [List.length_map, List.length_map, List.length_take, HN.out] at this
        omega
      have HLL := Lib.hid hll
      have HNL := Lib.hid hnl
      have HWr := HW.out.below hbw
      clear hr htk hnl hRRw r1 r2 r3 hll
      go_wp2_with fail
      clear u0 u1
      have hal : Below wr.heap.size wr (wr.alloc (.cells #[.int .i64 ra, .int .i64 rb] 44)) := (Below.refl _ _).alloc (Nat.le_refl _) _
      have BQ := Blk.new wr #[.int .i64 ra, .int .i64 rb] 44
      replace hM := hM.below hal
      replace RP := RP.below hal
      replace BN := BN.below hal
      have hW := HWr.below hal
      replace hbw := chain hbw hal
      obtain ⟨rq, hrq⟩ : ∃ rq, wr.heap.size = rq := ⟨_, rfl⟩
      rw [hrq] at BQ hsr
      (try rw [hrq])
      clear hal HWr
      generalize wr.alloc (.cells #[.int .i64 ra, .int .i64 rb] 44) = wq at *
      have hd_ : wq.drew.heap.size = wq.heap.size := rfl
      replace BN := BN.drew
      replace BQ := BQ.drew
      replace hM := hM.drew
      replace RP := RP.drew
      replace hW := hW.drew
      replace hbw := hbw.drew
      refine wp_region_held_drew (S := fun w' => w'.cell? ⟨w.heap.size, 0, none⟩ = some (.int .i64 t.p) ∧ w'.cell? ⟨w.heap.size, 1, none⟩ = some (.int .i64 t.c) ∧ w'.cell? ⟨w.heap.size, 2, none⟩ = some (.int .i64 t.h) ∧ w'.cell? ⟨w.heap.size, 3, none⟩ = some (.int .i64 (t.S : Int)) ∧ w'.cell? ⟨w.heap.size, 4, none⟩ = some (.pointer (some ⟨t.gw, 0, none⟩)) ∧ w'.cell? ⟨rq, 0, none⟩ = some (.int .i64 ra) ∧ w'.cell? ⟨rq, 1, none⟩ = some (.int .i64 rb)) (by kernel_rfl) ⟨BN.five.1, BN.five.2.1, BN.five.2.2.1, BN.five.2.2.2.1, BN.five.2.2.2.2.1, BQ.two.1, BQ.two.2.1⟩ (fun hHeld => ?_)
      clear hHeld
      generalize wq.drew = vd at *
      have hHeld : vd.cell? ⟨w.heap.size, 0, none⟩ = some (.int .i64 t.p) ∧ vd.cell? ⟨w.heap.size, 1, none⟩ = some (.int .i64 t.c) ∧ vd.cell? ⟨w.heap.size, 2, none⟩ = some (.int .i64 t.h) ∧ vd.cell? ⟨w.heap.size, 3, none⟩ = some (.int .i64 (t.S : Int)) ∧ vd.cell? ⟨w.heap.size, 4, none⟩ = some (.pointer (some ⟨t.gw, 0, none⟩)) ∧ vd.cell? ⟨rq, 0, none⟩ = some (.int .i64 ra) ∧ vd.cell? ⟨rq, 1, none⟩ = some (.int .i64 rb) := ⟨BN.five.1, BN.five.2.1, BN.five.2.2.1, BN.five.2.2.2.1, BN.five.2.2.2.2.1, BQ.two.1, BQ.two.2.1⟩
      refine wpAnyH_take (i := 0) (oi := ⟨some 24, _, _, _, _, _⟩) (v := ?_) rfl (by kernel_rfl) (by kernel_rfl) (by kernel_rfl) (fun _ _ _ h => h) (Or.inl ⟨by rfl, ?_⟩) (by assumption) ?_
      rotate_left
      · intro w hSw; (try dsimp only at hSw); go_simp; (try (with_reducible rfl))
      try simp only [Act.put, List.setIfInBounds_toArray, List.set_cons_zero, List.set_cons_succ]
      refine wpAnyH_take (i := 1) (oi := ⟨some 25, _, _, _, _, _⟩) (v := ?_) rfl (by kernel_rfl) (by kernel_rfl) (by kernel_rfl) (fun _ _ _ h => h) (Or.inl ⟨by rfl, ?_⟩) (by assumption) ?_
      rotate_left
      · intro w hSw; (try dsimp only at hSw); go_simp; (try (with_reducible rfl))
      try simp only [Act.put, List.setIfInBounds_toArray, List.set_cons_zero, List.set_cons_succ]
      refine wpAnyH_take (i := 2) (oi := ⟨some 26, _, _, _, _, _⟩) (v := ?_) rfl (by kernel_rfl) (by kernel_rfl) (by kernel_rfl) (fun _ _ _ h => h) (Or.inl ⟨by rfl, ?_⟩) (by assumption) ?_
      rotate_left
      · intro w hSw; (try dsimp only at hSw); go_simp; (try (with_reducible rfl))
      try simp only [Act.put, List.setIfInBounds_toArray, List.set_cons_zero, List.set_cons_succ]
      refine wpAnyH_take (i := 3) (oi := ⟨some 27, _, _, _, _, _⟩) (v := ?_) rfl (by kernel_rfl) (by kernel_rfl) (by kernel_rfl) (fun _ _ _ h => h) (Or.inl ⟨by rfl, ?_⟩) (by assumption) ?_
      rotate_left
      · intro w hSw; (try dsimp only at hSw); go_simp; (try (with_reducible rfl))
      try simp only [Act.put, List.setIfInBounds_toArray, List.set_cons_zero, List.set_cons_succ]
      refine wpAnyH_take (i := 4) (oi := ⟨some 28, _, _, _, _, _⟩) (v := ?_) rfl (by kernel_rfl) (by kernel_rfl) (by kernel_rfl) (fun _ _ _ h => h) (Or.inl ⟨by rfl, ?_⟩) (by assumption) ?_
      rotate_left
      · intro w hSw; (try dsimp only at hSw); go_simp; (try (with_reducible rfl))
      try simp only [Act.put, List.setIfInBounds_toArray, List.set_cons_zero, List.set_cons_succ]
      refine wpAnyH_ready (rs := [5]) (by kernel_rfl) (by simp) ?_
      refine AllReadyH.cons (o := ⟨some 29, _, _, _, _, _⟩) rfl (fun K hK => ?_) AllReadyH.nil
      go_simp
      refine (HB.out _ RP.irow).mono ?_
      rintro e wa ⟨g5, k5, l5, rfl, hg5, hQ5, hnm5, hA5, hD5, hb5⟩
      have hz_hb5 := hb5.size
      replace BN := BN.below hb5
      replace BQ := BQ.below hb5
      replace hM := hM.below hb5
      replace RP := RP.below hb5
      replace hW := hW.below hb5
      replace hbw := chain hbw hb5
      clear hb5
      (try go_wp2_with fail)
      refine hK.out _ _ ⟨BN.five.1, BN.five.2.1, BN.five.2.2.1, BN.five.2.2.2.1, BN.five.2.2.2.2.1, BQ.two.1, BQ.two.2.1⟩ (fun hHeld => ?_)
      clear hK K
      try simp only [Act.put, List.setIfInBounds_toArray, List.set_cons_zero, List.set_cons_succ]
      refine wpAnyH_ready (rs := [6]) (by kernel_rfl) (by simp) ?_
      refine AllReadyH.cons (o := ⟨some 30, _, _, _, _, _⟩) rfl (fun K hK => ?_) AllReadyH.nil
      go_simp
      have hl5 := nm_len hnm5
      refine (numbersOf_any t g5 l5.length k5 l5 _ rfl (by rw [hl5]; exact HLEN.out) hW hQ5 (fun x hx => ⟨(hA5 x hx).2.2, HPS.out x.2.2 (by rw [← hnm5]; exact List.mem_map.2 ⟨x, hx, rfl⟩)⟩)).mono ?_
      rintro e wb ⟨g6, rfl, hg6, hR6, hb6⟩
      have hz_hb6 := hb6.size
      replace BN := BN.below hb6
      replace BQ := BQ.below hb6
      replace hM := hM.below hb6
      replace RP := RP.below hb6
      replace hW := hW.below hb6
      replace hbw := chain hbw hb6
      rw [hnm5] at hR6
      rw [hl5]
      clear hb6 hQ5 hA5 hD5 hnm5 hl5
      obtain ⟨zs, hzs⟩ : ∃ zs, (resI xs (ordersP ra rb)).map (fun z => (nm t.c z : Int)) = zs := ⟨_, rfl⟩
      rw [hzs] at hR6
      have hlz : (resI xs (ordersP ra rb)).length = zs.length := by rw [← hzs, List.length_map]
      rw [hlz]
      have HZS := Lib.hid hzs
      clear hzs hlz
      (try go_wp2_with fail)
      refine hK.out _ _ ⟨BN.five.1, BN.five.2.1, BN.five.2.2.1, BN.five.2.2.2.1, BN.five.2.2.2.2.1, BQ.two.1, BQ.two.2.1⟩ (fun hHeld => ?_)
      clear hK K
      try simp only [Act.put, List.setIfInBounds_toArray, List.set_cons_zero, List.set_cons_succ]
      refine wpAnyH_take (i := 7) (oi := ⟨some 31, _, _, _, _, _⟩) (v := ?_) rfl (by kernel_rfl) (by kernel_rfl) (by kernel_rfl) (fun _ _ _ h => h) (Or.inl ⟨by rfl, ?_⟩) (by assumption) ?_
      rotate_left
      · intro w hSw; (try dsimp only at hSw); go_simp; (try (with_reducible rfl))
      try simp only [Act.put, List.setIfInBounds_toArray, List.set_cons_zero, List.set_cons_succ]
      refine wpAnyH_ready (rs := [8]) (by kernel_rfl) (by simp) ?_
      refine AllReadyH.cons (o := ⟨none, _, _, _, _, _⟩) rfl (fun K hK => ?_) AllReadyH.nil
      obtain ⟨m0, mf⟩ := hM.next hlt HLL.out
      have HMS := Lib.hid (hM.set (u := (g6, zs.length, zs)) hlt HLL.out hR6)
      have HBN := Lib.hid (show Blk (wb.setCell ⟨ws.heap.size, j, none⟩ (.slice (some ⟨g6, 0, none⟩) zs.length zs.length)) w.heap.size #[.int .i64 t.p, .int .i64 t.c, .int .i64 t.h, .int .i64 (t.S : Int), .pointer (some ⟨t.gw, 0, none⟩)] 78 from BN.other (by omega))
      have HBQ := Lib.hid (show Blk (wb.setCell ⟨ws.heap.size, j, none⟩ (.slice (some ⟨g6, 0, none⟩) zs.length zs.length)) rq #[.int .i64 ra, .int .i64 rb] 44 from BQ.other (by omega))
      have HRP := Lib.hid (show Row (wb.setCell ⟨ws.heap.size, j, none⟩ (.slice (some ⟨g6, 0, none⟩) zs.length zs.length)) gp xs from by obtain ⟨⟨cur, q1, _⟩, _⟩ := hM; have hr := RP; obtain ⟨c1, hB1, _⟩ := hr; exact RP.other (hB1.ne q1 (by decide)))
      have HBW := Lib.hid (hbw.setCell (p := ⟨ws.heap.size, j, none⟩) (by dsimp only; omega) (.slice (some ⟨g6, 0, none⟩) zs.length zs.length))
      go_simp
      (try go_wp2_with fail)
      refine hK.out _ _ ⟨HBN.out.five.1, HBN.out.five.2.1, HBN.out.five.2.2.1, HBN.out.five.2.2.2.1, HBN.out.five.2.2.2.2.1, HBQ.out.two.1, HBQ.out.two.2.1⟩ (fun hHeld => ?_)
      clear hK K
      try simp only [Act.put, List.setIfInBounds_toArray, List.set_cons_zero, List.set_cons_succ]
      refine wpAnyH_done (by kernel_rfl) ?_ _
      clear hHeld
      go_wp2
      go_roundg (n - (j + 1))
      case measure => omega
      case rel => exact ⟨j + 1, l ++ [(g6, zs.length, zs)], by omega, rfl, by go_num, HMS.out, by rw [HTK.out, ← HNL.out, ← show nmR t xs (ra, rb) = zs from HZS.out]; simp, HBN.out, HRP.out, HBW.out, HMS.out.lt⟩
    · obtain rfl : j = n := by omega
      have hnl2 : nmQ l = RL.map (nmR t xs) := by rw [hnl, List.take_of_length_le (by rw [HN.out]; exact Nat.le_refl _)]
      have hll : l.length = j := by
        have := congrArg List.length hnl2
        rw [List.length_map, List.length_map, HN.out] at this
        exact this
      have HF := Lib.hid (⟨hM.made hll (by omega) (by omega), hnl2, hM.rows, hbw⟩ : OwnQ wr w.heap.size (.slice (some ⟨ws.heap.size, 0, none⟩) j j) l ∧ nmQ l = RL.map (nmR t xs) ∧ (∀ x ∈ l, Row wr x.1 x.2.2) ∧ Below w.heap.size w wr)
      clear hnl hnl2 hM hbw hll
      go_wp2
      go_ret
      exact ⟨_, l, rfl, by omega, HF.out⟩
end Go.Proofs.YtfomfbfcnenhbaaGreat
