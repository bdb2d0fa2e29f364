/- Texts of a proof, laid together. -/
import Derived.Test.YtnlclmlnpkncoaaGreatW23
import Derived.Test.YtnlclmlnpkncoaaGreatW19
import Derived.Deep.LoopGhost
import Derived.Deep.AppendLies
namespace Go.Proofs.YtnlclmlnpkncoaaGreat
open Go.ChangeShapes Go.WideShapes Go.ChangeAt Go.RowKit
set_option linter.unusedVariables false
set_option linter.unusedSimpArgs false
set_option maxRecDepth 4000
theorem OwnE.away {w : World} {base g o : Nat} {v u : Value} {l : List PQ} (h : OwnQ w base v l) (hg : g < base) : OwnQ (w.setCell ⟨g, o, none⟩ u) base v l := by
  obtain ⟨h1, h2 | ⟨g', cap, cur, q1, q2, q3, q4⟩⟩ := h
  · exact ⟨h1, .inl h2⟩
  · exact ⟨h1, .inr ⟨g', cap, cur, q1, q2, (Below.heap_setCell w ⟨g, o, none⟩ u g' (by show g' ≠ g; omega)).trans q3, q4⟩⟩
structure Mid (t : Tb) (ws w : World) (X : Nat) (cur : Array Value) (v0 v : Value) (l : List PQ) : Prop where
  gr : Gr t.gR t.gR ws w
  cell : Blk w t.gR (cur.setIfInBounds X v0) 48
  own : OwnQ w ws.heap.size v l
  rows : ∀ x ∈ l, Row w x.1 x.2.2
theorem Mid.below {t : Tb} {ws w w' : World} {X : Nat} {cur : Array Value} {v0 v : Value} {l : List PQ} (h : Mid t ws w X cur v0 v l) (hb : Below w.heap.size w w') : Mid t ws w' X cur v0 v l :=
  ⟨h.gr.then hb, h.cell.below hb, h.own.below hb, fun x hx => (h.rows x hx).below hb⟩
theorem Mid.drew {t : Tb} {ws w : World} {X : Nat} {cur : Array Value} {v0 v : Value} {l : List PQ} (h : Mid t ws w X cur v0 v l) : Mid t ws w.drew X cur v0 v l := h.below (Below.refl _ _).drew
theorem Mid.size {t : Tb} {ws w : World} {X : Nat} {cur : Array Value} {v0 v : Value} {l : List PQ} (h : Mid t ws w X cur v0 v l) : ws.heap.size ≤ w.heap.size := h.gr.size
theorem Gr.weak {gR gC : Nat} {w w' : World} (h : Gr gR gR w w') : Gr gR gC w w' := ⟨h.os, h.tape, h.output, h.size, fun k hk n1 _ => h.block k hk n1 n1⟩
theorem Mid.store {t : Tb} {ws w : World} {X : Nat} {cur : Array Value} {v0 v : Value} {l : List PQ} (h : Mid t ws w X cur v0 v l) (hR : t.gR < ws.heap.size) : Mid t ws (w.setCell ⟨t.gR, X, none⟩ v) X cur v v l := by
  have hg : Gr t.gR t.gR w (w.setCell ⟨t.gR, X, none⟩ v) := Gr.grownR (grown_set (show w.grownBy w (some t.gR) from ⟨rfl, rfl, rfl, Nat.le_refl _, fun _ _ _ => rfl⟩))
  refine ⟨h.gr.trans hg, ?_, h.own.away hR, fun x hx => ?_⟩
  · have := h.cell.set (i := X) v
    simpa using this
  · obtain ⟨c1, hB, r⟩ := h.rows x hx
    exact ⟨c1, hB.other (hB.ne h.cell (by decide)), r⟩
theorem Mid.alloc {t : Tb} {ws w : World} {X : Nat} {cur : Array Value} {v0 v : Value} {l : List PQ} (h : Mid t ws w X cur v0 v l) (o : Obj) : Mid t ws (w.alloc o) X cur v0 v l := h.below ((Below.refl _ _).alloc (Nat.le_refl _) o)
theorem midCell {t : Tb} {ws w : World} {X : Nat} {cur : Array Value} {v0 v : Value} {l : List PQ} (h : Mid t ws w X cur v0 v l) (hX : X < cur.size) : w.cell? ⟨t.gR, X, none⟩ = some v0 := by
  rw [h.cell.cell X, Array.getElem?_setIfInBounds_self, if_pos hX]
theorem midT {t : Tb} {ws w : World} {X : Nat} {cur : Array Value} {v0 v : Value} {l : List PQ} (h : Mid t ws w X cur v0 v l) (hS : TabS t ws) (hT : TabT t ws) : Blk w t.g t.cells 71 := (hS.gr hT h.gr.weak).1
theorem midW {t : Tb} {ws w : World} {X : Nat} {cur : Array Value} {v0 v : Value} {l : List PQ} (h : Mid t ws w X cur v0 v l) (hS : TabS t ws) (hT : TabT t ws) : TabS t w := hS.gr hT h.gr.weak
structure Rsf (W : World) (R n j : Nat) (l : List PQ) : Prop where
  own : ∃ cur, Blk W R cur 26 ∧ cur.size = n ∧ cur.toList = l.flatMap pqC ++ List.replicate (n - j) (.slice none 0 0)
  rows : ∀ x ∈ l, Row W x.1 x.2.2
theorem Rsf.below {W W' : World} {R n j : Nat} {l : List PQ} (h : Rsf W R n j l) (hb : Below W.heap.size W W') : Rsf W' R n j l := by
  obtain ⟨⟨cur, q1, q2, q3⟩, r⟩ := h
  exact ⟨⟨cur, q1.below hb, q2, q3⟩, fun x hx => (r x hx).below hb⟩
theorem Rsf.drew {W : World} {R n j : Nat} {l : List PQ} (h : Rsf W R n j l) : Rsf W.drew R n j l := h.below (Below.refl _ _).drew
theorem Rsf.lt {W : World} {R n j : Nat} {l : List PQ} (h : Rsf W R n j l) : R < W.heap.size := by obtain ⟨⟨cur, q1, _⟩, _⟩ := h; exact q1.lt
theorem Rsf.next {W : World} {R n j : Nat} {l : List PQ} (h : Rsf W R n j l) (hj : j < n) (hl : l.length = j) : W.cell? ⟨R, j, none⟩ = some (.slice none 0 0) ∧ W.frozen? ⟨R, j, none⟩ = false := by
  obtain ⟨⟨cur, q1, q2, q3⟩, r⟩ := h
  refine ⟨?_, q1.free j⟩
  rw [q1.cell j, ← Array.getElem?_toList, q3, List.getElem?_append_right (by rw [pq_len]; omega), pq_len, hl, Nat.sub_self, List.getElem?_replicate, if_pos (by omega)]
theorem Rsf.set {W : World} {R n j : Nat} {l : List PQ} {u : PQ} (h : Rsf W R n j l) (hj : j < n) (hl : l.length = j) (hu : Row W u.1 u.2.2) : Rsf (W.setCell ⟨R, j, none⟩ (pqV u)) R n (j + 1) (l ++ [u]) := by
  obtain ⟨⟨cur, q1, q2, q3⟩, r⟩ := h
  have hk : ∀ (g : Nat) (xs : List Int), Row W g xs → Row (W.setCell ⟨R, j, none⟩ (pqV u)) g xs := fun g xs hr => by
    have hr2 := hr
    obtain ⟨c1, hB, _⟩ := hr2
    exact hr.other (hB.ne q1 (by decide))
  refine ⟨⟨_, q1.set (i := j) (pqV u), by simpa using q2, ?_⟩, fun x hx => ?_⟩
  · rw [Array.toList_setIfInBounds, q3, show n - j = (n - (j + 1)) + 1 by omega, List.replicate_succ, List.set_append_right _ _ (by rw [pq_len]; omega), pq_len, hl, Nat.sub_self, List.set_cons_zero, List.flatMap_append]
    simp [pqC]
  · rcases List.mem_append.1 hx with hx | hx
    · exact hk _ _ (r x hx)
    · simp at hx
      subst hx
      exact hk _ _ hu
theorem Rsf.made {W : World} {R n b : Nat} {l : List PQ} (h : Rsf W R n n l) (hl : l.length = n) (hb : b ≤ R) (hn : n ≤ 1048576) : OwnQ W b (.slice (some ⟨R, 0, none⟩) n n) l := by
  obtain ⟨⟨cur, q1, q2, q3⟩, r⟩ := h
  rw [Nat.sub_self, List.replicate_zero, List.append_nil] at q3
  subst hl
  exact ⟨by rw [pq_len]; omega, .inr ⟨R, l.length, cur, rfl, hb, q1, Nat.le_refl _, by unfold maxLen; omega, by omega, by rw [q3]; exact List.take_of_length_le (by rw [pq_len]; omega)⟩⟩
set_option maxRecDepth 8000 in
set_option maxHeartbeats 2000000 in
theorem resultsFrom_any (t : Tb) (xs : List Int) (X : Nat) (gr n k : Nat) (RL : List Rl) (w : World) (hx : t.In xs) (few : fewB t.c t.h = true) (hX : nm t.c xs = X) (hW : WaysAt w t.gw) (hn : RL.length = n) (hn36 : n ≤ 36) (hRR : RRow w gr RL) (hmem : ∀ r ∈ RL, 1 ≤ r.2 ∧ r.2 ≤ r.1 ∧ r.1 ≤ 6) :
    Calls Tryz.prog 61 #[.agg #[.int .i64 t.p, .int .i64 t.c, .int .i64 t.h, .int .i64 (t.S : Int), .pointer (some ⟨t.gw, 0, none⟩)], .int .i64 X, .slice (some ⟨gr, 0, none⟩) n k] w fun e w' => ∃ q l, e = .returned (.slice (some ⟨q, 0, none⟩) n n) ∧ w.heap.size ≤ q ∧ OwnQ w' w.heap.size (.slice (some ⟨q, 0, none⟩) n n) l ∧ nmQ l = RL.map (nmR t xs) ∧ (∀ x ∈ l, Row w' x.1 x.2.2) ∧ Below w.heap.size w w' := by
  obtain ⟨i0, hi, hz0, hz1, hz2⟩ := info_parts infoQ
  obtain ⟨a1, a2, a3, a4, a5, a6, a7, a8⟩ := hx.1.po
  have hPO : PO xs.length xs := by rw [a4]; exact a1
  have hl1 : 1 ≤ xs.length ∧ xs.length ≤ 24 := by omega
  have BN := Blk.new w #[.int .i64 t.p, .int .i64 t.c, .int .i64 t.h, .int .i64 (t.S : Int), .pointer (some ⟨t.gw, 0, none⟩)] 63
  have hb : Below w.heap.size w (w.alloc (.cells #[.int .i64 t.p, .int .i64 t.c, .int .i64 t.h, .int .i64 (t.S : Int), .pointer (some ⟨t.gw, 0, none⟩)] 63)) := (Below.refl _ _).alloc (Nat.le_refl _) _
  have hv1 : (w.alloc (.cells #[.int .i64 t.p, .int .i64 t.c, .int .i64 t.h, .int .i64 (t.S : Int), .pointer (some ⟨t.gw, 0, none⟩)] 63)).heap.size = w.heap.size + 1 := by simp
  have hpa := Lib.hid (posAt_any t.p t.c t.h (t.S : Int) t.gw xs X (w.alloc (.cells #[.int .i64 t.p, .int .i64 t.c, .int .i64 t.h, .int .i64 (t.S : Int), .pointer (some ⟨t.gw, 0, none⟩)] 63)) hx.1 few hX (hW.below hb))
  have HW := Lib.hid hW
  have HRR := Lib.hid hRR
  have HMEM := Lib.hid hmem
  have HN := Lib.hid hn
  have HIx := Lib.hid hx
  have HPO := Lib.hid (⟨hPO, hl1⟩ : PO xs.length xs ∧ 1 ≤ xs.length ∧ xs.length ≤ 24)
  have hxl : xs.length ≤ 24 := hl1.2
  have n0 : (n : Int) ≤ 36 := by omega
  clear hW hRR hmem hn hx hX hPO hl1 a1 a2 a3 a4 a5 a6 a7 a8
  obtain ⟨c0, c1, c2, c3, c4, cf, cl⟩ := BN.five
  go_enter Tryz.func61, Tryz.ntmps61
  go_wp2_with fail
  refine (hpa.out).mono ?_
  rintro e ws ⟨gp, rfl, hgp, RP, hbp⟩
  clear hpa c0 c1 c2 c3 c4 cf cl
  replace BN := BN.below hbp
  have hbw := chain hb hbp
  have hsw := hbp.size
  rw [hv1] at hsw
  clear hb hbp hv1 hgp
  go_wp2_with (at_make; refine wpList_make_row _ rfl _ _ 48 rfl 26 i0 (.slice none 0 0) Tryz.underlying48 hi hz0 hz1 rfl .i64 .i64 n rfl rfl (by rw [hz2]; omega) (by omega) ?_)
  go_loopg [19] n (fun m i wr => ∃ (j : Nat) (l : List PQ), j ≤ n ∧ m = n - j ∧ i = .int .i64 j ∧ Rsf wr ws.heap.size n j l ∧ nmQ l = (RL.take j).map (nmR t xs) ∧ Blk wr w.heap.size #[.int .i64 t.p, .int .i64 t.c, .int .i64 t.h, .int .i64 (t.S : Int), .pointer (some ⟨t.gw, 0, none⟩)] 63 ∧ Row wr gp xs ∧ Below w.heap.size w wr ∧ ws.heap.size < wr.heap.size)
  case atStart => exact ⟨0, [], by omega, by omega, by go_num, ⟨⟨_, Blk.new ws _ _, by have := congrArg List.length (toList_madeCells_one (.slice none 0 0) n); simpa using this, by rw [toList_madeCells_one]; simp⟩, by simp⟩, by simp, BN.alloc _, RP.alloc _, hbw.alloc (by omega) _, by simp⟩
  case round =>
    clear BN RP hbw
    obtain ⟨j, l, hj, hm, rfl, hM, hnl, BN, RP, hbw, hsr⟩ := hrel
    by_cases hlt : j < n
    · have hlt' : (j : Int) < (n : Int) := by omega
      have j0 : (0 : Int) ≤ (j : Int) := by omega
      obtain ⟨⟨ra, rb⟩, hr⟩ : ∃ r, RL[j]? = some r := ⟨_, List.getElem?_eq_getElem (by rw [HN.out]; exact hlt)⟩
      have hrm := HMEM.out _ (List.mem_of_getElem? hr)
      have hRRw : RRow wr gr RL := VRow.below HRR.out hbw
      obtain ⟨u0, u1⟩ := RRow.two hRRw j _ hr
      have htk : (RL.take (j + 1)).map (nmR t xs) = (RL.take j).map (nmR t xs) ++ [nmR t xs (ra, rb)] := by
        rw [List.take_add_one, hr]
        simp
      have HTK := Lib.hid htk
      dsimp only at hrm u0 u1
      obtain ⟨r1, r2, r3⟩ := hrm
      have HB := Lib.hid (fun (W : World) (r : IRow W (some ⟨gp, 0, none⟩) xs) => bearoffResultsM_any (some ⟨gp, 0, none⟩) xs.length xs.length xs ra rb W rfl HPO.out.2.1 HPO.out.2.2 HPO.out.1 r1 r2 r3 r)
      have HLEN := Lib.hid (show (resI xs (ordersP ra rb)).length ≤ 1048576 by have := resI_len HPO.out.2.1 HPO.out.2.2 HPO.out.1 r1 r2 r3; omega)
      have HPS := Lib.hid (show ∀ z ∈ resI xs (ordersP ra rb), Ps t.p t.c t.h (t.S : Int) z from fun z hz => (HIx.out.1.res (r := (ra, rb)) r1 r2 r3 z hz).1)
      have hll : l.length = j := by
        have := congrArg List.length hnl
        rw [List.length_map, List.length_map, List.length_take, HN.out] at this
        omega
      have HLL := Lib.hid hll
      have HNL := Lib.hid hnl
      have HWr := HW.out.below hbw
      clear hr htk hnl hRRw r1 r2 r3 hll
      go_wp2_with fail
      clear u0 u1
      have hal : Below wr.heap.size wr (wr.alloc (.cells #[.int .i64 ra, .int .i64 rb] 39)) := (Below.refl _ _).alloc (Nat.le_refl _) _
      have BQ := Blk.new wr #[.int .i64 ra, .int .i64 rb] 39
      replace hM := hM.below hal
      replace RP := RP.below hal
      replace BN := BN.below hal
      have hW := HWr.below hal
      replace hbw := chain hbw hal
      obtain ⟨rq, hrq⟩ : ∃ rq, wr.heap.size = rq := ⟨_, rfl⟩
      rw [hrq] at BQ hsr
      (try rw [hrq])
      clear hal HWr
      generalize wr.alloc (.cells #[.int .i64 ra, .int .i64 rb] 39) = wq at *
      have hd_ : wq.drew.heap.size = wq.heap.size := rfl
      replace BN := BN.drew
      replace BQ := BQ.drew
      replace hM := hM.drew
      replace RP := RP.drew
      replace hW := hW.drew
      replace hbw := hbw.drew
      refine wp_region_held_drew (S := fun w' => w'.cell? ⟨w.heap.size, 0, none⟩ = some (.int .i64 t.p) ∧ w'.cell? ⟨w.heap.size, 1, none⟩ = some (.int .i64 t.c) ∧ w'.cell? ⟨w.heap.size, 2, none⟩ = some (.int .i64 t.h) ∧ w'.cell? ⟨w.heap.size, 3, none⟩ = some (.int .i64 (t.S : Int)) ∧ w'.cell? ⟨w.heap.size, 4, none⟩ = some (.pointer (some ⟨t.gw, 0, none⟩)) ∧ w'.cell? ⟨rq, 0, none⟩ = some (.int .i64 ra) ∧ w'.cell? ⟨rq, 1, none⟩ = some (.int .i64 rb)) (by kernel_rfl) ⟨BN.five.1, BN.five.2.1, BN.five.2.2.1, BN.five.2.2.2.1, BN.five.2.2.2.2.1, BQ.two.1, BQ.two.2.1⟩ (fun hHeld => ?_)
      clear hHeld
      generalize wq.drew = vd at *
      have hHeld : vd.cell? ⟨w.heap.size, 0, none⟩ = some (.int .i64 t.p) ∧ vd.cell? ⟨w.heap.size, 1, none⟩ = some (.int .i64 t.c) ∧ vd.cell? ⟨w.heap.size, 2, none⟩ = some (.int .i64 t.h) ∧ vd.cell? ⟨w.heap.size, 3, none⟩ = some (.int .i64 (t.S : Int)) ∧ vd.cell? ⟨w.heap.size, 4, none⟩ = some (.pointer (some ⟨t.gw, 0, none⟩)) ∧ vd.cell? ⟨rq, 0, none⟩ = some (.int .i64 ra) ∧ vd.cell? ⟨rq, 1, none⟩ = some (.int .i64 rb) := ⟨BN.five.1, BN.five.2.1, BN.five.2.2.1, BN.five.2.2.2.1, BN.five.2.2.2.2.1, BQ.two.1, BQ.two.2.1⟩
      refine tk 0 24 ?_
      refine tk 1 25 ?_
      refine tk 2 26 ?_
      refine tk 3 27 ?_
      refine tk 4 28 ?_
      refine rdk 5 29 fun K hK => ?_
      go_simp
      refine (HB.out _ RP.irow).mono ?_
      rintro e wa ⟨g5, k5, l5, rfl, hg5, hQ5, hnm5, hA5, hD5, hb5⟩
      have hz_hb5 := hb5.size
      replace BN := BN.below hb5
      replace BQ := BQ.below hb5
      replace hM := hM.below hb5
      replace RP := RP.below hb5
      replace hW := hW.below hb5
      replace hbw := chain hbw hb5
      clear hb5
      (try go_wp2_with fail)
      refine hko hK ⟨BN.five.1, BN.five.2.1, BN.five.2.2.1, BN.five.2.2.2.1, BN.five.2.2.2.2.1, (Blk.l2 BQ)⟩ fun hHeld => ?_
      clear hK K
      refine rdk 6 30 fun K hK => ?_
      go_simp
      have hl5 := nm_len hnm5
      refine (numbersOf_any t g5 l5.length k5 l5 _ rfl (by rw [hl5]; exact HLEN.out) hW hQ5 (fun x hx => ⟨(hA5 x hx).2.2, HPS.out x.2.2 (by rw [← hnm5]; exact List.mem_map.2 ⟨x, hx, rfl⟩)⟩)).mono ?_
      rintro e wb ⟨g6, rfl, hg6, hR6, hb6⟩
      have hz_hb6 := hb6.size
      replace BN := BN.below hb6
      replace BQ := BQ.below hb6
      replace hM := hM.below hb6
      replace RP := RP.below hb6
      replace hW := hW.below hb6
      replace hbw := chain hbw hb6
      rw [hnm5] at hR6
      rw [hl5]
      clear hb6 hQ5 hA5 hD5 hnm5 hl5
      obtain ⟨zs, hzs⟩ : ∃ zs, (resI xs (ordersP ra rb)).map (fun z => (nm t.c z : Int)) = zs := ⟨_, rfl⟩
      rw [hzs] at hR6
      have hlz : (resI xs (ordersP ra rb)).length = zs.length := by rw [← hzs, List.length_map]
      rw [hlz]
      have HZS := Lib.hid hzs
      clear hzs hlz
      (try go_wp2_with fail)
      refine hko hK ⟨BN.five.1, BN.five.2.1, BN.five.2.2.1, BN.five.2.2.2.1, BN.five.2.2.2.2.1, (Blk.l2 BQ)⟩ fun hHeld => ?_
      clear hK K
      refine tk 7 31 ?_
      refine rdn 8 fun K hK => ?_
      obtain ⟨m0, mf⟩ := hM.next hlt HLL.out
      have HMS := Lib.hid (hM.set (u := (g6, zs.length, zs)) hlt HLL.out hR6)
      have HBN := Lib.hid (show Blk (wb.setCell ⟨ws.heap.size, j, none⟩ (.slice (some ⟨g6, 0, none⟩) zs.length zs.length)) w.heap.size #[.int .i64 t.p, .int .i64 t.c, .int .i64 t.h, .int .i64 (t.S : Int), .pointer (some ⟨t.gw, 0, none⟩)] 63 from BN.other (by omega))
      have HBQ := Lib.hid (show Blk (wb.setCell ⟨ws.heap.size, j, none⟩ (.slice (some ⟨g6, 0, none⟩) zs.length zs.length)) rq #[.int .i64 ra, .int .i64 rb] 39 from BQ.other (by omega))
      have HRP := Lib.hid (show Row (wb.setCell ⟨ws.heap.size, j, none⟩ (.slice (some ⟨g6, 0, none⟩) zs.length zs.length)) gp xs from by obtain ⟨⟨cur, q1, _⟩, _⟩ := hM; have hr := RP; obtain ⟨c1, hB1, _⟩ := hr; exact RP.other (hB1.ne q1 (by decide)))
      have HBW := Lib.hid (hbw.setCell (p := ⟨ws.heap.size, j, none⟩) (by dsimp only; omega) (.slice (some ⟨g6, 0, none⟩) zs.length zs.length))
      go_simp
      (try go_wp2_with fail)
      refine hko hK ⟨HBN.out.five.1, HBN.out.five.2.1, HBN.out.five.2.2.1, HBN.out.five.2.2.2.1, HBN.out.five.2.2.2.2.1, (Blk.l2 HBQ.out)⟩ fun hHeld => ?_
      clear hK K
      refine wpAnyH_done (by kernel_rfl) ?_ _
      clear hHeld
      go_wp2
      go_roundg (n - (j + 1))
      case measure => omega
      case rel => exact ⟨j + 1, l ++ [(g6, zs.length, zs)], by omega, rfl, by go_num, HMS.out, by rw [HTK.out, ← HNL.out, ← show nmR t xs (ra, rb) = zs from HZS.out]; simp, HBN.out, HRP.out, HBW.out, HMS.out.lt⟩
    · obtain rfl : j = n := by omega
      have hnl2 : nmQ l = RL.map (nmR t xs) := by rw [hnl, List.take_of_length_le (by rw [HN.out]; exact Nat.le_refl _)]
      have hll : l.length = j := by
        have := congrArg List.length hnl2
        rw [List.length_map, List.length_map, HN.out] at this
        exact this
      have HF := Lib.hid (⟨hM.made hll (by omega) (by omega), hnl2, hM.rows, hbw⟩ : OwnQ wr w.heap.size (.slice (some ⟨ws.heap.size, 0, none⟩) j j) l ∧ nmQ l = RL.map (nmR t xs) ∧ (∀ x ∈ l, Row wr x.1 x.2.2) ∧ Below w.heap.size w wr)
      clear hnl hnl2 hM hbw hll
      go_wp2
      go_ret
      exact ⟨_, l, rfl, by omega, HF.out⟩
theorem set_same {cur : Array Value} {X : Nat} {v : Value} (h : cur[X]? = some v) : cur.setIfInBounds X v = cur := by
  apply Array.ext_getElem?
  intro i
  by_cases e : X = i
  · subst e
    rw [Array.getElem?_setIfInBounds_self, if_pos (Array.getElem?_eq_some_iff.1 h).1, h]
  · rw [Array.getElem?_setIfInBounds_ne e]
theorem ChI.keepR {t : Tb} {w w' : World} (h : ChI t w) (k : RsI t w) (hg : Gr t.gR t.gR w w') : ChI t w' := by
  have hT := h.tab k
  obtain ⟨⟨a, ha⟩, _⟩ := id hT
  obtain ⟨cur, hB, r⟩ := h
  refine ⟨cur, hB.gr hg (hB.ne ha (by decide)) (hB.ne ha (by decide)), fun xs ys h1 h2 => ?_⟩
  obtain ⟨v, e, q⟩ := r xs ys h1 h2
  exact ⟨v, e, q.gr hT hg.weak⟩
theorem Mid.done {t : Tb} {ws w : World} {xs : List Int} {cur : Array Value} {v : Value} {l : List PQ} (h : Mid t ws w (nm t.c xs) cur v v l) (hI : TabI t ws) (hx : t.In xs) (hS : 1 ≤ t.S) (hcur : Blk ws t.gR cur 48) (hold : ∀ ys, t.In ys → ∃ u, cur[nm t.c ys]? = some u ∧ RsC t ws u ys) (hn : nmQ l = (rollsTo t.S).map (nmR t xs)) :
    TabI t w ∧ ∃ q k, v = .slice (some ⟨q, 0, none⟩) (rollsTo t.S).length k ∧ QRow w q l := by
  have hlen : l.length = (rollsTo t.S).length := by have := congrArg List.length hn; rwa [List.length_map, List.length_map] at this
  have hpos : 0 < (rollsTo t.S).length := by
    have := rollsTo_len2 t.S
    have := Nat.mul_pos hS (show 0 < t.S + 1 by omega)
    omega
  obtain ⟨q, k, hv⟩ := OwnQ.some h.own (by omega)
  have hQ : QRow w q l := by
    have := h.own
    rw [hv] at this
    exact (OwnQ.row this).2.2.1
  rw [hlen] at hv
  refine ⟨⟨midW h hI.st hI.tab, hI.ch.keepR hI.rs h.gr, ?_⟩, q, k, hv, hQ⟩
  refine ⟨_, h.cell, fun ys hy => ?_⟩
  by_cases e : nm t.c ys = nm t.c xs
  · have := nm_inj hy.1 hx.1 e
    subst this
    obtain ⟨u, hu, _⟩ := hold ys hy
    refine ⟨v, ?_, .inr ⟨q, k, l, hv, hQ, hn, h.rows⟩⟩
    rw [Array.getElem?_setIfInBounds_self, if_pos (Array.getElem?_eq_some_iff.1 hu).1]
  · obtain ⟨u, hu, hc⟩ := hold ys hy
    refine ⟨u, ?_, hc.gr hI.tab h.gr.weak⟩
    rw [Array.getElem?_setIfInBounds_ne (fun q => e q.symm)]
    exact hu
set_option maxRecDepth 8000 in
set_option maxHeartbeats 2000000 in
theorem resultsOf_any (t : Tb) (xs : List Int) (X : Nat) (w : World) (hI : TabI t w) (hx : t.In xs) (hS : 1 ≤ t.S ∧ t.S ≤ 6) (few : fewB t.c t.h = true) (hX : nm t.c xs = X) :
    Calls Tryz.prog 24 #[.pointer (some ⟨t.g, 0, none⟩), .int .i64 X] w fun e w' => ∃ q k l, e = .returned (.slice (some ⟨q, 0, none⟩) (rollsTo t.S).length k) ∧ QRow w' q l ∧ nmQ l = (rollsTo t.S).map (nmR t xs) ∧ (∀ x ∈ l, Row w' x.1 x.2.2) ∧ TabI t w' ∧ GA t w w' := by
  obtain ⟨cur, hcur, hold⟩ := hI.rs
  obtain ⟨v0, hv0, hc⟩ := hold xs hx
  have hXK : X < t.K := by rw [← hX]; exact hx.2
  rw [hX] at hv0
  have hXk := (Array.getElem?_eq_some_iff.1 hv0).1
  have hXI : (X : Int) < (t.K : Int) := by omega
  have hX0 : (0 : Int) ≤ (X : Int) := by omega
  have BT := hI.st.1
  have cX : w.cell? ⟨t.gR, X, none⟩ = some v0 := by rw [hcur.cell X, hv0]
  rcases hc with rfl | ⟨q, k, l, rfl, hQ, hn, hrow⟩
  rotate_left
  · have hnil : ∀ W : World, (binOp .eql 48 (.slice (some ⟨q, 0, none⟩) (rollsTo t.S).length k) (.slice none 0 0)).run Tryz.prog W = .ok (.bool false) W := fun W => Lib.run_eql_slice_nil W _ _ _ _ _ _ _ Tryz.underlying48
    have HI := Lib.hid hI
    have HH := Lib.hid (⟨hQ, hn, hrow⟩ : QRow w q l ∧ nmQ l = (rollsTo t.S).map (nmR t xs) ∧ ∀ x ∈ l, Row w x.1 x.2.2)
    obtain ⟨c0, c1, c2, c3, c4, c5, c6, c7, c8, c9, c10, c11, c12, cf, cl⟩ := BT.thirteen
    clear hI hold hQ hn hrow hv0 hcur
    go_enter Tryz.func24, Tryz.ntmps24
    go_wp2
    go_ret
    exact ⟨q, k, l, rfl, HH.out.1, HH.out.2.1, HH.out.2.2, HI.out, GA.refl _ _⟩
  · have hnil : ∀ W : World, (binOp .eql 48 (.slice none 0 0) (.slice none 0 0)).run Tryz.prog W = .ok (.bool true) W := fun W => Lib.run_eql_slice_nil W _ _ _ _ _ _ _ Tryz.underlying48
    obtain ⟨a1, a2, a3, a4, a5, a6, a7, a8⟩ := hx.1.po
    have hPO : PO xs.length xs := by rw [a4]; exact a1
    have hl1 : 1 ≤ xs.length ∧ xs.length ≤ 24 := by omega
    have hlen2 := rollsTo_len2 t.S
    have hlen3 := rollsTo_length t.S
    have hpos : 0 < (rollsTo t.S).length := by
      have := Nat.mul_pos hS.1 (show 0 < t.S + 1 by omega)
      omega
    have hsq : t.S * t.S ≤ 6 * 6 := Nat.mul_le_mul hS.2 hS.2
    obtain ⟨gr, har, hRR⟩ : ∃ gr, t.ar = some ⟨gr, 0, none⟩ ∧ RRow w gr (rollsTo t.S) := by
      rcases hI.st.2.2.2 with ⟨_, q⟩ | q
      · rw [q] at hpos
        simp at hpos
      · exact q
    obtain ⟨RL, hRL⟩ : ∃ RL, rollsTo t.S = RL := ⟨_, rfl⟩
    obtain ⟨n, hn⟩ : ∃ n, RL.length = n := ⟨_, rfl⟩
    have BT0 : Blk w t.g #[.int .i64 t.p, .int .i64 t.c, .int .i64 t.h, .int .i64 (t.S : Int), .pointer (some ⟨t.gw, 0, none⟩), .map (some t.b), .slice (some ⟨gr, 0, none⟩) n t.kr, .int .i64 (dm t.S : Int), .int .i64 (tp t.S), .int .i64 0, .int .i64 (t.K : Int), .slice (some ⟨t.gR, 0, none⟩) t.K t.K, .slice (some ⟨t.gC, 0, none⟩) (t.K * t.K) (t.K * t.K)] 71 := by
      have := BT
      rw [Tb.cells, har, hRL, hn] at this
      exact this
    rw [hRL] at hpos hlen3 hRR
    rw [hn] at hpos hlen3
    have hn36 : n ≤ 36 := by omega
    have HBT := Lib.hid (show ∀ W, Blk W t.g t.cells 71 → Blk W t.g #[.int .i64 t.p, .int .i64 t.c, .int .i64 t.h, .int .i64 (t.S : Int), .pointer (some ⟨t.gw, 0, none⟩), .map (some t.b), .slice (some ⟨gr, 0, none⟩) n t.kr, .int .i64 (dm t.S : Int), .int .i64 (tp t.S), .int .i64 0, .int .i64 (t.K : Int), .slice (some ⟨t.gR, 0, none⟩) t.K t.K, .slice (some ⟨t.gC, 0, none⟩) (t.K * t.K) (t.K * t.K)] 71 from fun W q => by
      rw [Tb.cells, har, hRL, hn] at q
      exact q)
    have hmem : ∀ r ∈ RL, 1 ≤ r.2 ∧ r.2 ≤ r.1 ∧ r.1 ≤ 6 := fun r hr => rolls_in hS (by rw [hRL]; exact hr)
    have HRF := Lib.hid (fun W (q1 : WaysAt W t.gw) (q2 : RRow W gr RL) => resultsFrom_any t xs X gr n t.kr RL W hx few hX q1 hn hn36 q2 hmem)
    have HRL := Lib.hid hRL
    have HN := Lib.hid hn
    have HIN := Lib.hid hI
    have HX := Lib.hid hX
    have HIx := Lib.hid hx
    have HOLD := Lib.hid hold
    have HV0 := Lib.hid hv0
    have HS := Lib.hid hS
    have hW := hI.st.2.1
    have HTT := Lib.hid hI.tab
    have HTS := Lib.hid hI.st
    have HCU0 := Lib.hid hcur
    have hRlt := hcur.lt
    have hb := Below.refl w.heap.size w
    have hRR := hRR
    rw [hRL, hn]
    clear hI hold hv0 hx hX a1 a2 a3 a4 a5 a6 a7 a8 hlen2 hlen3 hsq hS BT har hRL hn hmem
    have BT := BT0
    clear BT0
    obtain ⟨c0, c1, c2, c3, c4, c5, c6, c7, c8, c9, c10, c11, c12, cf, cl⟩ := BT.thirteen
    go_enter Tryz.func24, Tryz.ntmps24
    go_wp2_with fail
    clear c0 c1 c2 c3 c4 c5 c6 c7 c8 c9 c10 c11 c12 cf cl
    clear cX hnil
    have hd_ : w.drew.heap.size = w.heap.size := rfl
    replace BT := BT.drew
    replace hcur := hcur.drew
    replace hW := hW.drew
    replace hRR := hRR.drew
    replace hb := hb.drew
    refine wp_region_held_drew (S := fun w' => w'.cell? ⟨t.g, 0, none⟩ = some (.int .i64 t.p) ∧ w'.cell? ⟨t.g, 1, none⟩ = some (.int .i64 t.c) ∧ w'.cell? ⟨t.g, 2, none⟩ = some (.int .i64 t.h) ∧ w'.cell? ⟨t.g, 3, none⟩ = some (.int .i64 (t.S : Int)) ∧ w'.cell? ⟨t.g, 4, none⟩ = some (.pointer (some ⟨t.gw, 0, none⟩)) ∧ w'.cell? ⟨t.g, 5, none⟩ = some (.map (some t.b)) ∧ w'.cell? ⟨t.g, 6, none⟩ = some (.slice (some ⟨gr, 0, none⟩) n t.kr) ∧ w'.cell? ⟨t.g, 7, none⟩ = some (.int .i64 (dm t.S : Int)) ∧ w'.cell? ⟨t.g, 8, none⟩ = some (.int .i64 (tp t.S)) ∧ w'.cell? ⟨t.g, 9, none⟩ = some (.int .i64 0) ∧ w'.cell? ⟨t.g, 10, none⟩ = some (.int .i64 (t.K : Int)) ∧ w'.cell? ⟨t.g, 11, none⟩ = some (.slice (some ⟨t.gR, 0, none⟩) t.K t.K) ∧ w'.cell? ⟨t.g, 12, none⟩ = some (.slice (some ⟨t.gC, 0, none⟩) (t.K * t.K) (t.K * t.K))) (by kernel_rfl) ⟨BT.thirteen.1, BT.thirteen.2.1, BT.thirteen.2.2.1, BT.thirteen.2.2.2.1, BT.thirteen.2.2.2.2.1, BT.thirteen.2.2.2.2.2.1, BT.thirteen.2.2.2.2.2.2.1, BT.thirteen.2.2.2.2.2.2.2.1, BT.thirteen.2.2.2.2.2.2.2.2.1, BT.thirteen.2.2.2.2.2.2.2.2.2.1, BT.thirteen.2.2.2.2.2.2.2.2.2.2.1, BT.thirteen.2.2.2.2.2.2.2.2.2.2.2.1, BT.thirteen.2.2.2.2.2.2.2.2.2.2.2.2.1⟩ (fun hHeld => ?_)
    clear hHeld
    obtain ⟨vd, hvd⟩ : ∃ v, w.drew = v := ⟨_, rfl⟩
    rw [hvd] at BT hcur hW hRR hb hd_
    (try rw [hvd])
    have hHeld : vd.cell? ⟨t.g, 0, none⟩ = some (.int .i64 t.p) ∧ vd.cell? ⟨t.g, 1, none⟩ = some (.int .i64 t.c) ∧ vd.cell? ⟨t.g, 2, none⟩ = some (.int .i64 t.h) ∧ vd.cell? ⟨t.g, 3, none⟩ = some (.int .i64 (t.S : Int)) ∧ vd.cell? ⟨t.g, 4, none⟩ = some (.pointer (some ⟨t.gw, 0, none⟩)) ∧ vd.cell? ⟨t.g, 5, none⟩ = some (.map (some t.b)) ∧ vd.cell? ⟨t.g, 6, none⟩ = some (.slice (some ⟨gr, 0, none⟩) n t.kr) ∧ vd.cell? ⟨t.g, 7, none⟩ = some (.int .i64 (dm t.S : Int)) ∧ vd.cell? ⟨t.g, 8, none⟩ = some (.int .i64 (tp t.S)) ∧ vd.cell? ⟨t.g, 9, none⟩ = some (.int .i64 0) ∧ vd.cell? ⟨t.g, 10, none⟩ = some (.int .i64 (t.K : Int)) ∧ vd.cell? ⟨t.g, 11, none⟩ = some (.slice (some ⟨t.gR, 0, none⟩) t.K t.K) ∧ vd.cell? ⟨t.g, 12, none⟩ = some (.slice (some ⟨t.gC, 0, none⟩) (t.K * t.K) (t.K * t.K)) := ⟨BT.thirteen.1, BT.thirteen.2.1, BT.thirteen.2.2.1, BT.thirteen.2.2.2.1, BT.thirteen.2.2.2.2.1, BT.thirteen.2.2.2.2.2.1, BT.thirteen.2.2.2.2.2.2.1, BT.thirteen.2.2.2.2.2.2.2.1, BT.thirteen.2.2.2.2.2.2.2.2.1, BT.thirteen.2.2.2.2.2.2.2.2.2.1, BT.thirteen.2.2.2.2.2.2.2.2.2.2.1, BT.thirteen.2.2.2.2.2.2.2.2.2.2.2.1, BT.thirteen.2.2.2.2.2.2.2.2.2.2.2.2.1⟩
    refine tk 0 13 ?_
    refine tk 1 14 ?_
    refine tk 2 15 ?_
    refine tk 3 16 ?_
    refine tk 4 17 ?_
    refine tk 5 18 ?_
    refine tk 6 19 ?_
    refine tk 7 20 ?_
    refine tk 8 21 ?_
    refine tk 9 22 ?_
    refine tk 10 23 ?_
    refine tk 11 24 ?_
    refine tk 12 25 ?_
    refine tk 13 26 ?_
    refine rdk 14 27 fun K hK => ?_
    go_simp
    refine (HRF.out _ hW hRR).mono ?_
    rintro e wa ⟨q, l, rfl, hq, hO0, hnl, hrw, hb5⟩
    have hz5 := hb5.size
    replace BT := BT.below hb5
    replace hcur := hcur.below hb5
    have hbF := chain hb hb5
    have hO := hO0.mono hb.size
    clear hO0
    (try go_wp2_with fail)
    refine hko hK ⟨BT.thirteen.1, BT.thirteen.2.1, BT.thirteen.2.2.1, BT.thirteen.2.2.2.1, BT.thirteen.2.2.2.2.1, BT.thirteen.2.2.2.2.2.1, BT.thirteen.2.2.2.2.2.2.1, BT.thirteen.2.2.2.2.2.2.2.1, BT.thirteen.2.2.2.2.2.2.2.2.1, BT.thirteen.2.2.2.2.2.2.2.2.2.1, BT.thirteen.2.2.2.2.2.2.2.2.2.2.1, BT.thirteen.2.2.2.2.2.2.2.2.2.2.2.1, BT.thirteen.2.2.2.2.2.2.2.2.2.2.2.2.1⟩ fun hHeld => ?_
    clear hK K
    refine tk 15 28 ?_
    refine rdn 16 fun K hK => ?_
    have m0 : wa.cell? ⟨t.gR, X, none⟩ = some (.slice none 0 0) := by rw [hcur.cell X, HV0.out]
    have mf := hcur.free X
    have HBS := Lib.hid (show Blk (wa.setCell ⟨t.gR, X, none⟩ (.slice (some ⟨q, 0, none⟩) n n)) t.g #[.int .i64 t.p, .int .i64 t.c, .int .i64 t.h, .int .i64 (t.S : Int), .pointer (some ⟨t.gw, 0, none⟩), .map (some t.b), .slice (some ⟨gr, 0, none⟩) n t.kr, .int .i64 (dm t.S : Int), .int .i64 (tp t.S), .int .i64 0, .int .i64 (t.K : Int), .slice (some ⟨t.gR, 0, none⟩) t.K t.K, .slice (some ⟨t.gC, 0, none⟩) (t.K * t.K) (t.K * t.K)] 71 from BT.other (BT.ne hcur (by decide)))
    go_simp
    (try go_wp2_with fail)
    refine hko hK ⟨HBS.out.thirteen.1, HBS.out.thirteen.2.1, HBS.out.thirteen.2.2.1, HBS.out.thirteen.2.2.2.1, HBS.out.thirteen.2.2.2.2.1, HBS.out.thirteen.2.2.2.2.2.1, HBS.out.thirteen.2.2.2.2.2.2.1, HBS.out.thirteen.2.2.2.2.2.2.2.1, HBS.out.thirteen.2.2.2.2.2.2.2.2.1, HBS.out.thirteen.2.2.2.2.2.2.2.2.2.1, HBS.out.thirteen.2.2.2.2.2.2.2.2.2.2.1, HBS.out.thirteen.2.2.2.2.2.2.2.2.2.2.2.1, HBS.out.thirteen.2.2.2.2.2.2.2.2.2.2.2.2.1⟩ fun hHeld => ?_
    clear hK K
    refine wpAnyH_done (by kernel_rfl) ?_ _
    clear hHeld
    have hM : Mid t w wa X cur (.slice none 0 0) (.slice (some ⟨q, 0, none⟩) n n) l := ⟨Gr.of hbF, by rw [set_same HV0.out]; exact hcur, hO, hrw⟩
    have hMs := hM.store hRlt
    have hnl2 : nmQ l = (rollsTo t.S).map (nmR t xs) := by rw [hnl, HRL.out]
    have BT2 := HBT.out _ (midT hMs HTS.out HTT.out)
    have cX2 := midCell hMs hXk
    have hdone := Mid.done (xs := xs) (cur := cur) (v := .slice (some ⟨q, 0, none⟩) n n) (l := l) (by rw [HX.out]; exact hMs) HIN.out HIx.out HS.out.1 HCU0.out HOLD.out hnl2
    have HGA : Hid (GA t w (wa.setCell ⟨t.gR, X, none⟩ (.slice (some ⟨q, 0, none⟩) n n))) := Lib.hid ⟨hMs.gr.weak, fun z hz a => a.same (by obtain ⟨⟨cR, bR⟩, ⟨cC, bC⟩⟩ := HTT.out; exact hMs.gr.block _ bC.lt (bC.ne bR (by decide)) (bC.ne bR (by decide)))⟩
    have HDN := Lib.hid hdone
    have HNL := Lib.hid hnl2
    have HRW := Lib.hid hMs.rows
    clear hdone hnl2 hM hMs hnl hrw hO hcur BT
    generalize (wa.setCell ⟨t.gR, X, none⟩ (.slice (some ⟨q, 0, none⟩) n n)) = W at *
    have BT := BT2
    obtain ⟨c0, c1, c2, c3, c4, c5, c6, c7, c8, c9, c10, c11, c12, cf, cl⟩ := BT.thirteen
    go_wp2_with fail
    go_ret
    obtain ⟨hI2, q2, k2, e2, hQ2⟩ := HDN.out
    rw [HRL.out, HN.out] at e2
    injection e2 with e3 e4 e5
    injection e3 with e6
    injection e6 with e7
    subst e7
    exact ⟨q, n, l, rfl, hQ2, by have := HNL.out; rw [HRL.out] at this; exact this, HRW.out, hI2, HGA.out⟩
def PGot (t : Tb) (p : Option Int) (w : World) (e : Ending) (w' : World) : Prop := ∃ y cd, e = .returned (.agg #[.int .i64 y, .int .i64 cd]) ∧ PV t.S p y cd ∧ TabI t w' ∧ GA t w w'
theorem Aw.drew {t : Tb} {w : World} {z : Nat} (h : Aw t w z) : Aw t w.drew z := h
def WinOk (t : Tb) (n : Int) : Prop := ∀ (xs ys : List Int) (X Y : Nat) (w : World), TabI t w → t.In xs → t.In ys → nm t.c xs = X → nm t.c ys = Y → pwT xs + pwT ys < n →
  Calls Tryz.prog 38 #[.pointer (some ⟨t.g, 0, none⟩), .int .i64 X, .int .i64 Y] w (PGot t (wc t.S xs ys) w)
set_option maxRecDepth 8000 in
set_option maxHeartbeats 1000000 in
theorem after_any (t : Tb) (hS : 1 ≤ t.S ∧ t.S ≤ 6) (n : Int) (IH : WinOk t n) (zs ys : List Int) (Z Y : Nat) (w : World) (hI : TabI t w) (hz : t.In zs) (hy : t.In ys) (eZ : nm t.c zs = Z) (eY : nm t.c ys = Y) (hlt : pwT ys + pwT zs < n) :
    Calls Tryz.prog 50 #[.pointer (some ⟨t.g, 0, none⟩), .int .i64 Z, .int .i64 Y] w (PGot t ((wc t.S ys zs).map fun x => tp t.S - x) w) := by
  have htp := tp_in hS
  have hin : ∀ x, wc t.S ys zs = some x → 0 ≤ x ∧ x ≤ tp t.S := fun x h => by
    obtain ⟨a1, a2, a3, -⟩ := hy.1.po
    exact wc_in hS a2 a3 a1 hz.1.po.1 h
  have BZ := Blk.new w #[.int .i64 0, .int .i64 0] 67
  have hal : Below w.heap.size w (w.alloc (.cells #[.int .i64 0, .int .i64 0] 67)) := (Below.refl _ _).alloc (Nat.le_refl _) _
  have hAw := (Aw.fresh hI.ch (Nat.le_refl w.heap.size)).below hal
  replace hI := hI.below hal
  have hg : GA t w (w.alloc (.cells #[.int .i64 0, .int .i64 0] 67)) := GA.of hal
  obtain ⟨z, hzz⟩ : ∃ z, w.heap.size = z := ⟨_, rfl⟩
  have hzw : w.heap.size ≤ z := by omega
  have hz1 : z < (w.alloc (.cells #[.int .i64 0, .int .i64 0] 67)).heap.size := by simp; omega
  go_enter Tryz.func50, Tryz.ntmps50
  go_wp2_with fail
  rw [hzz] at BZ hAw
  (try rw [hzz])
  generalize (w.alloc (.cells #[.int .i64 0, .int .i64 0] 67)) = w1 at *
  clear hal hzz
  replace hI := hI.drew
  replace hAw := hAw.drew
  replace BZ := BZ.drew
  replace hg := hg.drew
  refine wp_region_held_drew (S := fun w' => w'.cell? ⟨t.g, 8, none⟩ = some (.int .i64 (tp t.S)) ∧ w'.cell? ⟨t.g, 9, none⟩ = some (.int .i64 0)) (by kernel_rfl) ⟨hI.st.1.thirteen.2.2.2.2.2.2.2.2.1, hI.st.1.thirteen.2.2.2.2.2.2.2.2.2.1⟩ (fun hHeld => ?_)
  clear hHeld
  have hz_vd : w1.drew.heap.size = w1.heap.size := rfl
  generalize w1.drew = vd at *
  have hHeld : vd.cell? ⟨t.g, 8, none⟩ = some (.int .i64 (tp t.S)) ∧ vd.cell? ⟨t.g, 9, none⟩ = some (.int .i64 0) := ⟨hI.st.1.thirteen.2.2.2.2.2.2.2.2.1, hI.st.1.thirteen.2.2.2.2.2.2.2.2.2.1⟩
  refine tk 0 7 ?_
  refine tk 1 8 ?_
  refine tk 2 9 ?_
  refine tk 3 10 ?_
  refine tk 4 11 ?_
  refine tk 5 12 ?_
  refine tk 6 13 ?_
  refine rdk 7 14 fun K hK => ?_
  go_simp
  refine (IH ys zs Y Z _ hI hy hz eY eZ hlt).mono ?_
  rintro e wa ⟨y, cd, rfl, hp, hI2, hga⟩
  have hb := hp.in hin
  have hsz := hga.gr.size
  have hAw2 := hga.aw _ (by omega) hAw
  have BZ2 := hI.blk hga BZ
  have hg2 := hg.trans hga
  clear hI BZ hAw hg
  rename TabI t wa => hI
  rename Aw t wa z => hAw
  rename Blk wa z #[.int .i64 0, .int .i64 0] 67 => BZ
  rename GA t w wa => hg
  clear hga
  (try go_wp2_with fail)
  refine hko hK ⟨hI.st.1.thirteen.2.2.2.2.2.2.2.2.1, hI.st.1.thirteen.2.2.2.2.2.2.2.2.2.1⟩ fun hHeld => ?_
  clear hK K
  refine rdk 8 15 fun K hK => ?_
  go_simp
  refine (minus_any (tp t.S) 0 y cd _ (by omega)).mono ?_
  rintro e wb ⟨rfl, hbm⟩
  have hsm := hbm.size
  replace hI := hI.below hbm
  replace hAw := hAw.below hbm
  replace BZ := BZ.below hbm
  replace hg := hg.then hbm
  clear hbm
  have hq := PV.flip hS hp
  obtain ⟨Q1, hQ1⟩ : ∃ x, tp t.S - y = x := ⟨_, rfl⟩
  obtain ⟨Q2, hQ2⟩ : ∃ x, (if (0 : Int) ≠ 0 then 0 else cd) = x := ⟨_, rfl⟩
  rw [hQ1, hQ2] at hq
  rw [hQ1, hQ2]
  have HQ := Lib.hid hq
  clear hq hQ1 hQ2 hp hb
  (try go_wp2_with fail)
  refine hko hK ⟨hI.st.1.thirteen.2.2.2.2.2.2.2.2.1, hI.st.1.thirteen.2.2.2.2.2.2.2.2.2.1⟩ fun hHeld => ?_
  clear hK K
  refine rdn 9 fun K hK => ?_
  have z0 := BZ.two.1
  have z1 := BZ.two.2.1
  have zf := BZ.two.2.2.1
  have zl := BZ.two.2.2.2
  have hI3 := (hI.away (o := 0) (u := .int .i64 Q1) hAw BZ).away (o := 1) (u := .int .i64 Q2) (hAw.away BZ) (BZ.set (i := 0) (.int .i64 Q1))
  have HI3 := Lib.hid hI3
  have HG3 := Lib.hid ((hg.away (o := 0) (u := .int .i64 Q1) hzw BZ).away (o := 1) (u := .int .i64 Q2) hzw (BZ.set (i := 0) (.int .i64 Q1)))
  have BZn := (BZ.set (i := 0) (.int .i64 Q1)).set (i := 1) (.int .i64 Q2)
  simp only [List.setIfInBounds_toArray, List.set_cons_zero, List.set_cons_succ] at BZn
  have HBZ := Lib.hid BZn
  clear hI3 BZn
  go_simp
  (try go_wp2_with fail)
  refine hko hK ⟨HI3.out.st.1.thirteen.2.2.2.2.2.2.2.2.1, HI3.out.st.1.thirteen.2.2.2.2.2.2.2.2.2.1⟩ fun hHeld => ?_
  clear hK K
  refine wpAnyH_done (by kernel_rfl) ?_ _
  clear hHeld
  go_wp2_with fail
  obtain ⟨t0, t1, tf, tl⟩ := HBZ.out.two
  refine bodyPost_ret (v := .agg #[.int .i64 Q1, .int .i64 Q2]) (by simp [results, Tryz.results50, go_sem, t0, t1]) rfl ?_
  exact ⟨Q1, Q2, rfl, HQ.out, HI3.out, HG3.out⟩
end Go.Proofs.YtnlclmlnpkncoaaGreat
