/- Texts of a proof, laid together. -/
import Derived.Test.YtnlclmlnpkncoaaGreatW32
import Derived.Test.YtnlclmlnpkncoaaGreatW21
import Derived.Test.YtnlclmlnpkncoaaGreatW07
import Derived.Laws.MakeOwn
import Derived.Deep.OwnRows
import Derived.Test.YtnlclmlnpkncoaaGreatW36
import Derived.Test.YtnlclmlnpkncoaaGreatW35
import Derived.Test.YtnlclmlnpkncoaaGreatW27
import Derived.Test.YtnlclmlnpkncoaaGreatW39
import Derived.Test.YtnlclmlnpkncoaaGreatW31
import Derived.Deep.LoopGhost
import Derived.Test.YtnlclmlnpkncoaaGreatW30
namespace Go.Proofs.YtnlclmlnpkncoaaGreat
open Go.ChangeShapes Go.WideShapes Go.ChangeAt Go.RowKit
set_option linter.unusedVariables false
set_option linter.unusedSimpArgs false
set_option maxRecDepth 4000
theorem infoX12 : (Tryz.prog.info? 35).map (fun i => (i.zero, i.size, i.bytes)) = some (some (.agg #[.int .i64 0, .int .i64 0]), 2, 16) := by kernel_rfl
theorem made_one (z : Value) (n i : Nat) (h : i < n) : (madeCells #[z] n)[i]? = some z := by
  rw [← Array.getElem?_toList, toList_madeCells_one, List.getElem?_replicate, if_pos h]
theorem made_fin (p c h : Int) (S N gk gv g KK : Nat) (MC : Array Value) (w w' : World) (hKK : N * N = KK) (hN : cnt h.toNat c.toNat = N) (hNpos : 1 ≤ N) (hcn : N ≤ 500) (hMs : MC.size = KK * 2)
    (BK : Blk w' gk (madeCells #[.bool false] KK) 4) (BM : Blk w' gv MC 35) (BT : Blk w' g #[.int .i64 p, .int .i64 c, .int .i64 h, .int .i64 (S : Int), .int .i64 (N : Int), .slice (some ⟨gk, 0, none⟩) KK KK, .slice (some ⟨gv, 0, none⟩) KK KK] 113)
    (h1 : w.heap.size ≤ gk) (h2 : w.heap.size ≤ gv) (hb : Below w.heap.size w w') :
    ∃ t : Tm, Ending.returned (Value.pointer (some ⟨g, 0, none⟩)) = .returned (.pointer (some ⟨t.g, 0, none⟩)) ∧ t.p = p ∧ t.c = c ∧ t.h = h ∧ t.S = S ∧ TmI t w' ∧ w.heap.size ≤ t.gk ∧ w.heap.size ≤ t.gv ∧ Below w.heap.size w w' := by
  subst hKK
  refine ⟨⟨p, c, h, S, g, N, gk, gv⟩, rfl, rfl, rfl, rfl, rfl, ⟨BT, ⟨hN.symm, hNpos, hcn⟩, _, MC, BK, BM, fun xs ys h1 h2 => ?_⟩, h1, h2, hb⟩
  have l1 : nm c xs < N := by have := nm_lt h1; rw [← hN]; exact this
  have l2 : nm c ys < N := by have := nm_lt h2; rw [← hN]; exact this
  have l3 := Nat.mul_le_mul_right N (show nm c xs + 1 ≤ N from l1)
  rw [Nat.add_mul] at l3
  have l4 : nm c xs * N + nm c ys < N * N := by omega
  have s1 : (nm c xs * N + nm c ys) * 2 < MC.size := by rw [hMs]; omega
  have s2 : (nm c xs * N + nm c ys) * 2 + 1 < MC.size := by rw [hMs]; omega
  exact ⟨false, MC[(nm c xs * N + nm c ys) * 2], MC[(nm c xs * N + nm c ys) * 2 + 1], made_one _ _ _ l4, Array.getElem?_eq_getElem s1, Array.getElem?_eq_getElem s2, fun q => by cases q⟩
set_option maxRecDepth 8000 in
set_option maxHeartbeats 2000000 in
theorem l12New_any (p c h : Int) (S : Nat) (hv : vB p c h (S : Int) = true) (hcn : cnt h.toNat c.toNat ≤ 500) (w : World) :
    Calls Tryz.prog 30 #[.agg #[.int .i64 p, .int .i64 c, .int .i64 h, .int .i64 (S : Int)]] w fun e w' => ∃ t : Tm, e = .returned (.pointer (some ⟨t.g, 0, none⟩)) ∧ t.p = p ∧ t.c = c ∧ t.h = h ∧ t.S = S ∧ TmI t w' ∧ w.heap.size ≤ t.gk ∧ w.heap.size ≤ t.gv ∧ Below w.heap.size w w' := by
  have hv2 := vB_iff.1 hv
  have hW := fun W => l10Ways_any h.toNat c.toNat W (by omega) (by omega)
  rw [show ((h.toNat : Nat) : Int) = h by omega, show ((c.toNat : Nat) : Int) = c by omega, wyI, if_pos (by omega)] at hW
  have hNpos := cnt_pos h.toNat c.toNat
  obtain ⟨N, hN⟩ : ∃ N, cnt h.toNat c.toNat = N := ⟨_, rfl⟩
  rw [hN] at hW hcn hNpos
  have HW := Lib.hid hW
  have HN := Lib.hid hN
  obtain ⟨KK, hKK⟩ : ∃ KK, N * N = KK := ⟨_, rfl⟩
  have hkl : KK ≤ 250000 := by have := Nat.mul_le_mul hcn hcn; omega
  have HKK := Lib.hid hKK
  have wm : IntKind.i64.wrap ((N : Int) * (N : Int)) = (KK : Int) := by
    rw [← Int.natCast_mul, hKK]
    exact IntWalk.i64_in _ (by omega)
  have hmk := run_make_row' (P := Tryz.prog) 111 4 (.bool false) 1 Tryz.underlying111 (by kernel_rfl) rfl .i64 .i64 KK (by omega) (by omega)
  obtain ⟨i0, hi0, hz0, hz1, hz2⟩ := info_parts infoX12
  have hmk2 : ∀ W : World, (Instr.makeSlice 29 (.int .i64 (KK : Int)) (.int .i64 (KK : Int))).run Tryz.prog W = .ok (.slice (some ⟨W.heap.size, 0, none⟩) KK KK) (W.alloc (.cells (madeCells (Value.cells (.agg #[.int .i64 0, .int .i64 0])) (KK * 2)) 35)) := fun W => by
    have q := run_make (P := Tryz.prog) W 29 35 i0 _ Tryz.underlying29 hi0 hz0 .i64 .i64 (KK : Int) (KK : Int) (by omega) (Int.le_refl _) (by rw [hz2]; omega) (by omega)
    rw [hz1, Int.toNat_natCast] at q
    exact q
  obtain ⟨MC, hMC⟩ : ∃ q, madeCells (Value.cells (.agg #[.int .i64 0, .int .i64 0])) (KK * 2) = q := ⟨_, rfl⟩
  have hMs : MC.size = KK * 2 := by rw [← hMC]; exact size_madeCells _ _
  rw [hMC] at hmk2
  have HMS := Lib.hid hMs
  have BV := Blk.new w #[.int .i64 p, .int .i64 c, .int .i64 h, .int .i64 (S : Int)] 25
  have hb : Below w.heap.size w (w.alloc (.cells #[.int .i64 p, .int .i64 c, .int .i64 h, .int .i64 (S : Int)] 25)) := (Below.refl _ _).alloc (Nat.le_refl _) _
  obtain ⟨x0, x1, x2, x3, xf, xl⟩ := BV.four
  clear hi0 hz0 hz1 hz2 hMC hMs hKK hN hW hv2
  go_enter Tryz.func30, Tryz.ntmps30
  go_wp2_with fail
  refine (HW.out _).mono ?_
  rintro e w1' ⟨rfl, rfl⟩
  go_wp2_with fail
  clear x0 x1 x2 x3 xf xl
  generalize (w.alloc (.cells #[.int .i64 p, .int .i64 c, .int .i64 h, .int .i64 (S : Int)] 25)) = w1 at *
  obtain ⟨g0, hg0⟩ : ∃ g, w1.heap.size = g := ⟨_, rfl⟩
  replace BV := BV.drew
  replace hb := hb.drew
  refine wp_region_held_drew (S := fun w' => w'.cell? ⟨w.heap.size, 0, none⟩ = some (.int .i64 p) ∧ w'.cell? ⟨w.heap.size, 1, none⟩ = some (.int .i64 c) ∧ w'.cell? ⟨w.heap.size, 2, none⟩ = some (.int .i64 h) ∧ w'.cell? ⟨w.heap.size, 3, none⟩ = some (.int .i64 (S : Int))) (by kernel_rfl) ⟨BV.four.1, BV.four.2.1, BV.four.2.2.1, BV.four.2.2.2.1⟩ (fun hHeld => ?_)
  clear hHeld
  have hz_vd : w1.drew.heap.size = w1.heap.size := rfl
  generalize w1.drew = vd at *
  have hHeld : vd.cell? ⟨w.heap.size, 0, none⟩ = some (.int .i64 p) ∧ vd.cell? ⟨w.heap.size, 1, none⟩ = some (.int .i64 c) ∧ vd.cell? ⟨w.heap.size, 2, none⟩ = some (.int .i64 h) ∧ vd.cell? ⟨w.heap.size, 3, none⟩ = some (.int .i64 (S : Int)) := ⟨BV.four.1, BV.four.2.1, BV.four.2.2.1, BV.four.2.2.2.1⟩
  refine tk 0 9 ?_
  refine tk 1 10 ?_
  refine tk 2 11 ?_
  refine tk 3 12 ?_
  refine tk 4 13 ?_
  refine tk 6 15 ?_
  refine tk 7 16 ?_
  refine tk 8 17 ?_
  refine wpAnyH_ready (rs := [5, 9]) (by kernel_rfl) (by simp) ?_
  refine AllReadyH.cons (o := ⟨some 14, _, _, _, _, _⟩) rfl (fun K hK => ?_) (AllReadyH.cons (o := ⟨some 18, _, _, _, _, _⟩) rfl (fun K hK => ?_) AllReadyH.nil)
  · go_simp
    (try go_wp2_with fail)
    refine hko hK (Blk.l4 (BV.alloc (.cells (madeCells #[.bool false] KK) 4))) fun hHeld => ?_
    clear hK K
    refine rdk 9 18 fun K hK => ?_
    go_simp
    (try go_wp2_with fail)
    refine hko hK (Blk.l4 ((BV.alloc (.cells (madeCells #[.bool false] KK) 4)).alloc (.cells MC 35))) fun hHeld => ?_
    clear hK K
    refine tk 10 19 ?_
    refine rdk 11 20 fun K hK => ?_
    go_simp
    (try go_wp2_with fail)
    refine hko hK (Blk.l4 (((BV.alloc (.cells (madeCells #[.bool false] KK) 4)).alloc (.cells MC 35)).alloc (.cells #[.int .i64 p, .int .i64 c, .int .i64 h, .int .i64 (S : Int), .int .i64 (N : Int), .slice (some ⟨g0, 0, none⟩) KK KK, .slice (some ⟨g0 + 1, 0, none⟩) KK KK] 113))) fun hHeld => ?_
    clear hK K
    refine tk 12 2 ?_
    refine wpAnyH_done (by kernel_rfl) ?_ _
    clear hHeld
    have hvs : vd.heap.size = g0 := by omega
    have BK := ((Blk.new vd (madeCells #[.bool false] KK) 4).alloc (.cells MC 35)).alloc (.cells #[.int .i64 p, .int .i64 c, .int .i64 h, .int .i64 (S : Int), .int .i64 (N : Int), .slice (some ⟨g0, 0, none⟩) KK KK, .slice (some ⟨g0 + 1, 0, none⟩) KK KK] 113)
    have BM := (Blk.new (vd.alloc (.cells (madeCells #[.bool false] KK) 4)) (MC) 35).alloc (.cells #[.int .i64 p, .int .i64 c, .int .i64 h, .int .i64 (S : Int), .int .i64 (N : Int), .slice (some ⟨g0, 0, none⟩) KK KK, .slice (some ⟨g0 + 1, 0, none⟩) KK KK] 113)
    have BT := Blk.new ((vd.alloc (.cells (madeCells #[.bool false] KK) 4)).alloc (.cells MC 35)) #[.int .i64 p, .int .i64 c, .int .i64 h, .int .i64 (S : Int), .int .i64 (N : Int), .slice (some ⟨g0, 0, none⟩) KK KK, .slice (some ⟨g0 + 1, 0, none⟩) KK KK] 113
    have hs := hb.size
    simp only [World.size_alloc, hvs] at BK BM BT
    have hbn := ((hb.alloc hs (.cells (madeCells #[.bool false] KK) 4)).alloc (by simp; omega) (.cells MC 35)).alloc (by simp; omega) (.cells #[.int .i64 p, .int .i64 c, .int .i64 h, .int .i64 (S : Int), .int .i64 (N : Int), .slice (some ⟨g0, 0, none⟩) KK KK, .slice (some ⟨g0 + 1, 0, none⟩) KK KK] 113)
    go_wp2
    go_ret
    exact made_fin p c h S N (g0) (g0 + 1) (g0 + 1 + 1) KK MC _ _ HKK.out HN.out hNpos hcn HMS.out BK BM BT (by omega) (by omega) hbn
  · go_simp
    (try go_wp2_with fail)
    refine hko hK (Blk.l4 (BV.alloc (.cells MC 35))) fun hHeld => ?_
    clear hK K
    refine rdk 5 14 fun K hK => ?_
    go_simp
    (try go_wp2_with fail)
    refine hko hK (Blk.l4 ((BV.alloc (.cells MC 35)).alloc (.cells (madeCells #[.bool false] KK) 4))) fun hHeld => ?_
    clear hK K
    refine tk 10 19 ?_
    refine rdk 11 20 fun K hK => ?_
    go_simp
    (try go_wp2_with fail)
    refine hko hK (Blk.l4 (((BV.alloc (.cells MC 35)).alloc (.cells (madeCells #[.bool false] KK) 4)).alloc (.cells #[.int .i64 p, .int .i64 c, .int .i64 h, .int .i64 (S : Int), .int .i64 (N : Int), .slice (some ⟨g0 + 1, 0, none⟩) KK KK, .slice (some ⟨g0, 0, none⟩) KK KK] 113))) fun hHeld => ?_
    clear hK K
    refine tk 12 2 ?_
    refine wpAnyH_done (by kernel_rfl) ?_ _
    clear hHeld
    have hvs : vd.heap.size = g0 := by omega
    have BM := ((Blk.new vd (MC) 35).alloc (.cells (madeCells #[.bool false] KK) 4)).alloc (.cells #[.int .i64 p, .int .i64 c, .int .i64 h, .int .i64 (S : Int), .int .i64 (N : Int), .slice (some ⟨g0 + 1, 0, none⟩) KK KK, .slice (some ⟨g0, 0, none⟩) KK KK] 113)
    have BK := (Blk.new (vd.alloc (.cells MC 35)) (madeCells #[.bool false] KK) 4).alloc (.cells #[.int .i64 p, .int .i64 c, .int .i64 h, .int .i64 (S : Int), .int .i64 (N : Int), .slice (some ⟨g0 + 1, 0, none⟩) KK KK, .slice (some ⟨g0, 0, none⟩) KK KK] 113)
    have BT := Blk.new ((vd.alloc (.cells MC 35)).alloc (.cells (madeCells #[.bool false] KK) 4)) #[.int .i64 p, .int .i64 c, .int .i64 h, .int .i64 (S : Int), .int .i64 (N : Int), .slice (some ⟨g0 + 1, 0, none⟩) KK KK, .slice (some ⟨g0, 0, none⟩) KK KK] 113
    have hs := hb.size
    simp only [World.size_alloc, hvs] at BK BM BT
    have hbn := ((hb.alloc hs (.cells MC 35)).alloc (by simp; omega) (.cells (madeCells #[.bool false] KK) 4)).alloc (by simp; omega) (.cells #[.int .i64 p, .int .i64 c, .int .i64 h, .int .i64 (S : Int), .int .i64 (N : Int), .slice (some ⟨g0 + 1, 0, none⟩) KK KK, .slice (some ⟨g0, 0, none⟩) KK KK] 113)
    go_wp2
    go_ret
    exact made_fin p c h S N (g0 + 1) (g0) (g0 + 1 + 1) KK MC _ _ HKK.out HN.out hNpos hcn HMS.out BK BM BT (by omega) (by omega) hbn
theorem wm_all (t : Tm) (hS : 1 ≤ t.S ∧ t.S ≤ 6) : ∀ n : Nat, WmOk t (n : Int)
  | 0, xs, ys, a1, a2, n1, n2, c1, c2, w, hI, hx, hy, hn1, hn2, hc1, hc2, r1, r2, hlt => by
    have hx' : Ps t.p t.c t.h (t.S : Int) xs := hx
    have hy' : Ps t.p t.c t.h (t.S : Int) ys := hy
    have h1 := pw_pos hx'.po.1
    have h2 := pw_pos hy'.po.1
    omega
  | n + 1, xs, ys, a1, a2, n1, n2, c1, c2, w, hI, hx, hy, hn1, hn2, hc1, hc2, r1, r2, hlt => by
    refine l12Value_step t hS xs ys a1 a2 n1 n2 c1 c2 ?_ w hI hx hy hn1 hn2 hc1 hc2 r1 r2
    intro us vs b1 b2 m1 m2 d1 d2 W k1 k2 k3 k4 k5 k6 k7 k8 k9 k10
    exact wm_all t hS n us vs b1 b2 m1 m2 d1 d2 W k1 k2 k3 k4 k5 k6 k7 k8 k9 (by omega)
theorem wm_any (t : Tm) (hS : 1 ≤ t.S ∧ t.S ≤ 6) (m : Int) : WmOk t m := fun xs ys a1 a2 n1 n2 c1 c2 w hI hx hy hn1 hn2 hc1 hc2 r1 r2 hlt =>
  wm_all t hS ((pwT xs + pwT ys).toNat + 1) xs ys a1 a2 n1 n2 c1 c2 w hI hx hy hn1 hn2 hc1 hc2 r1 r2 (by omega)
theorem OwnX.gr {gR gC : Nat} {w w' : World} {base : Nat} {v : Value} {l : List Rl} (h : OwnX w base v l) (hg : Gr gR gC w w') (h1 : gR < base) (h2 : gC < base) : OwnX w' base v l := h.by fun i k1 k2 => hg.block i k2 (by omega) (by omega)
theorem xsV_all {S : Nat} {os : List (Option Int)} (h : ∀ i o, i < os.length → os[i]? = some o → o.isSome = true) : xsV S os = (xsL S os, 0) := by
  have hall : os.all Option.isSome = true := by
    rw [List.all_eq_true]
    intro o ho
    obtain ⟨i, hi2, he⟩ := List.mem_iff_getElem.1 ho
    exact h i o hi2 (by rw [List.getElem?_eq_getElem hi2, he])
  rw [xsV, if_pos hall]
end Go.Proofs.YtnlclmlnpkncoaaGreat
