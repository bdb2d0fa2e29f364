/- Texts of a proof, laid together. -/
import Derived.Test.YtnlclmlnpkncoaaGreatV32
import Derived.Test.YtnlclmlnpkncoaaGreatV21
import Derived.Test.YtnlclmlnpkncoaaGreatV07
import Derived.Laws.MakeOwn
import Derived.Deep.OwnRows
import Derived.Test.YtnlclmlnpkncoaaGreatV36
import Derived.Test.YtnlclmlnpkncoaaGreatV35
import Derived.Test.YtnlclmlnpkncoaaGreatV27
import Derived.Test.YtnlclmlnpkncoaaGreatV39
import Derived.Test.YtnlclmlnpkncoaaGreatV31
import Derived.Deep.LoopGhost
import Derived.Test.YtnlclmlnpkncoaaGreatV30
namespace Go.Proofs.YtnlclmlnpkncoaaGreat
open Go.ChangeShapes Go.WideShapes Go.ChangeAt Go.RowKit
set_option linter.unusedVariables false
set_option linter.unusedSimpArgs false
set_option maxRecDepth 4000
theorem infoX12 : (Tryz.prog.info? 35).map (fun i => (i.zero, i.size, i.bytes)) = some (some (.agg #[.int .i64 0, .int .i64 0]), 2, 16) := by kernel_rfl
theorem made_one (z : Value) (n i : Nat) (h : i < n) : (madeCells #[z] n)[i]? = some z := by
  rw [← Array.getElem?_toList, toList_madeCells_one, List.getElem?_replicate, if_pos h]
theorem made_fin (p c h : Int) (S N gk gv g KK : Nat) (MC : Array Value) (w w' : World) (hKK : N * N = KK) (hN : cnt h.toNat c.toNat = N) (hNpos : 1 ≤ N) (hcn : N ≤ 500) (hMs : MC.size = KK * 2)
    (BK : Blk w' gk (madeCells #[.bool false] KK) 4) (BM : Blk w' gv MC 35) (BT : Blk w' g #[.int .i64 p, .int .i64 c, .int .i64 h, .int .i64 (S : Int), .int .i64 (N : Int), .slice (some ⟨gk, 0, none⟩) KK KK, .slice (some ⟨gv, 0, none⟩) KK KK] 113)
    (h1 : w.heap.size ≤ gk) (h2 : w.heap.size ≤ gv) (hb : Below w.heap.size w w') :
    ∃ t : Tm, Ending.returned (Value.pointer (some ⟨g, 0, none⟩)) = .returned (.pointer (some ⟨t.g, 0, none⟩)) ∧ t.p = p ∧ t.c = c ∧ t.h = h ∧ t.S = S ∧ TmI t w' ∧ w.heap.size ≤ t.gk ∧ w.heap.size ≤ t.gv ∧ Below w.heap.size w w' := by
  subst hKK
  refine ⟨⟨p, c, h, S, g, N, gk, gv⟩, rfl, rfl, rfl, rfl, rfl, ⟨BT, ⟨hN.symm, hNpos, hcn⟩, _, MC, BK, BM, fun xs ys h1 h2 => ?_⟩, h1, h2, hb⟩
  have l1 : nm c xs < N := by have := nm_lt h1; rw [← hN]; exact this
  have l2 : nm c ys < N := by have := nm_lt h2; rw [← hN]; exact this
  have l3 := Nat.mul_le_mul_right N (show nm c xs + 1 ≤ N from l1)
  rw [Nat.add_mul] at l3
  have l4 : nm c xs * N + nm c ys < N * N := by omega
  have s1 : (nm c xs * N + nm c ys) * 2 < MC.size := by rw [hMs]; omega
  have s2 : (nm c xs * N + nm c ys) * 2 + 1 < MC.size := by rw [hMs]; omega
  exact ⟨false, MC[(nm c xs * N + nm c ys) * 2], MC[(nm c xs * N + nm c ys) * 2 + 1], made_one _ _ _ l4, Array.getElem?_eq_getElem s1, Array.getElem?_eq_getElem s2, fun q => by cases q⟩
set_option maxRecDepth 8000 in
set_option maxHeartbeats 2000000 in
theorem l12New_any (p c h : Int) (S : Nat) (hv : vB p c h (S : Int) = true) (hcn : cnt h.toNat c.toNat ≤ 500) (w : World) :
    Calls Tryz.prog 30 #[.agg #[.int .i64 p, .int .i64 c, .int .i64 h, .int .i64 (S : Int)]] w fun e w' => ∃ t : Tm, e = .returned (.pointer (some ⟨t.g, 0, none⟩)) ∧ t.p = p ∧ t.c = c ∧ t.h = h ∧ t.S = S ∧ TmI t w' ∧ w.heap.size ≤ t.gk ∧ w.heap.size ≤ t.gv ∧ Below w.heap.size w w' := by
  have hv2 := vB_iff.1 hv
  have hW := fun W => l10Ways_any h.toNat c.toNat W (by omega) (by omega)
  rw [show ((h.toNat : Nat) : Int) = h by omega, show ((c.toNat : Nat) : Int) = c by omega, wyI, if_pos (by omega)] at hW
  have hNpos := cnt_pos h.toNat c.toNat
  obtain ⟨N, hN⟩ : ∃ N, cnt h.toNat c.toNat = N := ⟨_, rfl⟩
  rw [hN] at hW hcn hNpos
  have HW := Lib.hid hW
  have HN := Lib.hid hN
  obtain ⟨KK, hKK⟩ : ∃ KK, N * N = KK := ⟨_, rfl⟩
  have hkl : KK ≤ 250000 := by have := Nat.mul_le_mul hcn hcn; omega
  have HKK := Lib.hid hKK
  have wm : IntKind.i64.wrap ((N : Int) * (N : Int)) = (KK : Int) := by
    rw [← Int.natCast_mul, hKK]
    exact IntWalk.i64_in _ (by omega)
  have hmk := run_make_row' (P := Tryz.prog) 111 4 (.bool false) 1 Tryz.underlying111 (by kernel_rfl) rfl .i64 .i64 KK (by omega) (by omega)
  obtain ⟨i0, hi0, hz0, hz1, hz2⟩ := info_parts infoX12
  have hmk2 : ∀ W : World, (Instr.makeSlice 29 (.int .i64 (KK : Int)) (.int .i64 (KK : Int))).run Tryz.prog W = .ok (.slice (some ⟨W.heap.size, 0, none⟩) KK KK) (W.alloc (.cells (madeCells (Value.cells (.agg #[.int .i64 0, .int .i64 0])) (KK * 2)) 35)) := fun W => by
    have q := run_make (P := Tryz.prog) W 29 35 i0 _ Tryz.underlying29 hi0 hz0 .i64 .i64 (KK : Int) (KK : Int) (by omega) (Int.le_refl _) (by rw [hz2]; omega) (by omega)
    rw [hz1, Int.toNat_natCast] at q
    exact q
  obtain ⟨MC, hMC⟩ : ∃ q, madeCells (Value.cells (.agg #[.int .i64 0, .int .i64 0])) (KK * 2) = q := ⟨_, rfl⟩
  have hMs : MC.size = KK * 2 := by rw [← hMC]; exact size_madeCells _ _
  rw [hMC] at hmk2
  have HMS := Lib.hid hMs
  have BV := Blk.new w #[.int .i64 p, .int .i64 c, .int .i64 h, .int .i64 (S : Int)] 25
  have hb : Below w.heap.size w (w.alloc (.cells #[.int .i64 p, .int .i64 c, .int .i64 h, .int .i64 (S : Int)] 25)) := (Below.refl _ _).alloc (Nat.le_refl _) _
  obtain ⟨x0, x1, x2, x3, xf, xl⟩ := BV.four
  clear hi0 hz0 hz1 hz2 hMC hMs hKK hN hW hv2
  go_enter Tryz.func30, Tryz.ntmps30
  go_wp2_with fail
  refine (HW.out _).mono ?_
  rintro e w1' ⟨rfl, rfl⟩
  go_wp2_with fail
  clear x0 x1 x2 x3 xf xl
  generalize (w.alloc (.cells #[.int .i64 p, .int .i64 c, .int .i64 h, .int .i64 (S : Int)] 25)) = w1 at *
  obtain ⟨g0, hg0⟩ : ∃ g, w1.heap.size = g := ⟨_, rfl⟩
  replace BV := BV.drew
  replace hb := hb.drew
  refine wp_region_held_drew (S := fun w' => w'.cell? ⟨w.heap.size, 0, none⟩ = some (.int .i64 p) ∧ w'.cell? ⟨w.heap.size, 1, none⟩ = some (.int .i64 c) ∧ w'.cell? ⟨w.heap.size, 2, none⟩ = some (.int .i64 h) ∧ w'.cell? ⟨w.heap.size, 3, none⟩ = some (.int .i64 (S : Int))) (by kernel_rfl) ⟨BV.four.1, BV.four.2.1, BV.four.2.2.1, BV.four.2.2.2.1⟩ (fun hHeld => ?_)
  clear hHeld
  have hz_vd : w1.drew.heap.size = w1.heap.size := rfl
  generalize w1.drew = vd at *
  have hHeld : vd.cell? ⟨w.heap.size, 0, none⟩ = some (.int .i64 p) ∧ vd.cell? ⟨w.heap.size, 1, none⟩ = some (.int .i64 c) ∧ vd.cell? ⟨w.heap.size, 2, none⟩ = some (.int .i64 h) ∧ vd.cell? ⟨w.heap.size, 3, none⟩ = some (.int .i64 (S : Int)) := ⟨BV.four.1, BV.four.2.1, BV.four.2.2.1, BV.four.2.2.2.1⟩
  refine tk 0 9 ?_
  refine tk 1 10 ?_
  refine tk 2 11 ?_
  refine tk 3 12 ?_
  refine tk 4 13 ?_
  refine tk 6 15 ?_
  refine tk 7 16 ?_
  refine tk 8 17 ?_
  refine wpAnyH_ready (rs := [5, 9]) (by kernel_rfl) (by simp) ?_
  refine AllReadyH.cons (o := ⟨some 14, _, _, _, _, _⟩) rfl (fun K hK => ?_) (AllReadyH.cons (o := ⟨some 18, _, _, _, _, _⟩) rfl (fun K hK => ?_) AllReadyH.nil)
  · go_simp
    (try go_wp2_with fail)
    refine hko hK (Blk.l4 (BV.alloc (.cells (madeCells #[.bool false] KK) 4))) fun hHeld => ?_
    clear hK K
    refine rdk 9 18 fun K hK => ?_
    go_simp
    (try go_wp2_with fail)
    refine hko hK (Blk.l4 ((BV.alloc (.cells (madeCells #[.bool false] KK) 4)).alloc (.cells MC 35))) fun hHeld => ?_
    clear hK K
    refine tk 10 19 ?_
    refine rdk 11 20 fun K hK => ?_
    go_simp
    (try go_wp2_with fail)
    refine hko hK (Blk.l4 (((BV.alloc (.cells (madeCells #[.bool false] KK) 4)).alloc (.cells MC 35)).alloc (.cells #[.int .i64 p, .int .i64 c, .int .i64 h, .int .i64 (S : Int), .int .i64 (N : Int), .slice (some ⟨g0, 0, none⟩) KK KK, .slice (some ⟨g0 + 1, 0, none⟩) KK KK] 113))) fun hHeld => ?_
    clear hK K
    refine tk 12 2 ?_
    refine wpAnyH_done (by kernel_rfl) ?_ _
    clear hHeld
    have hvs : vd.heap.size = g0 := by omega
    have BK := ((Blk.new vd (madeCells #[.bool false] KK) 4).alloc (.cells MC 35)).alloc (.cells #[.int .i64 p, .int .i64 c, .int .i64 h, .int .i64 (S : Int), .int .i64 (N : Int), .slice (some ⟨g0, 0, none⟩) KK KK, .slice (some ⟨g0 + 1, 0, none⟩) KK KK] 113)
    have BM := (Blk.new (vd.alloc (.cells (madeCells #[.bool false] KK) 4)) (MC) 35).alloc (.cells #[.int .i64 p, .int .i64 c, .int .i64 h, .int .i64 (S : Int), .int .i64 (N : Int), .slice (some ⟨g0, 0, none⟩) KK KK, .slice (some ⟨g0 + 1, 0, none⟩) KK KK] 113)
    have BT := Blk.new ((vd.alloc (.cells (madeCells #[.bool false] KK) 4)).alloc (.cells MC 35)) #[.int .i64 p, .int .i64 c, .int .i64 h, .int .i64 (S : Int), .int .i64 (N : Int), .slice (some ⟨g0, 0, none⟩) KK KK, .slice (some ⟨g0 + 1, 0, none⟩) KK KK] 113
    have hs := hb.size
    simp only [World.size_alloc, hvs] at BK BM BT
    have hbn := ((hb.alloc hs (.cells (madeCells #[.bool false] KK) 4)).alloc (by simp; omega) (.cells MC 35)).alloc (by simp; omega) (.cells #[.int .i64 p, .int .i64 c, .int .i64 h, .int .i64 (S : Int), .int .i64 (N : Int), .slice (some ⟨g0, 0, none⟩) KK KK, .slice (some ⟨g0 + 1, 0, none⟩) KK KK] 113)
    go_wp2
    go_ret
    exact made_fin p c h S N (g0) (g0 + 1) (g0 + 1 + 1) KK MC _ _ HKK.out HN.out hNpos hcn HMS.out BK BM BT (by omega) (by omega) hbn
  · go_simp
    (try go_wp2_with fail)
    refine hko hK (Blk.l4 (BV.alloc (.cells MC 35))) fun hHeld => ?_
    clear hK K
    refine rdk 5 14 fun K hK => ?_
    go_simp
    (try go_wp2_with fail)
    refine hko hK (Blk.l4 ((BV.alloc (.cells MC 35)).alloc (.cells (madeCells #[.bool false] KK) 4))) fun hHeld => ?_
    clear hK K
    refine tk 10 19 ?_
    refine rdk 11 20 fun K hK => ?_
    go_simp
    (try go_wp2_with fail)
    refine hko hK (Blk.l4 (((BV.alloc (.cells MC 35)).alloc (.cells (madeCells #[.bool false] KK) 4)).alloc (.cells #[.int .i64 p, .int .i64 c, .int .i64 h, .int .i64 (S : Int), .int .i64 (N : Int), .slice (some ⟨g0 + 1, 0, none⟩) KK KK, .slice (some ⟨g0, 0, none⟩) KK KK] 113))) fun hHeld => ?_
    clear hK K
    refine tk 12 2 ?_
    refine wpAnyH_done (by kernel_rfl) ?_ _
    clear hHeld
    have hvs : vd.heap.size = g0 := by omega
    have BM := ((Blk.new vd (MC) 35).alloc (.cells (madeCells #[.bool false] KK) 4)).alloc (.cells #[.int .i64 p, .int .i64 c, .int .i64 h, .int .i64 (S : Int), .int .i64 (N : Int), .slice (some ⟨g0 + 1, 0, none⟩) KK KK, .slice (some ⟨g0, 0, none⟩) KK KK] 113)
    have BK := (Blk.new (vd.alloc (.cells MC 35)) (madeCells #[.bool false] KK) 4).alloc (.cells #[.int .i64 p, .int .i64 c, .int .i64 h, .int .i64 (S : Int), .int .i64 (N : Int), .slice (some ⟨g0 + 1, 0, none⟩) KK KK, .slice (some ⟨g0, 0, none⟩) KK KK] 113)
    have BT := Blk.new ((vd.alloc (.cells MC 35)).alloc (.cells (madeCells #[.bool false] KK) 4)) #[.int .i64 p, .int .i64 c, .int .i64 h, .int .i64 (S : Int), .int .i64 (N : Int), .slice (some ⟨g0 + 1, 0, none⟩) KK KK, .slice (some ⟨g0, 0, none⟩) KK KK] 113
    have hs := hb.size
    simp only [World.size_alloc, hvs] at BK BM BT
    have hbn := ((hb.alloc hs (.cells MC 35)).alloc (by simp; omega) (.cells (madeCells #[.bool false] KK) 4)).alloc (by simp; omega) (.cells #[.int .i64 p, .int .i64 c, .int .i64 h, .int .i64 (S : Int), .int .i64 (N : Int), .slice (some ⟨g0 + 1, 0, none⟩) KK KK, .slice (some ⟨g0, 0, none⟩) KK KK] 113)
    go_wp2
    go_ret
    exact made_fin p c h S N (g0 + 1) (g0) (g0 + 1 + 1) KK MC _ _ HKK.out HN.out hNpos hcn HMS.out BK BM BT (by omega) (by omega) hbn
theorem wm_all (t : Tm) (hS : 1 ≤ t.S ∧ t.S ≤ 6) : ∀ n : Nat, WmOk t (n : Int)
  | 0, xs, ys, a1, a2, n1, n2, c1, c2, w, hI, hx, hy, hn1, hn2, hc1, hc2, r1, r2, hlt => by
    have hx' : Ps t.p t.c t.h (t.S : Int) xs := hx
    have hy' : Ps t.p t.c t.h (t.S : Int) ys := hy
    have h1 := pw_pos hx'.po.1
    have h2 := pw_pos hy'.po.1
    omega
  | n + 1, xs, ys, a1, a2, n1, n2, c1, c2, w, hI, hx, hy, hn1, hn2, hc1, hc2, r1, r2, hlt => by
    refine l12Value_step t hS xs ys a1 a2 n1 n2 c1 c2 ?_ w hI hx hy hn1 hn2 hc1 hc2 r1 r2
    intro us vs b1 b2 m1 m2 d1 d2 W k1 k2 k3 k4 k5 k6 k7 k8 k9 k10
    exact wm_all t hS n us vs b1 b2 m1 m2 d1 d2 W k1 k2 k3 k4 k5 k6 k7 k8 k9 (by omega)
theorem wm_any (t : Tm) (hS : 1 ≤ t.S ∧ t.S ≤ 6) (m : Int) : WmOk t m := fun xs ys a1 a2 n1 n2 c1 c2 w hI hx hy hn1 hn2 hc1 hc2 r1 r2 hlt =>
  wm_all t hS ((pwT xs + pwT ys).toNat + 1) xs ys a1 a2 n1 n2 c1 c2 w hI hx hy hn1 hn2 hc1 hc2 r1 r2 (by omega)
theorem OwnX.oxl {w : World} {base : Nat} {a : Option Addr} {n k : Nat} {l : List Rl} (h : OwnX w base (.slice a n k) l) : n = l.length ∧ OXl base w.heap.size w a l := by
  obtain ⟨hl, h1 | ⟨g, cap, cur, hv, hb, hh, hc, hm, hs, ht⟩⟩ := h
  · obtain ⟨h1, h2⟩ := h1
    simp at h1
    exact ⟨by omega, .inl ⟨h1.1, List.eq_nil_of_length_eq_zero h2⟩⟩
  · simp at hv
    obtain ⟨rfl, rfl, rfl⟩ := hv
    exact ⟨rfl, .inr ⟨g, rfl, hb, (Array.getElem?_eq_some_iff.1 hh).1, cur, hh, by rw [hl, hs]; exact Nat.mul_le_mul_right _ hc, by rw [hl]; exact ht⟩⟩
theorem OwnX.gr {gR gC : Nat} {w w' : World} {base : Nat} {v : Value} {l : List Rl} (h : OwnX w base v l) (hg : Gr gR gC w w') (h1 : gR < base) (h2 : gC < base) : OwnX w' base v l := h.by fun i k1 k2 => hg.block i k2 (by omega) (by omega)
theorem xsL_next {S : Nat} (hS : 1 ≤ S ∧ S ≤ 6) {os : List (Option Int)} {j : Nat} {P n d : Int} (ho : os[j]? = some (some P)) (hP : IsP S n d P) : (xsL S os).take (j + 1) = (xsL S os).take j ++ [(n, d)] := by
  rw [List.take_add_one]
  unfold xsL
  rw [List.getElem?_map, ho]
  have hv : exO S (some P) = (n, d, 0) := by
    unfold exO
    dsimp only
    rw [ex_of hS hP]
    rfl
  simp [hv]
theorem xsV_none {S : Nat} {os : List (Option Int)} {j : Nat} (ho : os[j]? = some none) : xsV S os = ([], 3) := by
  have hall : os.all Option.isSome = false := by
    rw [List.all_eq_false]
    exact ⟨none, List.mem_of_getElem? ho, by simp⟩
  rw [xsV, hall]
  rfl
theorem xsV_all {S : Nat} {os : List (Option Int)} (h : ∀ i o, i < os.length → os[i]? = some o → o.isSome = true) : xsV S os = (xsL S os, 0) := by
  have hall : os.all Option.isSome = true := by
    rw [List.all_eq_true]
    intro o ho
    obtain ⟨i, hi2, he⟩ := List.mem_iff_getElem.1 ho
    exact h i o hi2 (by rw [List.getElem?_eq_getElem hi2, he])
  rw [xsV, if_pos hall]
end Go.Proofs.YtnlclmlnpkncoaaGreat
namespace Go.Proofs.YtnlclmlnpkncoaaGreat
set_option linter.unusedVariables false
def fUq (p : List Int) : Nat := ((pwT p + 1) / 2).toNat
def smQ (xs : List Int) : Bool := (rollsTo 3).all fun r => xs.sum == 0 || (resI xs (ordersP r.1 r.2)).all fun z => decide (fUq z + 1 ≤ fUq xs)
def smA1 : Bool := [(0 : Int), 1, 2, 3].all fun a => smQ [a] && [(0 : Int), 1, 2, 3].all fun b => smQ [a, b] && [(0 : Int), 1, 2, 3].all fun c => smQ [a, b, c]
theorem smA1_is : smA1 = true := by decide +kernel
def bsQ3 : Bool := [(0 : Int), 1, 2, 3].all fun a => decide (fUq [a] ≤ 5) && [(0 : Int), 1, 2, 3].all fun b => decide (a + b ≤ 3 → fUq [a, b] ≤ 5) && [(0 : Int), 1, 2, 3].all fun c => decide (a + b + c ≤ 3 → fUq [a, b, c] ≤ 5)
theorem bsQ3_is : bsQ3 = true := by decide +kernel
theorem four_in {x : Int} (h : 0 ≤ x ∧ x ≤ 3) : x ∈ [(0 : Int), 1, 2, 3] := by
  have : x = 0 ∨ x = 1 ∨ x = 2 ∨ x = 3 := by omega
  simpa using this
def Sm (p c h s : Int) : Prop := c ≤ 3 ∧ h ≤ 3 ∧ s ≤ 3
theorem sm_cases {p c h s : Int} {xs : List Int} (hm : Sm p c h s) (g : Ps p c h s xs) : fUq xs ≤ 5 ∧ smQ xs = true := by
  obtain ⟨a1, a2, a3, a4, a5, a6, a7, a8⟩ := g.po
  obtain ⟨-, -, hx, hs⟩ := okP_iff.1 g
  obtain ⟨m1, m2, -⟩ := hm
  have i1 := smA1_is
  have i2 := bsQ3_is
  unfold smA1 at i1
  unfold bsQ3 at i2
  rw [List.all_eq_true] at i1 i2
  match xs, a4, hx, hs with
  | [], e, _, _ => simp at e; omega
  | [a], _, hx, hs =>
    have ha := hx a (by simp)
    have k1 := i1 a (four_in (by omega))
    have k2 := i2 a (four_in (by omega))
    rw [Bool.and_eq_true] at k1 k2
    exact ⟨of_decide_eq_true k2.1, k1.1⟩
  | [a, b], _, hx, hs =>
    have ha := hx a (by simp)
    have hb := hx b (by simp)
    simp only [List.sum_cons, List.sum_nil] at hs
    have k1 := i1 a (four_in (by omega))
    have k2 := i2 a (four_in (by omega))
    rw [Bool.and_eq_true, List.all_eq_true] at k1 k2
    have l1 := k1.2 b (four_in (by omega))
    have l2 := k2.2 b (four_in (by omega))
    rw [Bool.and_eq_true] at l1 l2
    exact ⟨of_decide_eq_true l2.1 (by omega), l1.1⟩
  | [a, b, d], _, hx, hs =>
    have ha := hx a (by simp)
    have hb := hx b (by simp)
    have hd := hx d (by simp)
    simp only [List.sum_cons, List.sum_nil] at hs
    have k1 := i1 a (four_in (by omega))
    have k2 := i2 a (four_in (by omega))
    rw [Bool.and_eq_true, List.all_eq_true] at k1 k2
    have l1 := k1.2 b (four_in (by omega))
    have l2 := k2.2 b (four_in (by omega))
    rw [Bool.and_eq_true, List.all_eq_true] at l1 l2
    exact ⟨of_decide_eq_true (l2.2 d (four_in (by omega))) (by omega), l1.2 d (four_in (by omega))⟩
  | a :: b :: d :: e :: l, e4, _, _ => simp at e4; omega
theorem sm_res {p c h : Int} {S : Nat} {xs : List Int} (hm : Sm p c h (S : Int)) (g : Ps p c h (S : Int) xs) (h0 : xs.sum ≠ 0) {r : Rl} (hr : r ∈ rollsTo S) : ∀ z ∈ resI xs (ordersP r.1 r.2), fUq z + 1 ≤ fUq xs := fun z hz => by
  have k := (sm_cases hm g).2
  unfold smQ at k
  have hr3 : r ∈ rollsTo 3 := by
    have hS : S = 0 ∨ S = 1 ∨ S = 2 ∨ S = 3 := by
      have : (S : Int) ≤ 3 := hm.2.2
      omega
    rcases hS with rfl | rfl | rfl | rfl
    · simp [rollsTo] at hr
    · rw [rollsTo, List.mem_append]
      refine .inl ?_
      rw [rollsTo, List.mem_append]
      exact .inl hr
    · rw [rollsTo, List.mem_append]
      exact .inl hr
    · exact hr
  have q := List.all_eq_true.1 k r hr3
  rw [Bool.or_eq_true] at q
  rcases q with q | q
  · exact absurd (by simpa using q) h0
  · exact of_decide_eq_true (List.all_eq_true.1 q z hz)
theorem bstA_div {T d : Int} (hT : d ∣ T) (h1 : d ∣ (-1 : Int) ∨ True) {f : List Int → Option Int} {L : List (List Int)} (hf : ∀ z ∈ L, ∃ x, f z = some x ∧ d ∣ x ∧ x ≤ T) : ∀ {j : Nat}, j ≤ L.length → ∃ q, bstA T f L j = some q ∧ (0 < j → d ∣ q.2) ∧ (j = 0 → q.2 = -1)
  | 0, _ => ⟨(0, -1), rfl, fun h => by omega, fun _ => rfl⟩
  | j + 1, hj => by
    obtain ⟨q, e, hd, hz⟩ := bstA_div hT h1 hf (j := j) (by omega)
    have hmem : L.getD j [] ∈ L := by
      rw [List.getD_eq_getElem?_getD, List.getElem?_eq_getElem (by omega)]
      exact List.getElem_mem _
    obtain ⟨x, ex, dx, lx⟩ := hf _ hmem
    rw [bstA, e]
    dsimp only
    rw [ex]
    dsimp only
    split
    · exact ⟨_, rfl, fun _ => Int.dvd_sub hT dx, fun h => by omega⟩
    · rename_i c
      refine ⟨q, rfl, fun _ => ?_, fun h => by omega⟩
      by_cases h0 : 0 < j
      · exact hd h0
      · have := hz (by omega)
        omega
theorem bst_div {T d : Int} (hT : d ∣ T) {f : List Int → Option Int} {L : List (List Int)} (hL : 0 < L.length) (hf : ∀ z ∈ L, ∃ x, f z = some x ∧ d ∣ x ∧ x ≤ T) : ∃ q, bst T f L = some q ∧ d ∣ q.2 := by
  obtain ⟨q, e, h, -⟩ := bstA_div hT (.inr trivial) hf (Nat.le_refl _)
  exact ⟨q, e, h hL⟩
theorem blA_div {T d : Int} (hT : d ∣ T) {f : List Int → Option Int} {own : List Int} {R : List Rl} (hR : ∀ r ∈ R, 0 < (resI own (ordersP r.1 r.2)).length) (hf : ∀ r ∈ R, ∀ z ∈ resI own (ordersP r.1 r.2), ∃ x, f z = some x ∧ d ∣ x ∧ x ≤ T) : ∀ {j : Nat}, j ≤ R.length →
    ∃ L, blA T f own R j = some L ∧ ∀ P ∈ L, d ∣ P
  | 0, _ => ⟨[], rfl, by simp⟩
  | j + 1, hj => by
    obtain ⟨L, e, hd⟩ := blA_div hT hR hf (j := j) (by omega)
    have hmem : R.getD j (0, 0) ∈ R := by
      rw [List.getD_eq_getElem?_getD, List.getElem?_eq_getElem (by omega)]
      exact List.getElem_mem _
    obtain ⟨q, eq, dq⟩ := bst_div hT (hR _ hmem) (hf _ hmem)
    rw [blA, e]
    dsimp only
    rw [eq]
    dsimp only
    exact ⟨_, rfl, fun P hP => by
      rcases List.mem_append.1 hP with q1 | q1
      · exact hd P q1
      · rw [List.mem_singleton.1 q1]
        exact dq⟩
theorem wsum_div {d : Int} : ∀ (R : List Rl) (L : List Int), (∀ P ∈ L, d ∣ P) → d ∣ wsum (R.zip L)
  | [], L, _ => by rw [List.zip_nil_left]; exact Int.dvd_zero d
  | _ :: _, [], _ => by rw [List.zip_nil_right]; exact Int.dvd_zero d
  | r :: R, P :: L, h => by
    rw [List.zip_cons_cons, wsum]
    exact Int.dvd_add (Int.dvd_trans (h P (by simp)) (Int.dvd_mul_right _ _)) (wsum_div R L fun q hq => h q (by simp [hq]))
theorem dm_ten {S : Nat} (hS : 1 ≤ S ∧ S ≤ 3) : 11 ≤ dm S := by
  have : S = 1 ∨ S = 2 ∨ S = 3 := by omega
  rcases this with rfl | rfl | rfl <;> decide
theorem tp_div {S n : Nat} (h : n ≤ dm S) : ((scN S (dm S - n) : Nat) : Int) ∣ tp S := by
  unfold tp
  rw [scN_dvd S (show dm S - n ≤ dm S by omega), Int.natCast_mul]
  exact Int.dvd_mul_right _ _
theorem wc_deep {p c h : Int} {S : Nat} (hS : 1 ≤ S ∧ S ≤ 6) (hm : Sm p c h (S : Int)) : ∀ (n : Nat) (xs ys : List Int), Ps p c h (S : Int) xs → Ps p c h (S : Int) ys → fUq xs + fUq ys ≤ n → n ≤ dm S → ∃ x, wc S xs ys = some x ∧ ((scN S (dm S - n) : Nat) : Int) ∣ x
  | n, xs, ys, hx, hy, hn, hd => by
    by_cases e1 : xs.sum = 0
    · exact ⟨_, wc_own e1, tp_div hd⟩
    · by_cases e2 : ys.sum = 0
      · exact ⟨_, wc_other e1 e2, Int.dvd_zero _⟩
      · obtain ⟨q1, q2, q3, -⟩ := hx.po
        obtain ⟨y1, y2, y3, -⟩ := hy.po
        have hne := res_ne hS q2 q3 q1
        have hpos : 1 ≤ fUq xs := by
          have h36 := hne
          have hr : ((1 : Int), (1 : Int)) ∈ rollsTo S := by
            have hS3 : S = 1 ∨ S = 2 ∨ S = 3 := by
              have : (S : Int) ≤ 3 := hm.2.2
              omega
            rcases hS3 with rfl | rfl | rfl <;> decide
          have h1 := hne _ hr
          have h2 := sm_res hm hx e1 hr _ (List.getElem_mem h1)
          omega
        match n, hn, hd with
        | 0, hn, hd => omega
        | m + 1, hn, hd =>
          rw [wc_step hS q2 q3 q1 y1 e1 e2]
          have hT : ((scN S (dm S - m) : Nat) : Int) ∣ tp S := tp_div (by omega)
          obtain ⟨L, eL, dL⟩ := blA_div (d := ((scN S (dm S - m) : Nat) : Int)) hT (f := wc S ys) (own := xs) (R := rollsTo S) hne (fun r hr z hz => by
            obtain ⟨r1, r2, r3⟩ := rolls_in hS hr
            have hz1 := (hx.res r1 r2 r3 z hz).1
            have hz2 := sm_res hm hx e1 hr z hz
            obtain ⟨x, ex, dx⟩ := wc_deep hS hm m ys z hy hz1 (by omega) (by omega)
            exact ⟨x, ex, dx, (wc_in hS y2 y3 y1 hz1.po.1 ex).2⟩) (Nat.le_refl _)
          rw [eL]
          have hw := wsum_div (rollsTo S) L dL
          have hs : ((scN S (dm S - m) : Nat) : Int) = ((scN S (dm S - (m + 1)) : Nat) : Int) * ((S * S : Nat) : Int) := by
            rw [show dm S - m = dm S - (m + 1) + 1 by omega, scN_succ, Int.natCast_mul]
          rw [hs] at hw
          obtain ⟨k, hk⟩ := hw
          have hB := base_range hS
          unfold mnP
          dsimp only
          rw [if_pos (Int.emod_eq_zero_of_dvd ⟨((scN S (dm S - (m + 1)) : Nat) : Int) * k, by rw [hk, Int.mul_comm ((scN S (dm S - (m + 1)) : Nat) : Int), Int.mul_assoc]⟩)]
          refine ⟨_, rfl, k, ?_⟩
          rw [hk, Int.mul_comm ((scN S (dm S - (m + 1)) : Nat) : Int), Int.mul_assoc, Int.mul_ediv_cancel_left _ (by omega)]
termination_by n => n
theorem blA_map {T : Int} {f : List Int → Option Int} {own : List Int} {R : List Rl} : ∀ {j : Nat} {L : List Int}, j ≤ R.length → blA T f own R j = some L → (R.take j).map (fun r => (bst T f (resI own (ordersP r.1 r.2))).map fun q => q.2) = L.map some
  | 0, L, _, h => by
    rw [blA] at h
    injection h with h
    subst h
    rfl
  | j + 1, L, hj, h => by
    rw [blA] at h
    split at h
    · cases h
    · rename_i M hM
      split at h
      · cases h
      · rename_i q hq
        injection h with h
        subst h
        have ih := blA_map (j := j) (by omega) hM
        have hg : R[j]? = some (R.getD j (0, 0)) := by
          rw [List.getD_eq_getElem?_getD, List.getElem?_eq_getElem (by omega)]
          rfl
        rw [List.take_add_one, hg, Option.toList_some, List.map_append, ih, List.map_append, List.map_cons, List.map_nil, hq]
        rfl
def nuX (S : Nat) (P : Int) : Rl := ((exO S (some P)).1, (exO S (some P)).2.1)
theorem nuX_is {S : Nat} (hS : 1 ≤ S ∧ S ≤ 6) {P : Int} (h : -(tp S) ≤ P ∧ P ≤ tp S) : IsP S (nuX S P).1 (nuX S P).2 P ∧ exO S (some P) = ((nuX S P).1, (nuX S P).2, 0) ∧ (0 ≤ (nuX S P).2 ∧ (nuX S P).2 ≤ 100) := by
  have ht := tp_in hS
  obtain ⟨n, d, e, i⟩ := exO_is hS (x := P) (by omega)
  unfold nuX
  rw [e]
  obtain ⟨a, -, b, -⟩ := isP_depth hS i
  have := nn_range hS
  exact ⟨i, rfl, a, by dsimp only; omega⟩
theorem nuX_all {S : Nat} (hS : 1 ≤ S ∧ S ≤ 6) : ∀ {L : List Int}, (∀ P ∈ L, -(tp S) ≤ P ∧ P ≤ tp S) → IsPs S (L.map (nuX S)) L ∧ ∀ x ∈ L.map (nuX S), xvB S x.1 x.2 = true ∧ (0 ≤ x.2 ∧ x.2 ≤ 100)
  | [], _ => ⟨trivial, by simp⟩
  | P :: L, h => by
    obtain ⟨a, b⟩ := nuX_all hS (L := L) fun q hq => h q (by simp [hq])
    obtain ⟨i, -, k⟩ := nuX_is hS (h P (by simp))
    refine ⟨⟨i, a⟩, fun x hx => ?_⟩
    rw [List.map_cons] at hx
    rcases List.mem_cons.1 hx with rfl | hx
    · exact ⟨i.1, k⟩
    · exact b x hx
theorem mnV_of {p c h : Int} {S : Nat} (hv : vB p c h (S : Int) = true) {X : List Rl} (hX : ∀ x ∈ X, xvB S x.1 x.2 = true ∧ (0 ≤ x.2 ∧ x.2 ≤ 100)) (hl : X.length = (rollsTo S).length) : mnV p c h (S : Int) X = xo3 (mnX S ((rollsTo S).zip X)) 3 := by
  have h0 : sfC p c h (S : Int) X = 0 := by
    unfold sfC
    rw [if_pos hv, Int.toNat_natCast, if_pos (List.all_eq_true.2 fun x hx => (hX x hx).1)]
  unfold mnV
  rw [if_pos h0, Int.toNat_natCast, if_pos hl]
theorem luck_all {p c h s : Int} {xs ys : List Int} (hm : Sm p c h s) (e : ocE p c h s xs ys = 0) :
    ∃ (X Z : List Rl) (a b : Int), rlcV p c h s xs ys = (X, 0) ∧ X.length = (rollsTo s.toNat).length ∧ Z.length = (rollsTo s.toNat).length ∧ (rollsTo s.toNat).length ≤ 36 ∧ (∀ (j : Nat) (r z : Rl), (rollsTo s.toNat)[j]? = some r → Z[j]? = some z → raceLuckV p c h s xs ys r.1 r.2 = (z.1, z.2, 0)) ∧
      mnV p c h s X = (a, b, 0) ∧ mnV p c h s Z = (0, 0, 0) ∧ winChanceV p c h s xs ys = (a, b, 0) ∧ (∀ x ∈ X, 0 ≤ x.2 ∧ x.2 ≤ 100) ∧ ∀ x ∈ Z, 0 ≤ x.2 ∧ x.2 ≤ 100 := by
  obtain ⟨hrc, k1, k2⟩ := ocE_zero e
  obtain ⟨S, rfl, hS, hx, hy, hcn, -⟩ := rc_ready (rcE_zero hrc).1
  have ht := tp_in hS
  obtain ⟨q1, q2, q3, -⟩ := hx.po
  obtain ⟨y1, y2, y3, -⟩ := hy.po
  have hv : vB p c h (S : Int) = true := (okP_v hx).1
  have hS3 : (S : Int) ≤ 3 := hm.2.2
  have hd11 := dm_ten (S := S) (by omega)
  have fx := (sm_cases hm hx).1
  have fy := (sm_cases hm hy).1
  obtain ⟨W, hW, -⟩ := wc_deep hS hm 10 xs ys hx hy (by omega) (by omega)
  have hWi := wc_in hS q2 q3 q1 y1 hW
  have hst := wc_step hS q2 q3 q1 y1 k1 k2
  rw [hW] at hst
  unfold mnP at hst
  split at hst
  · cases hst
  · rename_i L hL
    split at hst
    · rename_i hmod
      injection hst with hst
      have hlen : L.length = (rollsTo S).length := blA_length hL
      have h36 : (rollsTo S).length ≤ 36 := by
        have := rollsTo_length S
        have := Nat.mul_le_mul hS.2 hS.2
        omega
      have hmap := blA_map (Nat.le_refl _) hL
      rw [List.take_length] at hmap
      have hro : rlO S xs ys = L.map some := hmap
      have hin : ∀ P ∈ L, 0 ≤ P ∧ P ≤ tp S := by
        intro P hP
        have hPm : some P ∈ rlO S xs ys := by rw [hro]; exact List.mem_map.2 ⟨P, hP, rfl⟩
        obtain ⟨r, hr, he⟩ := List.mem_map.1 hPm
        obtain ⟨r1, r2, r3⟩ := rolls_in hS hr
        exact bst_map_in hS hy (res_ne hS q2 q3 q1 r hr) (fun z hz => (hx.res r1 r2 r3 z hz).1) P he
      have hB := base_range hS
      have hws : wsum ((rollsTo S).zip L) = W * ((S * S : Nat) : Int) := by
        rw [hst]
        exact (Int.ediv_mul_cancel (Int.dvd_of_emod_eq_zero hmod)).symm
      have hX := nuX_all hS (L := L) fun P hP => by have := hin P hP; omega
      have hZ := nuX_all hS (L := L.map fun q => q - W) fun P hP => by
        obtain ⟨q, hq, rfl⟩ := List.mem_map.1 hP
        have := hin q hq
        omega
      have hWn := nuX_is hS (P := W) (by omega)
      refine ⟨L.map (nuX S), (L.map fun q => q - W).map (nuX S), (nuX S W).1, (nuX S W).2, ?_, by rw [List.length_map, hlen, Int.toNat_natCast], by rw [List.length_map, List.length_map, hlen, Int.toNat_natCast], by rw [Int.toNat_natCast]; exact h36, ?_, ?_, ?_, ?_, fun x hx => (hX.2 x hx).2, fun x hx => (hZ.2 x hx).2⟩
      · unfold rlcV
        rw [if_pos e, Int.toNat_natCast, hro, xsV_all (fun i o hi ho => by
          rw [List.getElem?_map] at ho
          obtain ⟨P, -, rfl⟩ := Option.map_eq_some_iff.1 ho
          rfl), xsL, List.map_map]
        rfl
      · intro j r z hr hz
        rw [Int.toNat_natCast] at hr
        rw [List.getElem?_map, List.getElem?_map] at hz
        obtain ⟨P1, hP1, rfl⟩ := Option.map_eq_some_iff.1 hz
        obtain ⟨P, hP, rfl⟩ := Option.map_eq_some_iff.1 hP1
        have hrm := List.mem_of_getElem? hr
        have hri := rollsTo_mem S r hrm
        have hb : (rlO S xs ys)[j]? = (L.map some)[j]? := by rw [hro]
        rw [rlO, List.getElem?_map, hr, Option.map_some, List.getElem?_map, hP, Option.map_some] at hb
        injection hb with hb
        have hlk : lkO S xs ys r.1 r.2 = some (P - W) := by
          unfold lkO
          rw [hb, hW]
          rfl
        have hrl : rlB (S : Int) r.1 r.2 = true := by
          unfold rlB inB
          simp only [Bool.and_eq_true, decide_eq_true_eq]
          omega
        have htn : tnE p c h (S : Int) xs ys r.1 r.2 = 0 := by
          unfold tnE
          rw [if_neg (by rw [hrl]; simp)]
          exact e
        have hPi := hin P (List.mem_of_getElem? hP)
        unfold raceLuckV
        rw [if_pos htn, Int.toNat_natCast, hlk]
        exact (nuX_is hS (P := P - W) (by omega)).2.1
      · rw [mnV_of hv hX.2 (by rw [List.length_map, hlen])]
        have h1 := (mn_partsZ hS (R := rollsTo S) hX.1 (fun P hP => by have := hin P hP; omega) (by omega)).1 hmod
        obtain ⟨n, d, e1, e2⟩ := h1
        rw [← hst] at e2
        obtain ⟨rfl, rfl⟩ := isP_uniq hS e2 hWn.1
        rw [e1]
        rfl
      · rw [mnV_of hv hZ.2 (by rw [List.length_map, List.length_map, hlen]), luck_mean hS hlen (by omega) hws hZ.1 (fun P hP => by have := hin P hP; omega)]
        rfl
      · unfold winChanceV
        rw [if_pos hrc, Int.toNat_natCast, hW]
        exact hWn.2.1
    · cases hst
end Go.Proofs.YtnlclmlnpkncoaaGreat
