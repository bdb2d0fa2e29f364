/- Texts of a proof, laid together. -/
import Derived.Test.YtfomfbfcnenhbaaGreatV36
import Derived.Test.YtfomfbfcnenhbaaGreatV04
import Derived.Test.YtfomfbfcnenhbaaGreatV12
import Derived.Laws.MakeOwn
import Derived.Deep.OwnRows
import Derived.Test.YtfomfbfcnenhbaaGreatV41
import Derived.Test.YtfomfbfcnenhbaaGreatV39
import Derived.Test.YtfomfbfcnenhbaaGreatV35
import Derived.Test.YtfomfbfcnenhbaaGreatV44
import Derived.Test.YtfomfbfcnenhbaaGreatV01
import Derived.BigQuiet
namespace Go.Proofs.YtfomfbfcnenhbaaGreat
open Go.ChangeShapes Go.WideShapes Go.ChangeAt Go.RowKit
set_option linter.unusedVariables false
set_option linter.unusedSimpArgs false
set_option maxRecDepth 4000
theorem infoX12 : (Tryz.prog.info? 30).map (fun i => (i.zero, i.size, i.bytes)) = some (some (.agg #[.int .i64 0, .int .i64 0]), 2, 16) := by kernel_rfl
theorem made_one (z : Value) (n i : Nat) (h : i < n) : (madeCells #[z] n)[i]? = some z := by
  rw [← Array.getElem?_toList, toList_madeCells_one, List.getElem?_replicate, if_pos h]
theorem made_fin (p c h : Int) (S N gk gv g KK : Nat) (MC : Array Value) (w w' : World) (hKK : N * N = KK) (hN : cnt h.toNat c.toNat = N) (hNpos : 1 ≤ N) (hcn : N ≤ 500) (hMs : MC.size = KK * 2)
    (BK : Blk w' gk (madeCells #[.bool false] KK) 4) (BM : Blk w' gv MC 30) (BT : Blk w' g #[.int .i64 p, .int .i64 c, .int .i64 h, .int .i64 (S : Int), .int .i64 (N : Int), .slice (some ⟨gk, 0, none⟩) KK KK, .slice (some ⟨gv, 0, none⟩) KK KK] 135)
    (h1 : w.heap.size ≤ gk) (h2 : w.heap.size ≤ gv) (hb : Below w.heap.size w w') :
    ∃ t : Tm, Ending.returned (Value.pointer (some ⟨g, 0, none⟩)) = .returned (.pointer (some ⟨t.g, 0, none⟩)) ∧ t.p = p ∧ t.c = c ∧ t.h = h ∧ t.S = S ∧ TmI t w' ∧ w.heap.size ≤ t.gk ∧ w.heap.size ≤ t.gv ∧ Below w.heap.size w w' := by
  subst hKK
  refine ⟨⟨p, c, h, S, g, N, gk, gv⟩, rfl, rfl, rfl, rfl, rfl, ⟨BT, ⟨hN.symm, hNpos, hcn⟩, _, MC, BK, BM, fun xs ys h1 h2 => ?_⟩, h1, h2, hb⟩
  have l1 : nm c xs < N := by have := nm_lt h1; rw [← hN]; exact this
  have l2 : nm c ys < N := by have := nm_lt h2; rw [← hN]; exact this
  have l3 := Nat.mul_le_mul_right N (show nm c xs + 1 ≤ N from l1)
  rw [Nat.add_mul] at l3
  have l4 : nm c xs * N + nm c ys < N * N := by omega
  have s1 : (nm c xs * N + nm c ys) * 2 < MC.size := by rw [hMs]; omega
  have s2 : (nm c xs * N + nm c ys) * 2 + 1 < MC.size := by rw [hMs]; omega
  exact ⟨false, MC[(nm c xs * N + nm c ys) * 2], MC[(nm c xs * N + nm c ys) * 2 + 1], made_one _ _ _ l4, Array.getElem?_eq_getElem s1, Array.getElem?_eq_getElem s2, fun q => by cases q⟩
set_option maxRecDepth 8000 in
set_option maxHeartbeats 2000000 in
theorem l12New_any (p c h : Int) (S : Nat) (hv : vB p c h (S : Int) = true) (hcn : cnt h.toNat c.toNat ≤ 500) (w : World) :
    Calls Tryz.prog 55 #[.agg #[.int .i64 p, .int .i64 c, .int .i64 h, .int .i64 (S : Int)]] w fun e w' => ∃ t : Tm, e = .returned (.pointer (some ⟨t.g, 0, none⟩)) ∧ t.p = p ∧ t.c = c ∧ t.h = h ∧ t.S = S ∧ TmI t w' ∧ w.heap.size ≤ t.gk ∧ w.heap.size ≤ t.gv ∧ Below w.heap.size w w' := by
  have hv2 := vB_iff.1 hv
  have hW := fun W => l10Ways_any h.toNat c.toNat W (by omega) (by omega)
  rw [show ((h.toNat : Nat) : Int) = h by omega, show ((c.toNat : Nat) : Int) = c by omega, wyI, if_pos (by omega)] at hW
  have hNpos := cnt_pos h.toNat c.toNat
  obtain ⟨N, hN⟩ : ∃ N, cnt h.toNat c.toNat = N := ⟨_, rfl⟩
  rw [hN] at hW hcn hNpos
  have HW := Lib.hid hW
  have HN := Lib.hid hN
  obtain ⟨KK, hKK⟩ : ∃ KK, N * N = KK := ⟨_, rfl⟩
  have hkl : KK ≤ 250000 := by have := Nat.mul_le_mul hcn hcn; omega
  have HKK := Lib.hid hKK
  have wm : IntKind.i64.wrap ((N : Int) * (N : Int)) = (KK : Int) := by
    rw [← Int.natCast_mul, hKK]
    exact IntWalk.i64_in _ (by omega)
  have hmk := run_make_row' (P := Tryz.prog) 133 4 (.bool false) 1 Tryz.underlying133 (by kernel_rfl) rfl .i64 .i64 KK (by omega) (by omega)
  obtain ⟨i0, hi0, hz0, hz1, hz2⟩ := info_parts infoX12
  have hmk2 : ∀ W : World, (Instr.makeSlice 48 (.int .i64 (KK : Int)) (.int .i64 (KK : Int))).run Tryz.prog W = .ok (.slice (some ⟨W.heap.size, 0, none⟩) KK KK) (W.alloc (.cells (madeCells (Value.cells (.agg #[.int .i64 0, .int .i64 0])) (KK * 2)) 30)) := fun W => by
    have q := run_make (P := Tryz.prog) W 48 30 i0 _ Tryz.underlying48 hi0 hz0 .i64 .i64 (KK : Int) (KK : Int) (by omega) (Int.le_refl _) (by rw [hz2]; omega) (by omega)
    rw [hz1, Int.toNat_natCast] at q
    exact q
  obtain ⟨MC, hMC⟩ : ∃ q, madeCells (Value.cells (.agg #[.int .i64 0, .int .i64 0])) (KK * 2) = q := ⟨_, rfl⟩
  have hMs : MC.size = KK * 2 := by rw [← hMC]; exact size_madeCells _ _
  rw [hMC] at hmk2
  have HMS := Lib.hid hMs
  have BV := Blk.new w #[.int .i64 p, .int .i64 c, .int .i64 h, .int .i64 (S : Int)] 25
  have hb : Below w.heap.size w (w.alloc (.cells #[.int .i64 p, .int .i64 c, .int .i64 h, .int .i64 (S : Int)] 25)) := (Below.refl _ _).alloc (Nat.le_refl _) _
  obtain ⟨x0, x1, x2, x3, xf, xl⟩ := BV.four
  clear hi0 hz0 hz1 hz2 hMC hMs hKK hN hW hv2
  go_enter Tryz.func55, Tryz.ntmps55
  go_wp2_with fail
  refine (HW.out _).mono ?_
  rintro e w1' ⟨rfl, rfl⟩
  go_wp2_with fail
  clear x0 x1 x2 x3 xf xl
  generalize (w.alloc (.cells #[.int .i64 p, .int .i64 c, .int .i64 h, .int .i64 (S : Int)] 25)) = w1 at *
  obtain ⟨g0, hg0⟩ : ∃ g, w1.heap.size = g := ⟨_, rfl⟩
  replace BV := BV.drew
  replace hb := hb.drew
  refine wp_region_held_drew (S := fun w' => w'.cell? ⟨w.heap.size, 0, none⟩ = some (.int .i64 p) ∧ w'.cell? ⟨w.heap.size, 1, none⟩ = some (.int .i64 c) ∧ w'.cell? ⟨w.heap.size, 2, none⟩ = some (.int .i64 h) ∧ w'.cell? ⟨w.heap.size, 3, none⟩ = some (.int .i64 (S : Int))) (by kernel_rfl) ⟨BV.four.1, BV.four.2.1, BV.four.2.2.1, BV.four.2.2.2.1⟩ (fun hHeld => ?_)
  clear hHeld
  have hz_vd : w1.drew.heap.size = w1.heap.size := rfl
  generalize w1.drew = vd at *
  have hHeld : vd.cell? ⟨w.heap.size, 0, none⟩ = some (.int .i64 p) ∧ vd.cell? ⟨w.heap.size, 1, none⟩ = some (.int .i64 c) ∧ vd.cell? ⟨w.heap.size, 2, none⟩ = some (.int .i64 h) ∧ vd.cell? ⟨w.heap.size, 3, none⟩ = some (.int .i64 (S : Int)) := ⟨BV.four.1, BV.four.2.1, BV.four.2.2.1, BV.four.2.2.2.1⟩
  refine wpAnyH_take (i := 0) (oi := ⟨some 9, _, _, _, _, _⟩) (v := ?_) rfl (by kernel_rfl) (by kernel_rfl) (by kernel_rfl) (fun _ _ _ h => h) (Or.inl ⟨by rfl, ?_⟩) (by assumption) ?_
  rotate_left
  · intro w hSw; (try dsimp only at hSw); go_simp; (try (with_reducible rfl))
  try simp only [Act.put, List.setIfInBounds_toArray, List.set_cons_zero, List.set_cons_succ]
  refine wpAnyH_take (i := 1) (oi := ⟨some 10, _, _, _, _, _⟩) (v := ?_) rfl (by kernel_rfl) (by kernel_rfl) (by kernel_rfl) (fun _ _ _ h => h) (Or.inl ⟨by rfl, ?_⟩) (by assumption) ?_
  rotate_left
  · intro w hSw; (try dsimp only at hSw); go_simp; (try (with_reducible rfl))
  try simp only [Act.put, List.setIfInBounds_toArray, List.set_cons_zero, List.set_cons_succ]
  refine wpAnyH_take (i := 2) (oi := ⟨some 11, _, _, _, _, _⟩) (v := ?_) rfl (by kernel_rfl) (by kernel_rfl) (by kernel_rfl) (fun _ _ _ h => h) (Or.inl ⟨by rfl, ?_⟩) (by assumption) ?_
  rotate_left
  · intro w hSw; (try dsimp only at hSw); go_simp; (try (with_reducible rfl))
  try simp only [Act.put, List.setIfInBounds_toArray, List.set_cons_zero, List.set_cons_succ]
  refine wpAnyH_take (i := 3) (oi := ⟨some 12, _, _, _, _, _⟩) (v := ?_) rfl (by kernel_rfl) (by kernel_rfl) (by kernel_rfl) (fun _ _ _ h => h) (Or.inl ⟨by rfl, ?_⟩) (by assumption) ?_
  rotate_left
  · intro w hSw; (try dsimp only at hSw); go_simp; (try (with_reducible rfl))
  try simp only [Act.put, List.setIfInBounds_toArray, List.set_cons_zero, List.set_cons_succ]
  refine wpAnyH_take (i := 4) (oi := ⟨some 13, _, _, _, _, _⟩) (v := ?_) rfl (by kernel_rfl) (by kernel_rfl) (by kernel_rfl) (fun _ _ _ h => h) (Or.inl ⟨by rfl, ?_⟩) (by assumption) ?_
  rotate_left
  · intro w hSw; (try dsimp only at hSw); go_simp; (try (with_reducible rfl))
  try simp only [Act.put, List.setIfInBounds_toArray, List.set_cons_zero, List.set_cons_succ]
  refine wpAnyH_take (i := 6) (oi := ⟨some 15, _, _, _, _, _⟩) (v := ?_) rfl (by kernel_rfl) (by kernel_rfl) (by kernel_rfl) (fun _ _ _ h => h) (Or.inl ⟨by rfl, ?_⟩) (by assumption) ?_
  rotate_left
  · intro w hSw; (try dsimp only at hSw); go_simp; (try (with_reducible rfl))
  try simp only [Act.put, List.setIfInBounds_toArray, List.set_cons_zero, List.set_cons_succ]
  refine wpAnyH_take (i := 7) (oi := ⟨some 16, _, _, _, _, _⟩) (v := ?_) rfl (by kernel_rfl) (by kernel_rfl) (by kernel_rfl) (fun _ _ _ h => h) (Or.inl ⟨by rfl, ?_⟩) (by assumption) ?_
  rotate_left
  · intro w hSw; (try dsimp only at hSw); go_simp; (try (with_reducible rfl))
  try simp only [Act.put, List.setIfInBounds_toArray, List.set_cons_zero, List.set_cons_succ]
  refine wpAnyH_take (i := 8) (oi := ⟨some 17, _, _, _, _, _⟩) (v := ?_) rfl (by kernel_rfl) (by kernel_rfl) (by kernel_rfl) (fun _ _ _ h => h) (Or.inl ⟨by rfl, ?_⟩) (by assumption) ?_
  rotate_left
  · intro w hSw; (try dsimp only at hSw); go_simp; (try (with_reducible rfl))
  try simp only [Act.put, List.setIfInBounds_toArray, List.set_cons_zero, List.set_cons_succ]
  refine wpAnyH_ready (rs := [5, 9]) (by kernel_rfl) (by simp) ?_
  refine AllReadyH.cons (o := ⟨some 14, _, _, _, _, _⟩) rfl (fun K hK => ?_) (AllReadyH.cons (o := ⟨some 18, _, _, _, _, _⟩) rfl (fun K hK => ?_) AllReadyH.nil)
  · go_simp
    (try go_wp2_with fail)
    refine hK.out _ _ ⟨(BV.alloc (.cells (madeCells #[.bool false] KK) 4)).four.1, (BV.alloc (.cells (madeCells #[.bool false] KK) 4)).four.2.1, (BV.alloc (.cells (madeCells #[.bool false] KK) 4)).four.2.2.1, (BV.alloc (.cells (madeCells #[.bool false] KK) 4)).four.2.2.2.1⟩ (fun hHeld => ?_)
    clear hK K
    try simp only [Act.put, List.setIfInBounds_toArray, List.set_cons_zero, List.set_cons_succ]
    refine wpAnyH_ready (rs := [9]) (by kernel_rfl) (by simp) ?_
    refine AllReadyH.cons (o := ⟨some 18, _, _, _, _, _⟩) rfl (fun K hK => ?_) AllReadyH.nil
    go_simp
    (try go_wp2_with fail)
    refine hK.out _ _ ⟨((BV.alloc (.cells (madeCells #[.bool false] KK) 4)).alloc (.cells MC 30)).four.1, ((BV.alloc (.cells (madeCells #[.bool false] KK) 4)).alloc (.cells MC 30)).four.2.1, ((BV.alloc (.cells (madeCells #[.bool false] KK) 4)).alloc (.cells MC 30)).four.2.2.1, ((BV.alloc (.cells (madeCells #[.bool false] KK) 4)).alloc (.cells MC 30)).four.2.2.2.1⟩ (fun hHeld => ?_)
    clear hK K
    try simp only [Act.put, List.setIfInBounds_toArray, List.set_cons_zero, List.set_cons_succ]
    refine wpAnyH_take (i := 10) (oi := ⟨some 19, _, _, _, _, _⟩) (v := ?_) rfl (by kernel_rfl) (by kernel_rfl) (by kernel_rfl) (fun _ _ _ h => h) (Or.inl ⟨by rfl, ?_⟩) (by assumption) ?_
    rotate_left
    · intro w hSw; (try dsimp only at hSw); go_simp; (try (with_reducible rfl))
    try simp only [Act.put, List.setIfInBounds_toArray, List.set_cons_zero, List.set_cons_succ]
    refine wpAnyH_ready (rs := [11]) (by kernel_rfl) (by simp) ?_
    refine AllReadyH.cons (o := ⟨some 20, _, _, _, _, _⟩) rfl (fun K hK => ?_) AllReadyH.nil
    go_simp
    (try go_wp2_with fail)
    refine hK.out _ _ ⟨(((BV.alloc (.cells (madeCells #[.bool false] KK) 4)).alloc (.cells MC 30)).alloc (.cells #[.int .i64 p, .int .i64 c, .int .i64 h, .int .i64 (S : Int), .int .i64 (N : Int), .slice (some ⟨g0, 0, none⟩) KK KK, .slice (some ⟨g0 + 1, 0, none⟩) KK KK] 135)).four.1, (((BV.alloc (.cells (madeCells #[.bool false] KK) 4)).alloc (.cells MC 30)).alloc (.cells #[.int .i64 p, .int .i64 c, .int .i64 h, .int .i64 (S : Int), .int .i64 (N : Int), .slice (some ⟨g0, 0, none⟩) KK KK, .slice (some ⟨g0 + 1, 0, none⟩) KK KK] 135)).four.2.1, (((BV.alloc (.cells (madeCells #[.bool false] KK) 4)).alloc (.cells MC 30)).alloc (.cells #[.int .i64 p, .int .i64 c, .int .i64 h, .int .i64 (S : Int), .int .i64 (N : Int), .slice (some ⟨g0, 0, none⟩) KK KK, .slice (some ⟨g0 + 1, 0, none⟩) KK KK] 135)).four.2.2.1, (((BV.alloc (.cells (madeCells #[.bool false] KK) 4)).alloc (.cells MC 30)).alloc (.cells #[.int .i64 p, .int .i64 c, .int .i64 h, .int .i64 (S : Int), .int .i64 (N : Int), .slice (some ⟨g0, 0, none⟩) KK KK, .slice (some ⟨g0 + 1, 0, none⟩) KK KK] 135)).four.2.2.2.1⟩ (fun hHeld => ?_)
    clear hK K
    try simp only [Act.put, List.setIfInBounds_toArray, List.set_cons_zero, List.set_cons_succ]
    refine wpAnyH_take (i := 12) (oi := ⟨some 2, _, _, _, _, _⟩) (v := ?_) rfl (by kernel_rfl) (by kernel_rfl) (by kernel_rfl) (fun _ _ _ h => h) (Or.inl ⟨by rfl, ?_⟩) (by assumption) ?_
    rotate_left
    · intro w hSw; (try dsimp only at hSw); go_simp; (try (with_reducible rfl))
    try simp only [Act.put, List.setIfInBounds_toArray, List.set_cons_zero, List.set_cons_succ]
    refine wpAnyH_done (by kernel_rfl) ?_ _
    clear hHeld
    have hvs : vd.heap.size = g0 := by omega
    have BK := ((Blk.new vd (madeCells #[.bool false] KK) 4).alloc (.cells MC 30)).alloc (.cells #[.int .i64 p, .int .i64 c, .int .i64 h, .int .i64 (S : Int), .int .i64 (N : Int), .slice (some ⟨g0, 0, none⟩) KK KK, .slice (some ⟨g0 + 1, 0, none⟩) KK KK] 135)
    have BM := (Blk.new (vd.alloc (.cells (madeCells #[.bool false] KK) 4)) (MC) 30).alloc (.cells #[.int .i64 p, .int .i64 c, .int .i64 h, .int .i64 (S : Int), .int .i64 (N : Int), .slice (some ⟨g0, 0, none⟩) KK KK, .slice (some ⟨g0 + 1, 0, none⟩) KK KK] 135)
    have BT := Blk.new ((vd.alloc (.cells (madeCells #[.bool false] KK) 4)).alloc (.cells MC 30)) #[.int .i64 p, .int .i64 c, .int .i64 h, .int .i64 (S : Int), .int .i64 (N : Int), .slice (some ⟨g0, 0, none⟩) KK KK, .slice (some ⟨g0 + 1, 0, none⟩) KK KK] 135
    have hs := hb.size
    simp only [World.size_alloc, hvs] at BK BM BT
    have hbn := ((hb.alloc hs (.cells (madeCells #[.bool false] KK) 4)).alloc (by simp; omega) (.cells MC 30)).alloc (by simp; omega) (.cells #[.int .i64 p, .int .i64 c, .int .i64 h, .int .i64 (S : Int), .int .i64 (N : Int), .slice (some ⟨g0, 0, none⟩) KK KK, .slice (some ⟨g0 + 1, 0, none⟩) KK KK] 135)
    go_wp2
    go_ret
    exact made_fin p c h S N (g0) (g0 + 1) (g0 + 1 + 1) KK MC _ _ HKK.out HN.out hNpos hcn HMS.out BK BM BT (by omega) (by omega) hbn
  · go_simp
    (try go_wp2_with fail)
    refine hK.out _ _ ⟨(BV.alloc (.cells MC 30)).four.1, (BV.alloc (.cells MC 30)).four.2.1, (BV.alloc (.cells MC 30)).four.2.2.1, (BV.alloc (.cells MC 30)).four.2.2.2.1⟩ (fun hHeld => ?_)
    clear hK K
    try simp only [Act.put, List.setIfInBounds_toArray, List.set_cons_zero, List.set_cons_succ]
    refine wpAnyH_ready (rs := [5]) (by kernel_rfl) (by simp) ?_
    refine AllReadyH.cons (o := ⟨some 14, _, _, _, _, _⟩) rfl (fun K hK => ?_) AllReadyH.nil
    go_simp
    (try go_wp2_with fail)
    refine hK.out _ _ ⟨((BV.alloc (.cells MC 30)).alloc (.cells (madeCells #[.bool false] KK) 4)).four.1, ((BV.alloc (.cells MC 30)).alloc (.cells (madeCells #[.bool false] KK) 4)).four.2.1, ((BV.alloc (.cells MC 30)).alloc (.cells (madeCells #[.bool false] KK) 4)).four.2.2.1, ((BV.alloc (.cells MC 30)).alloc (.cells (madeCells #[.bool false] KK) 4)).four.2.2.2.1⟩ (fun hHeld => ?_)
    clear hK K
    try simp only [Act.put, List.setIfInBounds_toArray, List.set_cons_zero, List.set_cons_succ]
    refine wpAnyH_take (i := 10) (oi := ⟨some 19, _, _, _, _, _⟩) (v := ?_) rfl (by kernel_rfl) (by kernel_rfl) (by kernel_rfl) (fun _ _ _ h => h) (Or.inl ⟨by rfl, ?_⟩) (by assumption) ?_
    rotate_left
    · intro w hSw; (try dsimp only at hSw); go_simp; (try (with_reducible rfl))
    try simp only [Act.put, List.setIfInBounds_toArray, List.set_cons_zero, List.set_cons_succ]
    refine wpAnyH_ready (rs := [11]) (by kernel_rfl) (by simp) ?_
    refine AllReadyH.cons (o := ⟨some 20, _, _, _, _, _⟩) rfl (fun K hK => ?_) AllReadyH.nil
    go_simp
    (try go_wp2_with fail)
    refine hK.out _ _ ⟨(((BV.alloc (.cells MC 30)).alloc (.cells (madeCells #[.bool false] KK) 4)).alloc (.cells #[.int .i64 p, .int .i64 c, .int .i64 h, .int .i64 (S : Int), .int .i64 (N : Int), .slice (some ⟨g0 + 1, 0, none⟩) KK KK, .slice (some ⟨g0, 0, none⟩) KK KK] 135)).four.1, (((BV.alloc (.cells MC 30)).alloc (.cells (madeCells #[.bool false] KK) 4)).alloc (.cells #[.int .i64 p, .int .i64 c, .int .i64 h, .int .i64 (S : Int), .int .i64 (N : Int), .slice (some ⟨g0 + 1, 0, none⟩) KK KK, .slice (some ⟨g0, 0, none⟩) KK KK] 135)).four.2.1, (((BV.alloc (.cells MC 30)).alloc (.cells (madeCells #[.bool false] KK) 4)).alloc (.cells #[.int .i64 p, .int .i64 c, .int .i64 h, .int .i64 (S : Int), .int .i64 (N : Int), .slice (some ⟨g0 + 1, 0, none⟩) KK KK, .slice (some ⟨g0, 0, none⟩) KK KK] 135)).four.2.2.1, (((BV.alloc (.cells MC 30)).alloc (.cells (madeCells #[.bool false] KK) 4)).alloc (.cells #[.int .i64 p, .int .i64 c, .int .i64 h, .int .i64 (S : Int), .int .i64 (N : Int), .slice (some ⟨g0 + 1, 0, none⟩) KK KK, .slice (some ⟨g0, 0, none⟩) KK KK] 135)).four.2.2.2.1⟩ (fun hHeld => ?_)
    clear hK K
    try simp only [Act.put, List.setIfInBounds_toArray, List.set_cons_zero, List.set_cons_succ]
    refine wpAnyH_take (i := 12) (oi := ⟨some 2, _, _, _, _, _⟩) (v := ?_) rfl (by kernel_rfl) (by kernel_rfl) (by kernel_rfl) (fun _ _ _ h => h) (Or.inl ⟨by rfl, ?_⟩) (by assumption) ?_
    rotate_left
    · intro w hSw; (try dsimp only at hSw); go_simp; (try (with_reducible rfl))
    try simp only [Act.put, List.setIfInBounds_toArray, List.set_cons_zero, List.set_cons_succ]
    refine wpAnyH_done (by kernel_rfl) ?_ _
    clear hHeld
    have hvs : vd.heap.size = g0 := by omega
    have BM := ((Blk.new vd (MC) 30).alloc (.cells (madeCells #[.bool false] KK) 4)).alloc (.cells #[.int .i64 p, .int .i64 c, .int .i64 h, .int .i64 (S : Int), .int .i64 (N : Int), .slice (some ⟨g0 + 1, 0, none⟩) KK KK, .slice (some ⟨g0, 0, none⟩) KK KK] 135)
    have BK := (Blk.new (vd.alloc (.cells MC 30)) (madeCells #[.bool false] KK) 4).alloc (.cells #[.int .i64 p, .int .i64 c, .int .i64 h, .int .i64 (S : Int), .int .i64 (N : Int), .slice (some ⟨g0 + 1, 0, none⟩) KK KK, .slice (some ⟨g0, 0, none⟩) KK KK] 135)
    have BT := Blk.new ((vd.alloc (.cells MC 30)).alloc (.cells (madeCells #[.bool false] KK) 4)) #[.int .i64 p, .int .i64 c, .int .i64 h, .int .i64 (S : Int), .int .i64 (N : Int), .slice (some ⟨g0 + 1, 0, none⟩) KK KK, .slice (some ⟨g0, 0, none⟩) KK KK] 135
    have hs := hb.size
    simp only [World.size_alloc, hvs] at BK BM BT
    have hbn := ((hb.alloc hs (.cells MC 30)).alloc (by simp; omega) (.cells (madeCells #[.bool false] KK) 4)).alloc (by simp; omega) (.cells #[.int .i64 p, .int .i64 c, .int .i64 h, .int .i64 (S : Int), .int .i64 (N : Int), .slice (some ⟨g0 + 1, 0, none⟩) KK KK, .slice (some ⟨g0, 0, none⟩) KK KK] 135)
    go_wp2
    go_ret
    exact made_fin p c h S N (g0 + 1) (g0) (g0 + 1 + 1) KK MC _ _ HKK.out HN.out hNpos hcn HMS.out BK BM BT (by omega) (by omega) hbn
set_option maxRecDepth 8000 in
set_option maxHeartbeats 2000000 in
theorem specWinChance_of (hV : ∀ t : Tm, (1 ≤ t.S ∧ t.S ≤ 6) → ∀ m, WmOk t m) (p c h s : Int) (a1 a2 : Option Addr) (n1 n2 c1 c2 : Nat) (xs ys : List Int) (w : World) (hn1 : xs.length = n1) (hn2 : ys.length = n2) (hl1 : n1 ≤ 1048576) (hl2 : n2 ≤ 1048576) (hc1 : n1 ≤ c1) (hc2 : n2 ≤ c2) (hr1 : IRow w a1 xs) (hr2 : IRow w a2 ys) :
    Calls Tryz.prog 19 #[.agg #[.int .i64 p, .int .i64 c, .int .i64 h, .int .i64 s], .slice a1 n1 c1, .slice a2 n2 c2] w fun e w' => e = .returned (xoV (winChanceV p c h s xs ys)) ∧ Below w.heap.size w w' := by
  obtain ⟨BV, BO, hb, hz⟩ := two_new w #[.int .i64 p, .int .i64 c, .int .i64 h, .int .i64 s] #[.int .i64 0, .int .i64 0] 25 30
  have hzz : w.heap.size + 1 < ((w.alloc (.cells #[.int .i64 p, .int .i64 c, .int .i64 h, .int .i64 s] 25)).alloc (.cells #[.int .i64 0, .int .i64 0] 30)).heap.size := by rw [hz]; omega
  clear hz
  have hro1 := hr1
  have hro2 := hr2
  replace hr1 := hr1.below hb
  replace hr2 := hr2.below hb
  have HC := Lib.hid (l12Code_any p c h s a1 a2 n1 n2 c1 c2 xs ys 0 0 false false _ hn1 hn2 hl1 hl2 hr1 hr2)
  rw [lcE_rc] at HC
  obtain ⟨x0, x1, x2, x3, xf, xl⟩ := BV.four
  obtain ⟨z0, z1, zf, zl⟩ := BO.two
  by_cases k0 : rcE p c h s xs ys = 0
  · rw [winChanceV, if_pos k0]
    rw [k0] at HC
    have hvB := (okP_v (rcB_zero (rcE_zero k0).1).1).1
    obtain ⟨S, rfl, hS, hxp, hyp, hcn, few⟩ := rc_ready (rcE_zero k0).1
    rw [Int.toNat_natCast]
    have HNW := Lib.hid (fun W => l12New_any p c h S hvB hcn W)
    clear k0 hvB
    have HRO1 := Lib.hid hro1
    have HRO2 := Lib.hid hro2
    clear hro1 hro2 hr1 hr2
    obtain ⟨O, hO⟩ : ∃ O, (wc S xs ys) = O := ⟨_, rfl⟩
    rw [hO]
    have HO := Lib.hid hO
    have hin : ∀ x, O = some x → 0 ≤ x ∧ x ≤ tp S := fun x e => by
      rw [← hO] at e
      obtain ⟨q1, q2, q3, -⟩ := hxp.po
      exact wc_in hS q2 q3 q1 hyp.po.1 e
    have HIN := Lib.hid hin
    have HVV := Lib.hid hV
    clear hO hin hV
    go_enter Tryz.func19, Tryz.ntmps19
    go_wp2_with fail
    refine (HC.out).mono ?_
    rintro e w1 ⟨rfl, hb1⟩
    have hz1 := hb1.size
    replace BV := BV.below hb1
    replace BO := BO.below hb1
    replace hb := chain hb hb1
    clear x0 x1 x2 x3 xf xl z0 z1 zf zl
    clear hb1 HC
    obtain ⟨x0, x1, x2, x3, xf, xl⟩ := BV.four
    obtain ⟨z0, z1, zf, zl⟩ := BO.two
    go_wp2_with fail
    refine (HNW.out _).mono ?_
    rintro e w2 ⟨t, rfl, rfl, rfl, rfl, rfl, hI, hgk, hgv, hb2⟩
    have hz2 := hb2.size
    have hzb := hb.size
    have r1 : RF t w2 a1 xs := (RF.of (m := w1.heap.size) (HRO1.out.below hb) (Nat.le_refl _) hgk hgv).gr (Gr.of hb2)
    have r2 : RF t w2 a2 ys := (RF.of (m := w1.heap.size) (HRO2.out.below hb) (Nat.le_refl _) hgk hgv).gr (Gr.of hb2)
    replace BV := BV.below hb2
    replace BO := BO.below hb2
    replace hb := chain hb hb2
    clear x0 x1 x2 x3 xf xl z0 z1 zf zl
    clear hb2 HNW
    have HVA := Lib.hid (HVV.out t hS (pwT xs + pwT ys + 1) xs ys a1 a2 n1 n2 c1 c2 w2 hI hxp hyp hn1 hn2 hc1 hc2 r1 r2 (by omega))
    clear HVV r1 r2
    obtain ⟨x0, x1, x2, x3, xf, xl⟩ := BV.four
    obtain ⟨z0, z1, zf, zl⟩ := BO.two
    go_wp2_with fail
    refine (HVA.out).mono ?_
    rintro e w3 ⟨n0, d0, b0, rfl, hx, hI3, hg3⟩
    have hz3 := hg3.size
    replace BV := BV.gr hg3 (by omega) (by omega)
    replace BO := BO.gr hg3 (by omega) (by omega)
    replace hb := hb.trans (hg3.below (base := w.heap.size) (by omega) (by omega) hb.size)
    clear x0 x1 x2 x3 xf xl z0 z1 zf zl
    clear hI hI3 hg3 HVA
    rw [HO.out] at hx
    have hal : Below w3.heap.size w3 (w3.alloc (.cells #[.int .i64 n0, .int .i64 d0] 30)) := (Below.refl _ _).alloc (Nat.le_refl _) _
    have BX := Blk.new w3 #[.int .i64 n0, .int .i64 d0] 30
    replace BV := BV.below hal
    replace BO := BO.below hal
    replace hb := chain hb hal
    have hz4 := hal.size
    obtain ⟨z9, hz9⟩ : ∃ z, w3.heap.size = z := ⟨_, rfl⟩
    rw [hz9] at BX
    clear hal
    obtain ⟨x0, x1, x2, x3, xf, xl⟩ := BV.four
    obtain ⟨z0, z1, zf, zl⟩ := BO.two
    obtain ⟨y0, y1, yf, yl⟩ := BX.two
    cases O with
    | none =>
      obtain rfl : b0 = false := hx
      go_wp2_with fail
      (try rw [hz9])
      generalize (w3.alloc (.cells #[.int .i64 n0, .int .i64 d0] 30)) = w4 at *
      have BRn := BO.set2 (.int .i64 0) (.int .i64 0)
      obtain ⟨u0, u1, uf, ul⟩ := BRn.two
      refine bodyPost_ret (v := .tuple #[.agg #[.int .i64 0, .int .i64 0], .int .i64 3]) (by simp [results, Tryz.results19, go_sem, u0, u1]) rfl ?_
      exact ⟨rfl, belowFar2 hb (by omega) _ _⟩
    | some Q =>
      obtain ⟨rfl, hQ⟩ := hx
      have hv : exO t.S (some Q) = (n0, d0, 0) := by
        unfold exO
        dsimp only
        rw [ex_of hS hQ]
        rfl
      have HW := Lib.hid hv
      clear hQ hv
      go_wp2_with fail
      (try rw [hz9])
      generalize (w3.alloc (.cells #[.int .i64 n0, .int .i64 d0] 30)) = w4 at *
      have BRn := BO.set2 (.int .i64 n0) (.int .i64 d0)
      obtain ⟨u0, u1, uf, ul⟩ := BRn.two
      refine bodyPost_ret (v := .tuple #[.agg #[.int .i64 n0, .int .i64 d0], .int .i64 0]) (by simp [results, Tryz.results19, go_sem, u0, u1]) rfl ?_
      exact ⟨by rw [HW.out], belowFar2 hb (by omega) _ _⟩
  · rw [winChanceV, if_neg k0]
    obtain ⟨K, hK⟩ : ∃ K, rcE p c h s xs ys = K := ⟨_, rfl⟩
    rw [hK] at HC k0 ⊢
    have f0 : (K != 0) = true := by rw [bne_iff_ne]; exact k0
    clear hK
    dsimp only [xoV]
    go_enter Tryz.func19, Tryz.ntmps19
    go_wp2_with fail
    refine (HC.out).mono ?_
    rintro e w1 ⟨rfl, hb1⟩
    have hz1 := hb1.size
    replace BO := BO.below hb1
    replace hb := chain hb hb1
    clear x0 x1 x2 x3 xf xl z0 z1 zf zl
    clear hb1 HC
    obtain ⟨z0, z1, zf, zl⟩ := BO.two
    go_wp2_with fail
    have BRn := BO.set2 (.int .i64 0) (.int .i64 0)
    obtain ⟨u0, u1, uf, ul⟩ := BRn.two
    refine bodyPost_ret (v := .tuple #[.agg #[.int .i64 0, .int .i64 0], .int .i64 K]) (by simp [results, Tryz.results19, go_sem, u0, u1]) rfl ?_
    exact ⟨rfl, belowFar2 hb (by omega) _ _⟩
set_option maxRecDepth 8000 in
set_option maxHeartbeats 2000000 in
theorem specSecondChance_of (hV : ∀ t : Tm, (1 ≤ t.S ∧ t.S ≤ 6) → ∀ m, WmOk t m) (p c h s : Int) (a1 a2 : Option Addr) (n1 n2 c1 c2 : Nat) (xs ys : List Int) (w : World) (hn1 : xs.length = n1) (hn2 : ys.length = n2) (hl1 : n1 ≤ 1048576) (hl2 : n2 ≤ 1048576) (hc1 : n1 ≤ c1) (hc2 : n2 ≤ c2) (hr1 : IRow w a1 xs) (hr2 : IRow w a2 ys) :
    Calls Tryz.prog 16 #[.agg #[.int .i64 p, .int .i64 c, .int .i64 h, .int .i64 s], .slice a1 n1 c1, .slice a2 n2 c2] w fun e w' => e = .returned (xoV (secondChanceV p c h s xs ys)) ∧ Below w.heap.size w w' := by
  obtain ⟨BV, BO, hb, hz⟩ := two_new w #[.int .i64 p, .int .i64 c, .int .i64 h, .int .i64 s] #[.int .i64 0, .int .i64 0] 25 30
  have hzz : w.heap.size + 1 < ((w.alloc (.cells #[.int .i64 p, .int .i64 c, .int .i64 h, .int .i64 s] 25)).alloc (.cells #[.int .i64 0, .int .i64 0] 30)).heap.size := by rw [hz]; omega
  clear hz
  have hro1 := hr1
  have hro2 := hr2
  replace hr1 := hr1.below hb
  replace hr2 := hr2.below hb
  have HC := Lib.hid (l12Code_any p c h s a1 a2 n1 n2 c1 c2 xs ys 0 0 false false _ hn1 hn2 hl1 hl2 hr1 hr2)
  rw [lcE_rc] at HC
  obtain ⟨x0, x1, x2, x3, xf, xl⟩ := BV.four
  obtain ⟨z0, z1, zf, zl⟩ := BO.two
  by_cases k0 : rcE p c h s xs ys = 0
  · rw [secondChanceV, if_pos k0]
    rw [k0] at HC
    have hvB := (okP_v (rcB_zero (rcE_zero k0).1).1).1
    obtain ⟨S, rfl, hS, hxp, hyp, hcn, few⟩ := rc_ready (rcE_zero k0).1
    rw [Int.toNat_natCast]
    have HNW := Lib.hid (fun W => l12New_any p c h S hvB hcn W)
    clear k0 hvB
    have HRO1 := Lib.hid hro1
    have HRO2 := Lib.hid hro2
    clear hro1 hro2 hr1 hr2
    obtain ⟨O, hO⟩ : ∃ O, (wc S ys xs) = O := ⟨_, rfl⟩
    rw [hO]
    have HO := Lib.hid hO
    have hin : ∀ x, O = some x → 0 ≤ x ∧ x ≤ tp S := fun x e => by
      rw [← hO] at e
      obtain ⟨q1, q2, q3, -⟩ := hxp.po
      exact wc_in hS q2 q3 hyp.po.1 q1 e
    have HIN := Lib.hid hin
    have HVV := Lib.hid hV
    clear hO hin hV
    go_enter Tryz.func16, Tryz.ntmps16
    go_wp2_with fail
    refine (HC.out).mono ?_
    rintro e w1 ⟨rfl, hb1⟩
    have hz1 := hb1.size
    replace BV := BV.below hb1
    replace BO := BO.below hb1
    replace hb := chain hb hb1
    clear x0 x1 x2 x3 xf xl z0 z1 zf zl
    clear hb1 HC
    obtain ⟨x0, x1, x2, x3, xf, xl⟩ := BV.four
    obtain ⟨z0, z1, zf, zl⟩ := BO.two
    go_wp2_with fail
    refine (HNW.out _).mono ?_
    rintro e w2 ⟨t, rfl, rfl, rfl, rfl, rfl, hI, hgk, hgv, hb2⟩
    have hz2 := hb2.size
    have hzb := hb.size
    have r1 : RF t w2 a1 xs := (RF.of (m := w1.heap.size) (HRO1.out.below hb) (Nat.le_refl _) hgk hgv).gr (Gr.of hb2)
    have r2 : RF t w2 a2 ys := (RF.of (m := w1.heap.size) (HRO2.out.below hb) (Nat.le_refl _) hgk hgv).gr (Gr.of hb2)
    replace BV := BV.below hb2
    replace BO := BO.below hb2
    replace hb := chain hb hb2
    clear x0 x1 x2 x3 xf xl z0 z1 zf zl
    clear hb2 HNW
    have HVA := Lib.hid (HVV.out t hS (pwT ys + pwT xs + 1) ys xs a2 a1 n2 n1 c2 c1 w2 hI hyp hxp hn2 hn1 hc2 hc1 r2 r1 (by omega))
    clear HVV r1 r2
    obtain ⟨x0, x1, x2, x3, xf, xl⟩ := BV.four
    obtain ⟨z0, z1, zf, zl⟩ := BO.two
    go_wp2_with fail
    refine (HVA.out).mono ?_
    rintro e w3 ⟨n0, d0, b0, rfl, hx, hI3, hg3⟩
    have hz3 := hg3.size
    replace BV := BV.gr hg3 (by omega) (by omega)
    replace BO := BO.gr hg3 (by omega) (by omega)
    replace hb := hb.trans (hg3.below (base := w.heap.size) (by omega) (by omega) hb.size)
    clear x0 x1 x2 x3 xf xl z0 z1 zf zl
    clear hI hI3 hg3 HVA
    rw [HO.out] at hx
    have hal : Below w3.heap.size w3 (w3.alloc (.cells #[.int .i64 n0, .int .i64 d0] 30)) := (Below.refl _ _).alloc (Nat.le_refl _) _
    have BX := Blk.new w3 #[.int .i64 n0, .int .i64 d0] 30
    replace BV := BV.below hal
    replace BO := BO.below hal
    replace hb := chain hb hal
    have hz4 := hal.size
    obtain ⟨z9, hz9⟩ : ∃ z, w3.heap.size = z := ⟨_, rfl⟩
    rw [hz9] at BX
    clear hal
    obtain ⟨x0, x1, x2, x3, xf, xl⟩ := BV.four
    obtain ⟨z0, z1, zf, zl⟩ := BO.two
    obtain ⟨y0, y1, yf, yl⟩ := BX.two
    cases O with
    | none =>
      obtain rfl : b0 = false := hx
      go_wp2_with fail
      (try rw [hz9])
      generalize (w3.alloc (.cells #[.int .i64 n0, .int .i64 d0] 30)) = w4 at *
      have BRn := BO.set2 (.int .i64 0) (.int .i64 0)
      obtain ⟨u0, u1, uf, ul⟩ := BRn.two
      refine bodyPost_ret (v := .tuple #[.agg #[.int .i64 0, .int .i64 0], .int .i64 3]) (by simp [results, Tryz.results16, go_sem, u0, u1]) rfl ?_
      exact ⟨rfl, belowFar2 hb (by omega) _ _⟩
    | some Q =>
      obtain ⟨rfl, hQ⟩ := hx
      have HM := Lib.hid (fun W => l12Minus_any t.p t.c t.h t.S hS n0 d0 Q hQ (HIN.out Q rfl) W)
      clear hQ
      go_wp2_with fail
      (try rw [hz9])
      generalize (w3.alloc (.cells #[.int .i64 n0, .int .i64 d0] 30)) = w4 at *
      refine (HM.out _).mono ?_
      rintro e w5 ⟨m, f, rfl, hmf, hb5⟩
      have hz5 := hb5.size
      replace BV := BV.below hb5
      replace BO := BO.below hb5
      replace hb := chain hb hb5
      clear x0 x1 x2 x3 xf xl z0 z1 zf zl
      clear y0 y1 yf yl hb5
      have hal : Below w5.heap.size w5 (w5.alloc (.cells #[.int .i64 m, .int .i64 f] 30)) := (Below.refl _ _).alloc (Nat.le_refl _) _
      have BY := Blk.new w5 #[.int .i64 m, .int .i64 f] 30
      replace BO := BO.below hal
      replace hb := chain hb hal
      have hz6 := hal.size
      obtain ⟨z11, hz11⟩ : ∃ z, w5.heap.size = z := ⟨_, rfl⟩
      rw [hz11] at BY
      clear hal
      obtain ⟨z0, z1, zf, zl⟩ := BO.two
      obtain ⟨y0, y1, yf, yl⟩ := BY.two
      go_wp2_with fail
      (try rw [hz11])
      generalize (w5.alloc (.cells #[.int .i64 m, .int .i64 f] 30)) = w6 at *
      have hv : exO t.S ((some Q).map fun x => tp t.S - x) = (m, f, 0) := by
        unfold exO
        dsimp only [Option.map]
        rw [ex_of hS hmf]
        rfl
      have BRn := BO.set2 (.int .i64 m) (.int .i64 f)
      obtain ⟨u0, u1, uf, ul⟩ := BRn.two
      refine bodyPost_ret (v := .tuple #[.agg #[.int .i64 m, .int .i64 f], .int .i64 0]) (by simp [results, Tryz.results16, go_sem, u0, u1]) rfl ?_
      exact ⟨by rw [hv], belowFar2 hb (by omega) _ _⟩
  · rw [secondChanceV, if_neg k0]
    obtain ⟨K, hK⟩ : ∃ K, rcE p c h s xs ys = K := ⟨_, rfl⟩
    rw [hK] at HC k0 ⊢
    have f0 : (K != 0) = true := by rw [bne_iff_ne]; exact k0
    clear hK
    dsimp only [xoV]
    go_enter Tryz.func16, Tryz.ntmps16
    go_wp2_with fail
    refine (HC.out).mono ?_
    rintro e w1 ⟨rfl, hb1⟩
    have hz1 := hb1.size
    replace BO := BO.below hb1
    replace hb := chain hb hb1
    clear x0 x1 x2 x3 xf xl z0 z1 zf zl
    clear hb1 HC
    obtain ⟨z0, z1, zf, zl⟩ := BO.two
    go_wp2_with fail
    have BRn := BO.set2 (.int .i64 0) (.int .i64 0)
    obtain ⟨u0, u1, uf, ul⟩ := BRn.two
    refine bodyPost_ret (v := .tuple #[.agg #[.int .i64 0, .int .i64 0], .int .i64 K]) (by simp [results, Tryz.results16, go_sem, u0, u1]) rfl ?_
    exact ⟨rfl, belowFar2 hb (by omega) _ _⟩
theorem wm_all (t : Tm) (hS : 1 ≤ t.S ∧ t.S ≤ 6) : ∀ n : Nat, WmOk t (n : Int)
  | 0, xs, ys, a1, a2, n1, n2, c1, c2, w, hI, hx, hy, hn1, hn2, hc1, hc2, r1, r2, hlt => by
    have hx' : Ps t.p t.c t.h (t.S : Int) xs := hx
    have hy' : Ps t.p t.c t.h (t.S : Int) ys := hy
    have h1 := pw_pos hx'.po.1
    have h2 := pw_pos hy'.po.1
    omega
  | n + 1, xs, ys, a1, a2, n1, n2, c1, c2, w, hI, hx, hy, hn1, hn2, hc1, hc2, r1, r2, hlt => by
    refine l12Value_step t hS xs ys a1 a2 n1 n2 c1 c2 ?_ w hI hx hy hn1 hn2 hc1 hc2 r1 r2
    intro us vs b1 b2 m1 m2 d1 d2 W k1 k2 k3 k4 k5 k6 k7 k8 k9 k10
    exact wm_all t hS n us vs b1 b2 m1 m2 d1 d2 W k1 k2 k3 k4 k5 k6 k7 k8 k9 (by omega)
theorem wm_any (t : Tm) (hS : 1 ≤ t.S ∧ t.S ≤ 6) (m : Int) : WmOk t m := fun xs ys a1 a2 n1 n2 c1 c2 w hI hx hy hn1 hn2 hc1 hc2 r1 r2 hlt =>
  wm_all t hS ((pwT xs + pwT ys).toNat + 1) xs ys a1 a2 n1 n2 c1 c2 w hI hx hy hn1 hn2 hc1 hc2 r1 r2 (by omega)
theorem specWinChance_any (p c h s : Int) (a1 a2 : Option Addr) (n1 n2 c1 c2 : Nat) (xs ys : List Int) (w : World) (hn1 : xs.length = n1) (hn2 : ys.length = n2) (hl1 : n1 ≤ 1048576) (hl2 : n2 ≤ 1048576) (hc1 : n1 ≤ c1) (hc2 : n2 ≤ c2) (hr1 : IRow w a1 xs) (hr2 : IRow w a2 ys) :
    Calls Tryz.prog 19 #[.agg #[.int .i64 p, .int .i64 c, .int .i64 h, .int .i64 s], .slice a1 n1 c1, .slice a2 n2 c2] w fun e w' => e = .returned (xoV (winChanceV p c h s xs ys)) ∧ Below w.heap.size w w' :=
  specWinChance_of wm_any p c h s a1 a2 n1 n2 c1 c2 xs ys w hn1 hn2 hl1 hl2 hc1 hc2 hr1 hr2
theorem specSecondChance_any (p c h s : Int) (a1 a2 : Option Addr) (n1 n2 c1 c2 : Nat) (xs ys : List Int) (w : World) (hn1 : xs.length = n1) (hn2 : ys.length = n2) (hl1 : n1 ≤ 1048576) (hl2 : n2 ≤ 1048576) (hc1 : n1 ≤ c1) (hc2 : n2 ≤ c2) (hr1 : IRow w a1 xs) (hr2 : IRow w a2 ys) :
    Calls Tryz.prog 16 #[.agg #[.int .i64 p, .int .i64 c, .int .i64 h, .int .i64 s], .slice a1 n1 c1, .slice a2 n2 c2] w fun e w' => e = .returned (xoV (secondChanceV p c h s xs ys)) ∧ Below w.heap.size w w' :=
  specSecondChance_of wm_any p c h s a1 a2 n1 n2 c1 c2 xs ys w hn1 hn2 hl1 hl2 hc1 hc2 hr1 hr2
theorem eqExact_same (a b : Int) (w : World) :
    Calls Tryz.prog 22 #[.agg #[.int .i64 a, .int .i64 b], .agg #[.int .i64 a, .int .i64 b]] w fun e w' => e = .returned (.bool true) ∧ Below w.heap.size w w' := by
  have hb : Below w.heap.size w ((w.alloc (.cells #[.int .i64 a, .int .i64 b] 30)).alloc (.cells #[.int .i64 a, .int .i64 b] 30)) := ((Below.refl _ _).alloc (Nat.le_refl _) _).alloc (by simp) _
  go_enter Tryz.func22, Tryz.ntmps22
  go_wp2
  go_ret
  exact ⟨rfl, hb⟩
end Go.Proofs.YtfomfbfcnenhbaaGreat
namespace Go.Proofs.YtfomfbfcnenhbaaGreat
open Go.ChangeShapes Go.WideShapes Go.ChangeAt Go.RowKit
set_option linter.unusedVariables false
set_option linter.unusedSimpArgs false
theorem open_row {H : Type} {enc : TypeId × Value → H} {w : World} {base : Nat} {spare : Nat → Bool} {held : Bool} {fuel : Nat} {v : Value} {x : DataW H × List MemPlace}
    (h : DataW.trod enc Tryz.prog w base spare held fuel 26 [v] = some x) :
    ∃ (a : Option Addr) (n cap : Nat) (xs : List Int), v = .slice a n cap ∧ xs.length = n ∧ n ≤ 9223372036854775807 ∧ IRow w a xs ∧ ∀ y ∈ xs, (Lit.int .i64 y).wf = true := by
  rcases open_ints Tryz.underlying26 Tryz.underlying2 (by kernel_rfl) h with ⟨hcs, _⟩ | ⟨x, l, c, zs, hcs, _, hl, hm, hz, _, hcell, hwz⟩
  · simp at hcs
    exact ⟨none, 0, 0, [], hcs, rfl, by omega, IRow.nil _ _, by simp⟩
  · simp at hcs
    have hlz : l ≤ zs.length := by rw [hz]; split <;> omega
    refine ⟨some x, l, c, zs.take l, hcs, by simp; omega, by unfold maxLen at hm; omega, ?_, fun y hy => hwz y (List.mem_of_mem_take hy)⟩
    intro i hi
    have hi2 : i < l := by simp at hi; omega
    have hc := hcell i (by omega)
    obtain ⟨b, o, spot⟩ := x
    have hspot : spot = none := by
      have hc0 := hcell 0 (by omega)
      simpa [Addr.add] using World.cell?_spot hc0
    subst hspot
    refine ⟨b, o, rfl, ?_⟩
    rw [show (⟨b, o, none⟩ : Addr).add i = ⟨b, o + i, none⟩ from by unfold Addr.add; split <;> simp_all] at hc
    rw [hc]
    simp [List.getD, hi2]
end Go.Proofs.YtfomfbfcnenhbaaGreat
