/- Texts of a proof, laid together. -/
import Derived.Test.YtfomfbfcnenhbaaGreatV31
import Derived.Test.YtfomfbfcnenhbaaGreatV12
import Derived.Test.YtfomfbfcnenhbaaGreatV17
import Derived.Lib.MinMax
namespace Go.Proofs.YtfomfbfcnenhbaaGreat
open Go.ChangeShapes Go.WideShapes Go.ChangeAt Go.RowKit
set_option linter.unusedVariables false
set_option linter.unusedSimpArgs false
set_option maxRecDepth 4000
theorem RIn.away {w : World} {a : Option Addr} {l : List Rl} {g o : Nat} {v : Value} {vs : Array Value} {y : TypeId} (h : RIn w a l) (hB : Blk w g vs y) (n : 44 ≠ y) : RIn (w.setCell ⟨g, o, none⟩ v) a l := by
  rcases h with h | ⟨q, e, c3, h3, r3⟩
  · exact .inl h
  · exact .inr ⟨q, e, c3, h3.other (h3.ne hB n), r3⟩
theorem made_at (z : Value) (n i : Nat) (h : i < n) : (madeCells #[z] n)[i]? = some z := by
  rw [← Array.getElem?_toList, toList_madeCells_one, List.getElem?_replicate, if_pos h]
theorem ScM.away {w : World} {b S n g o : Nat} {v : Value} (h : ScM w b S n) (hne : b ≠ g) : ScM (w.setCell ⟨g, o, none⟩ v) b S n := by
  obtain ⟨es, clock, hb, F, hs, hD⟩ := h
  exact ⟨es, clock, (Below.heap_setCell w ⟨g, o, none⟩ v b hne).trans hb, F, hs, hD⟩
theorem scD_tidy (S : Nat) : ∀ n, Maps.Tidy (scD S n)
  | 0 => Maps.tidy_empty
  | n + 1 => (scD_tidy S n).put (scLit _) _
theorem scD_size (S : Nat) : ∀ n, Maps.size (scD S n) = n
  | 0 => rfl
  | n + 1 => by
    have h : Maps.has (scD S n) (.int .i64 (n : Int)) = false := by
      rw [scD_has, decide_eq_false_iff_not]
      omega
    rw [scD, Maps.size_put (scD_tidy S n), h, scD_size S n]
    simp
theorem ScM.len {w : World} {b S n : Nat} (h : ScM w b S n) (ty : TypeId) : (Builtin.len_ #[80] ty #[.map (some b)]).run Tryz.prog w = .ok (.int .i64 (n : Int)) w := by
  have := World.ownsMap.len h Tryz.underlying80 ty
  rw [scD_size] at this
  exact this
theorem RIn.drew {w : World} {a : Option Addr} {l : List Rl} (h : RIn w a l) : RIn w.drew a l := h.below (Below.refl _ _).drew
set_option maxRecDepth 8000 in
set_option maxHeartbeats 2000000 in
theorem chancesUpTo_any (p c h : Int) (S : Nat) (hS : 1 ≤ S ∧ S ≤ 6) (a1 a2 : Option Addr) (n1 n2 c1 c2 : Nat) (xs ys : List Int) (w : World) (hx : Ps p c h (S : Int) xs) (hy : Ps p c h (S : Int) ys) (hcn : cnt h.toNat c.toNat ≤ 500) (hn1 : xs.length = n1) (hn2 : ys.length = n2) (hr1 : IRow w a1 xs) (hr2 : IRow w a2 ys) :
    Calls Tryz.prog 49 #[.agg #[.int .i64 p, .int .i64 c, .int .i64 h, .int .i64 (S : Int)], .slice a1 n1 c1, .slice a2 n2 c2] w fun e w' => ∃ t : Tb, e = .returned (.pointer (some ⟨t.g, 0, none⟩)) ∧ t.p = p ∧ t.c = c ∧ t.h = h ∧ t.S = S ∧ t.K = max (nm c xs) (nm c ys) + 1 ∧ TabI t w' ∧ w.heap.size ≤ t.gR ∧ w.heap.size ≤ t.gC ∧ Below w.heap.size w w' := by
  have hn := nn_range hS
  have hdm := dm_in hS
  have hXc := nm_lt hx
  have hYc := nm_lt hy
  obtain ⟨X, hX⟩ : ∃ X, nm c xs = X := ⟨_, rfl⟩
  obtain ⟨Y, hY⟩ : ∃ Y, nm c ys = Y := ⟨_, rfl⟩
  rw [hX] at hXc
  rw [hY] at hYc
  obtain ⟨KN, hK⟩ : ∃ K, max X Y + 1 = K := ⟨_, rfl⟩
  have hK5 : 1 ≤ KN ∧ KN ≤ 500 := by omega
  have BV := Blk.new w #[.int .i64 p, .int .i64 c, .int .i64 h, .int .i64 (S : Int)] 25
  have hb : Below w.heap.size w (w.alloc (.cells #[.int .i64 p, .int .i64 c, .int .i64 h, .int .i64 (S : Int)] 25)) := (Below.refl _ _).alloc (Nat.le_refl _) _
  have hz0 : (w.alloc (.cells #[.int .i64 p, .int .i64 c, .int .i64 h, .int .i64 (S : Int)] 25)).heap.size = w.heap.size + 1 := by simp
  have HR1o := hr1
  have HR2o := hr2
  replace hr1 := hr1.below hb
  replace hr2 := hr2.below hb
  go_enter Tryz.func49, Tryz.ntmps49
  go_wp2_with fail
  generalize (w.alloc (.cells #[.int .i64 p, .int .i64 c, .int .i64 h, .int .i64 (S : Int)] 25)) = w1 at *
  replace BV := BV.drew
  replace hr1 := hr1.drew
  replace hr2 := hr2.drew
  replace hb := hb.drew
  refine wp_region_held_drew (S := fun w' => w'.cell? ⟨w.heap.size, 0, none⟩ = some (.int .i64 p) ∧ w'.cell? ⟨w.heap.size, 1, none⟩ = some (.int .i64 c) ∧ w'.cell? ⟨w.heap.size, 2, none⟩ = some (.int .i64 h) ∧ w'.cell? ⟨w.heap.size, 3, none⟩ = some (.int .i64 (S : Int))) (by kernel_rfl) ⟨BV.four.1, BV.four.2.1, BV.four.2.2.1, BV.four.2.2.2.1⟩ (fun hHeld => ?_)
  clear hHeld
  have hz_vd : w1.drew.heap.size = w1.heap.size := rfl
  generalize w1.drew = vd at *
  have hHeld : vd.cell? ⟨w.heap.size, 0, none⟩ = some (.int .i64 p) ∧ vd.cell? ⟨w.heap.size, 1, none⟩ = some (.int .i64 c) ∧ vd.cell? ⟨w.heap.size, 2, none⟩ = some (.int .i64 h) ∧ vd.cell? ⟨w.heap.size, 3, none⟩ = some (.int .i64 (S : Int)) := ⟨BV.four.1, BV.four.2.1, BV.four.2.2.1, BV.four.2.2.2.1⟩
  refine wpAnyH_take (i := 0) (oi := ⟨some 8, _, _, _, _, _⟩) (v := ?_) rfl (by kernel_rfl) (by kernel_rfl) (by kernel_rfl) (fun _ _ _ h => h) (Or.inl ⟨by rfl, ?_⟩) (by assumption) ?_
  rotate_left
  · intro w hSw; (try dsimp only at hSw); go_simp; (try (with_reducible rfl))
  try simp only [Act.put, List.setIfInBounds_toArray, List.set_cons_zero, List.set_cons_succ]
  refine wpAnyH_take (i := 2) (oi := ⟨some 10, _, _, _, _, _⟩) (v := ?_) rfl (by kernel_rfl) (by kernel_rfl) (by kernel_rfl) (fun _ _ _ h => h) (Or.inl ⟨by rfl, ?_⟩) (by assumption) ?_
  rotate_left
  · intro w hSw; (try dsimp only at hSw); go_simp; (try (with_reducible rfl))
  try simp only [Act.put, List.setIfInBounds_toArray, List.set_cons_zero, List.set_cons_succ]
  refine wpAnyH_take (i := 4) (oi := ⟨some 12, _, _, _, _, _⟩) (v := ?_) rfl (by kernel_rfl) (by kernel_rfl) (by kernel_rfl) (fun _ _ _ h => h) (Or.inl ⟨by rfl, ?_⟩) (by assumption) ?_
  rotate_left
  · intro w hSw; (try dsimp only at hSw); go_simp; (try (with_reducible rfl))
  try simp only [Act.put, List.setIfInBounds_toArray, List.set_cons_zero, List.set_cons_succ]
  refine wpAnyH_ready (rs := [1]) (by kernel_rfl) (by simp) ?_
  refine AllReadyH.cons (o := ⟨some 9, _, _, _, _, _⟩) rfl (fun K hK => ?_) AllReadyH.nil
  go_simp
  refine (numberTable_any p c h (S : Int) _).mono ?_
  rintro e wa ⟨gw, rfl, hgw, hW, hb1⟩
  have hz_hb1 := hb1.size
  replace BV := BV.below hb1
  replace hr1 := hr1.below hb1
  replace hr2 := hr2.below hb1
  replace hb := chain hb hb1
  clear hb1
  (try go_wp2_with fail)
  refine hK.out _ _ ⟨BV.four.1, BV.four.2.1, BV.four.2.2.1, BV.four.2.2.2.1⟩ (fun hHeld => ?_)
  clear hK K
  try simp only [Act.put, List.setIfInBounds_toArray, List.set_cons_zero, List.set_cons_succ]
  refine wpAnyH_ready (rs := [3]) (by kernel_rfl) (by simp) ?_
  refine AllReadyH.cons (o := ⟨some 11, _, _, _, _, _⟩) rfl (fun K hK => ?_) AllReadyH.nil
  go_simp
  refine (scales_any p c h S hS _).mono ?_
  rintro e wb ⟨b, rfl, hSM, hgb, hb2⟩
  have hz_hb2 := hb2.size
  replace BV := BV.below hb2
  replace hr1 := hr1.below hb2
  replace hr2 := hr2.below hb2
  replace hW := hW.below hb2
  replace hb := chain hb hb2
  clear hb2
  (try go_wp2_with fail)
  refine hK.out _ _ ⟨BV.four.1, BV.four.2.1, BV.four.2.2.1, BV.four.2.2.2.1⟩ (fun hHeld => ?_)
  clear hK K
  try simp only [Act.put, List.setIfInBounds_toArray, List.set_cons_zero, List.set_cons_succ]
  refine wpAnyH_ready (rs := [5]) (by kernel_rfl) (by simp) ?_
  refine AllReadyH.cons (o := ⟨some 13, _, _, _, _, _⟩) rfl (fun K hK => ?_) AllReadyH.nil
  go_simp
  refine (implRolls_any p c h S _ hS.2).mono ?_
  rintro e wc ⟨ar, kr, rfl, hO, hb3⟩
  have hRI := hO.rin
  clear hO
  have hz_hb3 := hb3.size
  replace BV := BV.below hb3
  replace hr1 := hr1.below hb3
  replace hr2 := hr2.below hb3
  replace hW := hW.below hb3
  replace hSM := hSM.below hb3
  replace hb := chain hb hb3
  clear hb3
  (try go_wp2_with fail)
  refine hK.out _ _ ⟨BV.four.1, BV.four.2.1, BV.four.2.2.1, BV.four.2.2.2.1⟩ (fun hHeld => ?_)
  clear hK K
  try simp only [Act.put, List.setIfInBounds_toArray, List.set_cons_zero, List.set_cons_succ]
  refine wpAnyH_take (i := 6) (oi := ⟨some 14, _, _, _, _, _⟩) (v := ?_) rfl (by kernel_rfl) (by kernel_rfl) (by kernel_rfl) (fun _ _ _ h => h) (Or.inl ⟨by rfl, ?_⟩) (by assumption) ?_
  rotate_left
  · intro w hSw; (try dsimp only at hSw); go_simp; (try (with_reducible rfl))
  try simp only [Act.put, List.setIfInBounds_toArray, List.set_cons_zero, List.set_cons_succ]
  refine wpAnyH_ready (rs := [7]) (by kernel_rfl) (by simp) ?_
  refine AllReadyH.cons (o := ⟨some 15, _, _, _, _, _⟩) rfl (fun K hK => ?_) AllReadyH.nil
  go_simp
  (try go_wp2_with fail)
  refine hK.out _ _ ⟨(BV.alloc (.cells #[.int .i64 p, .int .i64 c, .int .i64 h, .int .i64 (S : Int), .pointer (some ⟨gw, 0, none⟩), .map (some b), .slice ar (rollsTo S).length kr, .int .i64 0, .int .i64 0, .int .i64 0, .int .i64 0, .slice none 0 0, .slice none 0 0] 84)).four.1, (BV.alloc (.cells #[.int .i64 p, .int .i64 c, .int .i64 h, .int .i64 (S : Int), .pointer (some ⟨gw, 0, none⟩), .map (some b), .slice ar (rollsTo S).length kr, .int .i64 0, .int .i64 0, .int .i64 0, .int .i64 0, .slice none 0 0, .slice none 0 0] 84)).four.2.1, (BV.alloc (.cells #[.int .i64 p, .int .i64 c, .int .i64 h, .int .i64 (S : Int), .pointer (some ⟨gw, 0, none⟩), .map (some b), .slice ar (rollsTo S).length kr, .int .i64 0, .int .i64 0, .int .i64 0, .int .i64 0, .slice none 0 0, .slice none 0 0] 84)).four.2.2.1, (BV.alloc (.cells #[.int .i64 p, .int .i64 c, .int .i64 h, .int .i64 (S : Int), .pointer (some ⟨gw, 0, none⟩), .map (some b), .slice ar (rollsTo S).length kr, .int .i64 0, .int .i64 0, .int .i64 0, .int .i64 0, .slice none 0 0, .slice none 0 0] 84)).four.2.2.2.1⟩ (fun hHeld => ?_)
  clear hK K
  try simp only [Act.put, List.setIfInBounds_toArray, List.set_cons_zero, List.set_cons_succ]
  refine wpAnyH_take (i := 8) (oi := ⟨some 7, _, _, _, _, _⟩) (v := ?_) rfl (by kernel_rfl) (by kernel_rfl) (by kernel_rfl) (fun _ _ _ h => h) (Or.inl ⟨by rfl, ?_⟩) (by assumption) ?_
  rotate_left
  · intro w hSw; (try dsimp only at hSw); go_simp; (try (with_reducible rfl))
  try simp only [Act.put, List.setIfInBounds_toArray, List.set_cons_zero, List.set_cons_succ]
  refine wpAnyH_done (by kernel_rfl) ?_ _
  clear hHeld
  have BT := Blk.new wc #[.int .i64 p, .int .i64 c, .int .i64 h, .int .i64 (S : Int), .pointer (some ⟨gw, 0, none⟩), .map (some b), .slice ar (rollsTo S).length kr, .int .i64 0, .int .i64 0, .int .i64 0, .int .i64 0, .slice none 0 0, .slice none 0 0] 84
  have hal : Below wc.heap.size wc (wc.alloc (.cells #[.int .i64 p, .int .i64 c, .int .i64 h, .int .i64 (S : Int), .pointer (some ⟨gw, 0, none⟩), .map (some b), .slice ar (rollsTo S).length kr, .int .i64 0, .int .i64 0, .int .i64 0, .int .i64 0, .slice none 0 0, .slice none 0 0] 84)) := (Below.refl _ _).alloc (Nat.le_refl _) _
  replace hr1 := hr1.below hal
  replace hr2 := hr2.below hal
  have hgwl : gw < wc.heap.size := by obtain ⟨cu, hB, _⟩ := hW; exact hB.lt
  have hbl := hSM.lt
  replace hW := hW.below hal
  replace hSM := hSM.below hal
  replace hRI := hRI.below hal
  replace hb := chain hb hal
  obtain ⟨g, hg⟩ : ∃ g, wc.heap.size = g := ⟨_, rfl⟩
  rw [hg] at BT hgwl hbl
  (try rw [hg])
  have hgw2 : w.heap.size ≤ g := by omega
  generalize wc.alloc (.cells #[.int .i64 p, .int .i64 c, .int .i64 h, .int .i64 (S : Int), .pointer (some ⟨gw, 0, none⟩), .map (some b), .slice ar (rollsTo S).length kr, .int .i64 0, .int .i64 0, .int .i64 0, .int .i64 0, .slice none 0 0, .slice none 0 0] 84) = w2 at *
  clear hal BV hg
  have hlen := hSM.len
  have wz : IntKind.i64.wrap ((nn S : Int) - 1) = (dm S : Int) := by
    rw [IntWalk.i64_in _ (by omega)]
    unfold dm
    omega
  have hlk : ∀ W, ScM W b S (nn S) → (Instr.lookup 80 (.map (some b)) (.int .i64 (dm S : Int)) false).run Tryz.prog W = .ok (.int .i64 (tp S)) W := fun W hs => by
    have := hs.look (j := (dm S : Int)) (by omega)
    rw [scA_is (by omega), Int.toNat_natCast] at this
    exact this
  obtain ⟨c0, c1, c2, c3, c4, c5, c6, c7, c8, c9, c10, c11, c12, cf, cl⟩ := BT.thirteen
  go_wp2_with fail
  clear c0 c1 c2 c3 c4 c5 c6 c7 c8 c9 c10 c11 c12 cf cl
  replace hSM := hSM.away (g := g) (o := 7) (v := .int .i64 (dm S : Int)) (by omega)
  replace hW := hW.other (g' := g) (o := 7) (v := .int .i64 (dm S : Int)) (by omega)
  replace hRI := hRI.away (o := 7) (v := .int .i64 (dm S : Int)) BT (by decide)
  replace hb := hb.setCell (p := ⟨g, 7, none⟩) (by dsimp only; omega) (.int .i64 (dm S : Int))
  replace BT := BT.set (i := 7) (.int .i64 (dm S : Int))
  simp only [List.setIfInBounds_toArray, List.set_cons_zero, List.set_cons_succ] at BT
  generalize w2.setCell ⟨g, 7, none⟩ (.int .i64 (dm S : Int)) = w3 at *
  have HR1 := Lib.hid HR1o
  have HR2 := Lib.hid HR2o
  replace hr1 := HR1.out.below hb
  replace hr2 := HR2.out.below hb
  clear hlen
  replace BT := BT.drew
  replace hSM := hSM.drew
  replace hr1 := hr1.drew
  replace hr2 := hr2.drew
  replace hW := hW.drew
  replace hRI := hRI.drew
  replace hb := hb.drew
  refine wp_region_held_drew (S := fun w' => w'.cell? ⟨g, 5, none⟩ = some (.map (some b)) ∧ w'.cell? ⟨g, 7, none⟩ = some (.int .i64 (dm S : Int)) ∧ (Instr.lookup 80 (.map (some b)) (.int .i64 (dm S : Int)) false).run Tryz.prog w' = .ok (.int .i64 (tp S)) w') (by kernel_rfl) ⟨BT.thirteen.2.2.2.2.2.1, BT.thirteen.2.2.2.2.2.2.2.1, hlk _ hSM⟩ (fun hHeld => ?_)
  clear hHeld
  have hz_v3 : w3.drew.heap.size = w3.heap.size := rfl
  generalize w3.drew = v3 at *
  have hHeld : v3.cell? ⟨g, 5, none⟩ = some (.map (some b)) ∧ v3.cell? ⟨g, 7, none⟩ = some (.int .i64 (dm S : Int)) ∧ (Instr.lookup 80 (.map (some b)) (.int .i64 (dm S : Int)) false).run Tryz.prog v3 = .ok (.int .i64 (tp S)) v3 := ⟨BT.thirteen.2.2.2.2.2.1, BT.thirteen.2.2.2.2.2.2.2.1, hlk _ hSM⟩
  refine wpAnyH_take (i := 0) (oi := ⟨some 25, _, _, _, _, _⟩) (v := ?_) rfl (by kernel_rfl) (by kernel_rfl) (by kernel_rfl) (fun _ _ _ h => h) (Or.inl ⟨by rfl, ?_⟩) (by assumption) ?_
  rotate_left
  · intro w hSw; (try dsimp only at hSw); go_simp; (try (with_reducible rfl))
  try simp only [Act.put, List.setIfInBounds_toArray, List.set_cons_zero, List.set_cons_succ]
  refine wpAnyH_take (i := 1) (oi := ⟨some 26, _, _, _, _, _⟩) (v := ?_) rfl (by kernel_rfl) (by kernel_rfl) (by kernel_rfl) (fun _ _ _ h => h) (Or.inl ⟨by rfl, ?_⟩) (by assumption) ?_
  rotate_left
  · intro w hSw; (try dsimp only at hSw); go_simp; (try (with_reducible rfl))
  try simp only [Act.put, List.setIfInBounds_toArray, List.set_cons_zero, List.set_cons_succ]
  refine wpAnyH_take (i := 2) (oi := ⟨some 27, _, _, _, _, _⟩) (v := ?_) rfl (by kernel_rfl) (by kernel_rfl) (by kernel_rfl) (fun _ _ _ h => h) (Or.inl ⟨by rfl, ?_⟩) (by assumption) ?_
  rotate_left
  · intro w hSw; (try dsimp only at hSw); go_simp; (try (with_reducible rfl))
  try simp only [Act.put, List.setIfInBounds_toArray, List.set_cons_zero, List.set_cons_succ]
  refine wpAnyH_take (i := 3) (oi := ⟨some 28, _, _, _, _, _⟩) (v := ?_) rfl (by kernel_rfl) (by kernel_rfl) (by kernel_rfl) (fun _ _ _ h => h) (Or.inl ⟨by rfl, ?_⟩) (by assumption) ?_
  rotate_left
  · intro w hSw; (try dsimp only at hSw); go_simp; (try (with_reducible rfl))
  try simp only [Act.put, List.setIfInBounds_toArray, List.set_cons_zero, List.set_cons_succ]
  refine wpAnyH_take (i := 4) (oi := ⟨some 29, _, _, _, _, _⟩) (v := ?_) rfl (by kernel_rfl) (by kernel_rfl) (by kernel_rfl) (fun _ _ _ h => h) (Or.inl ⟨by rfl, ?_⟩) (by assumption) ?_
  rotate_left
  · intro w hSw; (try dsimp only at hSw); go_simp; (try (with_reducible rfl))
  try simp only [Act.put, List.setIfInBounds_toArray, List.set_cons_zero, List.set_cons_succ]
  refine wpAnyH_take (i := 5) (oi := ⟨some 30, _, _, _, _, _⟩) (v := ?_) rfl (by kernel_rfl) (by kernel_rfl) (by kernel_rfl) (fun _ _ _ h => h) (Or.inl ⟨by rfl, ?_⟩) (by assumption) ?_
  rotate_left
  · intro w hSw; (try dsimp only at hSw); go_simp; (try (with_reducible rfl))
  try simp only [Act.put, List.setIfInBounds_toArray, List.set_cons_zero, List.set_cons_succ]
  refine wpAnyH_take (i := 6) (oi := ⟨some 31, _, _, _, _, _⟩) (v := ?_) rfl (by kernel_rfl) (by kernel_rfl) (by kernel_rfl) (fun _ _ _ h => h) (Or.inl ⟨by rfl, ?_⟩) (by assumption) ?_
  rotate_left
  · intro w hSw; (try dsimp only at hSw); go_simp; (try (with_reducible rfl))
  try simp only [Act.put, List.setIfInBounds_toArray, List.set_cons_zero, List.set_cons_succ]
  refine wpAnyH_take (i := 7) (oi := ⟨some 32, _, _, _, _, _⟩) (v := ?_) rfl (by kernel_rfl) (by kernel_rfl) (by kernel_rfl) (fun _ _ _ h => h) (Or.inl ⟨by rfl, ?_⟩) (by assumption) ?_
  rotate_left
  · intro w hSw; (try dsimp only at hSw); go_simp; (try (with_reducible rfl))
  try simp only [Act.put, List.setIfInBounds_toArray, List.set_cons_zero, List.set_cons_succ]
  refine wpAnyH_take (i := 8) (oi := ⟨some 33, _, _, _, _, _⟩) (v := ?_) rfl (by kernel_rfl) (by kernel_rfl) (by kernel_rfl) (fun _ _ _ h => h) (Or.inl ⟨by rfl, ?_⟩) (by assumption) ?_
  rotate_left
  · intro w hSw; (try dsimp only at hSw); go_simp; (try (with_reducible rfl))
  try simp only [Act.put, List.setIfInBounds_toArray, List.set_cons_zero, List.set_cons_succ]
  refine wpAnyH_take (i := 9) (oi := ⟨some 34, _, _, _, _, _⟩) (v := ?_) rfl (by kernel_rfl) (by kernel_rfl) (by kernel_rfl) (fun _ _ _ h => h) (Or.inl ⟨by rfl, ?_⟩) (by assumption) ?_
  rotate_left
  · intro w hSw; (try dsimp only at hSw); go_simp; (try (with_reducible rfl))
  try simp only [Act.put, List.setIfInBounds_toArray, List.set_cons_zero, List.set_cons_succ]
  refine wpAnyH_take (i := 10) (oi := ⟨some 35, _, _, _, _, _⟩) (v := ?_) rfl (by kernel_rfl) (by kernel_rfl) (by kernel_rfl) (fun _ _ _ h => h) (Or.inl ⟨by rfl, ?_⟩) (by assumption) ?_
  rotate_left
  · intro w hSw; (try dsimp only at hSw); go_simp; (try (with_reducible rfl))
  try simp only [Act.put, List.setIfInBounds_toArray, List.set_cons_zero, List.set_cons_succ]
  refine wpAnyH_take (i := 11) (oi := ⟨some 36, _, _, _, _, _⟩) (v := ?_) rfl (by kernel_rfl) (by kernel_rfl) (by kernel_rfl) (fun _ _ _ h => h) (Or.inl ⟨by rfl, ?_⟩) (by assumption) ?_
  rotate_left
  · intro w hSw; (try dsimp only at hSw); go_simp; (try (with_reducible rfl))
  try simp only [Act.put, List.setIfInBounds_toArray, List.set_cons_zero, List.set_cons_succ]
  refine wpAnyH_take (i := 12) (oi := ⟨some 37, _, _, _, _, _⟩) (v := ?_) rfl (by kernel_rfl) (by kernel_rfl) (by kernel_rfl) (fun _ _ _ h => h) (Or.inl ⟨by rfl, ?_⟩) (by assumption) ?_
  rotate_left
  · intro w hSw; (try dsimp only at hSw); go_simp; (try (with_reducible rfl))
  try simp only [Act.put, List.setIfInBounds_toArray, List.set_cons_zero, List.set_cons_succ]
  refine wpAnyH_ready (rs := [13]) (by kernel_rfl) (by simp) ?_
  refine AllReadyH.cons (o := ⟨none, _, _, _, _, _⟩) rfl (fun K hK => ?_) AllReadyH.nil
  have y0 := BT.thirteen.2.2.2.2.2.2.2.2.1
  have y1 := BT.thirteen.2.2.2.2.2.2.2.2.2.1
  have yf := BT.thirteen.2.2.2.2.2.2.2.2.2.2.2.2.2.1
  have yl := BT.thirteen.2.2.2.2.2.2.2.2.2.2.2.2.2.2
  have BT3 := ((BT.set (i := 8) (.int .i64 (tp S))).set (i := 9) (.int .i64 0))
  simp only [List.setIfInBounds_toArray, List.set_cons_zero, List.set_cons_succ] at BT3
  have HBT3 := Lib.hid BT3
  have HSM3 := Lib.hid ((hSM.away (g := g) (o := 8) (v := .int .i64 (tp S)) (by omega)).away (g := g) (o := 9) (v := .int .i64 0) (by omega))
  clear BT3
  go_simp
  (try go_wp2_with fail)
  refine hK.out _ _ ⟨HBT3.out.thirteen.2.2.2.2.2.1, HBT3.out.thirteen.2.2.2.2.2.2.2.1, hlk _ HSM3.out⟩ (fun hHeld => ?_)
  clear hK K
  try simp only [Act.put, List.setIfInBounds_toArray, List.set_cons_zero, List.set_cons_succ]
  refine wpAnyH_done (by kernel_rfl) ?_ _
  clear hHeld
  replace hSM := hSM.away (g := g) (o := 8) (v := .int .i64 (tp S)) (by omega)
  replace hW := hW.other (g' := g) (o := 8) (v := .int .i64 (tp S)) (by omega)
  replace hRI := hRI.away (o := 8) (v := .int .i64 (tp S)) BT (by decide)
  replace hb := hb.setCell (p := ⟨g, 8, none⟩) (by dsimp only; omega) (.int .i64 (tp S))
  replace BT := BT.set (i := 8) (.int .i64 (tp S))
  replace hSM := hSM.away (g := g) (o := 9) (v := .int .i64 0) (by omega)
  replace hW := hW.other (g' := g) (o := 9) (v := .int .i64 0) (by omega)
  replace hRI := hRI.away (o := 9) (v := .int .i64 0) BT (by decide)
  replace hb := hb.setCell (p := ⟨g, 9, none⟩) (by dsimp only; omega) (.int .i64 0)
  replace BT := BT.set (i := 9) (.int .i64 0)
  simp only [List.setIfInBounds_toArray, List.set_cons_zero, List.set_cons_succ] at BT
  generalize (v3.setCell ⟨g, 8, none⟩ (.int .i64 (tp S))).setCell ⟨g, 9, none⟩ (.int .i64 0) = w4 at *
  replace hr1 := HR1.out.below hb
  replace hr2 := HR2.out.below hb
  clear HBT3 HSM3
  have hmx : max (X : Int) (Y : Int) = ((max X Y : Nat) : Int) := by omega
  have wk : IntKind.i64.wrap (((max X Y : Nat) : Int) + 1) = (KN : Int) := by rw [IntWalk.i64_in _ (by omega)]; omega
  go_wp2_with fail
  replace BT := BT.drew
  replace hSM := hSM.drew
  replace hr1 := hr1.drew
  replace hr2 := hr2.drew
  replace hW := hW.drew
  replace hRI := hRI.drew
  replace hb := hb.drew
  refine wp_region_held_drew (S := fun w' => w'.cell? ⟨g, 0, none⟩ = some (.int .i64 p) ∧ w'.cell? ⟨g, 1, none⟩ = some (.int .i64 c) ∧ w'.cell? ⟨g, 2, none⟩ = some (.int .i64 h) ∧ w'.cell? ⟨g, 3, none⟩ = some (.int .i64 (S : Int)) ∧ w'.cell? ⟨g, 4, none⟩ = some (.pointer (some ⟨gw, 0, none⟩))) (by kernel_rfl) ⟨BT.thirteen.1, BT.thirteen.2.1, BT.thirteen.2.2.1, BT.thirteen.2.2.2.1, BT.thirteen.2.2.2.2.1⟩ (fun hHeld => ?_)
  clear hHeld
  have hz_v4 : w4.drew.heap.size = w4.heap.size := rfl
  generalize w4.drew = v4 at *
  have hHeld : v4.cell? ⟨g, 0, none⟩ = some (.int .i64 p) ∧ v4.cell? ⟨g, 1, none⟩ = some (.int .i64 c) ∧ v4.cell? ⟨g, 2, none⟩ = some (.int .i64 h) ∧ v4.cell? ⟨g, 3, none⟩ = some (.int .i64 (S : Int)) ∧ v4.cell? ⟨g, 4, none⟩ = some (.pointer (some ⟨gw, 0, none⟩)) := ⟨BT.thirteen.1, BT.thirteen.2.1, BT.thirteen.2.2.1, BT.thirteen.2.2.2.1, BT.thirteen.2.2.2.2.1⟩
  refine wpAnyH_take (i := 0) (oi := ⟨some 38, _, _, _, _, _⟩) (v := ?_) rfl (by kernel_rfl) (by kernel_rfl) (by kernel_rfl) (fun _ _ _ h => h) (Or.inl ⟨by rfl, ?_⟩) (by assumption) ?_
  rotate_left
  · intro w hSw; (try dsimp only at hSw); go_simp; (try (with_reducible rfl))
  try simp only [Act.put, List.setIfInBounds_toArray, List.set_cons_zero, List.set_cons_succ]
  refine wpAnyH_take (i := 1) (oi := ⟨some 39, _, _, _, _, _⟩) (v := ?_) rfl (by kernel_rfl) (by kernel_rfl) (by kernel_rfl) (fun _ _ _ h => h) (Or.inl ⟨by rfl, ?_⟩) (by assumption) ?_
  rotate_left
  · intro w hSw; (try dsimp only at hSw); go_simp; (try (with_reducible rfl))
  try simp only [Act.put, List.setIfInBounds_toArray, List.set_cons_zero, List.set_cons_succ]
  refine wpAnyH_take (i := 2) (oi := ⟨some 40, _, _, _, _, _⟩) (v := ?_) rfl (by kernel_rfl) (by kernel_rfl) (by kernel_rfl) (fun _ _ _ h => h) (Or.inl ⟨by rfl, ?_⟩) (by assumption) ?_
  rotate_left
  · intro w hSw; (try dsimp only at hSw); go_simp; (try (with_reducible rfl))
  try simp only [Act.put, List.setIfInBounds_toArray, List.set_cons_zero, List.set_cons_succ]
  refine wpAnyH_take (i := 3) (oi := ⟨some 41, _, _, _, _, _⟩) (v := ?_) rfl (by kernel_rfl) (by kernel_rfl) (by kernel_rfl) (fun _ _ _ h => h) (Or.inl ⟨by rfl, ?_⟩) (by assumption) ?_
  rotate_left
  · intro w hSw; (try dsimp only at hSw); go_simp; (try (with_reducible rfl))
  try simp only [Act.put, List.setIfInBounds_toArray, List.set_cons_zero, List.set_cons_succ]
  refine wpAnyH_take (i := 4) (oi := ⟨some 42, _, _, _, _, _⟩) (v := ?_) rfl (by kernel_rfl) (by kernel_rfl) (by kernel_rfl) (fun _ _ _ h => h) (Or.inl ⟨by rfl, ?_⟩) (by assumption) ?_
  rotate_left
  · intro w hSw; (try dsimp only at hSw); go_simp; (try (with_reducible rfl))
  try simp only [Act.put, List.setIfInBounds_toArray, List.set_cons_zero, List.set_cons_succ]
  refine wpAnyH_take (i := 5) (oi := ⟨some 43, _, _, _, _, _⟩) (v := ?_) rfl (by kernel_rfl) (by kernel_rfl) (by kernel_rfl) (fun _ _ _ h => h) (Or.inl ⟨by rfl, ?_⟩) (by assumption) ?_
  rotate_left
  · intro w hSw; (try dsimp only at hSw); go_simp; (try (with_reducible rfl))
  try simp only [Act.put, List.setIfInBounds_toArray, List.set_cons_zero, List.set_cons_succ]
  refine wpAnyH_take (i := 7) (oi := ⟨some 45, _, _, _, _, _⟩) (v := ?_) rfl (by kernel_rfl) (by kernel_rfl) (by kernel_rfl) (fun _ _ _ h => h) (Or.inl ⟨by rfl, ?_⟩) (by assumption) ?_
  rotate_left
  · intro w hSw; (try dsimp only at hSw); go_simp; (try (with_reducible rfl))
  try simp only [Act.put, List.setIfInBounds_toArray, List.set_cons_zero, List.set_cons_succ]
  refine wpAnyH_take (i := 8) (oi := ⟨some 46, _, _, _, _, _⟩) (v := ?_) rfl (by kernel_rfl) (by kernel_rfl) (by kernel_rfl) (fun _ _ _ h => h) (Or.inl ⟨by rfl, ?_⟩) (by assumption) ?_
  rotate_left
  · intro w hSw; (try dsimp only at hSw); go_simp; (try (with_reducible rfl))
  try simp only [Act.put, List.setIfInBounds_toArray, List.set_cons_zero, List.set_cons_succ]
  refine wpAnyH_take (i := 9) (oi := ⟨some 47, _, _, _, _, _⟩) (v := ?_) rfl (by kernel_rfl) (by kernel_rfl) (by kernel_rfl) (fun _ _ _ h => h) (Or.inl ⟨by rfl, ?_⟩) (by assumption) ?_
  rotate_left
  · intro w hSw; (try dsimp only at hSw); go_simp; (try (with_reducible rfl))
  try simp only [Act.put, List.setIfInBounds_toArray, List.set_cons_zero, List.set_cons_succ]
  refine wpAnyH_take (i := 10) (oi := ⟨some 48, _, _, _, _, _⟩) (v := ?_) rfl (by kernel_rfl) (by kernel_rfl) (by kernel_rfl) (fun _ _ _ h => h) (Or.inl ⟨by rfl, ?_⟩) (by assumption) ?_
  rotate_left
  · intro w hSw; (try dsimp only at hSw); go_simp; (try (with_reducible rfl))
  try simp only [Act.put, List.setIfInBounds_toArray, List.set_cons_zero, List.set_cons_succ]
  refine wpAnyH_take (i := 11) (oi := ⟨some 49, _, _, _, _, _⟩) (v := ?_) rfl (by kernel_rfl) (by kernel_rfl) (by kernel_rfl) (fun _ _ _ h => h) (Or.inl ⟨by rfl, ?_⟩) (by assumption) ?_
  rotate_left
  · intro w hSw; (try dsimp only at hSw); go_simp; (try (with_reducible rfl))
  try simp only [Act.put, List.setIfInBounds_toArray, List.set_cons_zero, List.set_cons_succ]
  refine wpAnyH_ready (rs := [6]) (by kernel_rfl) (by simp) ?_
  refine AllReadyH.cons (o := ⟨some 44, _, _, _, _, _⟩) rfl (fun K hK => ?_) AllReadyH.nil
  go_simp
  refine (numOf_any p c h (S : Int) gw a1 n1 c1 xs _ hx hn1 hr1 hW).mono ?_
  rintro e wd ⟨rfl, hb4⟩
  have hz_hb4 := hb4.size
  replace BT := BT.below hb4
  replace hSM := hSM.below hb4
  replace hr1 := hr1.below hb4
  replace hr2 := hr2.below hb4
  replace hW := hW.below hb4
  replace hRI := hRI.below hb4
  replace hb := chain hb hb4
  clear hb4
  rw [hX]
  (try go_wp2_with fail)
  refine hK.out _ _ ⟨BT.thirteen.1, BT.thirteen.2.1, BT.thirteen.2.2.1, BT.thirteen.2.2.2.1, BT.thirteen.2.2.2.2.1⟩ (fun hHeld => ?_)
  clear hK K
  try simp only [Act.put, List.setIfInBounds_toArray, List.set_cons_zero, List.set_cons_succ]
  refine wpAnyH_ready (rs := [12]) (by kernel_rfl) (by simp) ?_
  refine AllReadyH.cons (o := ⟨some 50, _, _, _, _, _⟩) rfl (fun K hK => ?_) AllReadyH.nil
  go_simp
  refine (numOf_any p c h (S : Int) gw a2 n2 c2 ys _ hy hn2 hr2 hW).mono ?_
  rintro e we ⟨rfl, hb5⟩
  have hz_hb5 := hb5.size
  replace BT := BT.below hb5
  replace hSM := hSM.below hb5
  replace hr1 := hr1.below hb5
  replace hr2 := hr2.below hb5
  replace hW := hW.below hb5
  replace hRI := hRI.below hb5
  replace hb := chain hb hb5
  clear hb5
  rw [hY]
  (try go_wp2_with fail)
  refine hK.out _ _ ⟨BT.thirteen.1, BT.thirteen.2.1, BT.thirteen.2.2.1, BT.thirteen.2.2.2.1, BT.thirteen.2.2.2.2.1⟩ (fun hHeld => ?_)
  clear hK K
  try simp only [Act.put, List.setIfInBounds_toArray, List.set_cons_zero, List.set_cons_succ]
  refine wpAnyH_take (i := 13) (oi := ⟨some 51, _, _, _, _, _⟩) (v := ?_) rfl (by kernel_rfl) (by kernel_rfl) (by kernel_rfl) (fun _ _ _ h => h) (Or.inl ⟨by rfl, ?_⟩) (by assumption) ?_
  rotate_left
  · intro w hSw; (try dsimp only at hSw); go_simp; (try (with_reducible rfl))
  try simp only [Act.put, List.setIfInBounds_toArray, List.set_cons_zero, List.set_cons_succ]
  refine wpAnyH_take (i := 14) (oi := ⟨some 52, _, _, _, _, _⟩) (v := ?_) rfl (by kernel_rfl) (by kernel_rfl) (by kernel_rfl) (fun _ _ _ h => h) (Or.inl ⟨by rfl, ?_⟩) (by assumption) ?_
  rotate_left
  · intro w hSw; (try dsimp only at hSw); go_simp; (try (with_reducible rfl))
  try simp only [Act.put, List.setIfInBounds_toArray, List.set_cons_zero, List.set_cons_succ]
  refine wpAnyH_take (i := 15) (oi := ⟨some 53, _, _, _, _, _⟩) (v := ?_) rfl (by kernel_rfl) (by kernel_rfl) (by kernel_rfl) (fun _ _ _ h => h) (Or.inl ⟨by rfl, ?_⟩) (by assumption) ?_
  rotate_left
  · intro w hSw; (try dsimp only at hSw); go_simp; (try (with_reducible rfl))
  try simp only [Act.put, List.setIfInBounds_toArray, List.set_cons_zero, List.set_cons_succ]
  refine wpAnyH_take (i := 16) (oi := ⟨some 54, _, _, _, _, _⟩) (v := ?_) rfl (by kernel_rfl) (by kernel_rfl) (by kernel_rfl) (fun _ _ _ h => h) (Or.inl ⟨by rfl, ?_⟩) (by assumption) ?_
  rotate_left
  · intro w hSw; (try dsimp only at hSw); go_simp; (try (with_reducible rfl))
  try simp only [Act.put, List.setIfInBounds_toArray, List.set_cons_zero, List.set_cons_succ]
  refine wpAnyH_ready (rs := [17]) (by kernel_rfl) (by simp) ?_
  refine AllReadyH.cons (o := ⟨none, _, _, _, _, _⟩) rfl (fun K hK => ?_) AllReadyH.nil
  have y0 := BT.thirteen.2.2.2.2.2.2.2.2.2.2.1
  have yf := BT.thirteen.2.2.2.2.2.2.2.2.2.2.2.2.2.1
  have yl := BT.thirteen.2.2.2.2.2.2.2.2.2.2.2.2.2.2
  have BT3 := BT.set (i := 10) (.int .i64 (KN : Int))
  simp only [List.setIfInBounds_toArray, List.set_cons_zero, List.set_cons_succ] at BT3
  have HBT3 := Lib.hid BT3
  clear BT3
  go_simp
  (try go_wp2_with fail)
  refine hK.out _ _ ⟨HBT3.out.thirteen.1, HBT3.out.thirteen.2.1, HBT3.out.thirteen.2.2.1, HBT3.out.thirteen.2.2.2.1, HBT3.out.thirteen.2.2.2.2.1⟩ (fun hHeld => ?_)
  clear hK K
  try simp only [Act.put, List.setIfInBounds_toArray, List.set_cons_zero, List.set_cons_succ]
  refine wpAnyH_done (by kernel_rfl) ?_ _
  clear hHeld
  replace hSM := hSM.away (g := g) (o := 10) (v := .int .i64 (KN : Int)) (by omega)
  replace hW := hW.other (g' := g) (o := 10) (v := .int .i64 (KN : Int)) (by omega)
  replace hRI := hRI.away (o := 10) (v := .int .i64 (KN : Int)) BT (by decide)
  replace hb := hb.setCell (p := ⟨g, 10, none⟩) (by dsimp only; omega) (.int .i64 (KN : Int))
  replace BT := BT.set (i := 10) (.int .i64 (KN : Int))
  simp only [List.setIfInBounds_toArray, List.set_cons_zero, List.set_cons_succ] at BT
  generalize we.setCell ⟨g, 10, none⟩ (.int .i64 (KN : Int)) = w5 at *
  clear HBT3 wk hmx hlk wz
  have hmk := run_make_row' (P := Tryz.prog) 81 62 (.slice none 0 0) 24 Tryz.underlying81 (by kernel_rfl) rfl .i64 .i64 KN (by omega) (by omega)
  obtain ⟨KK, hKK⟩ : ∃ KK, KN * KN = KK := ⟨_, rfl⟩
  have hkl : KK ≤ 250000 := by have := Nat.mul_le_mul hK5.2 hK5.2; omega
  have hmk2 := run_make_row' (P := Tryz.prog) 82 137 (.pointer none) 8 Tryz.underlying82 (by kernel_rfl) rfl .i64 .i64 KK (by omega) (by omega)
  have wm : IntKind.i64.wrap ((KN : Int) * (KN : Int)) = (KK : Int) := by
    rw [← Int.natCast_mul, hKK]
    exact IntWalk.i64_in _ (by omega)
  have HKK := Lib.hid hKK
  have BR := Blk.new w5 (madeCells #[.slice none 0 0] KN) 62
  have hal : Below w5.heap.size w5 (w5.alloc (.cells (madeCells #[.slice none 0 0] KN) 62)) := (Below.refl _ _).alloc (Nat.le_refl _) _
  obtain ⟨gR, hgR⟩ : ∃ g, w5.heap.size = g := ⟨_, rfl⟩
  have hs5 := hb.size
  have BT5 := BT.below hal
  have hglt := BT.lt
  obtain ⟨c0, c1, c2, c3, c4, c5, c6, c7, c8, c9, c10, c11, c12, cf, cl⟩ := BT.thirteen
  obtain ⟨d0, d1, d2, d3, d4, d5, d6, d7, d8, d9, d10, d11, d12, df, dl⟩ := BT5.thirteen
  clear hKK
  go_wp2_with fail
  clear c0 c1 c2 c3 c4 c5 c6 c7 c8 c9 c10 c11 c12 cf cl
  clear d0 d1 d2 d3 d4 d5 d6 d7 d8 d9 d10 d11 d12 df dl
  (try rw [hgR])
  rw [hgR] at BR
  replace hSM := hSM.below hal
  replace hW := hW.below hal
  replace hRI := hRI.below hal
  replace hb := chain hb hal
  clear hal
  have BT := BT5
  clear BT5
  have hgl : g < gR := by rw [← hgR]; exact hglt
  replace BR := BR.other (g := g) (o := 11) (v := .slice (some ⟨gR, 0, none⟩) KN KN) (by omega)
  replace hSM := hSM.away (g := g) (o := 11) (v := .slice (some ⟨gR, 0, none⟩) KN KN) (by omega)
  replace hW := hW.other (g' := g) (o := 11) (v := .slice (some ⟨gR, 0, none⟩) KN KN) (by omega)
  replace hRI := hRI.away (o := 11) (v := .slice (some ⟨gR, 0, none⟩) KN KN) BT (by decide)
  replace hb := hb.setCell (p := ⟨g, 11, none⟩) (by dsimp only; omega) (.slice (some ⟨gR, 0, none⟩) KN KN)
  replace BT := BT.set (i := 11) (.slice (some ⟨gR, 0, none⟩) KN KN)
  simp only [List.setIfInBounds_toArray, List.set_cons_zero, List.set_cons_succ] at BT
  generalize ((w5.alloc (.cells (madeCells #[.slice none 0 0] KN) 62)).setCell ⟨g, 11, none⟩ (.slice (some ⟨gR, 0, none⟩) KN KN)) = w6 at *
  obtain ⟨gC, hgC0⟩ : ∃ g, w6.heap.size = g := ⟨_, rfl⟩
  replace BT := BT.drew
  replace hSM := hSM.drew
  replace hW := hW.drew
  replace hRI := hRI.drew
  replace BR := BR.drew
  replace hb := hb.drew
  refine wp_region_held_drew (S := fun w' => w'.cell? ⟨g, 10, none⟩ = some (.int .i64 (KN : Int))) (by kernel_rfl) BT.thirteen.2.2.2.2.2.2.2.2.2.2.1 (fun hHeld => ?_)
  clear hHeld
  have hz_v6 : w6.drew.heap.size = w6.heap.size := rfl
  generalize w6.drew = v6 at *
  have hHeld : v6.cell? ⟨g, 10, none⟩ = some (.int .i64 (KN : Int)) := BT.thirteen.2.2.2.2.2.2.2.2.2.2.1
  refine wpAnyH_take (i := 0) (oi := ⟨some 63, _, _, _, _, _⟩) (v := ?_) rfl (by kernel_rfl) (by kernel_rfl) (by kernel_rfl) (fun _ _ _ h => h) (Or.inl ⟨by rfl, ?_⟩) (by assumption) ?_
  rotate_left
  · intro w hSw; (try dsimp only at hSw); go_simp; (try (with_reducible rfl))
  try simp only [Act.put, List.setIfInBounds_toArray, List.set_cons_zero, List.set_cons_succ]
  refine wpAnyH_take (i := 1) (oi := ⟨some 64, _, _, _, _, _⟩) (v := ?_) rfl (by kernel_rfl) (by kernel_rfl) (by kernel_rfl) (fun _ _ _ h => h) (Or.inl ⟨by rfl, ?_⟩) (by assumption) ?_
  rotate_left
  · intro w hSw; (try dsimp only at hSw); go_simp; (try (with_reducible rfl))
  try simp only [Act.put, List.setIfInBounds_toArray, List.set_cons_zero, List.set_cons_succ]
  refine wpAnyH_take (i := 2) (oi := ⟨some 65, _, _, _, _, _⟩) (v := ?_) rfl (by kernel_rfl) (by kernel_rfl) (by kernel_rfl) (fun _ _ _ h => h) (Or.inl ⟨by rfl, ?_⟩) (by assumption) ?_
  rotate_left
  · intro w hSw; (try dsimp only at hSw); go_simp; (try (with_reducible rfl))
  try simp only [Act.put, List.setIfInBounds_toArray, List.set_cons_zero, List.set_cons_succ]
  refine wpAnyH_take (i := 3) (oi := ⟨some 66, _, _, _, _, _⟩) (v := ?_) rfl (by kernel_rfl) (by kernel_rfl) (by kernel_rfl) (fun _ _ _ h => h) (Or.inl ⟨by rfl, ?_⟩) (by assumption) ?_
  rotate_left
  · intro w hSw; (try dsimp only at hSw); go_simp; (try (with_reducible rfl))
  try simp only [Act.put, List.setIfInBounds_toArray, List.set_cons_zero, List.set_cons_succ]
  refine wpAnyH_take (i := 4) (oi := ⟨some 67, _, _, _, _, _⟩) (v := ?_) rfl (by kernel_rfl) (by kernel_rfl) (by kernel_rfl) (fun _ _ _ h => h) (Or.inl ⟨by rfl, ?_⟩) (by assumption) ?_
  rotate_left
  · intro w hSw; (try dsimp only at hSw); go_simp; (try (with_reducible rfl))
  try simp only [Act.put, List.setIfInBounds_toArray, List.set_cons_zero, List.set_cons_succ]
  refine wpAnyH_take (i := 5) (oi := ⟨some 68, _, _, _, _, _⟩) (v := ?_) rfl (by kernel_rfl) (by kernel_rfl) (by kernel_rfl) (fun _ _ _ h => h) (Or.inl ⟨by rfl, ?_⟩) (by assumption) ?_
  rotate_left
  · intro w hSw; (try dsimp only at hSw); go_simp; (try (with_reducible rfl))
  try simp only [Act.put, List.setIfInBounds_toArray, List.set_cons_zero, List.set_cons_succ]
  refine wpAnyH_take (i := 6) (oi := ⟨some 69, _, _, _, _, _⟩) (v := ?_) rfl (by kernel_rfl) (by kernel_rfl) (by kernel_rfl) (fun _ _ _ h => h) (Or.inl ⟨by rfl, ?_⟩) (by assumption) ?_
  rotate_left
  · intro w hSw; (try dsimp only at hSw); go_simp; (try (with_reducible rfl))
  try simp only [Act.put, List.setIfInBounds_toArray, List.set_cons_zero, List.set_cons_succ]
  refine wpAnyH_take (i := 7) (oi := ⟨some 70, _, _, _, _, _⟩) (v := ?_) rfl (by kernel_rfl) (by kernel_rfl) (by kernel_rfl) (fun _ _ _ h => h) (Or.inl ⟨by rfl, ?_⟩) (by assumption) ?_
  rotate_left
  · intro w hSw; (try dsimp only at hSw); go_simp; (try (with_reducible rfl))
  try simp only [Act.put, List.setIfInBounds_toArray, List.set_cons_zero, List.set_cons_succ]
  refine wpAnyH_take (i := 8) (oi := ⟨some 71, _, _, _, _, _⟩) (v := ?_) rfl (by kernel_rfl) (by kernel_rfl) (by kernel_rfl) (fun _ _ _ h => h) (Or.inl ⟨by rfl, ?_⟩) (by assumption) ?_
  rotate_left
  · intro w hSw; (try dsimp only at hSw); go_simp; (try (with_reducible rfl))
  try simp only [Act.put, List.setIfInBounds_toArray, List.set_cons_zero, List.set_cons_succ]
  refine wpAnyH_take (i := 9) (oi := ⟨some 72, _, _, _, _, _⟩) (v := ?_) rfl (by kernel_rfl) (by kernel_rfl) (by kernel_rfl) (fun _ _ _ h => h) (Or.inl ⟨by rfl, ?_⟩) (by assumption) ?_
  rotate_left
  · intro w hSw; (try dsimp only at hSw); go_simp; (try (with_reducible rfl))
  try simp only [Act.put, List.setIfInBounds_toArray, List.set_cons_zero, List.set_cons_succ]
  refine wpAnyH_ready (rs := [10]) (by kernel_rfl) (by simp) ?_
  refine AllReadyH.cons (o := ⟨some 73, _, _, _, _, _⟩) rfl (fun K hK => ?_) AllReadyH.nil
  go_simp
  (try go_wp2_with fail)
  refine hK.out _ _ (BT.alloc (.cells (madeCells #[.pointer none] KK) 137)).thirteen.2.2.2.2.2.2.2.2.2.2.1 (fun hHeld => ?_)
  clear hK K
  try simp only [Act.put, List.setIfInBounds_toArray, List.set_cons_zero, List.set_cons_succ]
  refine wpAnyH_take (i := 11) (oi := ⟨some 74, _, _, _, _, _⟩) (v := ?_) rfl (by kernel_rfl) (by kernel_rfl) (by kernel_rfl) (fun _ _ _ h => h) (Or.inl ⟨by rfl, ?_⟩) (by assumption) ?_
  rotate_left
  · intro w hSw; (try dsimp only at hSw); go_simp; (try (with_reducible rfl))
  try simp only [Act.put, List.setIfInBounds_toArray, List.set_cons_zero, List.set_cons_succ]
  refine wpAnyH_take (i := 12) (oi := ⟨some 75, _, _, _, _, _⟩) (v := ?_) rfl (by kernel_rfl) (by kernel_rfl) (by kernel_rfl) (fun _ _ _ h => h) (Or.inl ⟨by rfl, ?_⟩) (by assumption) ?_
  rotate_left
  · intro w hSw; (try dsimp only at hSw); go_simp; (try (with_reducible rfl))
  try simp only [Act.put, List.setIfInBounds_toArray, List.set_cons_zero, List.set_cons_succ]
  refine wpAnyH_ready (rs := [13]) (by kernel_rfl) (by simp) ?_
  refine AllReadyH.cons (o := ⟨none, _, _, _, _, _⟩) rfl (fun K hK => ?_) AllReadyH.nil
  have BTa := BT.alloc (.cells (madeCells #[.pointer none] KK) 137)
  have y0 := BTa.thirteen.2.2.2.2.2.2.2.2.2.2.2.2.1
  have yf := BTa.thirteen.2.2.2.2.2.2.2.2.2.2.2.2.2.1
  have yl := BTa.thirteen.2.2.2.2.2.2.2.2.2.2.2.2.2.2
  have BT3 := BTa.set (i := 12) (.slice (some ⟨gC, 0, none⟩) KK KK)
  simp only [List.setIfInBounds_toArray, List.set_cons_zero, List.set_cons_succ] at BT3
  have HBT3 := Lib.hid BT3
  clear BT3
  go_simp
  (try go_wp2_with fail)
  refine hK.out _ _ HBT3.out.thirteen.2.2.2.2.2.2.2.2.2.2.1 (fun hHeld => ?_)
  clear hK K
  try simp only [Act.put, List.setIfInBounds_toArray, List.set_cons_zero, List.set_cons_succ]
  refine wpAnyH_done (by kernel_rfl) ?_ _
  clear hHeld
  have BC := Blk.new v6 (madeCells #[.pointer none] KK) 137
  have hal : Below v6.heap.size v6 (v6.alloc (.cells (madeCells #[.pointer none] KK) 137)) := (Below.refl _ _).alloc (Nat.le_refl _) _
  have hg6 := BT.lt
  have hs6 := hb.size
  replace BT := BT.below hal
  replace BR := BR.below hal
  replace hSM := hSM.below hal
  replace hW := hW.below hal
  replace hRI := hRI.below hal
  replace hb := chain hb hal
  have hgC : v6.heap.size = gC := by omega
  rw [hgC] at BC hg6 hs6
  (try rw [hgC])
  replace BR := BR.other (g := g) (o := 12) (v := .slice (some ⟨gC, 0, none⟩) KK KK) (by omega)
  replace BC := BC.other (g := g) (o := 12) (v := .slice (some ⟨gC, 0, none⟩) KK KK) (by omega)
  replace hSM := hSM.away (g := g) (o := 12) (v := .slice (some ⟨gC, 0, none⟩) KK KK) (by omega)
  replace hW := hW.other (g' := g) (o := 12) (v := .slice (some ⟨gC, 0, none⟩) KK KK) (by omega)
  replace hRI := hRI.away (o := 12) (v := .slice (some ⟨gC, 0, none⟩) KK KK) BT (by decide)
  replace hb := hb.setCell (p := ⟨g, 12, none⟩) (by dsimp only; omega) (.slice (some ⟨gC, 0, none⟩) KK KK)
  replace BT := BT.set (i := 12) (.slice (some ⟨gC, 0, none⟩) KK KK)
  simp only [List.setIfInBounds_toArray, List.set_cons_zero, List.set_cons_succ] at BT
  generalize ((v6.alloc (.cells (madeCells #[.pointer none] KK) 137)).setCell ⟨g, 12, none⟩ (.slice (some ⟨gC, 0, none⟩) KK KK)) = w7 at *
  clear hal HBT3 hgC hgC0 hgR
  go_wp2
  go_ret
  have hkk := HKK.out
  subst hkk
  refine ⟨⟨p, c, h, S, g, gw, b, ar, kr, KN, gR, gC⟩, rfl, rfl, rfl, rfl, rfl, ?_, ⟨⟨BT, hW, hSM, hRI⟩, ⟨_, BC, fun us vs k1 k2 => ⟨.pointer none, made_at _ _ _ ?_, .inl rfl⟩⟩, ⟨_, BR, fun us k1 => ⟨.slice none 0 0, made_at _ _ _ k1.2, .inl rfl⟩⟩⟩, ?_, ?_, hb⟩
  · rw [hX, hY]; exact hK.symm
  · have h1 := Nat.mul_le_mul_right KN (show nm c us + 1 ≤ KN from k1.2)
    rw [Nat.add_mul] at h1
    have h2 : nm c vs < KN := k2.2
    show nm c us * KN + nm c vs < KN * KN
    omega
  · show w.heap.size ≤ gR
    omega
  · show w.heap.size ≤ gC
    omega
end Go.Proofs.YtfomfbfcnenhbaaGreat
