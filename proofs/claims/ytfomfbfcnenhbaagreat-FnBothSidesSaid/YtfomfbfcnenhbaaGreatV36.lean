/- Texts of a proof, laid together. -/
import Derived.Test.YtfomfbfcnenhbaaGreatV35
import Derived.Test.YtfomfbfcnenhbaaGreatV15
namespace Go.Proofs.YtfomfbfcnenhbaaGreat
open Go.ChangeShapes Go.WideShapes Go.ChangeAt Go.RowKit
set_option linter.unusedVariables false
set_option linter.unusedSimpArgs false
set_option maxRecDepth 4000
set_option maxHeartbeats 1000000 in
theorem l11One_any (w : World) :
    Calls Tryz.prog 100 #[] w fun e w' => e = .returned (.agg #[.int .i64 1, .int .i64 0]) ∧ Below w.heap.size w w' := by
  have BO := Blk.new w #[.int .i64 1, .int .i64 0] 30
  have hb : Below w.heap.size w (w.alloc (.cells #[.int .i64 1, .int .i64 0] 30)) := (Below.refl _ _).alloc (Nat.le_refl _) _
  obtain ⟨z0, z1, zf, zl⟩ := BO.two
  go_enter Tryz.func100, Tryz.ntmps100
  go_wp2_with fail
  refine bodyPost_ret (v := .agg #[.int .i64 1, .int .i64 0]) (by simp [results, Tryz.results100, go_sem, z0, z1]) rfl ?_
  exact ⟨rfl, hb⟩
set_option maxRecDepth 8000 in
set_option maxHeartbeats 2000000 in
theorem l12Minus_any (p c h : Int) (S : Nat) (hS : 1 ≤ S ∧ S ≤ 6) (n d Q : Int) (hQ : IsP S n d Q) (hin : 0 ≤ Q ∧ Q ≤ tp S) (w : World) :
    Calls Tryz.prog 56 #[.agg #[.int .i64 p, .int .i64 c, .int .i64 h, .int .i64 (S : Int)], .agg #[.int .i64 n, .int .i64 d]] w fun e w' => ∃ m f, e = .returned (.tuple #[.agg #[.int .i64 m, .int .i64 f], .bool true]) ∧ IsP S m f (tp S - Q) ∧ Below w.heap.size w w' := by
  have htp := tp_in hS
  obtain ⟨i0, i1, i2, i3, i4⟩ := isP_depth hS hQ
  obtain ⟨m, f, had, hmf⟩ := isP_add hS (isP_one hS) (isP_neg hQ) (by omega) (by omega)
  rw [show tp S + -Q = tp S - Q by omega] at hmf
  have hA := fun W => l09Add_any p c h S hS 1 0 (-n) d (by omega) (by omega) (by omega) (by omega) W
  rw [had] at hA
  simp only [xoN, xoD, Option.isSome] at hA
  have wz : IntKind.i64.wrap (-n) = -n := IntWalk.i64_in _ (by omega)
  have HA := Lib.hid hA
  have HM := Lib.hid hmf
  obtain ⟨BV, BX, BO, hb, hz⟩ := three_new w #[.int .i64 p, .int .i64 c, .int .i64 h, .int .i64 (S : Int)] #[.int .i64 n, .int .i64 d] #[.int .i64 0, .int .i64 0] 25 30 30
  clear hA hmf had hin hQ hS htp i0 i1 i2 i3 i4 hz
  obtain ⟨x0, x1, x2, x3, xf, xl⟩ := BV.four
  obtain ⟨y0, y1, yf, yl⟩ := BX.two
  obtain ⟨z0, z1, zf, zl⟩ := BO.two
  go_enter Tryz.func56, Tryz.ntmps56
  go_wp2_with fail
  clear x0 x1 x2 x3 xf xl y0 y1 yf yl z0 z1 zf zl
  generalize (((w.alloc (.cells #[.int .i64 p, .int .i64 c, .int .i64 h, .int .i64 (S : Int)] 25)).alloc (.cells #[.int .i64 n, .int .i64 d] 30)).alloc (.cells #[.int .i64 0, .int .i64 0] 30)) = w1 at *
  replace BV := BV.drew
  replace BX := BX.drew
  replace BO := BO.drew
  replace hb := hb.drew
  refine wp_region_held_drew (S := fun w' => w'.cell? ⟨w.heap.size, 0, none⟩ = some (.int .i64 p) ∧ w'.cell? ⟨w.heap.size, 1, none⟩ = some (.int .i64 c) ∧ w'.cell? ⟨w.heap.size, 2, none⟩ = some (.int .i64 h) ∧ w'.cell? ⟨w.heap.size, 3, none⟩ = some (.int .i64 (S : Int)) ∧ w'.cell? ⟨w.heap.size + 1, 0, none⟩ = some (.int .i64 n) ∧ w'.cell? ⟨w.heap.size + 1, 1, none⟩ = some (.int .i64 d)) (by kernel_rfl) ⟨BV.four.1, BV.four.2.1, BV.four.2.2.1, BV.four.2.2.2.1, BX.two.1, BX.two.2.1⟩ (fun hHeld => ?_)
  clear hHeld
  have hz_vd : w1.drew.heap.size = w1.heap.size := rfl
  generalize w1.drew = vd at *
  have hHeld : vd.cell? ⟨w.heap.size, 0, none⟩ = some (.int .i64 p) ∧ vd.cell? ⟨w.heap.size, 1, none⟩ = some (.int .i64 c) ∧ vd.cell? ⟨w.heap.size, 2, none⟩ = some (.int .i64 h) ∧ vd.cell? ⟨w.heap.size, 3, none⟩ = some (.int .i64 (S : Int)) ∧ vd.cell? ⟨w.heap.size + 1, 0, none⟩ = some (.int .i64 n) ∧ vd.cell? ⟨w.heap.size + 1, 1, none⟩ = some (.int .i64 d) := ⟨BV.four.1, BV.four.2.1, BV.four.2.2.1, BV.four.2.2.2.1, BX.two.1, BX.two.2.1⟩
  refine wpAnyH_take (i := 0) (oi := ⟨some 6, _, _, _, _, _⟩) (v := ?_) rfl (by kernel_rfl) (by kernel_rfl) (by kernel_rfl) (fun _ _ _ h => h) (Or.inl ⟨by rfl, ?_⟩) (by assumption) ?_
  rotate_left
  · intro w hSw; (try dsimp only at hSw); go_simp; (try (with_reducible rfl))
  try simp only [Act.put, List.setIfInBounds_toArray, List.set_cons_zero, List.set_cons_succ]
  refine wpAnyH_take (i := 2) (oi := ⟨some 8, _, _, _, _, _⟩) (v := ?_) rfl (by kernel_rfl) (by kernel_rfl) (by kernel_rfl) (fun _ _ _ h => h) (Or.inl ⟨by rfl, ?_⟩) (by assumption) ?_
  rotate_left
  · intro w hSw; (try dsimp only at hSw); go_simp; (try (with_reducible rfl))
  try simp only [Act.put, List.setIfInBounds_toArray, List.set_cons_zero, List.set_cons_succ]
  refine wpAnyH_take (i := 3) (oi := ⟨some 9, _, _, _, _, _⟩) (v := ?_) rfl (by kernel_rfl) (by kernel_rfl) (by kernel_rfl) (fun _ _ _ h => h) (Or.inl ⟨by rfl, ?_⟩) (by assumption) ?_
  rotate_left
  · intro w hSw; (try dsimp only at hSw); go_simp; (try (with_reducible rfl))
  try simp only [Act.put, List.setIfInBounds_toArray, List.set_cons_zero, List.set_cons_succ]
  refine wpAnyH_take (i := 4) (oi := ⟨some 10, _, _, _, _, _⟩) (v := ?_) rfl (by kernel_rfl) (by kernel_rfl) (by kernel_rfl) (fun _ _ _ h => h) (Or.inl ⟨by rfl, ?_⟩) (by assumption) ?_
  rotate_left
  · intro w hSw; (try dsimp only at hSw); go_simp; (try (with_reducible rfl))
  try simp only [Act.put, List.setIfInBounds_toArray, List.set_cons_zero, List.set_cons_succ]
  refine wpAnyH_take (i := 5) (oi := ⟨some 11, _, _, _, _, _⟩) (v := ?_) rfl (by kernel_rfl) (by kernel_rfl) (by kernel_rfl) (fun _ _ _ h => h) (Or.inl ⟨by rfl, ?_⟩) (by assumption) ?_
  rotate_left
  · intro w hSw; (try dsimp only at hSw); go_simp; (try (with_reducible rfl))
  try simp only [Act.put, List.setIfInBounds_toArray, List.set_cons_zero, List.set_cons_succ]
  refine wpAnyH_take (i := 6) (oi := ⟨some 12, _, _, _, _, _⟩) (v := ?_) rfl (by kernel_rfl) (by kernel_rfl) (by kernel_rfl) (fun _ _ _ h => h) (Or.inl ⟨by rfl, ?_⟩) (by assumption) ?_
  rotate_left
  · intro w hSw; (try dsimp only at hSw); go_simp; (try (with_reducible rfl))
  try simp only [Act.put, List.setIfInBounds_toArray, List.set_cons_zero, List.set_cons_succ]
  refine wpAnyH_take (i := 7) (oi := ⟨some 13, _, _, _, _, _⟩) (v := ?_) rfl (by kernel_rfl) (by kernel_rfl) (by kernel_rfl) (fun _ _ _ h => h) (Or.inl ⟨by rfl, ?_⟩) (by assumption) ?_
  rotate_left
  · intro w hSw; (try dsimp only at hSw); go_simp; (try (with_reducible rfl))
  try simp only [Act.put, List.setIfInBounds_toArray, List.set_cons_zero, List.set_cons_succ]
  refine wpAnyH_ready (rs := [1]) (by kernel_rfl) (by simp) ?_
  refine AllReadyH.cons (o := ⟨some 7, _, _, _, _, _⟩) rfl (fun K hK => ?_) AllReadyH.nil
  go_simp
  refine (l11One_any _).mono ?_
  rintro e wa ⟨rfl, hb1⟩
  replace BV := BV.below hb1
  replace BX := BX.below hb1
  replace BO := BO.below hb1
  replace hb := chain hb hb1
  clear hb1
  (try go_wp2_with fail)
  refine hK.out _ _ ⟨BV.four.1, BV.four.2.1, BV.four.2.2.1, BV.four.2.2.2.1, BX.two.1, BX.two.2.1⟩ (fun hHeld => ?_)
  clear hK K
  try simp only [Act.put, List.setIfInBounds_toArray, List.set_cons_zero, List.set_cons_succ]
  refine wpAnyH_ready (rs := [8]) (by kernel_rfl) (by simp) ?_
  refine AllReadyH.cons (o := ⟨some 14, _, _, _, _, _⟩) rfl (fun K hK => ?_) AllReadyH.nil
  go_simp
  refine (HA.out _).mono ?_
  rintro e wb ⟨rfl, hb2⟩
  replace BV := BV.below hb2
  replace BX := BX.below hb2
  replace BO := BO.below hb2
  replace hb := chain hb hb2
  clear hb2
  (try go_wp2_with fail)
  refine hK.out _ _ ⟨BV.four.1, BV.four.2.1, BV.four.2.2.1, BV.four.2.2.2.1, BX.two.1, BX.two.2.1⟩ (fun hHeld => ?_)
  clear hK K
  try simp only [Act.put, List.setIfInBounds_toArray, List.set_cons_zero, List.set_cons_succ]
  refine wpAnyH_take (i := 9) (oi := ⟨some 15, _, _, _, _, _⟩) (v := ?_) rfl (by kernel_rfl) (by kernel_rfl) (by kernel_rfl) (fun _ _ _ h => h) (Or.inl ⟨by rfl, ?_⟩) (by assumption) ?_
  rotate_left
  · intro w hSw; (try dsimp only at hSw); go_simp; (try (with_reducible rfl))
  try simp only [Act.put, List.setIfInBounds_toArray, List.set_cons_zero, List.set_cons_succ]
  refine wpAnyH_take (i := 10) (oi := ⟨some 16, _, _, _, _, _⟩) (v := ?_) rfl (by kernel_rfl) (by kernel_rfl) (by kernel_rfl) (fun _ _ _ h => h) (Or.inl ⟨by rfl, ?_⟩) (by assumption) ?_
  rotate_left
  · intro w hSw; (try dsimp only at hSw); go_simp; (try (with_reducible rfl))
  try simp only [Act.put, List.setIfInBounds_toArray, List.set_cons_zero, List.set_cons_succ]
  refine wpAnyH_ready (rs := [11]) (by kernel_rfl) (by simp) ?_
  refine AllReadyH.cons (o := ⟨none, _, _, _, _, _⟩) rfl (fun K hK => ?_) AllReadyH.nil
  have u0 := BO.two.1
  have u1 := BO.two.2.1
  have uf := BO.two.2.2.1
  have ul := BO.two.2.2.2
  go_simp
  (try go_wp2_with fail)
  refine hK.out _ _ ⟨(BV.far2 (B := w.heap.size + 1 + 1) (by omega) (.int .i64 m) (.int .i64 f)).four.1, (BV.far2 (B := w.heap.size + 1 + 1) (by omega) (.int .i64 m) (.int .i64 f)).four.2.1, (BV.far2 (B := w.heap.size + 1 + 1) (by omega) (.int .i64 m) (.int .i64 f)).four.2.2.1, (BV.far2 (B := w.heap.size + 1 + 1) (by omega) (.int .i64 m) (.int .i64 f)).four.2.2.2.1, (BX.far2 (B := w.heap.size + 1 + 1) (by omega) (.int .i64 m) (.int .i64 f)).two.1, (BX.far2 (B := w.heap.size + 1 + 1) (by omega) (.int .i64 m) (.int .i64 f)).two.2.1⟩ (fun hHeld => ?_)
  clear hK K
  try simp only [Act.put, List.setIfInBounds_toArray, List.set_cons_zero, List.set_cons_succ]
  refine wpAnyH_take (i := 12) (oi := ⟨some 5, _, _, _, _, _⟩) (v := ?_) rfl (by kernel_rfl) (by kernel_rfl) (by kernel_rfl) (fun _ _ _ h => h) (Or.inl ⟨by rfl, ?_⟩) (by assumption) ?_
  rotate_left
  · intro w hSw; (try dsimp only at hSw); go_simp; (try (with_reducible rfl))
  try simp only [Act.put, List.setIfInBounds_toArray, List.set_cons_zero, List.set_cons_succ]
  refine wpAnyH_done (by kernel_rfl) ?_ _
  clear hHeld
  go_wp2_with fail
  have BRn := BO.set2 (.int .i64 m) (.int .i64 f)
  obtain ⟨u0, u1, uf, ul⟩ := BRn.two
  refine bodyPost_ret (v := .tuple #[.agg #[.int .i64 m, .int .i64 f], .bool true]) (by simp [results, Tryz.results56, go_sem, u0, u1]) rfl ?_
  exact ⟨m, f, rfl, HM.out, belowFar2 hb (by omega) _ _⟩
theorem Blk.seven {w : World} {g : Nat} {v0 v1 v2 v3 v4 v5 v6 : Value} {t : TypeId} (h : Blk w g #[v0, v1, v2, v3, v4, v5, v6] t) :
    w.cell? ⟨g, 0, none⟩ = some v0 ∧ w.cell? ⟨g, 1, none⟩ = some v1 ∧ w.cell? ⟨g, 2, none⟩ = some v2 ∧ w.cell? ⟨g, 3, none⟩ = some v3 ∧ w.cell? ⟨g, 4, none⟩ = some v4 ∧ w.cell? ⟨g, 5, none⟩ = some v5 ∧ w.cell? ⟨g, 6, none⟩ = some v6 ∧ (∀ i, w.frozen? ⟨g, i, none⟩ = false) ∧ g < w.heap.size :=
  ⟨by rw [h.cell 0]; rfl, by rw [h.cell 1]; rfl, by rw [h.cell 2]; rfl, by rw [h.cell 3]; rfl, by rw [h.cell 4]; rfl, by rw [h.cell 5]; rfl, by rw [h.cell 6]; rfl, fun i => h.free i, h.lt⟩
structure Tm where
  (p c h : Int) (S g N gk gv : Nat)
abbrev Tm.cells (t : Tm) : Array Value := #[.int .i64 t.p, .int .i64 t.c, .int .i64 t.h, .int .i64 (t.S : Int), .int .i64 (t.N : Int), .slice (some ⟨t.gk, 0, none⟩) (t.N * t.N) (t.N * t.N), .slice (some ⟨t.gv, 0, none⟩) (t.N * t.N) (t.N * t.N)]
def Tm.In (t : Tm) (xs : List Int) : Prop := Ps t.p t.c t.h (t.S : Int) xs
def EnC (t : Tm) (ck cv : Array Value) (xs ys : List Int) : Prop :=
  ∃ b u v, ck[nm t.c xs * t.N + nm t.c ys]? = some (.bool b) ∧ cv[(nm t.c xs * t.N + nm t.c ys) * 2]? = some u ∧ cv[(nm t.c xs * t.N + nm t.c ys) * 2 + 1]? = some v ∧
    (b = true → ∃ n d P, u = .int .i64 n ∧ v = .int .i64 d ∧ wc t.S xs ys = some P ∧ IsP t.S n d P)
structure TmI (t : Tm) (w : World) : Prop where
  st : Blk w t.g t.cells 135
  num : t.N = cnt t.h.toNat t.c.toNat ∧ 1 ≤ t.N ∧ t.N ≤ 500
  kn : ∃ ck cv, Blk w t.gk ck 4 ∧ Blk w t.gv cv 30 ∧ ∀ xs ys, t.In xs → t.In ys → EnC t ck cv xs ys
theorem TmI.below {t : Tm} {w w' : World} (h : TmI t w) (hb : Below w.heap.size w w') : TmI t w' := by
  obtain ⟨s, n, ck, cv, b1, b2, r⟩ := h
  exact ⟨s.below hb, n, ck, cv, b1.below hb, b2.below hb, r⟩
theorem TmI.drew {t : Tm} {w : World} (h : TmI t w) : TmI t w.drew := h.below (Below.refl _ _).drew
theorem TmI.lts {t : Tm} {w : World} (h : TmI t w) : t.g < w.heap.size ∧ t.gk < w.heap.size ∧ t.gv < w.heap.size := by
  obtain ⟨s, n, ck, cv, b1, b2, r⟩ := h
  exact ⟨s.lt, b1.lt, b2.lt⟩
theorem TmI.other {t : Tm} {w : World} {z o : Nat} {u : Value} (h : TmI t w) (n1 : t.g ≠ z) (n2 : t.gk ≠ z) (n3 : t.gv ≠ z) : TmI t (w.setCell ⟨z, o, none⟩ u) := by
  obtain ⟨s, n, ck, cv, b1, b2, r⟩ := h
  exact ⟨s.other n1, n, ck, cv, b1.other n2, b2.other n3, r⟩
theorem TmI.gr {t : Tm} {w w' : World} {g : Nat} {vs : Array Value} {y : TypeId} (h : TmI t w) (hB : Blk w g vs y) (hg : Gr t.gk t.gv w w') (n1 : y ≠ 4) (n2 : y ≠ 30) : Blk w' g vs y := by
  obtain ⟨s, n, ck, cv, b1, b2, r⟩ := h
  exact hB.gr hg (hB.ne b1 n1) (hB.ne b2 n2)
theorem Gr.set {gR gC : Nat} {w w' : World} {z o : Nat} {u : Value} (h : Gr gR gC w w') (hz : w.heap.size ≤ z) : Gr gR gC w (w'.setCell ⟨z, o, none⟩ u) :=
  ⟨h.os, h.tape, h.output, by simpa using h.size, fun k hk n1 n2 => (Below.heap_setCell w' ⟨z, o, none⟩ u k (by show k ≠ z; omega)).trans (h.block k hk n1 n2)⟩
theorem Gr.cell {gR gC : Nat} {w w' : World} (h : Gr gR gC w w') {b o : Nat} {v : Value} (hc : w.cell? ⟨b, o, none⟩ = some v) (n1 : b ≠ gR) (n2 : b ≠ gC) : w'.cell? ⟨b, o, none⟩ = some v := by
  have hlt := World.block_lt_of_cell? w _ hc
  have hk := h.block b hlt n1 n2
  rw [← hc]
  simp only [World.cell?, hk]
def RF (t : Tm) (w : World) (a : Option Addr) (xs : List Int) : Prop :=
  ∀ i, i < xs.length → ∃ b o, a = some ⟨b, o, none⟩ ∧ b ≠ t.gk ∧ b ≠ t.gv ∧ w.cell? ⟨b, o + i, none⟩ = some (.int .i64 (xs.getD i 0))
theorem RF.irow {t : Tm} {w : World} {a : Option Addr} {xs : List Int} (h : RF t w a xs) : IRow w a xs := fun i hi => by
  obtain ⟨b, o, e, _, _, hc⟩ := h i hi
  exact ⟨b, o, e, hc⟩
theorem RF.gr {t : Tm} {w w' : World} {a : Option Addr} {xs : List Int} (h : RF t w a xs) (hg : Gr t.gk t.gv w w') : RF t w' a xs := fun i hi => by
  obtain ⟨b, o, e, n1, n2, hc⟩ := h i hi
  exact ⟨b, o, e, n1, n2, hg.cell hc n1 n2⟩
theorem RF.of {t : Tm} {w : World} {a : Option Addr} {xs : List Int} {m : Nat} (h : IRow w a xs) (hm : w.heap.size ≤ m) (n1 : m ≤ t.gk) (n2 : m ≤ t.gv) : RF t w a xs := fun i hi => by
  obtain ⟨b, o, e, hc⟩ := h i hi
  have := World.block_lt_of_cell? w _ hc
  dsimp only at this
  exact ⟨b, o, e, by omega, by omega, hc⟩
theorem RF.row {t : Tm} {w : World} {g : Nat} {xs : List Int} (hI : TmI t w) (h : Row w g xs) : RF t w (some ⟨g, 0, none⟩) xs := fun i hi => by
  have hc := h.cell i hi
  obtain ⟨cur, hB, _⟩ := h
  obtain ⟨s, n, ck, cv, b1, b2, r⟩ := hI
  exact ⟨g, 0, rfl, hB.ne b1 (by decide), hB.ne b2 (by decide), by rw [Nat.zero_add]; exact hc⟩
def XV (S : Nat) (o : Option Int) (n d : Int) (b : Bool) : Prop := match o with
  | some P => b = true ∧ IsP S n d P
  | none => b = false
def EGot (t : Tm) (o : Option Int) (w : World) (e : Ending) (w' : World) : Prop := ∃ n d b, e = .returned (.tuple #[.agg #[.int .i64 n, .int .i64 d], .bool b]) ∧ XV t.S o n d b ∧ TmI t w' ∧ Gr t.gk t.gv w w'
theorem TmI.put {t : Tm} {w w' : World} {ck cv : Array Value} {xs ys : List Int} {n d P : Int} (h1 : t.In xs) (h2 : t.In ys) (hn : t.N = cnt t.h.toNat t.c.toNat ∧ 1 ≤ t.N ∧ t.N ≤ 500) (r : ∀ us vs, t.In us → t.In vs → EnC t ck cv us vs) (hw : wc t.S xs ys = some P) (hp : IsP t.S n d P)
    (b0 : Blk w' t.g t.cells 135) (b1 : Blk w' t.gk (ck.setIfInBounds (nm t.c xs * t.N + nm t.c ys) (.bool true)) 4) (b2 : Blk w' t.gv ((cv.setIfInBounds ((nm t.c xs * t.N + nm t.c ys) * 2) (.int .i64 n)).setIfInBounds ((nm t.c xs * t.N + nm t.c ys) * 2 + 1) (.int .i64 d)) 30) : TmI t w' := by
  refine ⟨b0, hn, _, _, b1, b2, fun us vs k1 k2 => ?_⟩
  obtain ⟨b, u, v, e1, e2, e3, e4⟩ := r us vs k1 k2
  have l1 : nm t.c ys < t.N := by rw [hn.1]; exact nm_lt h2
  have l2 : nm t.c vs < t.N := by rw [hn.1]; exact nm_lt k2
  by_cases e : nm t.c us * t.N + nm t.c vs = nm t.c xs * t.N + nm t.c ys
  · have hK : 0 < t.N := by omega
    have f1 : nm t.c us = nm t.c xs := by
      have a1 : (nm t.c us * t.N + nm t.c vs) / t.N = nm t.c us := by rw [Nat.mul_comm, Nat.mul_add_div hK, Nat.div_eq_of_lt l2, Nat.add_zero]
      have a2 : (nm t.c xs * t.N + nm t.c ys) / t.N = nm t.c xs := by rw [Nat.mul_comm, Nat.mul_add_div hK, Nat.div_eq_of_lt l1, Nat.add_zero]
      rw [← a1, e, a2]
    have f2 : nm t.c vs = nm t.c ys := by rw [f1] at e; omega
    have g1 := nm_inj k1 h1 f1
    have g2 := nm_inj k2 h2 f2
    subst g1 g2
    refine ⟨true, .int .i64 n, .int .i64 d, ?_, ?_, ?_, fun _ => ⟨n, d, P, rfl, rfl, hw, hp⟩⟩
    · rw [Array.getElem?_setIfInBounds_self, if_pos (Array.getElem?_eq_some_iff.1 e1).1]
    · rw [Array.getElem?_setIfInBounds_ne (by omega), Array.getElem?_setIfInBounds_self, if_pos (Array.getElem?_eq_some_iff.1 e2).1]
    · rw [Array.getElem?_setIfInBounds_self, if_pos (by rw [Array.size_setIfInBounds]; exact (Array.getElem?_eq_some_iff.1 e3).1)]
  · refine ⟨b, u, v, ?_, ?_, ?_, e4⟩
    · rw [Array.getElem?_setIfInBounds_ne (Ne.symm e)]; exact e1
    · rw [Array.getElem?_setIfInBounds_ne (by omega), Array.getElem?_setIfInBounds_ne (by omega)]; exact e2
    · rw [Array.getElem?_setIfInBounds_ne (by omega), Array.getElem?_setIfInBounds_ne (by omega)]; exact e3
def WmOk (t : Tm) (n : Int) : Prop := ∀ (xs ys : List Int) (a1 a2 : Option Addr) (n1 n2 c1 c2 : Nat) (w : World), TmI t w → t.In xs → t.In ys → xs.length = n1 → ys.length = n2 → n1 ≤ c1 → n2 ≤ c2 → RF t w a1 xs → RF t w a2 ys → pwT xs + pwT ys < n →
  Calls Tryz.prog 54 #[.pointer (some ⟨t.g, 0, none⟩), .slice a1 n1 c1, .slice a2 n2 c2] w (EGot t (wc t.S xs ys) w)
set_option maxRecDepth 8000 in
set_option maxHeartbeats 2000000 in
theorem l12After_any (t : Tm) (hS : 1 ≤ t.S ∧ t.S ≤ 6) (n : Int) (IH : WmOk t n) (zs ys : List Int) (a1 a2 : Option Addr) (n1 n2 c1 c2 : Nat) (w : World) (hI : TmI t w) (hz : t.In zs) (hy : t.In ys) (hn1 : zs.length = n1) (hn2 : ys.length = n2) (hc1 : n1 ≤ c1) (hc2 : n2 ≤ c2) (hr1 : RF t w a1 zs) (hr2 : RF t w a2 ys) (hlt : pwT ys + pwT zs < n) (hy0 : ys.sum ≠ 0) :
    Calls Tryz.prog 72 #[.pointer (some ⟨t.g, 0, none⟩), .slice a1 n1 c1, .slice a2 n2 c2] w (EGot t ((wc t.S ys zs).map fun x => tp t.S - x) w) := by
  have htp := tp_in hS
  have hin : ∀ x, wc t.S ys zs = some x → 0 ≤ x ∧ x ≤ tp t.S := fun x h => by
    have hz' : Ps t.p t.c t.h (t.S : Int) zs := hz
    have hy' : Ps t.p t.c t.h (t.S : Int) ys := hy
    obtain ⟨q1, q2, q3, -⟩ := hy'.po
    exact wc_in hS q2 q3 q1 hz'.po.1 h
  have hz0 : zs.sum = 0 → wc t.S ys zs = some 0 := wc_other hy0
  have hsum := fun W (r : IRow W a1 zs) => by
    have hz' : Ps t.p t.c t.h (t.S : Int) zs := hz
    obtain ⟨u1, v1, v2, v3, -⟩ := hz'.po
    exact l10Sum_any a1 n1 c1 zs W hn1 (by omega) (fun x hx => by have := u1.all x hx; omega) r
  have HSU := Lib.hid hsum
  have HR1 := Lib.hid hr1
  have HR2 := Lib.hid hr2
  have hl := hI.lts
  obtain ⟨z6, hz6e⟩ : ∃ z, w.heap.size = z := ⟨_, rfl⟩
  have hz6 : w.heap.size ≤ z6 := by omega
  have hz6k : t.g < z6 ∧ t.gk < z6 ∧ t.gv < z6 := by omega
  have BO := Blk.new w #[.int .i64 0, .int .i64 0] 30
  have hal : Below w.heap.size w (w.alloc (.cells #[.int .i64 0, .int .i64 0] 30)) := (Below.refl _ _).alloc (Nat.le_refl _) _
  have hg : Gr t.gk t.gv w (w.alloc (.cells #[.int .i64 0, .int .i64 0] 30)) := Gr.of hal
  replace hI := hI.below hal
  have hs1 : (w.alloc (.cells #[.int .i64 0, .int .i64 0] 30)).heap.size = z6 + 1 := by simp; omega
  clear hsum hr1 hr2 hal
  rw [hz6e] at BO
  go_enter Tryz.func72, Tryz.ntmps72
  go_wp2_with fail
  (try rw [hz6e])
  generalize (w.alloc (.cells #[.int .i64 0, .int .i64 0] 30)) = w1 at *
  clear hz6e
  have r1 := HR1.out.gr hg
  have r2 := HR2.out.gr hg
  refine (IH ys zs a2 a1 n2 n1 c2 c1 w1 hI hy hz hn2 hn1 hc2 hc1 r2 r1 hlt).mono ?_
  rintro e w2 ⟨n0, d0, b0, rfl, hx, hI2, hg2⟩
  have hs2 := hg2.size
  replace BO := BO.gr hg2 (by omega) (by omega)
  replace hg := hg.trans hg2
  replace hI := hI2
  clear hI2 hg2 r1 r2 IH
  have hal : Below w2.heap.size w2 (w2.alloc (.cells #[.int .i64 n0, .int .i64 d0] 30)) := (Below.refl _ _).alloc (Nat.le_refl _) _
  have BX := Blk.new w2 #[.int .i64 n0, .int .i64 d0] 30
  replace BO := BO.below hal
  replace hI := hI.below hal
  replace hg := hg.then hal
  obtain ⟨z8, hz8e⟩ : ∃ z, w2.heap.size = z := ⟨_, rfl⟩
  rw [hz8e] at BX
  have hs3 := hal.size
  clear hal
  go_wp2_with fail
  (try rw [hz8e])
  generalize (w2.alloc (.cells #[.int .i64 n0, .int .i64 d0] 30)) = w3 at *
  refine (HSU.out _ (HR1.out.gr hg).irow).mono ?_
  rintro e w4 ⟨rfl, rfl⟩
  rename World => w4
  by_cases k0 : zs.sum = 0
  · have hw := hz0 k0
    rw [k0]
    obtain ⟨z0, z1, zf, zl⟩ := BO.two
    go_wp2_with fail
    refine (l11One_any _).mono ?_
    rintro e w5 ⟨rfl, hb5⟩
    clear z0 z1 zf zl
    replace BO := BO.below hb5
    replace hI := hI.below hb5
    replace hg := hg.then hb5
    obtain ⟨z0, z1, zf, zl⟩ := BO.two
    go_wp2_with fail
    have BRn := BO.set2 (.int .i64 1) (.int .i64 0)
    obtain ⟨u0, u1, uf, ul⟩ := BRn.two
    refine bodyPost_ret (v := .tuple #[.agg #[.int .i64 1, .int .i64 0], .bool true]) (by simp [results, Tryz.results72, go_sem, u0, u1]) rfl ?_
    exact ⟨1, 0, true, rfl, by rw [hw]; exact ⟨rfl, by show IsP t.S 1 0 (tp t.S - 0); rw [Int.sub_zero]; exact isP_one hS⟩, (hI.other (by omega) (by omega) (by omega)).other (by omega) (by omega) (by omega), (hg.set hz6).set hz6⟩
  · have f0 : (zs.sum == 0) = false := by rw [beq_eq_false_iff_ne]; exact k0
    cases hw : wc t.S ys zs with
    | none =>
      rw [hw] at hx
      obtain rfl : b0 = false := hx
      obtain ⟨z0, z1, zf, zl⟩ := BO.two
      go_wp2_with fail
      have BRn := BO.set2 (.int .i64 0) (.int .i64 0)
      obtain ⟨u0, u1, uf, ul⟩ := BRn.two
      refine bodyPost_ret (v := .tuple #[.agg #[.int .i64 0, .int .i64 0], .bool false]) (by simp [results, Tryz.results72, go_sem, u0, u1]) rfl ?_
      exact ⟨0, 0, false, rfl, by rw [hw]; exact rfl, (hI.other (by omega) (by omega) (by omega)).other (by omega) (by omega) (by omega), (hg.set hz6).set hz6⟩
    | some Q =>
      rw [hw] at hx
      obtain ⟨rfl, hQ⟩ := hx
      have HM := Lib.hid (fun W => l12Minus_any t.p t.c t.h t.S hS n0 d0 Q hQ (hin Q hw) W)
      go_wp2_with fail
      replace hI := hI.drew
      replace BX := BX.drew
      replace BO := BO.drew
      replace hg := hg.drew
      refine wp_region_held_drew (S := fun w' => w'.cell? ⟨t.g, 0, none⟩ = some (.int .i64 t.p) ∧ w'.cell? ⟨t.g, 1, none⟩ = some (.int .i64 t.c) ∧ w'.cell? ⟨t.g, 2, none⟩ = some (.int .i64 t.h) ∧ w'.cell? ⟨t.g, 3, none⟩ = some (.int .i64 (t.S : Int)) ∧ w'.cell? ⟨z8, 0, none⟩ = some (.int .i64 n0) ∧ w'.cell? ⟨z8, 1, none⟩ = some (.int .i64 d0)) (by kernel_rfl) ⟨hI.st.seven.1, hI.st.seven.2.1, hI.st.seven.2.2.1, hI.st.seven.2.2.2.1, BX.two.1, BX.two.2.1⟩ (fun hHeld => ?_)
      clear hHeld
      have hz_vd : w4.drew.heap.size = w4.heap.size := rfl
      generalize w4.drew = vd at *
      have hHeld : vd.cell? ⟨t.g, 0, none⟩ = some (.int .i64 t.p) ∧ vd.cell? ⟨t.g, 1, none⟩ = some (.int .i64 t.c) ∧ vd.cell? ⟨t.g, 2, none⟩ = some (.int .i64 t.h) ∧ vd.cell? ⟨t.g, 3, none⟩ = some (.int .i64 (t.S : Int)) ∧ vd.cell? ⟨z8, 0, none⟩ = some (.int .i64 n0) ∧ vd.cell? ⟨z8, 1, none⟩ = some (.int .i64 d0) := ⟨hI.st.seven.1, hI.st.seven.2.1, hI.st.seven.2.2.1, hI.st.seven.2.2.2.1, BX.two.1, BX.two.2.1⟩
      refine wpAnyH_take (i := 0) (oi := ⟨some 24, _, _, _, _, _⟩) (v := ?_) rfl (by kernel_rfl) (by kernel_rfl) (by kernel_rfl) (fun _ _ _ h => h) (Or.inl ⟨by rfl, ?_⟩) (by assumption) ?_
      rotate_left
      · intro w hSw; (try dsimp only at hSw); go_simp; (try (with_reducible rfl))
      try simp only [Act.put, List.setIfInBounds_toArray, List.set_cons_zero, List.set_cons_succ]
      refine wpAnyH_take (i := 1) (oi := ⟨some 25, _, _, _, _, _⟩) (v := ?_) rfl (by kernel_rfl) (by kernel_rfl) (by kernel_rfl) (fun _ _ _ h => h) (Or.inl ⟨by rfl, ?_⟩) (by assumption) ?_
      rotate_left
      · intro w hSw; (try dsimp only at hSw); go_simp; (try (with_reducible rfl))
      try simp only [Act.put, List.setIfInBounds_toArray, List.set_cons_zero, List.set_cons_succ]
      refine wpAnyH_take (i := 2) (oi := ⟨some 26, _, _, _, _, _⟩) (v := ?_) rfl (by kernel_rfl) (by kernel_rfl) (by kernel_rfl) (fun _ _ _ h => h) (Or.inl ⟨by rfl, ?_⟩) (by assumption) ?_
      rotate_left
      · intro w hSw; (try dsimp only at hSw); go_simp; (try (with_reducible rfl))
      try simp only [Act.put, List.setIfInBounds_toArray, List.set_cons_zero, List.set_cons_succ]
      refine wpAnyH_take (i := 3) (oi := ⟨some 27, _, _, _, _, _⟩) (v := ?_) rfl (by kernel_rfl) (by kernel_rfl) (by kernel_rfl) (fun _ _ _ h => h) (Or.inl ⟨by rfl, ?_⟩) (by assumption) ?_
      rotate_left
      · intro w hSw; (try dsimp only at hSw); go_simp; (try (with_reducible rfl))
      try simp only [Act.put, List.setIfInBounds_toArray, List.set_cons_zero, List.set_cons_succ]
      refine wpAnyH_take (i := 4) (oi := ⟨some 28, _, _, _, _, _⟩) (v := ?_) rfl (by kernel_rfl) (by kernel_rfl) (by kernel_rfl) (fun _ _ _ h => h) (Or.inl ⟨by rfl, ?_⟩) (by assumption) ?_
      rotate_left
      · intro w hSw; (try dsimp only at hSw); go_simp; (try (with_reducible rfl))
      try simp only [Act.put, List.setIfInBounds_toArray, List.set_cons_zero, List.set_cons_succ]
      refine wpAnyH_ready (rs := [5]) (by kernel_rfl) (by simp) ?_
      refine AllReadyH.cons (o := ⟨some 29, _, _, _, _, _⟩) rfl (fun K hK => ?_) AllReadyH.nil
      go_simp
      refine (HM.out _).mono ?_
      rintro e w5 ⟨m, f, rfl, hmf, hb5⟩
      replace hI := hI.below hb5
      replace BX := BX.below hb5
      replace BO := BO.below hb5
      replace hg := hg.then hb5
      clear hb5
      (try go_wp2_with fail)
      refine hK.out _ _ ⟨hI.st.seven.1, hI.st.seven.2.1, hI.st.seven.2.2.1, hI.st.seven.2.2.2.1, BX.two.1, BX.two.2.1⟩ (fun hHeld => ?_)
      clear hK K
      try simp only [Act.put, List.setIfInBounds_toArray, List.set_cons_zero, List.set_cons_succ]
      refine wpAnyH_take (i := 6) (oi := ⟨some 30, _, _, _, _, _⟩) (v := ?_) rfl (by kernel_rfl) (by kernel_rfl) (by kernel_rfl) (fun _ _ _ h => h) (Or.inl ⟨by rfl, ?_⟩) (by assumption) ?_
      rotate_left
      · intro w hSw; (try dsimp only at hSw); go_simp; (try (with_reducible rfl))
      try simp only [Act.put, List.setIfInBounds_toArray, List.set_cons_zero, List.set_cons_succ]
      refine wpAnyH_take (i := 7) (oi := ⟨some 31, _, _, _, _, _⟩) (v := ?_) rfl (by kernel_rfl) (by kernel_rfl) (by kernel_rfl) (fun _ _ _ h => h) (Or.inl ⟨by rfl, ?_⟩) (by assumption) ?_
      rotate_left
      · intro w hSw; (try dsimp only at hSw); go_simp; (try (with_reducible rfl))
      try simp only [Act.put, List.setIfInBounds_toArray, List.set_cons_zero, List.set_cons_succ]
      refine wpAnyH_ready (rs := [8]) (by kernel_rfl) (by simp) ?_
      refine AllReadyH.cons (o := ⟨none, _, _, _, _, _⟩) rfl (fun K hK => ?_) AllReadyH.nil
      have u0 := BO.two.1
      have u1 := BO.two.2.1
      have uf := BO.two.2.2.1
      have ul := BO.two.2.2.2
      have BT2 : Blk _ t.g t.cells 135 := (hI.st.far2 (B := z6) (by omega) (.int .i64 m) (.int .i64 f))
      go_simp
      (try go_wp2_with fail)
      refine hK.out _ _ ⟨BT2.seven.1, BT2.seven.2.1, BT2.seven.2.2.1, BT2.seven.2.2.2.1, (BX.far2 (B := z6) (by omega) (.int .i64 m) (.int .i64 f)).two.1, (BX.far2 (B := z6) (by omega) (.int .i64 m) (.int .i64 f)).two.2.1⟩ (fun hHeld => ?_)
      clear hK K
      try simp only [Act.put, List.setIfInBounds_toArray, List.set_cons_zero, List.set_cons_succ]
      refine wpAnyH_take (i := 9) (oi := ⟨some 7, _, _, _, _, _⟩) (v := ?_) rfl (by kernel_rfl) (by kernel_rfl) (by kernel_rfl) (fun _ _ _ h => h) (Or.inl ⟨by rfl, ?_⟩) (by assumption) ?_
      rotate_left
      · intro w hSw; (try dsimp only at hSw); go_simp; (try (with_reducible rfl))
      try simp only [Act.put, List.setIfInBounds_toArray, List.set_cons_zero, List.set_cons_succ]
      refine wpAnyH_done (by kernel_rfl) ?_ _
      clear hHeld
      go_wp2_with fail
      have BRn := BO.set2 (.int .i64 m) (.int .i64 f)
      obtain ⟨u0, u1, uf, ul⟩ := BRn.two
      refine bodyPost_ret (v := .tuple #[.agg #[.int .i64 m, .int .i64 f], .bool true]) (by simp [results, Tryz.results72, go_sem, u0, u1]) rfl ?_
      exact ⟨m, f, true, rfl, by rw [hw]; exact ⟨rfl, hmf⟩, (hI.other (by omega) (by omega) (by omega)).other (by omega) (by omega) (by omega), (hg.set hz6).set hz6⟩
end Go.Proofs.YtfomfbfcnenhbaaGreat
