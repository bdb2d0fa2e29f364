/- Texts of a proof, laid together. -/
import Derived.Test.YtnlclmlnpkncoaaGreatW31
import Derived.Test.YtnlclmlnpkncoaaGreatW16
import Derived.Test.YtnlclmlnpkncoaaGreatW18
namespace Go.Proofs.YtnlclmlnpkncoaaGreat
open Go.ChangeShapes Go.WideShapes Go.ChangeAt Go.RowKit
set_option linter.unusedVariables false
set_option linter.unusedSimpArgs false
set_option maxRecDepth 4000
theorem Blk.seven {w : World} {g : Nat} {v0 v1 v2 v3 v4 v5 v6 : Value} {t : TypeId} (h : Blk w g #[v0, v1, v2, v3, v4, v5, v6] t) :
    w.cell? ⟨g, 0, none⟩ = some v0 ∧ w.cell? ⟨g, 1, none⟩ = some v1 ∧ w.cell? ⟨g, 2, none⟩ = some v2 ∧ w.cell? ⟨g, 3, none⟩ = some v3 ∧ w.cell? ⟨g, 4, none⟩ = some v4 ∧ w.cell? ⟨g, 5, none⟩ = some v5 ∧ w.cell? ⟨g, 6, none⟩ = some v6 ∧ (∀ i, w.frozen? ⟨g, i, none⟩ = false) ∧ g < w.heap.size :=
  ⟨by rw [h.cell 0]; rfl, by rw [h.cell 1]; rfl, by rw [h.cell 2]; rfl, by rw [h.cell 3]; rfl, by rw [h.cell 4]; rfl, by rw [h.cell 5]; rfl, by rw [h.cell 6]; rfl, fun i => h.free i, h.lt⟩
structure Tm where
  (p c h : Int) (S g N gk gv : Nat)
abbrev Tm.cells (t : Tm) : Array Value := #[.int .i64 t.p, .int .i64 t.c, .int .i64 t.h, .int .i64 (t.S : Int), .int .i64 (t.N : Int), .slice (some ⟨t.gk, 0, none⟩) (t.N * t.N) (t.N * t.N), .slice (some ⟨t.gv, 0, none⟩) (t.N * t.N) (t.N * t.N)]
def Tm.In (t : Tm) (xs : List Int) : Prop := Ps t.p t.c t.h (t.S : Int) xs
def EnC (t : Tm) (ck cv : Array Value) (xs ys : List Int) : Prop :=
  ∃ b u v, ck[nm t.c xs * t.N + nm t.c ys]? = some (.bool b) ∧ cv[(nm t.c xs * t.N + nm t.c ys) * 2]? = some u ∧ cv[(nm t.c xs * t.N + nm t.c ys) * 2 + 1]? = some v ∧
    (b = true → ∃ n d P, u = .int .i64 n ∧ v = .int .i64 d ∧ wc t.S xs ys = some P ∧ IsP t.S n d P)
structure TmI (t : Tm) (w : World) : Prop where
  st : Blk w t.g t.cells 113
  num : t.N = cnt t.h.toNat t.c.toNat ∧ 1 ≤ t.N ∧ t.N ≤ 500
  kn : ∃ ck cv, Blk w t.gk ck 4 ∧ Blk w t.gv cv 35 ∧ ∀ xs ys, t.In xs → t.In ys → EnC t ck cv xs ys
theorem TmI.below {t : Tm} {w w' : World} (h : TmI t w) (hb : Below w.heap.size w w') : TmI t w' := by
  obtain ⟨s, n, ck, cv, b1, b2, r⟩ := h
  exact ⟨s.below hb, n, ck, cv, b1.below hb, b2.below hb, r⟩
theorem TmI.drew {t : Tm} {w : World} (h : TmI t w) : TmI t w.drew := h.below (Below.refl _ _).drew
theorem TmI.lts {t : Tm} {w : World} (h : TmI t w) : t.g < w.heap.size ∧ t.gk < w.heap.size ∧ t.gv < w.heap.size := by
  obtain ⟨s, n, ck, cv, b1, b2, r⟩ := h
  exact ⟨s.lt, b1.lt, b2.lt⟩
theorem TmI.other {t : Tm} {w : World} {z o : Nat} {u : Value} (h : TmI t w) (n1 : t.g ≠ z) (n2 : t.gk ≠ z) (n3 : t.gv ≠ z) : TmI t (w.setCell ⟨z, o, none⟩ u) := by
  obtain ⟨s, n, ck, cv, b1, b2, r⟩ := h
  exact ⟨s.other n1, n, ck, cv, b1.other n2, b2.other n3, r⟩
theorem TmI.gr {t : Tm} {w w' : World} {g : Nat} {vs : Array Value} {y : TypeId} (h : TmI t w) (hB : Blk w g vs y) (hg : Gr t.gk t.gv w w') (n1 : y ≠ 4) (n2 : y ≠ 35) : Blk w' g vs y := by
  obtain ⟨s, n, ck, cv, b1, b2, r⟩ := h
  exact hB.gr hg (hB.ne b1 n1) (hB.ne b2 n2)
theorem Gr.set {gR gC : Nat} {w w' : World} {z o : Nat} {u : Value} (h : Gr gR gC w w') (hz : w.heap.size ≤ z) : Gr gR gC w (w'.setCell ⟨z, o, none⟩ u) :=
  ⟨h.os, h.tape, h.output, by simpa using h.size, fun k hk n1 n2 => (Below.heap_setCell w' ⟨z, o, none⟩ u k (by show k ≠ z; omega)).trans (h.block k hk n1 n2)⟩
theorem Gr.cell {gR gC : Nat} {w w' : World} (h : Gr gR gC w w') {b o : Nat} {v : Value} (hc : w.cell? ⟨b, o, none⟩ = some v) (n1 : b ≠ gR) (n2 : b ≠ gC) : w'.cell? ⟨b, o, none⟩ = some v := by
  have hlt := World.block_lt_of_cell? w _ hc
  have hk := h.block b hlt n1 n2
  rw [← hc]
  simp only [World.cell?, hk]
def RF (t : Tm) (w : World) (a : Option Addr) (xs : List Int) : Prop :=
  ∀ i, i < xs.length → ∃ b o, a = some ⟨b, o, none⟩ ∧ b ≠ t.gk ∧ b ≠ t.gv ∧ w.cell? ⟨b, o + i, none⟩ = some (.int .i64 (xs.getD i 0))
theorem RF.irow {t : Tm} {w : World} {a : Option Addr} {xs : List Int} (h : RF t w a xs) : IRow w a xs := fun i hi => by
  obtain ⟨b, o, e, _, _, hc⟩ := h i hi
  exact ⟨b, o, e, hc⟩
theorem RF.gr {t : Tm} {w w' : World} {a : Option Addr} {xs : List Int} (h : RF t w a xs) (hg : Gr t.gk t.gv w w') : RF t w' a xs := fun i hi => by
  obtain ⟨b, o, e, n1, n2, hc⟩ := h i hi
  exact ⟨b, o, e, n1, n2, hg.cell hc n1 n2⟩
theorem RF.of {t : Tm} {w : World} {a : Option Addr} {xs : List Int} {m : Nat} (h : IRow w a xs) (hm : w.heap.size ≤ m) (n1 : m ≤ t.gk) (n2 : m ≤ t.gv) : RF t w a xs := fun i hi => by
  obtain ⟨b, o, e, hc⟩ := h i hi
  have := World.block_lt_of_cell? w _ hc
  dsimp only at this
  exact ⟨b, o, e, by omega, by omega, hc⟩
theorem RF.row {t : Tm} {w : World} {g : Nat} {xs : List Int} (hI : TmI t w) (h : Row w g xs) : RF t w (some ⟨g, 0, none⟩) xs := fun i hi => by
  have hc := h.cell i hi
  obtain ⟨cur, hB, _⟩ := h
  obtain ⟨s, n, ck, cv, b1, b2, r⟩ := hI
  exact ⟨g, 0, rfl, hB.ne b1 (by decide), hB.ne b2 (by decide), by rw [Nat.zero_add]; exact hc⟩
def XV (S : Nat) (o : Option Int) (n d : Int) (b : Bool) : Prop := match o with
  | some P => b = true ∧ IsP S n d P
  | none => b = false
def EGot (t : Tm) (o : Option Int) (w : World) (e : Ending) (w' : World) : Prop := ∃ n d b, e = .returned (.tuple #[.agg #[.int .i64 n, .int .i64 d], .bool b]) ∧ XV t.S o n d b ∧ TmI t w' ∧ Gr t.gk t.gv w w'
theorem TmI.put {t : Tm} {w w' : World} {ck cv : Array Value} {xs ys : List Int} {n d P : Int} (h1 : t.In xs) (h2 : t.In ys) (hn : t.N = cnt t.h.toNat t.c.toNat ∧ 1 ≤ t.N ∧ t.N ≤ 500) (r : ∀ us vs, t.In us → t.In vs → EnC t ck cv us vs) (hw : wc t.S xs ys = some P) (hp : IsP t.S n d P)
    (b0 : Blk w' t.g t.cells 113) (b1 : Blk w' t.gk (ck.setIfInBounds (nm t.c xs * t.N + nm t.c ys) (.bool true)) 4) (b2 : Blk w' t.gv ((cv.setIfInBounds ((nm t.c xs * t.N + nm t.c ys) * 2) (.int .i64 n)).setIfInBounds ((nm t.c xs * t.N + nm t.c ys) * 2 + 1) (.int .i64 d)) 35) : TmI t w' := by
  refine ⟨b0, hn, _, _, b1, b2, fun us vs k1 k2 => ?_⟩
  obtain ⟨b, u, v, e1, e2, e3, e4⟩ := r us vs k1 k2
  have l1 : nm t.c ys < t.N := by rw [hn.1]; exact nm_lt h2
  have l2 : nm t.c vs < t.N := by rw [hn.1]; exact nm_lt k2
  by_cases e : nm t.c us * t.N + nm t.c vs = nm t.c xs * t.N + nm t.c ys
  · have hK : 0 < t.N := by omega
    have f1 : nm t.c us = nm t.c xs := by
      have a1 : (nm t.c us * t.N + nm t.c vs) / t.N = nm t.c us := by rw [Nat.mul_comm, Nat.mul_add_div hK, Nat.div_eq_of_lt l2, Nat.add_zero]
      have a2 : (nm t.c xs * t.N + nm t.c ys) / t.N = nm t.c xs := by rw [Nat.mul_comm, Nat.mul_add_div hK, Nat.div_eq_of_lt l1, Nat.add_zero]
      rw [← a1, e, a2]
    have f2 : nm t.c vs = nm t.c ys := by rw [f1] at e; omega
    have g1 := nm_inj k1 h1 f1
    have g2 := nm_inj k2 h2 f2
    subst g1 g2
    refine ⟨true, .int .i64 n, .int .i64 d, ?_, ?_, ?_, fun _ => ⟨n, d, P, rfl, rfl, hw, hp⟩⟩
    · rw [Array.getElem?_setIfInBounds_self, if_pos (Array.getElem?_eq_some_iff.1 e1).1]
    · rw [Array.getElem?_setIfInBounds_ne (by omega), Array.getElem?_setIfInBounds_self, if_pos (Array.getElem?_eq_some_iff.1 e2).1]
    · rw [Array.getElem?_setIfInBounds_self, if_pos (by rw [Array.size_setIfInBounds]; exact (Array.getElem?_eq_some_iff.1 e3).1)]
  · refine ⟨b, u, v, ?_, ?_, ?_, e4⟩
    · rw [Array.getElem?_setIfInBounds_ne (Ne.symm e)]; exact e1
    · rw [Array.getElem?_setIfInBounds_ne (by omega), Array.getElem?_setIfInBounds_ne (by omega)]; exact e2
    · rw [Array.getElem?_setIfInBounds_ne (by omega), Array.getElem?_setIfInBounds_ne (by omega)]; exact e3
def WmOk (t : Tm) (n : Int) : Prop := ∀ (xs ys : List Int) (a1 a2 : Option Addr) (n1 n2 c1 c2 : Nat) (w : World), TmI t w → t.In xs → t.In ys → xs.length = n1 → ys.length = n2 → n1 ≤ c1 → n2 ≤ c2 → RF t w a1 xs → RF t w a2 ys → pwT xs + pwT ys < n →
  Calls Tryz.prog 114 #[.pointer (some ⟨t.g, 0, none⟩), .slice a1 n1 c1, .slice a2 n2 c2] w (EGot t (wc t.S xs ys) w)
set_option maxRecDepth 8000 in
set_option maxHeartbeats 2000000 in
theorem l12After_any (t : Tm) (hS : 1 ≤ t.S ∧ t.S ≤ 6) (n : Int) (IH : WmOk t n) (zs ys : List Int) (a1 a2 : Option Addr) (n1 n2 c1 c2 : Nat) (w : World) (hI : TmI t w) (hz : t.In zs) (hy : t.In ys) (hn1 : zs.length = n1) (hn2 : ys.length = n2) (hc1 : n1 ≤ c1) (hc2 : n2 ≤ c2) (hr1 : RF t w a1 zs) (hr2 : RF t w a2 ys) (hlt : pwT ys + pwT zs < n) (hy0 : ys.sum ≠ 0) :
    Calls Tryz.prog 83 #[.pointer (some ⟨t.g, 0, none⟩), .slice a1 n1 c1, .slice a2 n2 c2] w (EGot t ((wc t.S ys zs).map fun x => tp t.S - x) w) := by
  have htp := tp_in hS
  have hin : ∀ x, wc t.S ys zs = some x → 0 ≤ x ∧ x ≤ tp t.S := fun x h => by
    have hz' : Ps t.p t.c t.h (t.S : Int) zs := hz
    have hy' : Ps t.p t.c t.h (t.S : Int) ys := hy
    obtain ⟨q1, q2, q3, -⟩ := hy'.po
    exact wc_in hS q2 q3 q1 hz'.po.1 h
  have hz0 : zs.sum = 0 → wc t.S ys zs = some 0 := wc_other hy0
  have hsum := fun W (r : IRow W a1 zs) => by
    have hz' : Ps t.p t.c t.h (t.S : Int) zs := hz
    obtain ⟨u1, v1, v2, v3, -⟩ := hz'.po
    exact l10Sum_any a1 n1 c1 zs W hn1 (by omega) (fun x hx => by have := u1.all x hx; omega) r
  have HSU := Lib.hid hsum
  have HR1 := Lib.hid hr1
  have HR2 := Lib.hid hr2
  have hl := hI.lts
  obtain ⟨z6, hz6e⟩ : ∃ z, w.heap.size = z := ⟨_, rfl⟩
  have hz6 : w.heap.size ≤ z6 := by omega
  have hz6k : t.g < z6 ∧ t.gk < z6 ∧ t.gv < z6 := by omega
  have BO := Blk.new w #[.int .i64 0, .int .i64 0] 35
  have hal : Below w.heap.size w (w.alloc (.cells #[.int .i64 0, .int .i64 0] 35)) := (Below.refl _ _).alloc (Nat.le_refl _) _
  have hg : Gr t.gk t.gv w (w.alloc (.cells #[.int .i64 0, .int .i64 0] 35)) := Gr.of hal
  replace hI := hI.below hal
  have hs1 : (w.alloc (.cells #[.int .i64 0, .int .i64 0] 35)).heap.size = z6 + 1 := by simp; omega
  clear hsum hr1 hr2 hal
  rw [hz6e] at BO
  go_enter Tryz.func83, Tryz.ntmps83
  go_wp2_with fail
  (try rw [hz6e])
  generalize (w.alloc (.cells #[.int .i64 0, .int .i64 0] 35)) = w1 at *
  clear hz6e
  have r1 := HR1.out.gr hg
  have r2 := HR2.out.gr hg
  refine (IH ys zs a2 a1 n2 n1 c2 c1 w1 hI hy hz hn2 hn1 hc2 hc1 r2 r1 hlt).mono ?_
  rintro e w2 ⟨n0, d0, b0, rfl, hx, hI2, hg2⟩
  have hs2 := hg2.size
  replace BO := BO.gr hg2 (by omega) (by omega)
  replace hg := hg.trans hg2
  replace hI := hI2
  clear hI2 hg2 r1 r2 IH
  have hal : Below w2.heap.size w2 (w2.alloc (.cells #[.int .i64 n0, .int .i64 d0] 35)) := (Below.refl _ _).alloc (Nat.le_refl _) _
  have BX := Blk.new w2 #[.int .i64 n0, .int .i64 d0] 35
  replace BO := BO.below hal
  replace hI := hI.below hal
  replace hg := hg.then hal
  obtain ⟨z8, hz8e⟩ : ∃ z, w2.heap.size = z := ⟨_, rfl⟩
  rw [hz8e] at BX
  have hs3 := hal.size
  clear hal
  go_wp2_with fail
  (try rw [hz8e])
  generalize (w2.alloc (.cells #[.int .i64 n0, .int .i64 d0] 35)) = w3 at *
  refine (HSU.out _ (HR1.out.gr hg).irow).mono ?_
  rintro e w4 ⟨rfl, rfl⟩
  rename World => w4
  by_cases k0 : zs.sum = 0
  · have hw := hz0 k0
    rw [k0]
    obtain ⟨z0, z1, zf, zl⟩ := BO.two
    go_wp2_with fail
    refine (l11One_any _).mono ?_
    rintro e w5 ⟨rfl, hb5⟩
    clear z0 z1 zf zl
    replace BO := BO.below hb5
    replace hI := hI.below hb5
    replace hg := hg.then hb5
    obtain ⟨z0, z1, zf, zl⟩ := BO.two
    go_wp2_with fail
    have BRn := BO.set2 (.int .i64 1) (.int .i64 0)
    obtain ⟨u0, u1, uf, ul⟩ := BRn.two
    refine bodyPost_ret (v := .tuple #[.agg #[.int .i64 1, .int .i64 0], .bool true]) (by simp [results, Tryz.results83, go_sem, u0, u1]) rfl ?_
    exact ⟨1, 0, true, rfl, by rw [hw]; exact ⟨rfl, by show IsP t.S 1 0 (tp t.S - 0); rw [Int.sub_zero]; exact isP_one hS⟩, (hI.other (by omega) (by omega) (by omega)).other (by omega) (by omega) (by omega), (hg.set hz6).set hz6⟩
  · have f0 : (zs.sum == 0) = false := by rw [beq_eq_false_iff_ne]; exact k0
    cases hw : wc t.S ys zs with
    | none =>
      rw [hw] at hx
      obtain rfl : b0 = false := hx
      obtain ⟨z0, z1, zf, zl⟩ := BO.two
      go_wp2_with fail
      have BRn := BO.set2 (.int .i64 0) (.int .i64 0)
      obtain ⟨u0, u1, uf, ul⟩ := BRn.two
      refine bodyPost_ret (v := .tuple #[.agg #[.int .i64 0, .int .i64 0], .bool false]) (by simp [results, Tryz.results83, go_sem, u0, u1]) rfl ?_
      exact ⟨0, 0, false, rfl, by rw [hw]; exact rfl, (hI.other (by omega) (by omega) (by omega)).other (by omega) (by omega) (by omega), (hg.set hz6).set hz6⟩
    | some Q =>
      rw [hw] at hx
      obtain ⟨rfl, hQ⟩ := hx
      have HM := Lib.hid (fun W => l12Minus_any t.p t.c t.h t.S hS n0 d0 Q hQ (hin Q hw) W)
      go_wp2_with fail
      replace hI := hI.drew
      replace BX := BX.drew
      replace BO := BO.drew
      replace hg := hg.drew
      refine wp_region_held_drew (S := fun w' => w'.cell? ⟨t.g, 0, none⟩ = some (.int .i64 t.p) ∧ w'.cell? ⟨t.g, 1, none⟩ = some (.int .i64 t.c) ∧ w'.cell? ⟨t.g, 2, none⟩ = some (.int .i64 t.h) ∧ w'.cell? ⟨t.g, 3, none⟩ = some (.int .i64 (t.S : Int)) ∧ w'.cell? ⟨z8, 0, none⟩ = some (.int .i64 n0) ∧ w'.cell? ⟨z8, 1, none⟩ = some (.int .i64 d0)) (by kernel_rfl) ⟨hI.st.seven.1, hI.st.seven.2.1, hI.st.seven.2.2.1, hI.st.seven.2.2.2.1, BX.two.1, BX.two.2.1⟩ (fun hHeld => ?_)
      clear hHeld
      have hz_vd : w4.drew.heap.size = w4.heap.size := rfl
      generalize w4.drew = vd at *
      have hHeld : vd.cell? ⟨t.g, 0, none⟩ = some (.int .i64 t.p) ∧ vd.cell? ⟨t.g, 1, none⟩ = some (.int .i64 t.c) ∧ vd.cell? ⟨t.g, 2, none⟩ = some (.int .i64 t.h) ∧ vd.cell? ⟨t.g, 3, none⟩ = some (.int .i64 (t.S : Int)) ∧ vd.cell? ⟨z8, 0, none⟩ = some (.int .i64 n0) ∧ vd.cell? ⟨z8, 1, none⟩ = some (.int .i64 d0) := ⟨hI.st.seven.1, hI.st.seven.2.1, hI.st.seven.2.2.1, hI.st.seven.2.2.2.1, BX.two.1, BX.two.2.1⟩
      refine tk 0 24 ?_
      refine tk 1 25 ?_
      refine tk 2 26 ?_
      refine tk 3 27 ?_
      refine tk 4 28 ?_
      refine rdk 5 29 fun K hK => ?_
      go_simp
      refine (HM.out _).mono ?_
      rintro e w5 ⟨m, f, rfl, hmf, hb5⟩
      replace hI := hI.below hb5
      replace BX := BX.below hb5
      replace BO := BO.below hb5
      replace hg := hg.then hb5
      clear hb5
      (try go_wp2_with fail)
      refine hko hK ⟨hI.st.seven.1, hI.st.seven.2.1, hI.st.seven.2.2.1, hI.st.seven.2.2.2.1, (Blk.l2 BX)⟩ fun hHeld => ?_
      clear hK K
      refine tk 6 30 ?_
      refine tk 7 31 ?_
      refine rdn 8 fun K hK => ?_
      have u0 := BO.two.1
      have u1 := BO.two.2.1
      have uf := BO.two.2.2.1
      have ul := BO.two.2.2.2
      have BT2 : Blk _ t.g t.cells 113 := (hI.st.far2 (B := z6) (by omega) (.int .i64 m) (.int .i64 f))
      go_simp
      (try go_wp2_with fail)
      refine hko hK ⟨BT2.seven.1, BT2.seven.2.1, BT2.seven.2.2.1, BT2.seven.2.2.2.1, (Blk.l2 (BX.far2 (B := z6) (by omega) (.int .i64 m) (.int .i64 f)))⟩ fun hHeld => ?_
      clear hK K
      refine tk 9 7 ?_
      refine wpAnyH_done (by kernel_rfl) ?_ _
      clear hHeld
      go_wp2_with fail
      have BRn := BO.set2 (.int .i64 m) (.int .i64 f)
      obtain ⟨u0, u1, uf, ul⟩ := BRn.two
      refine bodyPost_ret (v := .tuple #[.agg #[.int .i64 m, .int .i64 f], .bool true]) (by simp [results, Tryz.results83, go_sem, u0, u1]) rfl ?_
      exact ⟨m, f, true, rfl, by rw [hw]; exact ⟨rfl, hmf⟩, (hI.other (by omega) (by omega) (by omega)).other (by omega) (by omega) (by omega), (hg.set hz6).set hz6⟩
set_option maxHeartbeats 1000000 in
theorem l10Before_any (a b : Option Addr) (n ca cb : Nat) (xs ys : List Int) (w : World) (hx : xs.length = n) (hy : ys.length = n) (hle : n ≤ 1048576) (ra : IRow w a xs) (rb : IRow w b ys) :
    Calls Tryz.prog 113 #[.slice a n ca, .slice b n cb] w fun e w' => e = .returned (.bool (ltP xs ys)) ∧ Below w.heap.size w w' := by
  obtain ⟨R, hR⟩ : ∃ R, ltP xs ys = R := ⟨_, rfl⟩
  rw [hR]
  have h0 : decide (lexC (xs.reverse.drop 0) (ys.reverse.drop 0) < 0) = R := hR
  have HX := Lib.hid hx
  have HY := Lib.hid hy
  have n0 : (n : Int) ≤ 1048576 := by omega
  clear hR hx hy
  go_enter Tryz.func113, Tryz.ntmps113
  go_wp2_with fail
  go_loopg [5] (n + 1) (fun m i wr => ∃ (W : World) (j : Nat), W = wr ∧ j ≤ n ∧ m = n + 1 - j ∧ i = .int .i64 ((n : Int) - 1 - j) ∧ decide (lexC (xs.reverse.drop j) (ys.reverse.drop j) < 0) = R ∧ Below w.heap.size w W)
  case atStart => exact ⟨w, 0, rfl, by omega, by omega, by go_num, h0, Below.refl _ _⟩
  case round =>
    clear h0
    obtain ⟨W, j, hW, hj, hm, rfl, hl, hb⟩ := hrel
    subst hW
    by_cases hlt : j < n
    · obtain ⟨I, hI⟩ : ∃ I, n - 1 - j = I := ⟨_, rfl⟩
      have ei : (n : Int) - 1 - (j : Int) = (I : Int) := by omega
      rw [rev_drop xs j n HX.out hlt, rev_drop ys j n HY.out hlt, lexC_cons, hI] at hl
      obtain ⟨b1, o1, rfl, hc1⟩ := (ra.below hb) I (by have := HX.out; omega)
      obtain ⟨b2, o2, rfl, hc2⟩ := (rb.below hb) I (by have := HY.out; omega)
      obtain ⟨x, hxe⟩ : ∃ x, xs.getD I 0 = x := ⟨_, rfl⟩
      obtain ⟨y, hye⟩ : ∃ y, ys.getD I 0 = y := ⟨_, rfl⟩
      rw [hxe, hye] at hl
      rw [hxe] at hc1
      rw [hye] at hc2
      rw [ei]
      have i0 : (0 : Int) ≤ (I : Int) := by omega
      have i1 : (I : Int) < (n : Int) := by omega
      have HI := Lib.hid ei
      clear hI hxe hye ei hj
      by_cases q : x = y
      · have f0 : (x != y) = false := by rw [q]; simp
        rw [if_neg (by omega), if_neg (by omega)] at hl
        have HL := Lib.hid hl
        clear hl q
        go_wp2_with fail
        go_quiet (fail)
        go_wp2
        go_roundg (n + 1 - (j + 1))
        case measure => omega
        case rel => exact ⟨_, j + 1, rfl, by omega, by omega, by (have := HI.out); go_num, HL.out, below_drewN hb _⟩
      · have f0 : (x != y) = true := by rw [bne_iff_ne]; exact q
        have hR : decide (x < y) = R := by
          rw [← hl]
          by_cases c1 : x < y
          · rw [if_pos c1]; simp [c1]
          · rw [if_neg c1, if_pos (by omega)]; simp [c1]
        have HR := Lib.hid hR
        clear hl q hR
        go_wp2_with fail
        go_quiet (fail)
        go_wp2_with fail
        go_quiet (fail)
        go_wp2
        go_ret
        exact ⟨by rw [← HR.out]; rfl, below_drewN (below_drewN hb _) _⟩
    · obtain rfl : j = n := by omega
      have hR : R = false := by
        rw [← hl, List.drop_eq_nil_of_le (by rw [List.length_reverse, HX.out]; exact Nat.le_refl _), List.drop_eq_nil_of_le (by rw [List.length_reverse, HY.out]; exact Nat.le_refl _)]
        rfl
      have hm1 : (j : Int) - 1 - (j : Int) = -1 := by omega
      rw [hm1]
      subst hR
      go_wp2
      go_ret
      exact ⟨rfl, hb⟩
def QCap (l : List PQ) : Prop := ∀ x ∈ l, x.2.2.length ≤ x.2.1
def RowsAt (lo : Nat) (L : List (List Int)) (w : World) (e : Ending) (w' : World) : Prop :=
  ∃ g k l, e = .returned (.slice (some ⟨g, 0, none⟩) l.length k) ∧ l.length ≤ k ∧ QRow w' g l ∧ nmQ l = L ∧ QAll lo w'.heap.size w' l ∧ QCap l ∧ Below w.heap.size w w'
theorem ownQ_start (w : World) : OwnQ (w.alloc (.cells #[] 26)) w.heap.size (.slice (some ⟨w.heap.size, 0, none⟩) 0 0) [] :=
  ⟨rfl, .inr ⟨w.heap.size, 0, #[], rfl, Nat.le_refl _, Blk.new w #[] _, Nat.le_refl _, by unfold maxLen; omega, rfl, rfl⟩⟩
theorem ownQ_some {w : World} {base : Nat} {v : Value} {l : List PQ} (h : OwnQ w base v l) (hl : 0 < l.length) : ∃ g k, v = .slice (some ⟨g, 0, none⟩) l.length k ∧ l.length ≤ k := by
  obtain ⟨_, ⟨h1, h2⟩ | ⟨g', cap, cur, hv, _, _, hc, _⟩⟩ := h
  · omega
  · exact ⟨g', cap, hv, hc⟩
theorem atP_here {l : List (List Int)} {p x : List Int} (e : l[atP l p]? = some x) : ltP x p = false := by
  induction l with
  | nil => simp at e
  | cons y l ih =>
    rw [atP] at e
    split at e
    · exact ih (by simpa using e)
    · rename_i q
      simp at e
      subst e
      simpa using q
set_option maxRecDepth 8000 in
set_option maxHeartbeats 2000000 in
theorem l10Put_any (lo g k n : Nat) (l : List PQ) (u : PQ) (w : World) (hk : l.length ≤ k) (hl : l.length < 1048576) (hn : n ≤ 1048576) (hQ : QRow w g l) (hA : QAll lo w.heap.size w l) (hU : QAt lo w.heap.size w u) (hln : ∀ x ∈ l, x.2.2.length = n) (hun : u.2.2.length = n) (hcl : QCap l) (hcu : u.2.2.length ≤ u.2.1) :
    Calls Tryz.prog 82 #[.slice (some ⟨g, 0, none⟩) l.length k, pqV u] w (RowsAt lo (putP (nmQ l) u.2.2) w) := by
  obtain ⟨gu, ku, us⟩ := u
  dsimp only at hU hun hcu
  subst hun
  obtain ⟨N, hN⟩ : ∃ N, l.length = N := ⟨_, rfl⟩
  obtain ⟨K, hK⟩ : ∃ K, atP (nmQ l) us = K := ⟨_, rfl⟩
  have hKN : K ≤ N := by
    have := atP_le (nmQ l) us
    rw [hK, List.length_map, hN] at this
    exact this
  have hput := putP_out (nmQ l) us
  rw [hK] at hput
  have hbef : ∀ j x, j < K → l[j]? = some x → ltP x.2.2 us = true := fun j x hj e => atP_before (nmQ l) us j x.2.2 (by rw [hK]; exact hj) (by rw [List.getElem?_map, e]; rfl)
  have hher : ∀ x, l[K]? = some x → ltP x.2.2 us = false := fun x e => atP_here (l := nmQ l) (p := us) (x := x.2.2) (by rw [hK, List.getElem?_map, e]; rfl)
  have hLB := fun (gx kx gy ky : Nat) (xs ys : List Int) (W : World) (h1 : xs.length = us.length) (h2 : ys.length = us.length) (rx : Row W gx xs) (ry : Row W gy ys) => l10Before_any (some ⟨gx, 0, none⟩) (some ⟨gy, 0, none⟩) us.length kx ky xs ys W h1 h2 hn rx.irow ry.irow
  obtain ⟨R, hR⟩ : ∃ R, putP (nmQ l) us = R := ⟨_, rfl⟩
  rw [hR] at hput
  show Calls Tryz.prog 82 #[.slice (some ⟨g, 0, none⟩) l.length k, .slice (some ⟨gu, 0, none⟩) us.length ku] w (RowsAt lo (putP (nmQ l) us) w)
  rw [hR]
  have HPUT := Lib.hid hput
  have HBEF := Lib.hid hbef
  have HHER := Lib.hid hher
  have HLB := Lib.hid hLB
  have HN := Lib.hid hN
  have HLN := Lib.hid hln
  have HCL := Lib.hid hcl
  have HCU := Lib.hid hcu
  have HA := Lib.hid hA
  have HU := Lib.hid hU
  have m0 : (N : Int) < 1048576 := by omega
  have m1 : (N : Int) ≤ (k : Int) := by omega
  have m2 : (K : Int) ≤ (N : Int) := by omega
  have m3 : (0 : Int) ≤ (K : Int) := by omega
  have m4 : (K : Int) ≤ (k : Int) := by omega
  rw [hN] at hk hl ⊢
  have hglt := hQ.lt
  clear hcl hcu hput hbef hher hLB hN hln hA hU hK hR
  have NEW : ∀ (W : World), Below w.heap.size w W → True := fun _ _ => trivial
  clear NEW
  go_enter Tryz.func82, Tryz.ntmps82
  go_wp2_with fail
  go_loopg [5] (K + 1) (fun mm iv wr => ∃ (W : World) (i : Nat), W = wr ∧ i ≤ K ∧ mm = K + 1 - i ∧ iv = .int .i64 i ∧ Below w.heap.size w W)
  case atStart => exact ⟨w, 0, rfl, by omega, by omega, by go_num, Below.refl _ _⟩
  case round =>
    obtain ⟨W, i, hW, hi, hmm, rfl, hb⟩ := hrel
    subst hW
    by_cases hlt : i < K
    · have hlt' : (i : Int) < (N : Int) := by omega
      have i0 : (0 : Int) ≤ (i : Int) := by omega
      obtain ⟨⟨gx, kx, xs⟩, hx⟩ : ∃ x, l[i]? = some x := ⟨_, List.getElem?_eq_getElem (by rw [HN.out]; omega)⟩
      have hxm := List.mem_of_getElem? hx
      have hc := QRow.at (hQ.below hb) i _ hx
      have he := fun (W' : World) (h : Below w.heap.size w W') => HLB.out gx kx gu ku xs us W' (HLN.out _ hxm) rfl ((HA.out _ hxm).2.2.below h) (HU.out.2.2.below h)
      rw [HBEF.out i _ hlt hx] at he
      unfold pqV at hc
      dsimp only at hc
      rw [show xs.length = us.length from HLN.out _ hxm] at hc
      have HE := Lib.hid he
      clear hx hxm he
      go_wp2_with (go_at_call 113; refine (HE.out _ hb).mono ?_; rintro e w5 ⟨rfl, hb5⟩)
      go_roundg (K + 1 - (i + 1))
      case measure => omega
      case rel => exact ⟨w5, i + 1, rfl, by omega, by omega, by go_num, chain hb hb5⟩
    · obtain rfl : i = K := by omega
      by_cases hKl : i < N
      · have hlt' : (i : Int) < (N : Int) := by omega
        obtain ⟨⟨gx, kx, xs⟩, hx⟩ : ∃ x, l[i]? = some x := ⟨_, List.getElem?_eq_getElem (by rw [HN.out]; omega)⟩
        have hxm := List.mem_of_getElem? hx
        have hc0 := fun (W' : World) (h : Below w.heap.size w W') => QRow.at (hQ.below h) i _ hx
        have he := fun (W' : World) (h : Below w.heap.size w W') => HLB.out gx kx gu ku xs us W' (HLN.out _ hxm) rfl ((HA.out _ hxm).2.2.below h) (HU.out.2.2.below h)
        have hf := fun (W' : World) (h : Below w.heap.size w W') => HLB.out gu ku gx kx us xs W' rfl (HLN.out _ hxm) (HU.out.2.2.below h) ((HA.out _ hxm).2.2.below h)
        rw [HHER.out _ hx] at he
        have hxl : xs.length = us.length := HLN.out _ hxm
        unfold pqV at hc0
        dsimp only at hc0
        rw [hxl] at hc0
        have HE := Lib.hid he
        have HC0 := Lib.hid hc0
        have hc := hc0 _ hb
        cases hB : ltP us xs with
        | false =>
          rw [hB] at hf
          have hres : R = nmQ l := by
            rw [HPUT.out, if_pos]
            exact ⟨xs, by rw [List.getElem?_map, hx]; rfl, hB⟩
          have HF := Lib.hid hf
          have HRS := Lib.hid hres
          clear hx hxm he hf hres hc0 hB hxl
          go_wp2_with (first | (go_at_call 113; refine (HE.out _ hb).mono ?_; clear HE; rintro e w5 ⟨rfl, hb5⟩; replace hb := chain hb hb5; clear hb5; have hc2 := HC0.out _ hb) | (go_at_call 113; refine (HF.out _ hb).mono ?_; rintro e w6 ⟨rfl, hb6⟩; replace hb := chain hb hb6))
          go_ret
          have hz := hb.size
          refine ⟨g, k, l, ?_, by rw [HN.out]; exact hk, hQ.below hb, HRS.out.symm, (HA.out.below hb).mono (Nat.le_refl _) (by omega), HCL.out, hb⟩
          rw [HN.out]
          rfl
        | true =>
          rw [hB] at hf
          have hres : R = (nmQ l).take i ++ us :: (nmQ l).drop i := by
            rw [HPUT.out, if_neg]
            rintro ⟨z, h1, h2⟩
            rw [List.getElem?_map, hx] at h1
            simp at h1
            subst h1
            rw [hB] at h2
            exact absurd h2 (by decide)
          have HF := Lib.hid hf
          have HRS := Lib.hid hres
          clear hx hxm he hf hres hc0 hB hxl
          go_wp2_with (first | (go_at_call 113; refine (HE.out _ hb).mono ?_; clear HE; rintro e w5 ⟨rfl, hb5⟩; replace hb := chain hb hb5; clear hb5; have hc2 := HC0.out _ hb) | (go_at_call 113; refine (HF.out _ hb).mono ?_; clear HF; rintro e w6 ⟨rfl, hb6⟩; replace hb := chain hb hb6; clear hb6) | (at_builtin; go_loud (refine wp_pushQs rfl (.tmp 35) (.tmp 38) rfl w.heap.size _ [] rfl ((ownQ_start _).mono hb.size) ⟨g, 0, none⟩ _ _ (l.take i) rfl (by rw [List.length_take, HN.out]; omega) (fun q y hy => QRow.newsT (hQ.below (hb.alloc hb.size (.cells #[] 26))) i q y hy) (by simp; omega) (by have := hb.size; simp; omega) ?_; intro v7 w7 hO7 hb7 hk7 hkk7; have hb8 := (hb.alloc hb.size (.cells #[] 26)).trans hb7; clear hb7 hk7 hkk7; rw [List.nil_append] at hO7)) | (at_builtin; go_loud (refine wp_pushQ rfl (.tmp 40) (.tmp 42) rfl w.heap.size _ (l.take i) rfl hO7 (gu, ku, us) rfl (by first | rfl | simp) (by rw [List.length_take]; omega) hb8.size ?_; intro v9 w9 hO9 hb9 hk9; have hbA := hb8.trans hb9; clear hb9 hk9)) | (at_builtin; go_loud (refine wp_pushQs rfl (.tmp 44) (.tmp 47) rfl w.heap.size _ (l.take i ++ [(gu, ku, us)]) rfl hO9 ⟨g, i, none⟩ _ _ (l.drop i) rfl (by rw [List.length_drop, HN.out]; try omega) (fun q y hy => QRow.news (hQ.below hbA) i q y hy) (by simp [HN.out]; omega) hbA.size ?_; intro vB wB hOB hbB hkB hkkB; have hbC := hbA.trans hbB; clear hbB hkB hkkB)))
          obtain ⟨gr, kr, rfl, hkr⟩ := ownQ_some hOB (by simp; omega)
          go_ret
          have hz := hbC.size
          have hmem : ∀ y ∈ l.take i ++ [(gu, ku, us)] ++ l.drop i, y ∈ l ∨ y = (gu, ku, us) := fun y hy => by
            rcases List.mem_append.1 hy with hy | hy
            · rcases List.mem_append.1 hy with hy | hy
              · exact .inl (List.mem_of_mem_take hy)
              · exact .inr (by simpa using hy)
            · exact .inl (List.mem_of_mem_drop hy)
          refine ⟨gr, kr, _, rfl, hkr, (OwnQ.row hOB).2.2.1, ?_, fun y hy => ?_, fun y hy => ?_, hbC⟩
          · rw [HRS.out, nmQ, List.map_append, List.map_append, List.map_take, List.map_drop, List.append_assoc]
            rfl
          · rcases hmem y hy with h | h
            · exact ((HA.out y h).below hbC).mono (Nat.le_refl _) (by omega)
            · subst h
              exact (HU.out.below hbC).mono (Nat.le_refl _) (by omega)
          · rcases hmem y hy with h | h
            · exact HCL.out y h
            · subst h
              exact HCU.out
      · have hnl : ¬ (i : Int) < (N : Int) := by omega
        have hres : R = (nmQ l).take i ++ us :: (nmQ l).drop i := by
          rw [HPUT.out, if_neg]
          rintro ⟨z, h1, h2⟩
          rw [List.getElem?_eq_none (by rw [List.length_map, HN.out]; omega)] at h1
          simp at h1
        have HRS := Lib.hid hres
        clear hres
        have hdn : l.drop i = [] := List.drop_eq_nil_of_le (by rw [HN.out]; omega)
        by_cases hik : i < k
        · have hik2 : (i : Int) < (k : Int) := by omega
          go_wp2_with (first | (at_builtin; go_loud (refine wp_pushQs rfl (.tmp 35) (.tmp 38) rfl w.heap.size _ [] rfl ((ownQ_start _).mono hb.size) ⟨g, 0, none⟩ _ _ (l.take i) rfl (by rw [List.length_take, HN.out]; omega) (fun q y hy => QRow.newsT (hQ.below (hb.alloc hb.size (.cells #[] 26))) i q y hy) (by simp; omega) (by have := hb.size; simp; omega) ?_; intro v7 w7 hO7 hb7 hk7 hkk7; have hb8 := (hb.alloc hb.size (.cells #[] 26)).trans hb7; clear hb7 hk7 hkk7; rw [List.nil_append] at hO7)) | (at_builtin; go_loud (refine wp_pushQ rfl (.tmp 40) (.tmp 42) rfl w.heap.size _ (l.take i) rfl hO7 (gu, ku, us) rfl (by first | rfl | simp) (by rw [List.length_take]; omega) hb8.size ?_; intro v9 w9 hO9 hb9 hk9; have hbA := hb8.trans hb9; clear hb9 hk9)) | (at_builtin; go_loud (refine wp_pushQs rfl (.tmp 44) (.tmp 47) rfl w.heap.size _ (l.take i ++ [(gu, ku, us)]) rfl hO9 _ _ _ (l.drop i) rfl (by rw [hdn, List.length_nil]; try omega) (fun q y hy => by rw [hdn] at hy; simp at hy) (by simp [HN.out]; omega) hbA.size ?_; intro vB wB hOB hbB hkB hkkB; have hbC := hbA.trans hbB; clear hbB hkB hkkB)))
          obtain ⟨gr, kr, rfl, hkr⟩ := ownQ_some hOB (by simp; omega)
          go_ret
          have hz := hbC.size
          have hmem : ∀ y ∈ l.take i ++ [(gu, ku, us)] ++ l.drop i, y ∈ l ∨ y = (gu, ku, us) := fun y hy => by
            rcases List.mem_append.1 hy with hy | hy
            · rcases List.mem_append.1 hy with hy | hy
              · exact .inl (List.mem_of_mem_take hy)
              · exact .inr (by simpa using hy)
            · exact .inl (List.mem_of_mem_drop hy)
          refine ⟨gr, kr, _, rfl, hkr, (OwnQ.row hOB).2.2.1, ?_, fun y hy => ?_, fun y hy => ?_, hbC⟩
          · rw [HRS.out, nmQ, List.map_append, List.map_append, List.map_take, List.map_drop, List.append_assoc]
            rfl
          · rcases hmem y hy with h | h
            · exact ((HA.out y h).below hbC).mono (Nat.le_refl _) (by omega)
            · subst h
              exact (HU.out.below hbC).mono (Nat.le_refl _) (by omega)
          · rcases hmem y hy with h | h
            · exact HCL.out y h
            · subst h
              exact HCU.out
        · obtain rfl : i = k := by omega
          go_wp2_with (first | (at_builtin; go_loud (refine wp_pushQs rfl (.tmp 35) (.tmp 38) rfl w.heap.size _ [] rfl ((ownQ_start _).mono hb.size) ⟨g, 0, none⟩ _ _ (l.take i) rfl (by rw [List.length_take, HN.out]; omega) (fun q y hy => QRow.newsT (hQ.below (hb.alloc hb.size (.cells #[] 26))) i q y hy) (by simp; omega) (by have := hb.size; simp; omega) ?_; intro v7 w7 hO7 hb7 hk7 hkk7; have hb8 := (hb.alloc hb.size (.cells #[] 26)).trans hb7; clear hb7 hk7 hkk7; rw [List.nil_append] at hO7)) | (at_builtin; go_loud (refine wp_pushQ rfl (.tmp 40) (.tmp 42) rfl w.heap.size _ (l.take i) rfl hO7 (gu, ku, us) rfl (by first | rfl | simp) (by rw [List.length_take]; omega) hb8.size ?_; intro v9 w9 hO9 hb9 hk9; have hbA := hb8.trans hb9; clear hb9 hk9)) | (at_builtin; go_loud (refine wp_pushQs rfl (.tmp 44) (.tmp 47) rfl w.heap.size _ (l.take i ++ [(gu, ku, us)]) rfl hO9 _ _ _ (l.drop i) rfl (by rw [hdn, List.length_nil]; try omega) (fun q y hy => by rw [hdn] at hy; simp at hy) (by simp [HN.out]; omega) hbA.size ?_; intro vB wB hOB hbB hkB hkkB; have hbC := hbA.trans hbB; clear hbB hkB hkkB)))
          obtain ⟨gr, kr, rfl, hkr⟩ := ownQ_some hOB (by simp; omega)
          go_ret
          have hz := hbC.size
          have hmem : ∀ y ∈ l.take i ++ [(gu, ku, us)] ++ l.drop i, y ∈ l ∨ y = (gu, ku, us) := fun y hy => by
            rcases List.mem_append.1 hy with hy | hy
            · rcases List.mem_append.1 hy with hy | hy
              · exact .inl (List.mem_of_mem_take hy)
              · exact .inr (by simpa using hy)
            · exact .inl (List.mem_of_mem_drop hy)
          refine ⟨gr, kr, _, rfl, hkr, (OwnQ.row hOB).2.2.1, ?_, fun y hy => ?_, fun y hy => ?_, hbC⟩
          · rw [HRS.out, nmQ, List.map_append, List.map_append, List.map_take, List.map_drop, List.append_assoc]
            rfl
          · rcases hmem y hy with h | h
            · exact ((HA.out y h).below hbC).mono (Nat.le_refl _) (by omega)
            · subst h
              exact (HU.out.below hbC).mono (Nat.le_refl _) (by omega)
          · rcases hmem y hy with h | h
            · exact HCL.out y h
            · subst h
              exact HCU.out
end Go.Proofs.YtnlclmlnpkncoaaGreat
