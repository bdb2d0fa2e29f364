/- Texts of a proof, laid together. -/
import Derived.Test.YtnlclmlnpkncoaaGreatW22
import Derived.Test.YtnlclmlnpkncoaaGreatW07
import Derived.Test.YtnlclmlnpkncoaaGreatW16
import Derived.Test.YtnlclmlnpkncoaaGreatW11
import Derived.Test.YtnlclmlnpkncoaaGreatW02
import Derived.Test.YtnlclmlnpkncoaaGreatW21
import Derived.Deep.LoopGhost
namespace Go.Proofs.YtnlclmlnpkncoaaGreat
open Go.ChangeShapes Go.WideShapes Go.ChangeAt Go.RowKit
set_option linter.unusedVariables false
set_option linter.unusedSimpArgs false
set_option maxRecDepth 4000
set_option maxRecDepth 8000 in
theorem or64_any (g : Nat) (q r : Int) (w : World) (HB : Blk w g #[.int .i64 q, .int .i64 r] 2) :
    Calls Tryz.prog 47 #[.slice (some ⟨g, 0, none⟩) 2 2] w fun e w' => e = .returned (.int .i64 (if q ≠ 0 then q else r)) ∧ w = w' := by
  obtain ⟨x0, x1, xf, xl⟩ := HB.two
  by_cases hq : q = 0
  · rw [if_neg (by simpa using hq)]
    have fq : (q != 0) = false := by rw [hq]; rfl
    by_cases hr : r = 0
    · subst hr
      clear hq
      go_enter Tryz.func47, Tryz.ntmps47
      go_wp2_with fail
      refine wp_loop_rounds 3 ?_
      rw [rounds_succ]; go_wp2
      rw [rounds_succ]; go_wp2
      rw [rounds_succ]; go_wp2
      go_ret
      exact ⟨rfl, rfl⟩
    · have fr : (r != 0) = true := by simpa using hr
      clear hq hr
      go_enter Tryz.func47, Tryz.ntmps47
      go_wp2_with fail
      refine wp_loop_rounds 2 ?_
      rw [rounds_succ]; go_wp2
      rw [rounds_succ]; go_wp2
      go_ret
      exact ⟨rfl, rfl⟩
  · rw [if_pos hq]
    have fq : (q != 0) = true := by simpa using hq
    clear hq
    go_enter Tryz.func47, Tryz.ntmps47
    go_wp2_with fail
    refine wp_loop_rounds 1 ?_
    rw [rounds_succ]; go_wp2
    go_ret
    exact ⟨rfl, rfl⟩
set_option maxRecDepth 8000 in
set_option maxHeartbeats 1000000 in
theorem minus_any (xa xc ya yc : Int) (w : World) (hd : -9223372036854775808 ≤ xa - ya ∧ xa - ya ≤ 9223372036854775807) :
    Calls Tryz.prog 37 #[.agg #[.int .i64 xa, .int .i64 xc], .agg #[.int .i64 ya, .int .i64 yc]] w fun e w' => e = .returned (.agg #[.int .i64 (xa - ya), .int .i64 (if xc ≠ 0 then xc else yc)]) ∧ Below w.heap.size w w' := by
  obtain ⟨BX, BY, BZ, hb, hz⟩ := three_new w #[.int .i64 xa, .int .i64 xc] #[.int .i64 ya, .int .i64 yc] #[.int .i64 0, .int .i64 0] 67 67 67
  have hz0 : w.heap.size + 1 + 1 < (((w.alloc (.cells #[.int .i64 xa, .int .i64 xc] 67)).alloc (.cells #[.int .i64 ya, .int .i64 yc] 67)).alloc (.cells #[.int .i64 0, .int .i64 0] 67)).heap.size := by rw [hz]; omega
  clear hz
  have wz : IntKind.i64.wrap (xa - ya) = xa - ya := IntWalk.i64_in _ (by omega)
  have hO := fun W g (HB : Blk W g #[.int .i64 xc, .int .i64 yc] 2) => or64_any g xc yc W HB
  obtain ⟨C, hC⟩ : ∃ C, (if xc ≠ 0 then xc else yc) = C := ⟨_, rfl⟩
  rw [hC] at hO ⊢
  have HO := Lib.hid (fun (W : World) (HB : Blk (W.alloc (.cells #[.int .i64 xc, .int .i64 yc] 2)) W.heap.size #[.int .i64 xc, .int .i64 yc] 2) => hO _ _ HB)
  have HW := Lib.hid wz
  clear hO hC hd wz
  obtain ⟨x0, x1, xf, xl⟩ := BX.two
  obtain ⟨y0, y1, yf, yl⟩ := BY.two
  go_enter Tryz.func37, Tryz.ntmps37
  go_wp2_with fail
  clear x0 x1 xf xl y0 y1 yf yl
  generalize (((w.alloc (.cells #[.int .i64 xa, .int .i64 xc] 67)).alloc (.cells #[.int .i64 ya, .int .i64 yc] 67)).alloc (.cells #[.int .i64 0, .int .i64 0] 67)) = w1 at *
  replace BX := BX.drew
  replace BY := BY.drew
  replace BZ := BZ.drew
  replace hb := hb.drew
  refine wp_region_held_drew (S := fun w' => w'.cell? ⟨w.heap.size, 0, none⟩ = some (.int .i64 xa) ∧ w'.cell? ⟨w.heap.size, 1, none⟩ = some (.int .i64 xc) ∧ w'.cell? ⟨w.heap.size + 1, 0, none⟩ = some (.int .i64 ya) ∧ w'.cell? ⟨w.heap.size + 1, 1, none⟩ = some (.int .i64 yc)) (by kernel_rfl) ⟨BX.two.1, BX.two.2.1, BY.two.1, BY.two.2.1⟩ (fun hHeld => ?_)
  clear hHeld
  generalize w1.drew = vd at *
  have hHeld : vd.cell? ⟨w.heap.size, 0, none⟩ = some (.int .i64 xa) ∧ vd.cell? ⟨w.heap.size, 1, none⟩ = some (.int .i64 xc) ∧ vd.cell? ⟨w.heap.size + 1, 0, none⟩ = some (.int .i64 ya) ∧ vd.cell? ⟨w.heap.size + 1, 1, none⟩ = some (.int .i64 yc) := ⟨BX.two.1, BX.two.2.1, BY.two.1, BY.two.2.1⟩
  refine tk 0 5 ?_
  refine tk 1 6 ?_
  refine tk 2 7 ?_
  refine tk 3 8 ?_
  refine tk 4 9 ?_
  refine tk 5 10 ?_
  refine tk 6 11 ?_
  refine tk 7 12 ?_
  refine tk 8 13 ?_
  refine rdk 9 14 fun K hK => ?_
  go_simp
  (try go_wp2_with fail)
  refine hko hK (Blk.f2 (BX.alloc (.cells #[.int .i64 xc, .int .i64 yc] 2)) (Blk.l2 (BY.alloc (.cells #[.int .i64 xc, .int .i64 yc] 2)))) fun hHeld => ?_
  clear hK K
  refine rdk 10 15 fun K hK => ?_
  go_simp
  have B8 := Blk.new vd #[.int .i64 xc, .int .i64 yc] 2
  replace BX := BX.alloc (.cells #[.int .i64 xc, .int .i64 yc] 2)
  replace BY := BY.alloc (.cells #[.int .i64 xc, .int .i64 yc] 2)
  replace BZ := BZ.alloc (.cells #[.int .i64 xc, .int .i64 yc] 2)
  replace hb := hb.trans ((Below.refl _ _).alloc hb.size (.cells #[.int .i64 xc, .int .i64 yc] 2))
  have hsz := hb.size
  refine (HO.out _ B8).mono ?_
  rintro e wc ⟨rfl, rfl⟩
  (try go_wp2_with fail)
  refine hko hK (Blk.f2 BX (Blk.l2 BY)) fun hHeld => ?_
  clear hK K
  refine tk 11 16 ?_
  refine rdn 12 fun K hK => ?_
  have z0 := BZ.two.1
  have z1 := BZ.two.2.1
  have zf := BZ.two.2.2.1
  have zl := BZ.two.2.2.2
  go_simp
  (try go_wp2_with fail)
  refine hko hK (Blk.f2 ((BX.other (by omega)).other (by omega)) (Blk.l2 ((BY.other (by omega)).other (by omega)))) fun hHeld => ?_
  clear hK K
  refine wpAnyH_done (by kernel_rfl) ?_ _
  go_wp2_with fail
  have BZn := (BZ.set (i := 0) (.int .i64 (IntKind.i64.wrap (xa - ya)))).set (i := 1) (.int .i64 C)
  simp only [List.setIfInBounds_toArray, List.set_cons_zero, List.set_cons_succ] at BZn
  obtain ⟨t0, t1, tf, tl⟩ := BZn.two
  refine bodyPost_ret (v := .agg #[.int .i64 (IntKind.i64.wrap (xa - ya)), .int .i64 C]) (by simp [results, Tryz.results37, go_sem, t0, t1]) rfl ?_
  exact ⟨by rw [HW.out], (hb.setCell (p := ⟨w.heap.size + 1 + 1, 0, none⟩) (by dsimp only; omega) _).setCell (p := ⟨w.heap.size + 1 + 1, 1, none⟩) (by dsimp only; omega) _⟩
theorem Blk.thirteen {w : World} {g : Nat} {v0 v1 v2 v3 v4 v5 v6 v7 v8 v9 v10 v11 v12 : Value} {t : TypeId} (h : Blk w g #[v0, v1, v2, v3, v4, v5, v6, v7, v8, v9, v10, v11, v12] t) :
    w.cell? ⟨g, 0, none⟩ = some v0 ∧ w.cell? ⟨g, 1, none⟩ = some v1 ∧ w.cell? ⟨g, 2, none⟩ = some v2 ∧ w.cell? ⟨g, 3, none⟩ = some v3 ∧ w.cell? ⟨g, 4, none⟩ = some v4 ∧ w.cell? ⟨g, 5, none⟩ = some v5 ∧ w.cell? ⟨g, 6, none⟩ = some v6 ∧ w.cell? ⟨g, 7, none⟩ = some v7 ∧ w.cell? ⟨g, 8, none⟩ = some v8 ∧ w.cell? ⟨g, 9, none⟩ = some v9 ∧ w.cell? ⟨g, 10, none⟩ = some v10 ∧ w.cell? ⟨g, 11, none⟩ = some v11 ∧ w.cell? ⟨g, 12, none⟩ = some v12 ∧ (∀ i, w.frozen? ⟨g, i, none⟩ = false) ∧ g < w.heap.size :=
  ⟨by rw [h.cell 0]; rfl, by rw [h.cell 1]; rfl, by rw [h.cell 2]; rfl, by rw [h.cell 3]; rfl, by rw [h.cell 4]; rfl, by rw [h.cell 5]; rfl, by rw [h.cell 6]; rfl, by rw [h.cell 7]; rfl, by rw [h.cell 8]; rfl, by rw [h.cell 9]; rfl, by rw [h.cell 10]; rfl, by rw [h.cell 11]; rfl, by rw [h.cell 12]; rfl, fun i => h.free i, h.lt⟩
structure Tb where
  (p c h : Int) (S : Nat) (g gw b : Nat) (ar : Option Addr) (kr K gR gC : Nat)
abbrev Tb.cells (t : Tb) : Array Value := #[.int .i64 t.p, .int .i64 t.c, .int .i64 t.h, .int .i64 (t.S : Int), .pointer (some ⟨t.gw, 0, none⟩), .map (some t.b), .slice t.ar (rollsTo t.S).length t.kr, .int .i64 (dm t.S : Int), .int .i64 (tp t.S), .int .i64 0, .int .i64 (t.K : Int), .slice (some ⟨t.gR, 0, none⟩) t.K t.K, .slice (some ⟨t.gC, 0, none⟩) (t.K * t.K) (t.K * t.K)]
def Tb.In (t : Tb) (xs : List Int) : Prop := Ps t.p t.c t.h (t.S : Int) xs ∧ nm t.c xs < t.K
structure Gr (gR gC : Nat) (w w' : World) : Prop where
  os : w'.os = w.os
  tape : w'.tape = w.tape
  output : w'.output = w.output
  size : w.heap.size ≤ w'.heap.size
  block : ∀ k, k < w.heap.size → k ≠ gR → k ≠ gC → w'.heap[k]? = w.heap[k]?
theorem Gr.refl (gR gC : Nat) (w : World) : Gr gR gC w w := ⟨rfl, rfl, rfl, Nat.le_refl _, fun _ _ _ _ => rfl⟩
theorem Gr.of {gR gC : Nat} {w w' : World} (h : Below w.heap.size w w') : Gr gR gC w w' := ⟨h.os, h.tape, h.output, h.size, fun k hk _ _ => h.block k hk⟩
theorem Gr.trans {gR gC : Nat} {w w' w'' : World} (h : Gr gR gC w w') (k : Gr gR gC w' w'') : Gr gR gC w w'' :=
  ⟨k.os.trans h.os, k.tape.trans h.tape, k.output.trans h.output, Nat.le_trans h.size k.size, fun i hi n1 n2 => (k.block i (Nat.lt_of_lt_of_le hi h.size) n1 n2).trans (h.block i hi n1 n2)⟩
theorem Gr.then {gR gC : Nat} {w w' w'' : World} (h : Gr gR gC w w') (k : Below w'.heap.size w' w'') : Gr gR gC w w'' := h.trans (Gr.of k)
theorem Gr.grownR {gR gC : Nat} {w w' : World} (h : w.grownBy w' (some gR)) : Gr gR gC w w' := ⟨h.os, h.tape, h.output, h.size, fun k hk n1 _ => h.block k hk (fun e => by cases e; exact n1 rfl)⟩
theorem Gr.grownC {gR gC : Nat} {w w' : World} (h : w.grownBy w' (some gC)) : Gr gR gC w w' := ⟨h.os, h.tape, h.output, h.size, fun k hk _ n2 => h.block k hk (fun e => by cases e; exact n2 rfl)⟩
theorem Gr.below {gR gC base : Nat} {w w' : World} (h : Gr gR gC w w') (hR : base ≤ gR) (hC : base ≤ gC) (hb : base ≤ w.heap.size) : Below base w w' := ⟨h.os, h.tape, h.output, h.size, fun k hk => h.block k (by omega) (by omega) (by omega)⟩
theorem Gr.drew {gR gC : Nat} {w w' : World} (h : Gr gR gC w w') : Gr gR gC w w'.drew := h.then (Below.refl _ _).drew
theorem Blk.gr {gR gC : Nat} {w w' : World} {g : Nat} {vs : Array Value} {t : TypeId} (h : Blk w g vs t) (hg : Gr gR gC w w') (n1 : g ≠ gR) (n2 : g ≠ gC) : Blk w' g vs t := (hg.block g h.lt n1 n2).trans h
theorem Blk.ne {w : World} {g g' : Nat} {vs vs' : Array Value} {t t' : TypeId} (h : Blk w g vs t) (k : Blk w g' vs' t') (n : t ≠ t') : g ≠ g' := fun e => by
  subst e
  have := h.symm.trans k
  simp at this
  exact n this.2
def TabT (t : Tb) (w : World) : Prop := (∃ cs, Blk w t.gR cs 48) ∧ ∃ cs, Blk w t.gC cs 125
theorem TabT.gr {t : Tb} {w w' : World} {g : Nat} {vs : Array Value} {y : TypeId} (hT : TabT t w) (h : Blk w g vs y) (hg : Gr t.gR t.gC w w') (n1 : y ≠ 48) (n2 : y ≠ 125) : Blk w' g vs y := by
  obtain ⟨⟨a, ha⟩, ⟨b, hb⟩⟩ := hT
  exact h.gr hg (h.ne ha n1) (h.ne hb n2)
theorem Row.gr {t : Tb} {w w' : World} {g : Nat} {xs : List Int} (h : Row w g xs) (hT : TabT t w) (hg : Gr t.gR t.gC w w') : Row w' g xs := by
  obtain ⟨cur, hB, r⟩ := h
  exact ⟨cur, hT.gr hB hg (by decide) (by decide), r⟩
theorem VRow.gr {t : Tb} {w w' : World} {g : Nat} {vs : List Value} {y : TypeId} (h : VRow w g vs y) (hT : TabT t w) (hg : Gr t.gR t.gC w w') (n1 : y ≠ 48) (n2 : y ≠ 125) : VRow w' g vs y := by
  obtain ⟨cur, hB, r⟩ := h
  exact ⟨cur, hT.gr hB hg n1 n2, r⟩
def TabS (t : Tb) (w : World) : Prop := Blk w t.g t.cells 71 ∧ WaysAt w t.gw ∧ ScM w t.b t.S (nn t.S) ∧ RIn w t.ar (rollsTo t.S)
theorem TabS.below {t : Tb} {w w' : World} (h : TabS t w) (hb : Below w.heap.size w w') : TabS t w' := ⟨h.1.below hb, h.2.1.below hb, h.2.2.1.below hb, h.2.2.2.below hb⟩
theorem TabS.gr {t : Tb} {w w' : World} (h : TabS t w) (hT : TabT t w) (hg : Gr t.gR t.gC w w') : TabS t w' := by
  obtain ⟨h1, ⟨cur, hW, r⟩, h3, h4⟩ := h
  refine ⟨hT.gr h1 hg (by decide) (by decide), ⟨cur, hT.gr hW hg (by decide) (by decide), r⟩, ?_, ?_⟩
  · have hlt := h3.lt
    obtain ⟨es, clock, hb, F, hs, hD⟩ := h3
    obtain ⟨⟨a, ha⟩, ⟨b, hb2⟩⟩ := hT
    refine ⟨es, clock, (hg.block t.b hlt ?_ ?_).trans hb, F, hs, hD⟩
    · intro e
      rw [e] at hb
      have := ha.symm.trans hb
      simp at this
    · intro e
      rw [e] at hb
      have := hb2.symm.trans hb
      simp at this
  · rcases h4 with h | ⟨g, e, r⟩
    · exact .inl h
    · exact .inr ⟨g, e, VRow.gr r hT hg (by decide) (by decide)⟩
def PV (S : Nat) (o : Option Int) (y cd : Int) : Prop := match o with
  | some x => y = x ∧ cd = 0
  | none => cd = 3 ∧ 0 ≤ y ∧ y ≤ tp S
def ChC (t : Tb) (w : World) (v : Value) (xs ys : List Int) : Prop := v = .pointer none ∨ ∃ q y cd, v = .pointer (some ⟨q, 0, none⟩) ∧ Blk w q #[.int .i64 y, .int .i64 cd] 67 ∧ PV t.S (wc t.S xs ys) y cd
def ChI (t : Tb) (w : World) : Prop := ∃ cur, Blk w t.gC cur 125 ∧ ∀ xs ys, t.In xs → t.In ys → ∃ v, cur[nm t.c xs * t.K + nm t.c ys]? = some v ∧ ChC t w v xs ys
def nmR (t : Tb) (xs : List Int) (r : Rl) : List Int := (resI xs (ordersP r.1 r.2)).map fun z => (nm t.c z : Int)
def RsC (t : Tb) (w : World) (v : Value) (xs : List Int) : Prop := v = .slice none 0 0 ∨ ∃ q k l, v = .slice (some ⟨q, 0, none⟩) (rollsTo t.S).length k ∧ QRow w q l ∧ nmQ l = (rollsTo t.S).map (nmR t xs) ∧ ∀ x ∈ l, Row w x.1 x.2.2
def RsI (t : Tb) (w : World) : Prop := ∃ cur, Blk w t.gR cur 48 ∧ ∀ xs, t.In xs → ∃ v, cur[nm t.c xs]? = some v ∧ RsC t w v xs
theorem ChC.gr {t : Tb} {w w' : World} {v : Value} {xs ys : List Int} (h : ChC t w v xs ys) (hT : TabT t w) (hg : Gr t.gR t.gC w w') : ChC t w' v xs ys := by
  rcases h with h | ⟨q, y, cd, e, hB, r⟩
  · exact .inl h
  · exact .inr ⟨q, y, cd, e, hT.gr hB hg (by decide) (by decide), r⟩
theorem RsC.gr {t : Tb} {w w' : World} {v : Value} {xs : List Int} (h : RsC t w v xs) (hT : TabT t w) (hg : Gr t.gR t.gC w w') : RsC t w' v xs := by
  rcases h with h | ⟨q, k, l, e, hQ, hn, hr⟩
  · exact .inl h
  · exact .inr ⟨q, k, l, e, VRow.gr hQ hT hg (by decide) (by decide), hn, fun x hx => (hr x hx).gr hT hg⟩
theorem ChI.tab {t : Tb} {w : World} (h : ChI t w) (k : RsI t w) : TabT t w := by
  obtain ⟨c1, h1, _⟩ := h
  obtain ⟨c2, h2, _⟩ := k
  exact ⟨⟨c2, h2⟩, ⟨c1, h1⟩⟩
structure TabI (t : Tb) (w : World) : Prop where
  st : TabS t w
  ch : ChI t w
  rs : RsI t w
theorem TabI.tab {t : Tb} {w : World} (h : TabI t w) : TabT t w := h.ch.tab h.rs
theorem ChI.below {t : Tb} {w w' : World} (h : ChI t w) (hT : TabT t w) (hb : Below w.heap.size w w') : ChI t w' := by
  obtain ⟨cur, hB, r⟩ := h
  refine ⟨cur, hB.below hb, fun xs ys h1 h2 => ?_⟩
  obtain ⟨v, e, q⟩ := r xs ys h1 h2
  exact ⟨v, e, q.gr hT (Gr.of hb)⟩
theorem RsI.below {t : Tb} {w w' : World} (h : RsI t w) (hT : TabT t w) (hb : Below w.heap.size w w') : RsI t w' := by
  obtain ⟨cur, hB, r⟩ := h
  refine ⟨cur, hB.below hb, fun xs h1 => ?_⟩
  obtain ⟨v, e, q⟩ := r xs h1
  exact ⟨v, e, q.gr hT (Gr.of hb)⟩
theorem TabI.below {t : Tb} {w w' : World} (h : TabI t w) (hb : Below w.heap.size w w') : TabI t w' := ⟨h.st.below hb, h.ch.below h.tab hb, h.rs.below h.tab hb⟩
theorem TabI.drew {t : Tb} {w : World} (h : TabI t w) : TabI t w.drew := h.below (Below.refl _ _).drew
def Aw (t : Tb) (w : World) (z : Nat) : Prop := ∃ cur, Blk w t.gC cur 125 ∧ ∀ xs ys, t.In xs → t.In ys → cur[nm t.c xs * t.K + nm t.c ys]? ≠ some (.pointer (some ⟨z, 0, none⟩))
theorem Aw.same {t : Tb} {w w' : World} {z : Nat} (h : Aw t w z) (hb : w'.heap[t.gC]? = w.heap[t.gC]?) : Aw t w' z := by
  obtain ⟨cur, hB, r⟩ := h
  exact ⟨cur, hb.trans hB, r⟩
theorem Aw.lt {t : Tb} {w : World} {z : Nat} (h : Aw t w z) : t.gC < w.heap.size := by
  obtain ⟨cur, hB, r⟩ := h
  exact hB.lt
theorem Aw.below {t : Tb} {w w' : World} {z : Nat} (h : Aw t w z) (hb : Below w.heap.size w w') : Aw t w' z := h.same (hb.block _ h.lt)
theorem Aw.fresh {t : Tb} {w : World} {z : Nat} (h : ChI t w) (hz : w.heap.size ≤ z) : Aw t w z := by
  obtain ⟨cur, hB, r⟩ := h
  refine ⟨cur, hB, fun xs ys h1 h2 e => ?_⟩
  obtain ⟨v, hv, hc⟩ := r xs ys h1 h2
  rw [hv] at e
  injection e with e
  rcases hc with hc | ⟨q, y, cd, hc, hq, _⟩
  · rw [hc] at e; cases e
  · rw [hc] at e
    simp at e
    have := hq.lt
    omega
structure GA (t : Tb) (w w' : World) : Prop where
  gr : Gr t.gR t.gC w w'
  aw : ∀ z, z < w.heap.size → Aw t w z → Aw t w' z
theorem GA.refl (t : Tb) (w : World) : GA t w w := ⟨Gr.refl _ _ _, fun _ _ h => h⟩
theorem GA.of {t : Tb} {w w' : World} (h : Below w.heap.size w w') : GA t w w' := ⟨Gr.of h, fun z _ k => k.below h⟩
theorem GA.trans {t : Tb} {w w' w'' : World} (h : GA t w w') (k : GA t w' w'') : GA t w w'' := ⟨h.gr.trans k.gr, fun z hz a => k.aw z (Nat.lt_of_lt_of_le hz h.gr.size) (h.aw z hz a)⟩
theorem GA.then {t : Tb} {w w' w'' : World} (h : GA t w w') (k : Below w'.heap.size w' w'') : GA t w w'' := h.trans (GA.of k)
theorem GA.drew {t : Tb} {w w' : World} (h : GA t w w') : GA t w w'.drew := h.then (Below.refl _ _).drew
theorem TabI.away {t : Tb} {w : World} {z o : Nat} {u : Value} {vs : Array Value} (h : TabI t w) (ha : Aw t w z) (hB : Blk w z vs 67) : TabI t (w.setCell ⟨z, o, none⟩ u) := by
  obtain ⟨⟨s1, ⟨cw, sW, s2⟩, s3, s4⟩, ⟨c1, b1, r1⟩, ⟨c2, b2, r2⟩⟩ := h
  have row : ∀ (g : Nat) (xs : List Int), Row w g xs → Row (w.setCell ⟨z, o, none⟩ u) g xs := fun g xs hr => by
    obtain ⟨c3, h3, r3⟩ := hr
    exact ⟨c3, h3.other (h3.ne hB (by decide)), r3⟩
  refine ⟨⟨s1.other (s1.ne hB (by decide)), ⟨cw, sW.other (sW.ne hB (by decide)), s2⟩, ?_, ?_⟩, ⟨c1, b1.other (b1.ne hB (by decide)), fun xs ys h1 h2 => ?_⟩, ⟨c2, b2.other (b2.ne hB (by decide)), fun xs h1 => ?_⟩⟩
  · obtain ⟨es, clock, hb, F, hs, hD⟩ := s3
    refine ⟨es, clock, (Below.heap_setCell w ⟨z, o, none⟩ u t.b ?_).trans hb, F, hs, hD⟩
    intro e
    have e2 : t.b = z := e
    rw [e2] at hb
    have := hB.symm.trans hb
    simp at this
  · rcases s4 with h | ⟨g, e, c3, h3, r3⟩
    · exact .inl h
    · exact .inr ⟨g, e, c3, h3.other (h3.ne hB (by decide)), r3⟩
  · obtain ⟨v, hv, hc⟩ := r1 xs ys h1 h2
    refine ⟨v, hv, ?_⟩
    rcases hc with hc | ⟨q, y, cd, hc, hq, hp⟩
    · exact .inl hc
    · refine .inr ⟨q, y, cd, hc, hq.other (fun e => ?_), hp⟩
      obtain ⟨c4, b4, r4⟩ := ha
      have e4 := b4.symm.trans b1
      simp at e4
      rw [e4] at r4
      refine r4 xs ys h1 h2 ?_
      rw [hv, hc, e]
  · obtain ⟨v, hv, hc⟩ := r2 xs h1
    refine ⟨v, hv, ?_⟩
    rcases hc with hc | ⟨q, k, l, hc, ⟨c5, b5, r5⟩, hn, hr⟩
    · exact .inl hc
    · exact .inr ⟨q, k, l, hc, ⟨c5, b5.other (b5.ne hB (by decide)), r5⟩, hn, fun x hx => row _ _ (hr x hx)⟩
theorem Aw.away {t : Tb} {w : World} {z y o : Nat} {u : Value} {vs : Array Value} (h : Aw t w y) (hB : Blk w z vs 67) : Aw t (w.setCell ⟨z, o, none⟩ u) y := by
  obtain ⟨cur, hb, r⟩ := h
  exact ⟨cur, hb.other (hb.ne hB (by decide)), r⟩
theorem GA.away {t : Tb} {w w' : World} {z o : Nat} {u : Value} {vs : Array Value} (h : GA t w w') (hz : w.heap.size ≤ z) (hB : Blk w' z vs 67) : GA t w (w'.setCell ⟨z, o, none⟩ u) :=
  ⟨⟨h.gr.os, h.gr.tape, h.gr.output, by simpa using h.gr.size, fun k hk n1 n2 => (Below.heap_setCell w' ⟨z, o, none⟩ u k (by show k ≠ z; omega)).trans (h.gr.block k hk n1 n2)⟩, fun y hy a => (h.aw y hy a).away hB⟩
theorem TabI.blk {t : Tb} {w w' : World} {g : Nat} {vs : Array Value} (h : TabI t w) (hg : GA t w w') (hB : Blk w g vs 67) : Blk w' g vs 67 := h.tab.gr hB hg.gr (by decide) (by decide)
theorem PV.in {S : Nat} {o : Option Int} {y cd : Int} (h : PV S o y cd) (hin : ∀ x, o = some x → 0 ≤ x ∧ x ≤ tp S) : 0 ≤ y ∧ y ≤ tp S ∧ (cd = 0 ∨ cd = 3) := by
  unfold PV at h
  cases o with
  | none => dsimp only at h; omega
  | some x =>
    dsimp only at h
    have := hin x rfl
    omega
theorem PV.flip {S : Nat} (hS : 1 ≤ S ∧ S ≤ 6) {o : Option Int} {y cd : Int} (h : PV S o y cd) : PV S (o.map fun x => tp S - x) (tp S - y) (if (0 : Int) ≠ 0 then 0 else cd) := by
  have := tp_in hS
  rw [if_neg (by simp)]
  unfold PV at h ⊢
  cases o with
  | none => dsimp only [Option.map] at h ⊢; omega
  | some x => dsimp only [Option.map] at h ⊢; omega
theorem ChI.put {t : Tb} {w : World} {xs ys : List Int} {q : Nat} {y cd : Int} (h : ChI t w) (k : RsI t w) (h1 : t.In xs) (h2 : t.In ys) (hq : Blk w q #[.int .i64 y, .int .i64 cd] 67) (hv : PV t.S (wc t.S xs ys) y cd) :
    ChI t (w.setCell ⟨t.gC, nm t.c xs * t.K + nm t.c ys, none⟩ (.pointer (some ⟨q, 0, none⟩))) := by
  have hT := h.tab k
  obtain ⟨cur, hB, r⟩ := h
  have hg := Gr.grownC (gR := t.gR) (gC := t.gC) (grown_set (o := nm t.c xs * t.K + nm t.c ys) (v := .pointer (some ⟨q, 0, none⟩)) (show w.grownBy w (some t.gC) from ⟨rfl, rfl, rfl, Nat.le_refl _, fun _ _ _ => rfl⟩))
  refine ⟨_, hB.set _, fun us vs k1 k2 => ?_⟩
  by_cases e : nm t.c us * t.K + nm t.c vs = nm t.c xs * t.K + nm t.c ys
  · have hK : 0 < t.K := by have := h1.2; omega
    have e1 : nm t.c us = nm t.c xs := by
      have a1 : (nm t.c us * t.K + nm t.c vs) / t.K = nm t.c us := by rw [Nat.mul_comm, Nat.mul_add_div hK, Nat.div_eq_of_lt k2.2, Nat.add_zero]
      have a2 : (nm t.c xs * t.K + nm t.c ys) / t.K = nm t.c xs := by rw [Nat.mul_comm, Nat.mul_add_div hK, Nat.div_eq_of_lt h2.2, Nat.add_zero]
      rw [← a1, e, a2]
    have e2 : nm t.c vs = nm t.c ys := by rw [e1] at e; omega
    have f1 := nm_inj k1.1 h1.1 e1
    have f2 := nm_inj k2.1 h2.1 e2
    subst f1 f2
    obtain ⟨v, hv0, _⟩ := r us vs k1 k2
    refine ⟨_, ?_, .inr ⟨q, y, cd, rfl, hT.gr hq hg (by decide) (by decide), hv⟩⟩
    rw [Array.getElem?_setIfInBounds_self]
    rw [if_pos (Array.getElem?_eq_some_iff.1 hv0).1]
  · obtain ⟨v, hv0, hc⟩ := r us vs k1 k2
    refine ⟨v, ?_, hc.gr hT hg⟩
    rw [Array.getElem?_setIfInBounds_ne (fun q => e q.symm)]
    exact hv0
theorem row_step (L : List Int) (n j : Nat) (x : Int) (hj : j < n) (hl : L.length = j) : (L ++ List.replicate (n - j) 0).set j x = (L ++ [x]) ++ List.replicate (n - (j + 1)) 0 := by
  rw [show n - j = (n - (j + 1)) + 1 by omega, List.replicate_succ, List.set_append_right _ _ (by omega), hl, Nat.sub_self, List.set_cons_zero, List.append_assoc]
  rfl
set_option maxRecDepth 8000 in
set_option maxHeartbeats 1000000 in
theorem numbersOf_any (t : Tb) (gl n k : Nat) (l : List PQ) (w : World) (hl : l.length = n) (hle : n ≤ 1048576) (hW : WaysAt w t.gw) (hQ : QRow w gl l) (hr : ∀ x ∈ l, Row w x.1 x.2.2 ∧ Ps t.p t.c t.h (t.S : Int) x.2.2) :
    Calls Tryz.prog 34 #[.agg #[.int .i64 t.p, .int .i64 t.c, .int .i64 t.h, .int .i64 (t.S : Int), .pointer (some ⟨t.gw, 0, none⟩)], .slice (some ⟨gl, 0, none⟩) n k] w fun e w' => ∃ g', e = .returned (.slice (some ⟨g', 0, none⟩) n n) ∧ w.heap.size ≤ g' ∧ Row w' g' ((nmQ l).map fun z => (nm t.c z : Int)) ∧ Below w.heap.size w w' := by
  obtain ⟨i0, hi, hz0, hz1, hz2⟩ := info_parts infoI64
  have n0 : (n : Int) ≤ 1048576 := by omega
  have HL := Lib.hid hl
  have HR := Lib.hid hr
  clear hl hr
  have hv1 : (w.alloc (.cells #[.int .i64 t.p, .int .i64 t.c, .int .i64 t.h, .int .i64 (t.S : Int), .pointer (some ⟨t.gw, 0, none⟩)] 63)).heap.size = w.heap.size + 1 := by simp
  go_enter Tryz.func34, Tryz.ntmps34
  go_wp2_with (at_make; refine wpList_make_row _ rfl _ _ 26 rfl 2 i0 (.int .i64 0) Tryz.underlying26 hi hz0 hz1 rfl .i64 .i64 n rfl rfl (by rw [hz2]; omega) (by omega) ?_)
  go_loopg [13] n (fun m i wr => ∃ (W : World) (j : Nat), W = wr ∧ j ≤ n ∧ m = n - j ∧ i = .int .i64 j ∧ Blk W w.heap.size #[.int .i64 t.p, .int .i64 t.c, .int .i64 t.h, .int .i64 (t.S : Int), .pointer (some ⟨t.gw, 0, none⟩)] 63 ∧ Row W (w.heap.size + 1) (((nmQ l).take j).map (fun z => (nm t.c z : Int)) ++ List.replicate (n - j) 0) ∧ Below w.heap.size w W ∧ w.heap.size + 1 < W.heap.size)
  case atStart => exact ⟨_, 0, rfl, by omega, by omega, by go_num, (Blk.new w _ _).alloc _, by have := made_row (w.alloc (.cells #[.int .i64 t.p, .int .i64 t.c, .int .i64 t.h, .int .i64 (t.S : Int), .pointer (some ⟨t.gw, 0, none⟩)] 63)) n; rw [hv1] at this; simpa using this, ((Below.refl _ _).alloc (Nat.le_refl _) _).alloc (by simp) _, by simp⟩
  case round =>
    obtain ⟨wr, j, hW2, hj, hm, rfl, BN, hR, hb, hsz⟩ := hrel
    subst hW2
    by_cases hlt : j < n
    · have hlt' : (j : Int) < (n : Int) := by omega
      have j0 : (0 : Int) ≤ (j : Int) := by omega
      obtain ⟨⟨gx, kx, xs⟩, hx⟩ : ∃ x, l[j]? = some x := ⟨_, List.getElem?_eq_getElem (by rw [HL.out]; exact hlt)⟩
      have hxm := HR.out _ (List.mem_of_getElem? hx)
      have u1 : CellIs wr gl j (.slice (some ⟨gx, 0, none⟩) xs.length kx) := QRow.at (VRow.below hQ hb) j _ hx
      have hNO := Lib.hid (numOf_any t.p t.c t.h (t.S : Int) t.gw (some ⟨gx, 0, none⟩) xs.length kx xs wr hxm.2 rfl (hxm.1.below hb).irow (hW.below hb))
      have htk : ((nmQ l).take (j + 1)).map (fun z => (nm t.c z : Int)) = ((nmQ l).take j).map (fun z => (nm t.c z : Int)) ++ [(nm t.c xs : Int)] := by
        rw [List.take_add_one, List.getElem?_map, hx]
        simp
      have hlj : (((nmQ l).take j).map (fun z => (nm t.c z : Int))).length = j := by
        rw [List.length_map, List.length_take, List.length_map, HL.out]
        omega
      have hst := row_step _ n j (nm t.c xs : Int) hlt hlj
      rw [← htk] at hst
      obtain ⟨X, hX⟩ : ∃ X, nm t.c xs = X := ⟨_, rfl⟩
      rw [hX] at hNO hst
      have HST := Lib.hid hst
      obtain ⟨c0, c1, c2, c3, c4, cf, cl⟩ := BN.five
      unfold CellIs at u1
      clear hx hxm htk hlj hst hX
      go_wp2_with fail
      refine (hNO.out).mono ?_
      rintro e w5 ⟨rfl, hb5⟩
      clear c0 c1 c2 c3 c4 cf cl
      replace hR := hR.below hb5
      replace BN := BN.below hb5
      have f0 := hR.free j
      have c0 := hR.cell j (by have := HL.out; simp; omega)
      have hs5 := hb5.size
      go_wp2
      go_roundg (n - (j + 1))
      case measure => omega
      case rel =>
        have hR2 := (hR.set j (X : Int)).wf HST.out
        exact ⟨_, j + 1, rfl, by omega, rfl, by go_num, BN.other (by omega), hR2, (chain hb hb5).setCell (Nat.le_add_right _ 1) _, by simp; omega⟩
    · obtain rfl : j = n := by omega
      rw [List.take_of_length_le (by rw [List.length_map, HL.out]; exact Nat.le_refl _), Nat.sub_self, List.replicate_zero, List.append_nil] at hR
      have HRR := Lib.hid hR
      clear hR
      go_wp2
      go_ret
      exact ⟨w.heap.size + 1, rfl, Nat.le_add_right _ 1, HRR.out, hb⟩
end Go.Proofs.YtnlclmlnpkncoaaGreat
