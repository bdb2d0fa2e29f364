/- Texts of a proof, laid together. -/
import Derived.Test.YtnlclmlnpkncoaaGreatW25
import Derived.Test.YtnlclmlnpkncoaaGreatW07
import Derived.Test.YtnlclmlnpkncoaaGreatW11
import Derived.Lib.MinMax
namespace Go.Proofs.YtnlclmlnpkncoaaGreat
open Go.ChangeShapes Go.WideShapes Go.ChangeAt Go.RowKit
set_option linter.unusedVariables false
set_option linter.unusedSimpArgs false
set_option maxRecDepth 4000
theorem TabI.put {t : Tb} {w : World} {xs ys : List Int} {q : Nat} {y cd : Int} (h : TabI t w) (h1 : t.In xs) (h2 : t.In ys) (hq : Blk w q #[.int .i64 y, .int .i64 cd] 67) (hv : PV t.S (wc t.S xs ys) y cd) :
    TabI t (w.setCell ⟨t.gC, nm t.c xs * t.K + nm t.c ys, none⟩ (.pointer (some ⟨q, 0, none⟩))) := by
  have hT := h.tab
  have hg : Gr t.gR t.gC w (w.setCell ⟨t.gC, nm t.c xs * t.K + nm t.c ys, none⟩ (.pointer (some ⟨q, 0, none⟩))) := Gr.grownC (grown_set (show w.grownBy w (some t.gC) from ⟨rfl, rfl, rfl, Nat.le_refl _, fun _ _ _ => rfl⟩))
  refine ⟨h.st.gr hT hg, h.ch.put h.rs h1 h2 hq hv, ?_⟩
  obtain ⟨cur, hB, r⟩ := h.rs
  obtain ⟨_, ⟨cC, bC⟩⟩ := id hT
  refine ⟨cur, hB.other (hB.ne bC (by decide)), fun us k1 => ?_⟩
  obtain ⟨v, e, c⟩ := r us k1
  exact ⟨v, e, c.gr hT hg⟩
theorem GA.put {t : Tb} {w w' : World} {i q : Nat} (h : GA t w w') (hq : w.heap.size ≤ q) : GA t w (w'.setCell ⟨t.gC, i, none⟩ (.pointer (some ⟨q, 0, none⟩))) := by
  have hg : Gr t.gR t.gC w' (w'.setCell ⟨t.gC, i, none⟩ (.pointer (some ⟨q, 0, none⟩))) := Gr.grownC (grown_set (show w'.grownBy w' (some t.gC) from ⟨rfl, rfl, rfl, Nat.le_refl _, fun _ _ _ => rfl⟩))
  refine ⟨h.gr.trans hg, fun z hz a => ?_⟩
  obtain ⟨cur, hB, r⟩ := h.aw z hz a
  refine ⟨_, hB.set _, fun xs ys h1 h2 e => ?_⟩
  by_cases c : i = nm t.c xs * t.K + nm t.c ys
  · subst c
    rw [Array.getElem?_setIfInBounds_self] at e
    split at e
    · injection e with e
      simp at e <;> omega
    · cases e
  · rw [Array.getElem?_setIfInBounds_ne c] at e
    exact r xs ys h1 h2 e
theorem Aw.put {t : Tb} {w : World} {z i q : Nat} (h : Aw t w z) (hne : z ≠ q) : Aw t (w.setCell ⟨t.gC, i, none⟩ (.pointer (some ⟨q, 0, none⟩))) z := by
  obtain ⟨cur, hB, r⟩ := h
  refine ⟨_, hB.set _, fun xs ys h1 h2 e => ?_⟩
  by_cases c : i = nm t.c xs * t.K + nm t.c ys
  · subst c
    rw [Array.getElem?_setIfInBounds_self] at e
    split at e
    · injection e with e
      simp at e <;> omega
    · cases e
  · rw [Array.getElem?_setIfInBounds_ne c] at e
    exact r xs ys h1 h2 e
set_option maxRecDepth 8000 in
set_option maxHeartbeats 2000000 in
theorem win_step (t : Tb) (hS : 1 ≤ t.S ∧ t.S ≤ 6) (few : fewB t.c t.h = true) (hK : t.K ≤ 1000) (xs ys : List Int) (X Y : Nat) (IH : WinOk t (pwT xs + pwT ys)) (w : World) (hI : TabI t w) (hx : t.In xs) (hy : t.In ys) (eX : nm t.c xs = X) (eY : nm t.c ys = Y) :
    Calls Tryz.prog 38 #[.pointer (some ⟨t.g, 0, none⟩), .int .i64 X, .int .i64 Y] w (PGot t (wc t.S xs ys) w) := by
  have hXK : X < t.K := by rw [← eX]; exact hx.2
  have hYK : Y < t.K := by rw [← eY]; exact hy.2
  have hzx := nm_zero hx.1
  have hzy := nm_zero hy.1
  rw [eX] at hzx
  rw [eY] at hzy
  by_cases c1 : X = 0
  · have hw : wc t.S xs ys = some (tp t.S) := wc_own (hzx.1 c1)
    rw [hw]
    subst c1
    clear hw hzx hzy few IH hx hy eX eY hXK hYK hK
    have HI0 := Lib.hid hI
    have BZ := Blk.new w #[.int .i64 0, .int .i64 0] 67
    have hal : Below w.heap.size w (w.alloc (.cells #[.int .i64 0, .int .i64 0] 67)) := (Below.refl _ _).alloc (Nat.le_refl _) _
    have aZ := (Aw.fresh hI.ch (Nat.le_refl w.heap.size)).below hal
    replace hI := hI.below hal
    have hg : GA t w (w.alloc (.cells #[.int .i64 0, .int .i64 0] 67)) := GA.of hal
    obtain ⟨z6, hz6e⟩ : ∃ z, w.heap.size = z := ⟨_, rfl⟩
    have hz6 : w.heap.size ≤ z6 := by omega
    have hz1 : z6 < (w.alloc (.cells #[.int .i64 0, .int .i64 0] 67)).heap.size := by simp; omega
    rw [hz6e] at BZ aZ
    have BT := hI.st.1
    obtain ⟨c0, c1, c2, c3, c4, c5, c6, c7, c8, c9, c10, c11, c12, cf, cl⟩ := BT.thirteen
    go_enter Tryz.func38, Tryz.ntmps38
    have hal0 : Below w.heap.size w (w.alloc (.cells #[.int .i64 (tp t.S), .int .i64 0] 67)) := (Below.refl _ _).alloc (Nat.le_refl _) _
    have HI3 := Lib.hid (HI0.out.below hal0)
    have HG3 := Lib.hid (show GA t w (w.alloc (.cells #[.int .i64 (tp t.S), .int .i64 0] 67)) from GA.of hal0)
    have HBZ := Lib.hid (Blk.new w #[.int .i64 (tp t.S), .int .i64 0] 67)
    clear hal0
    go_wp2_with fail
    obtain ⟨t0, t1, tf, tl⟩ := HBZ.out.two
    rw [hz6e] at t0 t1
    refine bodyPost_ret (v := .agg #[.int .i64 (tp t.S), .int .i64 0]) (by simp [results, Tryz.results38, go_sem, t0, t1]) rfl ?_
    exact ⟨tp t.S, 0, rfl, ⟨rfl, rfl⟩, HI3.out, HG3.out⟩
  · have f1 : ((X : Int) == 0) = false := by rw [beq_eq_false_iff_ne]; omega
    by_cases c2 : Y = 0
    · have hw : wc t.S xs ys = some 0 := wc_other (fun e => c1 (hzx.2 e)) (hzy.1 c2)
      rw [hw]
      subst c2
      clear hw hzx hzy few IH hx hy eX eY hXK hYK hK
      have HI0 := Lib.hid hI
      have BZ := Blk.new w #[.int .i64 0, .int .i64 0] 67
      have hal : Below w.heap.size w (w.alloc (.cells #[.int .i64 0, .int .i64 0] 67)) := (Below.refl _ _).alloc (Nat.le_refl _) _
      have aZ := (Aw.fresh hI.ch (Nat.le_refl w.heap.size)).below hal
      replace hI := hI.below hal
      have hg : GA t w (w.alloc (.cells #[.int .i64 0, .int .i64 0] 67)) := GA.of hal
      obtain ⟨z6, hz6e⟩ : ∃ z, w.heap.size = z := ⟨_, rfl⟩
      have hz6 : w.heap.size ≤ z6 := by omega
      have hz1 : z6 < (w.alloc (.cells #[.int .i64 0, .int .i64 0] 67)).heap.size := by simp; omega
      rw [hz6e] at BZ aZ
      have BT := hI.st.1
      go_enter Tryz.func38, Tryz.ntmps38
      have hal0 : Below w.heap.size w (w.alloc (.cells #[.int .i64 0, .int .i64 0] 67)) := (Below.refl _ _).alloc (Nat.le_refl _) _
      have HI3 := Lib.hid (HI0.out.below hal0)
      have HG3 := Lib.hid (show GA t w (w.alloc (.cells #[.int .i64 0, .int .i64 0] 67)) from GA.of hal0)
      have HBZ := Lib.hid (Blk.new w #[.int .i64 0, .int .i64 0] 67)
      clear hal0
      go_wp2_with fail
      obtain ⟨t0, t1, tf, tl⟩ := HBZ.out.two
      rw [hz6e] at t0 t1
      refine bodyPost_ret (v := .agg #[.int .i64 0, .int .i64 0]) (by simp [results, Tryz.results38, go_sem, t0, t1]) rfl ?_
      exact ⟨0, 0, rfl, ⟨rfl, rfl⟩, HI3.out, HG3.out⟩
    · have f2 : ((Y : Int) == 0) = false := by rw [beq_eq_false_iff_ne]; omega
      have hxs : xs.sum ≠ 0 := fun e => c1 (hzx.2 e)
      have hys : ys.sum ≠ 0 := fun e => c2 (hzy.2 e)
      obtain ⟨a1, a2, a3, -⟩ := hx.1.po
      have hw := wc_step hS a2 a3 a1 hy.1.po.1 hxs hys
      have HM := Lib.hid (fun W (h : TabI t W) => mean_any t hS few xs ys X Y IH W h hx hy eX eY hxs)
      have HW := Lib.hid hw
      have hmul : X * t.K + Y < t.K * t.K := by
        have h1 := Nat.mul_le_mul_right t.K (show X + 1 ≤ t.K by omega)
        rw [Nat.add_mul] at h1
        omega
      have hkk : t.K * t.K ≤ 1000 * 1000 := Nat.mul_le_mul hK hK
      obtain ⟨KK, hKK⟩ : ∃ KK, t.K * t.K = KK := ⟨_, rfl⟩
      obtain ⟨M, hM⟩ : ∃ M, X * t.K = M := ⟨_, rfl⟩
      obtain ⟨I, hIe⟩ : ∃ I, M + Y = I := ⟨_, rfl⟩
      rw [hKK] at hmul hkk
      rw [hM, hIe] at hmul
      have w1_ : IntKind.i64.wrap ((X : Int) * (t.K : Int)) = (M : Int) := by
        rw [← Int.natCast_mul, hM]
        exact IntWalk.i64_in _ (by omega)
      have w2_ : IntKind.i64.wrap ((M : Int) + (Y : Int)) = (I : Int) := by
        rw [← Int.natCast_add, hIe]
        exact IntWalk.i64_in _ (by omega)
      have i0 : (0 : Int) ≤ (I : Int) := by omega
      have i1 : (I : Int) < (KK : Int) := by omega
      have eI : nm t.c xs * t.K + nm t.c ys = I := by rw [eX, eY, hM, hIe]
      have HBT := Lib.hid (show ∀ W, Blk W t.g t.cells 71 → Blk W t.g #[.int .i64 t.p, .int .i64 t.c, .int .i64 t.h, .int .i64 (t.S : Int), .pointer (some ⟨t.gw, 0, none⟩), .map (some t.b), .slice t.ar (rollsTo t.S).length t.kr, .int .i64 (dm t.S : Int), .int .i64 (tp t.S), .int .i64 0, .int .i64 (t.K : Int), .slice (some ⟨t.gR, 0, none⟩) t.K t.K, .slice (some ⟨t.gC, 0, none⟩) KK KK] 71 from fun W q => by
        rw [Tb.cells, hKK] at q
        exact q)
      have HX := Lib.hid (⟨hx, hy⟩ : t.In xs ∧ t.In ys)
      have HEI := Lib.hid eI
      have HCH := Lib.hid (show ∀ W, TabI t W → ∃ v, W.cell? ⟨t.gC, I, none⟩ = some v ∧ (∀ i, W.frozen? ⟨t.gC, i, none⟩ = false) ∧ ChC t W v xs ys from fun W h => by
        obtain ⟨cur, hB, r⟩ := h.ch
        obtain ⟨v, hv, hc⟩ := r xs ys hx hy
        rw [eI] at hv
        exact ⟨v, by rw [hB.cell I, hv], fun i => hB.free i, hc⟩)
      clear hw hzx hzy few IH eX eY hK hXK hYK hmul hkk hKK hM hIe c1 c2 hxs hys a1 a2 a3 hx hy eI
      have HI0 := Lib.hid hI
      have BZ := Blk.new w #[.int .i64 0, .int .i64 0] 67
      have hal : Below w.heap.size w (w.alloc (.cells #[.int .i64 0, .int .i64 0] 67)) := (Below.refl _ _).alloc (Nat.le_refl _) _
      have aZ := (Aw.fresh hI.ch (Nat.le_refl w.heap.size)).below hal
      replace hI := hI.below hal
      have hg : GA t w (w.alloc (.cells #[.int .i64 0, .int .i64 0] 67)) := GA.of hal
      obtain ⟨z6, hz6e⟩ : ∃ z, w.heap.size = z := ⟨_, rfl⟩
      have hz6 : w.heap.size ≤ z6 := by omega
      have hz1 : z6 < (w.alloc (.cells #[.int .i64 0, .int .i64 0] 67)).heap.size := by simp; omega
      rw [hz6e] at BZ aZ
      have BT := HBT.out _ hI.st.1
      obtain ⟨v, cC, cF, hc⟩ := HCH.out _ hI
      rcases hc with rfl | ⟨q, y, cd, rfl, hq, hp⟩
      rotate_left
      · obtain ⟨q0, q1, qf, ql⟩ := hq.two
        obtain ⟨c0, c1, c2, c3, c4, c5, c6, c7, c8, c9, c10, c11, c12, cf, cl⟩ := BT.thirteen
        have HP := Lib.hid hp
        clear hp
        go_enter Tryz.func38, Tryz.ntmps38
        have hal0 : Below w.heap.size w (w.alloc (.cells #[.int .i64 y, .int .i64 cd] 67)) := (Below.refl _ _).alloc (Nat.le_refl _) _
        have HI3 := Lib.hid (HI0.out.below hal0)
        have HG3 := Lib.hid (show GA t w (w.alloc (.cells #[.int .i64 y, .int .i64 cd] 67)) from GA.of hal0)
        have HBZ := Lib.hid (Blk.new w #[.int .i64 y, .int .i64 cd] 67)
        clear hal0
        go_wp2_with fail
        obtain ⟨t0, t1, tf, tl⟩ := HBZ.out.two
        rw [hz6e] at t0 t1
        refine bodyPost_ret (v := .agg #[.int .i64 y, .int .i64 cd]) (by simp [results, Tryz.results38, go_sem, t0, t1]) rfl ?_
        skip
        exact ⟨y, cd, rfl, HP.out, HI3.out, HG3.out⟩
      · obtain ⟨c0, c1, c2, c3, c4, c5, c6, c7, c8, c9, c10, c11, c12, cf, cl⟩ := BT.thirteen
        go_enter Tryz.func38, Tryz.ntmps38
        go_wp2_with fail
        refine (HM.out _ hI).mono ?_
        rintro e w3 ⟨y, cd, rfl, hp, hI3, hga⟩
        clear c0 c1 c2 c3 c4 c5 c6 c7 c8 c9 c10 c11 c12 cf cl
        have hs3 := hga.gr.size
        have hz63 : z6 < w3.heap.size := by omega
        rw [← HW.out] at hp
        replace BZ := hI.blk hga BZ
        replace aZ := hga.aw _ hz1 aZ
        replace hg := hg.trans hga
        clear hga hI BT cC cF hz1
        have BX := Blk.new w3 #[.int .i64 y, .int .i64 cd] 67
        have hal2 : Below w3.heap.size w3 (w3.alloc (.cells #[.int .i64 y, .int .i64 cd] 67)) := (Below.refl _ _).alloc (Nat.le_refl _) _
        replace BZ := BZ.below hal2
        replace aZ := aZ.below hal2
        replace hg := hg.then hal2
        have hI4 := hI3.below hal2
        clear hI3 hal2
        obtain ⟨z8, hz8⟩ : ∃ z, w3.heap.size = z := ⟨_, rfl⟩
        rw [hz8] at BX
        have hne : z6 ≠ z8 := by omega
        have hz8w : w.heap.size ≤ z8 := by omega
        obtain ⟨cur, hB, hr⟩ := hI4.ch
        have hT4 := hI4.tab
        obtain ⟨v4, c4, f4, -⟩ := HCH.out _ hI4
        have hI5 := hI4.put HX.out.1 HX.out.2 BX hp
        rw [HEI.out] at hI5
        have hB5 := hB.set (i := I) (.pointer (some ⟨z8, 0, none⟩))
        have c5 : ((w3.alloc (.cells #[.int .i64 y, .int .i64 cd] 67)).setCell ⟨t.gC, I, none⟩ (.pointer (some ⟨z8, 0, none⟩))).cell? ⟨t.gC, I, none⟩ = some (.pointer (some ⟨z8, 0, none⟩)) := by
          rw [hB5.cell I, Array.getElem?_setIfInBounds_self, if_pos]
          rw [hB.cell I] at c4
          exact (Array.getElem?_eq_some_iff.1 c4).1
        have BX5 := BX.other (g := t.gC) (o := I) (v := .pointer (some ⟨z8, 0, none⟩)) (BX.ne hB (by decide))
        have BZ5 := BZ.other (g := t.gC) (o := I) (v := .pointer (some ⟨z8, 0, none⟩)) (BZ.ne hB (by decide))
        have aZ5 := aZ.put (i := I) hne
        have hg5 := hg.put (i := I) hz8w
        have BT4 := HBT.out _ hI4.st.1
        have BT5 := HBT.out _ hI5.st.1
        have HP := Lib.hid hp
        obtain ⟨x0, x1, xf, xl⟩ := BX5.two
        obtain ⟨z0, z1, zf, zl⟩ := BZ5.two
        obtain ⟨c0, c1, c2, c3, c4, c5, c6, c7, c8, c9, c10, c11, c12, cf, cl⟩ := BT4.thirteen
        obtain ⟨d0, d1, d2, d3, d4, d5, d6, d7, d8, d9, d10, d11, d12, df, dl⟩ := BT5.thirteen
        have HI3 := Lib.hid ((hI5.away (o := 0) (u := .int .i64 y) aZ5 BZ5).away (o := 1) (u := .int .i64 cd) (aZ5.away BZ5) (BZ5.set (i := 0) (.int .i64 y)))
        have HG3 := Lib.hid ((hg5.away (o := 0) (u := .int .i64 y) hz6 BZ5).away (o := 1) (u := .int .i64 cd) hz6 (BZ5.set (i := 0) (.int .i64 y)))
        have BZn := (BZ5.set (i := 0) (.int .i64 y)).set (i := 1) (.int .i64 cd)
        simp only [List.setIfInBounds_toArray, List.set_cons_zero, List.set_cons_succ] at BZn
        have HBZ := Lib.hid BZn
        clear BZn hp hI4 hI5 hB hr hB5 BX BX5 BZ BZ5 aZ aZ5 hg hg5 BT4 BT5 hT4
        go_wp2_with fail
        obtain ⟨t0, t1, tf, tl⟩ := HBZ.out.two
        refine bodyPost_ret (v := .agg #[.int .i64 y, .int .i64 cd]) (by simp [results, Tryz.results38, go_sem, t0, t1]) rfl ?_
        exact ⟨y, cd, rfl, HP.out, HI3.out, HG3.out⟩
theorem win_all (t : Tb) (hS : 1 ≤ t.S ∧ t.S ≤ 6) (few : fewB t.c t.h = true) (hK : t.K ≤ 1000) : ∀ n : Nat, WinOk t (n : Int)
  | 0, xs, ys, X, Y, w, hI, hx, hy, eX, eY, hlt => by
    have h1 := pw_pos hx.1.po.1
    have h2 := pw_pos hy.1.po.1
    omega
  | n + 1, xs, ys, X, Y, w, hI, hx, hy, eX, eY, hlt => by
    refine win_step t hS few hK xs ys X Y ?_ w hI hx hy eX eY
    intro us vs U V W k1 k2 k3 k4 k5 k6
    exact win_all t hS few hK n us vs U V W k1 k2 k3 k4 k5 (by omega)
theorem win_any (t : Tb) (hS : 1 ≤ t.S ∧ t.S ≤ 6) (few : fewB t.c t.h = true) (hK : t.K ≤ 1000) (m : Int) : WinOk t m := fun xs ys X Y w hI hx hy eX eY hlt =>
  win_all t hS few hK ((pwT xs + pwT ys).toNat + 1) xs ys X Y w hI hx hy eX eY (by omega)
theorem RIn.away {w : World} {a : Option Addr} {l : List Rl} {g o : Nat} {v : Value} {vs : Array Value} {y : TypeId} (h : RIn w a l) (hB : Blk w g vs y) (n : 39 ≠ y) : RIn (w.setCell ⟨g, o, none⟩ v) a l := by
  rcases h with h | ⟨q, e, c3, h3, r3⟩
  · exact .inl h
  · exact .inr ⟨q, e, c3, h3.other (h3.ne hB n), r3⟩
theorem made_at (z : Value) (n i : Nat) (h : i < n) : (madeCells #[z] n)[i]? = some z := by
  rw [← Array.getElem?_toList, toList_madeCells_one, List.getElem?_replicate, if_pos h]
theorem ScM.away {w : World} {b S n g o : Nat} {v : Value} (h : ScM w b S n) (hne : b ≠ g) : ScM (w.setCell ⟨g, o, none⟩ v) b S n := by
  obtain ⟨es, clock, hb, F, hs, hD⟩ := h
  exact ⟨es, clock, (Below.heap_setCell w ⟨g, o, none⟩ v b hne).trans hb, F, hs, hD⟩
theorem scD_tidy (S : Nat) : ∀ n, Maps.Tidy (scD S n)
  | 0 => Maps.tidy_empty
  | n + 1 => (scD_tidy S n).put (scLit _) _
theorem scD_size (S : Nat) : ∀ n, Maps.size (scD S n) = n
  | 0 => rfl
  | n + 1 => by
    have h : Maps.has (scD S n) (.int .i64 (n : Int)) = false := by
      rw [scD_has, decide_eq_false_iff_not]
      omega
    rw [scD, Maps.size_put (scD_tidy S n), h, scD_size S n]
    simp
theorem ScM.len {w : World} {b S n : Nat} (h : ScM w b S n) (ty : TypeId) : (Builtin.len_ #[65] ty #[.map (some b)]).run Tryz.prog w = .ok (.int .i64 (n : Int)) w := by
  have := World.ownsMap.len h Tryz.underlying65 ty
  rw [scD_size] at this
  exact this
theorem RIn.drew {w : World} {a : Option Addr} {l : List Rl} (h : RIn w a l) : RIn w.drew a l := h.below (Below.refl _ _).drew
set_option maxRecDepth 8000 in
set_option maxHeartbeats 2000000 in
theorem chancesUpTo_any (p c h : Int) (S : Nat) (hS : 1 ≤ S ∧ S ≤ 6) (a1 a2 : Option Addr) (n1 n2 c1 c2 : Nat) (xs ys : List Int) (w : World) (hx : Ps p c h (S : Int) xs) (hy : Ps p c h (S : Int) ys) (hcn : cnt h.toNat c.toNat ≤ 500) (hn1 : xs.length = n1) (hn2 : ys.length = n2) (hr1 : IRow w a1 xs) (hr2 : IRow w a2 ys) :
    Calls Tryz.prog 23 #[.agg #[.int .i64 p, .int .i64 c, .int .i64 h, .int .i64 (S : Int)], .slice a1 n1 c1, .slice a2 n2 c2] w fun e w' => ∃ t : Tb, e = .returned (.pointer (some ⟨t.g, 0, none⟩)) ∧ t.p = p ∧ t.c = c ∧ t.h = h ∧ t.S = S ∧ t.K = max (nm c xs) (nm c ys) + 1 ∧ TabI t w' ∧ w.heap.size ≤ t.gR ∧ w.heap.size ≤ t.gC ∧ Below w.heap.size w w' := by
  have hn := nn_range hS
  have hdm := dm_in hS
  have hXc := nm_lt hx
  have hYc := nm_lt hy
  obtain ⟨X, hX⟩ : ∃ X, nm c xs = X := ⟨_, rfl⟩
  obtain ⟨Y, hY⟩ : ∃ Y, nm c ys = Y := ⟨_, rfl⟩
  rw [hX] at hXc
  rw [hY] at hYc
  obtain ⟨KN, hK⟩ : ∃ K, max X Y + 1 = K := ⟨_, rfl⟩
  have hK5 : 1 ≤ KN ∧ KN ≤ 500 := by omega
  have BV := Blk.new w #[.int .i64 p, .int .i64 c, .int .i64 h, .int .i64 (S : Int)] 25
  have hb : Below w.heap.size w (w.alloc (.cells #[.int .i64 p, .int .i64 c, .int .i64 h, .int .i64 (S : Int)] 25)) := (Below.refl _ _).alloc (Nat.le_refl _) _
  have hz0 : (w.alloc (.cells #[.int .i64 p, .int .i64 c, .int .i64 h, .int .i64 (S : Int)] 25)).heap.size = w.heap.size + 1 := by simp
  have HR1o := hr1
  have HR2o := hr2
  replace hr1 := hr1.below hb
  replace hr2 := hr2.below hb
  go_enter Tryz.func23, Tryz.ntmps23
  go_wp2_with fail
  generalize (w.alloc (.cells #[.int .i64 p, .int .i64 c, .int .i64 h, .int .i64 (S : Int)] 25)) = w1 at *
  replace BV := BV.drew
  replace hr1 := hr1.drew
  replace hr2 := hr2.drew
  replace hb := hb.drew
  refine wp_region_held_drew (S := fun w' => w'.cell? ⟨w.heap.size, 0, none⟩ = some (.int .i64 p) ∧ w'.cell? ⟨w.heap.size, 1, none⟩ = some (.int .i64 c) ∧ w'.cell? ⟨w.heap.size, 2, none⟩ = some (.int .i64 h) ∧ w'.cell? ⟨w.heap.size, 3, none⟩ = some (.int .i64 (S : Int))) (by kernel_rfl) ⟨BV.four.1, BV.four.2.1, BV.four.2.2.1, BV.four.2.2.2.1⟩ (fun hHeld => ?_)
  clear hHeld
  have hz_vd : w1.drew.heap.size = w1.heap.size := rfl
  generalize w1.drew = vd at *
  have hHeld : vd.cell? ⟨w.heap.size, 0, none⟩ = some (.int .i64 p) ∧ vd.cell? ⟨w.heap.size, 1, none⟩ = some (.int .i64 c) ∧ vd.cell? ⟨w.heap.size, 2, none⟩ = some (.int .i64 h) ∧ vd.cell? ⟨w.heap.size, 3, none⟩ = some (.int .i64 (S : Int)) := ⟨BV.four.1, BV.four.2.1, BV.four.2.2.1, BV.four.2.2.2.1⟩
  refine tk 0 8 ?_
  refine tk 2 10 ?_
  refine tk 4 12 ?_
  refine rdk 1 9 fun K hK => ?_
  go_simp
  refine (numberTable_any p c h (S : Int) _).mono ?_
  rintro e wa ⟨gw, rfl, hgw, hW, hb1⟩
  have hz_hb1 := hb1.size
  replace BV := BV.below hb1
  replace hr1 := hr1.below hb1
  replace hr2 := hr2.below hb1
  replace hb := chain hb hb1
  clear hb1
  (try go_wp2_with fail)
  refine hko hK (Blk.l4 BV) fun hHeld => ?_
  clear hK K
  refine rdk 3 11 fun K hK => ?_
  go_simp
  refine (scales_any p c h S hS _).mono ?_
  rintro e wb ⟨b, rfl, hSM, hgb, hb2⟩
  have hz_hb2 := hb2.size
  replace BV := BV.below hb2
  replace hr1 := hr1.below hb2
  replace hr2 := hr2.below hb2
  replace hW := hW.below hb2
  replace hb := chain hb hb2
  clear hb2
  (try go_wp2_with fail)
  refine hko hK (Blk.l4 BV) fun hHeld => ?_
  clear hK K
  refine rdk 5 13 fun K hK => ?_
  go_simp
  refine (implRolls_any p c h S _ hS.2).mono ?_
  rintro e wc ⟨ar, kr, rfl, hO, hb3⟩
  have hRI := hO.rin
  clear hO
  have hz_hb3 := hb3.size
  replace BV := BV.below hb3
  replace hr1 := hr1.below hb3
  replace hr2 := hr2.below hb3
  replace hW := hW.below hb3
  replace hSM := hSM.below hb3
  replace hb := chain hb hb3
  clear hb3
  (try go_wp2_with fail)
  refine hko hK (Blk.l4 BV) fun hHeld => ?_
  clear hK K
  refine tk 6 14 ?_
  refine rdk 7 15 fun K hK => ?_
  go_simp
  (try go_wp2_with fail)
  refine hko hK (Blk.l4 (BV.alloc (.cells #[.int .i64 p, .int .i64 c, .int .i64 h, .int .i64 (S : Int), .pointer (some ⟨gw, 0, none⟩), .map (some b), .slice ar (rollsTo S).length kr, .int .i64 0, .int .i64 0, .int .i64 0, .int .i64 0, .slice none 0 0, .slice none 0 0] 71))) fun hHeld => ?_
  clear hK K
  refine tk 8 7 ?_
  refine wpAnyH_done (by kernel_rfl) ?_ _
  clear hHeld
  have BT := Blk.new wc #[.int .i64 p, .int .i64 c, .int .i64 h, .int .i64 (S : Int), .pointer (some ⟨gw, 0, none⟩), .map (some b), .slice ar (rollsTo S).length kr, .int .i64 0, .int .i64 0, .int .i64 0, .int .i64 0, .slice none 0 0, .slice none 0 0] 71
  have hal : Below wc.heap.size wc (wc.alloc (.cells #[.int .i64 p, .int .i64 c, .int .i64 h, .int .i64 (S : Int), .pointer (some ⟨gw, 0, none⟩), .map (some b), .slice ar (rollsTo S).length kr, .int .i64 0, .int .i64 0, .int .i64 0, .int .i64 0, .slice none 0 0, .slice none 0 0] 71)) := (Below.refl _ _).alloc (Nat.le_refl _) _
  replace hr1 := hr1.below hal
  replace hr2 := hr2.below hal
  have hgwl : gw < wc.heap.size := by obtain ⟨cu, hB, _⟩ := hW; exact hB.lt
  have hbl := hSM.lt
  replace hW := hW.below hal
  replace hSM := hSM.below hal
  replace hRI := hRI.below hal
  replace hb := chain hb hal
  obtain ⟨g, hg⟩ : ∃ g, wc.heap.size = g := ⟨_, rfl⟩
  rw [hg] at BT hgwl hbl
  (try rw [hg])
  have hgw2 : w.heap.size ≤ g := by omega
  generalize wc.alloc (.cells #[.int .i64 p, .int .i64 c, .int .i64 h, .int .i64 (S : Int), .pointer (some ⟨gw, 0, none⟩), .map (some b), .slice ar (rollsTo S).length kr, .int .i64 0, .int .i64 0, .int .i64 0, .int .i64 0, .slice none 0 0, .slice none 0 0] 71) = w2 at *
  clear hal BV hg
  have hlen := hSM.len
  have wz : IntKind.i64.wrap ((nn S : Int) - 1) = (dm S : Int) := by
    rw [IntWalk.i64_in _ (by omega)]
    unfold dm
    omega
  have hlk : ∀ W, ScM W b S (nn S) → (Instr.lookup 65 (.map (some b)) (.int .i64 (dm S : Int)) false).run Tryz.prog W = .ok (.int .i64 (tp S)) W := fun W hs => by
    have := hs.look (j := (dm S : Int)) (by omega)
    rw [scA_is (by omega), Int.toNat_natCast] at this
    exact this
  obtain ⟨c0, c1, c2, c3, c4, c5, c6, c7, c8, c9, c10, c11, c12, cf, cl⟩ := BT.thirteen
  go_wp2_with fail
  clear c0 c1 c2 c3 c4 c5 c6 c7 c8 c9 c10 c11 c12 cf cl
  replace hSM := hSM.away (g := g) (o := 7) (v := .int .i64 (dm S : Int)) (by omega)
  replace hW := hW.other (g' := g) (o := 7) (v := .int .i64 (dm S : Int)) (by omega)
  replace hRI := hRI.away (o := 7) (v := .int .i64 (dm S : Int)) BT (by decide)
  replace hb := hb.setCell (p := ⟨g, 7, none⟩) (by dsimp only; omega) (.int .i64 (dm S : Int))
  replace BT := BT.set (i := 7) (.int .i64 (dm S : Int))
  simp only [List.setIfInBounds_toArray, List.set_cons_zero, List.set_cons_succ] at BT
  generalize w2.setCell ⟨g, 7, none⟩ (.int .i64 (dm S : Int)) = w3 at *
  have HR1 := Lib.hid HR1o
  have HR2 := Lib.hid HR2o
  replace hr1 := HR1.out.below hb
  replace hr2 := HR2.out.below hb
  clear hlen
  replace BT := BT.drew
  replace hSM := hSM.drew
  replace hr1 := hr1.drew
  replace hr2 := hr2.drew
  replace hW := hW.drew
  replace hRI := hRI.drew
  replace hb := hb.drew
  refine wp_region_held_drew (S := fun w' => w'.cell? ⟨g, 5, none⟩ = some (.map (some b)) ∧ w'.cell? ⟨g, 7, none⟩ = some (.int .i64 (dm S : Int)) ∧ (Instr.lookup 65 (.map (some b)) (.int .i64 (dm S : Int)) false).run Tryz.prog w' = .ok (.int .i64 (tp S)) w') (by kernel_rfl) ⟨BT.thirteen.2.2.2.2.2.1, BT.thirteen.2.2.2.2.2.2.2.1, hlk _ hSM⟩ (fun hHeld => ?_)
  clear hHeld
  have hz_v3 : w3.drew.heap.size = w3.heap.size := rfl
  generalize w3.drew = v3 at *
  have hHeld : v3.cell? ⟨g, 5, none⟩ = some (.map (some b)) ∧ v3.cell? ⟨g, 7, none⟩ = some (.int .i64 (dm S : Int)) ∧ (Instr.lookup 65 (.map (some b)) (.int .i64 (dm S : Int)) false).run Tryz.prog v3 = .ok (.int .i64 (tp S)) v3 := ⟨BT.thirteen.2.2.2.2.2.1, BT.thirteen.2.2.2.2.2.2.2.1, hlk _ hSM⟩
  refine tk 0 25 ?_
  refine tk 1 26 ?_
  refine tk 2 27 ?_
  refine tk 3 28 ?_
  refine tk 4 29 ?_
  refine tk 5 30 ?_
  refine tk 6 31 ?_
  refine tk 7 32 ?_
  refine tk 8 33 ?_
  refine tk 9 34 ?_
  refine tk 10 35 ?_
  refine tk 11 36 ?_
  refine tk 12 37 ?_
  refine rdn 13 fun K hK => ?_
  have y0 := BT.thirteen.2.2.2.2.2.2.2.2.1
  have y1 := BT.thirteen.2.2.2.2.2.2.2.2.2.1
  have yf := BT.thirteen.2.2.2.2.2.2.2.2.2.2.2.2.2.1
  have yl := BT.thirteen.2.2.2.2.2.2.2.2.2.2.2.2.2.2
  have BT3 := ((BT.set (i := 8) (.int .i64 (tp S))).set (i := 9) (.int .i64 0))
  simp only [List.setIfInBounds_toArray, List.set_cons_zero, List.set_cons_succ] at BT3
  have HBT3 := Lib.hid BT3
  have HSM3 := Lib.hid ((hSM.away (g := g) (o := 8) (v := .int .i64 (tp S)) (by omega)).away (g := g) (o := 9) (v := .int .i64 0) (by omega))
  clear BT3
  go_simp
  (try go_wp2_with fail)
  refine hko hK ⟨HBT3.out.thirteen.2.2.2.2.2.1, HBT3.out.thirteen.2.2.2.2.2.2.2.1, hlk _ HSM3.out⟩ fun hHeld => ?_
  clear hK K
  refine wpAnyH_done (by kernel_rfl) ?_ _
  clear hHeld
  replace hSM := hSM.away (g := g) (o := 8) (v := .int .i64 (tp S)) (by omega)
  replace hW := hW.other (g' := g) (o := 8) (v := .int .i64 (tp S)) (by omega)
  replace hRI := hRI.away (o := 8) (v := .int .i64 (tp S)) BT (by decide)
  replace hb := hb.setCell (p := ⟨g, 8, none⟩) (by dsimp only; omega) (.int .i64 (tp S))
  replace BT := BT.set (i := 8) (.int .i64 (tp S))
  replace hSM := hSM.away (g := g) (o := 9) (v := .int .i64 0) (by omega)
  replace hW := hW.other (g' := g) (o := 9) (v := .int .i64 0) (by omega)
  replace hRI := hRI.away (o := 9) (v := .int .i64 0) BT (by decide)
  replace hb := hb.setCell (p := ⟨g, 9, none⟩) (by dsimp only; omega) (.int .i64 0)
  replace BT := BT.set (i := 9) (.int .i64 0)
  simp only [List.setIfInBounds_toArray, List.set_cons_zero, List.set_cons_succ] at BT
  generalize (v3.setCell ⟨g, 8, none⟩ (.int .i64 (tp S))).setCell ⟨g, 9, none⟩ (.int .i64 0) = w4 at *
  replace hr1 := HR1.out.below hb
  replace hr2 := HR2.out.below hb
  clear HBT3 HSM3
  have hmx : max (X : Int) (Y : Int) = ((max X Y : Nat) : Int) := by omega
  have wk : IntKind.i64.wrap (((max X Y : Nat) : Int) + 1) = (KN : Int) := by rw [IntWalk.i64_in _ (by omega)]; omega
  go_wp2_with fail
  replace BT := BT.drew
  replace hSM := hSM.drew
  replace hr1 := hr1.drew
  replace hr2 := hr2.drew
  replace hW := hW.drew
  replace hRI := hRI.drew
  replace hb := hb.drew
  refine wp_region_held_drew (S := fun w' => w'.cell? ⟨g, 0, none⟩ = some (.int .i64 p) ∧ w'.cell? ⟨g, 1, none⟩ = some (.int .i64 c) ∧ w'.cell? ⟨g, 2, none⟩ = some (.int .i64 h) ∧ w'.cell? ⟨g, 3, none⟩ = some (.int .i64 (S : Int)) ∧ w'.cell? ⟨g, 4, none⟩ = some (.pointer (some ⟨gw, 0, none⟩))) (by kernel_rfl) ⟨BT.thirteen.1, BT.thirteen.2.1, BT.thirteen.2.2.1, BT.thirteen.2.2.2.1, BT.thirteen.2.2.2.2.1⟩ (fun hHeld => ?_)
  clear hHeld
  have hz_v4 : w4.drew.heap.size = w4.heap.size := rfl
  generalize w4.drew = v4 at *
  have hHeld : v4.cell? ⟨g, 0, none⟩ = some (.int .i64 p) ∧ v4.cell? ⟨g, 1, none⟩ = some (.int .i64 c) ∧ v4.cell? ⟨g, 2, none⟩ = some (.int .i64 h) ∧ v4.cell? ⟨g, 3, none⟩ = some (.int .i64 (S : Int)) ∧ v4.cell? ⟨g, 4, none⟩ = some (.pointer (some ⟨gw, 0, none⟩)) := ⟨BT.thirteen.1, BT.thirteen.2.1, BT.thirteen.2.2.1, BT.thirteen.2.2.2.1, BT.thirteen.2.2.2.2.1⟩
  refine tk 0 38 ?_
  refine tk 1 39 ?_
  refine tk 2 40 ?_
  refine tk 3 41 ?_
  refine tk 4 42 ?_
  refine tk 5 43 ?_
  refine tk 7 45 ?_
  refine tk 8 46 ?_
  refine tk 9 47 ?_
  refine tk 10 48 ?_
  refine tk 11 49 ?_
  refine rdk 6 44 fun K hK => ?_
  go_simp
  refine (numOf_any p c h (S : Int) gw a1 n1 c1 xs _ hx hn1 hr1 hW).mono ?_
  rintro e wd ⟨rfl, hb4⟩
  have hz_hb4 := hb4.size
  replace BT := BT.below hb4
  replace hSM := hSM.below hb4
  replace hr1 := hr1.below hb4
  replace hr2 := hr2.below hb4
  replace hW := hW.below hb4
  replace hRI := hRI.below hb4
  replace hb := chain hb hb4
  clear hb4
  rw [hX]
  (try go_wp2_with fail)
  refine hko hK ⟨BT.thirteen.1, BT.thirteen.2.1, BT.thirteen.2.2.1, BT.thirteen.2.2.2.1, BT.thirteen.2.2.2.2.1⟩ fun hHeld => ?_
  clear hK K
  refine rdk 12 50 fun K hK => ?_
  go_simp
  refine (numOf_any p c h (S : Int) gw a2 n2 c2 ys _ hy hn2 hr2 hW).mono ?_
  rintro e we ⟨rfl, hb5⟩
  have hz_hb5 := hb5.size
  replace BT := BT.below hb5
  replace hSM := hSM.below hb5
  replace hr1 := hr1.below hb5
  replace hr2 := hr2.below hb5
  replace hW := hW.below hb5
  replace hRI := hRI.below hb5
  replace hb := chain hb hb5
  clear hb5
  rw [hY]
  (try go_wp2_with fail)
  refine hko hK ⟨BT.thirteen.1, BT.thirteen.2.1, BT.thirteen.2.2.1, BT.thirteen.2.2.2.1, BT.thirteen.2.2.2.2.1⟩ fun hHeld => ?_
  clear hK K
  refine tk 13 51 ?_
  refine tk 14 52 ?_
  refine tk 15 53 ?_
  refine tk 16 54 ?_
  refine rdn 17 fun K hK => ?_
  have y0 := BT.thirteen.2.2.2.2.2.2.2.2.2.2.1
  have yf := BT.thirteen.2.2.2.2.2.2.2.2.2.2.2.2.2.1
  have yl := BT.thirteen.2.2.2.2.2.2.2.2.2.2.2.2.2.2
  have BT3 := BT.set (i := 10) (.int .i64 (KN : Int))
  simp only [List.setIfInBounds_toArray, List.set_cons_zero, List.set_cons_succ] at BT3
  have HBT3 := Lib.hid BT3
  clear BT3
  go_simp
  (try go_wp2_with fail)
  refine hko hK ⟨HBT3.out.thirteen.1, HBT3.out.thirteen.2.1, HBT3.out.thirteen.2.2.1, HBT3.out.thirteen.2.2.2.1, HBT3.out.thirteen.2.2.2.2.1⟩ fun hHeld => ?_
  clear hK K
  refine wpAnyH_done (by kernel_rfl) ?_ _
  clear hHeld
  replace hSM := hSM.away (g := g) (o := 10) (v := .int .i64 (KN : Int)) (by omega)
  replace hW := hW.other (g' := g) (o := 10) (v := .int .i64 (KN : Int)) (by omega)
  replace hRI := hRI.away (o := 10) (v := .int .i64 (KN : Int)) BT (by decide)
  replace hb := hb.setCell (p := ⟨g, 10, none⟩) (by dsimp only; omega) (.int .i64 (KN : Int))
  replace BT := BT.set (i := 10) (.int .i64 (KN : Int))
  simp only [List.setIfInBounds_toArray, List.set_cons_zero, List.set_cons_succ] at BT
  generalize we.setCell ⟨g, 10, none⟩ (.int .i64 (KN : Int)) = w5 at *
  clear HBT3 wk hmx hlk wz
  have hmk := run_make_row' (P := Tryz.prog) 68 48 (.slice none 0 0) 24 Tryz.underlying68 (by kernel_rfl) rfl .i64 .i64 KN (by omega) (by omega)
  obtain ⟨KK, hKK⟩ : ∃ KK, KN * KN = KK := ⟨_, rfl⟩
  have hkl : KK ≤ 250000 := by have := Nat.mul_le_mul hK5.2 hK5.2; omega
  have hmk2 := run_make_row' (P := Tryz.prog) 69 125 (.pointer none) 8 Tryz.underlying69 (by kernel_rfl) rfl .i64 .i64 KK (by omega) (by omega)
  have wm : IntKind.i64.wrap ((KN : Int) * (KN : Int)) = (KK : Int) := by
    rw [← Int.natCast_mul, hKK]
    exact IntWalk.i64_in _ (by omega)
  have HKK := Lib.hid hKK
  have BR := Blk.new w5 (madeCells #[.slice none 0 0] KN) 48
  have hal : Below w5.heap.size w5 (w5.alloc (.cells (madeCells #[.slice none 0 0] KN) 48)) := (Below.refl _ _).alloc (Nat.le_refl _) _
  obtain ⟨gR, hgR⟩ : ∃ g, w5.heap.size = g := ⟨_, rfl⟩
  have hs5 := hb.size
  have BT5 := BT.below hal
  have hglt := BT.lt
  obtain ⟨c0, c1, c2, c3, c4, c5, c6, c7, c8, c9, c10, c11, c12, cf, cl⟩ := BT.thirteen
  obtain ⟨d0, d1, d2, d3, d4, d5, d6, d7, d8, d9, d10, d11, d12, df, dl⟩ := BT5.thirteen
  clear hKK
  go_wp2_with fail
  clear c0 c1 c2 c3 c4 c5 c6 c7 c8 c9 c10 c11 c12 cf cl
  clear d0 d1 d2 d3 d4 d5 d6 d7 d8 d9 d10 d11 d12 df dl
  (try rw [hgR])
  rw [hgR] at BR
  replace hSM := hSM.below hal
  replace hW := hW.below hal
  replace hRI := hRI.below hal
  replace hb := chain hb hal
  clear hal
  have BT := BT5
  clear BT5
  have hgl : g < gR := by rw [← hgR]; exact hglt
  replace BR := BR.other (g := g) (o := 11) (v := .slice (some ⟨gR, 0, none⟩) KN KN) (by omega)
  replace hSM := hSM.away (g := g) (o := 11) (v := .slice (some ⟨gR, 0, none⟩) KN KN) (by omega)
  replace hW := hW.other (g' := g) (o := 11) (v := .slice (some ⟨gR, 0, none⟩) KN KN) (by omega)
  replace hRI := hRI.away (o := 11) (v := .slice (some ⟨gR, 0, none⟩) KN KN) BT (by decide)
  replace hb := hb.setCell (p := ⟨g, 11, none⟩) (by dsimp only; omega) (.slice (some ⟨gR, 0, none⟩) KN KN)
  replace BT := BT.set (i := 11) (.slice (some ⟨gR, 0, none⟩) KN KN)
  simp only [List.setIfInBounds_toArray, List.set_cons_zero, List.set_cons_succ] at BT
  generalize ((w5.alloc (.cells (madeCells #[.slice none 0 0] KN) 48)).setCell ⟨g, 11, none⟩ (.slice (some ⟨gR, 0, none⟩) KN KN)) = w6 at *
  obtain ⟨gC, hgC0⟩ : ∃ g, w6.heap.size = g := ⟨_, rfl⟩
  replace BT := BT.drew
  replace hSM := hSM.drew
  replace hW := hW.drew
  replace hRI := hRI.drew
  replace BR := BR.drew
  replace hb := hb.drew
  refine wp_region_held_drew (S := fun w' => w'.cell? ⟨g, 10, none⟩ = some (.int .i64 (KN : Int))) (by kernel_rfl) BT.thirteen.2.2.2.2.2.2.2.2.2.2.1 (fun hHeld => ?_)
  clear hHeld
  have hz_v6 : w6.drew.heap.size = w6.heap.size := rfl
  generalize w6.drew = v6 at *
  have hHeld : v6.cell? ⟨g, 10, none⟩ = some (.int .i64 (KN : Int)) := BT.thirteen.2.2.2.2.2.2.2.2.2.2.1
  refine tk 0 63 ?_
  refine tk 1 64 ?_
  refine tk 2 65 ?_
  refine tk 3 66 ?_
  refine tk 4 67 ?_
  refine tk 5 68 ?_
  refine tk 6 69 ?_
  refine tk 7 70 ?_
  refine tk 8 71 ?_
  refine tk 9 72 ?_
  refine rdk 10 73 fun K hK => ?_
  go_simp
  (try go_wp2_with fail)
  refine hko hK ((BT.alloc (.cells (madeCells #[.pointer none] KK) 125)).thirteen.2.2.2.2.2.2.2.2.2.2.1) fun hHeld => ?_
  clear hK K
  refine tk 11 74 ?_
  refine tk 12 75 ?_
  refine rdn 13 fun K hK => ?_
  have BTa := BT.alloc (.cells (madeCells #[.pointer none] KK) 125)
  have y0 := BTa.thirteen.2.2.2.2.2.2.2.2.2.2.2.2.1
  have yf := BTa.thirteen.2.2.2.2.2.2.2.2.2.2.2.2.2.1
  have yl := BTa.thirteen.2.2.2.2.2.2.2.2.2.2.2.2.2.2
  have BT3 := BTa.set (i := 12) (.slice (some ⟨gC, 0, none⟩) KK KK)
  simp only [List.setIfInBounds_toArray, List.set_cons_zero, List.set_cons_succ] at BT3
  have HBT3 := Lib.hid BT3
  clear BT3
  go_simp
  (try go_wp2_with fail)
  refine hko hK HBT3.out.thirteen.2.2.2.2.2.2.2.2.2.2.1 fun hHeld => ?_
  clear hK K
  refine wpAnyH_done (by kernel_rfl) ?_ _
  clear hHeld
  have BC := Blk.new v6 (madeCells #[.pointer none] KK) 125
  have hal : Below v6.heap.size v6 (v6.alloc (.cells (madeCells #[.pointer none] KK) 125)) := (Below.refl _ _).alloc (Nat.le_refl _) _
  have hg6 := BT.lt
  have hs6 := hb.size
  replace BT := BT.below hal
  replace BR := BR.below hal
  replace hSM := hSM.below hal
  replace hW := hW.below hal
  replace hRI := hRI.below hal
  replace hb := chain hb hal
  have hgC : v6.heap.size = gC := by omega
  rw [hgC] at BC hg6 hs6
  (try rw [hgC])
  replace BR := BR.other (g := g) (o := 12) (v := .slice (some ⟨gC, 0, none⟩) KK KK) (by omega)
  replace BC := BC.other (g := g) (o := 12) (v := .slice (some ⟨gC, 0, none⟩) KK KK) (by omega)
  replace hSM := hSM.away (g := g) (o := 12) (v := .slice (some ⟨gC, 0, none⟩) KK KK) (by omega)
  replace hW := hW.other (g' := g) (o := 12) (v := .slice (some ⟨gC, 0, none⟩) KK KK) (by omega)
  replace hRI := hRI.away (o := 12) (v := .slice (some ⟨gC, 0, none⟩) KK KK) BT (by decide)
  replace hb := hb.setCell (p := ⟨g, 12, none⟩) (by dsimp only; omega) (.slice (some ⟨gC, 0, none⟩) KK KK)
  replace BT := BT.set (i := 12) (.slice (some ⟨gC, 0, none⟩) KK KK)
  simp only [List.setIfInBounds_toArray, List.set_cons_zero, List.set_cons_succ] at BT
  generalize ((v6.alloc (.cells (madeCells #[.pointer none] KK) 125)).setCell ⟨g, 12, none⟩ (.slice (some ⟨gC, 0, none⟩) KK KK)) = w7 at *
  clear hal HBT3 hgC hgC0 hgR
  go_wp2
  go_ret
  have hkk := HKK.out
  subst hkk
  refine ⟨⟨p, c, h, S, g, gw, b, ar, kr, KN, gR, gC⟩, rfl, rfl, rfl, rfl, rfl, ?_, ⟨⟨BT, hW, hSM, hRI⟩, ⟨_, BC, fun us vs k1 k2 => ⟨.pointer none, made_at _ _ _ ?_, .inl rfl⟩⟩, ⟨_, BR, fun us k1 => ⟨.slice none 0 0, made_at _ _ _ k1.2, .inl rfl⟩⟩⟩, ?_, ?_, hb⟩
  · rw [hX, hY]; exact hK.symm
  · have h1 := Nat.mul_le_mul_right KN (show nm c us + 1 ≤ KN from k1.2)
    rw [Nat.add_mul] at h1
    have h2 : nm c vs < KN := k2.2
    show nm c us * KN + nm c vs < KN * KN
    omega
  · show w.heap.size ≤ gR
    omega
  · show w.heap.size ≤ gC
    omega
end Go.Proofs.YtnlclmlnpkncoaaGreat
