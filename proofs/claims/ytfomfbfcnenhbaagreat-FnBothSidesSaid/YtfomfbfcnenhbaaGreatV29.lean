/- Texts of a proof, laid together. -/
import Derived.Test.YtfomfbfcnenhbaaGreatV28
import Derived.Deep.LoopGhost
import Derived.Test.YtfomfbfcnenhbaaGreatV26
namespace Go.Proofs.YtfomfbfcnenhbaaGreat
open Go.ChangeShapes Go.WideShapes Go.ChangeAt Go.RowKit
set_option linter.unusedVariables false
set_option linter.unusedSimpArgs false
set_option maxRecDepth 4000
theorem set_same {cur : Array Value} {X : Nat} {v : Value} (h : cur[X]? = some v) : cur.setIfInBounds X v = cur := by
  apply Array.ext_getElem?
  intro i
  by_cases e : X = i
  · subst e
    rw [Array.getElem?_setIfInBounds_self, if_pos (Array.getElem?_eq_some_iff.1 h).1, h]
  · rw [Array.getElem?_setIfInBounds_ne e]
theorem ChI.keepR {t : Tb} {w w' : World} (h : ChI t w) (k : RsI t w) (hg : Gr t.gR t.gR w w') : ChI t w' := by
  have hT := h.tab k
  obtain ⟨⟨a, ha⟩, _⟩ := id hT
  obtain ⟨cur, hB, r⟩ := h
  refine ⟨cur, hB.gr hg (hB.ne ha (by decide)) (hB.ne ha (by decide)), fun xs ys h1 h2 => ?_⟩
  obtain ⟨v, e, q⟩ := r xs ys h1 h2
  exact ⟨v, e, q.gr hT hg.weak⟩
theorem Mid.done {t : Tb} {ws w : World} {xs : List Int} {cur : Array Value} {v : Value} {l : List PQ} (h : Mid t ws w (nm t.c xs) cur v v l) (hI : TabI t ws) (hx : t.In xs) (hS : 1 ≤ t.S) (hcur : Blk ws t.gR cur 62) (hold : ∀ ys, t.In ys → ∃ u, cur[nm t.c ys]? = some u ∧ RsC t ws u ys) (hn : nmQ l = (rollsTo t.S).map (nmR t xs)) :
    TabI t w ∧ ∃ q k, v = .slice (some ⟨q, 0, none⟩) (rollsTo t.S).length k ∧ QRow w q l := by
  have hlen : l.length = (rollsTo t.S).length := by have := congrArg List.length hn; rwa [List.length_map, List.length_map] at this
  have hpos : 0 < (rollsTo t.S).length := by
    have := rollsTo_len2 t.S
    have := Nat.mul_pos hS (show 0 < t.S + 1 by omega)
    omega
  obtain ⟨q, k, hv⟩ := OwnQ.some h.own (by omega)
  have hQ : QRow w q l := by
    have := h.own
    rw [hv] at this
    exact (OwnQ.row this).2.2.1
  rw [hlen] at hv
  refine ⟨⟨midW h hI.st hI.tab, hI.ch.keepR hI.rs h.gr, ?_⟩, q, k, hv, hQ⟩
  refine ⟨_, h.cell, fun ys hy => ?_⟩
  by_cases e : nm t.c ys = nm t.c xs
  · have := nm_inj hy.1 hx.1 e
    subst this
    obtain ⟨u, hu, _⟩ := hold ys hy
    refine ⟨v, ?_, .inr ⟨q, k, l, hv, hQ, hn, h.rows⟩⟩
    rw [Array.getElem?_setIfInBounds_self, if_pos (Array.getElem?_eq_some_iff.1 hu).1]
  · obtain ⟨u, hu, hc⟩ := hold ys hy
    refine ⟨u, ?_, hc.gr hI.tab h.gr.weak⟩
    rw [Array.getElem?_setIfInBounds_ne (fun q => e q.symm)]
    exact hu
set_option maxRecDepth 8000 in
set_option maxHeartbeats 2000000 in
theorem resultsOf_any (t : Tb) (xs : List Int) (X : Nat) (w : World) (hI : TabI t w) (hx : t.In xs) (hS : 1 ≤ t.S ∧ t.S ≤ 6) (few : fewB t.c t.h = true) (hX : nm t.c xs = X) :
    Calls Tryz.prog 69 #[.pointer (some ⟨t.g, 0, none⟩), .int .i64 X] w fun e w' => ∃ q k l, e = .returned (.slice (some ⟨q, 0, none⟩) (rollsTo t.S).length k) ∧ QRow w' q l ∧ nmQ l = (rollsTo t.S).map (nmR t xs) ∧ (∀ x ∈ l, Row w' x.1 x.2.2) ∧ TabI t w' ∧ GA t w w' := by
  obtain ⟨cur, hcur, hold⟩ := hI.rs
  obtain ⟨v0, hv0, hc⟩ := hold xs hx
  have hXK : X < t.K := by rw [← hX]; exact hx.2
  rw [hX] at hv0
  have hXk := (Array.getElem?_eq_some_iff.1 hv0).1
  have hXI : (X : Int) < (t.K : Int) := by omega
  have hX0 : (0 : Int) ≤ (X : Int) := by omega
  have BT := hI.st.1
  have cX : w.cell? ⟨t.gR, X, none⟩ = some v0 := by rw [hcur.cell X, hv0]
  rcases hc with rfl | ⟨q, k, l, rfl, hQ, hn, hrow⟩
  rotate_left
  · have hnil : ∀ W : World, (binOp .eql 62 (.slice (some ⟨q, 0, none⟩) (rollsTo t.S).length k) (.slice none 0 0)).run Tryz.prog W = .ok (.bool false) W := fun W => Lib.run_eql_slice_nil W _ _ _ _ _ _ _ Tryz.underlying62
    have HI := Lib.hid hI
    have HH := Lib.hid (⟨hQ, hn, hrow⟩ : QRow w q l ∧ nmQ l = (rollsTo t.S).map (nmR t xs) ∧ ∀ x ∈ l, Row w x.1 x.2.2)
    obtain ⟨c0, c1, c2, c3, c4, c5, c6, c7, c8, c9, c10, c11, c12, cf, cl⟩ := BT.thirteen
    clear hI hold hQ hn hrow hv0 hcur
    go_enter Tryz.func69, Tryz.ntmps69
    go_wp2
    go_ret
    exact ⟨q, k, l, rfl, HH.out.1, HH.out.2.1, HH.out.2.2, HI.out, GA.refl _ _⟩
  · have hnil : ∀ W : World, (binOp .eql 62 (.slice none 0 0) (.slice none 0 0)).run Tryz.prog W = .ok (.bool true) W := fun W => Lib.run_eql_slice_nil W _ _ _ _ _ _ _ Tryz.underlying62
    obtain ⟨a1, a2, a3, a4, a5, a6, a7, a8⟩ := hx.1.po
    have hPO : PO xs.length xs := by rw [a4]; exact a1
    have hl1 : 1 ≤ xs.length ∧ xs.length ≤ 24 := by omega
    have hlen2 := rollsTo_len2 t.S
    have hlen3 := rollsTo_length t.S
    have hpos : 0 < (rollsTo t.S).length := by
      have := Nat.mul_pos hS.1 (show 0 < t.S + 1 by omega)
      omega
    have hsq : t.S * t.S ≤ 6 * 6 := Nat.mul_le_mul hS.2 hS.2
    obtain ⟨gr, har, hRR⟩ : ∃ gr, t.ar = some ⟨gr, 0, none⟩ ∧ RRow w gr (rollsTo t.S) := by
      rcases hI.st.2.2.2 with ⟨_, q⟩ | q
      · rw [q] at hpos
        simp at hpos
      · exact q
    obtain ⟨RL, hRL⟩ : ∃ RL, rollsTo t.S = RL := ⟨_, rfl⟩
    obtain ⟨n, hn⟩ : ∃ n, RL.length = n := ⟨_, rfl⟩
    have BT0 : Blk w t.g #[.int .i64 t.p, .int .i64 t.c, .int .i64 t.h, .int .i64 (t.S : Int), .pointer (some ⟨t.gw, 0, none⟩), .map (some t.b), .slice (some ⟨gr, 0, none⟩) n t.kr, .int .i64 (dm t.S : Int), .int .i64 (tp t.S), .int .i64 0, .int .i64 (t.K : Int), .slice (some ⟨t.gR, 0, none⟩) t.K t.K, .slice (some ⟨t.gC, 0, none⟩) (t.K * t.K) (t.K * t.K)] 84 := by
      have := BT
      rw [Tb.cells, har, hRL, hn] at this
      exact this
    rw [hRL] at hpos hlen3 hRR
    rw [hn] at hpos hlen3
    have hn36 : n ≤ 36 := by omega
    have HBT := Lib.hid (show ∀ W, Blk W t.g t.cells 84 → Blk W t.g #[.int .i64 t.p, .int .i64 t.c, .int .i64 t.h, .int .i64 (t.S : Int), .pointer (some ⟨t.gw, 0, none⟩), .map (some t.b), .slice (some ⟨gr, 0, none⟩) n t.kr, .int .i64 (dm t.S : Int), .int .i64 (tp t.S), .int .i64 0, .int .i64 (t.K : Int), .slice (some ⟨t.gR, 0, none⟩) t.K t.K, .slice (some ⟨t.gC, 0, none⟩) (t.K * t.K) (t.K * t.K)] 84 from fun W q => by
      rw [Tb.cells, har, hRL, hn] at q
      exact q)
    have hmem : ∀ r ∈ RL, 1 ≤ r.2 ∧ r.2 ≤ r.1 ∧ r.1 ≤ 6 := fun r hr => rolls_in hS (by rw [hRL]; exact hr)
    have HRF := Lib.hid (fun W (q1 : WaysAt W t.gw) (q2 : RRow W gr RL) => resultsFrom_any t xs X gr n t.kr RL W hx few hX q1 hn hn36 q2 hmem)
    have HRL := Lib.hid hRL
    have HN := Lib.hid hn
    have HIN := Lib.hid hI
    have HX := Lib.hid hX
    have HIx := Lib.hid hx
    have HOLD := Lib.hid hold
    have HV0 := Lib.hid hv0
    have HS := Lib.hid hS
    have hW := hI.st.2.1
    have HTT := Lib.hid hI.tab
    have HTS := Lib.hid hI.st
    have HCU0 := Lib.hid hcur
    have hRlt := hcur.lt
    have hb := Below.refl w.heap.size w
    have hRR := hRR
    rw [hRL, hn]
    clear hI hold hv0 hx hX a1 a2 a3 a4 a5 a6 a7 a8 hlen2 hlen3 hsq hS BT har hRL hn hmem
    have BT := BT0
    clear BT0
    obtain ⟨c0, c1, c2, c3, c4, c5, c6, c7, c8, c9, c10, c11, c12, cf, cl⟩ := BT.thirteen
    go_enter Tryz.func69, Tryz.ntmps69
    go_wp2_with fail
    clear c0 c1 c2 c3 c4 c5 c6 c7 c8 c9 c10 c11 c12 cf cl
    clear cX hnil
    have hd_ : w.drew.heap.size = w.heap.size := rfl
    replace BT := BT.drew
    replace hcur := hcur.drew
    replace hW := hW.drew
    replace hRR := hRR.drew
    replace hb := hb.drew
    refine wp_region_held_drew (S := fun w' => w'.cell? ⟨t.g, 0, none⟩ = some (.int .i64 t.p) ∧ w'.cell? ⟨t.g, 1, none⟩ = some (.int .i64 t.c) ∧ w'.cell? ⟨t.g, 2, none⟩ = some (.int .i64 t.h) ∧ w'.cell? ⟨t.g, 3, none⟩ = some (.int .i64 (t.S : Int)) ∧ w'.cell? ⟨t.g, 4, none⟩ = some (.pointer (some ⟨t.gw, 0, none⟩)) ∧ w'.cell? ⟨t.g, 5, none⟩ = some (.map (some t.b)) ∧ w'.cell? ⟨t.g, 6, none⟩ = some (.slice (some ⟨gr, 0, none⟩) n t.kr) ∧ w'.cell? ⟨t.g, 7, none⟩ = some (.int .i64 (dm t.S : Int)) ∧ w'.cell? ⟨t.g, 8, none⟩ = some (.int .i64 (tp t.S)) ∧ w'.cell? ⟨t.g, 9, none⟩ = some (.int .i64 0) ∧ w'.cell? ⟨t.g, 10, none⟩ = some (.int .i64 (t.K : Int)) ∧ w'.cell? ⟨t.g, 11, none⟩ = some (.slice (some ⟨t.gR, 0, none⟩) t.K t.K) ∧ w'.cell? ⟨t.g, 12, none⟩ = some (.slice (some ⟨t.gC, 0, none⟩) (t.K * t.K) (t.K * t.K))) (by kernel_rfl) ⟨BT.thirteen.1, BT.thirteen.2.1, BT.thirteen.2.2.1, BT.thirteen.2.2.2.1, BT.thirteen.2.2.2.2.1, BT.thirteen.2.2.2.2.2.1, BT.thirteen.2.2.2.2.2.2.1, BT.thirteen.2.2.2.2.2.2.2.1, BT.thirteen.2.2.2.2.2.2.2.2.1, BT.thirteen.2.2.2.2.2.2.2.2.2.1, BT.thirteen.2.2.2.2.2.2.2.2.2.2.1, BT.thirteen.2.2.2.2.2.2.2.2.2.2.2.1, BT.thirteen.2.2.2.2.2.2.2.2.2.2.2.2.1⟩ (fun hHeld => ?_)
    clear hHeld
    obtain ⟨vd, hvd⟩ : ∃ v, w.drew = v := ⟨_, rfl⟩
    rw [hvd] at BT hcur hW hRR hb hd_
    (try rw [hvd])
    have hHeld : vd.cell? ⟨t.g, 0, none⟩ = some (.int .i64 t.p) ∧ vd.cell? ⟨t.g, 1, none⟩ = some (.int .i64 t.c) ∧ vd.cell? ⟨t.g, 2, none⟩ = some (.int .i64 t.h) ∧ vd.cell? ⟨t.g, 3, none⟩ = some (.int .i64 (t.S : Int)) ∧ vd.cell? ⟨t.g, 4, none⟩ = some (.pointer (some ⟨t.gw, 0, none⟩)) ∧ vd.cell? ⟨t.g, 5, none⟩ = some (.map (some t.b)) ∧ vd.cell? ⟨t.g, 6, none⟩ = some (.slice (some ⟨gr, 0, none⟩) n t.kr) ∧ vd.cell? ⟨t.g, 7, none⟩ = some (.int .i64 (dm t.S : Int)) ∧ vd.cell? ⟨t.g, 8, none⟩ = some (.int .i64 (tp t.S)) ∧ vd.cell? ⟨t.g, 9, none⟩ = some (.int .i64 0) ∧ vd.cell? ⟨t.g, 10, none⟩ = some (.int .i64 (t.K : Int)) ∧ vd.cell? ⟨t.g, 11, none⟩ = some (.slice (some ⟨t.gR, 0, none⟩) t.K t.K) ∧ vd.cell? ⟨t.g, 12, none⟩ = some (.slice (some ⟨t.gC, 0, none⟩) (t.K * t.K) (t.K * t.K)) := ⟨BT.thirteen.1, BT.thirteen.2.1, BT.thirteen.2.2.1, BT.thirteen.2.2.2.1, BT.thirteen.2.2.2.2.1, BT.thirteen.2.2.2.2.2.1, BT.thirteen.2.2.2.2.2.2.1, BT.thirteen.2.2.2.2.2.2.2.1, BT.thirteen.2.2.2.2.2.2.2.2.1, BT.thirteen.2.2.2.2.2.2.2.2.2.1, BT.thirteen.2.2.2.2.2.2.2.2.2.2.1, BT.thirteen.2.2.2.2.2.2.2.2.2.2.2.1, BT.thirteen.2.2.2.2.2.2.2.2.2.2.2.2.1⟩
    refine wpAnyH_take (i := 0) (oi := ⟨some 13, _, _, _, _, _⟩) (v := ?_) rfl (by kernel_rfl) (by kernel_rfl) (by kernel_rfl) (fun _ _ _ h => h) (Or.inl ⟨by rfl, ?_⟩) (by assumption) ?_
    rotate_left
    · intro w hSw; (try dsimp only at hSw); go_simp; (try (with_reducible rfl))
    try simp only [Act.put, List.setIfInBounds_toArray, List.set_cons_zero, List.set_cons_succ]
    refine wpAnyH_take (i := 1) (oi := ⟨some 14, _, _, _, _, _⟩) (v := ?_) rfl (by kernel_rfl) (by kernel_rfl) (by kernel_rfl) (fun _ _ _ h => h) (Or.inl ⟨by rfl, ?_⟩) (by assumption) ?_
    rotate_left
    · intro w hSw; (try dsimp only at hSw); go_simp; (try (with_reducible rfl))
    try simp only [Act.put, List.setIfInBounds_toArray, List.set_cons_zero, List.set_cons_succ]
    refine wpAnyH_take (i := 2) (oi := ⟨some 15, _, _, _, _, _⟩) (v := ?_) rfl (by kernel_rfl) (by kernel_rfl) (by kernel_rfl) (fun _ _ _ h => h) (Or.inl ⟨by rfl, ?_⟩) (by assumption) ?_
    rotate_left
    · intro w hSw; (try dsimp only at hSw); go_simp; (try (with_reducible rfl))
    try simp only [Act.put, List.setIfInBounds_toArray, List.set_cons_zero, List.set_cons_succ]
    refine wpAnyH_take (i := 3) (oi := ⟨some 16, _, _, _, _, _⟩) (v := ?_) rfl (by kernel_rfl) (by kernel_rfl) (by kernel_rfl) (fun _ _ _ h => h) (Or.inl ⟨by rfl, ?_⟩) (by assumption) ?_
    rotate_left
    · intro w hSw; (try dsimp only at hSw); go_simp; (try (with_reducible rfl))
    try simp only [Act.put, List.setIfInBounds_toArray, List.set_cons_zero, List.set_cons_succ]
    refine wpAnyH_take (i := 4) (oi := ⟨some 17, _, _, _, _, _⟩) (v := ?_) rfl (by kernel_rfl) (by kernel_rfl) (by kernel_rfl) (fun _ _ _ h => h) (Or.inl ⟨by rfl, ?_⟩) (by assumption) ?_
    rotate_left
    · intro w hSw; (try dsimp only at hSw); go_simp; (try (with_reducible rfl))
    try simp only [Act.put, List.setIfInBounds_toArray, List.set_cons_zero, List.set_cons_succ]
    refine wpAnyH_take (i := 5) (oi := ⟨some 18, _, _, _, _, _⟩) (v := ?_) rfl (by kernel_rfl) (by kernel_rfl) (by kernel_rfl) (fun _ _ _ h => h) (Or.inl ⟨by rfl, ?_⟩) (by assumption) ?_
    rotate_left
    · intro w hSw; (try dsimp only at hSw); go_simp; (try (with_reducible rfl))
    try simp only [Act.put, List.setIfInBounds_toArray, List.set_cons_zero, List.set_cons_succ]
    refine wpAnyH_take (i := 6) (oi := ⟨some 19, _, _, _, _, _⟩) (v := ?_) rfl (by kernel_rfl) (by kernel_rfl) (by kernel_rfl) (fun _ _ _ h => h) (Or.inl ⟨by rfl, ?_⟩) (by assumption) ?_
    rotate_left
    · intro w hSw; (try dsimp only at hSw); go_simp; (try (with_reducible rfl))
    try simp only [Act.put, List.setIfInBounds_toArray, List.set_cons_zero, List.set_cons_succ]
    refine wpAnyH_take (i := 7) (oi := ⟨some 20, _, _, _, _, _⟩) (v := ?_) rfl (by kernel_rfl) (by kernel_rfl) (by kernel_rfl) (fun _ _ _ h => h) (Or.inl ⟨by rfl, ?_⟩) (by assumption) ?_
    rotate_left
    · intro w hSw; (try dsimp only at hSw); go_simp; (try (with_reducible rfl))
    try simp only [Act.put, List.setIfInBounds_toArray, List.set_cons_zero, List.set_cons_succ]
    refine wpAnyH_take (i := 8) (oi := ⟨some 21, _, _, _, _, _⟩) (v := ?_) rfl (by kernel_rfl) (by kernel_rfl) (by kernel_rfl) (fun _ _ _ h => h) (Or.inl ⟨by rfl, ?_⟩) (by assumption) ?_
    rotate_left
    · intro w hSw; (try dsimp only at hSw); go_simp; (try (with_reducible rfl))
    try simp only [Act.put, List.setIfInBounds_toArray, List.set_cons_zero, List.set_cons_succ]
    refine wpAnyH_take (i := 9) (oi := ⟨some 22, _, _, _, _, _⟩) (v := ?_) rfl (by kernel_rfl) (by kernel_rfl) (by kernel_rfl) (fun _ _ _ h => h) (Or.inl ⟨by rfl, ?_⟩) (by assumption) ?_
    rotate_left
    · intro w hSw; (try dsimp only at hSw); go_simp; (try (with_reducible rfl))
    try simp only [Act.put, List.setIfInBounds_toArray, List.set_cons_zero, List.set_cons_succ]
    refine wpAnyH_take (i := 10) (oi := ⟨some 23, _, _, _, _, _⟩) (v := ?_) rfl (by kernel_rfl) (by kernel_rfl) (by kernel_rfl) (fun _ _ _ h => h) (Or.inl ⟨by rfl, ?_⟩) (by assumption) ?_
    rotate_left
    · intro w hSw; (try dsimp only at hSw); go_simp; (try (with_reducible rfl))
    try simp only [Act.put, List.setIfInBounds_toArray, List.set_cons_zero, List.set_cons_succ]
    refine wpAnyH_take (i := 11) (oi := ⟨some 24, _, _, _, _, _⟩) (v := ?_) rfl (by kernel_rfl) (by kernel_rfl) (by kernel_rfl) (fun _ _ _ h => h) (Or.inl ⟨by rfl, ?_⟩) (by assumption) ?_
    rotate_left
    · intro w hSw; (try dsimp only at hSw); go_simp; (try (with_reducible rfl))
    try simp only [Act.put, List.setIfInBounds_toArray, List.set_cons_zero, List.set_cons_succ]
    refine wpAnyH_take (i := 12) (oi := ⟨some 25, _, _, _, _, _⟩) (v := ?_) rfl (by kernel_rfl) (by kernel_rfl) (by kernel_rfl) (fun _ _ _ h => h) (Or.inl ⟨by rfl, ?_⟩) (by assumption) ?_
    rotate_left
    · intro w hSw; (try dsimp only at hSw); go_simp; (try (with_reducible rfl))
    try simp only [Act.put, List.setIfInBounds_toArray, List.set_cons_zero, List.set_cons_succ]
    refine wpAnyH_take (i := 13) (oi := ⟨some 26, _, _, _, _, _⟩) (v := ?_) rfl (by kernel_rfl) (by kernel_rfl) (by kernel_rfl) (fun _ _ _ h => h) (Or.inl ⟨by rfl, ?_⟩) (by assumption) ?_
    rotate_left
    · intro w hSw; (try dsimp only at hSw); go_simp; (try (with_reducible rfl))
    try simp only [Act.put, List.setIfInBounds_toArray, List.set_cons_zero, List.set_cons_succ]
    refine wpAnyH_ready (rs := [14]) (by kernel_rfl) (by simp) ?_
    refine AllReadyH.cons (o := ⟨some 27, _, _, _, _, _⟩) rfl (fun K hK => ?_) AllReadyH.nil
    go_simp
    refine (HRF.out _ hW hRR).mono ?_
    rintro e wa ⟨q, l, rfl, hq, hO0, hnl, hrw, hb5⟩
    have hz5 := hb5.size
    replace BT := BT.below hb5
    replace hcur := hcur.below hb5
    have hbF := chain hb hb5
    have hO := hO0.mono hb.size
    clear hO0
    (try go_wp2_with fail)
    refine hK.out _ _ ⟨BT.thirteen.1, BT.thirteen.2.1, BT.thirteen.2.2.1, BT.thirteen.2.2.2.1, BT.thirteen.2.2.2.2.1, BT.thirteen.2.2.2.2.2.1, BT.thirteen.2.2.2.2.2.2.1, BT.thirteen.2.2.2.2.2.2.2.1, BT.thirteen.2.2.2.2.2.2.2.2.1, BT.thirteen.2.2.2.2.2.2.2.2.2.1, BT.thirteen.2.2.2.2.2.2.2.2.2.2.1, BT.thirteen.2.2.2.2.2.2.2.2.2.2.2.1, BT.thirteen.2.2.2.2.2.2.2.2.2.2.2.2.1⟩ (fun hHeld => ?_)
    clear hK K
    try simp only [Act.put, List.setIfInBounds_toArray, List.set_cons_zero, List.set_cons_succ]
    refine wpAnyH_take (i := 15) (oi := ⟨some 28, _, _, _, _, _⟩) (v := ?_) rfl (by kernel_rfl) (by kernel_rfl) (by kernel_rfl) (fun _ _ _ h => h) (Or.inl ⟨by rfl, ?_⟩) (by assumption) ?_
    rotate_left
    · intro w hSw; (try dsimp only at hSw); go_simp; (try (with_reducible rfl))
    try simp only [Act.put, List.setIfInBounds_toArray, List.set_cons_zero, List.set_cons_succ]
    refine wpAnyH_ready (rs := [16]) (by kernel_rfl) (by simp) ?_
    refine AllReadyH.cons (o := ⟨none, _, _, _, _, _⟩) rfl (fun K hK => ?_) AllReadyH.nil
    have m0 : wa.cell? ⟨t.gR, X, none⟩ = some (.slice none 0 0) := by rw [hcur.cell X, HV0.out]
    have mf := hcur.free X
    have HBS := Lib.hid (show Blk (wa.setCell ⟨t.gR, X, none⟩ (.slice (some ⟨q, 0, none⟩) n n)) t.g #[.int .i64 t.p, .int .i64 t.c, .int .i64 t.h, .int .i64 (t.S : Int), .pointer (some ⟨t.gw, 0, none⟩), .map (some t.b), .slice (some ⟨gr, 0, none⟩) n t.kr, .int .i64 (dm t.S : Int), .int .i64 (tp t.S), .int .i64 0, .int .i64 (t.K : Int), .slice (some ⟨t.gR, 0, none⟩) t.K t.K, .slice (some ⟨t.gC, 0, none⟩) (t.K * t.K) (t.K * t.K)] 84 from BT.other (BT.ne hcur (by decide)))
    go_simp
    (try go_wp2_with fail)
    refine hK.out _ _ ⟨HBS.out.thirteen.1, HBS.out.thirteen.2.1, HBS.out.thirteen.2.2.1, HBS.out.thirteen.2.2.2.1, HBS.out.thirteen.2.2.2.2.1, HBS.out.thirteen.2.2.2.2.2.1, HBS.out.thirteen.2.2.2.2.2.2.1, HBS.out.thirteen.2.2.2.2.2.2.2.1, HBS.out.thirteen.2.2.2.2.2.2.2.2.1, HBS.out.thirteen.2.2.2.2.2.2.2.2.2.1, HBS.out.thirteen.2.2.2.2.2.2.2.2.2.2.1, HBS.out.thirteen.2.2.2.2.2.2.2.2.2.2.2.1, HBS.out.thirteen.2.2.2.2.2.2.2.2.2.2.2.2.1⟩ (fun hHeld => ?_)
    clear hK K
    try simp only [Act.put, List.setIfInBounds_toArray, List.set_cons_zero, List.set_cons_succ]
    refine wpAnyH_done (by kernel_rfl) ?_ _
    clear hHeld
    have hM : Mid t w wa X cur (.slice none 0 0) (.slice (some ⟨q, 0, none⟩) n n) l := ⟨Gr.of hbF, by rw [set_same HV0.out]; exact hcur, hO, hrw⟩
    have hMs := hM.store hRlt
    have hnl2 : nmQ l = (rollsTo t.S).map (nmR t xs) := by rw [hnl, HRL.out]
    have BT2 := HBT.out _ (midT hMs HTS.out HTT.out)
    have cX2 := midCell hMs hXk
    have hdone := Mid.done (xs := xs) (cur := cur) (v := .slice (some ⟨q, 0, none⟩) n n) (l := l) (by rw [HX.out]; exact hMs) HIN.out HIx.out HS.out.1 HCU0.out HOLD.out hnl2
    have HGA : Hid (GA t w (wa.setCell ⟨t.gR, X, none⟩ (.slice (some ⟨q, 0, none⟩) n n))) := Lib.hid ⟨hMs.gr.weak, fun z hz a => a.same (by obtain ⟨⟨cR, bR⟩, ⟨cC, bC⟩⟩ := HTT.out; exact hMs.gr.block _ bC.lt (bC.ne bR (by decide)) (bC.ne bR (by decide)))⟩
    have HDN := Lib.hid hdone
    have HNL := Lib.hid hnl2
    have HRW := Lib.hid hMs.rows
    clear hdone hnl2 hM hMs hnl hrw hO hcur BT
    generalize (wa.setCell ⟨t.gR, X, none⟩ (.slice (some ⟨q, 0, none⟩) n n)) = W at *
    have BT := BT2
    obtain ⟨c0, c1, c2, c3, c4, c5, c6, c7, c8, c9, c10, c11, c12, cf, cl⟩ := BT.thirteen
    go_wp2_with fail
    go_ret
    obtain ⟨hI2, q2, k2, e2, hQ2⟩ := HDN.out
    rw [HRL.out, HN.out] at e2
    injection e2 with e3 e4 e5
    injection e3 with e6
    injection e6 with e7
    subst e7
    exact ⟨q, n, l, rfl, hQ2, by have := HNL.out; rw [HRL.out] at this; exact this, HRW.out, hI2, HGA.out⟩
def PGot (t : Tb) (p : Option Int) (w : World) (e : Ending) (w' : World) : Prop := ∃ y cd, e = .returned (.agg #[.int .i64 y, .int .i64 cd]) ∧ PV t.S p y cd ∧ TabI t w' ∧ GA t w w'
theorem Aw.drew {t : Tb} {w : World} {z : Nat} (h : Aw t w z) : Aw t w.drew z := h
def WinOk (t : Tb) (n : Int) : Prop := ∀ (xs ys : List Int) (X Y : Nat) (w : World), TabI t w → t.In xs → t.In ys → nm t.c xs = X → nm t.c ys = Y → pwT xs + pwT ys < n →
  Calls Tryz.prog 57 #[.pointer (some ⟨t.g, 0, none⟩), .int .i64 X, .int .i64 Y] w (PGot t (wc t.S xs ys) w)
set_option maxRecDepth 8000 in
set_option maxHeartbeats 1000000 in
theorem after_any (t : Tb) (hS : 1 ≤ t.S ∧ t.S ≤ 6) (n : Int) (IH : WinOk t n) (zs ys : List Int) (Z Y : Nat) (w : World) (hI : TabI t w) (hz : t.In zs) (hy : t.In ys) (eZ : nm t.c zs = Z) (eY : nm t.c ys = Y) (hlt : pwT ys + pwT zs < n) :
    Calls Tryz.prog 51 #[.pointer (some ⟨t.g, 0, none⟩), .int .i64 Z, .int .i64 Y] w (PGot t ((wc t.S ys zs).map fun x => tp t.S - x) w) := by
  have htp := tp_in hS
  have hin : ∀ x, wc t.S ys zs = some x → 0 ≤ x ∧ x ≤ tp t.S := fun x h => by
    obtain ⟨a1, a2, a3, -⟩ := hy.1.po
    exact wc_in hS a2 a3 a1 hz.1.po.1 h
  have BZ := Blk.new w #[.int .i64 0, .int .i64 0] 73
  have hal : Below w.heap.size w (w.alloc (.cells #[.int .i64 0, .int .i64 0] 73)) := (Below.refl _ _).alloc (Nat.le_refl _) _
  have hAw := (Aw.fresh hI.ch (Nat.le_refl w.heap.size)).below hal
  replace hI := hI.below hal
  have hg : GA t w (w.alloc (.cells #[.int .i64 0, .int .i64 0] 73)) := GA.of hal
  obtain ⟨z, hzz⟩ : ∃ z, w.heap.size = z := ⟨_, rfl⟩
  have hzw : w.heap.size ≤ z := by omega
  have hz1 : z < (w.alloc (.cells #[.int .i64 0, .int .i64 0] 73)).heap.size := by simp; omega
  go_enter Tryz.func51, Tryz.ntmps51
  go_wp2_with fail
  rw [hzz] at BZ hAw
  (try rw [hzz])
  generalize (w.alloc (.cells #[.int .i64 0, .int .i64 0] 73)) = w1 at *
  clear hal hzz
  replace hI := hI.drew
  replace hAw := hAw.drew
  replace BZ := BZ.drew
  replace hg := hg.drew
  refine wp_region_held_drew (S := fun w' => w'.cell? ⟨t.g, 8, none⟩ = some (.int .i64 (tp t.S)) ∧ w'.cell? ⟨t.g, 9, none⟩ = some (.int .i64 0)) (by kernel_rfl) ⟨hI.st.1.thirteen.2.2.2.2.2.2.2.2.1, hI.st.1.thirteen.2.2.2.2.2.2.2.2.2.1⟩ (fun hHeld => ?_)
  clear hHeld
  have hz_vd : w1.drew.heap.size = w1.heap.size := rfl
  generalize w1.drew = vd at *
  have hHeld : vd.cell? ⟨t.g, 8, none⟩ = some (.int .i64 (tp t.S)) ∧ vd.cell? ⟨t.g, 9, none⟩ = some (.int .i64 0) := ⟨hI.st.1.thirteen.2.2.2.2.2.2.2.2.1, hI.st.1.thirteen.2.2.2.2.2.2.2.2.2.1⟩
  refine wpAnyH_take (i := 0) (oi := ⟨some 7, _, _, _, _, _⟩) (v := ?_) rfl (by kernel_rfl) (by kernel_rfl) (by kernel_rfl) (fun _ _ _ h => h) (Or.inl ⟨by rfl, ?_⟩) (by assumption) ?_
  rotate_left
  · intro w hSw; (try dsimp only at hSw); go_simp; (try (with_reducible rfl))
  try simp only [Act.put, List.setIfInBounds_toArray, List.set_cons_zero, List.set_cons_succ]
  refine wpAnyH_take (i := 1) (oi := ⟨some 8, _, _, _, _, _⟩) (v := ?_) rfl (by kernel_rfl) (by kernel_rfl) (by kernel_rfl) (fun _ _ _ h => h) (Or.inl ⟨by rfl, ?_⟩) (by assumption) ?_
  rotate_left
  · intro w hSw; (try dsimp only at hSw); go_simp; (try (with_reducible rfl))
  try simp only [Act.put, List.setIfInBounds_toArray, List.set_cons_zero, List.set_cons_succ]
  refine wpAnyH_take (i := 2) (oi := ⟨some 9, _, _, _, _, _⟩) (v := ?_) rfl (by kernel_rfl) (by kernel_rfl) (by kernel_rfl) (fun _ _ _ h => h) (Or.inl ⟨by rfl, ?_⟩) (by assumption) ?_
  rotate_left
  · intro w hSw; (try dsimp only at hSw); go_simp; (try (with_reducible rfl))
  try simp only [Act.put, List.setIfInBounds_toArray, List.set_cons_zero, List.set_cons_succ]
  refine wpAnyH_take (i := 3) (oi := ⟨some 10, _, _, _, _, _⟩) (v := ?_) rfl (by kernel_rfl) (by kernel_rfl) (by kernel_rfl) (fun _ _ _ h => h) (Or.inl ⟨by rfl, ?_⟩) (by assumption) ?_
  rotate_left
  · intro w hSw; (try dsimp only at hSw); go_simp; (try (with_reducible rfl))
  try simp only [Act.put, List.setIfInBounds_toArray, List.set_cons_zero, List.set_cons_succ]
  refine wpAnyH_take (i := 4) (oi := ⟨some 11, _, _, _, _, _⟩) (v := ?_) rfl (by kernel_rfl) (by kernel_rfl) (by kernel_rfl) (fun _ _ _ h => h) (Or.inl ⟨by rfl, ?_⟩) (by assumption) ?_
  rotate_left
  · intro w hSw; (try dsimp only at hSw); go_simp; (try (with_reducible rfl))
  try simp only [Act.put, List.setIfInBounds_toArray, List.set_cons_zero, List.set_cons_succ]
  refine wpAnyH_take (i := 5) (oi := ⟨some 12, _, _, _, _, _⟩) (v := ?_) rfl (by kernel_rfl) (by kernel_rfl) (by kernel_rfl) (fun _ _ _ h => h) (Or.inl ⟨by rfl, ?_⟩) (by assumption) ?_
  rotate_left
  · intro w hSw; (try dsimp only at hSw); go_simp; (try (with_reducible rfl))
  try simp only [Act.put, List.setIfInBounds_toArray, List.set_cons_zero, List.set_cons_succ]
  refine wpAnyH_take (i := 6) (oi := ⟨some 13, _, _, _, _, _⟩) (v := ?_) rfl (by kernel_rfl) (by kernel_rfl) (by kernel_rfl) (fun _ _ _ h => h) (Or.inl ⟨by rfl, ?_⟩) (by assumption) ?_
  rotate_left
  · intro w hSw; (try dsimp only at hSw); go_simp; (try (with_reducible rfl))
  try simp only [Act.put, List.setIfInBounds_toArray, List.set_cons_zero, List.set_cons_succ]
  refine wpAnyH_ready (rs := [7]) (by kernel_rfl) (by simp) ?_
  refine AllReadyH.cons (o := ⟨some 14, _, _, _, _, _⟩) rfl (fun K hK => ?_) AllReadyH.nil
  go_simp
  refine (IH ys zs Y Z _ hI hy hz eY eZ hlt).mono ?_
  rintro e wa ⟨y, cd, rfl, hp, hI2, hga⟩
  have hb := hp.in hin
  have hsz := hga.gr.size
  have hAw2 := hga.aw _ (by omega) hAw
  have BZ2 := hI.blk hga BZ
  have hg2 := hg.trans hga
  clear hI BZ hAw hg
  rename TabI t wa => hI
  rename Aw t wa z => hAw
  rename Blk wa z #[.int .i64 0, .int .i64 0] 73 => BZ
  rename GA t w wa => hg
  clear hga
  (try go_wp2_with fail)
  refine hK.out _ _ ⟨hI.st.1.thirteen.2.2.2.2.2.2.2.2.1, hI.st.1.thirteen.2.2.2.2.2.2.2.2.2.1⟩ (fun hHeld => ?_)
  clear hK K
  try simp only [Act.put, List.setIfInBounds_toArray, List.set_cons_zero, List.set_cons_succ]
  refine wpAnyH_ready (rs := [8]) (by kernel_rfl) (by simp) ?_
  refine AllReadyH.cons (o := ⟨some 15, _, _, _, _, _⟩) rfl (fun K hK => ?_) AllReadyH.nil
  go_simp
  refine (minus_any (tp t.S) 0 y cd _ (by omega)).mono ?_
  rintro e wb ⟨rfl, hbm⟩
  have hsm := hbm.size
  replace hI := hI.below hbm
  replace hAw := hAw.below hbm
  replace BZ := BZ.below hbm
  replace hg := hg.then hbm
  clear hbm
  have hq := PV.flip hS hp
  obtain ⟨Q1, hQ1⟩ : ∃ x, tp t.S - y = x := ⟨_, rfl⟩
  obtain ⟨Q2, hQ2⟩ : ∃ x, (if (0 : Int) ≠ 0 then 0 else cd) = x := ⟨_, rfl⟩
  rw [hQ1, hQ2] at hq
  rw [hQ1, hQ2]
  have HQ := Lib.hid hq
  clear hq hQ1 hQ2 hp hb
  (try go_wp2_with fail)
  refine hK.out _ _ ⟨hI.st.1.thirteen.2.2.2.2.2.2.2.2.1, hI.st.1.thirteen.2.2.2.2.2.2.2.2.2.1⟩ (fun hHeld => ?_)
  clear hK K
  try simp only [Act.put, List.setIfInBounds_toArray, List.set_cons_zero, List.set_cons_succ]
  refine wpAnyH_ready (rs := [9]) (by kernel_rfl) (by simp) ?_
  refine AllReadyH.cons (o := ⟨none, _, _, _, _, _⟩) rfl (fun K hK => ?_) AllReadyH.nil
  have z0 := BZ.two.1
  have z1 := BZ.two.2.1
  have zf := BZ.two.2.2.1
  have zl := BZ.two.2.2.2
  have hI3 := (hI.away (o := 0) (u := .int .i64 Q1) hAw BZ).away (o := 1) (u := .int .i64 Q2) (hAw.away BZ) (BZ.set (i := 0) (.int .i64 Q1))
  have HI3 := Lib.hid hI3
  have HG3 := Lib.hid ((hg.away (o := 0) (u := .int .i64 Q1) hzw BZ).away (o := 1) (u := .int .i64 Q2) hzw (BZ.set (i := 0) (.int .i64 Q1)))
  have BZn := (BZ.set (i := 0) (.int .i64 Q1)).set (i := 1) (.int .i64 Q2)
  simp only [List.setIfInBounds_toArray, List.set_cons_zero, List.set_cons_succ] at BZn
  have HBZ := Lib.hid BZn
  clear hI3 BZn
  go_simp
  (try go_wp2_with fail)
  refine hK.out _ _ ⟨HI3.out.st.1.thirteen.2.2.2.2.2.2.2.2.1, HI3.out.st.1.thirteen.2.2.2.2.2.2.2.2.2.1⟩ (fun hHeld => ?_)
  clear hK K
  try simp only [Act.put, List.setIfInBounds_toArray, List.set_cons_zero, List.set_cons_succ]
  refine wpAnyH_done (by kernel_rfl) ?_ _
  clear hHeld
  go_wp2_with fail
  obtain ⟨t0, t1, tf, tl⟩ := HBZ.out.two
  refine bodyPost_ret (v := .agg #[.int .i64 Q1, .int .i64 Q2]) (by simp [results, Tryz.results51, go_sem, t0, t1]) rfl ?_
  exact ⟨Q1, Q2, rfl, HQ.out, HI3.out, HG3.out⟩
end Go.Proofs.YtfomfbfcnenhbaaGreat
