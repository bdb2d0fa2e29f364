/- Contracts of what an action leads to, of the program and of its model. -/
import Derived.Test.Ytkcjbjkccafekaa16g
import Derived.RangeFuncNested
import Derived.RangeFuncBound
import Derived.RangeFuncCalls
import Derived.RangeFuncLeaves
import Derived.Shelf.Abstract
import Derived.Shelf.RegionOpen
import Derived.WalkKit
import Derived.OwnWalkIn
import Derived.TacticsInMore
import Derived.LoopNIn
import Derived.LoopIn
import Derived.Maps.AppendAt
import Derived.RangeFuncBox
namespace Go.Proofs.Ytkcjbjkccafekaa
open Go.ChangeShapes Go.WideShapes Go.ChangeAt Go.RowKit Go.Shelf
attribute [local go_sem] Oper.semAt_some
set_option linter.unusedVariables false
set_option linter.unusedSimpArgs false
set_option maxRecDepth 4000

theorem six_new (w : World) (v1 v2 v3 v4 v5 v6 : Array Value) (t1 t2 t3 t4 t5 t6 : TypeId) :
    Blk ((((((w.alloc (.cells v1 t1)).alloc (.cells v2 t2)).alloc (.cells v3 t3)).alloc (.cells v4 t4)).alloc (.cells v5 t5)).alloc (.cells v6 t6)) w.heap.size v1 t1 ∧
    Blk ((((((w.alloc (.cells v1 t1)).alloc (.cells v2 t2)).alloc (.cells v3 t3)).alloc (.cells v4 t4)).alloc (.cells v5 t5)).alloc (.cells v6 t6)) (w.heap.size + 1) v2 t2 ∧
    Blk ((((((w.alloc (.cells v1 t1)).alloc (.cells v2 t2)).alloc (.cells v3 t3)).alloc (.cells v4 t4)).alloc (.cells v5 t5)).alloc (.cells v6 t6)) (w.heap.size + 1 + 1) v3 t3 ∧
    Blk ((((((w.alloc (.cells v1 t1)).alloc (.cells v2 t2)).alloc (.cells v3 t3)).alloc (.cells v4 t4)).alloc (.cells v5 t5)).alloc (.cells v6 t6)) (w.heap.size + 1 + 1 + 1) v4 t4 ∧
    Blk ((((((w.alloc (.cells v1 t1)).alloc (.cells v2 t2)).alloc (.cells v3 t3)).alloc (.cells v4 t4)).alloc (.cells v5 t5)).alloc (.cells v6 t6)) (w.heap.size + 1 + 1 + 1 + 1) v5 t5 ∧
    Blk ((((((w.alloc (.cells v1 t1)).alloc (.cells v2 t2)).alloc (.cells v3 t3)).alloc (.cells v4 t4)).alloc (.cells v5 t5)).alloc (.cells v6 t6)) (w.heap.size + 1 + 1 + 1 + 1 + 1) v6 t6 ∧
    Below w.heap.size w ((((((w.alloc (.cells v1 t1)).alloc (.cells v2 t2)).alloc (.cells v3 t3)).alloc (.cells v4 t4)).alloc (.cells v5 t5)).alloc (.cells v6 t6)) := by
  obtain ⟨a1, a2, a3, hb, hz⟩ := three_new w v1 v2 v3 t1 t2 t3
  obtain ⟨b1, b2, b3, hb2, hz2⟩ := three_new (((w.alloc (.cells v1 t1)).alloc (.cells v2 t2)).alloc (.cells v3 t3)) v4 v5 v6 t4 t5 t6
  rw [hz] at b1 b2 b3
  exact ⟨a1.below hb2, a2.below hb2, a3.below hb2, b1, b2, b3, chain hb hb2⟩
theorem Blk.keptC {A B : World} {g : Nat} {vs : Array Value} {t : TypeId} {row : Option Nat} (h : Blk A g vs t) (hg : A.grownBy B row) (hr : ∀ r, row = some r → ∃ o : Obj, A.heap[r]? = some o ∧ o.isCells = false) : Blk B g vs t := by
  refine (hg.block g h.lt (fun e => ?_)).trans h
  obtain ⟨o, h1, h2⟩ := hr g e.symm
  have h' : A.heap[g]? = some (.cells vs t (0, 0)) := h
  rw [h'] at h1
  cases h1
  cases h2
theorem Blk.putD {X : World} {g l : Nat} {vs : Array Value} {t : TypeId} {o o' : Obj} (h : Blk X g vs t) (hl : X.heap[l]? = some o) (ho : o.isCells = false) : Blk (X.putObj l o') g vs t :=
  h.keptC (grownBy_putObj' X l o') (fun r e => by cases e; exact ⟨o, hl, ho⟩)
theorem aaV_bad {m : Int} {be : Bool} {v o a : Int} (g : cbB m v o = false) : aaV m be v o a = (0, 0, 0, 1) := by simp [aaV, g]
theorem aaV_range {m : Int} {be : Bool} {v o a : Int} (g : cbB m v o = true) (h : posB m be v o a = false) : aaV m be v o a = (0, 0, 0, 2) := by simp [aaV, g, h]
theorem aaV_ok {m : Int} {be : Bool} {v o a : Int} (g : cbB m v o = true) (h : posB m be v o a = true) : aaV m be v o a = ((aaR v o a).1, (aaR v o a).2.1, (aaR v o a).2.2, 0) := by
  unfold aaV aaR
  rw [if_neg (by simp [g]), if_neg (by simp [h])]
  by_cases h0 : a = 0
  · simp [h0]
  · by_cases h2 : a = 2
    · simp [h2]
    · simp [h0, h2]
theorem stored6 {w W : World} (BZ : Blk W (w.heap.size + 1 + 1 + 1) #[.int .i64 0, .int .i64 0] 27) (BP : Blk W (w.heap.size + 1 + 1 + 1 + 1) #[.int .i64 0] 2) (BE : Blk W (w.heap.size + 1 + 1 + 1 + 1 + 1) #[.int .i64 0] 2) (hb : Below w.heap.size w W) (r1 r2 r3 r4 : Int) :
    (Blk (((((W.setCell ⟨w.heap.size + 1 + 1 + 1, 0, none⟩ (.int .i64 r1)).setCell ⟨w.heap.size + 1 + 1 + 1, 1, none⟩ (.int .i64 r2)).setCell ⟨w.heap.size + 1 + 1 + 1 + 1, 0, none⟩ (.int .i64 r3)).setCell ⟨w.heap.size + 1 + 1 + 1 + 1 + 1, 0, none⟩ (.int .i64 r4))) (w.heap.size + 1 + 1 + 1) #[.int .i64 r1, .int .i64 r2] 27 ∧ Blk (((((W.setCell ⟨w.heap.size + 1 + 1 + 1, 0, none⟩ (.int .i64 r1)).setCell ⟨w.heap.size + 1 + 1 + 1, 1, none⟩ (.int .i64 r2)).setCell ⟨w.heap.size + 1 + 1 + 1 + 1, 0, none⟩ (.int .i64 r3)).setCell ⟨w.heap.size + 1 + 1 + 1 + 1 + 1, 0, none⟩ (.int .i64 r4))) (w.heap.size + 1 + 1 + 1 + 1) #[.int .i64 r3] 2 ∧ Blk (((((W.setCell ⟨w.heap.size + 1 + 1 + 1, 0, none⟩ (.int .i64 r1)).setCell ⟨w.heap.size + 1 + 1 + 1, 1, none⟩ (.int .i64 r2)).setCell ⟨w.heap.size + 1 + 1 + 1 + 1, 0, none⟩ (.int .i64 r3)).setCell ⟨w.heap.size + 1 + 1 + 1 + 1 + 1, 0, none⟩ (.int .i64 r4))) (w.heap.size + 1 + 1 + 1 + 1 + 1) #[.int .i64 r4] 2) ∧ Below w.heap.size w (((((W.setCell ⟨w.heap.size + 1 + 1 + 1, 0, none⟩ (.int .i64 r1)).setCell ⟨w.heap.size + 1 + 1 + 1, 1, none⟩ (.int .i64 r2)).setCell ⟨w.heap.size + 1 + 1 + 1 + 1, 0, none⟩ (.int .i64 r3)).setCell ⟨w.heap.size + 1 + 1 + 1 + 1 + 1, 0, none⟩ (.int .i64 r4))) ∧ KeepsOthers W (((((W.setCell ⟨w.heap.size + 1 + 1 + 1, 0, none⟩ (.int .i64 r1)).setCell ⟨w.heap.size + 1 + 1 + 1, 1, none⟩ (.int .i64 r2)).setCell ⟨w.heap.size + 1 + 1 + 1 + 1, 0, none⟩ (.int .i64 r3)).setCell ⟨w.heap.size + 1 + 1 + 1 + 1 + 1, 0, none⟩ (.int .i64 r4))) := by
  have q1 : Blk ((W.setCell ⟨w.heap.size + 1 + 1 + 1, 0, none⟩ (.int .i64 r1)).setCell ⟨w.heap.size + 1 + 1 + 1, 1, none⟩ (.int .i64 r2)) (w.heap.size + 1 + 1 + 1) #[.int .i64 r1, .int .i64 r2] 27 := (BZ.set (i := 0) _).set (i := 1) _
  have q2 : Blk (((W.setCell ⟨w.heap.size + 1 + 1 + 1, 0, none⟩ (.int .i64 r1)).setCell ⟨w.heap.size + 1 + 1 + 1, 1, none⟩ (.int .i64 r2)).setCell ⟨w.heap.size + 1 + 1 + 1 + 1, 0, none⟩ (.int .i64 r3)) (w.heap.size + 1 + 1 + 1 + 1) #[.int .i64 r3] 2 := ((BP.other (by omega)).other (by omega)).set (i := 0) _
  have q3 : Blk (((((W.setCell ⟨w.heap.size + 1 + 1 + 1, 0, none⟩ (.int .i64 r1)).setCell ⟨w.heap.size + 1 + 1 + 1, 1, none⟩ (.int .i64 r2)).setCell ⟨w.heap.size + 1 + 1 + 1 + 1, 0, none⟩ (.int .i64 r3)).setCell ⟨w.heap.size + 1 + 1 + 1 + 1 + 1, 0, none⟩ (.int .i64 r4))) (w.heap.size + 1 + 1 + 1 + 1 + 1) #[.int .i64 r4] 2 := (((BE.other (by omega)).other (by omega)).other (by omega)).set (i := 0) _
  exact ⟨⟨(q1.other (by omega)).other (by omega), q2.other (by omega), q3⟩, (((hb.setCell (by show _ ≤ w.heap.size + 1 + 1 + 1; omega) _).setCell (by show _ ≤ w.heap.size + 1 + 1 + 1; omega) _).setCell (by show _ ≤ w.heap.size + 1 + 1 + 1 + 1; omega) _).setCell (by show _ ≤ w.heap.size + 1 + 1 + 1 + 1 + 1; omega) _, (((KeepsOthers.setCell _ _ _).trans (KeepsOthers.setCell _ _ _)).trans (KeepsOthers.setCell _ _ _)).trans (KeepsOthers.setCell _ _ _)⟩
set_option maxRecDepth 100000 in
set_option maxHeartbeats 2000000 in
theorem afterAction_any (m v o a : Int) (be ja : Bool) (w : World) :
    Calls Try.prog 17 #[.agg #[.int .i64 m, .bool be, .bool ja], .agg #[.int .i64 v, .int .i64 o], .int .i64 a] w fun e w' => e = .returned (.tuple #[.agg #[.int .i64 (aaV m be v o a).1, .int .i64 (aaV m be v o a).2.1], .int .i64 (aaV m be v o a).2.2.1, .int .i64 (aaV m be v o a).2.2.2]) ∧ Below w.heap.size w w' := by
  have hc := fun W => hasCube_any m v o be ja W
  have ha := fun W => actions_any m v o be ja W
  obtain ⟨BR, BC, BA, BZ, BP, BE, hb⟩ := six_new w #[.int .i64 m, .bool be, .bool ja] #[.int .i64 v, .int .i64 o] #[.int .i64 a] #[.int .i64 0, .int .i64 0] #[.int .i64 0] #[.int .i64 0] 25 27 2 27 2 2
  obtain ⟨xBR0, xBR1, xBR2, xBRf, xBRl⟩ := BR.t3
  obtain ⟨xBC0, xBC1, xBCf, xBCl⟩ := BC.two
  obtain ⟨xBA0, xBAf, xBAl⟩ := BA.one
  obtain ⟨xBZ0, xBZ1, xBZf, xBZl⟩ := BZ.two
  obtain ⟨xBP0, xBPf, xBPl⟩ := BP.one
  obtain ⟨xBE0, xBEf, xBEl⟩ := BE.one
  cases g : cbB m v o with
  | false =>
    rw [g] at hc
    rw [aaV_bad g]
    dsimp only
    have HC := Lib.hid hc
    clear hc ha g
    go_enter Try.func17, Try.ntmps17
    go_wp2_with (go_at_call 37; refine (HC.out _).mono ?_; rintro e w1 ⟨rfl, hb1⟩; obtain ⟨z0, z1, zf, zl⟩ := (BZ.below hb1).two; obtain ⟨y0, yf, yl⟩ := (BP.below hb1).one; obtain ⟨t0, tf, tl⟩ := (BE.below hb1).one)
    obtain ⟨⟨q1, q2, q3⟩, hbn, -⟩ := stored6 (BZ.below hb1) (BP.below hb1) (BE.below hb1) (chain hb hb1) 0 0 0 1
    refine bodyPost_ret (v := .tuple #[.agg #[.int .i64 0, .int .i64 0], .int .i64 0, .int .i64 1]) (by simp [results, Try.results17, go_sem, q1.two.1, q1.two.2.1, q2.one.1, q3.one.1]) rfl ?_
    exact ⟨rfl, hbn⟩
  | true =>
    have hv : 1 ≤ v ∧ v ≤ 1024 := by have := cbB_parts g; omega
    have haf := fun W => after16_any v o a W hv
    have hst := fun (B1 B2 n0 : Nat) (W : World) h1 h2 hn0 hR hC => actions1_stops m v o be ja B1 B2 n0 3 W (by omega) hv h1 h2 hn0 hR hC
    rw [g] at hc
    have hmem := @acL_mem m be v o a
    obtain ⟨L, hL⟩ : ∃ L, acL m be v o = L := ⟨_, rfl⟩
    rw [hL] at hst hmem
    have hyes : posB m be v o a = true → aaV m be v o a = ((aaR v o a).1, (aaR v o a).2.1, (aaR v o a).2.2, 0) := fun h => aaV_ok g h
    have hno : posB m be v o a = false → aaV m be v o a = (0, 0, 0, 2) := fun h => aaV_range g h
    obtain ⟨⟨r1, r2, r3⟩, hr⟩ : ∃ r, aaR v o a = r := ⟨_, rfl⟩
    rw [hr] at haf hyes
    dsimp only at haf hyes
    obtain ⟨D, hD⟩ : ∃ D, aaV m be v o a = D := ⟨_, rfl⟩
    rw [hD] at hyes hno ⊢
    have HYES := Lib.hid (fun (h : a ∈ L) => hyes (hmem.1 h))
    have HNO := Lib.hid (fun (h : ¬ a ∈ L) => hno (by cases q : posB m be v o a with
      | false => rfl
      | true => exact absurd (hmem.2 q) h))
    have HC := Lib.hid hc
    have HA := Lib.hid ha
    have HST := Lib.hid hst
    have HAF := Lib.hid haf
    clear hc ha hst haf g hv hL hr hD hmem hyes hno
    refine (callsIn_wide (n := 4)).1 ?_
    refine callsIn_of_wp_marks Try.func17 rfl trivial ?_ rfl
    simp only [Try.ntmps17, List.size_toArray, List.length_cons, List.length_nil, Nat.reduceAdd, Nat.reduceSub, Array.replicate_succ, Array.replicate_zero, List.push_toArray, List.append_toArray, List.nil_append, List.cons_append]
    gi_wp2_with (first | (refine ⟨trivial, ?_⟩; gi_at_call 37; refine (callsIn_wide.2 (HC.out _)).mono ?_; rintro e w1 ⟨rfl, hb1⟩; have hC1 := BC.below hb1; have hR1 := BR.below hb1; obtain ⟨y0, y1, y2, yf, yl⟩ := hR1.t3; obtain ⟨z0, z1, zf, zl⟩ := hC1.two) | (refine ⟨trivial, ?_⟩; gi_at_call 39; refine (callsIn_wide.2 (HA.out _)).mono ?_; rintro e w2 ⟨rfl, BR2, BC2, hb2, hz2⟩))
    have hb02 := hb1.trans (hb2.mono hb1.size)
    replace BR := BR.below hb02
    replace BC := BC.below hb02
    replace BA := BA.below hb02
    replace BZ := BZ.below hb02
    replace BP := BP.below hb02
    replace BE := BE.below hb02
    replace hb := chain hb hb02
    clear xBR0 xBR1 xBR2 xBRf xBRl xBC0 xBC1 xBCf xBCl xBA0 xBAf xBAl xBZ0 xBZ1 xBZf xBZl xBP0 xBPf xBPl xBE0 xBEf xBEl
    clear hb1 hb2 hb02 hC1 hR1 y0 y1 y2 yf yl z0 z1 zf zl
    obtain ⟨B1, hB1⟩ : ∃ B1, w1.heap.size = B1 := ⟨_, rfl⟩
    obtain ⟨B2, hB2⟩ : ∃ B2, w1.heap.size + 1 = B2 := ⟨_, rfl⟩
    rw [hB2] at BC2
    rw [hB1] at BR2
    (try rw [hB2])
    (try rw [hB1])
    have hl1 : B1 < w2.heap.size := BR2.lt
    have hl2 : B2 < w2.heap.size := BC2.lt
    have hEB := BE.lt
    clear hz2 hB1 hB2
    have hlow := fun (pre : List Int) (W : World) (x : Int) => (trivial : True)
    refine wpIn_rangeFunc_ownF rfl (by omega) (gf := 55) (lb := #[.pointer (some ⟨B1, 0, none⟩), .pointer (some ⟨B2, 0, none⟩)]) rfl trivial actions1_enter (HST.out B1 B2 w2.heap.size w2 hl1 hl2 (Nat.le_refl _) BR2 BC2) belowK_t (belowK_b (Nat.le_refl _)) (Below.refl _ _) (fun _ => rfl)
      (fun pre W => ((∀ y ∈ pre, y ≠ a) ∧ Blk W w.heap.size #[.int .i64 m, .bool be, .bool ja] 25 ∧ Blk W (w.heap.size + 1) #[.int .i64 v, .int .i64 o] 27 ∧ Blk W (w.heap.size + 1 + 1) #[.int .i64 a] 2 ∧ Blk W (w.heap.size + 1 + 1 + 1) #[.int .i64 0, .int .i64 0] 27 ∧ Blk W (w.heap.size + 1 + 1 + 1 + 1) #[.int .i64 0] 2 ∧ Blk W (w.heap.size + 1 + 1 + 1 + 1 + 1) #[.int .i64 0] 2) ∧ Below w.heap.size w W)
      (fun c pre W => (c = .ret ∧ a ∈ pre ∧ Blk W (w.heap.size + 1 + 1 + 1) #[.int .i64 r1, .int .i64 r2] 27 ∧ Blk W (w.heap.size + 1 + 1 + 1 + 1) #[.int .i64 r3] 2 ∧ Blk W (w.heap.size + 1 + 1 + 1 + 1 + 1) #[.int .i64 0] 2) ∧ Below w.heap.size w W)
      (OwnFrom.and (Go.Own.from (fun s A B row hs hg hr => ⟨hs.1, hs.2.1.keptC hg hr, hs.2.2.1.keptC hg hr, hs.2.2.2.1.keptC hg hr, hs.2.2.2.2.1.keptC hg hr, hs.2.2.2.2.2.1.keptC hg hr, hs.2.2.2.2.2.2.keptC hg hr⟩) _) (ownFrom_below (Nat.le_refl _) (by omega)))
      (fun c => OwnFrom.and (Go.Own.from (fun s A B row hs hg hr => ⟨hs.1, hs.2.1, hs.2.2.1.keptC hg hr, hs.2.2.2.1.keptC hg hr, hs.2.2.2.2.keptC hg hr⟩) _) (ownFrom_below (Nat.le_refl _) (by omega)))
      ⟨⟨by simp, BR, BC, BA, BZ, BP, BE⟩, hb⟩
      (fun x => { tmps := #[.agg #[.int .i64 m, .bool be, .bool ja], .agg #[.int .i64 v, .int .i64 o], .int .i64 a, .pointer (some ⟨w.heap.size, 0, none⟩), .pointer (some ⟨w.heap.size + 1, 0, none⟩), .pointer (some ⟨w.heap.size + 1 + 1, 0, none⟩), .pointer (some ⟨w.heap.size + 1 + 1 + 1, 0, none⟩), .pointer (some ⟨w.heap.size + 1 + 1 + 1 + 1, 0, none⟩), .pointer (some ⟨w.heap.size + 1 + 1 + 1 + 1 + 1, 0, none⟩), .int .i64 x, undef, undef, .agg #[.int .i64 m, .bool be, .bool ja], .agg #[.int .i64 v, .int .i64 o], .bool true, .bool false, undef, .agg #[.int .i64 m, .bool be, .bool ja], .agg #[.int .i64 v, .int .i64 o], .func (.func 55) #[] #[.pointer (some ⟨B1, 0, none⟩), .pointer (some ⟨B2, 0, none⟩)], .int .i64 x, undef, undef, undef, undef, undef, undef, undef, undef, undef, undef, undef, undef], defers := [] }) ?assign ?body ?done ?stop
    case assign =>
      intro l x W K hK
      gi_wp2
      exact hK
    case body =>
      clear BR BC BA BZ BP BE hb BR2 BC2 hl1 hl2 hEB HST HA HC HYES HNO
      rintro l pre x W ⟨⟨hp, BR, BC, BA, BZ, BP, BE⟩, hb⟩ _
      obtain ⟨xBR0, xBR1, xBR2, xBRf, xBRl⟩ := BR.t3
      obtain ⟨xBC0, xBC1, xBCf, xBCl⟩ := BC.two
      obtain ⟨xBA0, xBAf, xBAl⟩ := BA.one
      obtain ⟨xBZ0, xBZ1, xBZf, xBZl⟩ := BZ.two
      obtain ⟨xBP0, xBPf, xBPl⟩ := BP.one
      obtain ⟨xBE0, xBEf, xBEl⟩ := BE.one
      by_cases hx : x = a
      · subst hx
        gi_wp2_with (refine ⟨trivial, ?_⟩; gi_at_call 41; refine (CallsIn.inRound l (callsIn_wide.2 (HAF.out _))).mono ?_; rintro e w5 ⟨rfl, hb5⟩; have Z5 := BZ.below hb5; have P5 := BP.below hb5; have E5 := BE.below hb5; obtain ⟨s0, s1, sf, sl⟩ := Z5.two; obtain ⟨p0, pf, pl⟩ := P5.one; obtain ⟨e0, ef, el⟩ := E5.one; have n3 : ¬ w5.heap.size = w.heap.size + 1 + 1 + 1 := (by omega); have n4 : ¬ w5.heap.size = w.heap.size + 1 + 1 + 1 + 1 := (by omega); have n5 : ¬ w5.heap.size = w.heap.size + 1 + 1 + 1 + 1 + 1 := (by omega); have m3 : ¬ w.heap.size + 1 + 1 + 1 = w5.heap.size := (by omega); have m4 : ¬ w.heap.size + 1 + 1 + 1 + 1 = w5.heap.size := (by omega); have m5 : ¬ w.heap.size + 1 + 1 + 1 + 1 + 1 = w5.heap.size := (by omega))
        obtain ⟨⟨k1, k2, k3⟩, hbn, hk⟩ := stored6 Z5 P5 E5 (chain hb hb5) r1 r2 r3 0
        exact ⟨((KeepsOthers.of_grownBy (grown_none hb5) (fun j o e => by cases e)).trans hk).trans (KeepsOthers.alloc _ _), ⟨rfl, List.mem_append.2 (.inr (by simp)), k1.alloc _, k2.alloc _, k3.alloc _⟩, chain_alloc hbn _⟩
      · have hx1 : (x == a) = false := by rw [beq_eq_false_iff_ne]; exact hx
        have HX := Lib.hid hx
        clear hx
        gi_wp2
        exact ⟨KeepsOthers.refl _, Below.refl _ _, ⟨fun y hy => (List.mem_append.1 hy).elim (hp y) (fun e => by simp at e; subst e; exact HX.out), BR, BC, BA, BZ, BP, BE⟩, hb⟩
    case done =>
      clear BR BC BA BZ BP BE hb BR2 BC2 HST HA HC HYES
      rintro D ys W hD rfl ⟨⟨hne, BR, BC, BA, BZ, BP, BE⟩, hb⟩ hK
      obtain rfl := HNO.out (fun q => hne _ q rfl)
      clear HNO hne
      obtain ⟨xBR0, xBR1, xBR2, xBRf, xBRl⟩ := BR.t3
      obtain ⟨xBC0, xBC1, xBCf, xBCl⟩ := BC.two
      obtain ⟨xBA0, xBAf, xBAl⟩ := BA.one
      obtain ⟨xBZ0, xBZ1, xBZf, xBZl⟩ := BZ.two
      obtain ⟨xBP0, xBPf, xBPl⟩ := BP.one
      obtain ⟨xBE0, xBEf, xBEl⟩ := BE.one
      gi_wp2
      obtain ⟨⟨q1, q2, q3⟩, hbn, hk⟩ := stored6 BZ BP BE hb 0 0 0 2
      have hK' := hk.same D _ hK rfl
      refine ⟨by simp, .inl ⟨_, _, rfl, run_takeDeferred hK', ?_⟩⟩
      have q1' := q1.putD (o' := .deferred none) hK' rfl
      have q2' := q2.putD (o' := .deferred none) hK' rfl
      have q3' := q3.putD (o' := .deferred none) hK' rfl
      exact ⟨.tuple #[.agg #[.int .i64 0, .int .i64 0], .int .i64 0, .int .i64 2], by simp [results, Try.results17, go_sem, q1'.two.1, q1'.two.2.1, q2'.one.1, q3'.one.1], rfl, hbn.trans (belowK_b (w := w) (Nat.le_refl _) _ D _ _ (by omega) hK' rfl rfl)⟩
    case stop =>
      clear BR BC BA BZ BP BE hb BR2 BC2 HST HA HC HNO
      rintro D c pre W hD hpre ⟨⟨rfl, hin, q1, q2, q3⟩, hb⟩ hK
      obtain rfl := HYES.out (hpre.subset hin)
      clear HYES
      gi_wp2
      refine ⟨by simp, .inl ⟨_, _, rfl, run_takeDeferred hK, ?_⟩⟩
      have q1' := q1.putD (o' := .deferred none) hK rfl
      have q2' := q2.putD (o' := .deferred none) hK rfl
      have q3' := q3.putD (o' := .deferred none) hK rfl
      exact ⟨.tuple #[.agg #[.int .i64 r1, .int .i64 r2], .int .i64 r3, .int .i64 0], by simp [results, Try.results17, go_sem, q1'.two.1, q1'.two.2.1, q2'.one.1, q3'.one.1], rfl, hb.trans (belowK_b (w := w) (Nat.le_refl _) W D _ _ (by omega) hK rfl rfl)⟩
end Go.Proofs.Ytkcjbjkccafekaa
