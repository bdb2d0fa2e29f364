/- Contracts of ReadCube, of the program and of its model. -/
import Derived.Test.YtkcjbjkccafekaaDoor16u
import Derived.Deep.Cut
import Derived.RangeFuncNested
import Derived.RangeFuncBound
import Derived.RangeFuncCalls
import Derived.RangeFuncLeaves
import Derived.Shelf.Abstract
import Derived.Shelf.RegionOpen
import Derived.WalkKit
import Derived.OwnWalkIn
import Derived.TacticsInMore
import Derived.LoopNIn
import Derived.LoopIn
import Derived.Maps.AppendAt
import Derived.RangeFuncBox
namespace Go.Proofs.YtkcjbjkccafekaaDoor
open Go.ChangeShapes Go.WideShapes Go.ChangeAt Go.RowKit Go.Shelf
attribute [local go_sem] Oper.semAt_some
set_option linter.unusedVariables false
set_option linter.unusedSimpArgs false
set_option maxRecDepth 4000

theorem Blk.keptC {A B : World} {g : Nat} {vs : Array Value} {t : TypeId} {row : Option Nat} (h : Blk A g vs t) (hg : A.grownBy B row) (hr : ∀ r, row = some r → ∃ o : Obj, A.heap[r]? = some o ∧ o.isCells = false) : Blk B g vs t := by
  refine (hg.block g h.lt (fun e => ?_)).trans h
  obtain ⟨o, h1, h2⟩ := hr g e.symm
  have h' : A.heap[g]? = some (.cells vs t (0, 0)) := h
  rw [h'] at h1
  cases h1
  cases h2
theorem Blk.putD {X : World} {g l : Nat} {vs : Array Value} {t : TypeId} {o o' : Obj} (h : Blk X g vs t) (hl : X.heap[l]? = some o) (ho : o.isCells = false) : Blk (X.putObj l o') g vs t :=
  h.keptC (grownBy_putObj' X l o') (fun r e => by cases e; exact ⟨o, hl, ho⟩)
/-- The text of a cube as a value. -/
def ctB (x : CuS) : ByteArray := ⟨(ctL x.1.1 x.1.2).toArray⟩
/-- The cube that a text names. -/
def rcF (S : ByteArray) : Option CuS := (cuS 33).find? (fun y => decide (ctB y = S))
def rcV (S : ByteArray) : Int × Int × Bool := match rcF S with | some y => (y.1.1, y.1.2, true) | none => (0, 0, false)
theorem rcV_none {S : ByteArray} (h : ∀ y ∈ cuS 33, ctB y ≠ S) : rcV S = (0, 0, false) := by
  unfold rcV rcF
  rw [List.find?_eq_none.2 (fun y hy => by simpa using h y hy)]
theorem rcV_some {S : ByteArray} {pre : List CuS} {y : CuS} (hp : pre ++ [y] <+: cuS 33) (h : ∀ z ∈ pre, ctB z ≠ S) (hy : ctB y = S) : rcV S = (y.1.1, y.1.2, true) := by
  obtain ⟨r, hr⟩ := hp
  unfold rcV rcF
  rw [← hr, List.append_assoc, List.find?_append, List.find?_eq_none.2 (fun z hz => by simpa using h z hz)]
  simp [hy]
theorem cu_in (x : CuS) : (1 ≤ x.1.1 ∧ x.1.1 ≤ 1024) ∧ 0 ≤ x.1.2 ∧ x.1.2 ≤ 2 := by
  have := cbB_parts x.2
  omega
theorem stored3 {w W : World} (BZ : Blk W (w.heap.size + 1) #[.int .i64 0, .int .i64 0] 25) (BF : Blk W (w.heap.size + 1 + 1) #[.bool false] 4) (hb : Below w.heap.size w W) (a b : Int) (q : Bool) :
    (Blk (((W.setCell ⟨w.heap.size + 1, 0, none⟩ (.int .i64 a)).setCell ⟨w.heap.size + 1, 1, none⟩ (.int .i64 b)).setCell ⟨w.heap.size + 1 + 1, 0, none⟩ (.bool q)) (w.heap.size + 1) #[.int .i64 a, .int .i64 b] 25 ∧ Blk (((W.setCell ⟨w.heap.size + 1, 0, none⟩ (.int .i64 a)).setCell ⟨w.heap.size + 1, 1, none⟩ (.int .i64 b)).setCell ⟨w.heap.size + 1 + 1, 0, none⟩ (.bool q)) (w.heap.size + 1 + 1) #[.bool q] 4) ∧
    Below w.heap.size w (((W.setCell ⟨w.heap.size + 1, 0, none⟩ (.int .i64 a)).setCell ⟨w.heap.size + 1, 1, none⟩ (.int .i64 b)).setCell ⟨w.heap.size + 1 + 1, 0, none⟩ (.bool q)) ∧ KeepsOthers W (((W.setCell ⟨w.heap.size + 1, 0, none⟩ (.int .i64 a)).setCell ⟨w.heap.size + 1, 1, none⟩ (.int .i64 b)).setCell ⟨w.heap.size + 1 + 1, 0, none⟩ (.bool q)) := by
  have q1 : Blk ((W.setCell ⟨w.heap.size + 1, 0, none⟩ (.int .i64 a)).setCell ⟨w.heap.size + 1, 1, none⟩ (.int .i64 b)) (w.heap.size + 1) #[.int .i64 a, .int .i64 b] 25 := (BZ.set (i := 0) _).set (i := 1) _
  have q2 : Blk (((W.setCell ⟨w.heap.size + 1, 0, none⟩ (.int .i64 a)).setCell ⟨w.heap.size + 1, 1, none⟩ (.int .i64 b)).setCell ⟨w.heap.size + 1 + 1, 0, none⟩ (.bool q)) (w.heap.size + 1 + 1) #[.bool q] 4 := ((BF.other (by omega)).other (by omega)).set (i := 0) _
  exact ⟨⟨q1.other (by omega), q2⟩, ((hb.setCell (by show _ ≤ w.heap.size + 1; omega) _).setCell (by show _ ≤ w.heap.size + 1; omega) _).setCell (by show _ ≤ w.heap.size + 1 + 1; omega) _, ((KeepsOthers.setCell _ _ _).trans (KeepsOthers.setCell _ _ _)).trans (KeepsOthers.setCell _ _ _)⟩
set_option maxRecDepth 100000 in
set_option maxHeartbeats 2000000 in
theorem readCube_any (S : ByteArray) (w : World) (ht : T10c w) :
    Calls Tryd.prog 9 #[.string S] w fun e w' => e = .returned (.tuple #[.agg #[.int .i64 (rcV S).1, .int .i64 (rcV S).2.1], .bool (rcV S).2.2]) ∧ Below w.heap.size w w' := by
  have hw := fun W => widest_any W
  have hcu := fun W => cubes_any W
  obtain ⟨BS, BZ, BF, hb, hz⟩ := three_new w #[.string S] #[.int .i64 0, .int .i64 0] #[.bool false] 9 25 4
  have hsome := fun (pre : List CuS) (y : CuS) => @rcV_some S pre y
  have hnone := @rcV_none S
  obtain ⟨D, hD⟩ : ∃ D, rcV S = D := ⟨_, rfl⟩
  rw [hD] at hsome hnone ⊢
  have HSOME := Lib.hid hsome
  have HNONE := Lib.hid hnone
  have HW := Lib.hid hw
  have HCU := Lib.hid hcu
  clear hsome hnone hw hcu hD hz
  refine (callsIn_wide (n := 4)).1 ?_
  refine callsIn_of_wp_marks Tryd.func9 rfl trivial ?_ rfl
  simp only [Tryd.ntmps9, List.size_toArray, List.length_cons, List.length_nil, Nat.reduceAdd, Nat.reduceSub, Array.replicate_succ, Array.replicate_zero, List.push_toArray, List.append_toArray, List.nil_append, List.cons_append]
  gi_wp2_with (first | (refine ⟨trivial, ?_⟩; gi_at_call 16; refine (callsIn_wide.2 (HW.out _)).mono ?_; rintro e w1 ⟨rfl, hb1⟩) | (refine ⟨trivial, ?_⟩; gi_at_call 19; refine (callsIn_wide.2 (HCU.out _)).mono ?_; rintro e w2 ⟨rfl, BR2, hb2, hz2⟩))
  have hb02 := hb1.trans (hb2.mono hb1.size)
  replace BS := BS.below hb02
  replace BZ := BZ.below hb02
  replace BF := BF.below hb02
  replace hb := chain hb hb02
  clear hb1 hb2 hb02 HW HCU
  obtain ⟨B1, hB1⟩ : ∃ B1, w1.heap.size = B1 := ⟨_, rfl⟩
  rw [hB1] at BR2
  (try rw [hB1])
  have hl1 : B1 < w2.heap.size := BR2.lt
  have hEB := BF.lt
  clear hz2 hB1
  refine wpIn_rangeFunc_ownH rfl (by omega) (gf := 27) (lb := #[.pointer (some ⟨B1, 0, none⟩)]) rfl trivial cubes1_enter (cubes1_stops B1 w2.heap.size 3 w2 (by omega) hl1 (Nat.le_refl _) BR2) belowK_t (belowK_b (Nat.le_refl _)) (Below.refl _ _) (fun _ => rfl)
    (fun pre W => (∀ y ∈ pre, ctB y ≠ S) ∧ Below w2.heap.size w2 W)
    (fun c pre W => (c = .ret ∧ (∃ pr y, pre = pr ++ [y] ∧ (∀ z ∈ pr, ctB z ≠ S) ∧ ctB y = S ∧ Blk W (w.heap.size + 1) #[.int .i64 y.1.1, .int .i64 y.1.2] 25 ∧ Blk W (w.heap.size + 1 + 1) #[.bool true] 4)) ∧ Below w.heap.size w W)
    (OwnFrom.and (Go.Own.from (fun s A B row hs hg hr => hs) _) (ownFrom_below (Nat.le_refl _) (Nat.le_refl _)))
    (fun c => OwnFrom.and (Go.Own.from (fun s A B row hs hg hr => ⟨hs.1, by obtain ⟨pr, y, q1, q2, q3, q4, q5⟩ := hs.2; exact ⟨pr, y, q1, q2, q3, q4.keptC hg hr, q5.keptC hg hr⟩⟩) _) (ownFrom_below (Nat.le_refl _) (by omega)))
    ⟨by simp, Below.refl _ _⟩
    (fun x a' W => ∃ Bx, w.heap.size + 1 + 1 < Bx ∧ Blk W Bx #[.int .i64 x.1.1, .int .i64 x.1.2] 25 ∧ a' = { tmps := #[.string S, .pointer (some ⟨w.heap.size, 0, none⟩), .pointer (some ⟨w.heap.size + 1, 0, none⟩), .pointer (some ⟨w.heap.size + 1 + 1, 0, none⟩), .pointer (some ⟨Bx, 0, none⟩), .agg #[.int .i64 1024, .bool false, .bool false], .func (.func 27) #[] #[.pointer (some ⟨B1, 0, none⟩)], .agg #[.int .i64 x.1.1, .int .i64 x.1.2], undef, undef, undef, undef, undef, undef], defers := [] })
    (fun x a' s A B row hs hg hr => by obtain ⟨Bx, q1, q2, q3⟩ := hs; exact ⟨Bx, q1, q2.keptC hg (fun r e => (hr r e).2), q3⟩)
    ?assign ?body ?done ?stop
  case assign =>
    rintro l pre x W K ⟨hp, h2⟩ hK
    gi_wp2
    exact hK _ _ ((KeepsOthers.alloc _ _).from _) ((Below.refl _ W).alloc h2.size _) ⟨hp, chain_alloc h2 _⟩ ⟨W.heap.size, Nat.lt_of_lt_of_le hEB h2.size, Blk.new W _ _, rfl⟩
  case body =>
    clear BR2 HSOME HNONE
    rintro l pre x a' W hl ⟨rq, hrq⟩ ⟨hp, h2⟩ ⟨Bx, hBx, BX, rfl⟩ _
    have hin := cu_in x
    have htx := fun W t => text16_any x.1.1 x.1.2 W hin.1 hin.2 t
    obtain ⟨T, hT⟩ : ∃ T, ctB x = T := ⟨_, rfl⟩
    rw [show (⟨(ctL x.1.1 x.1.2).toArray⟩ : ByteArray) = T from hT] at htx
    have HTX := Lib.hid htx
    clear htx hin
    replace BS := BS.below h2
    replace BZ := BZ.below h2
    replace BF := BF.below h2
    have hbW := hb.trans (h2.mono hb.size)
    have ht1 := ht.below hbW
    obtain ⟨s0, sf, sl⟩ := BS.one
    obtain ⟨x0, x1, xf, xl⟩ := BX.two
    have HT := Lib.hid hT
    clear hT
    have hmx : Tryd.prog.follows .mixedOrders = true := by kernel_rfl
    by_cases hTS : T = S
    · subst hTS
      gi_wp2_with fail
      gi_region_with_o (refine ⟨trivial, ?_⟩; gi_at_call 18; refine (CallsIn.inRound l (callsIn_wide.2 (HTX.out _ ht1.drew))).mono ?_; rintro e w5 ⟨rfl, hb5⟩; obtain ⟨s0b, sfb, slb⟩ := (BS.drew.below hb5).one; obtain ⟨x0b, x1b, xfb, xlb⟩ := (BX.drew.below hb5).two; obtain ⟨z0b, z1b, zfb, zlb⟩ := (BZ.drew.below hb5).two; obtain ⟨f0b, ffb, flb⟩ := (BF.drew.below hb5).one)
      all_goals gi_wp2
      all_goals
        have hg5 : W.grownBy w5 none := ⟨hb5.os, hb5.tape, hb5.output, hb5.size, fun i hi _ => hb5.block i hi⟩
        obtain ⟨⟨k1, k2⟩, hbn, hk⟩ := stored3 (BZ.drew.below hb5) (BF.drew.below hb5) (chain hbW.drew hb5) x.1.1 x.1.2 true
        exact ⟨((KeepsOthers.of_grownBy hg5 (fun j o e => by cases e)).trans hk).from _, ⟨rfl, pre, x, rfl, hp, HT.out, k1, k2⟩, hbn⟩
    · have e1 : (T.toList == S.toList) = false := by rw [beq_eq_false_iff_ne, ByteArray.toList_eq, ByteArray.toList_eq]; exact fun q => hTS (ByteArray.ext (Array.toList_inj.1 q))
      have HTS := Lib.hid hTS
      gi_wp2_with fail
      gi_region_with_o (refine ⟨trivial, ?_⟩; gi_at_call 18; refine (CallsIn.inRound l (callsIn_wide.2 (HTX.out _ ht1.drew))).mono ?_; rintro e w5 ⟨rfl, hb5⟩; obtain ⟨s0b, sfb, slb⟩ := (BS.drew.below hb5).one; obtain ⟨x0b, x1b, xfb, xlb⟩ := (BX.drew.below hb5).two; obtain ⟨z0b, z1b, zfb, zlb⟩ := (BZ.drew.below hb5).two; obtain ⟨f0b, ffb, flb⟩ := (BF.drew.below hb5).one)
      all_goals gi_wp2
      all_goals
        have hg5 : W.grownBy w5 none := ⟨hb5.os, hb5.tape, hb5.output, hb5.size, fun i hi _ => hb5.block i hi⟩
        exact ⟨(KeepsOthers.of_grownBy hg5 (fun j o e => by cases e)).from _, ((Below.refl _ W).drew).trans (hb5.mono (by show w2.heap.size ≤ W.heap.size; exact h2.size)), fun y hy => (List.mem_append.1 hy).elim (hp y) (fun e => by simp at e; subst e; rw [HT.out]; exact HTS.out), chain h2.drew hb5⟩
  case done =>
    clear BR2 HSOME
    rintro D' ys W hD rfl ⟨hne, h2⟩ hK
    obtain rfl := HNONE.out hne
    clear HNONE hne
    have hbW := hb.trans (h2.mono hb.size)
    replace BZ := BZ.below h2
    replace BF := BF.below h2
    obtain ⟨z0, z1, zf, zl⟩ := BZ.two
    obtain ⟨f0, ff, fl⟩ := BF.one
    gi_wp2
    obtain ⟨⟨q1, q2⟩, hbn, hk⟩ := stored3 BZ BF hbW 0 0 false
    have hK' := hk.same D' _ hK rfl
    refine ⟨by simp, .inl ⟨_, _, rfl, run_takeDeferred hK', ?_⟩⟩
    have q1' := q1.putD (o' := .deferred none) hK' rfl
    have q2' := q2.putD (o' := .deferred none) hK' rfl
    exact ⟨.tuple #[.agg #[.int .i64 0, .int .i64 0], .bool false], by simp [results, Tryd.results9, go_sem, q1'.two.1, q1'.two.2.1, q2'.one.1], rfl, hbn.trans (belowK_b (w := w) (Nat.le_refl _) _ D' _ _ (by omega) hK' rfl rfl)⟩
  case stop =>
    clear BR2 HNONE
    rintro D' c pre W hD hpre ⟨⟨rfl, pr, y, rfl, hp, hy, q1, q2⟩, hbW⟩ hK
    obtain rfl := HSOME.out pr y hpre hp hy
    clear HSOME
    gi_wp2
    refine ⟨by simp, .inl ⟨_, _, rfl, run_takeDeferred hK, ?_⟩⟩
    have q1' := q1.putD (o' := .deferred none) hK rfl
    have q2' := q2.putD (o' := .deferred none) hK rfl
    exact ⟨.tuple #[.agg #[.int .i64 y.1.1, .int .i64 y.1.2], .bool true], by simp [results, Tryd.results9, go_sem, q1'.two.1, q1'.two.2.1, q2'.one.1], rfl, hbW.trans (belowK_b (w := w) (Nat.le_refl _) W D' _ _ (by omega) hK rfl rfl)⟩
theorem ctL_ne (v o : Int) : ctL v o ≠ [] := by unfold ctL; simp
/-- No valid cube among the first ones has the text. -/
def noC (S : ByteArray) (n : Nat) : Prop := ∀ y ∈ cuS n, ctB y ≠ S
theorem noC_step {S : ByteArray} {k j : Nat} (hj : j < 3) (h : noC S (3 * k + j)) (hne : (∃ g : cbB 1024 (p2 k) (j : Int) = true, (⟨(ctL (p2 k) (j : Int)).toArray⟩ : ByteArray) = S) → False) : noC S (3 * k + (j + 1)) := by
  cases g : cbB 1024 (p2 k) (j : Int) with
  | false =>
    rw [noC, cuS_no hj g]
    exact h
  | true =>
    rw [noC, cuS_yes hj g]
    intro y hy
    rcases List.mem_append.1 hy with q | q
    · exact h y q
    · simp at q
      subst q
      exact fun e => hne ⟨g, e⟩
theorem rcV_at {S : ByteArray} {k j : Nat} (hk : k < 11) (hj : j < 3) (h : noC S (3 * k + j)) (g : cbB 1024 (p2 k) (j : Int) = true) (e : (⟨(ctL (p2 k) (j : Int)).toArray⟩ : ByteArray) = S) : rcV S = (p2 k, (j : Int), true) := by
  refine rcV_some (pre := cuS (3 * k + j)) (y := ⟨(p2 k, (j : Int)), g⟩) ?_ h e
  rw [← cuS_yes hj g]
  exact cuS_pre (by omega)
theorem ct_valid {v o : Int} {S : ByteArray} (hS : S ≠ ⟨#[]⟩) (e : (⟨(ctT v o).toArray⟩ : ByteArray) = S) : ∃ g : cbB 1024 v o = true, (⟨(ctL v o).toArray⟩ : ByteArray) = S := by
  unfold ctT at e
  cases g : cbB 1024 v o with
  | false =>
    rw [g, if_neg (by simp)] at e
    exact absurd e.symm hS
  | true =>
    rw [g, if_pos rfl] at e
    exact ⟨rfl, e⟩
theorem ct_none {v o : Int} {S : ByteArray} (h : ¬ (⟨(ctT v o).toArray⟩ : ByteArray) = S) : (∃ g : cbB 1024 v o = true, (⟨(ctL v o).toArray⟩ : ByteArray) = S) → False := by
  rintro ⟨g, e⟩
  refine h ?_
  unfold ctT
  rw [if_pos g]
  exact e
theorem bytes_ne {T S : ByteArray} (h : ¬ T = S) : (T.toList == S.toList) = false := by
  rw [beq_eq_false_iff_ne, ByteArray.toList_eq, ByteArray.toList_eq]
  exact fun q => h (ByteArray.ext (Array.toList_inj.1 q))
set_option maxRecDepth 100000 in
set_option maxHeartbeats 2000000 in
theorem specReadCube_any (S : ByteArray) (w : World) :
    Calls Tryd.prog 13 #[.string S] w fun e w' => e = .returned (.tuple #[.agg #[.int .i64 (rcV S).1, .int .i64 (rcV S).2.1], .bool (rcV S).2.2]) ∧ Below w.heap.size w w' := by
  have BZ := Blk.new w #[.int .i64 0, .int .i64 0] 25
  have hb : Below w.heap.size w (w.alloc (.cells #[.int .i64 0, .int .i64 0] 25)) := (Below.refl _ _).alloc (Nat.le_refl _) _
  have hat := fun (k j : Nat) hk hj h g e => @rcV_at S k j hk hj h g e
  have hnone := @rcV_none S
  obtain ⟨D, hD⟩ : ∃ D, rcV S = D := ⟨_, rfl⟩
  rw [hD] at hat hnone ⊢
  have HAT := Lib.hid hat
  have HNONE := Lib.hid hnone
  clear hat hnone hD
  go_enter Tryd.func13, Tryd.ntmps13
  go_wp2_with fail
  generalize (w.alloc (.cells #[.int .i64 0, .int .i64 0] 25)) = v0 at *
  go_loopg [4] 11 (fun q v wr => ∃ k : Nat, k ≤ 11 ∧ q = 11 - k ∧ v = .int .i64 (p2 k) ∧ noC S (3 * k) ∧ Blk wr w.heap.size #[.int .i64 0, .int .i64 0] 25 ∧ Below w.heap.size w wr)
  case atStart => exact ⟨0, by omega, by omega, rfl, fun y hy => by simp [cuS] at hy, BZ, hb⟩
  case round =>
    clear BZ hb
    obtain ⟨k, hk, hq, rfl, hno, BZ, hb⟩ := hrel
    have p1 := p2_pos k
    have pm : p2 k ≤ p2 11 := p2_mono hk
    rw [show p2 11 = 2048 by decide] at pm
    have hst := p2_succ k
    have hsm := @p2_small k
    have hbg : 11 ≤ k → 2048 ≤ p2 k := fun h => by
      have := @p2_mono 11 k h
      rw [show p2 11 = 2048 by decide] at this
      exact this
    have HAT2 := Lib.hid (fun j (hk : k < 11) hj h g e => HAT.out k j hk hj h g e)
    have HNS := Lib.hid (fun j hj h hne => @noC_step S k j hj h hne)
    obtain ⟨T, hT⟩ : ∃ T, p2 k = T := ⟨_, rfl⟩
    rw [hT] at p1 pm hst hsm hbg HAT2 HNS
    (try rw [hT])
    have HST := Lib.hid hst
    clear hst hT
    by_cases hlt : k < 11
    · have hT2 : T ≤ 1024 := by
        by_cases h : T ≤ 1024
        · exact h
        · exfalso
          have h10 : p2 k ≤ p2 10 := p2_mono (by omega)
          rw [p2_ten] at h10
          have := HST.out
          rw [p2_succ] at this
          omega
      clear hsm hbg
      go_wp2
      go_loopg [5] 3 (fun q2 v2 wr => ∃ j : Nat, j ≤ 3 ∧ q2 = 3 - j ∧ v2 = .int .i64 (j : Int) ∧ noC S (3 * k + j) ∧ Blk wr w.heap.size #[.int .i64 0, .int .i64 0] 25 ∧ Below w.heap.size w wr)
      case atStart => exact ⟨0, by omega, by omega, rfl, hno, BZ, hb⟩
      case round =>
        clear hno BZ hb
        obtain ⟨j, hj, hq2, rfl, hno, BZ, hb⟩ := hrel
        by_cases hjt : j < 3
        · have hjt' : (j : Int) < 3 := by omega
          have hj0 : (0 : Int) ≤ (j : Int) := by omega
          have ht := fun W => specCubeText_any T (j : Int) W
          have hval := @ct_valid T (j : Int) S
          have hnon := @ct_none T (j : Int) S
          have BN := Blk.new wr #[.int .i64 T, .int .i64 (j : Int)] 25
          have hal : Below wr.heap.size wr (wr.alloc (.cells #[.int .i64 T, .int .i64 (j : Int)] 25)) := (Below.refl _ _).alloc (Nat.le_refl _) _
          have hnB : ¬ w.heap.size = wr.heap.size := by have := BZ.lt; omega
          have hnB2 : ¬ wr.heap.size = w.heap.size := by have := BZ.lt; omega
          obtain ⟨z0, z1, zf, zl⟩ := BZ.two
          obtain ⟨u0, u1, uf, ul⟩ := BN.two
          have HNO := Lib.hid hno
          clear hno
          by_cases hS : S = ⟨#[]⟩
          · have e0 : (S.toList == []) = true := by rw [hS, ByteArray.toList_eq]; rfl
            have HJ := Lib.hid (HNS.out j hjt HNO.out (fun ⟨_, e⟩ => by rw [hS] at e; have := congrArg (fun x => x.data.toList) e; simp at this; exact ctL_ne _ _ this))
            clear hS ht hval hnon
            go_wp2
            go_roundg (3 - (j + 1))
            case measure => omega
            case rel => exact ⟨j + 1, by omega, rfl, by go_num, HJ.out, BZ.below hal, chain hb hal⟩
          · have e0 : (S.toList == []) = false := by rw [beq_eq_false_iff_ne, ByteArray.toList_eq]; exact fun q => hS (ByteArray.ext (Array.toList_inj.1 q))
            obtain ⟨X, hX⟩ : ∃ X : ByteArray, ⟨(ctT T (j : Int)).toArray⟩ = X := ⟨_, rfl⟩
            rw [hX] at ht hval hnon
            have HT := Lib.hid ht
            clear ht hX
            by_cases hXS : X = S
            · obtain ⟨g, e⟩ := hval hS hXS
              obtain rfl := HAT2.out j hlt hjt HNO.out g e
              subst hXS
              clear hval hnon hS g e HNO HAT2 HNS HST
              go_wp2_with (go_at_call 10; refine (HT.out _).mono ?_; rintro e w5 ⟨rfl, hb5⟩; obtain ⟨u0b, u1b, ufb, ulb⟩ := (BN.below hb5).two; obtain ⟨z0b, z1b, zfb, zlb⟩ := ((BZ.below hal).below hb5).two)
              have BZ5 := (BZ.below hal).below hb5
              have BZn := (BZ5.set (i := 0) (.int .i64 T)).set (i := 1) (.int .i64 (j : Int))
              obtain ⟨t0, t1, tf, tl⟩ := BZn.two
              refine bodyPost_ret (v := .tuple #[.agg #[.int .i64 T, .int .i64 (j : Int)], .bool true]) (by simp [results, Tryd.results13, go_sem, t0, t1]) rfl ?_
              exact ⟨rfl, ((chain (chain hb hal) hb5).setCell (Nat.le_refl _) _).setCell (Nat.le_refl _) _⟩
            · have e2 := bytes_ne hXS
              have HJ := Lib.hid (HNS.out j hjt HNO.out (hnon hXS))
              clear hval hnon hS hXS HNO HAT2 HNS
              go_wp2_with (go_at_call 10; refine (HT.out _).mono ?_; rintro e w5 ⟨rfl, hb5⟩; obtain ⟨u0b, u1b, ufb, ulb⟩ := (BN.below hb5).two; obtain ⟨z0b, z1b, zfb, zlb⟩ := ((BZ.below hal).below hb5).two)
              go_roundg (3 - (j + 1))
              case measure => omega
              case rel => exact ⟨j + 1, by omega, rfl, by go_num, HJ.out, (BZ.below hal).below hb5, chain (chain hb hal) hb5⟩
        · obtain rfl : j = 3 := by omega
          go_wp2
          go_roundg (11 - (k + 1))
          case measure => omega
          case rel => exact ⟨k + 1, by omega, rfl, by rw [HST.out], hno, BZ, hb⟩
    · obtain rfl : k = 11 := by omega
      have h11 := hbg (Nat.le_refl _)
      obtain rfl := HNONE.out hno
      clear hsm hbg hno HAT2 HNS HST
      obtain ⟨z0, z1, zf, zl⟩ := BZ.two
      go_wp2
      have BZn := (BZ.set (i := 0) (.int .i64 0)).set (i := 1) (.int .i64 0)
      obtain ⟨t0, t1, tf, tl⟩ := BZn.two
      refine bodyPost_ret (v := .tuple #[.agg #[.int .i64 0, .int .i64 0], .bool false]) (by simp [results, Tryd.results13, go_sem, t0, t1]) rfl ?_
      exact ⟨rfl, (hb.setCell (Nat.le_refl _) _).setCell (Nat.le_refl _) _⟩
end Go.Proofs.YtkcjbjkccafekaaDoor
