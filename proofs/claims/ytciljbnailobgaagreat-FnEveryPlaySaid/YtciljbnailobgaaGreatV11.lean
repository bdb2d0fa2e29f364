/- Texts of a proof, laid together. -/
import Derived.Test.YtciljbnailobgaaGreatV01
import Derived.Test.YtciljbnailobgaaGreatV08
import Derived.Test.YtciljbnailobgaaGreatV06
import Derived.Laws.CopyOwn
import Derived.Laws.MakeOwn
import Derived.Test.YtciljbnailobgaaGreatV10
import Derived.Test.YtciljbnailobgaaGreatV05
import Derived.Shelf.Abstract
import Derived.Shelf.RegionOpen
import Derived.WalkKit
import Derived.OwnWalkIn
import Derived.TacticsInMore
import Derived.LoopNIn
import Derived.LoopIn
namespace Go.Proofs.YtciljbnailobgaaGreat
open Go.ChangeShapes Go.WideShapes Go.ChangeAt Go.RowKit
set_option linter.unusedVariables false
set_option linter.unusedSimpArgs false
theorem fourNew (w : World) (v1 v2 v3 v4 : Array Value) (t1 t2 t3 t4 : TypeId) :
    Blk ((((w.alloc (.cells v1 t1)).alloc (.cells v2 t2)).alloc (.cells v3 t3)).alloc (.cells v4 t4)) w.heap.size v1 t1 ∧ Blk ((((w.alloc (.cells v1 t1)).alloc (.cells v2 t2)).alloc (.cells v3 t3)).alloc (.cells v4 t4)) (w.heap.size + 1) v2 t2 ∧ Blk ((((w.alloc (.cells v1 t1)).alloc (.cells v2 t2)).alloc (.cells v3 t3)).alloc (.cells v4 t4)) (w.heap.size + 1 + 1) v3 t3 ∧
    Blk ((((w.alloc (.cells v1 t1)).alloc (.cells v2 t2)).alloc (.cells v3 t3)).alloc (.cells v4 t4)) (w.heap.size + 1 + 1 + 1) v4 t4 ∧
    Below w.heap.size w ((((w.alloc (.cells v1 t1)).alloc (.cells v2 t2)).alloc (.cells v3 t3)).alloc (.cells v4 t4)) ∧ ((((w.alloc (.cells v1 t1)).alloc (.cells v2 t2)).alloc (.cells v3 t3)).alloc (.cells v4 t4)).heap.size = w.heap.size + 1 + 1 + 1 + 1 := by
  obtain ⟨h1, h2, h3, h4, h5⟩ := three_new w v1 v2 v3 t1 t2 t3
  have hn := Blk.new (((w.alloc (.cells v1 t1)).alloc (.cells v2 t2)).alloc (.cells v3 t3)) v4 t4
  rw [h5] at hn
  exact ⟨h1.alloc _, h2.alloc _, h3.alloc _, hn, h4.alloc h4.size _, by simp⟩
end Go.Proofs.YtciljbnailobgaaGreat
namespace Go.Proofs.YtciljbnailobgaaGreat
open Go.ChangeShapes Go.WideShapes Go.ChangeAt Go.RowKit
set_option linter.unusedVariables false
set_option linter.unusedSimpArgs false
set_option maxRecDepth 4000
theorem run_copy_four {P : Program} (w : World) (dT sT ty elem : TypeId) (g dLen dCap : Nat) (a : Addr) (n sCap : Nat) (cur : Array Value) (t : TypeId) (cs : List Value)
    (hu : P.underlying dT = some (.slice elem)) (hs : (P.info? elem).map (·.size) = some 4) (hg : w.heap[g]? = some (.cells cur t (0, 0))) (hn : cs.length = n * 4) (hle : n ≤ dLen)
    (hsrc : ∀ j v, cs[j]? = some v → w.cell? (a.add j) = some v) (hfit : cs.length ≤ cur.size) (h1 : ∀ v ∈ cs, v.oneCell' = true) :
    (Builtin.copy_ #[dT, sT] ty #[.slice (some ⟨g, 0, none⟩) dLen dCap, .slice (some a) n sCap]).run P w = .ok (goInt n) (w.setRow g (cs ++ cur.toList.drop cs.length).toArray) := by
  have hl := run_loadCells_list (P := P) w a cs hsrc
  have hst := run_storeCells_at P g 0 t cs 0 cur w hg (by simpa using hfit) h1
  simp only [Nat.zero_add, List.take_zero, List.nil_append] at hst
  have hm : Nat.min n dLen = n := Nat.min_eq_left hle
  cases hq : P.info? elem with
  | none => simp [hq] at hs
  | some i =>
    have hi : i.size = 4 := by simpa [hq] using hs
    rw [hn] at hl
    simp [Builtin.copy_, run_underlying hu, Builtin.lenOf, Builtin.firstCells, sizeOf, typeInfo, hq, hi, hm, hl, hst]
theorem run_copy_nilS {P : Program} (w : World) (dT sT ty elem : TypeId) (a : Addr) (dLen dCap sCap : Nat) (hu : P.underlying dT = some (.slice elem)) (hs : ((P.info? elem).map (·.size)).isSome = true) :
    (Builtin.copy_ #[dT, sT] ty #[.slice (some a) dLen dCap, .slice none 0 sCap]).run P w = .ok (goInt 0) w := by
  cases hq : P.info? elem with
  | none => simp [hq] at hs
  | some i => simp [Builtin.copy_, run_underlying hu, Builtin.lenOf, Builtin.firstCells, sizeOf, typeInfo, hq, storeCells]
theorem stepsC_one2 (l : List Stp) : ∀ y ∈ stepsC l, y.oneCell' = true := by
  induction l with
  | nil => intro y hy; simp [stepsC] at hy
  | cons s l ih =>
    intro y hy
    rw [stepsC, List.mem_append] at hy
    rcases hy with hy | hy
    · simp [stC] at hy
      rcases hy with rfl | rfl | rfl | rfl <;> rfl
    · exact ih y hy
theorem OSt.below0 {lo hi : Nat} {w w' : World} {a : Option Addr} {l : List Stp} (h : OSt lo hi w a l) (hb : Below w.heap.size w w') : OSt lo hi w' a l := h.below hb
theorem end_cells (vs : List Value) (k : Nat) (hk : vs.length = k) (d0 d1 d2 d3 : Value) : (vs ++ [d0, d1, d2, d3])[k]? = some d0 ∧ (vs ++ [d0, d1, d2, d3])[k + 1]? = some d1 ∧ (vs ++ [d0, d1, d2, d3])[k + 2]? = some d2 ∧ (vs ++ [d0, d1, d2, d3])[k + 3]? = some d3 := by
  subst hk
  refine ⟨?_, ?_, ?_, ?_⟩ <;> (rw [List.getElem?_append_right (by omega)]; simp)
theorem four_of {D : List Value} (h : D.length = 4) : ∃ d0 d1 d2 d3, D = [d0, d1, d2, d3] := by
  match D, h with
  | [a, b, c, d], _ => exact ⟨a, b, c, d, rfl⟩
theorem blk_same {w w' : World} {g : Nat} {vs : Array Value} {t : TypeId} (h : Blk w g vs t) (e : w'.heap[g]? = w.heap[g]?) : Blk w' g vs t := e.trans h
theorem irow_far {w : World} {a : Option Addr} {xs : List Int} (h : IRow w a xs) {g : Nat} (hg : w.heap.size ≤ g) : ∀ i, i < xs.length → ∀ b o, a = some ⟨b, o, none⟩ → b ≠ g := by
  intro i hi b o e
  obtain ⟨b', o', e', hc⟩ := h i hi
  rw [e] at e'
  simp at e'
  have := World.block_lt_of_cell? w _ hc
  simp at this
  omega
theorem irow_same {w w' : World} {a : Option Addr} {xs : List Int} {g : Nat} (h : IRow w a xs) (hk : ∀ k, k ≠ g → w'.heap[k]? = w.heap[k]?) (hf : ∀ i, i < xs.length → ∀ b o, a = some ⟨b, o, none⟩ → b ≠ g) : IRow w' a xs := by
  intro i hi
  obtain ⟨b, o, e, hc⟩ := h i hi
  refine ⟨b, o, e, ?_⟩
  have := hk b (hf i hi b o e)
  unfold World.cell? at hc ⊢
  dsimp only at hc ⊢
  rw [this]
  exact hc
theorem irow_set4 {w : World} {a : Option Addr} {xs : List Int} {g : Nat} (h : IRow w a xs) (hf : ∀ i, i < xs.length → ∀ b o, a = some ⟨b, o, none⟩ → b ≠ g) (i0 i1 i2 i3 : Nat) (v0 v1 v2 v3 : Value) : IRow ((((w.setCell ⟨g, i0, none⟩ v0).setCell ⟨g, i1, none⟩ v1).setCell ⟨g, i2, none⟩ v2).setCell ⟨g, i3, none⟩ v3) a xs := by
  intro i hi
  obtain ⟨b, o, e, hc⟩ := h i hi
  have hne := hf i hi b o e
  refine ⟨b, o, e, ?_⟩
  rw [World.cell?_setCell_far _ _ _ _ (by simp; omega), World.cell?_setCell_far _ _ _ _ (by simp; omega), World.cell?_setCell_far _ _ _ _ (by simp; omega), World.cell?_setCell_far _ _ _ _ (by simp; omega)]
  exact hc
theorem wp_copyS {ops : Array Oper} {rest : List Oper} {o : Oper} {a : Act} {Q : Exit → Act → World → Prop} (hgd : o.guard = none) (d s : Operand)
    (ho : o.op = .call { callee := .builtin .copy, args := #[d, s], argTypes := #[42, 42] }) (g n sc : Nat) (hd : a.eval d = .slice (some ⟨g, 0, none⟩) (n + 1) (n + 1)) (sa : Option Addr) (hs : a.eval s = .slice sa n sc)
    {w : World} (cur : Array Value) (hg : Blk w g cur 55) (hc : cur.size = (n + 1) * 4) (lo hi : Nat) (m : List Stp) (hm : m.length = n) (hr : OSt lo hi w sa m)
    (h : ∀ w' D, D.length = 4 → VRow w' g (stepsC m ++ D) 55 → (∀ k, k ≠ g → w'.heap[k]? = w.heap[k]?) → (∀ B w0, Below B w0 w → B ≤ g → Below B w0 w') → w'.heap.size = w.heap.size → wpList Tryz.prog ops Q rest (a.put o.dst (.int .i64 n)) w') : wpList Tryz.prog ops Q (o :: rest) a w := by
  have hsz : (Tryz.prog.info? 55).map (·.size) = some 4 := by kernel_rfl
  refine wpList_plain hgd fun K hK => ?_
  rcases hr with ⟨rfl, rfl⟩ | ⟨b, rfl, hb1, hb2, hrow⟩
  · simp at hm
    subst hm
    have hrun := run_copy_nilS (P := Tryz.prog) w 42 42 o.type 55 ⟨g, 0, none⟩ 1 1 sc Tryz.underlying42 (by rw [hsz]; rfl)
    unfold Oper.wp
    simp [execOp, ho, resolve, invoke, builtin, hd, hs, hrun, Result.andThen]
    refine hK _ _ (h w cur.toList (by simp [hc]) ⟨cur, hg, by simp [stepsC], by simp [stepsC]; exact List.take_of_length_le (by simp)⟩ (fun _ _ => rfl) (fun _ _ q _ => q) rfl)
  · have hcl : (stepsC m).length = n * 4 := by rw [stepsC_length, hm]
    have hrun := run_copy_four (P := Tryz.prog) w 42 42 o.type 55 g (n + 1) (n + 1) ⟨b, 0, none⟩ n sc cur 55 (stepsC m) Tryz.underlying42 hsz hg hcl (by omega) (fun j v hv => by
      rw [show (⟨b, 0, none⟩ : Addr).add j = ⟨b, j, none⟩ from by unfold Addr.add; split <;> simp_all]
      exact VRow.cell hrow j v hv) (by omega) (stepsC_one2 m)
    unfold Oper.wp
    simp [execOp, ho, resolve, invoke, builtin, hd, hs, hrun, Result.andThen]
    refine hK _ _ (h _ (cur.toList.drop (stepsC m).length) (by simp; omega) ⟨_, setRow_heap w g _ _ 55 _ hg, by simp, List.take_of_length_le (by simp)⟩ (fun k hk => ?_) (fun B w0 hb hB => below_setRow hb hB _) (by simp [World.setRow]))
    simp only [World.setRow, Array.getElem?_modify]
    rw [if_neg (fun e => hk e.symm)]
theorem set4_end (vs : List Value) (k : Nat) (hk : vs.length = k) (d0 d1 d2 d3 v0 v1 v2 v3 : Value) : ((((vs ++ [d0, d1, d2, d3]).set k v0).set (k + 1) v1).set (k + 2) v2).set (k + 3) v3 = vs ++ [v0, v1, v2, v3] := by
  subst hk
  rw [List.set_append_right _ _ (by omega), List.set_append_right _ _ (by omega), List.set_append_right _ _ (by omega), List.set_append_right _ _ (by omega)]
  simp
set_option maxRecDepth 8000 in
set_option maxHeartbeats 2000000 in
theorem then_any (P : Nat) (c h s : Int) (x : PP) (t : Stp) (lo hi : Nat) (w : World) (g : isB (P : Int) c h s x.2.2.1 x.2.2.2 = true) (hp : placesB (P : Int) t = true) (hl : x.2.1.length ≤ 1000) (hx : PAt lo hi w x) :
    Calls Tryz.prog 106 #[plV x, .agg #[.int .i64 (P : Int), .int .i64 c, .int .i64 h, .int .i64 s], stV t] w fun e w' => ∃ y : PP, e = .returned (plV y) ∧ y.2 = oneMore P x.2 t ∧ PAt w.heap.size w'.heap.size w' y ∧ Below w.heap.size w w' := by
  obtain ⟨⟨sa, sc, b1, k1, b2, k2⟩, m, xs, ys⟩ := x
  obtain ⟨ta, tb, td, tq⟩ := t
  obtain ⟨hS, hO⟩ := hx
  dsimp only at g hl hS hO ⊢
  have gp := isB_parts g
  have r1 := hO.irow1
  have r2 := hO.irow2
  clear hO
  have n1 : xs.length = P + 1 := by omega
  have n2 : ys.length = P + 1 := by omega
  have hM := fun (f1 f2 B : Nat) (W : World) (q1 : Pays f1 B xs W) (q2 : Pays f2 B ys W) => moved_any P f1 f2 B xs ys W (by omega) (by omega) n1 n2 gp.2.2.2.2.2.2.2.2.1 gp.2.2.2.2.2.2.2.2.2.1 q1 q2 (ta, tb, td, tq) 1 (by omega) (by omega) hp
  obtain ⟨X', hX'⟩ : ∃ q, mvX xs ta tb 1 = q := ⟨_, rfl⟩
  obtain ⟨Y', hY'⟩ : ∃ q, mvY P ys tb tq 1 = q := ⟨_, rfl⟩
  dsimp only at hM
  rw [hX', hY'] at hM
  have HM := Lib.hid hM
  have hNX : oneMore P (m, xs, ys) (ta, tb, td, tq) = (m ++ [(ta, tb, td, tq)], X', Y') := by unfold oneMore; dsimp only; rw [hX', hY']
  rw [hNX]
  clear hM hX' hY' hNX gp g hp n1 n2
  obtain ⟨i0, hi0, hz0, hz1, hz2⟩ := info_parts infoStp
  obtain ⟨n, hn⟩ : ∃ n, m.length = n := ⟨_, rfl⟩
  have hmk : ∀ W : World, (Instr.makeSlice 42 (.int .i64 ((n : Int) + 1)) (.int .i64 ((n : Int) + 1))).run Tryz.prog W = .ok (.slice (some ⟨W.heap.size, 0, none⟩) (n + 1) (n + 1)) (W.alloc (.cells (madeCells (Value.cells (.agg #[.int .i64 0, .int .i64 0, .int .i64 0, .bool false])) ((n + 1) * 4)) 55)) := fun W => by
    have q := run_make (P := Tryz.prog) W 42 55 i0 _ Tryz.underlying42 hi0 hz0 .i64 .i64 ((n : Int) + 1) ((n : Int) + 1) (by omega) (Int.le_refl _) (by rw [hz2]; omega) (by omega)
    rw [hz1, show ((n : Int) + 1).toNat = n + 1 by omega] at q
    exact q
  obtain ⟨MC, hMC⟩ : ∃ q, madeCells (Value.cells (.agg #[.int .i64 0, .int .i64 0, .int .i64 0, .bool false])) ((n + 1) * 4) = q := ⟨_, rfl⟩
  have hMs : MC.size = (n + 1) * 4 := by rw [← hMC]; exact size_madeCells _ _
  rw [hMC] at hmk
  clear hMC hi0 hz0 hz1 hz2
  show Calls Tryz.prog 106 #[.agg #[.slice sa m.length sc, .slice b1 xs.length k1, .slice b2 ys.length k2], .agg #[.int .i64 (P : Int), .int .i64 c, .int .i64 h, .int .i64 s], .agg #[.int .i64 ta, .int .i64 tb, .int .i64 td, .bool tq]] w fun e w' => ∃ y : PP, e = .returned (plV y) ∧ y.2 = (m ++ [(ta, tb, td, tq)], X', Y') ∧ PAt w.heap.size w'.heap.size w' y ∧ Below w.heap.size w w'
  rw [hn]
  have HN := Lib.hid hn
  clear hn
  obtain ⟨BP, BV, BS, BO, hb, hz⟩ := fourNew w #[.slice sa n sc, .slice b1 xs.length k1, .slice b2 ys.length k2] #[.int .i64 (P : Int), .int .i64 c, .int .i64 h, .int .i64 s] #[.int .i64 ta, .int .i64 tb, .int .i64 td, .bool tq] #[.slice none 0 0, .slice none 0 0, .slice none 0 0] 44 25 55 44
  replace r1 := r1.below hb
  replace r2 := r2.below hb
  replace hS := hS.below0 hb
  have wz : IntKind.i64.wrap ((n : Int) + 1) = (n : Int) + 1 := IntWalk.i64_in _ (by have := HN.out; omega)
  have hn1 : (n : Int) ≤ 1000 := by have := HN.out; omega
  clear hl
  go_enter Tryz.func106, Tryz.ntmps106
  obtain ⟨p0, p1, p2, pf, pl⟩ := BP.tri
  obtain ⟨x0, x1, x2, x3, xf, xl⟩ := BV.four
  obtain ⟨s0, s1, s2, s3, sf, sl⟩ := BS.four
  have hal : Below ((((w.alloc (.cells #[.slice sa n sc, .slice b1 xs.length k1, .slice b2 ys.length k2] 44)).alloc (.cells #[.int .i64 (P : Int), .int .i64 c, .int .i64 h, .int .i64 s] 25)).alloc (.cells #[.int .i64 ta, .int .i64 tb, .int .i64 td, .bool tq] 55)).alloc (.cells #[.slice none 0 0, .slice none 0 0, .slice none 0 0] 44)).heap.size ((((w.alloc (.cells #[.slice sa n sc, .slice b1 xs.length k1, .slice b2 ys.length k2] 44)).alloc (.cells #[.int .i64 (P : Int), .int .i64 c, .int .i64 h, .int .i64 s] 25)).alloc (.cells #[.int .i64 ta, .int .i64 tb, .int .i64 td, .bool tq] 55)).alloc (.cells #[.slice none 0 0, .slice none 0 0, .slice none 0 0] 44)) (((((w.alloc (.cells #[.slice sa n sc, .slice b1 xs.length k1, .slice b2 ys.length k2] 44)).alloc (.cells #[.int .i64 (P : Int), .int .i64 c, .int .i64 h, .int .i64 s] 25)).alloc (.cells #[.int .i64 ta, .int .i64 tb, .int .i64 td, .bool tq] 55)).alloc (.cells #[.slice none 0 0, .slice none 0 0, .slice none 0 0] 44)).alloc (.cells MC 55)) := (Below.refl _ _).alloc (Nat.le_refl _) _
  have BM : Blk (((((w.alloc (.cells #[.slice sa n sc, .slice b1 xs.length k1, .slice b2 ys.length k2] 44)).alloc (.cells #[.int .i64 (P : Int), .int .i64 c, .int .i64 h, .int .i64 s] 25)).alloc (.cells #[.int .i64 ta, .int .i64 tb, .int .i64 td, .bool tq] 55)).alloc (.cells #[.slice none 0 0, .slice none 0 0, .slice none 0 0] 44)).alloc (.cells MC 55)) (w.heap.size + 1 + 1 + 1 + 1) MC 55 := by
    have q := Blk.new ((((w.alloc (.cells #[.slice sa n sc, .slice b1 xs.length k1, .slice b2 ys.length k2] 44)).alloc (.cells #[.int .i64 (P : Int), .int .i64 c, .int .i64 h, .int .i64 s] 25)).alloc (.cells #[.int .i64 ta, .int .i64 tb, .int .i64 td, .bool tq] 55)).alloc (.cells #[.slice none 0 0, .slice none 0 0, .slice none 0 0] 44)) MC 55
    rw [hz] at q
    exact q
  have BP5 := BP.below hal
  have BV5 := BV.below hal
  have BS5 := BS.below hal
  have BO5 := BO.below hal
  have r15 := r1.below hal
  have r25 := r2.below hal
  have hS5 := hS.below hal
  have hb5 := chain hb hal
  have hz5 : (((((w.alloc (.cells #[.slice sa n sc, .slice b1 xs.length k1, .slice b2 ys.length k2] 44)).alloc (.cells #[.int .i64 (P : Int), .int .i64 c, .int .i64 h, .int .i64 s] 25)).alloc (.cells #[.int .i64 ta, .int .i64 tb, .int .i64 td, .bool tq] 55)).alloc (.cells #[.slice none 0 0, .slice none 0 0, .slice none 0 0] 44)).alloc (.cells MC 55)).heap.size = w.heap.size + 1 + 1 + 1 + 1 + 1 := by simp
  have hr1 := irow_far r1 (g := (w.heap.size + 1 + 1 + 1 + 1)) (by rw [hz]; omega)
  have hr2 := irow_far r2 (g := (w.heap.size + 1 + 1 + 1 + 1)) (by rw [hz]; omega)
  clear hal hb BP BV BS BO r1 r2 hS
  have dd0 : w.heap.size + 1 + 1 + 1 + 1 ≠ w.heap.size := by omega
  have dd1 : w.heap.size + 1 + 1 + 1 + 1 ≠ w.heap.size + 1 := by omega
  have dd2 : w.heap.size + 1 + 1 + 1 + 1 ≠ w.heap.size + 1 + 1 := by omega
  have dd3 : w.heap.size + 1 + 1 + 1 + 1 ≠ w.heap.size + 1 + 1 + 1 := by omega
  have dd4 : w.heap.size ≠ w.heap.size + 1 + 1 + 1 + 1 := by omega
  have dd5 : w.heap.size + 1 ≠ w.heap.size + 1 + 1 + 1 + 1 := by omega
  have dd6 : w.heap.size + 1 + 1 ≠ w.heap.size + 1 + 1 + 1 + 1 := by omega
  have dd7 : w.heap.size + 1 + 1 + 1 ≠ w.heap.size + 1 + 1 + 1 + 1 := by omega
  go_wp2_with (((with_reducible refine wp_copyS rfl (.tmp 13) (.tmp 15) rfl (w.heap.size + 1 + 1 + 1 + 1) n sc rfl sa rfl MC BM hMs lo hi m HN.out hS5 ?_); go_loud (intro w5 D hD RM hk hBB hzz; have BP := blk_same BP5 (hk _ (by omega)); have BV := blk_same BV5 (hk _ (by omega)); have BS := blk_same BS5 (hk _ (by omega)); have BO := blk_same BO5 (hk _ (by omega)); have r1 := irow_same r15 hk hr1; have r2 := irow_same r25 hk hr2; have hb := hBB _ _ hb5 (by omega); clear p0 p1 p2 pf pl x0 x1 x2 x3 xf xl s0 s1 s2 s3 sf sl; obtain ⟨p0, p1, p2, pf, pl⟩ := BP.tri; obtain ⟨x0, x1, x2, x3, xf, xl⟩ := BV.four; obtain ⟨s0, s1, s2, s3, sf, sl⟩ := BS.four; obtain ⟨d0, d1, d2, d3, rfl⟩ := four_of hD; have hcl : (stepsC m).length = n * 4 := (by rw [stepsC_length, HN.out]); have ec := end_cells _ _ hcl d0 d1 d2 d3; have e0 := RM.cell _ _ ec.1; have e1 := RM.cell _ _ ec.2.1; have e2 := RM.cell _ _ ec.2.2.1; have e3 := RM.cell _ _ ec.2.2.2; have ef := fun i => RM.free i; have HCL := Lib.hid hcl; clear hD hcl ec BP5 BV5 BS5 BO5 r15 r25 hS5 hb5 hk hBB)))
  have hset := set4_end _ _ HCL.out d0 d1 d2 d3 (.int .i64 ta) (.int .i64 tb) (.int .i64 td) (.bool tq)
  have RS : VRow ((((w5.setCell ⟨(w.heap.size + 1 + 1 + 1 + 1), n * 4, none⟩ (.int .i64 ta)).setCell ⟨(w.heap.size + 1 + 1 + 1 + 1), n * 4 + 1, none⟩ (.int .i64 tb)).setCell ⟨(w.heap.size + 1 + 1 + 1 + 1), n * 4 + 2, none⟩ (.int .i64 td)).setCell ⟨(w.heap.size + 1 + 1 + 1 + 1), n * 4 + 3, none⟩ (.bool tq)) (w.heap.size + 1 + 1 + 1 + 1) (stepsC (m ++ [(ta, tb, td, tq)])) 55 := VRow.wf ((((RM.set (n * 4) (.int .i64 ta)).set (n * 4 + 1) (.int .i64 tb)).set (n * 4 + 2) (.int .i64 td)).set (n * 4 + 3) (.bool tq)) (by rw [hset, stepsC_append]; rfl)
  replace BP := (((BP.other (g := (w.heap.size + 1 + 1 + 1 + 1)) (o := n * 4) (v := .int .i64 ta) (by omega)).other (g := (w.heap.size + 1 + 1 + 1 + 1)) (o := n * 4 + 1) (v := .int .i64 tb) (by omega)).other (g := (w.heap.size + 1 + 1 + 1 + 1)) (o := n * 4 + 2) (v := .int .i64 td) (by omega)).other (g := (w.heap.size + 1 + 1 + 1 + 1)) (o := n * 4 + 3) (v := .bool tq) (by omega)
  replace BV := (((BV.other (g := (w.heap.size + 1 + 1 + 1 + 1)) (o := n * 4) (v := .int .i64 ta) (by omega)).other (g := (w.heap.size + 1 + 1 + 1 + 1)) (o := n * 4 + 1) (v := .int .i64 tb) (by omega)).other (g := (w.heap.size + 1 + 1 + 1 + 1)) (o := n * 4 + 2) (v := .int .i64 td) (by omega)).other (g := (w.heap.size + 1 + 1 + 1 + 1)) (o := n * 4 + 3) (v := .bool tq) (by omega)
  replace BS := (((BS.other (g := (w.heap.size + 1 + 1 + 1 + 1)) (o := n * 4) (v := .int .i64 ta) (by omega)).other (g := (w.heap.size + 1 + 1 + 1 + 1)) (o := n * 4 + 1) (v := .int .i64 tb) (by omega)).other (g := (w.heap.size + 1 + 1 + 1 + 1)) (o := n * 4 + 2) (v := .int .i64 td) (by omega)).other (g := (w.heap.size + 1 + 1 + 1 + 1)) (o := n * 4 + 3) (v := .bool tq) (by omega)
  replace BO := (((BO.other (g := (w.heap.size + 1 + 1 + 1 + 1)) (o := n * 4) (v := .int .i64 ta) (by omega)).other (g := (w.heap.size + 1 + 1 + 1 + 1)) (o := n * 4 + 1) (v := .int .i64 tb) (by omega)).other (g := (w.heap.size + 1 + 1 + 1 + 1)) (o := n * 4 + 2) (v := .int .i64 td) (by omega)).other (g := (w.heap.size + 1 + 1 + 1 + 1)) (o := n * 4 + 3) (v := .bool tq) (by omega)
  replace hb := (((hb.setCell (p := ⟨(w.heap.size + 1 + 1 + 1 + 1), n * 4, none⟩) (by simp; omega) (.int .i64 ta)).setCell (p := ⟨(w.heap.size + 1 + 1 + 1 + 1), n * 4 + 1, none⟩) (by simp; omega) (.int .i64 tb)).setCell (p := ⟨(w.heap.size + 1 + 1 + 1 + 1), n * 4 + 2, none⟩) (by simp; omega) (.int .i64 td)).setCell (p := ⟨(w.heap.size + 1 + 1 + 1 + 1), n * 4 + 3, none⟩) (by simp; omega) (.bool tq)
  replace r1 := irow_set4 r1 hr1 (n * 4) (n * 4 + 1) (n * 4 + 2) (n * 4 + 3) (.int .i64 ta) (.int .i64 tb) (.int .i64 td) (.bool tq)
  replace r2 := irow_set4 r2 hr2 (n * 4) (n * 4 + 1) (n * 4 + 2) (n * 4 + 3) (.int .i64 ta) (.int .i64 tb) (.int .i64 td) (.bool tq)
  have hz6 : ((((w5.setCell ⟨(w.heap.size + 1 + 1 + 1 + 1), n * 4, none⟩ (.int .i64 ta)).setCell ⟨(w.heap.size + 1 + 1 + 1 + 1), n * 4 + 1, none⟩ (.int .i64 tb)).setCell ⟨(w.heap.size + 1 + 1 + 1 + 1), n * 4 + 2, none⟩ (.int .i64 td)).setCell ⟨(w.heap.size + 1 + 1 + 1 + 1), n * 4 + 3, none⟩ (.bool tq)).heap.size = w5.heap.size := by simp
  clear hset e0 e1 e2 e3 ef p0 p1 p2 pf pl x0 x1 x2 x3 xf xl s0 s1 s2 s3 sf sl RM hr1 hr2
  generalize ((((w5.setCell ⟨(w.heap.size + 1 + 1 + 1 + 1), n * 4, none⟩ (.int .i64 ta)).setCell ⟨(w.heap.size + 1 + 1 + 1 + 1), n * 4 + 1, none⟩ (.int .i64 tb)).setCell ⟨(w.heap.size + 1 + 1 + 1 + 1), n * 4 + 2, none⟩ (.int .i64 td)).setCell ⟨(w.heap.size + 1 + 1 + 1 + 1), n * 4 + 3, none⟩ (.bool tq)) = w6 at *
  obtain ⟨q0_BP, q1_BP, q2_BP, qf_BP, ql_BP⟩ := BP.tri
  obtain ⟨q0_BV, q1_BV, q2_BV, q3_BV, qf_BV, ql_BV⟩ := BV.four
  obtain ⟨q0_BS, q1_BS, q2_BS, q3_BS, qf_BS, ql_BS⟩ := BS.four
  go_wp2_with fail
  clear q0_BP q1_BP q2_BP qf_BP ql_BP
  clear q0_BV q1_BV q2_BV q3_BV qf_BV ql_BV
  clear q0_BS q1_BS q2_BS q3_BS qf_BS ql_BS
  have hd1 : w6.drew.heap.size = w6.heap.size := rfl
  replace BP := BP.drew
  replace BV := BV.drew
  replace BS := BS.drew
  replace BO := BO.drew
  replace RS := RS.drew
  replace r1 := r1.drew
  replace r2 := r2.drew
  replace hb := hb.drew
  refine wp_region_held_drew (S := fun w' => w'.cell? ⟨w.heap.size, 0, none⟩ = some (.slice sa n sc) ∧ w'.cell? ⟨w.heap.size, 1, none⟩ = some (.slice b1 xs.length k1) ∧ w'.cell? ⟨w.heap.size, 2, none⟩ = some (.slice b2 ys.length k2) ∧ w'.cell? ⟨(w.heap.size + 1), 0, none⟩ = some (.int .i64 (P : Int)) ∧ w'.cell? ⟨(w.heap.size + 1), 1, none⟩ = some (.int .i64 c) ∧ w'.cell? ⟨(w.heap.size + 1), 2, none⟩ = some (.int .i64 h) ∧ w'.cell? ⟨(w.heap.size + 1), 3, none⟩ = some (.int .i64 s) ∧ w'.cell? ⟨(w.heap.size + 1 + 1), 0, none⟩ = some (.int .i64 ta) ∧ w'.cell? ⟨(w.heap.size + 1 + 1), 1, none⟩ = some (.int .i64 tb) ∧ w'.cell? ⟨(w.heap.size + 1 + 1), 2, none⟩ = some (.int .i64 td) ∧ w'.cell? ⟨(w.heap.size + 1 + 1), 3, none⟩ = some (.bool tq)) (by kernel_rfl) ⟨BP.tri.1, BP.tri.2.1, BP.tri.2.2.1, BV.four.1, BV.four.2.1, BV.four.2.2.1, BV.four.2.2.2.1, BS.four.1, BS.four.2.1, BS.four.2.2.1, BS.four.2.2.2.1⟩ (fun hHeld => ?_)
  clear hHeld
  generalize w6.drew = vd1 at *
  have hHeld : vd1.cell? ⟨w.heap.size, 0, none⟩ = some (.slice sa n sc) ∧ vd1.cell? ⟨w.heap.size, 1, none⟩ = some (.slice b1 xs.length k1) ∧ vd1.cell? ⟨w.heap.size, 2, none⟩ = some (.slice b2 ys.length k2) ∧ vd1.cell? ⟨(w.heap.size + 1), 0, none⟩ = some (.int .i64 (P : Int)) ∧ vd1.cell? ⟨(w.heap.size + 1), 1, none⟩ = some (.int .i64 c) ∧ vd1.cell? ⟨(w.heap.size + 1), 2, none⟩ = some (.int .i64 h) ∧ vd1.cell? ⟨(w.heap.size + 1), 3, none⟩ = some (.int .i64 s) ∧ vd1.cell? ⟨(w.heap.size + 1 + 1), 0, none⟩ = some (.int .i64 ta) ∧ vd1.cell? ⟨(w.heap.size + 1 + 1), 1, none⟩ = some (.int .i64 tb) ∧ vd1.cell? ⟨(w.heap.size + 1 + 1), 2, none⟩ = some (.int .i64 td) ∧ vd1.cell? ⟨(w.heap.size + 1 + 1), 3, none⟩ = some (.bool tq) := ⟨BP.tri.1, BP.tri.2.1, BP.tri.2.2.1, BV.four.1, BV.four.2.1, BV.four.2.2.1, BV.four.2.2.2.1, BS.four.1, BS.four.2.1, BS.four.2.2.1, BS.four.2.2.2.1⟩
  refine tk 0 23 ?_
  refine tk 1 24 ?_
  refine tk 2 25 ?_
  refine tk 3 26 ?_
  refine tk 5 28 ?_
  refine rdk 4 27 fun K hK => ?_
  go_simp
  refine (countsOf_any (P : Int) c h s b1 b2 _ k1 _ k2 xs ys _ rfl rfl r1 r2).mono ?_
  rintro e w2 ⟨B, rfl, q1, q2, hb2⟩
  replace BP := BP.below hb2
  replace BV := BV.below hb2
  replace BS := BS.below hb2
  replace BO := BO.below hb2
  replace RS := RS.below hb2
  replace r1 := r1.below hb2
  replace r2 := r2.below hb2
  have hz2 := hb2.size
  replace hb := chain hb hb2
  clear hb2
  (try go_wp2_with fail)
  refine hko hK (Blk.f3 BP (Blk.f4 BV (Blk.l4 BS))) fun hHeld => ?_
  clear hK K
  refine rdk 6 29 fun K hK => ?_
  go_simp
  refine (HM.out _ _ _ _ q1 q2).mono ?_
  rintro e w3 ⟨g1, g2, rfl, hg1, hg2, R1, R2, hb3⟩
  replace BP := BP.below hb3
  replace BV := BV.below hb3
  replace BS := BS.below hb3
  replace BO := BO.below hb3
  replace RS := RS.below hb3
  replace r1 := r1.below hb3
  replace r2 := r2.below hb3
  replace q1 := q1.below hb3
  replace q2 := q2.below hb3
  have hz3 := hb3.size
  replace hb := chain hb hb3
  clear hb3
  have hl1 := R1.lt
  have hl2 := R2.lt
  (try go_wp2_with fail)
  refine hko hK (Blk.f3 BP (Blk.f4 BV (Blk.l4 BS))) fun hHeld => ?_
  clear hK K
  refine tk 7 30 ?_
  refine rdn 8 fun K hK => ?_
  obtain ⟨z0, z1, z2, zf, zl⟩ := BO.tri
  go_simp
  (try go_wp2_with fail)
  refine hko hK (Blk.f3 (((BP.other (g := (w.heap.size + 1 + 1 + 1)) (o := 0) (v := .slice (some ⟨w.heap.size + 1 + 1 + 1 + 1, 0, none⟩) (n + 1) (n + 1)) (by omega)).other (g := (w.heap.size + 1 + 1 + 1)) (o := 1) (v := .slice (some ⟨g1, 0, none⟩) X'.length X'.length) (by omega)).other (g := (w.heap.size + 1 + 1 + 1)) (o := 2) (v := .slice (some ⟨g2, 0, none⟩) Y'.length Y'.length) (by omega)) (Blk.f4 (((BV.other (g := (w.heap.size + 1 + 1 + 1)) (o := 0) (v := .slice (some ⟨w.heap.size + 1 + 1 + 1 + 1, 0, none⟩) (n + 1) (n + 1)) (by omega)).other (g := (w.heap.size + 1 + 1 + 1)) (o := 1) (v := .slice (some ⟨g1, 0, none⟩) X'.length X'.length) (by omega)).other (g := (w.heap.size + 1 + 1 + 1)) (o := 2) (v := .slice (some ⟨g2, 0, none⟩) Y'.length Y'.length) (by omega)) (Blk.l4 (((BS.other (g := (w.heap.size + 1 + 1 + 1)) (o := 0) (v := .slice (some ⟨w.heap.size + 1 + 1 + 1 + 1, 0, none⟩) (n + 1) (n + 1)) (by omega)).other (g := (w.heap.size + 1 + 1 + 1)) (o := 1) (v := .slice (some ⟨g1, 0, none⟩) X'.length X'.length) (by omega)).other (g := (w.heap.size + 1 + 1 + 1)) (o := 2) (v := .slice (some ⟨g2, 0, none⟩) Y'.length Y'.length) (by omega))))) fun hHeld => ?_
  clear hK K
  refine wpAnyH_done (by kernel_rfl) ?_ _
  clear hHeld
  go_wp2
  clear z0 z1 z2 zf zl
  have MO := ((BO.set (i := 0) (.slice (some ⟨w.heap.size + 1 + 1 + 1 + 1, 0, none⟩) (n + 1) (n + 1))).set (i := 1) (.slice (some ⟨g1, 0, none⟩) X'.length X'.length)).set (i := 2) (.slice (some ⟨g2, 0, none⟩) Y'.length Y'.length)
  simp only [List.setIfInBounds_toArray, List.set_cons_zero, List.set_cons_succ] at MO
  have MS := ((RS.other (g := (w.heap.size + 1 + 1 + 1)) (o := 0) (v := .slice (some ⟨w.heap.size + 1 + 1 + 1 + 1, 0, none⟩) (n + 1) (n + 1)) (by omega)).other (g := (w.heap.size + 1 + 1 + 1)) (o := 1) (v := .slice (some ⟨g1, 0, none⟩) X'.length X'.length) (by omega)).other (g := (w.heap.size + 1 + 1 + 1)) (o := 2) (v := .slice (some ⟨g2, 0, none⟩) Y'.length Y'.length) (by omega)
  have M1 := ((R1.other (g := (w.heap.size + 1 + 1 + 1)) (o := 0) (v := .slice (some ⟨w.heap.size + 1 + 1 + 1 + 1, 0, none⟩) (n + 1) (n + 1)) (by omega)).other (g := (w.heap.size + 1 + 1 + 1)) (o := 1) (v := .slice (some ⟨g1, 0, none⟩) X'.length X'.length) (by omega)).other (g := (w.heap.size + 1 + 1 + 1)) (o := 2) (v := .slice (some ⟨g2, 0, none⟩) Y'.length Y'.length) (by omega)
  have M2 := ((R2.other (g := (w.heap.size + 1 + 1 + 1)) (o := 0) (v := .slice (some ⟨w.heap.size + 1 + 1 + 1 + 1, 0, none⟩) (n + 1) (n + 1)) (by omega)).other (g := (w.heap.size + 1 + 1 + 1)) (o := 1) (v := .slice (some ⟨g1, 0, none⟩) X'.length X'.length) (by omega)).other (g := (w.heap.size + 1 + 1 + 1)) (o := 2) (v := .slice (some ⟨g2, 0, none⟩) Y'.length Y'.length) (by omega)
  have hM := ((hb.setCell (p := ⟨(w.heap.size + 1 + 1 + 1), 0, none⟩) (by simp; omega) (.slice (some ⟨w.heap.size + 1 + 1 + 1 + 1, 0, none⟩) (n + 1) (n + 1))).setCell (p := ⟨(w.heap.size + 1 + 1 + 1), 1, none⟩) (by simp; omega) (.slice (some ⟨g1, 0, none⟩) X'.length X'.length)).setCell (p := ⟨(w.heap.size + 1 + 1 + 1), 2, none⟩) (by simp; omega) (.slice (some ⟨g2, 0, none⟩) Y'.length Y'.length)
  have hsz : (((w3.setCell ⟨(w.heap.size + 1 + 1 + 1), 0, none⟩ (.slice (some ⟨w.heap.size + 1 + 1 + 1 + 1, 0, none⟩) (n + 1) (n + 1))).setCell ⟨(w.heap.size + 1 + 1 + 1), 1, none⟩ (.slice (some ⟨g1, 0, none⟩) X'.length X'.length)).setCell ⟨(w.heap.size + 1 + 1 + 1), 2, none⟩ (.slice (some ⟨g2, 0, none⟩) Y'.length Y'.length)).heap.size = w3.heap.size := by simp
  have hlS := RS.lt
  clear BO RS R1 R2 hb BP BV BS r1 r2 q1 q2
  generalize (((w3.setCell ⟨(w.heap.size + 1 + 1 + 1), 0, none⟩ (.slice (some ⟨w.heap.size + 1 + 1 + 1 + 1, 0, none⟩) (n + 1) (n + 1))).setCell ⟨(w.heap.size + 1 + 1 + 1), 1, none⟩ (.slice (some ⟨g1, 0, none⟩) X'.length X'.length)).setCell ⟨(w.heap.size + 1 + 1 + 1), 2, none⟩ (.slice (some ⟨g2, 0, none⟩) Y'.length Y'.length)) = we at *
  obtain ⟨z0, z1, z2, zf, zl⟩ := MO.tri
  have hml : (m ++ [(ta, tb, td, tq)]).length = n + 1 := by rw [List.length_append, HN.out]; rfl
  refine bodyPost_ret (v := .agg #[.slice (some ⟨w.heap.size + 1 + 1 + 1 + 1, 0, none⟩) (n + 1) (n + 1), .slice (some ⟨g1, 0, none⟩) X'.length X'.length, .slice (some ⟨g2, 0, none⟩) Y'.length Y'.length]) (by simp [results, Tryz.results106, go_sem, z0, z1, z2]) rfl ?_
  refine ⟨(⟨some ⟨w.heap.size + 1 + 1 + 1 + 1, 0, none⟩, n + 1, some ⟨g1, 0, none⟩, X'.length, some ⟨g2, 0, none⟩, Y'.length⟩, (m ++ [(ta, tb, td, tq)], X', Y')), ?_, rfl, ⟨?_, ?_⟩, hM⟩
  · dsimp only [plV, pl0, pl1, pl2]
    rw [hml]
  · exact .inr ⟨_, rfl, by omega, by omega, MS⟩
  · exact .inr ⟨g1, g2, rfl, rfl, by omega, by omega, by omega, by omega, by omega, M1, M2⟩
end Go.Proofs.YtciljbnailobgaaGreat
namespace Go.Proofs.YtciljbnailobgaaGreat
open Go.ChangeShapes Go.WideShapes Go.ChangeAt Go.RowKit
attribute [local go_sem] Oper.semAt_some
set_option linter.unusedVariables false
set_option linter.unusedSimpArgs false
set_option maxRecDepth 4000
def GoodP (p c h s : Int) (lo K : Nat) (x : PP) (W : World) : Prop := PAt lo W.heap.size W x ∧ isB p c h s x.2.2.1 x.2.2.2 = true ∧ x.2.1.length ≤ K
theorem longer_any (P : Nat) (c h s d : Int) (la : Option Addr) (ln lc : Nat) (w : World) :
    Calls Tryz.prog 87 #[.agg #[.int .i64 (P : Int), .int .i64 c, .int .i64 h, .int .i64 s], .slice la ln lc, .int .i64 d] w fun e w' => e = .returned (.func (.func 104) #[] #[.pointer (some ⟨w.heap.size + 1, 0, none⟩), .pointer (some ⟨w.heap.size, 0, none⟩), .pointer (some ⟨w.heap.size + 1 + 1, 0, none⟩)]) ∧
      Blk w' w.heap.size #[.int .i64 (P : Int), .int .i64 c, .int .i64 h, .int .i64 s] 25 ∧ Blk w' (w.heap.size + 1) #[.slice la ln lc] 33 ∧ Blk w' (w.heap.size + 1 + 1) #[.int .i64 d] 2 ∧ Below w.heap.size w w' ∧ w'.heap.size = w.heap.size + 1 + 1 + 1 := by
  obtain ⟨B1, B2, B3, hb, hz⟩ := three_new w #[.int .i64 (P : Int), .int .i64 c, .int .i64 h, .int .i64 s] #[.slice la ln lc] #[.int .i64 d] 25 33 2
  go_enter Tryz.func87, Tryz.ntmps87
  go_wp2
  go_ret
  exact ⟨rfl, B1, B2, B3, hb, hz⟩
def joinPost (J : Act → World → Prop) : Exit → Act → World → Prop
  | .normal, a, w => J a w
  | _, _, _ => False
theorem wpIn_join {F : Fence} {n : Nat} {P : Program} {c : Code} {Q : Exit → Act → World → Prop} {a : Act} {w : World} (J : Act → World → Prop) (h1 : c.wpIn F n P (joinPost J) a w) (h2 : ∀ a' w', J a' w' → Q .normal a' w') : c.wpIn F n P Q a w :=
  wpIn_mono h1 (fun e a w h => by
    cases e with
    | normal => exact h2 _ _ h
    | ret => exact h.elim
    | exit id => exact h.elim
    | goto t => exact h.elim
    | panic ch => exact h.elim
    | outgrown => exact h.elim)
theorem flat_take (P : Nat) (h d : Int) (L : List Ply) (k : Nat) (x : Ply) (hx : L[k]? = some x) : (L.take (k + 1)).flatMap (cand P h d) = (L.take k).flatMap (cand P h d) ++ cand P h d x := by
  rw [List.take_add_one, hx]
  simp [List.flatMap_append]
theorem flat_bound (P : Nat) (h d : Int) (L : List Ply) (k : Nat) (hk : k < L.length) (j : Nat) (hj : j < P + 1) : ((L.take k).flatMap (cand P h d)).length + j < L.length * (P + 1) := by
  have h1 := flat_length P h d (L.take k)
  have h2 : (L.take k).length = k := by rw [List.length_take]; omega
  rw [h2] at h1
  have h3 : (k + 1) * (P + 1) ≤ L.length * (P + 1) := Nat.mul_le_mul_right _ (by omega)
  rw [Nat.add_mul] at h3
  omega
theorem isB_vB {p c h s : Int} {xs ys : List Int} (g : isB p c h s xs ys = true) : vB p c h s = true := by
  simp only [isB, Bool.and_eq_true] at g
  exact g.1
set_option maxRecDepth 100000 in
set_option maxHeartbeats 4000000 in
theorem longer1_good (P : Nat) (c h s d : Int) (Bl Bv Bd : Nat) (la : Option Addr) (lc lo hi K : Nat) (l : List PP) (w : World) (hd : inB d 1 s = true) (hBl : Blk w Bl #[.slice la l.length lc] 33) (hBv : Blk w Bv #[.int .i64 (P : Int), .int .i64 c, .int .i64 h, .int .i64 s] 25) (hBd : Blk w Bd #[.int .i64 d] 2) (hO : OPl lo hi w la l) (hA : PAll lo hi w l)
    (hF : Fine (P : Int) c h s (l.map (·.2))) (hK : ∀ x ∈ l, x.2.1.length < K) (hK2 : K ≤ 1000) (hl : l.length ≤ 1000000) :
    SeqGood 104 #[.pointer (some ⟨Bl, 0, none⟩), .pointer (some ⟨Bv, 0, none⟩), .pointer (some ⟨Bd, 0, none⟩)] (fun x : PP => #[plV x]) (GoodP (P : Int) c h s w.heap.size K) Dis w.heap.size (fun xs => xs.map (·.2) = (l.map (·.2)).flatMap (cand P h d)) (l.length * (P + 1)) w := by
  intro n yl foot J W hW hJ hf hJf hY h0
  refine callsIn_of_wp Tryz.func104 rfl trivial ?_ rfl
  simp only [Tryz.ntmps104, List.size_toArray, List.length_cons, List.length_nil, Nat.reduceAdd, Nat.reduceSub, Array.replicate_succ, Array.replicate_zero, List.push_toArray, List.append_toArray, List.nil_append, List.cons_append]
  have BL := hBl.below hW
  have BV := hBv.below hW
  have BD := hBd.below hW
  have l0 := BL.one.1
  gi_wp2
  gi_loopw [11] (fun i wr => ∃ k : Nat, k ≤ l.length ∧ i = .int .i64 k ∧ (∃ pre : List PP, pre.map (·.2) = ((l.map (·.2)).take k).flatMap (cand P h d) ∧ J pre wr ∧ Und pre wr.heap.size) ∧ Below w.heap.size w wr ∧ W.heap.size ≤ wr.heap.size) (fun i _ => l.length - (intOf i).toNat)
  case atStart => exact ⟨0, Nat.zero_le _, rfl, ⟨[], rfl, h0, Und.nil _⟩, hW, Nat.le_refl _⟩
  case round =>
    clear BL BV BD l0 h0
    obtain ⟨k, hk, rfl, ⟨pre, hpre, hJs, hUn⟩, hb, hWs⟩ := hrel
    by_cases hlt : k < l.length
    · obtain ⟨x, hx⟩ : ∃ x, l[k]? = some x := ⟨_, List.getElem?_eq_getElem hlt⟩
      have hxm : x ∈ l := List.mem_of_getElem? hx
      obtain ⟨gl, rfl, hrow⟩ := hO.row hlt
      have hrow2 := hrow.below hb
      obtain ⟨c0, c1, c2⟩ := PRow.three hrow2 k x hx
      have hat := (hA x hxm).below hb
      have gx := hF x.2 (List.mem_map.2 ⟨x, hxm, rfl⟩)
      have gp := isB_parts gx
      have hdd := inB_iff.1 hd
      have hs6 : s ≤ 6 := by have := vB_iff.1 (isB_vB gx); omega
      have hlx := hK x hxm
      have BV := hBv.below hb
      have BD := hBd.below hb
      have hlt' : (k : Int) < (l.length : Int) := by omega
      have hk0 : (0 : Int) ≤ (k : Int) := by omega
      gi_wp2_with fail
      have hal : Below wr.heap.size wr (wr.alloc (.cells #[.slice x.1.sa x.2.1.length x.1.sc, .slice x.1.b1 x.2.2.1.length x.1.k1, .slice x.1.b2 x.2.2.2.length x.1.k2] 44)) := (Below.refl _ _).alloc (Nat.le_refl _) _
      have B6 := Blk.new wr #[.slice x.1.sa x.2.1.length x.1.sc, .slice x.1.b1 x.2.2.1.length x.1.k1, .slice x.1.b2 x.2.2.2.length x.1.k2] 44
      have hzA : (wr.alloc (.cells #[.slice x.1.sa x.2.1.length x.1.sc, .slice x.1.b1 x.2.2.1.length x.1.k1, .slice x.1.b2 x.2.2.2.length x.1.k2] 44)).heap.size = wr.heap.size + 1 := by simp
      replace BV := BV.below hal
      replace BD := BD.below hal
      have r1 := hat.2.irow1.below hal
      have r2 := hat.2.irow2.below hal
      have hat2 := hat.below hal
      replace hb := chain hb hal
      have hJ2 := hJ _ _ _ hJs hal
      clear c0 c1 c2 hrow hrow2
      have hal0 := hal
      generalize (wr.alloc (.cells #[.slice x.1.sa x.2.1.length x.1.sc, .slice x.1.b1 x.2.2.1.length x.1.k1, .slice x.1.b2 x.2.2.2.length x.1.k2] 44)) = v0 at *
      obtain ⟨x0, x1, x2, x3, xf, xl⟩ := BV.four
      have y0 := BD.one.1
      obtain ⟨b0, b1, b2, bf, bl⟩ := B6.tri
      have hmx : Tryz.prog.follows .mixedOrders = true := by kernel_rfl
      have hbd : Below v0.heap.size v0 v0.drew := (Below.refl _ _).drew
      have r1d := r1.below hbd
      have r2d := r2.below hbd
      have BVd := BV.below hbd
      have BDd := BD.below hbd
      have B6d := B6.below hbd
      refine wpIn_join (fun a' w' => ∃ B sta stk, a' = { tmps := #[.func (.yield yl) #[] #[], .pointer (some ⟨Bl, 0, none⟩), .pointer (some ⟨Bv, 0, none⟩), .pointer (some ⟨Bd, 0, none⟩), undef, undef, .pointer (some ⟨wr.heap.size, 0, none⟩), undef, u8, .slice (some ⟨gl, 0, none⟩) l.length lc, .int .i64 l.length, .int .i64 k, .bool true, .pointer (some ⟨gl, k * 3, none⟩), .agg #[pl0 x, pl1 x, pl2 x], .agg #[.int .i64 (P : Int), .int .i64 c, .int .i64 h, .int .i64 s], .agg #[.int .i64 (P : Int), .int .i64 c, .int .i64 h, .int .i64 s], .pointer (some ⟨wr.heap.size, 1, none⟩), .agg #[.slice x.1.b1 x.2.2.1.length x.1.k1, .slice x.1.b2 x.2.2.2.length x.1.k2], tv (P : Int) 88 89 B, .int .i64 d, .slice sta (legL P h x.2.2.1 x.2.2.2 d).length stk, .int .i64 (legL P h x.2.2.1 x.2.2.2 d).length, .int .i64 0, u24, u25, u26, u27, u28, u29, u30, u31, u32, u33, u34, u35], defers := [] } ∧ OSt v0.heap.size w'.heap.size w' sta (legL P h x.2.2.1 x.2.2.2 d) ∧ Below v0.heap.size v0 w') ?_ ?_
      · gi_region_with_o (first | (refine ⟨trivial, ?_⟩; gi_at_call 58; refine (callsIn_wide.2 (countsOf_any (P : Int) c h s x.1.b1 x.1.b2 _ x.1.k1 _ x.1.k2 x.2.2.1 x.2.2.2 _ rfl rfl r1d r2d)).mono ?_; rintro e w5 ⟨B, rfl, q1, q2, hb5⟩; have x0' := (BVd.below hb5).four; have y0' := (BDd.below hb5).one.1; have b0' := (B6d.below hb5).tri) | (refine ⟨trivial, ?_⟩; gi_at_call 105; refine (callsIn_wide.2 (legalSteps_any P c h s _ _ B x.2.2.1 x.2.2.2 _ (by omega) (by omega) (by omega) (by omega) gp.2.2.2.2.2.2.2.2.1 gp.2.2.2.2.2.2.2.2.2.1 q1 q2 d (by omega) (by omega))).mono ?_; rintro e w6 ⟨sta, stk, rfl, hOS, hb6⟩))
        all_goals exact ⟨B, sta, stk, rfl, hOS.mono (hb5.size) (Nat.le_refl _), chain hbd (chain hb5 hb6)⟩
      · rintro a' w6 ⟨B, sta, stk, rfl, hOS, hb6⟩
        clear x0 x1 x2 x3 xf xl y0 b0 b1 b2 bf bl hbd r1d r2d BVd BDd B6d r1 r2 hmx
        obtain ⟨L, hL⟩ : ∃ L, legL P h x.2.2.1 x.2.2.2 d = L := ⟨_, rfl⟩
        have hLl : L.length ≤ P + 1 := by rw [← hL]; exact legL_length P h _ _ d
        have hLp : ∀ t ∈ L, placesB (P : Int) t = true := fun t ht => legB_places (legL_leg gx hd (by rw [hL]; exact ht))
        have hLf : ∀ t ∈ L, isB (P : Int) c h s (oneMore P x.2 t).2.1 (oneMore P x.2 t).2.2 = true := fun t ht => cand_fine gx hd _ (List.mem_map.2 ⟨t, by rw [hL]; exact ht, rfl⟩)
        have hcand : cand P h d x.2 = L.map (oneMore P x.2) := by unfold cand; rw [hL]
        rw [hL] at hOS ⊢
        have HLP := Lib.hid hLp
        have HLF := Lib.hid hLf
        have HCA := Lib.hid hcand
        clear hL hLp hLf hcand
        have B66 := B6.below hb6
        have hnf6 : ¬ foot w6 wr.heap.size := fun q => by
          have := hJf _ _ _ hJs (hf _ _ _ (by omega) hal0 (hf _ _ _ (by omega) hb6 q))
          omega
        have hnfs : ∀ g, sta = some ⟨g, 0, none⟩ → v0.heap.size ≤ g → ¬ foot w6 g := fun g _ hg q => by
          have := hJf _ _ _ hJ2 (hf _ _ _ (by omega) hb6 q)
          omega
        have hJ6 := hJ _ _ _ hJ2 hb6
        have hb06 := chain hb hb6
        have hat6 := hat2.below hb6
        have hz6 := hb6.size
        clear hb6 BV BD B6 hat2 hJ2 hb hat hal0 hJs
        have hg6 : wr.heap.size < w6.heap.size := B66.lt
        generalize wr.heap.size = g6 at *
        clear hlt' hk0
        gi_wp2
        gi_loopw [23] (fun i2 w2 => ∃ j : Nat, j ≤ L.length ∧ i2 = .int .i64 j ∧ (∃ pre2 : List PP, pre2.map (·.2) = ((l.map (·.2)).take k).flatMap (cand P h d) ++ (L.take j).map (oneMore P x.2) ∧ J pre2 w2 ∧ Und pre2 w2.heap.size) ∧ Below w.heap.size w w2 ∧ W.heap.size ≤ w2.heap.size ∧ Blk w2 g6 #[.slice x.1.sa x.2.1.length x.1.sc, .slice x.1.b1 x.2.2.1.length x.1.k1, .slice x.1.b2 x.2.2.2.length x.1.k2] 44 ∧ ¬ foot w2 g6 ∧ OSt v0.heap.size w6.heap.size w2 sta L ∧ (∀ g, sta = some ⟨g, 0, none⟩ → v0.heap.size ≤ g → ¬ foot w2 g)) (fun i2 _ => L.length - (intOf i2).toNat)
        case atStart => exact ⟨0, Nat.zero_le _, rfl, ⟨pre, by rw [hpre]; simp, hJ6, hUn.mono (by omega)⟩, hb06, by omega, B66, hnf6, hOS, hnfs⟩
        case round =>
          clear hJ6 hb06 B66 hnf6 hOS hnfs hat6
          obtain ⟨j, hj, rfl, ⟨pre2, hpre2, hJ2, hUn2⟩, hb, hW2, B6, hnf6, hOS, hnfs⟩ := hrel
          by_cases hjt : j < L.length
          · obtain ⟨t, ht⟩ : ∃ t, L[j]? = some t := ⟨_, List.getElem?_eq_getElem hjt⟩
            have htm : t ∈ L := List.mem_of_getElem? ht
            obtain ⟨gs, rfl, hsr⟩ := hOS.row hjt
            obtain ⟨c0, c1, c2, c3⟩ := SRow.four hsr j t ht
            obtain ⟨b0, b1, b2, bf, bl⟩ := B6.tri
            obtain ⟨x0, x1, x2, x3, xf, xl⟩ := (hBv.below hb).four
            have hat := (hA x hxm).below hb
            have htp := HLP.out t htm
            have htf := HLF.out t htm
            have hjt' : (j : Int) < (L.length : Int) := by omega
            have hj0 : (0 : Int) ≤ (j : Int) := by omega
            have hg6s : gs < w6.heap.size := by
              rcases hOS with ⟨e, _⟩ | ⟨g', e, q1, q2, _⟩
              · simp at e
              · simp at e; omega
            have hgs : v0.heap.size ≤ gs := by
              rcases hOS with ⟨e, _⟩ | ⟨g', e, q1, q2, _⟩
              · simp at e
              · simp at e; omega
            have hlen2 : pre2.length < l.length * (P + 1) := by
              have q := congrArg List.length hpre2
              rw [List.length_map, List.length_append, List.length_map, List.length_take] at q
              have q2 := flat_bound P h d (l.map (·.2)) k (by simp; omega) j (by omega)
              rw [List.length_map] at q2
              omega
            obtain ⟨ta, tb, td, tq⟩ := t
            dsimp only at c0 c1 c2 c3
            have hthen := fun (W' : World) (hw : PAt lo hi W' x) => then_any P c h s x (ta, tb, td, tq) lo hi W' gx htp (by omega) hw
            have HTH := Lib.hid hthen
            have hlx2 : x.2.1.length < K := hlx
            clear hthen
            gi_wp2_with fail
            have hal2 : Below wr.heap.size wr (wr.alloc (.cells #[.int .i64 ta, .int .i64 tb, .int .i64 td, .bool tq] 55)) := (Below.refl _ _).alloc (Nat.le_refl _) _
            have hsA := hal2.size
            refine ⟨trivial, (callsIn_wide.2 (HTH.out _ (hat.below hal2))).mono ?_⟩
            rintro e X ⟨y, rfl, hy2, hPA, hbX⟩
            have hsX := hbX.size
            have hJX := hJ _ _ _ (hJ _ _ _ hJ2 hal2) hbX
            have hbW := chain (chain hb hal2) hbX
            have B6X := (B6.below hal2).below hbX
            have hsrX := (hsr.below hal2).below hbX
            have hn6X : ¬ foot X g6 := fun q => hnf6 (hf _ _ _ (by omega) hal2 (hf _ _ _ (by omega) hbX q))
            have hnsX : ¬ foot X gs := fun q => hnfs gs rfl hgs (hf _ _ _ (by omega) hal2 (hf _ _ _ (by omega) hbX q))
            have hgood : GoodP (P : Int) c h s w.heap.size K y X := ⟨hPA.mono (by have := hb.size; omega) (Nat.le_refl _), by rw [hy2]; exact htf, by rw [hy2]; unfold oneMore; simp; omega⟩
            have hdis : ∀ z ∈ pre2, Dis z y := fun z hz a ha b hb' => by have h1 := hUn2 z hz a ha; have h2 := (hPA.adr b hb').1; omega
            have hUnX : Und (pre2 ++ [y]) X.heap.size := hUn2.snoc (by omega) (fun a ha => (hPA.adr a ha).2)
            obtain ⟨fn, tmps, assign, body, hyy, hR⟩ := hY pre2 y X hJX hgood hdis hlen2 (by omega)
            clear hdis
            have hl6 := B6X.lt
            have hls := hsrX.lt
            have HY2 := Lib.hid hy2
            clear hal2 B6 hsr c0 c1 c2 c3 b0 b1 b2 bf bl x0 x1 x2 x3 xf xl hnf6 hnfs hJ2 hb hOS hat hgood HTH htp htf hjt' hj0 hbX hy2 hPA hJX
            gi_wp2
            refine hR.mono ?_
            rintro e Y ⟨rfl, hJY, hbY, hKp⟩
            have hsY := hKp.size
            have B6Y : Blk Y g6 #[.slice x.1.sa x.2.1.length x.1.sc, .slice x.1.b1 x.2.2.1.length x.1.k1, .slice x.1.b2 x.2.2.2.length x.1.k2] 44 := (hKp.same g6 hl6 hn6X).trans B6X
            have hrY : SRow Y gs L := by
              obtain ⟨cur, q1, q2, q3⟩ := hsrX
              exact ⟨cur, (hKp.same gs hls hnsX).trans q1, q2, q3⟩
            gi_wp2
            go_roundw
            case rel => exact ⟨j + 1, by omega, by simp, ⟨pre2 ++ [y], by rw [List.map_append, hpre2, List.append_assoc, List.take_add_one, ht, List.map_append, List.map_cons, List.map_nil, HY2.out]; rfl, hJY, hUnX.mono hsY⟩, hbW.trans hbY, by omega, B6Y, fun q => hn6X (hKp.foot g6 hl6 q), .inr ⟨gs, rfl, hgs, hg6s, hrY⟩, fun g e _ q => by
              simp at e
              subst e
              exact hnsX (hKp.foot gs hls q)⟩
            case measure => simp [intOf]; omega
          · obtain rfl : j = L.length := by omega
            have hjt' : ¬ (L.length : Int) < (L.length : Int) := by omega
            rw [List.take_length, ← HCA.out, ← flat_take P h d (l.map (·.2)) k x.2 (by rw [List.getElem?_map, hx]; rfl)] at hpre2
            gi_wp2
            go_roundw
            case rel => exact ⟨k + 1, by omega, by simp, ⟨pre2, hpre2, hJ2, hUn2⟩, hb, hW2⟩
            case measure => simp [intOf]; omega
    · obtain rfl : k = l.length := by omega
      have hlt' : ¬ (l.length : Int) < (l.length : Int) := by omega
      rw [show (l.map (·.2)).take l.length = l.map (·.2) from List.take_of_length_le (by simp)] at hpre
      gi_wp2
      go_end0
      exact ⟨⟨_, rfl⟩, pre, hpre, hJs⟩
end Go.Proofs.YtciljbnailobgaaGreat
