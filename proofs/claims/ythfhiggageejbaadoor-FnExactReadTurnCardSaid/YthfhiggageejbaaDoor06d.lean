/- Contracts on texts of steps as arrays of bytes. -/
import Derived.Test.YthfhiggageejbaaDoor06c
import Derived.Lib.SlBuf
import Derived.Lib.BufferWrite
import Derived.Laws.BytesArg
import Derived.Stop.BytesEq
import Derived.Laws.CopyOwn
namespace Go.Proofs.YthfhiggageejbaaDoor
open Go.ChangeShapes Go.WideShapes Go.ChangeAt Go.RowKit
set_option linter.unusedVariables false
set_option linter.unusedSimpArgs false

/-- A text as bytes: its length, its bytes, zeros. -/
def bytL (l : List UInt8) : List UInt8 := UInt8.ofNat l.length :: (l ++ List.replicate (8 - l.length) 0)
def bytC (b : UInt8) : Value := .int .u8 (b.toNat : Int)
def bytV (l : List UInt8) : Array Value := ((bytL l).map bytC).toArray
theorem bytL_length {l : List UInt8} (h : l.length ≤ 8) : (bytL l).length = 9 := by simp [bytL]; omega
theorem ofNat_len {n : Nat} (h : n ≤ 8) : (UInt8.ofNat n).toNat = n := by simp [UInt8.toNat_ofNat]; omega
theorem bytL_inj {l m : List UInt8} (hl : l.length ≤ 8) (hm : m.length ≤ 8) (h : bytL l = bytL m) : l = m := by
  unfold bytL at h
  obtain ⟨h1, h2⟩ := List.cons.inj h
  have e : l.length = m.length := by
    have := congrArg UInt8.toNat h1
    rwa [ofNat_len hl, ofNat_len hm] at this
  exact (List.append_inj h2 e).1
theorem bytV_nine {l : List UInt8} (h : l.length ≤ 8) : ∃ (v0 v1 v2 v3 v4 v5 v6 v7 v8 : Int), bytV l = #[.int .u8 v0, .int .u8 v1, .int .u8 v2, .int .u8 v3, .int .u8 v4, .int .u8 v5, .int .u8 v6, .int .u8 v7, .int .u8 v8] ∧ v0 = (l.length : Int) := by
  unfold bytV
  have hl := bytL_length h
  have h0 : (bytL l).head? = some (UInt8.ofNat l.length) := rfl
  revert h0 hl
  generalize bytL l = L
  intro hl h0
  match L, hl with
  | [a0, a1, a2, a3, a4, a5, a6, a7, a8], _ =>
    refine ⟨_, _, _, _, _, _, _, _, _, rfl, ?_⟩
    simp at h0
    rw [h0, ofNat_len h]
theorem bytV_run (l : List UInt8) (h : l.length ≤ 8) (c0 : Value) (hc : c0 = .int .u8 (l.length : Int)) :
    (([c0, .int .u8 0, .int .u8 0, .int .u8 0, .int .u8 0, .int .u8 0, .int .u8 0, .int .u8 0, .int .u8 0] : List Value).take 1 ++ Lib.byteCells l ++ ([c0, .int .u8 0, .int .u8 0, .int .u8 0, .int .u8 0, .int .u8 0, .int .u8 0, .int .u8 0, .int .u8 0] : List Value).drop (1 + l.length)).toArray = bytV l := by
  subst hc
  have e : ([.int .u8 (l.length : Int), .int .u8 0, .int .u8 0, .int .u8 0, .int .u8 0, .int .u8 0, .int .u8 0, .int .u8 0, .int .u8 0] : List Value) = .int .u8 (l.length : Int) :: List.replicate 8 (.int .u8 0) := rfl
  rw [e]
  unfold bytV bytL
  rw [Nat.add_comm 1 l.length, List.drop_succ_cons, List.drop_replicate]
  simp only [List.take_succ_cons, List.take_zero, List.map_cons, List.map_append, List.map_replicate]
  rw [show bytC (UInt8.ofNat l.length) = .int .u8 (l.length : Int) by rw [bytC, ofNat_len h]]
  rfl
theorem sizeU8 : (Tryd.prog.info? 5).map (·.size) = some 1 := by kernel_rfl
set_option maxRecDepth 8000 in
set_option maxHeartbeats 1000000 in
theorem bytesOfText_any (t : ByteArray) (w : World) (ht : t.size ≤ 8) :
    Calls Tryd.prog 60 #[.string t] w fun e w' => e = .returned (.tuple #[.agg (bytV t.data.toList), .bool true]) ∧ Below w.heap.size w w' := by
  have e1 : decide (8 < (t.size : Int)) = false := by simp; omega
  have e2 : decide (8 < t.size) = false := by simp; omega
  have hsz := Lib.size_eq t
  obtain ⟨v0, v1, v2, v3, v4, v5, v6, v7, v8, hv, hv0⟩ := bytV_nine (l := t.data.toList) (by omega)
  rw [hv]
  have hbase : Below w.heap.size w ((w.alloc (.cells #[.int .u8 0, .int .u8 0, .int .u8 0, .int .u8 0, .int .u8 0, .int .u8 0, .int .u8 0, .int .u8 0, .int .u8 0] 73)).alloc (.cells #[.int .u8 (t.size : Int), .int .u8 0, .int .u8 0, .int .u8 0, .int .u8 0, .int .u8 0, .int .u8 0, .int .u8 0, .int .u8 0] 73)) := ((Below.refl _ _).alloc (Nat.le_refl _) _).alloc (by simp) _
  have hB := Blk.new (w.alloc (.cells #[.int .u8 0, .int .u8 0, .int .u8 0, .int .u8 0, .int .u8 0, .int .u8 0, .int .u8 0, .int .u8 0, .int .u8 0] 73)) #[.int .u8 (t.size : Int), .int .u8 0, .int .u8 0, .int .u8 0, .int .u8 0, .int .u8 0, .int .u8 0, .int .u8 0, .int .u8 0] 73
  have hA := (Blk.new w #[.int .u8 0, .int .u8 0, .int .u8 0, .int .u8 0, .int .u8 0, .int .u8 0, .int .u8 0, .int .u8 0, .int .u8 0] 73).alloc (.cells #[.int .u8 (t.size : Int), .int .u8 0, .int .u8 0, .int .u8 0, .int .u8 0, .int .u8 0, .int .u8 0, .int .u8 0, .int .u8 0] 73)
  rw [show (w.alloc (.cells #[.int .u8 0, .int .u8 0, .int .u8 0, .int .u8 0, .int .u8 0, .int .u8 0, .int .u8 0, .int .u8 0, .int .u8 0] 73)).heap.size = w.heap.size + 1 by simp] at hB
  obtain ⟨W1, hr, B0, B1, hb⟩ : ∃ W1 : World, (Builtin.copy_ #[35, 9] 3 #[.slice (some ⟨w.heap.size + 1, 1, none⟩) 8 8, .string t]).run Tryd.prog ((w.alloc (.cells #[.int .u8 0, .int .u8 0, .int .u8 0, .int .u8 0, .int .u8 0, .int .u8 0, .int .u8 0, .int .u8 0, .int .u8 0] 73)).alloc (.cells #[.int .u8 (t.size : Int), .int .u8 0, .int .u8 0, .int .u8 0, .int .u8 0, .int .u8 0, .int .u8 0, .int .u8 0, .int .u8 0] 73)) = .ok (goInt t.size) W1 ∧
      Blk W1 w.heap.size #[.int .u8 0, .int .u8 0, .int .u8 0, .int .u8 0, .int .u8 0, .int .u8 0, .int .u8 0, .int .u8 0, .int .u8 0] 73 ∧ Blk W1 (w.heap.size + 1) #[.int .u8 v0, .int .u8 v1, .int .u8 v2, .int .u8 v3, .int .u8 v4, .int .u8 v5, .int .u8 v6, .int .u8 v7, .int .u8 v8] 73 ∧ Below w.heap.size w W1 := by
    refine ⟨_, Lib.run_copy_row_string _ 35 9 3 5 (w.heap.size + 1) 1 8 8 t #[.int .u8 (t.size : Int), .int .u8 0, .int .u8 0, .int .u8 0, .int .u8 0, .int .u8 0, .int .u8 0, .int .u8 0, .int .u8 0] 73 Tryd.underlying35 sizeU8 hB (by omega) (by simp; omega), ?_, ?_, below_setRow hbase (by omega) _⟩
    · exact (setRow_other _ _ _ _ (by omega)).trans hA
    · have := setRow_heap _ _ #[.int .u8 (t.size : Int), .int .u8 0, .int .u8 0, .int .u8 0, .int .u8 0, .int .u8 0, .int .u8 0, .int .u8 0, .int .u8 0] ((#[.int .u8 (t.size : Int), .int .u8 0, .int .u8 0, .int .u8 0, .int .u8 0, .int .u8 0, .int .u8 0, .int .u8 0, .int .u8 0] : Array Value).toList.take 1 ++ Lib.byteCells t.data.toList ++ (#[.int .u8 (t.size : Int), .int .u8 0, .int .u8 0, .int .u8 0, .int .u8 0, .int .u8 0, .int .u8 0, .int .u8 0, .int .u8 0] : Array Value).toList.drop (1 + t.size)).toArray 73 (0, 0) hB
      refine this.trans ?_
      rw [← hv, hsz]
      exact congrArg (fun x => some (Obj.cells x 73 (0, 0))) (bytV_run t.data.toList (by omega) _ rfl)
  clear hbase hA hB hv hv0 hsz
  have c1 := fun i => B1.cell i
  have c0 := fun i => B0.cell i
  have f0 := fun i => B0.free i
  have k0 : W1.cell? ⟨w.heap.size + 1, 0, none⟩ = some (.int .u8 v0) := c1 0
  have k1 : W1.cell? ⟨w.heap.size + 1, 1, none⟩ = some (.int .u8 v1) := c1 1
  have k2 : W1.cell? ⟨w.heap.size + 1, 2, none⟩ = some (.int .u8 v2) := c1 2
  have k3 : W1.cell? ⟨w.heap.size + 1, 3, none⟩ = some (.int .u8 v3) := c1 3
  have k4 : W1.cell? ⟨w.heap.size + 1, 4, none⟩ = some (.int .u8 v4) := c1 4
  have k5 : W1.cell? ⟨w.heap.size + 1, 5, none⟩ = some (.int .u8 v5) := c1 5
  have k6 : W1.cell? ⟨w.heap.size + 1, 6, none⟩ = some (.int .u8 v6) := c1 6
  have k7 : W1.cell? ⟨w.heap.size + 1, 7, none⟩ = some (.int .u8 v7) := c1 7
  have k8 : W1.cell? ⟨w.heap.size + 1, 8, none⟩ = some (.int .u8 v8) := c1 8
  have j0 : W1.cell? ⟨w.heap.size, 0, none⟩ = some (.int .u8 0) := c0 0
  have j1 : W1.cell? ⟨w.heap.size, 1, none⟩ = some (.int .u8 0) := c0 1
  have j2 : W1.cell? ⟨w.heap.size, 2, none⟩ = some (.int .u8 0) := c0 2
  have j3 : W1.cell? ⟨w.heap.size, 3, none⟩ = some (.int .u8 0) := c0 3
  have j4 : W1.cell? ⟨w.heap.size, 4, none⟩ = some (.int .u8 0) := c0 4
  have j5 : W1.cell? ⟨w.heap.size, 5, none⟩ = some (.int .u8 0) := c0 5
  have j6 : W1.cell? ⟨w.heap.size, 6, none⟩ = some (.int .u8 0) := c0 6
  have j7 : W1.cell? ⟨w.heap.size, 7, none⟩ = some (.int .u8 0) := c0 7
  have j8 : W1.cell? ⟨w.heap.size, 8, none⟩ = some (.int .u8 0) := c0 8
  have l0 := f0 0
  have l1 := f0 1
  have l2 := f0 2
  have l3 := f0 3
  have l4 := f0 4
  have l5 := f0 5
  have l6 := f0 6
  have l7 := f0 7
  have l8 := f0 8
  clear c1 c0 f0 B0 B1
  go_enter Tryd.func60, Tryd.ntmps60
  go_wp2
  refine bodyPost_ret (v := .tuple #[.agg #[.int .u8 v0, .int .u8 v1, .int .u8 v2, .int .u8 v3, .int .u8 v4, .int .u8 v5, .int .u8 v6, .int .u8 v7, .int .u8 v8], .bool true]) (by simp [results, Tryd.results60, go_sem, j0, j1, j2, j3, j4, j5, j6, j7, j8]) rfl ?_
  exact ⟨rfl, (((((((((hb.setCell (Nat.le_refl _) _).setCell (Nat.le_refl _) _).setCell (Nat.le_refl _) _).setCell (Nat.le_refl _) _).setCell (Nat.le_refl _) _).setCell (Nat.le_refl _) _).setCell (Nat.le_refl _) _).setCell (Nat.le_refl _) _).setCell (Nat.le_refl _) _)⟩
set_option maxRecDepth 8000 in
set_option maxHeartbeats 1000000 in
theorem bytesOfText_long (t : ByteArray) (w : World) (ht : 8 < t.size) (hm : t.size ≤ 1048576) :
    Calls Tryd.prog 60 #[.string t] w fun e w' => e = .returned (.tuple #[.agg #[.int .u8 0, .int .u8 0, .int .u8 0, .int .u8 0, .int .u8 0, .int .u8 0, .int .u8 0, .int .u8 0, .int .u8 0], .bool false]) ∧ Below w.heap.size w w' := by
  have e1 : decide (8 < (t.size : Int)) = true := by simp; omega
  have e2 : decide (8 < t.size) = true := by simp; omega
  have hb : Below w.heap.size w (w.alloc (.cells #[.int .u8 0, .int .u8 0, .int .u8 0, .int .u8 0, .int .u8 0, .int .u8 0, .int .u8 0, .int .u8 0, .int .u8 0] 73)) := (Below.refl _ _).alloc (Nat.le_refl _) _
  go_enter Tryd.func60, Tryd.ntmps60
  go_wp2
  refine bodyPost_ret (v := .tuple #[.agg #[.int .u8 0, .int .u8 0, .int .u8 0, .int .u8 0, .int .u8 0, .int .u8 0, .int .u8 0, .int .u8 0, .int .u8 0], .bool false]) (by simp [results, Tryd.results60, go_sem]) rfl ?_
  exact ⟨rfl, hb⟩
set_option maxRecDepth 8000 in
set_option maxHeartbeats 1000000 in
theorem bytesText_any (l : List UInt8) (w : World) (hl : l.length ≤ 8) :
    Calls Tryd.prog 41 #[.agg (bytV l)] w fun e w' => e = .returned (.string ⟨l.toArray⟩) ∧ Below w.heap.size w w' := by
  obtain ⟨v0, v1, v2, v3, v4, v5, v6, v7, v8, hv, hv0⟩ := bytV_nine (l := l) hl
  have hb : Below w.heap.size w (w.alloc (.cells #[.int .u8 v0, .int .u8 v1, .int .u8 v2, .int .u8 v3, .int .u8 v4, .int .u8 v5, .int .u8 v6, .int .u8 v7, .int .u8 v8] 73)) := (Below.refl _ _).alloc (Nat.le_refl _) _
  have hB := Blk.new w #[.int .u8 v0, .int .u8 v1, .int .u8 v2, .int .u8 v3, .int .u8 v4, .int .u8 v5, .int .u8 v6, .int .u8 v7, .int .u8 v8] 73
  obtain ⟨T, hT⟩ : ∃ T : ByteArray, T = ⟨l.toArray⟩ := ⟨_, rfl⟩
  have hcv : (convert 35 9 (.slice (some ⟨w.heap.size, 1, none⟩) l.length 8)).run Tryd.prog (w.alloc (.cells #[.int .u8 v0, .int .u8 v1, .int .u8 v2, .int .u8 v3, .int .u8 v4, .int .u8 v5, .int .u8 v6, .int .u8 v7, .int .u8 v8] 73)) = .ok (.string T) (w.alloc (.cells #[.int .u8 v0, .int .u8 v1, .int .u8 v2, .int .u8 v3, .int .u8 v4, .int .u8 v5, .int .u8 v6, .int .u8 v7, .int .u8 v8] 73)) := by
    have := run_convert_bytes_arg (P := Tryd.prog) (w.alloc (.cells #[.int .u8 v0, .int .u8 v1, .int .u8 v2, .int .u8 v3, .int .u8 v4, .int .u8 v5, .int .u8 v6, .int .u8 v7, .int .u8 v8] 73)) 35 5 Tryd.underlying35 Tryd.underlying5 w.heap.size 1 l.length 8 (l.map fun b => (b.toNat : Int)) (by simp) (fun i hi => by
      rw [hB.cell (1 + i), ← hv]
      unfold bytV bytL
      simp only [List.getElem?_toArray, List.map_cons, List.map_append]
      rw [Nat.add_comm 1 i, List.getElem?_cons_succ, List.getElem?_append_left (by simpa using hi)]
      simp [bytC, List.getD, List.getElem?_eq_getElem hi]) 9 Tryd.underlying9
    rw [this, hT]
    congr 2
    unfold strOfNums
    rw [List.map_map]
    exact congrArg (fun z : List UInt8 => (⟨z.toArray⟩ : ByteArray)) ((List.map_congr_left (fun b _ => by simp)).trans (List.map_id l))
  rw [hv, ← hT]
  clear hT hB hv
  obtain ⟨M, hM⟩ : ∃ M : Nat, M = l.length + 1 := ⟨_, rfl⟩
  rw [show l.length = M - 1 by omega] at hcv
  have wz : IntKind.u8.wrap (1 + v0) = (M : Int) := by
    have e : 1 + v0 = (M : Int) := by omega
    rw [e]
    unfold IntKind.wrap
    simp [IntKind.min, IntKind.max, IntKind.signed, IntKind.bits]
    omega
  have m1 : (1 : Int) ≤ (M : Int) := by omega
  have m2 : (M : Int) ≤ 9 := by omega
  have m3 : 1 ≤ M := by omega
  have m4 : M ≤ 9 := by omega
  clear hM hv0 hl
  go_enter Tryd.func41, Tryd.ntmps41
  go_wp2
  go_ret
  exact ⟨rfl, hb⟩
end Go.Proofs.YthfhiggageejbaaDoor
