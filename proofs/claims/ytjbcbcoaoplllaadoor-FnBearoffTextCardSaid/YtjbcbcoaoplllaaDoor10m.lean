/- Contracts of the model's function of chapter 10 on words: the split of a text. -/
import Derived.Test.YtjbcbcoaoplllaaDoorSpl
import Derived.Test.YtjbcbcoaoplllaaDoorOwn
import Derived.Deep.LoopGhost
import Derived.Outline
import Derived.WalkMore
import Derived.OwnWalk
namespace Go.Proofs.YtjbcbcoaoplllaaDoor
open Go.ChangeShapes Go.WideShapes Go.ChangeAt Go.RowKit
set_option linter.unusedVariables false
set_option linter.unusedSimpArgs false

theorem infoStr : (Tryd.prog.info? 9).map (fun i => (i.zero, i.size, i.bytes)) = some (some (.string ⟨#[]⟩), 1, 16) := by kernel_rfl
def strVals (l : List (List UInt8)) : List Value := l.map fun x => Value.string ⟨x.toArray⟩
theorem strVals_snoc (l : List (List UInt8)) (x : List UInt8) : strVals (l ++ [x]) = strVals l ++ [Value.string ⟨x.toArray⟩] := by simp [strVals]
/-- The bytes of a text from f to k. -/
def seg (t : ByteArray) (f k : Nat) : List UInt8 := (t.data.toList.drop f).take (k - f)
theorem extract_seg (t : ByteArray) (f k : Nat) : t.extract f k = ⟨(seg t f k).toArray⟩ := by
  apply ByteArray.ext
  apply Array.toList_inj.1
  simp [seg, ByteArray.data_extract, List.extract_eq_take_drop]
theorem seg_self (t : ByteArray) (f : Nat) : seg t f f = [] := by simp [seg]
theorem seg_snoc (t : ByteArray) (f k : Nat) (h : f ≤ k) (hk : k < t.size) : seg t f (k + 1) = seg t f k ++ [t[k]] := by
  unfold seg
  rw [show k + 1 - f = (k - f) + 1 by omega, List.take_succ_eq_append_getElem (by simp; show _ < t.size - f; omega)]
  congr 2
  simp only [List.getElem_drop]
  show t.data.toList[f + (k - f)]'_ = t.data[k]
  have : f + (k - f) = k := by omega
  simp only [this]
  rfl
theorem drop_get' (t : ByteArray) (k : Nat) (h : k < t.size) : t.data.toList.drop k = t[k] :: t.data.toList.drop (k + 1) := by
  rw [List.drop_eq_getElem_cons (by simpa using h)]; rfl

/-- A call has handed back a new row of words. -/
def GotWords (W : List (List UInt8)) (w : World) (e : Ending) (w' : World) : Prop :=
  ∃ v, e = .returned v ∧ w'.ownsRow w.heap.size 9 1 v W.length (strVals W) ∧ Below w.heap.size w w'
/-- The state of the split at a round's head. -/
def splitAt (t : ByteArray) (y : Nat) (W : List (List UInt8)) (w : World) (g : Nat) (out f i : Value) (wr : World) : Prop :=
  ∃ (k fr : Nat) (acc : List (List UInt8)), fr ≤ k ∧ k ≤ t.size + 1 ∧ g = t.size + 1 - k ∧ i = .int .i64 k ∧ f = .int .i64 fr ∧ acc.length ≤ k ∧
    wr.ownsRow w.heap.size 9 1 out acc.length (strVals acc) ∧ Below w.heap.size w wr ∧
    (k ≤ t.size → acc ++ prep (seg t fr k) (splitL y (t.data.toList.drop k)) = W) ∧ (¬ k ≤ t.size → acc = W)
theorem split_cut {t : ByteArray} {y : Nat} {W acc : List (List UInt8)} {fr k : Nat} (hfr : fr ≤ k) (hk : k < t.size) (h : acc ++ prep (seg t fr k) (splitL y (t.data.toList.drop k)) = W) (hb : t[k].toNat = y) :
    (acc ++ [seg t fr k]) ++ prep (seg t (k + 1) (k + 1)) (splitL y (t.data.toList.drop (k + 1))) = W := by
  rw [drop_get' t k hk, splitL, if_pos hb] at h
  rw [seg_self, prep_nil (splitL_ne _ _), ← h]
  simp [prep]
theorem split_on {t : ByteArray} {y : Nat} {W acc : List (List UInt8)} {fr k : Nat} (hfr : fr ≤ k) (hk : k < t.size) (h : acc ++ prep (seg t fr k) (splitL y (t.data.toList.drop k)) = W) (hb : ¬ t[k].toNat = y) :
    acc ++ prep (seg t fr (k + 1)) (splitL y (t.data.toList.drop (k + 1))) = W := by
  rw [drop_get' t k hk, splitL, if_neg hb, prep_prep] at h
  rw [seg_snoc t fr k hfr hk, h]
theorem split_end {t : ByteArray} {y : Nat} {W acc : List (List UInt8)} {fr : Nat} (h : acc ++ prep (seg t fr t.size) (splitL y (t.data.toList.drop t.size)) = W) : acc ++ [seg t fr t.size] = W := by
  rw [List.drop_of_length_le (by simp)] at h
  simpa [splitL, prep] using h

set_option maxHeartbeats 1000000 in
theorem split_any (t : ByteArray) (y : UInt8) (w : World) (ht : t.size ≤ 1048576) :
    Calls Tryd.prog 37 #[.string t, .int .u8 y.toNat] w (GotWords (splitL y.toNat t.data.toList) w) := by
  obtain ⟨i0, hi, hz0, hz1, hz2⟩ := info_parts infoStr
  obtain ⟨W, hW⟩ : ∃ W, splitL y.toNat t.data.toList = W := ⟨_, rfl⟩
  rw [hW]
  have HW := Lib.hid hW
  clear hW
  go_enter Tryd.func37, Tryd.ntmps37
  go_wp2
  go_loopg [5, 6, 7] (t.size + 1) (fun g out f i wr => splitAt t y.toNat W w g out f i wr)
  case atStart =>
    refine ⟨0, 0, [], by omega, by omega, by omega, rfl, rfl, by simp, ?_, (Below.refl _ _).alloc (Nat.le_refl _) _, fun _ => ?_, fun h => absurd (Nat.zero_le _) h⟩
    · refine ⟨rfl, .inr ⟨w.heap.size, 0, #[], rfl, Nat.le_refl _, Blk.new w #[] _, Nat.le_refl _, by unfold maxLen; omega, rfl, rfl⟩⟩
    · show [] ++ prep (seg t 0 0) (splitL y.toNat t.data.toList) = W
      rw [seg_self, prep_nil (splitL_ne _ _), List.nil_append]
      exact HW.out
  case round =>
    clear HW
    obtain ⟨k, fr, acc, hfr, hk, hg, rfl, rfl, hacc, hown, hb, hS, hE⟩ := hrel
    have hbz := hb.size
    by_cases hle : k ≤ t.size
    · replace hS := hS hle
      clear hE
      have hle' : (k : Int) ≤ (t.size : Int) := by omega
      have hfr' : (fr : Int) ≤ (k : Int) := by omega
      by_cases hlt : k < t.size
      · have hlt' : (k : Int) < (t.size : Int) := by omega
        have e0 : ((k : Int) == (t.size : Int)) = false := by simp; omega
        by_cases hy : t[k].toNat = y.toNat
        · have e1 : ((t[k].toNat : Int) == (y.toNat : Int)) = true := by simp; omega
          have HS := Lib.hid (split_cut hfr hlt hS hy)
          clear hS hy
          go_wp2_with (first | (at_builtin; refine wpList_append1 rfl _ _ 58 rfl w.heap.size 9 i0 (.string ⟨#[]⟩) 16 Tryd.underlying58 hi hz0 hz1 hz2 rfl _ _ _ rfl hown (.string (t.extract fr k)) rfl rfl (by unfold maxLen; omega) (by omega) hbz ?_; intro g2 cap2 w1 hown1 hb1 _; rw [extract_seg, ← strVals_snoc] at hown1))
          go_roundg (t.size + 1 - (k + 1))
          case measure => omega
          case rel => exact ⟨k + 1, k + 1, acc ++ [seg t fr k], by omega, by omega, rfl, by go_num, by go_num, by simp; omega, by simpa using hown1, hb.trans hb1, fun _ => HS.out, fun h => absurd (by omega) h⟩
        · have e1 : ((t[k].toNat : Int) == (y.toNat : Int)) = false := by simp; omega
          have HS := Lib.hid (split_on hfr hlt hS hy)
          clear hS hy
          go_wp2
          go_roundg (t.size + 1 - (k + 1))
          case measure => omega
          case rel => exact ⟨k + 1, fr, acc, by omega, by omega, rfl, by go_num, rfl, by omega, hown, hb, fun _ => HS.out, fun h => absurd (by omega) h⟩
      · obtain rfl : k = t.size := by omega
        have e0 : ((t.size : Int) == (t.size : Int)) = true := by simp
        have HS := Lib.hid (split_end hS)
        clear hS
        go_wp2_with (first | (at_builtin; refine wpList_append1 rfl _ _ 58 rfl w.heap.size 9 i0 (.string ⟨#[]⟩) 16 Tryd.underlying58 hi hz0 hz1 hz2 rfl _ _ _ rfl hown (.string (t.extract fr t.size)) rfl rfl (by unfold maxLen; omega) (by omega) hbz ?_; intro g2 cap2 w1 hown1 hb1 _; rw [extract_seg, ← strVals_snoc] at hown1))
        go_roundg (t.size + 1 - (t.size + 1))
        case measure => omega
        case rel => exact ⟨t.size + 1, t.size + 1, acc ++ [seg t fr t.size], by omega, by omega, rfl, by go_num, by go_num, by simp; omega, by simpa using hown1, hb.trans hb1, fun h => absurd h (by omega), fun _ => HS.out⟩
    · have hlt' : (t.size : Int) < (k : Int) := by omega
      obtain rfl := hE hle
      clear hS hE
      go_wp2
      go_ret
      exact ⟨_, rfl, hown, hb⟩
end Go.Proofs.YtjbcbcoaoplllaaDoor
