/- Steps that came in as an argument: how they are read, and how the law copies them. -/
import Derived.Test.YthfhiggageejbaaDoorStpL
import Derived.Deep.Slices
import Derived.Deep.Fields
import Derived.ChangeSame
import Derived.OpenShut
import Derived.Lib.SmallJoins
namespace Go.Proofs.YthfhiggageejbaaDoor
open Go.ChangeShapes Go.WideShapes Go.ChangeAt Go.RowKit
set_option linter.unusedVariables false
set_option linter.unusedSimpArgs false

/-- What a slice of steps that leads to a reads. -/
def SIn (w : World) (a : Option Addr) (l : List Stp) : Prop :=
  ∀ (i : Nat) (s : Stp), l[i]? = some s → ∃ b o, a = some ⟨b, o, none⟩ ∧ w.cell? ⟨b, o + i * 4, none⟩ = some (.int .i64 s.1) ∧ w.cell? ⟨b, o + i * 4 + 1, none⟩ = some (.int .i64 s.2.1) ∧ w.cell? ⟨b, o + i * 4 + 2, none⟩ = some (.int .i64 s.2.2.1) ∧ w.cell? ⟨b, o + i * 4 + 3, none⟩ = some (.bool s.2.2.2)
theorem SIn.below {w w' : World} {a : Option Addr} {l : List Stp} (h : SIn w a l) (hb : Below w.heap.size w w') : SIn w' a l := fun i s hs => by
  obtain ⟨b, o, e, c0, c1, c2, c3⟩ := h i s hs
  have hl := World.block_lt_of_cell? w _ c0
  exact ⟨b, o, e, by rw [hb.cell (p := ⟨b, o + i * 4, none⟩) hl]; exact c0, by rw [hb.cell (p := ⟨b, o + i * 4 + 1, none⟩) hl]; exact c1, by rw [hb.cell (p := ⟨b, o + i * 4 + 2, none⟩) hl]; exact c2, by rw [hb.cell (p := ⟨b, o + i * 4 + 3, none⟩) hl]; exact c3⟩
theorem SIn.drew {w : World} {a : Option Addr} {l : List Stp} (h : SIn w a l) : SIn w.drew a l := h
theorem addr_add {b o k : Nat} : (⟨b, o, none⟩ : Addr).add k = ⟨b, o + k, none⟩ := by unfold Addr.add; split <;> simp_all
theorem open_stepAt {H : Type} {enc : TypeId × Value → H} {w : World} {base : Nat} {spare : Nat → Bool} {held : Bool} {fuel : Nat} {cs : List Value} {x : DataW H × List MemPlace}
    (hl : cs.length = 4) (h : DataW.trod enc Tryd.prog w base spare held fuel 80 cs = some x) : ∃ s : Stp, cs = [.int .i64 s.1, .int .i64 s.2.1, .int .i64 s.2.2.1, .bool s.2.2.2] := by
  match cs, hl with
  | [v0, v1, v2, v3], _ =>
    obtain ⟨ys, n, -, -, -, hyl, hf⟩ := DataW.trod_struct Tryd.underlying80 h
    have hy4 : ys.length = 4 := hyl
    have part : ∀ (j : Nat) (y : DataW H × List MemPlace) (t : TypeId) (v : Value) (r : Option (DataW H × List MemPlace)), DataW.trod enc Tryd.prog w base spare held n t [v] = r → r = some y → DataW.trod enc Tryd.prog w base spare held n t [v] = some y := fun _ _ _ _ _ e1 e2 => e1.trans e2
    match ys, hy4 with
    | [y0, y1, y2, y3], _ =>
      have k1 : Tryd.prog.cellsOf 2 = 1 := by kernel_rfl
      have k2 : Tryd.prog.cellsOf 4 = 1 := by kernel_rfl
      have g0 := hf 0 _ rfl
      have g1 := hf 1 _ rfl
      have g2 := hf 2 _ rfl
      have g3 := hf 3 _ rfl
      simp [k1, k2] at g0 g1 g2 g3
      obtain ⟨a0, e0, -⟩ := DataW.trod_int Tryd.underlying2 g0
      obtain ⟨a1, e1, -⟩ := DataW.trod_int Tryd.underlying2 g1
      obtain ⟨a2, e2, -⟩ := DataW.trod_int Tryd.underlying2 g2
      obtain ⟨a3, e3, -⟩ := DataW.trod_bool Tryd.underlying4 g3
      simp at e0 e1 e2 e3
      subst e0 e1 e2 e3
      exact ⟨(a0, a1, a2, a3), rfl⟩
theorem open_steps {H : Type} {enc : TypeId × Value → H} {w : World} {base : Nat} {spare : Nat → Bool} {held : Bool} {fuel : Nat} {v : Value} {x : DataW H × List MemPlace}
    (h : DataW.trod enc Tryd.prog w base spare held fuel 47 [v] = some x) :
    ∃ (a : Option Addr) (n cap : Nat) (l : List Stp), v = .slice a n cap ∧ l.length = n ∧ n ≤ 9223372036854775807 ∧ SIn w a l := by
  rcases Go.Deep.open_slice Tryd.underlying47 h with ⟨hcs, -⟩ | ⟨a, len, cap, m, n, D, Pl, hcs, -, hl, hm, hmm, -, hi⟩
  · simp at hcs
    exact ⟨none, 0, 0, [], hcs, rfl, by omega, fun i s hs => by simp at hs⟩
  · simp at hcs
    have hle : len ≤ m := by rw [hmm]; split <;> omega
    have k4 : Tryd.prog.cellsOf 80 = 4 := by kernel_rfl
    rw [k4] at hi
    have hel : ∀ i : Nat, ∃ s : Stp, i < len → w.cell? (a.add (i * 4)) = some (.int .i64 s.1) ∧ w.cell? ((a.add (i * 4)).add 1) = some (.int .i64 s.2.1) ∧ w.cell? ((a.add (i * 4)).add 2) = some (.int .i64 s.2.2.1) ∧ w.cell? ((a.add (i * 4)).add 3) = some (.bool s.2.2.2) := by
      intro i
      by_cases hlt : i < len
      · obtain ⟨cs, hc, ht⟩ := hi i (by omega)
        obtain ⟨-, hcl, hat⟩ := World.cells?_some hc
        obtain ⟨s, rfl⟩ := open_stepAt hcl ht
        refine ⟨s, fun _ => ⟨?_, hat 1 (by omega), hat 2 (by omega), hat 3 (by omega)⟩⟩
        have h0 := hat 0 (by omega)
        rw [show (a.add (i * 4)).add 0 = a.add (i * 4) from by unfold Addr.add; split <;> simp_all] at h0
        exact h0
      · exact ⟨(0, 0, 0, false), fun q => absurd q hlt⟩
    obtain ⟨f, hf⟩ := Classical.axiomOfChoice hel
    refine ⟨some a, len, cap, (List.range len).map f, hcs, by simp, by unfold maxLen at hm; omega, fun i s hs => ?_⟩
    rw [List.getElem?_map, Option.map_eq_some_iff] at hs
    obtain ⟨k, hk, rfl⟩ := hs
    obtain ⟨hk1, hk2⟩ := List.getElem?_eq_some_iff.1 hk
    simp at hk1 hk2
    subst hk2
    obtain ⟨c0, c1, c2, c3⟩ := hf i hk1
    obtain ⟨b, o, spot⟩ := a
    have hspot : spot = none := by
      have := World.cell?_spot (hf 0 (by omega)).1
      simpa [Addr.add] using this
    subst hspot
    rw [addr_add] at c0
    rw [addr_add, addr_add] at c1 c2 c3
    exact ⟨b, o, rfl, c0, c1, c2, c3⟩
theorem szStepS_any (a : Option Addr) (n cap : Nat) (left : Int) (w : World) (h0 : 0 ≤ left) (h1 : left ≤ 1000000000) (hn : n ≤ 9223372036854775807) :
    Calls Tryd.prog 21 #[.slice a n cap, .int .i64 left] w fun e w' => e = .returned (.int .i64 (if left - n < 0 then -1 else left - n)) ∧ w = w' := by
  by_cases h : left - n < 0
  · rw [if_pos h]
    go_enter Tryd.func21, Tryd.ntmps21
    go_wp2
    go_ret
    exact ⟨rfl, rfl⟩
  · rw [if_neg h]
    go_enter Tryd.func21, Tryd.ntmps21
    go_wp2
    go_ret
    exact ⟨rfl, rfl⟩
theorem stepsC_zeros : ∀ n : Nat, stepsC (List.replicate n ((0, 0, 0, false) : Stp)) = (List.replicate n [Value.int .i64 0, .int .i64 0, .int .i64 0, .bool false]).flatten
  | 0 => rfl
  | n + 1 => by rw [List.replicate_succ, stepsC, stepsC_zeros n, List.replicate_succ, List.flatten_cons]; rfl
theorem flat_at : ∀ (n i : Nat), i < n * 4 → ((List.replicate n [Value.int .i64 0, .int .i64 0, .int .i64 0, .bool false]).flatten)[i]? = some (#[Value.int .i64 0, .int .i64 0, .int .i64 0, .bool false][i % 4]!)
  | 0, i, h => by omega
  | n + 1, i, h => by
    rw [List.replicate_succ, List.flatten_cons]
    by_cases hi : i < 4
    · rw [List.getElem?_append_left (by simpa using hi), Nat.mod_eq_of_lt hi]
      have h4 : i = 0 ∨ i = 1 ∨ i = 2 ∨ i = 3 := by omega
      rcases h4 with rfl | rfl | rfl | rfl <;> rfl
    · rw [List.getElem?_append_right (by simp; omega), show [Value.int .i64 0, .int .i64 0, .int .i64 0, .bool false].length = 4 from rfl, flat_at n (i - 4) (by omega), show i % 4 = (i - 4) % 4 by omega]
theorem made_steps (n : Nat) : (madeCells #[.int .i64 0, .int .i64 0, .int .i64 0, .bool false] (n * 4)).toList = stepsC (List.replicate n ((0, 0, 0, false) : Stp)) := by
  rw [stepsC_zeros]
  apply List.ext_getElem?
  intro i
  by_cases h : i < n * 4
  · rw [flat_at n i h]
    have hz : i < (madeCells #[.int .i64 0, .int .i64 0, .int .i64 0, .bool false] (n * 4)).toList.length := by simp [madeCells]; omega
    rw [List.getElem?_eq_getElem hz]
    simp [madeCells]
  · rw [List.getElem?_eq_none (by simp [madeCells]; omega), List.getElem?_eq_none (by rw [← stepsC_zeros, stepsC_length, List.length_replicate]; omega)]
theorem stepsC_set : ∀ (l : List Stp) (k : Nat) (s : Stp), k < l.length → stepsC (l.set k s) = ((((stepsC l).set (k * 4) (.int .i64 s.1)).set (k * 4 + 1) (.int .i64 s.2.1)).set (k * 4 + 2) (.int .i64 s.2.2.1)).set (k * 4 + 3) (.bool s.2.2.2)
  | [], k, s, h => by simp at h
  | x :: l, 0, s, h => by simp [stepsC, stC]
  | x :: l, k + 1, s, h => by
    rw [List.set_cons_succ, stepsC, stepsC_set l k s (by simpa using h), show (k + 1) * 4 = k * 4 + 4 by omega]
    simp [stepsC, stC]
theorem copyS_step (l : List Stp) (k : Nat) (s : Stp) (hs : l[k]? = some s) : (l.take k ++ List.replicate (l.length - k) ((0, 0, 0, false) : Stp)).set k s = l.take (k + 1) ++ List.replicate (l.length - (k + 1)) (0, 0, 0, false) := by
  obtain ⟨hk, he⟩ := List.getElem?_eq_some_iff.1 hs
  have hlen : (l.take k).length = k := by simp; omega
  obtain ⟨m, hm⟩ : ∃ m, l.length - k = m + 1 := ⟨l.length - k - 1, by omega⟩
  rw [hm, List.replicate_succ, List.set_append_right _ _ (by omega), hlen, Nat.sub_self, List.set_cons_zero, List.take_succ_eq_append_getElem hk, he, show l.length - (k + 1) = m by omega, List.append_assoc]
  rfl
set_option maxRecDepth 8000 in
set_option maxHeartbeats 1000000 in
theorem toStepS_any (a : Option Addr) (n cap : Nat) (l : List Stp) (w : World) (hn : l.length = n) (hle : n ≤ 1048576) (hr : SIn w a l) :
    Calls Tryd.prog 23 #[.slice a n cap] w fun e w' => ∃ g, e = .returned (.slice (some ⟨g, 0, none⟩) l.length l.length) ∧ w.heap.size ≤ g ∧ g < w'.heap.size ∧ SRow w' g l ∧ Below w.heap.size w w' := by
  obtain ⟨i0, hi, hz0, hz1, hz2⟩ := info_parts infoStp
  subst hn
  go_enter Tryd.func23, Tryd.ntmps23
  go_wp2_with (at_make; refine wpList_make_full _ rfl _ _ 26 rfl w.heap.size 38 i0 (.agg #[.int .i64 0, .int .i64 0, .int .i64 0, .bool false]) 4 Tryd.underlying26 hi hz0 hz1 .i64 .i64 (l.length : Int) (l.length : Int) l.length rfl rfl rfl rfl (by rw [hz2]; omega) (by unfold maxLen; omega) (Nat.le_refl _) ?_; intro w2 hO hg)
  have hO2 : OwnT w2 w.heap.size (.slice (some ⟨w.heap.size, 0, none⟩) l.length l.length) (List.replicate l.length (0, 0, 0, false)) := by
    have := made_steps l.length
    show w2.ownsRow _ _ _ _ _ _
    rw [List.length_replicate, ← this]
    exact hO
  have hb2 : Below w.heap.size w w2 := ⟨hg.os, hg.tape, hg.output, hg.size, fun k hk => hg.block k hk (by simp)⟩
  rcases hO2.ost with ⟨hno, -⟩ | ⟨g, hge, hg1, hg2, RR⟩
  · simp at hno
  simp at hge
  subst hge
  clear hg hO hO2
  go_loopg [4] l.length (fun m q4 wr => ∃ k : Nat, k ≤ l.length ∧ m = l.length - k ∧ q4 = .int .i64 (k : Int) ∧ SRow wr w.heap.size (l.take k ++ List.replicate (l.length - k) (0, 0, 0, false)) ∧ Below w.heap.size w wr)
  case atStart => exact ⟨0, by omega, by omega, rfl, by simpa using RR, hb2⟩
  case round =>
    clear RR hb2
    obtain ⟨k, hk, hm, rfl, RR, hb⟩ := hrel
    by_cases hlt : k < l.length
    · have hlt' : (k : Int) < (l.length : Int) := by omega
      have hk0 : (0 : Int) ≤ (k : Int) := by omega
      obtain ⟨s, hs⟩ : ∃ s, l[k]? = some s := ⟨_, List.getElem?_eq_getElem hlt⟩
      obtain ⟨b, o, rfl, c0, c1, c2, c3⟩ := (hr.below hb) k s hs
      have hst := copyS_step l k s hs
      have hlen : (l.take k ++ List.replicate (l.length - k) ((0, 0, 0, false) : Stp)).length = l.length := by simp; omega
      have hset := stepsC_set (l.take k ++ List.replicate (l.length - k) ((0, 0, 0, false) : Stp)) k s (by omega)
      obtain ⟨s', hs'⟩ : ∃ z, (l.take k ++ List.replicate (l.length - k) ((0, 0, 0, false) : Stp))[k]? = some z := ⟨_, List.getElem?_eq_getElem (by omega)⟩
      obtain ⟨ta, tb, td, tq⟩ := s
      dsimp only at c0 c1 c2 c3 hset
      have hts := fun W => toStep_any (ta, tb, td, tq) W
      have HTS := Lib.hid hts
      clear hts hr hs
      go_wp2_with fail
      refine (HTS.out _).mono ?_
      rintro e w3 ⟨rfl, hq⟩
      replace RR := RR.below hq
      replace hb := chain hb hq
      have hRl := RR.lt
      obtain ⟨d0, d1, d2, d3⟩ := SRow.four RR k s' hs'
      have f0 := fun j => VRow.free RR j
      have R2 := Lib.hid (((((VRow.set RR (k * 4) (.int .i64 ta)).set (k * 4 + 1) (.int .i64 tb)).set (k * 4 + 2) (.int .i64 td)).set (k * 4 + 3) (.bool tq)).wf (hset.symm.trans (congrArg stepsC hst)))
      have hbn := Lib.hid ((((hb.setCell (p := ⟨w.heap.size, k * 4, none⟩) (Nat.le_refl _) (.int .i64 ta)).setCell (p := ⟨w.heap.size, k * 4 + 1, none⟩) (Nat.le_refl _) (.int .i64 tb)).setCell (p := ⟨w.heap.size, k * 4 + 2, none⟩) (Nat.le_refl _) (.int .i64 td)).setCell (p := ⟨w.heap.size, k * 4 + 3, none⟩) (Nat.le_refl _) (.bool tq))
      clear RR hb hq hst hset hs' hlen c0 c1 c2 c3
      go_wp2
      go_roundg (l.length - (k + 1))
      case measure => omega
      case rel => exact ⟨k + 1, by omega, rfl, by go_num, R2.out, hbn.out⟩
    · obtain rfl : k = l.length := by omega
      have hRl := RR.lt
      have RR2 := RR.wf (show _ = stepsC l by rw [Nat.sub_self, List.replicate_zero, List.append_nil, List.take_of_length_le (Nat.le_refl _)])
      clear RR
      go_wp2
      go_ret
      exact ⟨w.heap.size, rfl, Nat.le_refl _, hRl, RR2, hb⟩
end Go.Proofs.YthfhiggageejbaaDoor
