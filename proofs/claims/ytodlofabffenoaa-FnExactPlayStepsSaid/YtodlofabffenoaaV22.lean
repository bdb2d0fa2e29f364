/- Texts of a proof, laid together. -/
import Derived.Test.YtodlofabffenoaaV20
import Derived.Test.YtodlofabffenoaaV21
import Derived.Test.YtodlofabffenoaaV16
import Derived.Test.YtodlofabffenoaaV14
import Derived.Shelf.Abstract
import Derived.Shelf.RegionOpen
import Derived.WalkKit
import Derived.OwnWalkIn
import Derived.TacticsInMore
import Derived.LoopNIn
import Derived.LoopIn
namespace Go.Proofs.Ytodlofabffenoaa
open Go.ChangeShapes Go.WideShapes Go.ChangeAt Go.RowKit
set_option linter.unusedVariables false
set_option linter.unusedSimpArgs false
set_option maxRecDepth 4000
theorem usedL_levels (P : Nat) (h : Int) (xs ys : List Int) (OS : List (List Int)) (L : List LI) (hT : L.map (fun x => x.1.2) = OS) (hQ : ∀ x ∈ L, x.2.2.2.map (fun y => y.2.2.map (·.2)) = levels P h x.1.2 (startP xs ys)) :
    usedL L = (OS.map (fun o => longN P h o (startP xs ys))).foldl max 0 := by
  unfold usedL
  rw [← hT, List.map_map]
  congr 1
  refine List.map_congr_left fun x hx => ?_
  have := congrArg List.length (hQ x hx)
  rw [List.length_map, levels_length] at this
  show x.2.2.2.length - 1 = longN P h x.1.2 (startP xs ys)
  omega
def keepL (U : Nat) (L : List LI) : List LI := L.filter (fun x => x.2.2.2.length - 1 == U)
def legalL (L : List LI) : List LI := if usedL L = 1 then (keepL (usedL L) L).take 1 else keepL (usedL L) L
theorem keepL_succ (U : Nat) (L : List LI) (k : Nat) (x : LI) (hx : L[k]? = some x) : keepL U (L.take (k + 1)) = keepL U (L.take k) ++ (if x.2.2.2.length - 1 = U then [x] else []) := by
  unfold keepL
  rw [List.take_add_one, hx, List.filter_append]
  congr 1
  by_cases e : x.2.2.2.length - 1 = U
  · simp [e]
  · simp [e]
theorem max_in : ∀ (l : List Nat) (m : Nat), l.foldl max m = m ∨ l.foldl max m ∈ l
  | [], m => .inl rfl
  | a :: l, m => by
    rcases max_in l (max m a) with h | h
    · rw [List.foldl_cons, h]
      rcases Nat.le_total m a with e | e
      · rw [Nat.max_eq_right e]; exact .inr (by simp)
      · rw [Nat.max_eq_left e]; exact .inl rfl
    · rw [List.foldl_cons]
      exact .inr (List.mem_cons_of_mem _ h)
theorem keepL_ne (L : List LI) (h0 : 0 < L.length) : 0 < (keepL (usedL L) L).length := by
  have hm : usedL L = 0 ∨ usedL L ∈ L.map (fun x => x.2.2.2.length - 1) := max_in _ 0
  have hx : ∃ x ∈ L, x.2.2.2.length - 1 = usedL L := by
    rcases hm with h | h
    · obtain ⟨x, hx⟩ := List.exists_mem_of_length_pos h0
      refine ⟨x, hx, ?_⟩
      have hle : ∀ (l : List Nat) (m : Nat), m ≤ l.foldl max m ∧ ∀ y ∈ l, y ≤ l.foldl max m := by
        intro l
        induction l with
        | nil => intro m; simp
        | cons a l ih =>
          intro m
          obtain ⟨i1, i2⟩ := ih (max m a)
          rw [List.foldl_cons]
          refine ⟨by omega, fun y hy => ?_⟩
          rcases List.mem_cons.1 hy with rfl | hy
          · omega
          · exact i2 y hy
      have := (hle (L.map (fun x => x.2.2.2.length - 1)) 0).2 _ (List.mem_map.2 ⟨x, hx, rfl⟩)
      have h' : (L.map (fun x => x.2.2.2.length - 1)).foldl max 0 = 0 := h
      rw [h'] at this
      omega
    · obtain ⟨x, hx, e⟩ := List.mem_map.1 h
      exact ⟨x, hx, e⟩
  obtain ⟨x, hx, e⟩ := hx
  exact List.length_pos_of_mem (List.mem_filter.2 ⟨hx, by simp [e]⟩)
theorem keepL_mem {U : Nat} {L : List LI} {x : LI} (h : x ∈ keepL U L) : x ∈ L ∧ x.2.2.2.length - 1 = U := by
  obtain ⟨h1, h2⟩ := List.mem_filter.1 h
  exact ⟨h1, by simpa using h2⟩
theorem keepL_le (U : Nat) (L : List LI) : (keepL U L).length ≤ L.length := List.length_filter_le _ _
theorem legalL_mem {L : List LI} {x : LI} (h : x ∈ legalL L) : x ∈ L ∧ x.2.2.2.length - 1 = usedL L := by
  unfold legalL at h
  split at h
  · exact keepL_mem (List.mem_of_mem_take h)
  · exact keepL_mem h
theorem VRow.pre {w : World} {g : Nat} {vs us : List Value} {t : TypeId} (h : VRow w g (vs ++ us) t) : VRow w g vs t := by
  obtain ⟨cur, hB, h1, h2⟩ := h
  rw [List.length_append] at h1 h2
  refine ⟨cur, hB, by omega, ?_⟩
  have := congrArg (List.take vs.length) h2
  rw [List.take_take, Nat.min_eq_left (by omega), List.take_left'] at this
  · exact this
  · rfl
theorem VRow.take1 {w : World} {g : Nat} {F : List LI} {t : TypeId} (h : VRow w g (F.flatMap liC) t) : VRow w g ((F.take 1).flatMap liC) t := by
  have e : F.flatMap liC = (F.take 1).flatMap liC ++ (F.drop 1).flatMap liC := by rw [← List.flatMap_append, List.take_append_drop]
  rw [e] at h
  exact h.pre
theorem OwnE.room {α : Type} {enc : α → List Value} {T : TypeId} {sz : Nat} {w : World} {base : Nat} {g n k : Nat} {l : List α} (h : OwnE enc T sz w base (.slice (some ⟨g, 0, none⟩) n k) l) : l.length ≤ k := by
  obtain ⟨hl, ⟨h1, h2⟩ | ⟨g', cap, cur, hv, hb, hh, hc, hm, hs, ht⟩⟩ := h
  · simp at h1
  · simp at hv
    omega
def LegGot (L : List LI) (w : World) (e : Ending) (w' : World) : Prop :=
  ∃ g k, e = .returned (.slice (some ⟨g, 0, none⟩) (legalL L).length k) ∧ w.heap.size ≤ g ∧ VRow w' g ((legalL L).flatMap liC) 65 ∧ Below w.heap.size w w'
set_option maxRecDepth 100000 in
set_option maxHeartbeats 4000000 in
theorem legal_any (g k : Nat) (L : List LI) (w : World) (hV : VRow w g (L.flatMap liC) 65) (h0 : ∀ x ∈ L, 0 < x.2.2.2.length ∧ x.2.2.2.length ≤ 1000) (hL : L.length ≤ 1000) (hU : usedL L ≤ 1000) (hle : ∀ i, usedLTo L i ≤ 1000) (hL0 : 0 < L.length) :
    Calls Try.prog 27 #[.slice (some ⟨g, 0, none⟩) L.length k] w (LegGot L w) := by
  have hua := usedAll_any g k L w hV h0 hL hU hle
  have hne := keepL_ne L hL0
  have hleg : legalL L = if usedL L = 1 then (keepL (usedL L) L).take 1 else keepL (usedL L) L := rfl
  obtain ⟨R, hR⟩ : ∃ z, legalL L = z := ⟨_, rfl⟩
  unfold LegGot
  rw [hR] at hleg ⊢
  obtain ⟨U, hUU⟩ : ∃ z, usedL L = z := ⟨_, rfl⟩
  rw [hUU] at hua hne hleg hU
  have HUA := Lib.hid hua
  have HNE := Lib.hid hne
  have HLEG := Lib.hid hleg
  have H0 := Lib.hid h0
  have HKS := Lib.hid (fun k x (hx : L[k]? = some x) => keepL_succ U L k x hx)
  have HKL := Lib.hid (keepL_le U)
  clear hua hne hleg h0 hR hUU hle
  go_enter Try.func27, Try.ntmps27
  go_wp2_with fail
  refine (HUA.out).mono ?_
  rintro e w1 ⟨rfl, hb1⟩
  clear HUA
  have hV1 := hV.below hb1
  clear hV
  go_wp2_with fail
  go_loopg [4, 6, 11] L.length (fun m q4 q6 q11 wr => ∃ (i : Nat) (F : List LI), i ≤ L.length ∧ m = L.length - i ∧ q11 = .int .i64 i ∧ F = keepL U (L.take i) ∧ OwnI wr w1.heap.size q4 F ∧ Below w1.heap.size w1 wr)
  case atStart => exact ⟨0, [], by omega, by omega, rfl, by simp [keepL], OwnE.nil _ _, Below.refl _ _⟩
  case round =>
    obtain ⟨i, F, hi, hm, rfl, hF, hO, hbq⟩ := hrel
    have hFl : F.length ≤ 1000 := by rw [hF]; have := HKL.out (L.take i); rw [List.length_take] at this; omega
    by_cases hlt : i < L.length
    · have hlt' : (i : Int) < (L.length : Int) := by omega
      have hi0 : (0 : Int) ≤ (i : Int) := by omega
      obtain ⟨x, hx⟩ : ∃ x, L[i]? = some x := ⟨_, List.getElem?_eq_getElem hlt⟩
      obtain ⟨k0, k1⟩ := H0.out x (List.mem_of_getElem? hx)
      have hks := HKS.out i x hx
      rw [← hF] at hks
      obtain ⟨c0, c1⟩ := liRow (hV1.below hbq) i x hx
      have hu1 := fun W => used1_any x W k0 k1
      obtain ⟨NN, hNN⟩ : ∃ z, x.2.2.2.length - 1 = z := ⟨_, rfl⟩
      rw [hNN] at hu1 hks
      have HU1 := Lib.hid hu1
      have HKS2 := Lib.hid hks
      clear hu1 hks hNN hx k0 k1 hF
      by_cases eN : NN = U
      · have f0 : ((NN : Int) == (U : Int)) = true := by rw [beq_iff_eq]; omega
        have BX := Blk.new wr #[.slice (some ⟨x.1.1, 0, none⟩) x.1.2.length x.1.2.length, .slice (some ⟨x.2.1, 0, none⟩) x.2.2.2.length x.2.2.1] 65
        have hbx : Below wr.heap.size wr (wr.alloc (.cells #[.slice (some ⟨x.1.1, 0, none⟩) x.1.2.length x.1.2.length, .slice (some ⟨x.2.1, 0, none⟩) x.2.2.2.length x.2.2.1] 65)) := (Below.refl _ _).alloc (Nat.le_refl _) _
        obtain ⟨y0, y1, yf, yl⟩ := BX.two
        go_wp2_with fail
        clear y0 y1 yf yl c0 c1
        refine (HU1.out _).mono ?_
        rintro e wA ⟨rfl, hbA⟩
        replace BX := BX.below hbA
        replace hbA := chain hbx hbA
        clear hbx HU1
        obtain ⟨y0, y1, yf, yl⟩ := BX.two
        replace hO := hO.below hbA
        have hsA := hbA.size
        have hsv := (chain hbq hbA).size
        go_wp2_with (at_builtin; go_loud (refine wp_pushLi rfl (.tmp 19) (.tmp 21) rfl w1.heap.size _ F rfl hO x rfl rfl (by omega) hsv ?_; intro v9 wC hO2 hbC hfr))
        go_roundg (L.length - (i + 1))
        case measure => omega
        case rel => exact ⟨i + 1, F ++ [x], by omega, rfl, by go_num, by rw [HKS2.out, if_pos eN], hO2, (chain hbq hbA).trans hbC⟩
      · have f0 : ((NN : Int) == (U : Int)) = false := by rw [beq_eq_false_iff_ne]; omega
        have BX := Blk.new wr #[.slice (some ⟨x.1.1, 0, none⟩) x.1.2.length x.1.2.length, .slice (some ⟨x.2.1, 0, none⟩) x.2.2.2.length x.2.2.1] 65
        have hbx : Below wr.heap.size wr (wr.alloc (.cells #[.slice (some ⟨x.1.1, 0, none⟩) x.1.2.length x.1.2.length, .slice (some ⟨x.2.1, 0, none⟩) x.2.2.2.length x.2.2.1] 65)) := (Below.refl _ _).alloc (Nat.le_refl _) _
        obtain ⟨y0, y1, yf, yl⟩ := BX.two
        go_wp2_with fail
        clear y0 y1 yf yl c0 c1
        refine (HU1.out _).mono ?_
        rintro e wA ⟨rfl, hbA⟩
        replace BX := BX.below hbA
        replace hbA := chain hbx hbA
        clear hbx HU1
        obtain ⟨y0, y1, yf, yl⟩ := BX.two
        replace hO := hO.below hbA
        have hsA := hbA.size
        have hsv := (chain hbq hbA).size
        go_wp2
        go_roundg (L.length - (i + 1))
        case measure => omega
        case rel => exact ⟨i + 1, F, by omega, rfl, by go_num, by rw [HKS2.out, if_neg eN, List.append_nil], hO, chain hbq hbA⟩
    · obtain rfl : i = L.length := by omega
      rw [List.take_length] at hF
      have hF0 : 0 < F.length := by rw [hF]; exact HNE.out
      have hleg := HLEG.out
      rw [← hF] at hleg
      clear hF
      obtain ⟨gF, kF, rfl, hgF, hVF⟩ := hO.at hF0
      have hcap : F.length ≤ kF := OwnE.room hO
      clear hO
      by_cases e1 : U = 1
      · have f1 : ((U : Int) == 1) = true := by rw [beq_iff_eq]; omega
        rw [if_pos e1] at hleg
        have hR1 : R.length = 1 := by rw [hleg, List.length_take]; omega
        have HR1 := Lib.hid hR1
        have HLG := Lib.hid hleg
        have hk1 : (1 : Int) ≤ (kF : Int) := by omega
        have hk2 : 1 ≤ kF := by omega
        clear hleg hR1
        go_wp2
        go_ret
        exact ⟨gF, kF, by rw [HR1.out]; rfl, Nat.le_trans hb1.size hgF, by rw [HLG.out]; exact hVF.take1, hb1.trans (hbq.mono hb1.size)⟩
      · have f1 : ((U : Int) == 1) = false := by rw [beq_eq_false_iff_ne]; omega
        rw [if_neg e1] at hleg
        have HLG := Lib.hid hleg
        clear hleg
        go_wp2
        go_ret
        exact ⟨gF, kF, by rw [HLG.out]; rfl, Nat.le_trans hb1.size hgF, by rw [HLG.out]; exact hVF, hb1.trans (hbq.mono hb1.size)⟩
end Go.Proofs.Ytodlofabffenoaa
namespace Go.Proofs.Ytodlofabffenoaa
open Go.ChangeShapes Go.WideShapes Go.ChangeAt Go.RowKit
attribute [local go_sem] Oper.semAt_some
set_option linter.unusedVariables false
set_option linter.unusedSimpArgs false
set_option maxRecDepth 4000
end Go.Proofs.Ytodlofabffenoaa
namespace Go.Proofs.Ytodlofabffenoaa
open Go.ChangeShapes Go.WideShapes Go.ChangeAt Go.RowKit
set_option linter.unusedVariables false
set_option linter.unusedSimpArgs false
set_option maxRecDepth 4000
def crowdB (x : LI) : Bool := x.2.2.2.any (fun y => decide (3000 < y.2.2.length))
def lastP (x : LI) : List PP := ((x.2.2.2[x.2.2.2.length - 1]?).map (fun y => y.2.2)).getD []
end Go.Proofs.Ytodlofabffenoaa
namespace Go.Proofs.Ytodlofabffenoaa
open Go.ChangeShapes Go.WideShapes Go.ChangeAt Go.RowKit
set_option linter.unusedVariables false
set_option linter.unusedSimpArgs false
def okTo (P : Nat) (h : Int) (xs ys : List Int) (l : List (List Int)) : Nat → Bool
  | 0 => true
  | k + 1 => match l[k]? with
    | none => okTo P h xs ys l k
    | some o => okTo P h xs ys l k && fineP P h o (startP xs ys)
def allOk (P : Nat) (h : Int) (xs ys : List Int) (ra rb : Int) : Bool := okTo P h xs ys (ordersP ra rb) (ordersP ra rb).length
end Go.Proofs.Ytodlofabffenoaa
namespace Go.Proofs.Ytodlofabffenoaa
open Go.ChangeShapes Go.WideShapes Go.ChangeAt Go.RowKit
set_option linter.unusedVariables false
set_option linter.unusedSimpArgs false
set_option maxRecDepth 4000
def legalO (P : Nat) (h : Int) (xs ys : List Int) (U : Nat) (OS : List (List Int)) : List (List Int) :=
  if U = 1 then (OS.filter (fun o => longN P h o (startP xs ys) == U)).take 1 else OS.filter (fun o => longN P h o (startP xs ys) == U)
theorem levels_ne (P : Nat) (h : Int) : ∀ (o : List Int) (l : List Ply), l ≠ [] → ∀ m ∈ levels P h o l, m ≠ []
  | [], l, hl, m, hm => by simp [levels] at hm; rw [hm]; exact hl
  | d :: ds, l, hl, m, hm => by
    rw [levels] at hm
    rcases List.mem_cons.1 hm with rfl | hm
    · exact hl
    · split at hm
      · simp at hm
      · rename_i e
        exact levels_ne P h ds _ e m hm
theorem levels_steps (P : Nat) (h : Int) : ∀ (o : List Int) (l : List Ply) (n : Nat), (∀ q ∈ l, q.1.length ≤ n) → ∀ m ∈ levels P h o l, ∀ q ∈ m, q.1.length ≤ n + o.length
  | [], l, n, hl, m, hm => by simp [levels] at hm; rw [hm]; exact hl
  | d :: ds, l, n, hl, m, hm => by
    rw [levels] at hm
    rcases List.mem_cons.1 hm with rfl | hm
    · intro q hq; have := hl q hq; simp; omega
    · split at hm
      · simp at hm
      · intro q hq
        have := levels_steps P h ds _ (n + 1) (fun q hq => by
          rcases addAll_mem hq with h2 | h2
          · simp at h2
          · obtain ⟨p, hp, hq⟩ := List.mem_flatMap.1 h2
            obtain ⟨t, _, rfl⟩ := List.mem_map.1 hq
            have := hl p hp
            simp [oneMore]
            omega) m hm q hq
        rw [List.length_cons]
        omega
structure Liss (P : Nat) (h : Int) (xs ys : List Int) (ra rb : Int) (L : List LI) : Prop where
  len : ∀ x ∈ L, x.2.2.2.length = longN P h x.1.2 (startP xs ys) + 1
  four : ∀ x ∈ L, x.1.2.length ≤ 4
  two : L.length ≤ 2
  pos : 0 < L.length
  used : usedL L = usedP P h xs ys ra rb
  low : ∀ i, usedLTo L i ≤ 4
  last : ∀ x ∈ L, (lastP x).map (·.2) = longP P h x.1.2 (startP xs ys)
  crowd : ∀ x ∈ L, crowdB x = !(fineP P h x.1.2 (startP xs ys))
  step : ∀ x ∈ L, ∀ y ∈ x.2.2.2, (∀ q ∈ y.2.2, q.2.1.length ≤ 4) ∧ 0 < y.2.2.length
theorem liss_of {P : Nat} {h ra rb : Int} {xs ys : List Int} {L : List LI} (hT : L.map (fun x => x.1.2) = ordersP ra rb) {F : LI → Prop} (hQ : ∀ x ∈ L, x.2.2.2.map (fun y => y.2.2.map (·.2)) = levels P h x.1.2 (startP xs ys) ∧ F x) : Liss P h xs ys ra rb L := by
  have hlen : ∀ x ∈ L, x.2.2.2.length = longN P h x.1.2 (startP xs ys) + 1 := fun x hx => by
    have := congrArg List.length (hQ x hx).1
    rwa [List.length_map, levels_length] at this
  have ho4 : ∀ x ∈ L, x.1.2.length ≤ 4 := fun x hx => by
    have hm : x.1.2 ∈ ordersP ra rb := by rw [← hT]; exact List.mem_map.2 ⟨x, hx, rfl⟩
    unfold ordersP at hm
    split at hm
    · simp at hm; rw [hm]; simp
    · simp at hm; rcases hm with h | h <;> rw [h] <;> simp
  have hll : L.length = (ordersP ra rb).length := by
    have := congrArg List.length hT
    rwa [List.length_map] at this
  refine ⟨hlen, ho4, by rw [hll]; exact ordersP_length ra rb, by rw [hll]; unfold ordersP; split <;> simp, usedL_levels P h xs ys _ L hT (fun x hx => (hQ x hx).1), fun i => ?_, fun x hx => ?_, fun x hx => ?_, fun x hx y hy => ⟨fun q hq => ?_, ?_⟩⟩
  · have e : usedLTo L i = usedTo P h xs ys (ordersP ra rb) i := by
      unfold usedLTo usedTo
      refine usedL_levels P h xs ys _ _ ?_ (fun x hx => (hQ x (List.mem_of_mem_take hx)).1)
      rw [← hT, List.map_take]
    rw [e]
    exact usedTo_le P h xs ys ra rb i
  · have hl := levels_last P h x.1.2 (startP xs ys)
    rw [← (hQ x hx).1, List.getElem?_map] at hl
    unfold lastP
    rw [hlen x hx, Nat.add_sub_cancel]
    cases e : x.2.2.2[longN P h x.1.2 (startP xs ys)]? with
    | none => rw [e] at hl; simp at hl
    | some y => rw [e] at hl; simpa using hl
  · rw [← levels_fine P h x.1.2 (startP xs ys) (by simp [startP]), ← (hQ x hx).1]
    unfold crowdB
    rw [List.all_map, Bool.eq_iff_iff]
    simp [Function.comp_def]
  · have := levels_steps P h x.1.2 (startP xs ys) 0 (fun q hq => by simp [startP] at hq; rw [hq]; simp) (y.2.2.map (·.2)) (by rw [← (hQ x hx).1]; exact List.mem_map.2 ⟨y, hy, rfl⟩) q.2 (List.mem_map.2 ⟨q, hq, rfl⟩)
    have h4 := ho4 x hx
    omega
  · have := levels_ne P h x.1.2 (startP xs ys) (by simp [startP]) (y.2.2.map (·.2)) (by rw [← (hQ x hx).1]; exact List.mem_map.2 ⟨y, hy, rfl⟩)
    exact List.length_pos_iff.2 (fun e => this (by rw [e]; rfl))
theorem Liss.ok {P : Nat} {h ra rb : Int} {xs ys : List Int} {L : List LI} (i : Liss P h xs ys ra rb L) (hT : L.map (fun x => x.1.2) = ordersP ra rb) : L.any crowdB = !(allOk P h xs ys ra rb) := by
  have h1 : L.any crowdB = L.any (fun x => !(fineP P h x.1.2 (startP xs ys))) := by
    rw [Bool.eq_iff_iff, List.any_eq_true, List.any_eq_true]
    constructor
    · rintro ⟨x, hx, e⟩; exact ⟨x, hx, by rw [← i.crowd x hx]; exact e⟩
    · rintro ⟨x, hx, e⟩; exact ⟨x, hx, by rw [i.crowd x hx]; exact e⟩
  have h2 : L.any (fun x => !(fineP P h x.1.2 (startP xs ys))) = (L.map (fun x => x.1.2)).any (fun o => !(fineP P h o (startP xs ys))) := by rw [List.any_map]; rfl
  rw [h1, h2, hT]
  unfold allOk ordersP
  split <;> simp [okTo, Bool.not_and]
end Go.Proofs.Ytodlofabffenoaa
