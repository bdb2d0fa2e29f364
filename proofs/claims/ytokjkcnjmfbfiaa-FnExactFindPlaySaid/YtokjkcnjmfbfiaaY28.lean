/- Texts of a proof, laid together: Contract of the program's listings whose longest sequences are legal. Contract of the library's iterator over a slice, at plays. Contracts of the library's searches in slices of plays, of lists of plays and of listings; of the program's test whether a listing is crowded. Contract of the program's plays of listings. -/
import Derived.Test.YtokjkcnjmfbfiaaY26
import Derived.Test.YtokjkcnjmfbfiaaY23
import Derived.Test.YtokjkcnjmfbfiaaY21
import Derived.Shelf.Abstract
import Derived.Shelf.RegionOpen
import Derived.WalkKit
import Derived.OwnWalkIn
import Derived.TacticsInMore
import Derived.LoopNIn
import Derived.LoopIn
namespace Go.Proofs.Ytokjkcnjmfbfiaa
open Go.ChangeShapes Go.WideShapes Go.ChangeAt Go.RowKit
set_option linter.unusedVariables false
set_option linter.unusedSimpArgs false
set_option maxRecDepth 4000

/-- The listings whose longest sequences are legal. -/
def keepL (U : Nat) (L : List LI) : List LI := L.filter (fun x => x.2.2.2.length - 1 == U)
def legalL (L : List LI) : List LI := if usedL L = 1 then (keepL (usedL L) L).take 1 else keepL (usedL L) L
theorem keepL_succ (U : Nat) (L : List LI) (k : Nat) (x : LI) (hx : L[k]? = some x) : keepL U (L.take (k + 1)) = keepL U (L.take k) ++ (if x.2.2.2.length - 1 = U then [x] else []) := by
  unfold keepL
  rw [List.take_add_one, hx, List.filter_append]
  congr 1
  by_cases e : x.2.2.2.length - 1 = U
  · simp [e]
  · simp [e]
theorem max_in : ∀ (l : List Nat) (m : Nat), l.foldl max m = m ∨ l.foldl max m ∈ l
  | [], m => .inl rfl
  | a :: l, m => by
    rcases max_in l (max m a) with h | h
    · rw [List.foldl_cons, h]
      rcases Nat.le_total m a with e | e
      · rw [Nat.max_eq_right e]; exact .inr (by simp)
      · rw [Nat.max_eq_left e]; exact .inl rfl
    · rw [List.foldl_cons]
      exact .inr (List.mem_cons_of_mem _ h)
theorem keepL_ne (L : List LI) (h0 : 0 < L.length) : 0 < (keepL (usedL L) L).length := by
  have hm : usedL L = 0 ∨ usedL L ∈ L.map (fun x => x.2.2.2.length - 1) := max_in _ 0
  have hx : ∃ x ∈ L, x.2.2.2.length - 1 = usedL L := by
    rcases hm with h | h
    · obtain ⟨x, hx⟩ := List.exists_mem_of_length_pos h0
      refine ⟨x, hx, ?_⟩
      have hle : ∀ (l : List Nat) (m : Nat), m ≤ l.foldl max m ∧ ∀ y ∈ l, y ≤ l.foldl max m := by
        intro l
        induction l with
        | nil => intro m; simp
        | cons a l ih =>
          intro m
          obtain ⟨i1, i2⟩ := ih (max m a)
          rw [List.foldl_cons]
          refine ⟨by omega, fun y hy => ?_⟩
          rcases List.mem_cons.1 hy with rfl | hy
          · omega
          · exact i2 y hy
      have := (hle (L.map (fun x => x.2.2.2.length - 1)) 0).2 _ (List.mem_map.2 ⟨x, hx, rfl⟩)
      have h' : (L.map (fun x => x.2.2.2.length - 1)).foldl max 0 = 0 := h
      rw [h'] at this
      omega
    · obtain ⟨x, hx, e⟩ := List.mem_map.1 h
      exact ⟨x, hx, e⟩
  obtain ⟨x, hx, e⟩ := hx
  exact List.length_pos_of_mem (List.mem_filter.2 ⟨hx, by simp [e]⟩)
theorem keepL_mem {U : Nat} {L : List LI} {x : LI} (h : x ∈ keepL U L) : x ∈ L ∧ x.2.2.2.length - 1 = U := by
  obtain ⟨h1, h2⟩ := List.mem_filter.1 h
  exact ⟨h1, by simpa using h2⟩
theorem keepL_le (U : Nat) (L : List LI) : (keepL U L).length ≤ L.length := List.length_filter_le _ _
theorem legalL_mem {L : List LI} {x : LI} (h : x ∈ legalL L) : x ∈ L ∧ x.2.2.2.length - 1 = usedL L := by
  unfold legalL at h
  split at h
  · exact keepL_mem (List.mem_of_mem_take h)
  · exact keepL_mem h
theorem legalL_le (L : List LI) : (legalL L).length ≤ L.length := by
  unfold legalL
  have := keepL_le (usedL L) L
  split
  · rw [List.length_take]; omega
  · exact this
theorem VRow.pre {w : World} {g : Nat} {vs us : List Value} {t : TypeId} (h : VRow w g (vs ++ us) t) : VRow w g vs t := by
  obtain ⟨cur, hB, h1, h2⟩ := h
  rw [List.length_append] at h1 h2
  refine ⟨cur, hB, by omega, ?_⟩
  have := congrArg (List.take vs.length) h2
  rw [List.take_take, Nat.min_eq_left (by omega), List.take_left'] at this
  · exact this
  · rfl
theorem VRow.take1 {w : World} {g : Nat} {F : List LI} {t : TypeId} (h : VRow w g (F.flatMap liC) t) : VRow w g ((F.take 1).flatMap liC) t := by
  have e : F.flatMap liC = (F.take 1).flatMap liC ++ (F.drop 1).flatMap liC := by rw [← List.flatMap_append, List.take_append_drop]
  rw [e] at h
  exact h.pre
theorem OwnE.room {α : Type} {enc : α → List Value} {T : TypeId} {sz : Nat} {w : World} {base : Nat} {g n k : Nat} {l : List α} (h : OwnE enc T sz w base (.slice (some ⟨g, 0, none⟩) n k) l) : l.length ≤ k := by
  obtain ⟨hl, ⟨h1, h2⟩ | ⟨g', cap, cur, hv, hb, hh, hc, hm, hs, ht⟩⟩ := h
  · simp at h1
  · simp at hv
    omega
/-- The legal listings have been laid into a slice. -/
def LegGot (L : List LI) (w : World) (e : Ending) (w' : World) : Prop :=
  ∃ g k, e = .returned (.slice (some ⟨g, 0, none⟩) (legalL L).length k) ∧ w.heap.size ≤ g ∧ VRow w' g ((legalL L).flatMap liC) 118 ∧ Below w.heap.size w w'
set_option maxRecDepth 100000 in
set_option maxHeartbeats 4000000 in
theorem legal_any (g k : Nat) (L : List LI) (w : World) (hV : VRow w g (L.flatMap liC) 118) (h0 : ∀ x ∈ L, 0 < x.2.2.2.length ∧ x.2.2.2.length ≤ 1000) (hL : L.length ≤ 1000) (hU : usedL L ≤ 1000) (hle : ∀ i, usedLTo L i ≤ 1000) (hL0 : 0 < L.length) :
    Calls Try.prog 87 #[.slice (some ⟨g, 0, none⟩) L.length k] w (LegGot L w) := by
  have hua := usedAll_any g k L w hV h0 hL hU hle
  have hne := keepL_ne L hL0
  have hleg : legalL L = if usedL L = 1 then (keepL (usedL L) L).take 1 else keepL (usedL L) L := rfl
  obtain ⟨R, hR⟩ : ∃ z, legalL L = z := ⟨_, rfl⟩
  unfold LegGot
  rw [hR] at hleg ⊢
  obtain ⟨U, hUU⟩ : ∃ z, usedL L = z := ⟨_, rfl⟩
  rw [hUU] at hua hne hleg hU
  have HUA := Lib.hid hua
  have HNE := Lib.hid hne
  have HLEG := Lib.hid hleg
  have H0 := Lib.hid h0
  have HKS := Lib.hid (fun k x (hx : L[k]? = some x) => keepL_succ U L k x hx)
  have HKL := Lib.hid (keepL_le U)
  clear hua hne hleg h0 hR hUU hle
  go_enter Try.func87, Try.ntmps87
  go_wp2_with fail
  refine (HUA.out).mono ?_
  rintro e w1 ⟨rfl, hb1⟩
  clear HUA
  have hV1 := hV.below hb1
  clear hV
  go_wp2_with fail
  go_loopg [4, 6, 11] L.length (fun m q4 q6 q11 wr => ∃ (i : Nat) (F : List LI), i ≤ L.length ∧ m = L.length - i ∧ q11 = .int .i64 i ∧ F = keepL U (L.take i) ∧ OwnI wr w1.heap.size q4 F ∧ Below w1.heap.size w1 wr)
  case atStart => exact ⟨0, [], by omega, by omega, rfl, by simp [keepL], OwnE.nil _ _, Below.refl _ _⟩
  case round =>
    obtain ⟨i, F, hi, hm, rfl, hF, hO, hbq⟩ := hrel
    have hFl : F.length ≤ 1000 := by rw [hF]; have := HKL.out (L.take i); rw [List.length_take] at this; omega
    by_cases hlt : i < L.length
    · have hlt' : (i : Int) < (L.length : Int) := by omega
      have hi0 : (0 : Int) ≤ (i : Int) := by omega
      obtain ⟨x, hx⟩ : ∃ x, L[i]? = some x := ⟨_, List.getElem?_eq_getElem hlt⟩
      obtain ⟨k0, k1⟩ := H0.out x (List.mem_of_getElem? hx)
      have hks := HKS.out i x hx
      rw [← hF] at hks
      obtain ⟨c0, c1⟩ := liRow (hV1.below hbq) i x hx
      have hu1 := fun W => used1_any x W k0 k1
      obtain ⟨NN, hNN⟩ : ∃ z, x.2.2.2.length - 1 = z := ⟨_, rfl⟩
      rw [hNN] at hu1 hks
      have HU1 := Lib.hid hu1
      have HKS2 := Lib.hid hks
      clear hu1 hks hNN hx k0 k1 hF
      by_cases eN : NN = U
      · have f0 : ((NN : Int) == (U : Int)) = true := by rw [beq_iff_eq]; omega
        have BX := Blk.new wr #[.slice (some ⟨x.1.1, 0, none⟩) x.1.2.length x.1.2.length, .slice (some ⟨x.2.1, 0, none⟩) x.2.2.2.length x.2.2.1] 118
        have hbx : Below wr.heap.size wr (wr.alloc (.cells #[.slice (some ⟨x.1.1, 0, none⟩) x.1.2.length x.1.2.length, .slice (some ⟨x.2.1, 0, none⟩) x.2.2.2.length x.2.2.1] 118)) := (Below.refl _ _).alloc (Nat.le_refl _) _
        obtain ⟨y0, y1, yf, yl⟩ := BX.two
        go_wp2_with fail
        clear y0 y1 yf yl c0 c1
        refine (HU1.out _).mono ?_
        rintro e wA ⟨rfl, hbA⟩
        replace BX := BX.below hbA
        replace hbA := chain hbx hbA
        clear hbx HU1
        obtain ⟨y0, y1, yf, yl⟩ := BX.two
        replace hO := hO.below hbA
        have hsA := hbA.size
        have hsv := (chain hbq hbA).size
        go_wp2_with (at_builtin; go_loud (refine wp_pushLi rfl (.tmp 19) (.tmp 21) rfl w1.heap.size _ F rfl hO x rfl rfl (by omega) hsv ?_; intro v9 wC hO2 hbC hfr))
        go_roundg (L.length - (i + 1))
        case measure => omega
        case rel => exact ⟨i + 1, F ++ [x], by omega, rfl, by go_num, by rw [HKS2.out, if_pos eN], hO2, (chain hbq hbA).trans hbC⟩
      · have f0 : ((NN : Int) == (U : Int)) = false := by rw [beq_eq_false_iff_ne]; omega
        have BX := Blk.new wr #[.slice (some ⟨x.1.1, 0, none⟩) x.1.2.length x.1.2.length, .slice (some ⟨x.2.1, 0, none⟩) x.2.2.2.length x.2.2.1] 118
        have hbx : Below wr.heap.size wr (wr.alloc (.cells #[.slice (some ⟨x.1.1, 0, none⟩) x.1.2.length x.1.2.length, .slice (some ⟨x.2.1, 0, none⟩) x.2.2.2.length x.2.2.1] 118)) := (Below.refl _ _).alloc (Nat.le_refl _) _
        obtain ⟨y0, y1, yf, yl⟩ := BX.two
        go_wp2_with fail
        clear y0 y1 yf yl c0 c1
        refine (HU1.out _).mono ?_
        rintro e wA ⟨rfl, hbA⟩
        replace BX := BX.below hbA
        replace hbA := chain hbx hbA
        clear hbx HU1
        obtain ⟨y0, y1, yf, yl⟩ := BX.two
        replace hO := hO.below hbA
        have hsA := hbA.size
        have hsv := (chain hbq hbA).size
        go_wp2
        go_roundg (L.length - (i + 1))
        case measure => omega
        case rel => exact ⟨i + 1, F, by omega, rfl, by go_num, by rw [HKS2.out, if_neg eN, List.append_nil], hO, chain hbq hbA⟩
    · obtain rfl : i = L.length := by omega
      rw [List.take_length] at hF
      have hF0 : 0 < F.length := by rw [hF]; exact HNE.out
      have hleg := HLEG.out
      rw [← hF] at hleg
      clear hF
      obtain ⟨gF, kF, rfl, hgF, hVF⟩ := hO.at hF0
      have hcap : F.length ≤ kF := OwnE.room hO
      clear hO
      by_cases e1 : U = 1
      · have f1 : ((U : Int) == 1) = true := by rw [beq_iff_eq]; omega
        rw [if_pos e1] at hleg
        have hR1 : R.length = 1 := by rw [hleg, List.length_take]; omega
        have HR1 := Lib.hid hR1
        have HLG := Lib.hid hleg
        have hk1 : (1 : Int) ≤ (kF : Int) := by omega
        have hk2 : 1 ≤ kF := by omega
        clear hleg hR1
        go_wp2
        go_ret
        exact ⟨gF, kF, by rw [HR1.out]; rfl, Nat.le_trans hb1.size hgF, by rw [HLG.out]; exact hVF.take1, hb1.trans (hbq.mono hb1.size)⟩
      · have f1 : ((U : Int) == 1) = false := by rw [beq_eq_false_iff_ne]; omega
        rw [if_neg e1] at hleg
        have HLG := Lib.hid hleg
        clear hleg
        go_wp2
        go_ret
        exact ⟨gF, kF, by rw [HLG.out]; rfl, Nat.le_trans hb1.size hgF, by rw [HLG.out]; exact hVF, hb1.trans (hbq.mono hb1.size)⟩
end Go.Proofs.Ytokjkcnjmfbfiaa
namespace Go.Proofs.Ytokjkcnjmfbfiaa
open Go.ChangeShapes Go.WideShapes Go.ChangeAt Go.RowKit
attribute [local go_sem] Oper.semAt_some
set_option linter.unusedVariables false
set_option linter.unusedSimpArgs false
set_option maxRecDepth 4000

theorem values_any (la : Option Addr) (ln lc : Nat) (w : World) :
    Calls Try.prog 155 #[.slice la ln lc] w fun e w' => e = .returned (.func (.func 173) #[] #[.pointer (some ⟨w.heap.size, 0, none⟩)]) ∧ Blk w' w.heap.size #[.slice la ln lc] 40 ∧ Below w.heap.size w w' ∧ w'.heap.size = w.heap.size + 1 := by
  have B1 := Blk.new w #[.slice la ln lc] 40
  have hb : Below w.heap.size w (w.alloc (.cells #[.slice la ln lc] 40)) := (Below.refl _ _).alloc (Nat.le_refl _) _
  have hz : (w.alloc (.cells #[.slice la ln lc] 40)).heap.size = w.heap.size + 1 := by simp
  go_enter Try.func155, Try.ntmps155
  go_wp2
  go_ret
  exact ⟨rfl, B1, hb, hz⟩
theorem values1_enter (args : Array Value) (w : World) : (callFunc 173 args).run Try.prog w = .ok (.enter 173 args) w := by
  obtain ⟨fn, hf, hn, cc, hc⟩ : ∃ fn, Try.prog.funcs[(173 : FuncId)]? = some fn ∧ (fn.name == "runtime.NumGoroutine") = false ∧ ∃ cc, fn.body = some cc := ⟨_, Try.func173, by kernel_rfl, _, rfl⟩
  have h1 : ¬ fn.name = "runtime.NumGoroutine" := by simpa using hn
  simp [callFunc, hf, h1, hc]
set_option maxRecDepth 100000 in
set_option maxHeartbeats 4000000 in
theorem values1_good (P : Nat) (c h s : Int) (Bl : Nat) (la : Option Addr) (lc lo hi K : Nat) (l : List PP) (w : World) (hBl : Blk w Bl #[.slice la l.length lc] 40) (hO : OPl lo hi w la l) (hA : PAll lo hi w l) (hhi : hi ≤ w.heap.size)
    (hF : Fine (P : Int) c h s (l.map (·.2))) (hK : ∀ x ∈ l, x.2.1.length ≤ K) (hl : l.length ≤ 1000000) (hD : l.Pairwise Dis) :
    SeqGood 173 #[.pointer (some ⟨Bl, 0, none⟩)] (fun x : PP => #[plV x]) (GoodP (P : Int) c h s lo K) Dis w.heap.size (fun xs => xs = l) l.length w := by
  intro n yl foot J W hW hJ hf hJf hY h0
  refine callsIn_of_wp Try.func173 rfl trivial ?_ rfl
  simp only [Try.ntmps173, List.size_toArray, List.length_cons, List.length_nil, Nat.reduceAdd, Nat.reduceSub, Array.replicate_succ, Array.replicate_zero, List.push_toArray, List.append_toArray, List.nil_append, List.cons_append]
  have BL := hBl.below hW
  have l0 := BL.one.1
  gi_wp2
  gi_loopw [4, 7] (fun q4 i wr => ∃ k : Nat, k ≤ l.length ∧ i = .int .i64 k ∧ J (l.take k) wr ∧ Below w.heap.size w wr ∧ W.heap.size ≤ wr.heap.size) (fun _ i _ => l.length - (intOf i).toNat)
  case atStart => exact ⟨0, Nat.zero_le _, rfl, by simpa using h0, hW, Nat.le_refl _⟩
  case round =>
    clear BL l0 h0
    obtain ⟨k, hk, rfl, hJs, hb, hWs⟩ := hrel
    by_cases hlt : k < l.length
    · obtain ⟨x, hx⟩ : ∃ x, l[k]? = some x := ⟨_, List.getElem?_eq_getElem hlt⟩
      have hxm : x ∈ l := List.mem_of_getElem? hx
      obtain ⟨gl, rfl, hrow⟩ := hO.row hlt
      have hrow2 := hrow.below hb
      obtain ⟨c0, c1, c2⟩ := PRow.three hrow2 k x hx
      have hat := (hA x hxm).below hb
      have gx := hF x.2 (List.mem_map.2 ⟨x, hxm, rfl⟩)
      have hlx := hK x hxm
      have hlt' : (k : Int) < (l.length : Int) := by omega
      have hk0 : (0 : Int) ≤ (k : Int) := by omega
      have hal : Below wr.heap.size wr (wr.alloc (.cells #[pl0 x, pl1 x, pl2 x] 94)) := (Below.refl _ _).alloc (Nat.le_refl _) _
      have B6 := Blk.new wr #[pl0 x, pl1 x, pl2 x] 94
      obtain ⟨b0, b1, b2, bf, bl⟩ := B6.tri
      have hsA := hal.size
      have hJ2 := hJ _ _ _ hJs hal
      have hbW := chain hb hal
      have hgood : GoodP (P : Int) c h s lo K x (wr.alloc (.cells #[pl0 x, pl1 x, pl2 x] 94)) := ⟨(hat.below hal).mono (Nat.le_refl _) (by have := hbW.size; omega), gx, hlx⟩
      have hdis : ∀ z ∈ l.take k, Dis z x := fun z hz => by
        have h1 : (l.take (k + 1)).Pairwise Dis := hD.sublist (List.take_sublist _ _)
        rw [List.take_add_one, hx] at h1
        exact (List.pairwise_append.1 h1).2.2 z hz x (by simp)
      obtain ⟨fn, tmps, assign, body, hyy, hR⟩ := hY (l.take k) x _ hJ2 hgood hdis (by rw [List.length_take]; omega) (by omega)
      have htk : l.take k ++ [x] = l.take (k + 1) := by rw [List.take_add_one, hx]; rfl
      rw [htk] at hR
      clear hdis hat gx hrow hrow2 hgood htk hJ2 hJs
      gi_wp2
      refine hR.mono ?_
      rintro e Y ⟨rfl, hJY, hbY, hKp⟩
      have hsY := hKp.size
      gi_wp2
      go_roundw
      case rel => exact ⟨k + 1, by omega, by simp, hJY, hbW.trans hbY, by omega⟩
      case measure => simp [intOf]; omega
    · obtain rfl : k = l.length := by omega
      have hlt' : ¬ (l.length : Int) < (l.length : Int) := by omega
      rw [List.take_length] at hJs
      gi_wp2
      go_end0
      exact ⟨⟨_, rfl⟩, hJs⟩
end Go.Proofs.Ytokjkcnjmfbfiaa
namespace Go.Proofs.Ytokjkcnjmfbfiaa
open Go.ChangeShapes Go.WideShapes Go.ChangeAt Go.RowKit
set_option linter.unusedVariables false
set_option linter.unusedSimpArgs false
set_option maxRecDepth 4000

/-- The first place at which a predicate holds, or -1. -/
def firstE {α : Type} (pr : α → Bool) : List α → Int
  | [] => -1
  | s :: l => if pr s = true then 0 else if firstE pr l < 0 then -1 else firstE pr l + 1
theorem firstE_low {α : Type} (pr : α → Bool) : ∀ l, -1 ≤ firstE pr l ∧ firstE pr l < l.length
  | [] => by simp [firstE]
  | s :: l => by
    have := firstE_low pr l
    rw [firstE, List.length_cons]
    split
    · omega
    · split <;> omega
theorem firstE_at {α : Type} (pr : α → Bool) : ∀ (l : List α) (k : Nat) (t : α), (∀ j s, j < k → l[j]? = some s → pr s = false) → l[k]? = some t → pr t = true → firstE pr l = (k : Int)
  | [], k, t, _, h, _ => by simp at h
  | s :: l, 0, t, _, h, hp => by
    simp at h
    subst h
    rw [firstE, if_pos hp]
    rfl
  | s :: l, k + 1, t, ha, h, hp => by
    have h0 := ha 0 s (by omega) (by simp)
    have ih := firstE_at pr l k t (fun j x hj hx => ha (j + 1) x (by omega) (by simpa using hx)) (by simpa using h) hp
    rw [firstE, if_neg (by simp [h0]), ih, if_neg (by omega)]
    omega
theorem firstE_none {α : Type} (pr : α → Bool) : ∀ (l : List α), (∀ j s, j < l.length → l[j]? = some s → pr s = false) → firstE pr l = -1
  | [], _ => rfl
  | s :: l, ha => by
    have h0 := ha 0 s (by simp) (by simp)
    have ih := firstE_none pr l (fun j x hj hx => ha (j + 1) x (by simpa using hj) (by simpa using hx))
    rw [firstE, if_neg (by simp [h0]), ih]
    rfl
theorem firstE_any {α : Type} (pr : α → Bool) : ∀ l, decide (0 ≤ firstE pr l) = l.any pr
  | [] => rfl
  | s :: l => by
    have ih := firstE_any pr l
    have hl := (firstE_low pr l).1
    rw [firstE, List.any_cons]
    by_cases h : pr s = true
    · rw [if_pos h, h]
      rfl
    · rw [if_neg h, ← ih, show pr s = false by simpa using h, Bool.false_or]
      by_cases h2 : firstE pr l < 0
      · rw [if_pos h2, decide_eq_false (by omega), decide_eq_false (by omega)]
      · rw [if_neg h2, decide_eq_true (by omega), decide_eq_true (by omega)]
theorem lvC_at : ∀ (l : List LV) (k : Nat) (s : LV), l[k]? = some s → (l.flatMap lvC)[k]? = some (lvV s)
  | [], k, s, h => by simp at h
  | x :: l, 0, s, h => by
    simp at h
    subst h
    rfl
  | x :: l, k + 1, s, h => by
    rw [List.flatMap_cons]
    show ((lvV x) :: l.flatMap lvC)[k + 1]? = _
    rw [List.getElem?_cons_succ]
    exact lvC_at l k s (by simpa using h)
theorem lvRow {w : World} {g : Nat} {l : List LV} (h : VRow w g (l.flatMap lvC) 40) (k : Nat) (s : LV) (hk : l[k]? = some s) : w.cell? ⟨g, k, none⟩ = some (lvV s) := h.cell _ _ (lvC_at l k s hk)
set_option maxRecDepth 8000 in
set_option maxHeartbeats 2000000 in
theorem indexL_any (g : Nat) (cap : Nat) (l : List LV) (pf : Nat) (lb : Array Value) (pr : LV → Bool) (w : World) (hle : l.length ≤ 1000) (h1 : VRow w g (l.flatMap lvC) 40) (he : ∀ (args : Array Value) (w2 : World), (callFunc pf args).run Try.prog w2 = .ok (.enter pf args) w2) (hp : ∀ W, Below w.heap.size w W → ∀ s ∈ l, Calls Try.prog pf (#[lvV s] ++ lb) W fun e w2 => e = .returned (.bool (pr s)) ∧ Below W.heap.size W w2) :
    Calls Try.prog 172 #[.slice (some ⟨g, 0, none⟩) l.length cap, .func (.func pf) #[] lb] w fun e w' => e = .returned (.int .i64 (firstE pr l)) ∧ Below w.heap.size w w' := by
  have HP := Lib.hid hp
  have h2 := firstE_at pr l
  have h3 := firstE_none pr l
  obtain ⟨R, hR⟩ : ∃ R, firstE pr l = R := ⟨_, rfl⟩
  rw [hR] at h2 h3 ⊢
  have H2 := Lib.hid h2
  have H3 := Lib.hid h3
  clear hR h2 h3 hp
  go_enter Try.func172, Try.ntmps172
  go_wp2
  go_loopg [8] l.length (fun m i wr => ∃ k : Nat, k ≤ l.length ∧ m = l.length - k ∧ i = .int .i64 k ∧ (∀ j s, j < k → l[j]? = some s → pr s = false) ∧ Below w.heap.size w wr)
  case atStart => exact ⟨0, by omega, by omega, rfl, fun j s hj => by omega, Below.refl _ _⟩
  case round =>
    obtain ⟨k, hk, hm, rfl, hall, hbel⟩ := hrel
    have HA := Lib.hid hall
    clear hall
    by_cases hlt : k < l.length
    · have hlt' : (k : Int) < (l.length : Int) := by omega
      have hk0 : (0 : Int) ≤ (k : Int) := by omega
      obtain ⟨t, ht⟩ : ∃ t, l[k]? = some t := ⟨_, List.getElem?_eq_getElem hlt⟩
      have u0 := lvRow (h1.below hbel) k t ht
      have hpt := HP.out wr hbel t (List.mem_of_getElem? ht)
      have HT := Lib.hid ht
      clear h1 ht
      cases hpr : pr t with
      | true =>
        rw [hpr] at hpt
        have hRk : R = (k : Int) := H2.out k _ HA.out HT.out hpr
        subst hRk
        have HC := Lib.hid hpt
        clear hpt hpr
        go_wp2_with (go_at_fn pf; refine HC.out.mono ?_; rintro e w5 ⟨rfl, hb5⟩)
        go_ret
        exact ⟨rfl, chain hbel hb5⟩
      | false =>
        rw [hpr] at hpt
        have HC := Lib.hid hpt
        have HPR := Lib.hid hpr
        clear hpt hpr
        go_wp2_with (go_at_fn pf; refine HC.out.mono ?_; rintro e w5 ⟨rfl, hb5⟩)
        go_roundg (l.length - (k + 1))
        case measure => omega
        case rel =>
          refine ⟨k + 1, by omega, rfl, by go_num, fun j s hj hs => ?_, chain hbel hb5⟩
          by_cases hjk : j = k
          · subst hjk
            rw [HT.out] at hs
            simp only [Option.some.injEq] at hs
            rw [← hs]
            exact HPR.out
          · exact HA.out j s (by omega) hs
    · obtain rfl : k = l.length := by omega
      have hRk : R = -1 := H3.out HA.out
      subst hRk
      go_wp2
      go_ret
      exact ⟨rfl, hbel⟩
set_option maxHeartbeats 1000000 in
theorem containsL_any (g : Nat) (cap : Nat) (l : List LV) (pf : Nat) (lb : Array Value) (pr : LV → Bool) (w : World) (hle : l.length ≤ 1000) (h1 : VRow w g (l.flatMap lvC) 40) (he : ∀ (args : Array Value) (w2 : World), (callFunc pf args).run Try.prog w2 = .ok (.enter pf args) w2) (hp : ∀ W, Below w.heap.size w W → ∀ s ∈ l, Calls Try.prog pf (#[lvV s] ++ lb) W fun e w2 => e = .returned (.bool (pr s)) ∧ Below W.heap.size W w2) :
    Calls Try.prog 153 #[.slice (some ⟨g, 0, none⟩) l.length cap, .func (.func pf) #[] lb] w fun e w' => e = .returned (.bool (l.any pr)) ∧ Below w.heap.size w w' := by
  have hi0 := indexL_any g cap l pf lb pr w hle h1 he hp
  have hq := firstE_any pr l
  obtain ⟨R, hR⟩ : ∃ R, firstE pr l = R := ⟨_, rfl⟩
  rw [hR] at hi0 hq
  rw [← hq]
  have HI := Lib.hid hi0
  clear hi0 hR hq he hp h1
  go_enter Try.func153, Try.ntmps153
  go_wp2_with (go_at_call 172; refine HI.out.mono ?_; rintro e w5 ⟨rfl, hb5⟩)
  go_ret
  exact ⟨rfl, hb5⟩
set_option maxRecDepth 8000 in
set_option maxHeartbeats 2000000 in
theorem indexI_any (g : Nat) (cap : Nat) (l : List LI) (pf : Nat) (lb : Array Value) (pr : LI → Bool) (w : World) (hle : l.length ≤ 1000) (h1 : VRow w g (l.flatMap liC) 118) (he : ∀ (args : Array Value) (w2 : World), (callFunc pf args).run Try.prog w2 = .ok (.enter pf args) w2) (hp : ∀ W, Below w.heap.size w W → ∀ s ∈ l, Calls Try.prog pf (#[liV s] ++ lb) W fun e w2 => e = .returned (.bool (pr s)) ∧ Below W.heap.size W w2) :
    Calls Try.prog 152 #[.slice (some ⟨g, 0, none⟩) l.length cap, .func (.func pf) #[] lb] w fun e w' => e = .returned (.int .i64 (firstE pr l)) ∧ Below w.heap.size w w' := by
  have HP := Lib.hid hp
  have h2 := firstE_at pr l
  have h3 := firstE_none pr l
  obtain ⟨R, hR⟩ : ∃ R, firstE pr l = R := ⟨_, rfl⟩
  rw [hR] at h2 h3 ⊢
  have H2 := Lib.hid h2
  have H3 := Lib.hid h3
  clear hR h2 h3 hp
  go_enter Try.func152, Try.ntmps152
  go_wp2
  go_loopg [8] l.length (fun m i wr => ∃ k : Nat, k ≤ l.length ∧ m = l.length - k ∧ i = .int .i64 k ∧ (∀ j s, j < k → l[j]? = some s → pr s = false) ∧ Below w.heap.size w wr)
  case atStart => exact ⟨0, by omega, by omega, rfl, fun j s hj => by omega, Below.refl _ _⟩
  case round =>
    obtain ⟨k, hk, hm, rfl, hall, hbel⟩ := hrel
    have HA := Lib.hid hall
    clear hall
    by_cases hlt : k < l.length
    · have hlt' : (k : Int) < (l.length : Int) := by omega
      have hk0 : (0 : Int) ≤ (k : Int) := by omega
      obtain ⟨t, ht⟩ : ∃ t, l[k]? = some t := ⟨_, List.getElem?_eq_getElem hlt⟩
      obtain ⟨u0, u1⟩ := liRow (h1.below hbel) k t ht
      have hpt := HP.out wr hbel t (List.mem_of_getElem? ht)
      have HT := Lib.hid ht
      clear h1 ht
      cases hpr : pr t with
      | true =>
        rw [hpr] at hpt
        have hRk : R = (k : Int) := H2.out k _ HA.out HT.out hpr
        subst hRk
        have HC := Lib.hid hpt
        clear hpt hpr
        go_wp2_with (go_at_fn pf; refine HC.out.mono ?_; rintro e w5 ⟨rfl, hb5⟩)
        go_ret
        exact ⟨rfl, chain hbel hb5⟩
      | false =>
        rw [hpr] at hpt
        have HC := Lib.hid hpt
        have HPR := Lib.hid hpr
        clear hpt hpr
        go_wp2_with (go_at_fn pf; refine HC.out.mono ?_; rintro e w5 ⟨rfl, hb5⟩)
        go_roundg (l.length - (k + 1))
        case measure => omega
        case rel =>
          refine ⟨k + 1, by omega, rfl, by go_num, fun j s hj hs => ?_, chain hbel hb5⟩
          by_cases hjk : j = k
          · subst hjk
            rw [HT.out] at hs
            simp only [Option.some.injEq] at hs
            rw [← hs]
            exact HPR.out
          · exact HA.out j s (by omega) hs
    · obtain rfl : k = l.length := by omega
      have hRk : R = -1 := H3.out HA.out
      subst hRk
      go_wp2
      go_ret
      exact ⟨rfl, hbel⟩
set_option maxHeartbeats 1000000 in
theorem containsI_any (g : Nat) (cap : Nat) (l : List LI) (pf : Nat) (lb : Array Value) (pr : LI → Bool) (w : World) (hle : l.length ≤ 1000) (h1 : VRow w g (l.flatMap liC) 118) (he : ∀ (args : Array Value) (w2 : World), (callFunc pf args).run Try.prog w2 = .ok (.enter pf args) w2) (hp : ∀ W, Below w.heap.size w W → ∀ s ∈ l, Calls Try.prog pf (#[liV s] ++ lb) W fun e w2 => e = .returned (.bool (pr s)) ∧ Below W.heap.size W w2) :
    Calls Try.prog 113 #[.slice (some ⟨g, 0, none⟩) l.length cap, .func (.func pf) #[] lb] w fun e w' => e = .returned (.bool (l.any pr)) ∧ Below w.heap.size w w' := by
  have hi0 := indexI_any g cap l pf lb pr w hle h1 he hp
  have hq := firstE_any pr l
  obtain ⟨R, hR⟩ : ∃ R, firstE pr l = R := ⟨_, rfl⟩
  rw [hR] at hi0 hq
  rw [← hq]
  have HI := Lib.hid hi0
  clear hi0 hR hq he hp h1
  go_enter Try.func113, Try.ntmps113
  go_wp2_with (go_at_call 152; refine HI.out.mono ?_; rintro e w5 ⟨rfl, hb5⟩)
  go_ret
  exact ⟨rfl, hb5⟩
set_option maxRecDepth 8000 in
set_option maxHeartbeats 2000000 in
theorem indexP_any (lo hi : Nat) (a : Option Addr) (cap : Nat) (l : List PP) (pf : Nat) (lb : Array Value) (pr : PP → Bool) (w : World) (hle : l.length ≤ 1000000) (h1 : OPl lo hi w a l) (he : ∀ (args : Array Value) (w2 : World), (callFunc pf args).run Try.prog w2 = .ok (.enter pf args) w2) (hp : ∀ W, Below w.heap.size w W → ∀ s ∈ l, Calls Try.prog pf (#[plV s] ++ lb) W fun e w2 => e = .returned (.bool (pr s)) ∧ Below W.heap.size W w2) :
    Calls Try.prog 73 #[.slice a l.length cap, .func (.func pf) #[] lb] w fun e w' => e = .returned (.int .i64 (firstE pr l)) ∧ Below w.heap.size w w' := by
  have HP := Lib.hid hp
  have h2 := firstE_at pr l
  have h3 := firstE_none pr l
  obtain ⟨R, hR⟩ : ∃ R, firstE pr l = R := ⟨_, rfl⟩
  rw [hR] at h2 h3 ⊢
  have H2 := Lib.hid h2
  have H3 := Lib.hid h3
  clear hR h2 h3 hp
  go_enter Try.func73, Try.ntmps73
  go_wp2
  go_loopg [8] l.length (fun m i wr => ∃ k : Nat, k ≤ l.length ∧ m = l.length - k ∧ i = .int .i64 k ∧ (∀ j s, j < k → l[j]? = some s → pr s = false) ∧ Below w.heap.size w wr)
  case atStart => exact ⟨0, by omega, by omega, rfl, fun j s hj => by omega, Below.refl _ _⟩
  case round =>
    obtain ⟨k, hk, hm, rfl, hall, hbel⟩ := hrel
    have HA := Lib.hid hall
    clear hall
    by_cases hlt : k < l.length
    · have hlt' : (k : Int) < (l.length : Int) := by omega
      have hk0 : (0 : Int) ≤ (k : Int) := by omega
      obtain ⟨t, ht⟩ : ∃ t, l[k]? = some t := ⟨_, List.getElem?_eq_getElem hlt⟩
      obtain ⟨g1, rfl, R1⟩ := (h1.below hbel).row hlt
      obtain ⟨u0, u1, u2⟩ := R1.three k t ht
      have hpt := HP.out wr hbel t (List.mem_of_getElem? ht)
      have HT := Lib.hid ht
      clear h1 ht
      cases hpr : pr t with
      | true =>
        rw [hpr] at hpt
        have hRk : R = (k : Int) := H2.out k _ HA.out HT.out hpr
        subst hRk
        have HC := Lib.hid hpt
        clear hpt hpr
        go_wp2_with (go_at_fn pf; refine HC.out.mono ?_; rintro e w5 ⟨rfl, hb5⟩)
        go_ret
        exact ⟨rfl, chain hbel hb5⟩
      | false =>
        rw [hpr] at hpt
        have HC := Lib.hid hpt
        have HPR := Lib.hid hpr
        clear hpt hpr
        go_wp2_with (go_at_fn pf; refine HC.out.mono ?_; rintro e w5 ⟨rfl, hb5⟩)
        go_roundg (l.length - (k + 1))
        case measure => omega
        case rel =>
          refine ⟨k + 1, by omega, rfl, by go_num, fun j s hj hs => ?_, chain hbel hb5⟩
          by_cases hjk : j = k
          · subst hjk
            rw [HT.out] at hs
            simp only [Option.some.injEq] at hs
            rw [← hs]
            exact HPR.out
          · exact HA.out j s (by omega) hs
    · obtain rfl : k = l.length := by omega
      have hRk : R = -1 := H3.out HA.out
      subst hRk
      go_wp2
      go_ret
      exact ⟨rfl, hbel⟩
theorem crowded1_any (a : Option Addr) (n k : Nat) (w : World) (hn : n ≤ 1000000) :
    Calls Try.prog 154 #[.slice a n k] w fun e w' => e = .returned (.bool (decide (3000 < n))) ∧ Below w.heap.size w w' := by
  have e1 : decide (3000 < n) = decide ((3000 : Int) < (n : Int)) := by rw [Bool.eq_iff_iff, decide_eq_true_eq, decide_eq_true_eq]; omega
  rw [e1]
  clear e1
  go_enter Try.func154, Try.ntmps154
  go_wp2
  go_ret
  exact ⟨rfl, Below.refl _ _⟩
theorem crowded1_enter (args : Array Value) (w : World) : (callFunc 154 args).run Try.prog w = .ok (.enter 154 args) w := by
  obtain ⟨fn, hf, hn, cc, hc⟩ : ∃ fn, Try.prog.funcs[(154 : FuncId)]? = some fn ∧ (fn.name == "runtime.NumGoroutine") = false ∧ ∃ cc, fn.body = some cc := ⟨_, Try.func154, by kernel_rfl, _, rfl⟩
  have h1 : ¬ fn.name = "runtime.NumGoroutine" := by simpa using hn
  simp [callFunc, hf, h1, hc]
/-- Has a listing too long a list? -/
def crowdB (x : LI) : Bool := x.2.2.2.any (fun y => decide (3000 < y.2.2.length))
set_option maxRecDepth 8000 in
theorem isCrowded_any (x : LI) (w : World) (hV : VRow w x.2.1 (x.2.2.2.flatMap lvC) 40) (hl : x.2.2.2.length ≤ 1000) (hm : ∀ y ∈ x.2.2.2, y.2.2.length ≤ 1000000) :
    Calls Try.prog 114 #[liV x] w fun e w' => e = .returned (.bool (crowdB x)) ∧ Below w.heap.size w w' := by
  obtain ⟨⟨go, o⟩, gL, k, ls⟩ := x
  dsimp only at hV hl hm ⊢
  have BX := Blk.new w #[.slice (some ⟨go, 0, none⟩) o.length o.length, .slice (some ⟨gL, 0, none⟩) ls.length k] 118
  have hb : Below w.heap.size w (w.alloc (.cells #[.slice (some ⟨go, 0, none⟩) o.length o.length, .slice (some ⟨gL, 0, none⟩) ls.length k] 118)) := (Below.refl _ _).alloc (Nat.le_refl _) _
  have hc := fun W (hW : Below w.heap.size w W) => containsL_any gL k ls 154 #[] (fun y => decide (3000 < y.2.2.length)) W hl (hV.below hW) crowded1_enter (fun W' _ y hy => crowded1_any y.1 y.2.2.length y.2.1 W' (hm y hy))
  have HC := Lib.hid hc
  clear hc hV hm
  obtain ⟨x0, x1, xf, xl⟩ := BX.two
  obtain ⟨R, hR⟩ : ∃ R, crowdB ((go, o), gL, k, ls) = R := ⟨_, rfl⟩
  have HR := Lib.hid (show ls.any (fun y => decide (3000 < y.2.2.length)) = R from hR)
  rw [hR]
  clear hR
  go_enter Try.func114, Try.ntmps114
  go_wp2_with (go_at_call 153; refine (HC.out _ hb).mono ?_; rw [HR.out]; rintro e w5 ⟨rfl, hb5⟩)
  go_ret
  exact ⟨rfl, chain hb hb5⟩
theorem isCrowded_enter (args : Array Value) (w : World) : (callFunc 114 args).run Try.prog w = .ok (.enter 114 args) w := by
  obtain ⟨fn, hf, hn, cc, hc⟩ : ∃ fn, Try.prog.funcs[(114 : FuncId)]? = some fn ∧ (fn.name == "runtime.NumGoroutine") = false ∧ ∃ cc, fn.body = some cc := ⟨_, Try.func114, by kernel_rfl, _, rfl⟩
  have h1 : ¬ fn.name = "runtime.NumGoroutine" := by simpa using hn
  simp [callFunc, hf, h1, hc]
end Go.Proofs.Ytokjkcnjmfbfiaa
namespace Go.Proofs.Ytokjkcnjmfbfiaa
open Go.ChangeShapes Go.WideShapes Go.ChangeAt Go.RowKit
set_option linter.unusedVariables false
set_option linter.unusedSimpArgs false
set_option maxRecDepth 4000

/-- The plays of a listing's longest list. -/
def lastP (x : LI) : List PP := ((x.2.2.2[x.2.2.2.length - 1]?).map (fun y => y.2.2)).getD []
theorem legalL_sub (L : List LI) : (legalL L).Sublist L := by
  unfold legalL keepL
  split
  · exact (List.take_sublist _ _).trans List.filter_sublist
  · exact List.filter_sublist
theorem lastP_mem {x : LI} {q : PP} (h : q ∈ lastP x) : ∃ y ∈ x.2.2.2, q ∈ y.2.2 := by
  unfold lastP at h
  cases e : x.2.2.2[x.2.2.2.length - 1]? with
  | none => rw [e] at h; simp at h
  | some y => rw [e] at h; exact ⟨y, List.mem_of_getElem? e, h⟩
theorem VRow.keepT {w w' : World} {g : Nat} {vs : List Value} {t T : TypeId} (h : VRow w g vs t) (ht : t ≠ T) (hk : ∀ g cur t, Blk w g cur t → t ≠ T → w'.heap[g]? = w.heap[g]?) : VRow w' g vs t := by
  obtain ⟨cur, hB, h1, h2⟩ := h
  exact ⟨cur, (hk _ _ _ hB ht).trans hB, h1, h2⟩
theorem plsC_one : ∀ (l : List PP) (y : Value), y ∈ plsC l → y.oneCell' = true
  | [], y, h => by simp [plsC] at h
  | x :: l, y, h => by
    rw [plsC, List.mem_append] at h
    rcases h with h | h
    · simp [plC] at h
      rcases h with rfl | rfl | rfl <;> rfl
    · exact plsC_one l y h
/-- Plays appended to plays of the call's own, as one operation. -/
theorem step_appPs {ops : Array Oper} {o : Oper} {a : Act} {w : World} {K : Act → World → Prop} {Q : Exit → Act → World → Prop} {E : Prop} (hgd : o.guard = none) (s x : Operand)
    (ho : o.op = .call { callee := .builtin .append, args := #[s, x], argTypes := #[40, 40] })
    (base : Nat) (v : Value) (D : List PP) (hs : a.eval s = v) (hown : OwnP w base v D) (ga : Option Addr) (m c : Nat) (ys : List PP) (hx : a.eval x = .slice ga m c) (hm : ys.length = m) {lo hi : Nat} (hr : OPl lo hi w ga ys ∧ 0 < ys.length)
    (hl : D.length + m ≤ 1048576) (hbase : base ≤ w.heap.size)
    (h : ∀ v' w', OwnP w' base v' (D ++ ys) → Below base w w' → (∀ g cur t, Blk w g cur t → t ≠ 94 → w'.heap[g]? = w.heap[g]?) → K (a.put o.dst v') w') :
    if Region.wanted o (yielded ops a.tmps) = true then Oper.wp Try.prog o a w K Q else E := by
  have hw : Region.wanted o (yielded ops a.tmps) = true := by simp [Region.wanted, hgd]
  rw [if_pos hw]
  obtain ⟨gx, rfl, hrow⟩ := hr.1.row hr.2
  obtain ⟨i0, hi0, hz0, hz1, hz2⟩ := info_parts infoPly
  have hown0 : w.ownsRow base 94 3 v D.length (plsC D) := hown
  refine wp_append_own w s x 40 ho base 94 i0 _ 3 72 Try.underlying40 hi0 hz0 hz1 hz2 rfl (by decide) v D.length (plsC D) hs hown0 ⟨gx, 0, none⟩ m c (plsC ys) hx (by rw [plsC_length, hm]) ?_ (plsC_one ys) (by unfold maxLen; omega) (by omega) hbase ?_
  · intro j u hj
    rw [show (⟨gx, 0, none⟩ : Addr).add j = ⟨gx, j, none⟩ from by unfold Addr.add; split <;> simp_all]
    exact hrow.cell j u hj
  · intro v' w' hown' hgrow _
    refine h v' w' ?_ ((Below.refl base w).grown hgrow hbase (fun k hk => (hown0.lt k hk).1)) (fun g cur t hB ht => hgrow.block g hB.lt (fun hh => hown.ne hB ht hh.symm))
    show w'.ownsRow base 94 3 _ (D ++ ys).length (plsC (D ++ ys))
    rw [List.length_append, plsC_append, hm]
    exact hown'
set_option maxRecDepth 100000 in
set_option maxHeartbeats 4000000 in
theorem lplays_any (P : Nat) (c h s : Int) (lo K g k : Nat) (L : List LI) (w : World) (hP : P ≤ 24) (hlo : lo ≤ w.heap.size) (hV : VRow w g (L.flatMap liC) 118) (hA : LisAll lo w.heap.size w L) (h0 : ∀ x ∈ L, 0 < x.2.2.2.length ∧ x.2.2.2.length ≤ 1000) (hL : L.length ≤ 1000) (hU : usedL L ≤ 1000) (hle : ∀ i, usedLTo L i ≤ 1000) (hL0 : 0 < L.length)
    (hFi : ∀ x ∈ L, ∀ y ∈ x.2.2.2, Fine (P : Int) c h s (y.2.2.map (·.2)) ∧ (∀ q ∈ y.2.2, q.2.1.length ≤ K) ∧ 0 < y.2.2.length ∧ y.2.2.Pairwise Dis) (hDL : L.Pairwise DisL) (hN : ∀ i, (((legalL L).take i).flatMap lastP).length ≤ 1000000) :
    Calls Try.prog 115 #[.slice (some ⟨g, 0, none⟩) L.length k] w (FirstGot P c h s lo K (fun xs => xs = (legalL L).flatMap lastP) w) := by
  have hleg := legal_any g k L w hV h0 hL hU hle hL0
  have hmem := fun x => legalL_mem (L := L) (x := x)
  have hlen := legalL_le L
  have hsub : (legalL L).Pairwise DisL := hDL.sublist (legalL_sub L)
  obtain ⟨LG, hLG⟩ : ∃ z, legalL L = z := ⟨_, rfl⟩
  unfold LegGot at hleg
  rw [hLG] at hleg hmem hlen hN hsub ⊢
  have HSUB := Lib.hid hsub
  have HLEG := Lib.hid hleg
  have HMEM := Lib.hid hmem
  have HFI := Lib.hid hFi
  have HN := Lib.hid hN
  have H0 := Lib.hid h0
  have HA := Lib.hid hA
  clear hleg hmem hFi hN h0 hLG hle hV hA hDL hsub
  go_enter Try.func115, Try.ntmps115
  go_wp2_with fail
  refine (HLEG.out).mono ?_
  rintro e w1 ⟨gL, kL, rfl, hgL, hVL, hb1⟩
  clear HLEG
  go_wp2_with fail
  go_loopg [3, 5, 9] LG.length (fun m q3 q5 q9 wr => ∃ (i : Nat) (D : List PP), i ≤ LG.length ∧ m = LG.length - i ∧ q9 = .int .i64 i ∧ D = (LG.take i).flatMap lastP ∧ OwnP wr w1.heap.size q3 D ∧ Below w1.heap.size w1 wr)
  case atStart => exact ⟨0, [], by omega, by omega, rfl, rfl, OwnP.nil _ _, Below.refl _ _⟩
  case round =>
    obtain ⟨i, D, hi, hm, rfl, hD, hO, hbq⟩ := hrel
    by_cases hlt : i < LG.length
    · have hlt' : (i : Int) < (LG.length : Int) := by omega
      have hi0 : (0 : Int) ≤ (i : Int) := by omega
      obtain ⟨x, hx⟩ : ∃ x, LG[i]? = some x := ⟨_, List.getElem?_eq_getElem hlt⟩
      have hxL := (HMEM.out x (List.mem_of_getElem? hx)).1
      obtain ⟨k0, k1⟩ := H0.out x hxL
      obtain ⟨UU, hUU⟩ : ∃ z, x.2.2.2.length - 1 = z := ⟨_, rfl⟩
      have hu1 := fun W => used1_any x W k0 k1
      rw [hUU] at hu1
      obtain ⟨y, hy⟩ : ∃ y, x.2.2.2[UU]? = some y := ⟨_, List.getElem?_eq_getElem (by omega)⟩
      have hlast : lastP x = y.2.2 := by unfold lastP; rw [hUU, hy]; rfl
      have hym := List.mem_of_getElem? hy
      obtain ⟨hyF, hyS, hy0, hyD⟩ := HFI.out x hxL y hym
      have hAx := HA.out x hxL
      have hstep : (LG.take (i + 1)).flatMap lastP = D ++ y.2.2 := by rw [List.take_add_one, hx, List.flatMap_append, ← hD]; simp [hlast]
      have hDl : D.length + y.2.2.length ≤ 1048576 := by
        have := HN.out (i + 1)
        rw [hstep, List.length_append] at this
        omega
      have hyr := (hAx.2.2.2.2 y hym).1
      have hw01 : Below w.heap.size w wr := hb1.trans (hbq.mono hb1.size)
      replace hyr := hyr.below hw01
      have hvx := hAx.2.2.2.1.below hw01
      obtain ⟨c0, c1⟩ := liRow (hVL.below hbq) i x hx
      have HU1 := Lib.hid hu1
      have HY := Lib.hid hy
      have HDL := Lib.hid hDl
      have HST := Lib.hid hstep
      have hUlt : (UU : Int) < (x.2.2.2.length : Int) := by omega
      have hU0 : (0 : Int) ≤ (UU : Int) := by omega
      have hsq := hbq.size
      clear hu1 hy hDl hstep hUU hym hyF hyS hyD hAx k0 k1 hD hlast hx
      have BX := Blk.new wr #[.slice (some ⟨x.1.1, 0, none⟩) x.1.2.length x.1.2.length, .slice (some ⟨x.2.1, 0, none⟩) x.2.2.2.length x.2.2.1] 118
      have hbx : Below wr.heap.size wr (wr.alloc (.cells #[.slice (some ⟨x.1.1, 0, none⟩) x.1.2.length x.1.2.length, .slice (some ⟨x.2.1, 0, none⟩) x.2.2.2.length x.2.2.1] 118)) := (Below.refl _ _).alloc (Nat.le_refl _) _
      obtain ⟨y0, y1, yf, yl⟩ := BX.two
      have hVx := hvx.below hbx
      have hyr2 := hyr.below hbx
      replace hO := hO.alloc (.cells #[.slice (some ⟨x.1.1, 0, none⟩) x.1.2.length x.1.2.length, .slice (some ⟨x.2.1, 0, none⟩) x.2.2.2.length x.2.2.1] 118)
      have hsz := hbx.size
      go_wp2_with fail
      clear y0 y1 yf yl c0 c1 hyr hvx hw01
      obtain ⟨bx, hbxx⟩ : ∃ b, wr.heap.size = b := ⟨_, rfl⟩
      rw [hbxx] at BX
      simp only [hbxx]
      generalize (wr.alloc (.cells #[.slice (some ⟨x.1.1, 0, none⟩) x.1.2.length x.1.2.length, .slice (some ⟨x.2.1, 0, none⟩) x.2.2.2.length x.2.2.1] 118)) = v0 at *
      have hbv : Below v0.heap.size v0 v0.drew := (Below.refl _ _).drew
      replace BX := BX.drew
      replace hVx := hVx.below hbv
      replace hO := hO.drew
      obtain ⟨ya, hya⟩ : ∃ a, y.1 = a := ⟨_, rfl⟩
      rw [hya] at hyr2
      replace hyr2 := hyr2.below hbv
      have hd_ : v0.drew.heap.size = v0.heap.size := rfl
      have hy2V : VRow v0.drew x.2.1 (x.2.2.2.flatMap lvC) 40 := hVx
      have hcy := lvRow hVx UU y HY.out
      rw [show lvV y = .slice ya y.2.2.length y.2.1 by rw [← hya]] at hcy
      have HYC := Lib.hid (fun W (q : VRow W x.2.1 (x.2.2.2.flatMap lvC) 40) => show W.cell? ⟨x.2.1, UU, none⟩ = some (.slice ya y.2.2.length y.2.1) from by have := lvRow q UU y HY.out; rw [show lvV y = .slice ya y.2.2.length y.2.1 by rw [← hya]] at this; exact this)
      clear hcy hy2V
      refine wp_region_held_drew (S := fun w' => w'.cell? ⟨bx, 0, none⟩ = some (.slice (some ⟨x.1.1, 0, none⟩) x.1.2.length x.1.2.length) ∧ w'.cell? ⟨bx, 1, none⟩ = some (.slice (some ⟨x.2.1, 0, none⟩) x.2.2.2.length x.2.2.1) ∧ w'.cell? ⟨x.2.1, UU, none⟩ = some (.slice ya y.2.2.length y.2.1)) (by kernel_rfl) ⟨BX.two.1, BX.two.2.1, HYC.out _ hVx⟩ (fun hHeld => ?_)
      refine wpAnyH_take (i := 0) (oi := { dst := some 13, op := _, type := _, pos := _, after := _, guard := _ }) (v := ?_) rfl (by kernel_rfl) (by kernel_rfl) (by kernel_rfl) (fun _ _ _ h => h) (Or.inl ⟨by rfl, ?_⟩) (by assumption) ?_
      rotate_left
      · intro w hSw
        (try dsimp only at hSw)
        go_simp
        (try (with_reducible rfl))
      try simp only [Act.put, List.setIfInBounds_toArray, List.set_cons_zero, List.set_cons_succ]
      refine wpAnyH_take (i := 1) (oi := { dst := some 14, op := _, type := _, pos := _, after := _, guard := _ }) (v := ?_) rfl (by kernel_rfl) (by kernel_rfl) (by kernel_rfl) (fun _ _ _ h => h) (Or.inl ⟨by rfl, ?_⟩) (by assumption) ?_
      rotate_left
      · intro w hSw
        (try dsimp only at hSw)
        go_simp
        (try (with_reducible rfl))
      try simp only [Act.put, List.setIfInBounds_toArray, List.set_cons_zero, List.set_cons_succ]
      refine wpAnyH_take (i := 2) (oi := { dst := some 15, op := _, type := _, pos := _, after := _, guard := _ }) (v := ?_) rfl (by kernel_rfl) (by kernel_rfl) (by kernel_rfl) (fun _ _ _ h => h) (Or.inl ⟨by rfl, ?_⟩) (by assumption) ?_
      rotate_left
      · intro w hSw
        (try dsimp only at hSw)
        go_simp
        (try (with_reducible rfl))
      try simp only [Act.put, List.setIfInBounds_toArray, List.set_cons_zero, List.set_cons_succ]
      refine wpAnyH_take (i := 3) (oi := { dst := some 16, op := _, type := _, pos := _, after := _, guard := _ }) (v := ?_) rfl (by kernel_rfl) (by kernel_rfl) (by kernel_rfl) (fun _ _ _ h => h) (Or.inl ⟨by rfl, ?_⟩) (by assumption) ?_
      rotate_left
      · intro w hSw
        (try dsimp only at hSw)
        go_simp
        (try (with_reducible rfl))
      try simp only [Act.put, List.setIfInBounds_toArray, List.set_cons_zero, List.set_cons_succ]
      refine wpAnyH_ready (rs := [4]) (by kernel_rfl) (by simp) ?_
      refine AllReadyH.cons (o := { dst := some 17, op := _, type := _, pos := _, after := _, guard := _ }) rfl (fun K hK => ?_) AllReadyH.nil
      go_simp
      refine (HU1.out _).mono ?_
      rintro e w5 ⟨rfl, hb5⟩
      replace BX := BX.below hb5
      replace hVx := hVx.below hb5
      replace hO := hO.below hb5
      replace hyr2 := hyr2.below hb5
      have hz5 := hb5.size
      (try go_wp2_with fail)
      refine hK.out _ _ ⟨BX.two.1, BX.two.2.1, HYC.out _ hVx⟩ (fun hHeld => ?_)
      clear hK K
      try simp only [Act.put, List.setIfInBounds_toArray, List.set_cons_zero, List.set_cons_succ]
      refine wpAnyH_take (i := 5) (oi := { dst := some 18, op := _, type := _, pos := _, after := _, guard := _ }) (v := ?_) rfl (by kernel_rfl) (by kernel_rfl) (by kernel_rfl) (fun _ _ _ h => h) (Or.inl ⟨by rfl, ?_⟩) (by assumption) ?_
      rotate_left
      · intro w hSw
        (try dsimp only at hSw)
        go_simp
        (try (with_reducible rfl))
      try simp only [Act.put, List.setIfInBounds_toArray, List.set_cons_zero, List.set_cons_succ]
      refine wpAnyH_take (i := 6) (oi := { dst := some 19, op := _, type := _, pos := _, after := _, guard := _ }) (v := ?_) rfl (by kernel_rfl) (by kernel_rfl) (by kernel_rfl) (fun _ _ _ h => h) (Or.inl ⟨by rfl, ?_⟩) (by assumption) ?_
      rotate_left
      · intro w hSw
        (try dsimp only at hSw)
        go_simp
        (try (with_reducible rfl))
      try simp only [Act.put, List.setIfInBounds_toArray, List.set_cons_zero, List.set_cons_succ]
      refine wpAnyH_ready (rs := [7]) (by kernel_rfl) (by simp) ?_
      refine AllReadyH.cons (o := { dst := some 20, op := _, type := _, pos := _, after := _, guard := _ }) rfl (fun K hK => ?_) AllReadyH.nil
      refine step_appPs rfl (.tmp 13) (.tmp 19) rfl w1.heap.size _ D rfl hO ya y.2.2.length y.2.1 y.2.2 rfl rfl ⟨hyr2, hy0⟩ HDL.out (by omega) ?_
      intro v7 w7 hO7 hb7 hf7
      have BX7 : Blk w7 bx #[.slice (some ⟨x.1.1, 0, none⟩) x.1.2.length x.1.2.length, .slice (some ⟨x.2.1, 0, none⟩) x.2.2.2.length x.2.2.1] 118 := (hf7 _ _ _ BX (by decide)).trans BX
      have hVx7 : VRow w7 x.2.1 (x.2.2.2.flatMap lvC) 40 := hVx.keepT (by decide) hf7
      refine hK.out _ _ ⟨BX7.two.1, BX7.two.2.1, HYC.out _ hVx7⟩ (fun hHeld => ?_)
      clear hK K
      try simp only [Act.put, List.setIfInBounds_toArray, List.set_cons_zero, List.set_cons_succ]
      refine wpAnyH_take (i := 8) (oi := { dst := some 3, op := _, type := _, pos := _, after := _, guard := _ }) (v := ?_) rfl (by kernel_rfl) (by kernel_rfl) (by kernel_rfl) (fun _ _ _ h => h) (Or.inl ⟨by rfl, ?_⟩) (by assumption) ?_
      rotate_left
      · intro w hSw
        (try dsimp only at hSw)
        go_simp
        (try (with_reducible rfl))
      try simp only [Act.put, List.setIfInBounds_toArray, List.set_cons_zero, List.set_cons_succ]
      refine wpAnyH_done (by kernel_rfl) ?_ _
      clear hHeld
      go_wp2
      go_roundg (LG.length - (i + 1))
      case measure => omega
      case rel => exact ⟨i + 1, D ++ y.2.2, by omega, rfl, by go_num, HST.out.symm, hO7, (chain (chain (chain hbq hbx) hbv) hb5).trans hb7⟩
    · obtain rfl : i = LG.length := by omega
      rw [List.take_length] at hD
      have hDN : D.length ≤ 1000000 := by
        have := HN.out LG.length
        rw [List.take_length, ← hD] at this
        exact this
      have hw01 : Below w.heap.size w wr := hb1.trans (hbq.mono hb1.size)
      have hmemD : ∀ q ∈ D, ∃ x ∈ L, ∃ y ∈ x.2.2.2, q ∈ y.2.2 := fun q hq => by
        rw [hD] at hq
        obtain ⟨x, hx, hq⟩ := List.mem_flatMap.1 hq
        obtain ⟨y, hy, hq⟩ := lastP_mem hq
        exact ⟨x, (HMEM.out x hx).1, y, hy, hq⟩
      have hPA : PAll lo w.heap.size wr D := fun q hq => by
        obtain ⟨x, hx, y, hy, hq⟩ := hmemD q hq
        exact (((HA.out x hx).2.2.2.2 y hy).2 q hq).below hw01
      have hFD : Fine (P : Int) c h s (D.map (·.2)) := fun q hq => by
        obtain ⟨z, hz, rfl⟩ := List.mem_map.1 hq
        obtain ⟨x, hx, y, hy, hz⟩ := hmemD z hz
        exact (HFI.out x hx y hy).1 z.2 (List.mem_map.2 ⟨z, hz, rfl⟩)
      have hKD : ∀ q ∈ D, q.2.1.length ≤ K := fun q hq => by
        obtain ⟨x, hx, y, hy, hq⟩ := hmemD q hq
        exact (HFI.out x hx y hy).2.1 q hq
      have hDD : D.Pairwise Dis := by
        rw [hD, List.pairwise_flatMap]
        refine ⟨fun x hx => ?_, HSUB.out.imp_of_mem (fun {x y} hx hy hxy q hq q' hq' => ?_)⟩
        · unfold lastP
          cases e : x.2.2.2[x.2.2.2.length - 1]? with
          | none => exact List.Pairwise.nil
          | some y => exact (HFI.out x (HMEM.out x hx).1 y (List.mem_of_getElem? e)).2.2.2
        · obtain ⟨p, hp, hq⟩ := lastP_mem hq
          obtain ⟨p', hp', hq'⟩ := lastP_mem hq'
          exact hxy p hp q hq p' hp' q' hq'
      have HDD := Lib.hid hDD
      clear hDD
      obtain ⟨a, kk, rfl⟩ := hO.form
      have hOP := hO.opl
      have HD := Lib.hid hD
      have HFD := Lib.hid hFD
      have HKD := Lib.hid hKD
      have hsq := hbq.size
      have hsw := hw01.size
      clear hD hFD hKD hmemD hO
      go_wp2_with fail
      refine (values_any a D.length kk wr).mono ?_
      rintro e wA ⟨rfl, B1, hbA, hzA⟩
      have hfa := first_any P c h s wA.heap.size lo K D.length 173 _ _ wA hP hDN (Nat.le_refl _) values1_enter (values1_good P c h s wr.heap.size a kk lo wA.heap.size K D wA B1 ((hOP.below hbA).mono (by have := hb1.size; omega) hbA.size) ((hPA.below hbA).mono (Nat.le_refl _) (by omega)) (Nat.le_refl _) HFD.out HKD.out hDN HDD.out)
      have HFA := Lib.hid hfa
      clear hfa B1
      go_wp2_with fail
      refine (HFA.out).mono ?_
      rintro e wB ⟨b, kb, LL, zs, rfl, hzs, hLz, hOPL, hPAL, hLq, hDs, hbB⟩
      clear HFA
      have hsA := hbA.size
      have hbW : Below w.heap.size w wB := chain (chain hw01 hbA) hbB
      go_wp2
      go_ret
      exact ⟨b, kb, LL, zs, rfl, by rw [hzs, HD.out], hLz, hOPL.mono (by omega) (Nat.le_refl _), hPAL, hLq, hDs, hbW⟩
end Go.Proofs.Ytokjkcnjmfbfiaa
