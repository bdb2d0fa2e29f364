/- Texts of a proof, laid together: Contracts of the library's searches in slices of plays, of lists of plays and of listings; of the program's test whether a listing is crowded. Contract of the program's plays of listings. Contract of the program's plays of a roll, with the code of a list that is too long; the mathematics of both. Contract of the program on the numbers of plays of all rolls. -/
import Derived.Test.YtknkbhmgdddjkaaGreatY26
import Derived.Test.YtknkbhmgdddjkaaGreatY17
import Derived.Test.YtknkbhmgdddjkaaGreatY15
import Derived.Test.YtknkbhmgdddjkaaGreatY20
namespace Go.Proofs.YtknkbhmgdddjkaaGreat
open Go.ChangeShapes Go.WideShapes Go.ChangeAt Go.RowKit
set_option linter.unusedVariables false
set_option linter.unusedSimpArgs false
set_option maxRecDepth 4000

/-- The first place at which a predicate holds, or -1. -/
def firstE {α : Type} (pr : α → Bool) : List α → Int
  | [] => -1
  | s :: l => if pr s = true then 0 else if firstE pr l < 0 then -1 else firstE pr l + 1
theorem firstE_low {α : Type} (pr : α → Bool) : ∀ l, -1 ≤ firstE pr l ∧ firstE pr l < l.length
  | [] => by simp [firstE]
  | s :: l => by
    have := firstE_low pr l
    rw [firstE, List.length_cons]
    split
    · omega
    · split <;> omega
theorem firstE_at {α : Type} (pr : α → Bool) : ∀ (l : List α) (k : Nat) (t : α), (∀ j s, j < k → l[j]? = some s → pr s = false) → l[k]? = some t → pr t = true → firstE pr l = (k : Int)
  | [], k, t, _, h, _ => by simp at h
  | s :: l, 0, t, _, h, hp => by
    simp at h
    subst h
    rw [firstE, if_pos hp]
    rfl
  | s :: l, k + 1, t, ha, h, hp => by
    have h0 := ha 0 s (by omega) (by simp)
    have ih := firstE_at pr l k t (fun j x hj hx => ha (j + 1) x (by omega) (by simpa using hx)) (by simpa using h) hp
    rw [firstE, if_neg (by simp [h0]), ih, if_neg (by omega)]
    omega
theorem firstE_none {α : Type} (pr : α → Bool) : ∀ (l : List α), (∀ j s, j < l.length → l[j]? = some s → pr s = false) → firstE pr l = -1
  | [], _ => rfl
  | s :: l, ha => by
    have h0 := ha 0 s (by simp) (by simp)
    have ih := firstE_none pr l (fun j x hj hx => ha (j + 1) x (by simpa using hj) (by simpa using hx))
    rw [firstE, if_neg (by simp [h0]), ih]
    rfl
theorem firstE_any {α : Type} (pr : α → Bool) : ∀ l, decide (0 ≤ firstE pr l) = l.any pr
  | [] => rfl
  | s :: l => by
    have ih := firstE_any pr l
    have hl := (firstE_low pr l).1
    rw [firstE, List.any_cons]
    by_cases h : pr s = true
    · rw [if_pos h, h]
      rfl
    · rw [if_neg h, ← ih, show pr s = false by simpa using h, Bool.false_or]
      by_cases h2 : firstE pr l < 0
      · rw [if_pos h2, decide_eq_false (by omega), decide_eq_false (by omega)]
      · rw [if_neg h2, decide_eq_true (by omega), decide_eq_true (by omega)]
theorem lvC_at : ∀ (l : List LV) (k : Nat) (s : LV), l[k]? = some s → (l.flatMap lvC)[k]? = some (lvV s)
  | [], k, s, h => by simp at h
  | x :: l, 0, s, h => by
    simp at h
    subst h
    rfl
  | x :: l, k + 1, s, h => by
    rw [List.flatMap_cons]
    show ((lvV x) :: l.flatMap lvC)[k + 1]? = _
    rw [List.getElem?_cons_succ]
    exact lvC_at l k s (by simpa using h)
theorem lvRow {w : World} {g : Nat} {l : List LV} (h : VRow w g (l.flatMap lvC) 50) (k : Nat) (s : LV) (hk : l[k]? = some s) : w.cell? ⟨g, k, none⟩ = some (lvV s) := h.cell _ _ (lvC_at l k s hk)
set_option maxRecDepth 8000 in
set_option maxHeartbeats 2000000 in
theorem indexL_any (g : Nat) (cap : Nat) (l : List LV) (pf : Nat) (lb : Array Value) (pr : LV → Bool) (w : World) (hle : l.length ≤ 1000) (h1 : VRow w g (l.flatMap lvC) 50) (he : ∀ (args : Array Value) (w2 : World), (callFunc pf args).run Tryz.prog w2 = .ok (.enter pf args) w2) (hp : ∀ W, Below w.heap.size w W → ∀ s ∈ l, Calls Tryz.prog pf (#[lvV s] ++ lb) W fun e w2 => e = .returned (.bool (pr s)) ∧ Below W.heap.size W w2) :
    Calls Tryz.prog 79 #[.slice (some ⟨g, 0, none⟩) l.length cap, .func (.func pf) #[] lb] w fun e w' => e = .returned (.int .i64 (firstE pr l)) ∧ Below w.heap.size w w' := by
  have HP := Lib.hid hp
  have h2 := firstE_at pr l
  have h3 := firstE_none pr l
  obtain ⟨R, hR⟩ : ∃ R, firstE pr l = R := ⟨_, rfl⟩
  rw [hR] at h2 h3 ⊢
  have H2 := Lib.hid h2
  have H3 := Lib.hid h3
  clear hR h2 h3 hp
  go_enter Tryz.func79, Tryz.ntmps79
  go_wp2
  go_loopg [8] l.length (fun m i wr => ∃ k : Nat, k ≤ l.length ∧ m = l.length - k ∧ i = .int .i64 k ∧ (∀ j s, j < k → l[j]? = some s → pr s = false) ∧ Below w.heap.size w wr)
  case atStart => exact ⟨0, by omega, by omega, rfl, fun j s hj => by omega, Below.refl _ _⟩
  case round =>
    obtain ⟨k, hk, hm, rfl, hall, hbel⟩ := hrel
    have HA := Lib.hid hall
    clear hall
    by_cases hlt : k < l.length
    · have hlt' : (k : Int) < (l.length : Int) := by omega
      have hk0 : (0 : Int) ≤ (k : Int) := by omega
      obtain ⟨t, ht⟩ : ∃ t, l[k]? = some t := ⟨_, List.getElem?_eq_getElem hlt⟩
      have u0 := lvRow (h1.below hbel) k t ht
      have hpt := HP.out wr hbel t (List.mem_of_getElem? ht)
      have HT := Lib.hid ht
      clear h1 ht
      cases hpr : pr t with
      | true =>
        rw [hpr] at hpt
        have hRk : R = (k : Int) := H2.out k _ HA.out HT.out hpr
        subst hRk
        have HC := Lib.hid hpt
        clear hpt hpr
        go_wp2_with (go_at_fn pf; refine HC.out.mono ?_; rintro e w5 ⟨rfl, hb5⟩)
        go_ret
        exact ⟨rfl, chain hbel hb5⟩
      | false =>
        rw [hpr] at hpt
        have HC := Lib.hid hpt
        have HPR := Lib.hid hpr
        clear hpt hpr
        go_wp2_with (go_at_fn pf; refine HC.out.mono ?_; rintro e w5 ⟨rfl, hb5⟩)
        go_roundg (l.length - (k + 1))
        case measure => omega
        case rel =>
          refine ⟨k + 1, by omega, rfl, by go_num, fun j s hj hs => ?_, chain hbel hb5⟩
          by_cases hjk : j = k
          · subst hjk
            rw [HT.out] at hs
            simp only [Option.some.injEq] at hs
            rw [← hs]
            exact HPR.out
          · exact HA.out j s (by omega) hs
    · obtain rfl : k = l.length := by omega
      have hRk : R = -1 := H3.out HA.out
      subst hRk
      go_wp2
      go_ret
      exact ⟨rfl, hbel⟩
set_option maxHeartbeats 1000000 in
theorem containsL_any (g : Nat) (cap : Nat) (l : List LV) (pf : Nat) (lb : Array Value) (pr : LV → Bool) (w : World) (hle : l.length ≤ 1000) (h1 : VRow w g (l.flatMap lvC) 50) (he : ∀ (args : Array Value) (w2 : World), (callFunc pf args).run Tryz.prog w2 = .ok (.enter pf args) w2) (hp : ∀ W, Below w.heap.size w W → ∀ s ∈ l, Calls Tryz.prog pf (#[lvV s] ++ lb) W fun e w2 => e = .returned (.bool (pr s)) ∧ Below W.heap.size W w2) :
    Calls Tryz.prog 63 #[.slice (some ⟨g, 0, none⟩) l.length cap, .func (.func pf) #[] lb] w fun e w' => e = .returned (.bool (l.any pr)) ∧ Below w.heap.size w w' := by
  have hi0 := indexL_any g cap l pf lb pr w hle h1 he hp
  have hq := firstE_any pr l
  obtain ⟨R, hR⟩ : ∃ R, firstE pr l = R := ⟨_, rfl⟩
  rw [hR] at hi0 hq
  rw [← hq]
  have HI := Lib.hid hi0
  clear hi0 hR hq he hp h1
  go_enter Tryz.func63, Tryz.ntmps63
  go_wp2_with (go_at_call 79; refine HI.out.mono ?_; rintro e w5 ⟨rfl, hb5⟩)
  go_ret
  exact ⟨rfl, hb5⟩
set_option maxRecDepth 8000 in
set_option maxHeartbeats 2000000 in
theorem indexI_any (g : Nat) (cap : Nat) (l : List LI) (pf : Nat) (lb : Array Value) (pr : LI → Bool) (w : World) (hle : l.length ≤ 1000) (h1 : VRow w g (l.flatMap liC) 81) (he : ∀ (args : Array Value) (w2 : World), (callFunc pf args).run Tryz.prog w2 = .ok (.enter pf args) w2) (hp : ∀ W, Below w.heap.size w W → ∀ s ∈ l, Calls Tryz.prog pf (#[liV s] ++ lb) W fun e w2 => e = .returned (.bool (pr s)) ∧ Below W.heap.size W w2) :
    Calls Tryz.prog 62 #[.slice (some ⟨g, 0, none⟩) l.length cap, .func (.func pf) #[] lb] w fun e w' => e = .returned (.int .i64 (firstE pr l)) ∧ Below w.heap.size w w' := by
  have HP := Lib.hid hp
  have h2 := firstE_at pr l
  have h3 := firstE_none pr l
  obtain ⟨R, hR⟩ : ∃ R, firstE pr l = R := ⟨_, rfl⟩
  rw [hR] at h2 h3 ⊢
  have H2 := Lib.hid h2
  have H3 := Lib.hid h3
  clear hR h2 h3 hp
  go_enter Tryz.func62, Tryz.ntmps62
  go_wp2
  go_loopg [8] l.length (fun m i wr => ∃ k : Nat, k ≤ l.length ∧ m = l.length - k ∧ i = .int .i64 k ∧ (∀ j s, j < k → l[j]? = some s → pr s = false) ∧ Below w.heap.size w wr)
  case atStart => exact ⟨0, by omega, by omega, rfl, fun j s hj => by omega, Below.refl _ _⟩
  case round =>
    obtain ⟨k, hk, hm, rfl, hall, hbel⟩ := hrel
    have HA := Lib.hid hall
    clear hall
    by_cases hlt : k < l.length
    · have hlt' : (k : Int) < (l.length : Int) := by omega
      have hk0 : (0 : Int) ≤ (k : Int) := by omega
      obtain ⟨t, ht⟩ : ∃ t, l[k]? = some t := ⟨_, List.getElem?_eq_getElem hlt⟩
      obtain ⟨u0, u1⟩ := liRow (h1.below hbel) k t ht
      have hpt := HP.out wr hbel t (List.mem_of_getElem? ht)
      have HT := Lib.hid ht
      clear h1 ht
      cases hpr : pr t with
      | true =>
        rw [hpr] at hpt
        have hRk : R = (k : Int) := H2.out k _ HA.out HT.out hpr
        subst hRk
        have HC := Lib.hid hpt
        clear hpt hpr
        go_wp2_with (go_at_fn pf; refine HC.out.mono ?_; rintro e w5 ⟨rfl, hb5⟩)
        go_ret
        exact ⟨rfl, chain hbel hb5⟩
      | false =>
        rw [hpr] at hpt
        have HC := Lib.hid hpt
        have HPR := Lib.hid hpr
        clear hpt hpr
        go_wp2_with (go_at_fn pf; refine HC.out.mono ?_; rintro e w5 ⟨rfl, hb5⟩)
        go_roundg (l.length - (k + 1))
        case measure => omega
        case rel =>
          refine ⟨k + 1, by omega, rfl, by go_num, fun j s hj hs => ?_, chain hbel hb5⟩
          by_cases hjk : j = k
          · subst hjk
            rw [HT.out] at hs
            simp only [Option.some.injEq] at hs
            rw [← hs]
            exact HPR.out
          · exact HA.out j s (by omega) hs
    · obtain rfl : k = l.length := by omega
      have hRk : R = -1 := H3.out HA.out
      subst hRk
      go_wp2
      go_ret
      exact ⟨rfl, hbel⟩
set_option maxHeartbeats 1000000 in
theorem containsI_any (g : Nat) (cap : Nat) (l : List LI) (pf : Nat) (lb : Array Value) (pr : LI → Bool) (w : World) (hle : l.length ≤ 1000) (h1 : VRow w g (l.flatMap liC) 81) (he : ∀ (args : Array Value) (w2 : World), (callFunc pf args).run Tryz.prog w2 = .ok (.enter pf args) w2) (hp : ∀ W, Below w.heap.size w W → ∀ s ∈ l, Calls Tryz.prog pf (#[liV s] ++ lb) W fun e w2 => e = .returned (.bool (pr s)) ∧ Below W.heap.size W w2) :
    Calls Tryz.prog 41 #[.slice (some ⟨g, 0, none⟩) l.length cap, .func (.func pf) #[] lb] w fun e w' => e = .returned (.bool (l.any pr)) ∧ Below w.heap.size w w' := by
  have hi0 := indexI_any g cap l pf lb pr w hle h1 he hp
  have hq := firstE_any pr l
  obtain ⟨R, hR⟩ : ∃ R, firstE pr l = R := ⟨_, rfl⟩
  rw [hR] at hi0 hq
  rw [← hq]
  have HI := Lib.hid hi0
  clear hi0 hR hq he hp h1
  go_enter Tryz.func41, Tryz.ntmps41
  go_wp2_with (go_at_call 62; refine HI.out.mono ?_; rintro e w5 ⟨rfl, hb5⟩)
  go_ret
  exact ⟨rfl, hb5⟩
theorem crowded1_any (a : Option Addr) (n k : Nat) (w : World) (hn : n ≤ 1000000) :
    Calls Tryz.prog 64 #[.slice a n k] w fun e w' => e = .returned (.bool (decide (3000 < n))) ∧ Below w.heap.size w w' := by
  have e1 : decide (3000 < n) = decide ((3000 : Int) < (n : Int)) := by rw [Bool.eq_iff_iff, decide_eq_true_eq, decide_eq_true_eq]; omega
  rw [e1]
  clear e1
  go_enter Tryz.func64, Tryz.ntmps64
  go_wp2
  go_ret
  exact ⟨rfl, Below.refl _ _⟩
theorem crowded1_enter (args : Array Value) (w : World) : (callFunc 64 args).run Tryz.prog w = .ok (.enter 64 args) w := by
  obtain ⟨fn, hf, hn, cc, hc⟩ : ∃ fn, Tryz.prog.funcs[(64 : FuncId)]? = some fn ∧ (fn.name == "runtime.NumGoroutine") = false ∧ ∃ cc, fn.body = some cc := ⟨_, Tryz.func64, by kernel_rfl, _, rfl⟩
  have h1 : ¬ fn.name = "runtime.NumGoroutine" := by simpa using hn
  simp [callFunc, hf, h1, hc]
/-- Has a listing too long a list? -/
def crowdB (x : LI) : Bool := x.2.2.2.any (fun y => decide (3000 < y.2.2.length))
set_option maxRecDepth 8000 in
theorem isCrowded_any (x : LI) (w : World) (hV : VRow w x.2.1 (x.2.2.2.flatMap lvC) 50) (hl : x.2.2.2.length ≤ 1000) (hm : ∀ y ∈ x.2.2.2, y.2.2.length ≤ 1000000) :
    Calls Tryz.prog 42 #[liV x] w fun e w' => e = .returned (.bool (crowdB x)) ∧ Below w.heap.size w w' := by
  obtain ⟨⟨go, o⟩, gL, k, ls⟩ := x
  dsimp only at hV hl hm ⊢
  have BX := Blk.new w #[.slice (some ⟨go, 0, none⟩) o.length o.length, .slice (some ⟨gL, 0, none⟩) ls.length k] 81
  have hb : Below w.heap.size w (w.alloc (.cells #[.slice (some ⟨go, 0, none⟩) o.length o.length, .slice (some ⟨gL, 0, none⟩) ls.length k] 81)) := (Below.refl _ _).alloc (Nat.le_refl _) _
  have hc := fun W (hW : Below w.heap.size w W) => containsL_any gL k ls 64 #[] (fun y => decide (3000 < y.2.2.length)) W hl (hV.below hW) crowded1_enter (fun W' _ y hy => crowded1_any y.1 y.2.2.length y.2.1 W' (hm y hy))
  have HC := Lib.hid hc
  clear hc hV hm
  obtain ⟨x0, x1, xf, xl⟩ := BX.two
  obtain ⟨R, hR⟩ : ∃ R, crowdB ((go, o), gL, k, ls) = R := ⟨_, rfl⟩
  have HR := Lib.hid (show ls.any (fun y => decide (3000 < y.2.2.length)) = R from hR)
  rw [hR]
  clear hR
  go_enter Tryz.func42, Tryz.ntmps42
  go_wp2_with (go_at_call 63; refine (HC.out _ hb).mono ?_; rw [HR.out]; rintro e w5 ⟨rfl, hb5⟩)
  go_ret
  exact ⟨rfl, chain hb hb5⟩
theorem isCrowded_enter (args : Array Value) (w : World) : (callFunc 42 args).run Tryz.prog w = .ok (.enter 42 args) w := by
  obtain ⟨fn, hf, hn, cc, hc⟩ : ∃ fn, Tryz.prog.funcs[(42 : FuncId)]? = some fn ∧ (fn.name == "runtime.NumGoroutine") = false ∧ ∃ cc, fn.body = some cc := ⟨_, Tryz.func42, by kernel_rfl, _, rfl⟩
  have h1 : ¬ fn.name = "runtime.NumGoroutine" := by simpa using hn
  simp [callFunc, hf, h1, hc]
end Go.Proofs.YtknkbhmgdddjkaaGreat
namespace Go.Proofs.YtknkbhmgdddjkaaGreat
open Go.ChangeShapes Go.WideShapes Go.ChangeAt Go.RowKit
set_option linter.unusedVariables false
set_option linter.unusedSimpArgs false
set_option maxRecDepth 4000

/-- The plays of a listing's longest list. -/
def lastP (x : LI) : List PP := ((x.2.2.2[x.2.2.2.length - 1]?).map (fun y => y.2.2)).getD []
theorem legalL_sub (L : List LI) : (legalL L).Sublist L := by
  unfold legalL keepL
  split
  · exact (List.take_sublist _ _).trans List.filter_sublist
  · exact List.filter_sublist
theorem lastP_mem {x : LI} {q : PP} (h : q ∈ lastP x) : ∃ y ∈ x.2.2.2, q ∈ y.2.2 := by
  unfold lastP at h
  cases e : x.2.2.2[x.2.2.2.length - 1]? with
  | none => rw [e] at h; simp at h
  | some y => rw [e] at h; exact ⟨y, List.mem_of_getElem? e, h⟩
theorem VRow.keepT {w w' : World} {g : Nat} {vs : List Value} {t T : TypeId} (h : VRow w g vs t) (ht : t ≠ T) (hk : ∀ g cur t, Blk w g cur t → t ≠ T → w'.heap[g]? = w.heap[g]?) : VRow w' g vs t := by
  obtain ⟨cur, hB, h1, h2⟩ := h
  exact ⟨cur, (hk _ _ _ hB ht).trans hB, h1, h2⟩
theorem plsC_one : ∀ (l : List PP) (y : Value), y ∈ plsC l → y.oneCell' = true
  | [], y, h => by simp [plsC] at h
  | x :: l, y, h => by
    rw [plsC, List.mem_append] at h
    rcases h with h | h
    · simp [plC] at h
      rcases h with rfl | rfl | rfl <;> rfl
    · exact plsC_one l y h
/-- Plays appended to plays of the call's own, as one operation. -/
theorem step_appPs {ops : Array Oper} {o : Oper} {a : Act} {w : World} {K : Act → World → Prop} {Q : Exit → Act → World → Prop} {E : Prop} (hgd : o.guard = none) (s x : Operand)
    (ho : o.op = .call { callee := .builtin .append, args := #[s, x], argTypes := #[50, 50] })
    (base : Nat) (v : Value) (D : List PP) (hs : a.eval s = v) (hown : OwnP w base v D) (ga : Option Addr) (m c : Nat) (ys : List PP) (hx : a.eval x = .slice ga m c) (hm : ys.length = m) {lo hi : Nat} (hr : OPl lo hi w ga ys ∧ 0 < ys.length)
    (hl : D.length + m ≤ 1048576) (hbase : base ≤ w.heap.size)
    (h : ∀ v' w', OwnP w' base v' (D ++ ys) → Below base w w' → (∀ g cur t, Blk w g cur t → t ≠ 93 → w'.heap[g]? = w.heap[g]?) → K (a.put o.dst v') w') :
    if Region.wanted o (yielded ops a.tmps) = true then Oper.wp Tryz.prog o a w K Q else E := by
  have hw : Region.wanted o (yielded ops a.tmps) = true := by simp [Region.wanted, hgd]
  rw [if_pos hw]
  obtain ⟨gx, rfl, hrow⟩ := hr.1.row hr.2
  obtain ⟨i0, hi0, hz0, hz1, hz2⟩ := info_parts infoPly
  have hown0 : w.ownsRow base 93 3 v D.length (plsC D) := hown
  refine wp_append_own w s x 50 ho base 93 i0 _ 3 72 Tryz.underlying50 hi0 hz0 hz1 hz2 rfl (by decide) v D.length (plsC D) hs hown0 ⟨gx, 0, none⟩ m c (plsC ys) hx (by rw [plsC_length, hm]) ?_ (plsC_one ys) (by unfold maxLen; omega) (by omega) hbase ?_
  · intro j u hj
    rw [show (⟨gx, 0, none⟩ : Addr).add j = ⟨gx, j, none⟩ from by unfold Addr.add; split <;> simp_all]
    exact hrow.cell j u hj
  · intro v' w' hown' hgrow _
    refine h v' w' ?_ ((Below.refl base w).grown hgrow hbase (fun k hk => (hown0.lt k hk).1)) (fun g cur t hB ht => hgrow.block g hB.lt (fun hh => hown.ne hB ht hh.symm))
    show w'.ownsRow base 93 3 _ (D ++ ys).length (plsC (D ++ ys))
    rw [List.length_append, plsC_append, hm]
    exact hown'
set_option maxRecDepth 100000 in
set_option maxHeartbeats 4000000 in
theorem lplays_any (P : Nat) (c h s : Int) (lo K g k : Nat) (L : List LI) (w : World) (hP : P ≤ 24) (hlo : lo ≤ w.heap.size) (hV : VRow w g (L.flatMap liC) 81) (hA : LisAll lo w.heap.size w L) (h0 : ∀ x ∈ L, 0 < x.2.2.2.length ∧ x.2.2.2.length ≤ 1000) (hL : L.length ≤ 1000) (hU : usedL L ≤ 1000) (hle : ∀ i, usedLTo L i ≤ 1000) (hL0 : 0 < L.length)
    (hFi : ∀ x ∈ L, ∀ y ∈ x.2.2.2, Fine (P : Int) c h s (y.2.2.map (·.2)) ∧ (∀ q ∈ y.2.2, q.2.1.length ≤ K) ∧ 0 < y.2.2.length ∧ y.2.2.Pairwise Dis) (hDL : L.Pairwise DisL) (hN : ∀ i, (((legalL L).take i).flatMap lastP).length ≤ 1000000) :
    Calls Tryz.prog 43 #[.slice (some ⟨g, 0, none⟩) L.length k] w (FirstGot P c h s lo K (fun xs => xs = (legalL L).flatMap lastP) w) := by
  have hleg := legal_any g k L w hV h0 hL hU hle hL0
  have hmem := fun x => legalL_mem (L := L) (x := x)
  have hlen := legalL_le L
  have hsub : (legalL L).Pairwise DisL := hDL.sublist (legalL_sub L)
  obtain ⟨LG, hLG⟩ : ∃ z, legalL L = z := ⟨_, rfl⟩
  unfold LegGot at hleg
  rw [hLG] at hleg hmem hlen hN hsub ⊢
  have HSUB := Lib.hid hsub
  have HLEG := Lib.hid hleg
  have HMEM := Lib.hid hmem
  have HFI := Lib.hid hFi
  have HN := Lib.hid hN
  have H0 := Lib.hid h0
  have HA := Lib.hid hA
  clear hleg hmem hFi hN h0 hLG hle hV hA hDL hsub
  go_enter Tryz.func43, Tryz.ntmps43
  go_wp2_with fail
  refine (HLEG.out).mono ?_
  rintro e w1 ⟨gL, kL, rfl, hgL, hVL, hb1⟩
  clear HLEG
  go_wp2_with fail
  go_loopg [3, 5, 9] LG.length (fun m q3 q5 q9 wr => ∃ (i : Nat) (D : List PP), i ≤ LG.length ∧ m = LG.length - i ∧ q9 = .int .i64 i ∧ D = (LG.take i).flatMap lastP ∧ OwnP wr w1.heap.size q3 D ∧ Below w1.heap.size w1 wr)
  case atStart => exact ⟨0, [], by omega, by omega, rfl, rfl, OwnP.nil _ _, Below.refl _ _⟩
  case round =>
    obtain ⟨i, D, hi, hm, rfl, hD, hO, hbq⟩ := hrel
    by_cases hlt : i < LG.length
    · have hlt' : (i : Int) < (LG.length : Int) := by omega
      have hi0 : (0 : Int) ≤ (i : Int) := by omega
      obtain ⟨x, hx⟩ : ∃ x, LG[i]? = some x := ⟨_, List.getElem?_eq_getElem hlt⟩
      have hxL := (HMEM.out x (List.mem_of_getElem? hx)).1
      obtain ⟨k0, k1⟩ := H0.out x hxL
      obtain ⟨UU, hUU⟩ : ∃ z, x.2.2.2.length - 1 = z := ⟨_, rfl⟩
      have hu1 := fun W => used1_any x W k0 k1
      rw [hUU] at hu1
      obtain ⟨y, hy⟩ : ∃ y, x.2.2.2[UU]? = some y := ⟨_, List.getElem?_eq_getElem (by omega)⟩
      have hlast : lastP x = y.2.2 := by unfold lastP; rw [hUU, hy]; rfl
      have hym := List.mem_of_getElem? hy
      obtain ⟨hyF, hyS, hy0, hyD⟩ := HFI.out x hxL y hym
      have hAx := HA.out x hxL
      have hstep : (LG.take (i + 1)).flatMap lastP = D ++ y.2.2 := by rw [List.take_add_one, hx, List.flatMap_append, ← hD]; simp [hlast]
      have hDl : D.length + y.2.2.length ≤ 1048576 := by
        have := HN.out (i + 1)
        rw [hstep, List.length_append] at this
        omega
      have hyr := (hAx.2.2.2.2 y hym).1
      have hw01 : Below w.heap.size w wr := hb1.trans (hbq.mono hb1.size)
      replace hyr := hyr.below hw01
      have hvx := hAx.2.2.2.1.below hw01
      obtain ⟨c0, c1⟩ := liRow (hVL.below hbq) i x hx
      have HU1 := Lib.hid hu1
      have HY := Lib.hid hy
      have HDL := Lib.hid hDl
      have HST := Lib.hid hstep
      have hUlt : (UU : Int) < (x.2.2.2.length : Int) := by omega
      have hU0 : (0 : Int) ≤ (UU : Int) := by omega
      have hsq := hbq.size
      clear hu1 hy hDl hstep hUU hym hyF hyS hyD hAx k0 k1 hD hlast hx
      have BX := Blk.new wr #[.slice (some ⟨x.1.1, 0, none⟩) x.1.2.length x.1.2.length, .slice (some ⟨x.2.1, 0, none⟩) x.2.2.2.length x.2.2.1] 81
      have hbx : Below wr.heap.size wr (wr.alloc (.cells #[.slice (some ⟨x.1.1, 0, none⟩) x.1.2.length x.1.2.length, .slice (some ⟨x.2.1, 0, none⟩) x.2.2.2.length x.2.2.1] 81)) := (Below.refl _ _).alloc (Nat.le_refl _) _
      obtain ⟨y0, y1, yf, yl⟩ := BX.two
      have hVx := hvx.below hbx
      have hyr2 := hyr.below hbx
      replace hO := hO.alloc (.cells #[.slice (some ⟨x.1.1, 0, none⟩) x.1.2.length x.1.2.length, .slice (some ⟨x.2.1, 0, none⟩) x.2.2.2.length x.2.2.1] 81)
      have hsz := hbx.size
      go_wp2_with fail
      clear y0 y1 yf yl c0 c1 hyr hvx hw01
      obtain ⟨bx, hbxx⟩ : ∃ b, wr.heap.size = b := ⟨_, rfl⟩
      rw [hbxx] at BX
      simp only [hbxx]
      generalize (wr.alloc (.cells #[.slice (some ⟨x.1.1, 0, none⟩) x.1.2.length x.1.2.length, .slice (some ⟨x.2.1, 0, none⟩) x.2.2.2.length x.2.2.1] 81)) = v0 at *
      have hbv : Below v0.heap.size v0 v0.drew := (Below.refl _ _).drew
      replace BX := BX.drew
      replace hVx := hVx.below hbv
      replace hO := hO.drew
      obtain ⟨ya, hya⟩ : ∃ a, y.1 = a := ⟨_, rfl⟩
      rw [hya] at hyr2
      replace hyr2 := hyr2.below hbv
      have hd_ : v0.drew.heap.size = v0.heap.size := rfl
      have hy2V : VRow v0.drew x.2.1 (x.2.2.2.flatMap lvC) 50 := hVx
      have hcy := lvRow hVx UU y HY.out
      rw [show lvV y = .slice ya y.2.2.length y.2.1 by rw [← hya]] at hcy
      have HYC := Lib.hid (fun W (q : VRow W x.2.1 (x.2.2.2.flatMap lvC) 50) => show W.cell? ⟨x.2.1, UU, none⟩ = some (.slice ya y.2.2.length y.2.1) from by have := lvRow q UU y HY.out; rw [show lvV y = .slice ya y.2.2.length y.2.1 by rw [← hya]] at this; exact this)
      clear hcy hy2V
      refine wp_region_held_drew (S := fun w' => w'.cell? ⟨bx, 0, none⟩ = some (.slice (some ⟨x.1.1, 0, none⟩) x.1.2.length x.1.2.length) ∧ w'.cell? ⟨bx, 1, none⟩ = some (.slice (some ⟨x.2.1, 0, none⟩) x.2.2.2.length x.2.2.1) ∧ w'.cell? ⟨x.2.1, UU, none⟩ = some (.slice ya y.2.2.length y.2.1)) (by kernel_rfl) ⟨BX.two.1, BX.two.2.1, HYC.out _ hVx⟩ (fun hHeld => ?_)
      refine wpAnyH_take (i := 0) (oi := { dst := some 13, op := _, type := _, pos := _, after := _, guard := _ }) (v := ?_) rfl (by kernel_rfl) (by kernel_rfl) (by kernel_rfl) (fun _ _ _ h => h) (Or.inl ⟨by rfl, ?_⟩) (by assumption) ?_
      rotate_left
      · intro w hSw
        (try dsimp only at hSw)
        go_simp
        (try (with_reducible rfl))
      try simp only [Act.put, List.setIfInBounds_toArray, List.set_cons_zero, List.set_cons_succ]
      refine wpAnyH_take (i := 1) (oi := { dst := some 14, op := _, type := _, pos := _, after := _, guard := _ }) (v := ?_) rfl (by kernel_rfl) (by kernel_rfl) (by kernel_rfl) (fun _ _ _ h => h) (Or.inl ⟨by rfl, ?_⟩) (by assumption) ?_
      rotate_left
      · intro w hSw
        (try dsimp only at hSw)
        go_simp
        (try (with_reducible rfl))
      try simp only [Act.put, List.setIfInBounds_toArray, List.set_cons_zero, List.set_cons_succ]
      refine wpAnyH_take (i := 2) (oi := { dst := some 15, op := _, type := _, pos := _, after := _, guard := _ }) (v := ?_) rfl (by kernel_rfl) (by kernel_rfl) (by kernel_rfl) (fun _ _ _ h => h) (Or.inl ⟨by rfl, ?_⟩) (by assumption) ?_
      rotate_left
      · intro w hSw
        (try dsimp only at hSw)
        go_simp
        (try (with_reducible rfl))
      try simp only [Act.put, List.setIfInBounds_toArray, List.set_cons_zero, List.set_cons_succ]
      refine wpAnyH_take (i := 3) (oi := { dst := some 16, op := _, type := _, pos := _, after := _, guard := _ }) (v := ?_) rfl (by kernel_rfl) (by kernel_rfl) (by kernel_rfl) (fun _ _ _ h => h) (Or.inl ⟨by rfl, ?_⟩) (by assumption) ?_
      rotate_left
      · intro w hSw
        (try dsimp only at hSw)
        go_simp
        (try (with_reducible rfl))
      try simp only [Act.put, List.setIfInBounds_toArray, List.set_cons_zero, List.set_cons_succ]
      refine wpAnyH_ready (rs := [4]) (by kernel_rfl) (by simp) ?_
      refine AllReadyH.cons (o := { dst := some 17, op := _, type := _, pos := _, after := _, guard := _ }) rfl (fun K hK => ?_) AllReadyH.nil
      go_simp
      refine (HU1.out _).mono ?_
      rintro e w5 ⟨rfl, hb5⟩
      replace BX := BX.below hb5
      replace hVx := hVx.below hb5
      replace hO := hO.below hb5
      replace hyr2 := hyr2.below hb5
      have hz5 := hb5.size
      (try go_wp2_with fail)
      refine hK.out _ _ ⟨BX.two.1, BX.two.2.1, HYC.out _ hVx⟩ (fun hHeld => ?_)
      clear hK K
      try simp only [Act.put, List.setIfInBounds_toArray, List.set_cons_zero, List.set_cons_succ]
      refine wpAnyH_take (i := 5) (oi := { dst := some 18, op := _, type := _, pos := _, after := _, guard := _ }) (v := ?_) rfl (by kernel_rfl) (by kernel_rfl) (by kernel_rfl) (fun _ _ _ h => h) (Or.inl ⟨by rfl, ?_⟩) (by assumption) ?_
      rotate_left
      · intro w hSw
        (try dsimp only at hSw)
        go_simp
        (try (with_reducible rfl))
      try simp only [Act.put, List.setIfInBounds_toArray, List.set_cons_zero, List.set_cons_succ]
      refine wpAnyH_take (i := 6) (oi := { dst := some 19, op := _, type := _, pos := _, after := _, guard := _ }) (v := ?_) rfl (by kernel_rfl) (by kernel_rfl) (by kernel_rfl) (fun _ _ _ h => h) (Or.inl ⟨by rfl, ?_⟩) (by assumption) ?_
      rotate_left
      · intro w hSw
        (try dsimp only at hSw)
        go_simp
        (try (with_reducible rfl))
      try simp only [Act.put, List.setIfInBounds_toArray, List.set_cons_zero, List.set_cons_succ]
      refine wpAnyH_ready (rs := [7]) (by kernel_rfl) (by simp) ?_
      refine AllReadyH.cons (o := { dst := some 20, op := _, type := _, pos := _, after := _, guard := _ }) rfl (fun K hK => ?_) AllReadyH.nil
      refine step_appPs rfl (.tmp 13) (.tmp 19) rfl w1.heap.size _ D rfl hO ya y.2.2.length y.2.1 y.2.2 rfl rfl ⟨hyr2, hy0⟩ HDL.out (by omega) ?_
      intro v7 w7 hO7 hb7 hf7
      have BX7 : Blk w7 bx #[.slice (some ⟨x.1.1, 0, none⟩) x.1.2.length x.1.2.length, .slice (some ⟨x.2.1, 0, none⟩) x.2.2.2.length x.2.2.1] 81 := (hf7 _ _ _ BX (by decide)).trans BX
      have hVx7 : VRow w7 x.2.1 (x.2.2.2.flatMap lvC) 50 := hVx.keepT (by decide) hf7
      refine hK.out _ _ ⟨BX7.two.1, BX7.two.2.1, HYC.out _ hVx7⟩ (fun hHeld => ?_)
      clear hK K
      try simp only [Act.put, List.setIfInBounds_toArray, List.set_cons_zero, List.set_cons_succ]
      refine wpAnyH_take (i := 8) (oi := { dst := some 3, op := _, type := _, pos := _, after := _, guard := _ }) (v := ?_) rfl (by kernel_rfl) (by kernel_rfl) (by kernel_rfl) (fun _ _ _ h => h) (Or.inl ⟨by rfl, ?_⟩) (by assumption) ?_
      rotate_left
      · intro w hSw
        (try dsimp only at hSw)
        go_simp
        (try (with_reducible rfl))
      try simp only [Act.put, List.setIfInBounds_toArray, List.set_cons_zero, List.set_cons_succ]
      refine wpAnyH_done (by kernel_rfl) ?_ _
      clear hHeld
      go_wp2
      go_roundg (LG.length - (i + 1))
      case measure => omega
      case rel => exact ⟨i + 1, D ++ y.2.2, by omega, rfl, by go_num, HST.out.symm, hO7, (chain (chain (chain hbq hbx) hbv) hb5).trans hb7⟩
    · obtain rfl : i = LG.length := by omega
      rw [List.take_length] at hD
      have hDN : D.length ≤ 1000000 := by
        have := HN.out LG.length
        rw [List.take_length, ← hD] at this
        exact this
      have hw01 : Below w.heap.size w wr := hb1.trans (hbq.mono hb1.size)
      have hmemD : ∀ q ∈ D, ∃ x ∈ L, ∃ y ∈ x.2.2.2, q ∈ y.2.2 := fun q hq => by
        rw [hD] at hq
        obtain ⟨x, hx, hq⟩ := List.mem_flatMap.1 hq
        obtain ⟨y, hy, hq⟩ := lastP_mem hq
        exact ⟨x, (HMEM.out x hx).1, y, hy, hq⟩
      have hPA : PAll lo w.heap.size wr D := fun q hq => by
        obtain ⟨x, hx, y, hy, hq⟩ := hmemD q hq
        exact (((HA.out x hx).2.2.2.2 y hy).2 q hq).below hw01
      have hFD : Fine (P : Int) c h s (D.map (·.2)) := fun q hq => by
        obtain ⟨z, hz, rfl⟩ := List.mem_map.1 hq
        obtain ⟨x, hx, y, hy, hz⟩ := hmemD z hz
        exact (HFI.out x hx y hy).1 z.2 (List.mem_map.2 ⟨z, hz, rfl⟩)
      have hKD : ∀ q ∈ D, q.2.1.length ≤ K := fun q hq => by
        obtain ⟨x, hx, y, hy, hq⟩ := hmemD q hq
        exact (HFI.out x hx y hy).2.1 q hq
      have hDD : D.Pairwise Dis := by
        rw [hD, List.pairwise_flatMap]
        refine ⟨fun x hx => ?_, HSUB.out.imp_of_mem (fun {x y} hx hy hxy q hq q' hq' => ?_)⟩
        · unfold lastP
          cases e : x.2.2.2[x.2.2.2.length - 1]? with
          | none => exact List.Pairwise.nil
          | some y => exact (HFI.out x (HMEM.out x hx).1 y (List.mem_of_getElem? e)).2.2.2
        · obtain ⟨p, hp, hq⟩ := lastP_mem hq
          obtain ⟨p', hp', hq'⟩ := lastP_mem hq'
          exact hxy p hp q hq p' hp' q' hq'
      have HDD := Lib.hid hDD
      clear hDD
      obtain ⟨a, kk, rfl⟩ := hO.form
      have hOP := hO.opl
      have HD := Lib.hid hD
      have HFD := Lib.hid hFD
      have HKD := Lib.hid hKD
      have hsq := hbq.size
      have hsw := hw01.size
      clear hD hFD hKD hmemD hO
      go_wp2_with fail
      refine (values_any a D.length kk wr).mono ?_
      rintro e wA ⟨rfl, B1, hbA, hzA⟩
      have hfa := first_any P c h s wA.heap.size lo K D.length 81 _ _ wA hP hDN (Nat.le_refl _) values1_enter (values1_good P c h s wr.heap.size a kk lo wA.heap.size K D wA B1 ((hOP.below hbA).mono (by have := hb1.size; omega) hbA.size) ((hPA.below hbA).mono (Nat.le_refl _) (by omega)) (Nat.le_refl _) HFD.out HKD.out hDN HDD.out)
      have HFA := Lib.hid hfa
      clear hfa B1
      go_wp2_with fail
      refine (HFA.out).mono ?_
      rintro e wB ⟨b, kb, LL, zs, rfl, hzs, hLz, hOPL, hPAL, hLq, hDs, hbB⟩
      clear HFA
      have hsA := hbA.size
      have hbW : Below w.heap.size w wB := chain (chain hw01 hbA) hbB
      go_wp2
      go_ret
      exact ⟨b, kb, LL, zs, rfl, by rw [hzs, HD.out], hLz, hOPL.mono (by omega) (Nat.le_refl _), hPAL, hLq, hDs, hbW⟩
end Go.Proofs.YtknkbhmgdddjkaaGreat
namespace Go.Proofs.YtknkbhmgdddjkaaGreat
open Go.ChangeShapes Go.WideShapes Go.ChangeAt Go.RowKit
set_option linter.unusedVariables false
set_option linter.unusedSimpArgs false
set_option maxRecDepth 4000

theorem longP_ne (P : Nat) (h : Int) : ∀ (o : List Int) (l : List Ply), l ≠ [] → longP P h o l ≠ []
  | [], l, hl => hl
  | d :: ds, l, hl => by
    rw [longP]
    split
    · exact hl
    · rename_i e
      exact longP_ne P h ds _ e
theorem addP_ne (out : List Ply) (p : Ply) (h : out ≠ []) : addP out p ≠ [] := by
  unfold addP
  split
  · exact h
  · simp
theorem addAll_keep : ∀ (l out : List Ply), out ≠ [] → addAll out l ≠ []
  | [], out, h => h
  | x :: l, out, h => addAll_keep l (addP out x) (addP_ne out x h)
theorem addAll_ne (l : List Ply) (h : l ≠ []) : addAll [] l ≠ [] := by
  cases l with
  | nil => exact absurd rfl h
  | cons x l => exact addAll_keep l (addP [] x) (by unfold addP; simp)
/-- The orders whose longest sequences are legal. -/
def legalO (P : Nat) (h : Int) (xs ys : List Int) (U : Nat) (OS : List (List Int)) : List (List Int) :=
  if U = 1 then (OS.filter (fun o => longN P h o (startP xs ys) == U)).take 1 else OS.filter (fun o => longN P h o (startP xs ys) == U)
theorem legalO_all (P : Nat) (h : Int) (xs ys : List Int) (U : Nat) (ra rb : Int) :
    addAll [] ((legalO P h xs ys U (ordersP ra rb)).flatMap (fun o => longP P h o (startP xs ys))) = allTo P h xs ys U (ordersP ra rb) (ordersP ra rb).length := by
  have hne : ∀ o, 0 < (addAll [] (longP P h o (startP xs ys))).length := fun o => List.length_pos_iff.2 (addAll_ne _ (longP_ne P h o _ (by simp [startP])))
  unfold ordersP
  split
  · rename_i e
    by_cases e1 : longN P h [ra, ra, ra, ra] (startP xs ys) = U
    · by_cases e2 : U = 1 <;> simp [legalO, allTo, allStep, e1, e2]
    · by_cases e2 : U = 1
      · subst e2
        simp [legalO, allTo, allStep, e1, addAll]
      · simp [legalO, allTo, allStep, e1, e2, addAll]
  · rename_i e
    have n1 := hne [ra, rb]
    by_cases e1 : longN P h [ra, rb] (startP xs ys) = U
    · by_cases e3 : longN P h [rb, ra] (startP xs ys) = U
      · by_cases e2 : U = 1
        · subst e2
          simp [legalO, allTo, allStep, e1, e3, n1]
        · simp [legalO, allTo, allStep, e1, e3, e2, addAll_append]
      · by_cases e2 : U = 1
        · subst e2
          simp [legalO, allTo, allStep, e1, e3]
        · simp [legalO, allTo, allStep, e1, e3, e2]
    · by_cases e3 : longN P h [rb, ra] (startP xs ys) = U
      · by_cases e2 : U = 1
        · subst e2
          simp [legalO, allTo, allStep, e1, e3]
        · simp [legalO, allTo, allStep, e1, e3, e2]
      · by_cases e2 : U = 1
        · subst e2
          simp [legalO, allTo, allStep, e1, e3, addAll]
        · simp [legalO, allTo, allStep, e1, e3, e2, addAll]
theorem levels_ne (P : Nat) (h : Int) : ∀ (o : List Int) (l : List Ply), l ≠ [] → ∀ m ∈ levels P h o l, m ≠ []
  | [], l, hl, m, hm => by simp [levels] at hm; rw [hm]; exact hl
  | d :: ds, l, hl, m, hm => by
    rw [levels] at hm
    rcases List.mem_cons.1 hm with rfl | hm
    · exact hl
    · split at hm
      · simp at hm
      · rename_i e
        exact levels_ne P h ds _ e m hm
theorem levels_steps (P : Nat) (h : Int) : ∀ (o : List Int) (l : List Ply) (n : Nat), (∀ q ∈ l, q.1.length ≤ n) → ∀ m ∈ levels P h o l, ∀ q ∈ m, q.1.length ≤ n + o.length
  | [], l, n, hl, m, hm => by simp [levels] at hm; rw [hm]; exact hl
  | d :: ds, l, n, hl, m, hm => by
    rw [levels] at hm
    rcases List.mem_cons.1 hm with rfl | hm
    · intro q hq; have := hl q hq; simp; omega
    · split at hm
      · simp at hm
      · intro q hq
        have := levels_steps P h ds _ (n + 1) (fun q hq => by
          rcases addAll_mem hq with h2 | h2
          · simp at h2
          · obtain ⟨p, hp, hq⟩ := List.mem_flatMap.1 h2
            obtain ⟨t, _, rfl⟩ := List.mem_map.1 hq
            have := hl p hp
            simp [oneMore]
            omega) m hm q hq
        rw [List.length_cons]
        omega
theorem levels_small {P : Nat} (hP : P ≤ 24) (h : Int) (o : List Int) (xs ys : List Int) (ho : o.length ≤ 4) : ∀ m ∈ levels P h o (startP xs ys), m.length ≤ 390625 := by
  have h1 : ∀ (o : List Int) (l : List Ply), ∀ m ∈ levels P h o l, m.length ≤ l.length * 25 ^ o.length := by
    intro o
    induction o with
    | nil => intro l m hm; simp [levels] at hm; rw [hm]; simp
    | cons d ds ih =>
      intro l m hm
      have hp : 0 < 25 ^ ds.length := Nat.pow_pos (by omega)
      rw [levels] at hm
      rw [List.length_cons, Nat.pow_succ]
      rcases List.mem_cons.1 hm with rfl | hm
      · have : m.length * 1 ≤ m.length * (25 ^ ds.length * 25) := Nat.mul_le_mul_left _ (by omega)
        omega
      · split at hm
        · simp at hm
        · have e1 := ih _ m hm
          have e2 := nextP_length P h d l
          have e3 : l.length * (P + 1) ≤ l.length * 25 := Nat.mul_le_mul_left _ (by omega)
          have e4 : (nextP P h d l).length * 25 ^ ds.length ≤ l.length * 25 * 25 ^ ds.length := Nat.mul_le_mul_right _ (by omega)
          have e5 : l.length * 25 * 25 ^ ds.length = l.length * (25 ^ ds.length * 25) := by rw [Nat.mul_assoc, Nat.mul_comm 25]
          omega
  intro m hm
  have e1 := h1 o _ m hm
  have e2 : 25 ^ o.length ≤ 25 ^ 4 := Nat.pow_le_pow_right (by omega) ho
  simp only [startP, List.length_cons, List.length_nil] at e1
  omega
/-- What is known of the listings of a roll. -/
structure Liss (P : Nat) (h : Int) (xs ys : List Int) (ra rb : Int) (L : List LI) : Prop where
  len : ∀ x ∈ L, x.2.2.2.length = longN P h x.1.2 (startP xs ys) + 1
  four : ∀ x ∈ L, x.1.2.length ≤ 4
  two : L.length ≤ 2
  pos : 0 < L.length
  used : usedL L = usedP P h xs ys ra rb
  low : ∀ i, usedLTo L i ≤ 4
  last : ∀ x ∈ L, (lastP x).map (·.2) = longP P h x.1.2 (startP xs ys)
  crowd : ∀ x ∈ L, crowdB x = !(fineP P h x.1.2 (startP xs ys))
  step : ∀ x ∈ L, ∀ y ∈ x.2.2.2, (∀ q ∈ y.2.2, q.2.1.length ≤ 4) ∧ 0 < y.2.2.length
theorem liss_of {P : Nat} {h ra rb : Int} {xs ys : List Int} {L : List LI} (hT : L.map (fun x => x.1.2) = ordersP ra rb) {F : LI → Prop} (hQ : ∀ x ∈ L, x.2.2.2.map (fun y => y.2.2.map (·.2)) = levels P h x.1.2 (startP xs ys) ∧ F x) : Liss P h xs ys ra rb L := by
  have hlen : ∀ x ∈ L, x.2.2.2.length = longN P h x.1.2 (startP xs ys) + 1 := fun x hx => by
    have := congrArg List.length (hQ x hx).1
    rwa [List.length_map, levels_length] at this
  have ho4 : ∀ x ∈ L, x.1.2.length ≤ 4 := fun x hx => by
    have hm : x.1.2 ∈ ordersP ra rb := by rw [← hT]; exact List.mem_map.2 ⟨x, hx, rfl⟩
    unfold ordersP at hm
    split at hm
    · simp at hm; rw [hm]; simp
    · simp at hm; rcases hm with h | h <;> rw [h] <;> simp
  have hll : L.length = (ordersP ra rb).length := by
    have := congrArg List.length hT
    rwa [List.length_map] at this
  refine ⟨hlen, ho4, by rw [hll]; exact ordersP_length ra rb, by rw [hll]; unfold ordersP; split <;> simp, usedL_levels P h xs ys _ L hT (fun x hx => (hQ x hx).1), fun i => ?_, fun x hx => ?_, fun x hx => ?_, fun x hx y hy => ⟨fun q hq => ?_, ?_⟩⟩
  · have e : usedLTo L i = usedTo P h xs ys (ordersP ra rb) i := by
      unfold usedLTo usedTo
      refine usedL_levels P h xs ys _ _ ?_ (fun x hx => (hQ x (List.mem_of_mem_take hx)).1)
      rw [← hT, List.map_take]
    rw [e]
    exact usedTo_le P h xs ys ra rb i
  · have hl := levels_last P h x.1.2 (startP xs ys)
    rw [← (hQ x hx).1, List.getElem?_map] at hl
    unfold lastP
    rw [hlen x hx, Nat.add_sub_cancel]
    cases e : x.2.2.2[longN P h x.1.2 (startP xs ys)]? with
    | none => rw [e] at hl; simp at hl
    | some y => rw [e] at hl; simpa using hl
  · rw [← levels_fine P h x.1.2 (startP xs ys) (by simp [startP]), ← (hQ x hx).1]
    unfold crowdB
    rw [List.all_map, Bool.eq_iff_iff]
    simp [Function.comp_def]
  · have := levels_steps P h x.1.2 (startP xs ys) 0 (fun q hq => by simp [startP] at hq; rw [hq]; simp) (y.2.2.map (·.2)) (by rw [← (hQ x hx).1]; exact List.mem_map.2 ⟨y, hy, rfl⟩) q.2 (List.mem_map.2 ⟨q, hq, rfl⟩)
    have h4 := ho4 x hx
    omega
  · have := levels_ne P h x.1.2 (startP xs ys) (by simp [startP]) (y.2.2.map (·.2)) (by rw [← (hQ x hx).1]; exact List.mem_map.2 ⟨y, hy, rfl⟩)
    exact List.length_pos_iff.2 (fun e => this (by rw [e]; rfl))
theorem Liss.seqs {P : Nat} {h ra rb : Int} {xs ys : List Int} {L : List LI} (i : Liss P h xs ys ra rb L) (hT : L.map (fun x => x.1.2) = ordersP ra rb) :
    addAll [] (((legalL L).flatMap lastP).map (·.2)) = allP P h xs ys ra rb := by
  unfold allP
  rw [← legalO_all]
  congr 1
  have hk : (keepL (usedP P h xs ys ra rb) L).map (fun x => x.1.2) = (ordersP ra rb).filter (fun o => longN P h o (startP xs ys) == usedP P h xs ys ra rb) := by
    unfold keepL
    rw [← hT, List.filter_map]
    congr 1
    refine List.filter_congr fun x hx => ?_
    rw [i.len x hx, Nat.add_sub_cancel]
    rfl
  have hl : (legalL L).map (fun x => x.1.2) = legalO P h xs ys (usedP P h xs ys ra rb) (ordersP ra rb) := by
    unfold legalL legalO
    rw [i.used]
    split
    · rw [List.map_take, hk]
    · exact hk
  rw [← hl, List.map_flatMap, List.flatMap_map]
  rw [List.flatMap_def, List.flatMap_def]
  congr 1
  exact List.map_congr_left fun x hx => i.last x (legalL_mem hx).1
theorem Liss.ok {P : Nat} {h ra rb : Int} {xs ys : List Int} {L : List LI} (i : Liss P h xs ys ra rb L) (hT : L.map (fun x => x.1.2) = ordersP ra rb) : L.any crowdB = !(allOk P h xs ys ra rb) := by
  have h1 : L.any crowdB = L.any (fun x => !(fineP P h x.1.2 (startP xs ys))) := by
    rw [Bool.eq_iff_iff, List.any_eq_true, List.any_eq_true]
    constructor
    · rintro ⟨x, hx, e⟩; exact ⟨x, hx, by rw [← i.crowd x hx]; exact e⟩
    · rintro ⟨x, hx, e⟩; exact ⟨x, hx, by rw [i.crowd x hx]; exact e⟩
  have h2 : L.any (fun x => !(fineP P h x.1.2 (startP xs ys))) = (L.map (fun x => x.1.2)).any (fun o => !(fineP P h o (startP xs ys))) := by rw [List.any_map]; rfl
  rw [h1, h2, hT]
  unfold allOk ordersP
  split <;> simp [okTo, Bool.not_and]
theorem Liss.small {P : Nat} {h ra rb : Int} {xs ys : List Int} {L : List LI} (i : Liss P h xs ys ra rb L) (hP : P ≤ 24) (k : Nat) : (((legalL L).take k).flatMap lastP).length ≤ 1000000 := by
  have h1 : ∀ (M : List LI), (∀ x ∈ M, x ∈ L) → (M.flatMap lastP).length ≤ M.length * 390625 := by
    intro M
    induction M with
    | nil => intro _; simp
    | cons x M ih =>
      intro hM
      have e1 := ih (fun y hy => hM y (by simp [hy]))
      have e2 : (lastP x).length ≤ 390625 := by
        have := congrArg List.length (i.last x (hM x (by simp)))
        rw [List.length_map] at this
        rw [this]
        exact longP_four hP h _ xs ys (i.four x (hM x (by simp)))
      rw [List.flatMap_cons, List.length_append, List.length_cons]
      omega
  have h2 := h1 ((legalL L).take k) (fun x hx => (legalL_mem (List.mem_of_mem_take hx)).1)
  have h3 : ((legalL L).take k).length ≤ 2 := by
    rw [List.length_take]
    have := legalL_le L
    have := i.two
    omega
  omega
/-- Plays that share no block have been made and are handed back, beside a code. -/
def PlaysGotD (ps : List Ply) (r : Int) (w : World) (e : Ending) (w' : World) : Prop :=
  ∃ (a : Option Addr) (k : Nat) (l : List PP), e = .returned (.tuple #[.slice a l.length k, .int .i64 r]) ∧ l.map Prod.snd = ps ∧ OPl w.heap.size w'.heap.size w' a l ∧ PAll w.heap.size w'.heap.size w' l ∧ l.Pairwise Dis ∧ Below w.heap.size w w'
/-- The program's plays of a roll, or the code of a list that is too long. -/
def plL (P : Nat) (h : Int) (xs ys : List Int) (ra rb : Int) : List Ply := if allOk P h xs ys ra rb = true then allP P h xs ys ra rb else []
def plC2 (P : Nat) (h : Int) (xs ys : List Int) (ra rb : Int) : Int := if allOk P h xs ys ra rb = true then 0 else 3
set_option maxRecDepth 100000 in
set_option maxHeartbeats 4000000 in
theorem implPlaysD_any (P : Nat) (c h s ra rb : Int) (a1 a2 : Option Addr) (n1 n2 c1 c2 : Nat) (xs ys : List Int) (w : World) (h1 : xs.length = n1) (h2 : ys.length = n2) (r1 : IRow w a1 xs) (r2 : IRow w a2 ys) (g : isB (P : Int) c h s xs ys = true) (ha : inB ra 1 s = true) (hbb : inB rb 1 s = true) :
    Calls Tryz.prog 20 #[.agg #[.int .i64 (P : Int), .int .i64 c, .int .i64 h, .int .i64 s], .agg #[.slice a1 n1 c1, .slice a2 n2 c2], .agg #[.int .i64 ra, .int .i64 rb]] w (PlaysGotD (plL P h xs ys ra rb) (plC2 P h xs ys ra rb) w) := by
  have hp24 : P ≤ 24 := by have := (isB_parts g).2.1; omega
  have hlo := fun W (q1 : IRow W a1 xs) (q2 : IRow W a2 ys) => listingsOf_any P c h s ra rb a1 a2 n1 n2 c1 c2 xs ys W h1 h2 q1 q2 g ha hbb
  have HLO := Lib.hid hlo
  clear hlo g ha hbb
  obtain ⟨PS, hPS⟩ : ∃ z, plL P h xs ys ra rb = z := ⟨_, rfl⟩
  obtain ⟨PC, hPC⟩ : ∃ z, plC2 P h xs ys ra rb = z := ⟨_, rfl⟩
  rw [hPS, hPC]
  unfold plL at hPS
  unfold plC2 at hPC
  have HPS := Lib.hid hPS
  have HPC := Lib.hid hPC
  clear hPS hPC
  obtain ⟨BV, BB, BR, hb, hz⟩ := three_new w #[.int .i64 (P : Int), .int .i64 c, .int .i64 h, .int .i64 s] #[.slice a1 n1 c1, .slice a2 n2 c2] #[.int .i64 ra, .int .i64 rb] 25 28 40
  clear hz
  replace r1 := r1.below hb
  replace r2 := r2.below hb
  obtain ⟨x0, x1, x2, x3, xf, xl⟩ := BV.four
  obtain ⟨y0, y1, yf, yl⟩ := BB.two
  obtain ⟨z0, z1, zf, zl⟩ := BR.two
  go_enter Tryz.func20, Tryz.ntmps20
  go_wp2_with fail
  clear x0 x1 x2 x3 xf xl y0 y1 yf yl z0 z1 zf zl
  generalize (((w.alloc (.cells #[.int .i64 (P : Int), .int .i64 c, .int .i64 h, .int .i64 s] 25)).alloc (.cells #[.slice a1 n1 c1, .slice a2 n2 c2] 28)).alloc (.cells #[.int .i64 ra, .int .i64 rb] 40)) = v0 at *
  refine (HLO.out _ r1 r2).mono ?_
  rintro e w1 ⟨gL, kL, L, rfl, hgL, hgz, hV, hA, hT, hQ, hDL, hb1⟩
  clear HLO
  have hLi := liss_of hT hQ
  have hok := hLi.ok hT
  have hseq := hLi.seqs hT
  have hL2 := hLi.two
  have hcon := containsI_any gL kL L 42 #[] crowdB w1 (by omega) hV isCrowded_enter (fun W hW x hx => isCrowded_any x W ((hA x hx).2.2.2.1.below hW) (by have := hLi.len x hx; have := hLi.four x hx; have := longN_le P h x.1.2 (startP xs ys); omega) (fun y hy => by
    have hm : y.2.2.map (·.2) ∈ x.2.2.2.map (fun y => y.2.2.map (·.2)) := List.mem_map.2 ⟨y, hy, rfl⟩
    rw [(hQ x hx).1] at hm
    have := levels_small hp24 h x.1.2 xs ys (hLi.four x hx) _ hm
    rw [List.length_map] at this
    omega))
  obtain ⟨OK, hOK⟩ : ∃ b, allOk P h xs ys ra rb = b := ⟨_, rfl⟩
  rw [hOK] at hok
  rw [hok] at hcon
  have hps := HPS.out
  have hpc := HPC.out
  rw [hOK] at hps hpc
  clear HPS HPC
  have HCON := Lib.hid hcon
  have HLI := Lib.hid hLi
  have HSEQ := Lib.hid hseq
  have HA := Lib.hid hA
  have HQ := Lib.hid hQ
  have HDL := Lib.hid hDL
  clear hcon hLi hseq hA hQ hok hOK hT hDL
  have hb01 := chain hb hb1
  cases OK with
  | false =>
    rw [if_neg (by simp)] at hps hpc
    subst hps hpc
    go_wp2_with fail
    refine (HCON.out).mono ?_
    rintro e w2 ⟨rfl, hb2⟩
    go_wp2
    go_ret2
    exact ⟨none, 0, [], rfl, rfl, .inl ⟨rfl, rfl⟩, PAll.nil _ _ _, List.Pairwise.nil, chain hb01 hb2⟩
  | true =>
    rw [if_pos rfl] at hps hpc
    subst hps hpc
    go_wp2_with fail
    refine (HCON.out).mono ?_
    rintro e w2 ⟨rfl, hb2⟩
    have hvs := hb.size
    have hws := hb1.size
    have hls := (hb01).size
    have hlp := lplays_any P c h s v0.heap.size 4 gL kL L w2 hp24 (by have := hb2.size; omega) (hV.below hb2) ((HA.out.below hb2).mono (Nat.le_refl _) hb2.size) (fun x hx => by
      have h4 := HLI.out.four x hx
      have h5 := longN_le P h x.1.2 (startP xs ys)
      have h6 := HLI.out.len x hx
      omega) (by omega) (by have := HLI.out.low L.length; unfold usedLTo at this; rw [List.take_length] at this; omega) (fun i => by have := HLI.out.low i; omega) HLI.out.pos (fun x hx y hy => ⟨((HQ.out x hx).2 y hy).1, (HLI.out.step x hx y hy).1, (HLI.out.step x hx y hy).2, ((HQ.out x hx).2 y hy).2⟩) HDL.out (HLI.out.small hp24)
    have HLP := Lib.hid hlp
    clear hlp
    go_wp2_with fail
    refine (HLP.out).mono ?_
    rintro e w3 ⟨b, kb, LL, zs, rfl, hzs, hLz, hOPL, hPAL, hLq, hDs, hb3⟩
    have HLZ := Lib.hid (show LL.map Prod.snd = allP P h xs ys ra rb from by rw [← HSEQ.out, ← hzs]; exact hLz)
    clear hLz hzs hLq HLP HCON
    go_wp2
    go_ret2
    exact ⟨b, kb, LL, rfl, HLZ.out, hOPL.mono (by have := hb2.size; omega) (Nat.le_refl _), hPAL.mono (by omega) (Nat.le_refl _), hDs, chain (chain hb01 hb2) hb3⟩
theorem implPlays_any (P : Nat) (c h s ra rb : Int) (a1 a2 : Option Addr) (n1 n2 c1 c2 : Nat) (xs ys : List Int) (w : World) (h1 : xs.length = n1) (h2 : ys.length = n2) (r1 : IRow w a1 xs) (r2 : IRow w a2 ys) (g : isB (P : Int) c h s xs ys = true) (ha : inB ra 1 s = true) (hbb : inB rb 1 s = true) :
    Calls Tryz.prog 20 #[.agg #[.int .i64 (P : Int), .int .i64 c, .int .i64 h, .int .i64 s], .agg #[.slice a1 n1 c1, .slice a2 n2 c2], .agg #[.int .i64 ra, .int .i64 rb]] w (PlaysGot2 (plL P h xs ys ra rb) (plC2 P h xs ys ra rb) w) :=
  (implPlaysD_any P c h s ra rb a1 a2 n1 n2 c1 c2 xs ys w h1 h2 r1 r2 g ha hbb).mono fun _ _ ⟨a, k, l, e1, e2, e3, e4, _, e6⟩ => ⟨a, k, l, e1, e2, e3, e4, e6⟩
end Go.Proofs.YtknkbhmgdddjkaaGreat
namespace Go.Proofs.YtknkbhmgdddjkaaGreat
open Go.ChangeShapes Go.WideShapes Go.ChangeAt Go.RowKit
set_option linter.unusedVariables false
set_option linter.unusedSimpArgs false
set_option maxRecDepth 4000

set_option maxRecDepth 8000 in
set_option maxHeartbeats 2000000 in
theorem implPlayCounts_any (p c h s : Int) (a1 a2 : Option Addr) (n1 n2 c1 c2 : Nat) (xs ys : List Int) (w : World) (h1 : xs.length = n1) (h2 : ys.length = n2) (l1 : n1 ≤ 1048576) (l2 : n2 ≤ 1048576) (r1 : IRow w a1 xs) (r2 : IRow w a2 ys) :
    Calls Tryz.prog 6 #[.agg #[.int .i64 p, .int .i64 c, .int .i64 h, .int .i64 s], .agg #[.slice a1 n1 c1, .slice a2 n2 c2]] w (SliceGot2 (pcL p c h s xs ys) (pcC p c h s xs ys) w) := by
  have hib := fun W (q1 : IRow W a1 xs) (q2 : IRow W a2 ys) => isBoard_any p c h s a1 a2 n1 n2 c1 c2 xs ys W h1 h2 l1 l2 q1 q2
  unfold pcL pcC
  by_cases g : isB p c h s xs ys = true
  · rw [if_pos g, if_pos g]
    rw [g] at hib
    obtain ⟨p0, p1, k0, k1, k2, k3, N1, N2, hx, hy, s0, s1, s2, s3⟩ := isB_parts g
    have hs6 := isB_sides g
    clear hx hy
    obtain ⟨P, rfl⟩ := Int.eq_ofNat_of_zero_le (by omega : 0 ≤ p)
    obtain ⟨S, rfl⟩ := Int.eq_ofNat_of_zero_le (by omega : 0 ≤ s)
    rw [show ((P : Int)).toNat = P by simp, show ((S : Int)).toNat = S by simp]
    have hRl := rollsTo_length S
    have hS2 : S * S ≤ 6 * 6 := Nat.mul_le_mul (by omega) (by omega)
    have hRm := rollsTo_mem S
    have hrl := fun W => implRolls_any (P : Int) c h S W (by omega)
    obtain ⟨RL, hRL⟩ : ∃ z, rollsTo S = z := ⟨_, rfl⟩
    rw [hRL] at hRl hRm hrl ⊢
    have hR36 : RL.length ≤ 36 := by omega
    have hY : pcOk P h xs ys RL = true → (if pcOk P h xs ys RL = true then pcTo P h xs ys RL RL.length else []) = pcTo P h xs ys RL RL.length ∧ (if pcOk P h xs ys RL = true then (0 : Int) else 3) = 0 := fun e => ⟨if_pos e, if_pos e⟩
    have hN : pcOk P h xs ys RL = false → (if pcOk P h xs ys RL = true then pcTo P h xs ys RL RL.length else []) = [] ∧ (if pcOk P h xs ys RL = true then (0 : Int) else 3) = 3 := fun e => ⟨if_neg (by simp [e]), if_neg (by simp [e])⟩
    have hpl : ∀ i, (pcTo P h xs ys RL i).length ≤ 36 := fun i => by unfold pcTo; rw [List.length_map, List.length_take]; omega
    generalize (if pcOk P h xs ys RL = true then pcTo P h xs ys RL RL.length else []) = LST at *
    generalize (if pcOk P h xs ys RL = true then (0 : Int) else 3) = COD at *
    have HY := Lib.hid hY
    have HN := Lib.hid hN
    have HPL := Lib.hid hpl
    clear hY hN hpl
    have hall := fun (ra rb : Int) (e1 : inB ra 1 (S : Int) = true) (e2 : inB rb 1 (S : Int) = true) W (q1 : IRow W a1 xs) (q2 : IRow W a2 ys) => implPlays_any P c h (S : Int) ra rb a1 a2 n1 n2 c1 c2 xs ys W h1 h2 q1 q2 g e1 e2
    unfold PlaysGot2 at hall
    have HIB := Lib.hid hib
    have HRLc := Lib.hid hrl
    have HALL := Lib.hid hall
    have HRM := Lib.hid hRm
    clear hib hrl hall hRm hRL hRl hS2 g
    obtain ⟨BV, BB, hb, hz⟩ := two_new w #[.int .i64 (P : Int), .int .i64 c, .int .i64 h, .int .i64 (S : Int)] #[.slice a1 n1 c1, .slice a2 n2 c2] 25 28
    have hz0 : w.heap.size + 1 + 1 ≤ ((w.alloc (.cells #[.int .i64 (P : Int), .int .i64 c, .int .i64 h, .int .i64 (S : Int)] 25)).alloc (.cells #[.slice a1 n1 c1, .slice a2 n2 c2] 28)).heap.size := by rw [hz]; omega
    clear hz
    obtain ⟨x0, x1, x2, x3, xf, xl⟩ := BV.four
    obtain ⟨y0, y1, yf, yl⟩ := BB.two
    go_enter Tryz.func6, Tryz.ntmps6
    go_wp2_with fail
    clear x0 x1 x2 x3 xf xl y0 y1 yf yl
    generalize ((w.alloc (.cells #[.int .i64 (P : Int), .int .i64 c, .int .i64 h, .int .i64 (S : Int)] 25)).alloc (.cells #[.slice a1 n1 c1, .slice a2 n2 c2] 28)) = v0 at *
    refine (HIB.out _ (r1.below hb) (r2.below hb)).mono ?_
    rintro e w1 ⟨rfl, hb1⟩
    have hO : Own w1 w1.heap.size (.slice none 0 0) [] := World.ownsRow_nil w1 _ _ _
    have hzb : w.heap.size + 1 + 1 ≤ w1.heap.size := Nat.le_trans hz0 hb1.size
    replace BV := BV.below hb1
    replace BB := BB.below hb1
    replace hb := chain hb hb1
    clear hb1 HIB
    have hVl := BV.lt
    obtain ⟨x0, x1, x2, x3, xf, xl⟩ := BV.four
    go_wp2_with fail
    clear x0 x1 x2 x3 xf xl
    have hz1 : w1.heap.size ≤ w1.heap.size := Nat.le_refl _
    obtain ⟨base, hbase⟩ : ∃ b, w1.heap.size = b := ⟨_, rfl⟩
    rw [hbase] at hO hzb hz1
    obtain ⟨v1, hv1⟩ : ∃ v, w1 = v := ⟨_, rfl⟩
    subst hv1
    refine (HRLc.out _).mono ?_
    rintro e w2 ⟨aR, kR, rfl, hR, hb2⟩
    replace BV := BV.below hb2
    replace BB := BB.below hb2
    replace hO := hO.kept hb2
    replace hb := chain hb hb2
    have hz2 := hb2.size
    clear hb2 HRLc
    go_wp2_with fail
    go_loopg [6, 8, 9, 10, 18] RL.length (fun m q6 q8 q9 q10 q18 wr => ∃ i : Nat, i ≤ RL.length ∧ m = RL.length - i ∧ q18 = .int .i64 (i : Int) ∧ (∀ j r, j < i → RL[j]? = some r → allOk P h xs ys r.1 r.2 = true) ∧ Own wr base q6 (pcTo P h xs ys RL i) ∧ ORl w1.heap.size w2.heap.size wr aR RL ∧ Blk wr w.heap.size #[.int .i64 (P : Int), .int .i64 c, .int .i64 h, .int .i64 (S : Int)] 25 ∧ Blk wr (w.heap.size + 1) #[.slice a1 n1 c1, .slice a2 n2 c2] 28 ∧ Below base w2 wr)
    case atStart => exact ⟨0, by omega, by omega, rfl, fun j r hj => by omega, by simpa [pcTo] using hO, hR, BV, BB, Below.refl _ _⟩
    case round =>
      obtain ⟨i, hi, hm, rfl, hAO, hO, hR, BV, BB, hbq⟩ := hrel
      have hszq := hbq.size
      have hbel := hb.trans (hbq.mono (by omega))
      by_cases hlt : i < RL.length
      · have hlt' : (i : Int) < (RL.length : Int) := by omega
        have hi0 : (0 : Int) ≤ (i : Int) := by omega
        obtain ⟨r, hr⟩ : ∃ r, RL[i]? = some r := ⟨_, List.getElem?_eq_getElem hlt⟩
        have hrm := HRM.out r (List.mem_of_getElem? hr)
        have hst := pcTo_succ P h xs ys RL i r hr
        have hpl := HPL.out i
        obtain ⟨gR, eR, RR⟩ := hR.row hlt
        obtain ⟨u0, u1⟩ := RR.two i r hr
        have hno : allOk P h xs ys r.1 r.2 = false → pcOk P h xs ys RL = false := fun e => by
          rw [Bool.eq_false_iff]
          intro e2
          have := List.all_eq_true.1 e2 r (List.mem_of_getElem? hr)
          rw [e] at this
          exact absurd this (by simp)
        have hso : allOk P h xs ys r.1 r.2 = true → ∀ j r2, j < i + 1 → RL[j]? = some r2 → allOk P h xs ys r2.1 r2.2 = true := fun e j r2 hj hr2 => by
          by_cases ej : j = i
          · subst ej
            rw [hr] at hr2
            injection hr2 with hr2
            rw [← hr2]
            exact e
          · exact hAO j r2 (by omega) hr2
        obtain ⟨ra, rb⟩ := r
        dsimp only at hrm u0 u1 hst hno hso
        have hal := fun W (hW : Below wr.heap.size wr W) => HALL.out ra rb (by simp [inB]; omega) (by simp [inB]; omega) W (r1.below (chain hbel hW)) (r2.below (chain hbel hW))
        obtain ⟨AX, hAX⟩ : ∃ z, plL P h xs ys ra rb = z := ⟨_, rfl⟩
        obtain ⟨CX, hCX⟩ : ∃ z, plC2 P h xs ys ra rb = z := ⟨_, rfl⟩
        rw [hAX, hCX] at hal
        unfold plL at hAX
        unfold plC2 at hCX
        obtain ⟨AO, hAOe⟩ : ∃ z, allOk P h xs ys ra rb = z := ⟨_, rfl⟩
        obtain ⟨AA, hAA⟩ : ∃ z, allP P h xs ys ra rb = z := ⟨_, rfl⟩
        rw [hAOe, hAA] at hAX
        rw [hAOe] at hCX
        have HAXC := Lib.hid (And.intro hAX hCX)
        rw [hAOe] at hno hso
        rw [hAA] at hst
        have HAL := Lib.hid hal
        have HST := Lib.hid hst
        have HNO := Lib.hid hno
        have HSO := Lib.hid hso
        have HAO := Lib.hid hAO
        have HRR := Lib.hid (And.intro hr RR)
        clear hal hst hno hso hAO hAOe hAA hr RR hrm hAX hCX
        subst eR
        have BRx := Blk.new wr #[.int .i64 ra, .int .i64 rb] 40
        have hbx : Below wr.heap.size wr (wr.alloc (.cells #[.int .i64 ra, .int .i64 rb] 40)) := (Below.refl _ _).alloc (Nat.le_refl _) _
        replace BV := BV.below hbx
        replace BB := BB.below hbx
        replace hO := hO.kept hbx
        replace hR := hR.below hbx
        replace hbq := hbq.trans (hbx.mono (by omega))
        replace hbel := chain hbel hbx
        have HAL2 := Lib.hid (fun W (hW : Below (wr.alloc (.cells #[.int .i64 ra, .int .i64 rb] 40)).heap.size (wr.alloc (.cells #[.int .i64 ra, .int .i64 rb] 40)) W) => HAL.out W (chain hbx hW))
        have hszx := hbx.size
        clear HAL hbx
        obtain ⟨x0, x1, x2, x3, xf, xl⟩ := BV.four
        obtain ⟨y0, y1, yf, yl⟩ := BB.two
        obtain ⟨z0, z1, zf, zl⟩ := BRx.two
        go_wp2_with fail
        clear x0 x1 x2 x3 xf xl y0 y1 yf yl z0 z1 zf zl
        generalize (wr.alloc (.cells #[.int .i64 ra, .int .i64 rb] 40)) = vX at *
        refine (HAL2.out _ (Below.refl _ _)).mono ?_
        rintro e w5 ⟨aP, kP, LP, rfl, hLm, -, -, hb5⟩
        have hO5 := hO.kept hb5
        have hR5 := hR.below hb5
        have BV5 := BV.below hb5
        have BB5 := BB.below hb5
        have hbq5 := hbq.trans (hb5.mono (by omega))
        have hbel5 := chain hbel hb5
        have hsz5 := hb5.size
        clear hO hR BV BB BRx u0 u1
        cases AO with
        | false =>
          obtain ⟨e1, e2⟩ := HN.out (HNO.out rfl)
          obtain ⟨hAX, hCX⟩ := HAXC.out
          rw [if_neg (by simp)] at hAX hCX
          subst hAX hCX
          go_wp2
          go_ret2
          try rw [e1, e2]
          exact ⟨none, 0, rfl, .inl ⟨rfl, rfl⟩, hbel5⟩
        | true =>
          obtain ⟨hAX, hCX⟩ := HAXC.out
          rw [if_pos rfl] at hAX hCX
          subst hAX hCX
          have HLP := Lib.hid (show LP.length = AA.length from by rw [← hLm, List.length_map])
          clear hLm
          go_wp2_with (at_builtin; refine wp_pushI rfl (.tmp 32) (.tmp 35) rfl base _ (pcTo P h xs ys RL i) rfl hO5 (LP.length : Int) rfl (by omega) (by omega) ?_; intro v2 w6 hO2 hb6 hk6)
          go_roundg (RL.length - (i + 1))
          case measure => omega
          case rel => exact ⟨i + 1, by omega, rfl, by go_num, HSO.out (by first | exact trivial | rfl), by rw [HST.out, ← HLP.out]; exact hO2, hR5.pushI hO5 hk6, (hb6.block _ (by omega)).trans BV5, (hb6.block _ (by omega)).trans BB5, hbq5.trans hb6⟩
      · obtain rfl : i = RL.length := by omega
        have hyes : pcOk P h xs ys RL = true := List.all_eq_true.2 (fun r hr => by
          obtain ⟨j, hj⟩ := List.mem_iff_getElem?.1 hr
          exact hAO j r (List.getElem?_eq_some_iff.1 hj).1 hj)
        obtain ⟨e1, e2⟩ := HY.out hyes
        have HE := Lib.hid (And.intro e1 e2)
        clear e1 e2 hyes hAO
        obtain ⟨aO, kO, rfl⟩ := hO.form
        have hos := hO.osl
        have hEl : (pcTo P h xs ys RL RL.length).length = LST.length := by rw [HE.out.1]
        rw [← HE.out.1] at hos
        rw [hEl]
        clear hEl hO
        go_wp2
        go_ret2
        rw [HE.out.2]
        exact ⟨aO, kO, rfl, hos.mono (by omega) (Nat.le_refl _), hbel⟩
  · rw [if_neg g, if_neg g]
    replace g : isB p c h s xs ys = false := by simpa using g
    rw [g] at hib
    have HIB := Lib.hid hib
    clear hib g
    obtain ⟨BV, BB, hb, hz⟩ := two_new w #[.int .i64 p, .int .i64 c, .int .i64 h, .int .i64 s] #[.slice a1 n1 c1, .slice a2 n2 c2] 25 28
    clear hz
    obtain ⟨x0, x1, x2, x3, xf, xl⟩ := BV.four
    obtain ⟨y0, y1, yf, yl⟩ := BB.two
    go_enter Tryz.func6, Tryz.ntmps6
    go_wp2_with (go_at_call 18; refine (HIB.out _ (r1.below hb) (r2.below hb)).mono ?_; clear HIB; rintro e w1 ⟨rfl, hb1⟩)
    go_ret2
    exact ⟨none, 0, rfl, .inl ⟨rfl, rfl⟩, chain hb hb1⟩
end Go.Proofs.YtknkbhmgdddjkaaGreat
