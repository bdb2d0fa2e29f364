/- Texts of a proof, laid together. -/
import Derived.Test.YtciljbnailobgaaGreatV16
import Derived.Test.YtciljbnailobgaaGreatV18
import Derived.Test.YtciljbnailobgaaGreatV17
import Derived.Test.YtciljbnailobgaaGreatV09
import Derived.Test.YtciljbnailobgaaGreatV15
import Derived.Test.YtciljbnailobgaaGreatV05
import Derived.Test.YtciljbnailobgaaGreatV07
import Derived.Test.YtciljbnailobgaaGreatV06
import Derived.Test.YtciljbnailobgaaGreatV02
import Derived.Deep.RegionHeld3
import Derived.Deep.CutRange
namespace Go.Proofs.YtciljbnailobgaaGreat
open Go.ChangeShapes Go.WideShapes Go.ChangeAt Go.RowKit
set_option linter.unusedVariables false
set_option linter.unusedSimpArgs false
set_option maxRecDepth 4000
def apC (p c h s : Int) (xs ys : List Int) (ra rb : Int) : Int := if codeB p c h s xs ys ra rb = 0 then (if allOk p.toNat h xs ys ra rb = true then 0 else 3) else codeB p c h s xs ys ra rb
def apL (p c h s : Int) (xs ys : List Int) (ra rb : Int) : List Ply := if codeB p c h s xs ys ra rb = 0 then (if allOk p.toNat h xs ys ra rb = true then allP p.toNat h xs ys ra rb else []) else []
def PlaysGot2 (ps : List Ply) (r : Int) (w : World) (e : Ending) (w' : World) : Prop :=
  ∃ (a : Option Addr) (k : Nat) (l : List PP), e = .returned (.tuple #[.slice a l.length k, .int .i64 r]) ∧ l.map Prod.snd = ps ∧ OPl w.heap.size w'.heap.size w' a l ∧ PAll w.heap.size w'.heap.size w' l ∧ Below w.heap.size w w'
theorem codeB_zero {p c h s : Int} {xs ys : List Int} {ra rb : Int} (g : codeB p c h s xs ys ra rb = 0) : isB p c h s xs ys = true ∧ rlB s ra rb = true := by
  unfold codeB at g
  split at g
  · rename_i h1
    split at g
    · rename_i h2
      exact ⟨h1, h2⟩
    · omega
  · omega
set_option maxRecDepth 8000 in
set_option maxHeartbeats 1000000 in
theorem specAllPlays_any (ra rb : Int) (p c h s : Int) (a1 a2 : Option Addr) (n1 n2 c1 c2 : Nat) (xs ys : List Int) (w : World) (h1 : xs.length = n1) (h2 : ys.length = n2) (l1 : n1 ≤ 1048576) (l2 : n2 ≤ 1048576) (r1 : IRow w a1 xs) (r2 : IRow w a2 ys) :
    Calls Tryz.prog 8 #[.agg #[.int .i64 p, .int .i64 c, .int .i64 h, .int .i64 s], .agg #[.slice a1 n1 c1, .slice a2 n2 c2], .agg #[.int .i64 ra, .int .i64 rb]] w (PlaysGot2 (apL p c h s xs ys ra rb) (apC p c h s xs ys ra rb) w) := by
  have hC := fun W (q1 : IRow W a1 xs) (q2 : IRow W a2 ys) => l05Code_any ra rb p c h s a1 a2 n1 n2 c1 c2 xs ys W h1 h2 l1 l2 q1 q2
  unfold apL apC
  by_cases g0 : codeB p c h s xs ys ra rb = 0
  · obtain ⟨g, e⟩ := codeB_zero g0
    rw [if_pos g0, if_pos g0]
    rw [g0] at hC
    obtain ⟨p0, p1, k0, k1, k2, k3, N1, N2, hx, hy, s0, s1, s2, s3⟩ := isB_parts g
    clear hx hy
    obtain ⟨P, rfl⟩ := Int.eq_ofNat_of_zero_le (by omega : 0 ≤ p)
    rw [show ((P : Int)).toNat = P by simp]
    obtain ⟨e1, e2⟩ := rlB_two e
    have hU := fun W (q1 : IRow W a1 xs) (q2 : IRow W a2 ys) => l05All_any P c h s ra rb a1 a2 n1 n2 c1 c2 xs ys W h1 h2 q1 q2 g e1 e2
    unfold AllGot at hU
    obtain ⟨AO, hAO⟩ : ∃ z, allOk P h xs ys ra rb = z := ⟨_, rfl⟩
    obtain ⟨AA, hAA⟩ : ∃ z, allP P h xs ys ra rb = z := ⟨_, rfl⟩
    rw [hAO, hAA] at hU
    rw [hAO, hAA]
    have HC := Lib.hid hC
    have HU := Lib.hid hU
    clear hC hU hAO hAA g e e1 e2 g0
    obtain ⟨BV, BB, BR, hb, hz⟩ := three_new w #[.int .i64 (P : Int), .int .i64 c, .int .i64 h, .int .i64 s] #[.slice a1 n1 c1, .slice a2 n2 c2] #[.int .i64 ra, .int .i64 rb] 25 28 30
    clear hz
    obtain ⟨x0, x1, x2, x3, xf, xl⟩ := BV.four
    obtain ⟨y0, y1, yf, yl⟩ := BB.two
    obtain ⟨z0, z1, zf, zl⟩ := BR.two
    cases AO with
    | true =>
      rw [if_pos rfl, if_pos rfl]
      go_enter Tryz.func8, Tryz.ntmps8
      go_wp2_with (first | (go_at_call 24; refine (HC.out _ (r1.below hb) (r2.below hb)).mono ?_; clear HC; rintro e w1 ⟨rfl, hb1⟩; obtain ⟨x0, x1, x2, x3, xf, xl⟩ := (BV.below hb1).four; obtain ⟨y0, y1, yf, yl⟩ := (BB.below hb1).two; obtain ⟨z0, z1, zf, zl⟩ := (BR.below hb1).two) | (go_at_call 25; refine (HU.out _ (r1.below (chain hb hb1)) (r2.below (chain hb hb1))).mono ?_; rintro e w2 ⟨aL, kL, L, rfl, hLm, hLO, hLA, hb2⟩))
      go_ret2
      exact ⟨aL, kL, L, rfl, hLm, hLO.mono (chain hb hb1).size (Nat.le_refl _), hLA.mono (chain hb hb1).size (Nat.le_refl _), chain (chain hb hb1) hb2⟩
    | false =>
      rw [if_neg (by simp), if_neg (by simp)]
      go_enter Tryz.func8, Tryz.ntmps8
      go_wp2_with (first | (go_at_call 24; refine (HC.out _ (r1.below hb) (r2.below hb)).mono ?_; clear HC; rintro e w1 ⟨rfl, hb1⟩; obtain ⟨x0, x1, x2, x3, xf, xl⟩ := (BV.below hb1).four; obtain ⟨y0, y1, yf, yl⟩ := (BB.below hb1).two; obtain ⟨z0, z1, zf, zl⟩ := (BR.below hb1).two) | (go_at_call 25; refine (HU.out _ (r1.below (chain hb hb1)) (r2.below (chain hb hb1))).mono ?_; rintro e w2 ⟨aL, kL, L, rfl, hLm, hLO, hLA, hb2⟩))
      go_ret2
      exact ⟨some ⟨w2.heap.size, 0, none⟩, 0, [], rfl, rfl, .inr ⟨w2.heap.size, rfl, (chain (chain hb hb1) hb2).size, by simp, #[], Blk.new w2 #[] 44, by simp [plsC], rfl⟩, PAll.nil _ _ _, (chain (chain hb hb1) hb2).alloc (chain (chain hb hb1) hb2).size _⟩
  · rw [if_neg g0, if_neg g0]
    obtain ⟨q, hq⟩ : ∃ q, codeB p c h s xs ys ra rb = q := ⟨_, rfl⟩
    rw [hq] at hC g0 ⊢
    have f0 : (q != 0) = true := by rw [bne_iff_ne]; exact g0
    have HC := Lib.hid hC
    clear hC hq
    obtain ⟨BV, BB, BR, hb, hz⟩ := three_new w #[.int .i64 p, .int .i64 c, .int .i64 h, .int .i64 s] #[.slice a1 n1 c1, .slice a2 n2 c2] #[.int .i64 ra, .int .i64 rb] 25 28 30
    clear hz
    obtain ⟨x0, x1, x2, x3, xf, xl⟩ := BV.four
    obtain ⟨y0, y1, yf, yl⟩ := BB.two
    obtain ⟨z0, z1, zf, zl⟩ := BR.two
    go_enter Tryz.func8, Tryz.ntmps8
    go_wp2_with (first | (go_at_call 24; refine (HC.out _ (r1.below hb) (r2.below hb)).mono ?_; clear HC; rintro e w1 ⟨rfl, hb1⟩; obtain ⟨x0, x1, x2, x3, xf, xl⟩ := (BV.below hb1).four; obtain ⟨y0, y1, yf, yl⟩ := (BB.below hb1).two; obtain ⟨z0, z1, zf, zl⟩ := (BR.below hb1).two))
    go_ret2
    exact ⟨some ⟨w1.heap.size, 0, none⟩, 0, [], rfl, rfl, .inr ⟨w1.heap.size, rfl, (chain hb hb1).size, by simp, #[], Blk.new w1 #[] 44, by simp [plsC], rfl⟩, PAll.nil _ _ _, (chain hb hb1).alloc (chain hb hb1).size _⟩
def ifV (p c h s : Int) (xs ys : List Int) (ra rb : Int) : Value := .tuple #[.bool (decide ((apL p c h s xs ys ra rb).length = 1)), .int .i64 (apC p c h s xs ys ra rb)]
theorem longP_ne (P : Nat) (h : Int) : ∀ (o : List Int) (l : List Ply), l ≠ [] → longP P h o l ≠ []
  | [], l, hl => hl
  | d :: ds, l, hl => by
    rw [longP]
    split
    · exact hl
    · rename_i e
      exact longP_ne P h ds _ e
theorem addP_ne (out : List Ply) (p : Ply) (h : out ≠ []) : addP out p ≠ [] := by
  unfold addP
  split
  · exact h
  · simp
theorem addAll_keep : ∀ (l out : List Ply), out ≠ [] → addAll out l ≠ []
  | [], out, h => h
  | x :: l, out, h => addAll_keep l (addP out x) (addP_ne out x h)
theorem addAll_ne (l : List Ply) (h : l ≠ []) : addAll [] l ≠ [] := by
  cases l with
  | nil => exact absurd rfl h
  | cons x l => exact addAll_keep l (addP [] x) (by unfold addP; simp)
def legalO (P : Nat) (h : Int) (xs ys : List Int) (U : Nat) (OS : List (List Int)) : List (List Int) :=
  if U = 1 then (OS.filter (fun o => longN P h o (startP xs ys) == U)).take 1 else OS.filter (fun o => longN P h o (startP xs ys) == U)
theorem legalO_all (P : Nat) (h : Int) (xs ys : List Int) (U : Nat) (ra rb : Int) :
    addAll [] ((legalO P h xs ys U (ordersP ra rb)).flatMap (fun o => longP P h o (startP xs ys))) = allTo P h xs ys U (ordersP ra rb) (ordersP ra rb).length := by
  have hne : ∀ o, 0 < (addAll [] (longP P h o (startP xs ys))).length := fun o => List.length_pos_iff.2 (addAll_ne _ (longP_ne P h o _ (by simp [startP])))
  unfold ordersP
  split
  · rename_i e
    by_cases e1 : longN P h [ra, ra, ra, ra] (startP xs ys) = U
    · by_cases e2 : U = 1 <;> simp [legalO, allTo, allStep, e1, e2]
    · by_cases e2 : U = 1
      · subst e2
        simp [legalO, allTo, allStep, e1, addAll]
      · simp [legalO, allTo, allStep, e1, e2, addAll]
  · rename_i e
    have n1 := hne [ra, rb]
    by_cases e1 : longN P h [ra, rb] (startP xs ys) = U
    · by_cases e3 : longN P h [rb, ra] (startP xs ys) = U
      · by_cases e2 : U = 1
        · subst e2
          simp [legalO, allTo, allStep, e1, e3, n1]
        · simp [legalO, allTo, allStep, e1, e3, e2, addAll_append]
      · by_cases e2 : U = 1
        · subst e2
          simp [legalO, allTo, allStep, e1, e3]
        · simp [legalO, allTo, allStep, e1, e3, e2]
    · by_cases e3 : longN P h [rb, ra] (startP xs ys) = U
      · by_cases e2 : U = 1
        · subst e2
          simp [legalO, allTo, allStep, e1, e3]
        · simp [legalO, allTo, allStep, e1, e3, e2]
      · by_cases e2 : U = 1
        · subst e2
          simp [legalO, allTo, allStep, e1, e3, addAll]
        · simp [legalO, allTo, allStep, e1, e3, e2, addAll]
theorem levels_ne (P : Nat) (h : Int) : ∀ (o : List Int) (l : List Ply), l ≠ [] → ∀ m ∈ levels P h o l, m ≠ []
  | [], l, hl, m, hm => by simp [levels] at hm; rw [hm]; exact hl
  | d :: ds, l, hl, m, hm => by
    rw [levels] at hm
    rcases List.mem_cons.1 hm with rfl | hm
    · exact hl
    · split at hm
      · simp at hm
      · rename_i e
        exact levels_ne P h ds _ e m hm
theorem levels_steps (P : Nat) (h : Int) : ∀ (o : List Int) (l : List Ply) (n : Nat), (∀ q ∈ l, q.1.length ≤ n) → ∀ m ∈ levels P h o l, ∀ q ∈ m, q.1.length ≤ n + o.length
  | [], l, n, hl, m, hm => by simp [levels] at hm; rw [hm]; exact hl
  | d :: ds, l, n, hl, m, hm => by
    rw [levels] at hm
    rcases List.mem_cons.1 hm with rfl | hm
    · intro q hq; have := hl q hq; simp; omega
    · split at hm
      · simp at hm
      · intro q hq
        have := levels_steps P h ds _ (n + 1) (fun q hq => by
          rcases addAll_mem hq with h2 | h2
          · simp at h2
          · obtain ⟨p, hp, hq⟩ := List.mem_flatMap.1 h2
            obtain ⟨t, _, rfl⟩ := List.mem_map.1 hq
            have := hl p hp
            simp [oneMore]
            omega) m hm q hq
        rw [List.length_cons]
        omega
theorem levels_small {P : Nat} (hP : P ≤ 24) (h : Int) (o : List Int) (xs ys : List Int) (ho : o.length ≤ 4) : ∀ m ∈ levels P h o (startP xs ys), m.length ≤ 390625 := by
  have h1 : ∀ (o : List Int) (l : List Ply), ∀ m ∈ levels P h o l, m.length ≤ l.length * 25 ^ o.length := by
    intro o
    induction o with
    | nil => intro l m hm; simp [levels] at hm; rw [hm]; simp
    | cons d ds ih =>
      intro l m hm
      have hp : 0 < 25 ^ ds.length := Nat.pow_pos (by omega)
      rw [levels] at hm
      rw [List.length_cons, Nat.pow_succ]
      rcases List.mem_cons.1 hm with rfl | hm
      · have : m.length * 1 ≤ m.length * (25 ^ ds.length * 25) := Nat.mul_le_mul_left _ (by omega)
        omega
      · split at hm
        · simp at hm
        · have e1 := ih _ m hm
          have e2 := nextP_length P h d l
          have e3 : l.length * (P + 1) ≤ l.length * 25 := Nat.mul_le_mul_left _ (by omega)
          have e4 : (nextP P h d l).length * 25 ^ ds.length ≤ l.length * 25 * 25 ^ ds.length := Nat.mul_le_mul_right _ (by omega)
          have e5 : l.length * 25 * 25 ^ ds.length = l.length * (25 ^ ds.length * 25) := by rw [Nat.mul_assoc, Nat.mul_comm 25]
          omega
  intro m hm
  have e1 := h1 o _ m hm
  have e2 : 25 ^ o.length ≤ 25 ^ 4 := Nat.pow_le_pow_right (by omega) ho
  simp only [startP, List.length_cons, List.length_nil] at e1
  omega
structure Liss (P : Nat) (h : Int) (xs ys : List Int) (ra rb : Int) (L : List LI) : Prop where
  len : ∀ x ∈ L, x.2.2.2.length = longN P h x.1.2 (startP xs ys) + 1
  four : ∀ x ∈ L, x.1.2.length ≤ 4
  two : L.length ≤ 2
  pos : 0 < L.length
  used : usedL L = usedP P h xs ys ra rb
  low : ∀ i, usedLTo L i ≤ 4
  last : ∀ x ∈ L, (lastP x).map (·.2) = longP P h x.1.2 (startP xs ys)
  crowd : ∀ x ∈ L, crowdB x = !(fineP P h x.1.2 (startP xs ys))
  step : ∀ x ∈ L, ∀ y ∈ x.2.2.2, (∀ q ∈ y.2.2, q.2.1.length ≤ 4) ∧ 0 < y.2.2.length
theorem liss_of {P : Nat} {h ra rb : Int} {xs ys : List Int} {L : List LI} (hT : L.map (fun x => x.1.2) = ordersP ra rb) {F : LI → Prop} (hQ : ∀ x ∈ L, x.2.2.2.map (fun y => y.2.2.map (·.2)) = levels P h x.1.2 (startP xs ys) ∧ F x) : Liss P h xs ys ra rb L := by
  have hlen : ∀ x ∈ L, x.2.2.2.length = longN P h x.1.2 (startP xs ys) + 1 := fun x hx => by
    have := congrArg List.length (hQ x hx).1
    rwa [List.length_map, levels_length] at this
  have ho4 : ∀ x ∈ L, x.1.2.length ≤ 4 := fun x hx => by
    have hm : x.1.2 ∈ ordersP ra rb := by rw [← hT]; exact List.mem_map.2 ⟨x, hx, rfl⟩
    unfold ordersP at hm
    split at hm
    · simp at hm; rw [hm]; simp
    · simp at hm; rcases hm with h | h <;> rw [h] <;> simp
  have hll : L.length = (ordersP ra rb).length := by
    have := congrArg List.length hT
    rwa [List.length_map] at this
  refine ⟨hlen, ho4, by rw [hll]; exact ordersP_length ra rb, by rw [hll]; unfold ordersP; split <;> simp, usedL_levels P h xs ys _ L hT (fun x hx => (hQ x hx).1), fun i => ?_, fun x hx => ?_, fun x hx => ?_, fun x hx y hy => ⟨fun q hq => ?_, ?_⟩⟩
  · have e : usedLTo L i = usedTo P h xs ys (ordersP ra rb) i := by
      unfold usedLTo usedTo
      refine usedL_levels P h xs ys _ _ ?_ (fun x hx => (hQ x (List.mem_of_mem_take hx)).1)
      rw [← hT, List.map_take]
    rw [e]
    exact usedTo_le P h xs ys ra rb i
  · have hl := levels_last P h x.1.2 (startP xs ys)
    rw [← (hQ x hx).1, List.getElem?_map] at hl
    unfold lastP
    rw [hlen x hx, Nat.add_sub_cancel]
    cases e : x.2.2.2[longN P h x.1.2 (startP xs ys)]? with
    | none => rw [e] at hl; simp at hl
    | some y => rw [e] at hl; simpa using hl
  · rw [← levels_fine P h x.1.2 (startP xs ys) (by simp [startP]), ← (hQ x hx).1]
    unfold crowdB
    rw [List.all_map, Bool.eq_iff_iff]
    simp [Function.comp_def]
  · have := levels_steps P h x.1.2 (startP xs ys) 0 (fun q hq => by simp [startP] at hq; rw [hq]; simp) (y.2.2.map (·.2)) (by rw [← (hQ x hx).1]; exact List.mem_map.2 ⟨y, hy, rfl⟩) q.2 (List.mem_map.2 ⟨q, hq, rfl⟩)
    have h4 := ho4 x hx
    omega
  · have := levels_ne P h x.1.2 (startP xs ys) (by simp [startP]) (y.2.2.map (·.2)) (by rw [← (hQ x hx).1]; exact List.mem_map.2 ⟨y, hy, rfl⟩)
    exact List.length_pos_iff.2 (fun e => this (by rw [e]; rfl))
theorem Liss.seqs {P : Nat} {h ra rb : Int} {xs ys : List Int} {L : List LI} (i : Liss P h xs ys ra rb L) (hT : L.map (fun x => x.1.2) = ordersP ra rb) :
    addAll [] (((legalL L).flatMap lastP).map (·.2)) = allP P h xs ys ra rb := by
  unfold allP
  rw [← legalO_all]
  congr 1
  have hk : (keepL (usedP P h xs ys ra rb) L).map (fun x => x.1.2) = (ordersP ra rb).filter (fun o => longN P h o (startP xs ys) == usedP P h xs ys ra rb) := by
    unfold keepL
    rw [← hT, List.filter_map]
    congr 1
    refine List.filter_congr fun x hx => ?_
    rw [i.len x hx, Nat.add_sub_cancel]
    rfl
  have hl : (legalL L).map (fun x => x.1.2) = legalO P h xs ys (usedP P h xs ys ra rb) (ordersP ra rb) := by
    unfold legalL legalO
    rw [i.used]
    split
    · rw [List.map_take, hk]
    · exact hk
  rw [← hl, List.map_flatMap, List.flatMap_map]
  rw [List.flatMap_def, List.flatMap_def]
  congr 1
  exact List.map_congr_left fun x hx => i.last x (legalL_mem hx).1
theorem Liss.ok {P : Nat} {h ra rb : Int} {xs ys : List Int} {L : List LI} (i : Liss P h xs ys ra rb L) (hT : L.map (fun x => x.1.2) = ordersP ra rb) : L.any crowdB = !(allOk P h xs ys ra rb) := by
  have h1 : L.any crowdB = L.any (fun x => !(fineP P h x.1.2 (startP xs ys))) := by
    rw [Bool.eq_iff_iff, List.any_eq_true, List.any_eq_true]
    constructor
    · rintro ⟨x, hx, e⟩; exact ⟨x, hx, by rw [← i.crowd x hx]; exact e⟩
    · rintro ⟨x, hx, e⟩; exact ⟨x, hx, by rw [i.crowd x hx]; exact e⟩
  have h2 : L.any (fun x => !(fineP P h x.1.2 (startP xs ys))) = (L.map (fun x => x.1.2)).any (fun o => !(fineP P h o (startP xs ys))) := by rw [List.any_map]; rfl
  rw [h1, h2, hT]
  unfold allOk ordersP
  split <;> simp [okTo, Bool.not_and]
theorem Liss.small {P : Nat} {h ra rb : Int} {xs ys : List Int} {L : List LI} (i : Liss P h xs ys ra rb L) (hP : P ≤ 24) (k : Nat) : (((legalL L).take k).flatMap lastP).length ≤ 1000000 := by
  have h1 : ∀ (M : List LI), (∀ x ∈ M, x ∈ L) → (M.flatMap lastP).length ≤ M.length * 390625 := by
    intro M
    induction M with
    | nil => intro _; simp
    | cons x M ih =>
      intro hM
      have e1 := ih (fun y hy => hM y (by simp [hy]))
      have e2 : (lastP x).length ≤ 390625 := by
        have := congrArg List.length (i.last x (hM x (by simp)))
        rw [List.length_map] at this
        rw [this]
        exact longP_four hP h _ xs ys (i.four x (hM x (by simp)))
      rw [List.flatMap_cons, List.length_append, List.length_cons]
      omega
  have h2 := h1 ((legalL L).take k) (fun x hx => (legalL_mem (List.mem_of_mem_take hx)).1)
  have h3 : ((legalL L).take k).length ≤ 2 := by
    rw [List.length_take]
    have := legalL_le L
    have := i.two
    omega
  omega
def PlaysGotD (ps : List Ply) (r : Int) (w : World) (e : Ending) (w' : World) : Prop :=
  ∃ (a : Option Addr) (k : Nat) (l : List PP), e = .returned (.tuple #[.slice a l.length k, .int .i64 r]) ∧ l.map Prod.snd = ps ∧ OPl w.heap.size w'.heap.size w' a l ∧ PAll w.heap.size w'.heap.size w' l ∧ l.Pairwise Dis ∧ Below w.heap.size w w'
def plL (P : Nat) (h : Int) (xs ys : List Int) (ra rb : Int) : List Ply := if allOk P h xs ys ra rb = true then allP P h xs ys ra rb else []
def plC2 (P : Nat) (h : Int) (xs ys : List Int) (ra rb : Int) : Int := if allOk P h xs ys ra rb = true then 0 else 3
set_option maxRecDepth 100000 in
set_option maxHeartbeats 4000000 in
theorem implPlaysD_any (P : Nat) (c h s ra rb : Int) (a1 a2 : Option Addr) (n1 n2 c1 c2 : Nat) (xs ys : List Int) (w : World) (h1 : xs.length = n1) (h2 : ys.length = n2) (r1 : IRow w a1 xs) (r2 : IRow w a2 ys) (g : isB (P : Int) c h s xs ys = true) (ha : inB ra 1 s = true) (hbb : inB rb 1 s = true) :
    Calls Tryz.prog 23 #[.agg #[.int .i64 (P : Int), .int .i64 c, .int .i64 h, .int .i64 s], .agg #[.slice a1 n1 c1, .slice a2 n2 c2], .agg #[.int .i64 ra, .int .i64 rb]] w (PlaysGotD (plL P h xs ys ra rb) (plC2 P h xs ys ra rb) w) := by
  have hp24 : P ≤ 24 := by have := (isB_parts g).2.1; omega
  have hlo := fun W (q1 : IRow W a1 xs) (q2 : IRow W a2 ys) => listingsOf_any P c h s ra rb a1 a2 n1 n2 c1 c2 xs ys W h1 h2 q1 q2 g ha hbb
  have HLO := Lib.hid hlo
  clear hlo g ha hbb
  obtain ⟨PS, hPS⟩ : ∃ z, plL P h xs ys ra rb = z := ⟨_, rfl⟩
  obtain ⟨PC, hPC⟩ : ∃ z, plC2 P h xs ys ra rb = z := ⟨_, rfl⟩
  rw [hPS, hPC]
  unfold plL at hPS
  unfold plC2 at hPC
  have HPS := Lib.hid hPS
  have HPC := Lib.hid hPC
  clear hPS hPC
  obtain ⟨BV, BB, BR, hb, hz⟩ := three_new w #[.int .i64 (P : Int), .int .i64 c, .int .i64 h, .int .i64 s] #[.slice a1 n1 c1, .slice a2 n2 c2] #[.int .i64 ra, .int .i64 rb] 25 28 30
  clear hz
  replace r1 := r1.below hb
  replace r2 := r2.below hb
  obtain ⟨x0, x1, x2, x3, xf, xl⟩ := BV.four
  obtain ⟨y0, y1, yf, yl⟩ := BB.two
  obtain ⟨z0, z1, zf, zl⟩ := BR.two
  go_enter Tryz.func23, Tryz.ntmps23
  go_wp2_with fail
  clear x0 x1 x2 x3 xf xl y0 y1 yf yl z0 z1 zf zl
  generalize (((w.alloc (.cells #[.int .i64 (P : Int), .int .i64 c, .int .i64 h, .int .i64 s] 25)).alloc (.cells #[.slice a1 n1 c1, .slice a2 n2 c2] 28)).alloc (.cells #[.int .i64 ra, .int .i64 rb] 30)) = v0 at *
  refine (HLO.out _ r1 r2).mono ?_
  rintro e w1 ⟨gL, kL, L, rfl, hgL, hgz, hV, hA, hT, hQ, hDL, hb1⟩
  clear HLO
  have hLi := liss_of hT hQ
  have hok := hLi.ok hT
  have hseq := hLi.seqs hT
  have hL2 := hLi.two
  have hcon := containsI_any gL kL L 50 #[] crowdB w1 (by omega) hV isCrowded_enter (fun W hW x hx => isCrowded_any x W ((hA x hx).2.2.2.1.below hW) (by have := hLi.len x hx; have := hLi.four x hx; have := longN_le P h x.1.2 (startP xs ys); omega) (fun y hy => by
    have hm : y.2.2.map (·.2) ∈ x.2.2.2.map (fun y => y.2.2.map (·.2)) := List.mem_map.2 ⟨y, hy, rfl⟩
    rw [(hQ x hx).1] at hm
    have := levels_small hp24 h x.1.2 xs ys (hLi.four x hx) _ hm
    rw [List.length_map] at this
    omega))
  obtain ⟨OK, hOK⟩ : ∃ b, allOk P h xs ys ra rb = b := ⟨_, rfl⟩
  rw [hOK] at hok
  rw [hok] at hcon
  have hps := HPS.out
  have hpc := HPC.out
  rw [hOK] at hps hpc
  clear HPS HPC
  have HCON := Lib.hid hcon
  have HLI := Lib.hid hLi
  have HSEQ := Lib.hid hseq
  have HA := Lib.hid hA
  have HQ := Lib.hid hQ
  have HDL := Lib.hid hDL
  clear hcon hLi hseq hA hQ hok hOK hT hDL
  have hb01 := chain hb hb1
  cases OK with
  | false =>
    rw [if_neg (by simp)] at hps hpc
    subst hps hpc
    go_wp2_with fail
    refine (HCON.out).mono ?_
    rintro e w2 ⟨rfl, hb2⟩
    go_wp2
    go_ret2
    exact ⟨none, 0, [], rfl, rfl, .inl ⟨rfl, rfl⟩, PAll.nil _ _ _, List.Pairwise.nil, chain hb01 hb2⟩
  | true =>
    rw [if_pos rfl] at hps hpc
    subst hps hpc
    go_wp2_with fail
    refine (HCON.out).mono ?_
    rintro e w2 ⟨rfl, hb2⟩
    have hvs := hb.size
    have hws := hb1.size
    have hls := (hb01).size
    have hlp := lplays_any P c h s v0.heap.size 4 gL kL L w2 hp24 (by have := hb2.size; omega) (hV.below hb2) ((HA.out.below hb2).mono (Nat.le_refl _) hb2.size) (fun x hx => by
      have h4 := HLI.out.four x hx
      have h5 := longN_le P h x.1.2 (startP xs ys)
      have h6 := HLI.out.len x hx
      omega) (by omega) (by have := HLI.out.low L.length; unfold usedLTo at this; rw [List.take_length] at this; omega) (fun i => by have := HLI.out.low i; omega) HLI.out.pos (fun x hx y hy => ⟨((HQ.out x hx).2 y hy).1, (HLI.out.step x hx y hy).1, (HLI.out.step x hx y hy).2, ((HQ.out x hx).2 y hy).2⟩) HDL.out (HLI.out.small hp24)
    have HLP := Lib.hid hlp
    clear hlp
    go_wp2_with fail
    refine (HLP.out).mono ?_
    rintro e w3 ⟨b, kb, LL, zs, rfl, hzs, hLz, hOPL, hPAL, hLq, hDs, hb3⟩
    have HLZ := Lib.hid (show LL.map Prod.snd = allP P h xs ys ra rb from by rw [← HSEQ.out, ← hzs]; exact hLz)
    clear hLz hzs hLq HLP HCON
    go_wp2
    go_ret2
    exact ⟨b, kb, LL, rfl, HLZ.out, hOPL.mono (by have := hb2.size; omega) (Nat.le_refl _), hPAL.mono (by omega) (Nat.le_refl _), hDs, chain (chain hb01 hb2) hb3⟩
theorem legalO_of {P : Nat} {h ra rb : Int} {xs ys : List Int} {L : List LI} (hL : Liss P h xs ys ra rb L) (hT : L.map (fun x => x.1.2) = ordersP ra rb) : (legalL L).map (fun x => x.1.2) = legalO P h xs ys (usedP P h xs ys ra rb) (ordersP ra rb) := by
  have hf : (L.filter (fun x => x.2.2.2.length - 1 == usedP P h xs ys ra rb)).map (fun x => x.1.2) = (L.map (fun x => x.1.2)).filter (fun o => longN P h o (startP xs ys) == usedP P h xs ys ra rb) := by
    rw [List.filter_map]
    congr 1
    apply List.filter_congr
    intro x hx
    rw [hL.len x hx]
    simp
  unfold legalL keepL legalO
  rw [hL.used, ← hT]
  split
  · rw [List.map_take, hf]
  · exact hf
def psO (P : Nat) (h s : Int) (xs ys : List Int) (ra rb : Int) (ts : List Stp) : Option (List Int × List Int) := if ts.length = usedP P h xs ys ra rb then firstF P h s xs ys ts (legalO P h xs ys (usedP P h xs ys ra rb) (ordersP ra rb)) else none
def psR (p c h s : Int) (xs ys : List Int) (ra rb : Int) (ts : List Stp) : Option (List Int × List Int) := if codeB p c h s xs ys ra rb = 0 then psO p.toNat h s xs ys ra rb ts else none
def psK (p c h s : Int) (xs ys : List Int) (ra rb : Int) : Int := if codeB p c h s xs ys ra rb = 0 then 5 else codeB p c h s xs ys ra rb
def PsGot (r : Option (List Int × List Int)) (k : Int) (w : World) (e : Ending) (w' : World) : Prop := match r with
  | some b => ∃ g1 g2, e = .returned (.tuple #[.agg #[.slice (some ⟨g1, 0, none⟩) b.1.length b.1.length, .slice (some ⟨g2, 0, none⟩) b.2.length b.2.length], .int .i64 0]) ∧ w.heap.size ≤ g1 ∧ w.heap.size ≤ g2 ∧ g1 ≠ g2 ∧ Row w' g1 b.1 ∧ Row w' g2 b.2 ∧ Below w.heap.size w w'
  | none => e = .returned (.tuple #[.agg #[.slice none 0 0, .slice none 0 0], .int .i64 k]) ∧ Below w.heap.size w w'
theorem four_newB (w : World) (a b c d : Array Value) (t1 t2 t3 t4 : TypeId) :
    Blk ((((w.alloc (.cells a t1)).alloc (.cells b t2)).alloc (.cells c t3)).alloc (.cells d t4)) w.heap.size a t1 ∧
    Blk ((((w.alloc (.cells a t1)).alloc (.cells b t2)).alloc (.cells c t3)).alloc (.cells d t4)) (w.heap.size + 1) b t2 ∧
    Blk ((((w.alloc (.cells a t1)).alloc (.cells b t2)).alloc (.cells c t3)).alloc (.cells d t4)) (w.heap.size + 1 + 1) c t3 ∧
    Blk ((((w.alloc (.cells a t1)).alloc (.cells b t2)).alloc (.cells c t3)).alloc (.cells d t4)) (w.heap.size + 1 + 1 + 1) d t4 ∧
    Below w.heap.size w ((((w.alloc (.cells a t1)).alloc (.cells b t2)).alloc (.cells c t3)).alloc (.cells d t4)) := by
  have h1 := Blk.new w a t1
  have h2 := Blk.new (w.alloc (.cells a t1)) b t2
  have h3 := Blk.new ((w.alloc (.cells a t1)).alloc (.cells b t2)) c t3
  have h4 := Blk.new (((w.alloc (.cells a t1)).alloc (.cells b t2)).alloc (.cells c t3)) d t4
  rw [World.size_alloc] at h2
  rw [World.size_alloc, World.size_alloc] at h3
  rw [World.size_alloc, World.size_alloc, World.size_alloc] at h4
  refine ⟨((h1.alloc _).alloc _).alloc _, (h2.alloc _).alloc _, h3.alloc _, h4, ?_⟩
  exact ((((Below.refl _ _).alloc (Nat.le_refl _) _).alloc (by simp) _).alloc (by simp; omega) _).alloc (by simp; omega) _
set_option maxRecDepth 100000 in
set_option maxHeartbeats 3000000 in
theorem implPlaySteps_any (p c h s : Int) (a1 a2 : Option Addr) (n1 n2 c1 c2 : Nat) (xs ys : List Int) (ra rb : Int) (at_ : Option Addr) (nt ct : Nat) (ts : List Stp) (w : World) (h1 : xs.length = n1) (h2 : ys.length = n2) (l1 : n1 ≤ 1048576) (l2 : n2 ≤ 1048576) (r1 : IRow w a1 xs) (r2 : IRow w a2 ys) (hts : ts.length = nt) (hle : nt ≤ 1048576) (rt : 0 < nt → ∃ gt, at_ = some ⟨gt, 0, none⟩ ∧ SRow w gt ts) :
    Calls Tryz.prog 11 #[.agg #[.int .i64 p, .int .i64 c, .int .i64 h, .int .i64 s], .agg #[.slice a1 n1 c1, .slice a2 n2 c2], .agg #[.int .i64 ra, .int .i64 rb], .slice at_ nt ct] w (PsGot (psR p c h s xs ys ra rb ts) (psK p c h s xs ys ra rb) w) := by
  subst h1 h2
  have hrc := fun W (q1 : IRow W a1 xs) (q2 : IRow W a2 ys) => rollCode_any ra rb p c h s a1 a2 _ _ c1 c2 xs ys W rfl rfl l1 l2 q1 q2
  have HRT := Lib.hid rt
  have HTS := Lib.hid hts
  obtain ⟨BV, BB, BR, BO, hb⟩ := four_newB w #[.int .i64 p, .int .i64 c, .int .i64 h, .int .i64 s] #[.slice a1 xs.length c1, .slice a2 ys.length c2] #[.int .i64 ra, .int .i64 rb] #[.slice none 0 0, .slice none 0 0] 25 28 30 28
  replace r1 := r1.below hb
  replace r2 := r2.below hb
  clear rt hts
  obtain ⟨x0, x1, x2, x3, xf, xl⟩ := BV.four; obtain ⟨y0, y1, yf, yl⟩ := BB.two; obtain ⟨u0, u1, uf, ul⟩ := BR.two
  by_cases k0 : codeB p c h s xs ys ra rb = 0
  · have e1 : psR p c h s xs ys ra rb ts = psO p.toNat h s xs ys ra rb ts := by unfold psR; rw [if_pos k0]
    have e2 : psK p c h s xs ys ra rb = 5 := by unfold psK; rw [if_pos k0]
    rw [e1, e2]
    rw [k0] at hrc
    have g : isB p c h s xs ys = true := by
      by_cases g : isB p c h s xs ys = true
      · exact g
      · unfold codeB at k0; rw [if_neg g] at k0; cases k0
    have gr : rlB s ra rb = true := by
      unfold codeB at k0
      rw [if_pos g] at k0
      by_cases gr : rlB s ra rb = true
      · exact gr
      · rw [if_neg gr] at k0; cases k0
    obtain ⟨P, rfl⟩ := Int.eq_ofNat_of_zero_le (by have := (isB_parts g).1; omega : 0 ≤ p)
    rw [show ((P : Nat) : Int).toNat = P from rfl]
    obtain ⟨ga, gbb⟩ := rlB_two gr
    have hlo := fun W (q1 : IRow W a1 xs) (q2 : IRow W a2 ys) => listingsOf_any P c h s ra rb a1 a2 _ _ c1 c2 xs ys W rfl rfl q1 q2 g ga gbb
    obtain ⟨R, hR⟩ : ∃ R, psO P h s xs ys ra rb ts = R := ⟨_, rfl⟩
    rw [hR]
    have HR := Lib.hid hR
    have HRC := Lib.hid hrc
    have HLO := Lib.hid hlo
    have HG := Lib.hid g
    clear hrc hlo hR e1 e2 k0 g gr ga gbb
    go_enter Tryz.func11, Tryz.ntmps11
    go_wp2_with fail
    generalize ((((w.alloc (.cells #[.int .i64 (P : Int), .int .i64 c, .int .i64 h, .int .i64 s] 25)).alloc (.cells #[.slice a1 xs.length c1, .slice a2 ys.length c2] 28)).alloc (.cells #[.int .i64 ra, .int .i64 rb] 30)).alloc (.cells #[.slice none 0 0, .slice none 0 0] 28)) = v0 at *
    go_wp2_with (first | (go_at_call 22; refine (HRC.out _ r1 r2).mono ?_; rintro e w1 ⟨rfl, hb1⟩; replace BV := BV.below hb1; replace BB := BB.below hb1; replace BR := BR.below hb1; replace BO := BO.below hb1; replace r1 := r1.below hb1; replace r2 := r2.below hb1; replace hb := chain hb hb1; clear x0 x1 x2 x3 xf xl y0 y1 yf yl u0 u1 uf ul; obtain ⟨x0, x1, x2, x3, xf, xl⟩ := BV.four; obtain ⟨y0, y1, yf, yl⟩ := BB.two; obtain ⟨u0, u1, uf, ul⟩ := BR.two) | (go_at_call 26; refine (HLO.out _ r1 r2).mono ?_; rintro e w2 ⟨gL, kL, L, rfl, hgL, hgL2, VL, LA, hT, hQ, hP, hb2⟩; replace BV := BV.below hb2; replace BB := BB.below hb2; replace BR := BR.below hb2; replace BO := BO.below hb2; replace r1 := r1.below hb2; replace r2 := r2.below hb2; replace hb := chain hb hb2; clear x0 x1 x2 x3 xf xl y0 y1 yf yl u0 u1 uf ul; obtain ⟨x0, x1, x2, x3, xf, xl⟩ := BV.four; obtain ⟨y0, y1, yf, yl⟩ := BB.two; obtain ⟨u0, u1, uf, ul⟩ := BR.two))
    have hLi := liss_of (h := h) hT hQ
    have hOO := legalO_of hLi hT
    have hmem := fun x (hx : x ∈ legalL L) => legalL_mem hx
    have hlen : ∀ x ∈ L, 0 < x.2.2.2.length ∧ x.2.2.2.length ≤ 1000 := fun x hx => by
      have q1 := hLi.len x hx
      have q2 := longN_le P h x.1.2 (startP xs ys)
      have q3 := hLi.four x hx
      omega
    have hU4 : usedL L ≤ 1000 := by have := hLi.low L.length; unfold usedLTo at this; rw [List.take_length] at this; omega
    have hLG := legal_any gL kL L w2 VL hlen (by have := hLi.two; omega) hU4 (fun i => by have := hLi.low i; omega) hLi.pos
    have RO : ∀ x ∈ L, Row w2 x.1.1 x.1.2 := fun x hx => (LA x hx).1
    have hRR : R = if nt = usedP P h xs ys ra rb then firstF P h s xs ys ts ((legalL L).map (fun x => x.1.2)) else none := by
      rw [hOO, ← HR.out, psO, HTS.out]
    have hux : ∀ x ∈ legalL L, x.2.2.2.length - 1 = usedP P h xs ys ra rb ∧ x.1.2.length ≤ 4 ∧ usedP P h xs ys ra rb ≤ x.1.2.length := fun x hx => by
      obtain ⟨m1, m2⟩ := hmem x hx
      have q1 := hLi.len x m1
      have q2 := longN_le P h x.1.2 (startP xs ys)
      have q3 := hLi.four x m1
      have q4 := hLi.used
      omega
    obtain ⟨U, hU⟩ : ∃ U, usedP P h xs ys ra rb = U := ⟨_, rfl⟩
    rw [hU] at hRR hux
    unfold LegGot at hLG
    obtain ⟨LG, hLGe⟩ : ∃ z, legalL L = z := ⟨_, rfl⟩
    rw [hLGe] at hLG hRR hux hmem
    have hl2 : LG.length ≤ 2 := by
      rw [← hLGe]
      have q1 : (legalL L).length ≤ L.length := by
        unfold legalL keepL
        split
        · exact Nat.le_trans (by rw [List.length_take]; exact Nat.min_le_right _ _) (List.length_filter_le _ _)
        · exact List.length_filter_le _ _
      have := hLi.two
      omega
    have HLG := Lib.hid hLG
    have HUX := Lib.hid hux
    have HMEM := Lib.hid hmem
    have HLEN := Lib.hid hlen
    have HRR := Lib.hid hRR
    have HFO := Lib.hid (fun ox nox cox W ao (q1 : IRow W a1 xs) (q2 : IRow W a2 ys) => follow_any P c h s a1 a2 _ _ c1 c2 xs ys ao nox cox ox at_ nt ct ts W rfl rfl HG.out q1 q2)
    clear hLi hOO hmem hlen hU4 hLG hRR hux hU hLGe hT hQ hP LA VL
    clear x0 x1 x2 x3 xf xl y0 y1 yf yl u0 u1 uf ul
    refine (HLG.out).mono ?_
    rintro e w3 ⟨gG, kG, rfl, hgG, VG, hb3⟩
    replace BV := BV.below hb3
    replace BB := BB.below hb3
    replace BR := BR.below hb3
    replace BO := BO.below hb3
    replace r1 := r1.below hb3
    replace r2 := r2.below hb3
    replace hb := chain hb hb3
    replace RO : ∀ x ∈ L, Row w3 x.1.1 x.1.2 := fun x hx => (RO x hx).below hb3
    clear hb3 HLG
    go_wp2_with fail
    go_loopg [29] LG.length (fun m i wr => ∃ k : Nat, k ≤ LG.length ∧ m = LG.length - k ∧ i = .int .i64 k ∧ R = (if nt = U then firstF P h s xs ys ts ((LG.drop k).map (fun x => x.1.2)) else none) ∧ (∀ x ∈ L, Row wr x.1.1 x.1.2) ∧ VRow wr gG (LG.flatMap liC) 70 ∧ Blk wr w.heap.size #[.int .i64 (P : Int), .int .i64 c, .int .i64 h, .int .i64 s] 25 ∧ Blk wr (w.heap.size + 1) #[.slice a1 xs.length c1, .slice a2 ys.length c2] 28 ∧ Blk wr (w.heap.size + 1 + 1 + 1) #[.slice none 0 0, .slice none 0 0] 28 ∧ IRow wr a1 xs ∧ IRow wr a2 ys ∧ Below w.heap.size w wr)
    case atStart => exact ⟨0, by omega, by omega, rfl, HRR.out, RO, VG, BV, BB, BO, r1, r2, hb⟩
    case round =>
      clear RO VG BV BB BO BR r1 r2 hb
      obtain ⟨k, hk, hm, rfl, hRk, RO, VG, BV, BB, BO, r1, r2, hb⟩ := hrel
      have hB4w : w.heap.size + 1 + 1 + 1 < wr.heap.size := BO.lt
      by_cases hlt : k < LG.length
      · have hlt' : (k : Int) < (LG.length : Int) := by omega
        have hk0 : (0 : Int) ≤ (k : Int) := by omega
        have hk1 : (k : Int) ≤ 1000 := by omega
        obtain ⟨⟨⟨gx, ox⟩, gy, kx, lx⟩, hx⟩ : ∃ x, LG[k]? = some x := ⟨LG[k]'hlt, List.getElem?_eq_getElem hlt⟩
        have hxm := List.mem_of_getElem? hx
        obtain ⟨cx, cy⟩ := liRow VG k _ hx
        obtain ⟨ux, o4, uo⟩ := HUX.out _ hxm
        have xl := HMEM.out _ hxm
        have hxl := HLEN.out _ xl.1
        have Rx := RO _ xl.1
        have hdr : LG.drop k = ((gx, ox), gy, kx, lx) :: LG.drop (k + 1) := by
          rw [List.drop_eq_getElem_cons hlt]
          congr 1
          exact (List.getElem?_eq_some_iff.1 hx).2
        rw [hdr, List.map_cons, firstF] at hRk
        dsimp only at cx cy ux o4 uo hxl Rx hRk
        have hu1 := fun W => used1_any ((gx, ox), gy, kx, lx) W hxl.1 hxl.2
        dsimp only at hu1
        rw [ux] at hu1
        have HRK := Lib.hid hRk
        have HU1 := Lib.hid hu1
        have HO4 := Lib.hid (And.intro o4 uo)
        clear hRk hu1 hdr hx hxm xl hxl ux o4 uo
        obtain ⟨x0, x1, x2, x3, xf, xlt⟩ := BV.four
        obtain ⟨y0, y1, yf, ylt⟩ := BB.two
        have BX := Blk.new wr #[.slice (some ⟨gx, 0, none⟩) ox.length ox.length, .slice (some ⟨gy, 0, none⟩) lx.length kx] 70
        have hal : Below wr.heap.size wr (wr.alloc (.cells #[.slice (some ⟨gx, 0, none⟩) ox.length ox.length, .slice (some ⟨gy, 0, none⟩) lx.length kx] 70)) := (Below.refl _ _).alloc (Nat.le_refl _) _
        go_wp2_with fail
        clear cx cy x0 x1 x2 x3 xf xlt y0 y1 yf ylt
        replace RO : ∀ x ∈ L, Row (wr.alloc (.cells #[.slice (some ⟨gx, 0, none⟩) ox.length ox.length, .slice (some ⟨gy, 0, none⟩) lx.length kx] 70)) x.1.1 x.1.2 := fun x hx => (RO x hx).below hal
        replace VG := VRow.below VG hal
        replace BV := BV.below hal
        replace BB := BB.below hal
        replace BO := BO.below hal
        replace r1 := r1.below hal
        replace r2 := r2.below hal
        replace Rx := Rx.below hal
        replace hb := chain hb hal
        clear hal
        generalize (wr.alloc (.cells #[.slice (some ⟨gx, 0, none⟩) ox.length ox.length, .slice (some ⟨gy, 0, none⟩) lx.length kx] 70)) = v2 at *
        refine (HU1.out _).mono ?_
        rintro e w4 ⟨rfl, hb4⟩
        replace RO : ∀ x ∈ L, Row w4 x.1.1 x.1.2 := fun x hx => (RO x hx).below hb4
        replace VG := VRow.below VG hb4
        replace BV := BV.below hb4
        replace BB := BB.below hb4
        replace BO := BO.below hb4
        replace BX := BX.below hb4
        replace r1 := r1.below hb4
        replace r2 := r2.below hb4
        replace Rx := Rx.below hb4
        replace hb := chain hb hb4
        clear hb4 HU1
        by_cases hnu : nt = U
        · have f0 : ((nt : Int) != (U : Int)) = false := by rw [bne_eq_false_iff_eq]; omega
          have hfo := HFO.out ox ox.length ox.length w4 (some ⟨gx, 0, none⟩) r1 r2 rfl Rx.irow HTS.out (by have := HO4.out; omega) (by have := HO4.out; omega) (fun q => by
            obtain ⟨gt, e, SR⟩ := HRT.out q
            exact ⟨gt, e, VRow.below SR hb⟩)
          have hRk := HRK.out
          rw [if_pos hnu] at hRk
          unfold FolGot at hfo
          obtain ⟨x0, x1, x2, x3, xf, xlt⟩ := BV.four
          obtain ⟨y0, y1, yf, ylt⟩ := BB.two
          obtain ⟨b0, b1, bf, bl⟩ := BX.two
          cases hfn : folN P h s ox ts (xs, ys) with
          | some bd =>
            rw [hfn] at hfo hRk
            dsimp only at hfo hRk
            obtain ⟨X, Y⟩ := bd
            dsimp only at hfo
            have HFOk := Lib.hid hfo
            have HRS := Lib.hid hRk
            clear hfo hRk HRK hfn hnu
            go_wp2_with fail
            clear x0 x1 x2 x3 xf xlt y0 y1 yf ylt b0 b1 bf bl
            refine (HFOk.out).mono ?_
            rintro e w5 ⟨g1, g2, rfl, hg1, hg2, hne, R1, R2, hb5⟩
            have hz4 := hb.size
            replace BO := BO.below hb5
            replace hb := chain hb hb5
            have BY := Blk.new w5 #[.slice (some ⟨g1, 0, none⟩) X.length X.length, .slice (some ⟨g2, 0, none⟩) Y.length Y.length] 28
            have hal : Below w5.heap.size w5 (w5.alloc (.cells #[.slice (some ⟨g1, 0, none⟩) X.length X.length, .slice (some ⟨g2, 0, none⟩) Y.length Y.length] 28)) := (Below.refl _ _).alloc (Nat.le_refl _) _
            replace BO := BO.below hal
            replace R1 := R1.below hal
            replace R2 := R2.below hal
            replace hb := chain hb hal
            clear hb5 hal
            obtain ⟨y0, y1, yf, ylt⟩ := BY.two
            obtain ⟨z0, z1, zf, zl⟩ := BO.two
            have n1 := rowNe R1 BO (by decide)
            have n2 := rowNe R2 BO (by decide)
            go_wp2_with fail
            generalize (w5.alloc (.cells #[.slice (some ⟨g1, 0, none⟩) X.length X.length, .slice (some ⟨g2, 0, none⟩) Y.length Y.length] 28)) = v5 at *
            have MO := (BO.set (i := 0) (.slice (some ⟨g1, 0, none⟩) X.length X.length)).set (i := 1) (.slice (some ⟨g2, 0, none⟩) Y.length Y.length)
            simp only [List.setIfInBounds_toArray, List.set_cons_zero, List.set_cons_succ] at MO
            have hM := (hb.setCell (p := ⟨w.heap.size + 1 + 1 + 1, 0, none⟩) (by simp <;> omega) (.slice (some ⟨g1, 0, none⟩) X.length X.length)).setCell (p := ⟨w.heap.size + 1 + 1 + 1, 1, none⟩) (by simp <;> omega) (.slice (some ⟨g2, 0, none⟩) Y.length Y.length)
            have M1 := (R1.other (g := w.heap.size + 1 + 1 + 1) (o := 0) (v := .slice (some ⟨g1, 0, none⟩) X.length X.length) n1).other (g := w.heap.size + 1 + 1 + 1) (o := 1) (v := .slice (some ⟨g2, 0, none⟩) Y.length Y.length) n1
            have M2 := (R2.other (g := w.heap.size + 1 + 1 + 1) (o := 0) (v := .slice (some ⟨g1, 0, none⟩) X.length X.length) n2).other (g := w.heap.size + 1 + 1 + 1) (o := 1) (v := .slice (some ⟨g2, 0, none⟩) Y.length Y.length) n2
            clear y0 y1 yf ylt z0 z1 zf zl BO R1 R2 hb
            generalize ((v5.setCell ⟨w.heap.size + 1 + 1 + 1, 0, none⟩ (.slice (some ⟨g1, 0, none⟩) X.length X.length)).setCell ⟨w.heap.size + 1 + 1 + 1, 1, none⟩ (.slice (some ⟨g2, 0, none⟩) Y.length Y.length)) = we at *
            obtain ⟨z0, z1, zf, zl⟩ := MO.two
            refine bodyPost_ret (v := .tuple #[.agg #[.slice (some ⟨g1, 0, none⟩) X.length X.length, .slice (some ⟨g2, 0, none⟩) Y.length Y.length], .int .i64 0]) (by simp [results, Tryz.results11, go_sem, z0, z1]) rfl ?_
            rw [HRS.out]
            exact ⟨g1, g2, rfl, by omega, by omega, hne, M1, M2, hM⟩
          | none =>
            rw [hfn] at hfo hRk
            dsimp only at hfo hRk
            have HFOk := Lib.hid hfo
            have HRS := Lib.hid hRk
            have HNU := Lib.hid hnu
            clear hfo hRk HRK hfn hnu
            go_wp2_with fail
            clear x0 x1 x2 x3 xf xlt y0 y1 yf ylt b0 b1 bf bl
            refine (HFOk.out).mono ?_
            rintro e w5 ⟨rfl, hb5⟩
            have hal : Below w5.heap.size w5 (w5.alloc (.cells #[.slice none 0 0, .slice none 0 0] 28)) := (Below.refl _ _).alloc (Nat.le_refl _) _
            have hbt := hb5.trans (hal.mono hb5.size)
            replace RO : ∀ x ∈ L, Row (w5.alloc (.cells #[.slice none 0 0, .slice none 0 0] 28)) x.1.1 x.1.2 := fun x hx => (RO x hx).below hbt
            replace VG := VRow.below VG hbt
            replace BV := BV.below hbt
            replace BB := BB.below hbt
            replace BO := BO.below hbt
            replace r1 := r1.below hbt
            replace r2 := r2.below hbt
            replace hb := chain hb hbt
            clear hb5 hal hbt BX Rx
            go_wp2_with fail
            go_roundg (LG.length - (k + 1))
            case measure => omega
            case rel => exact ⟨k + 1, by omega, rfl, by go_num, by rw [if_pos HNU.out]; exact HRS.out, RO, VG, BV, BB, BO, r1, r2, hb⟩
        · have f0 : ((nt : Int) != (U : Int)) = true := by rw [bne_iff_ne]; omega
          have hRk := HRK.out
          rw [if_neg hnu] at hRk
          have HPR := Lib.hid hRk
          clear hRk HRK hnu
          obtain ⟨z0, z1, zf, zl⟩ := BO.two
          go_wp2_with fail
          have MO := (BO.set (i := 0) (.slice none 0 0)).set (i := 1) (.slice none 0 0)
          simp only [List.setIfInBounds_toArray, List.set_cons_zero, List.set_cons_succ] at MO
          have hM := (hb.setCell (p := ⟨w.heap.size + 1 + 1 + 1, 0, none⟩) (by simp <;> omega) (.slice none 0 0)).setCell (p := ⟨w.heap.size + 1 + 1 + 1, 1, none⟩) (by simp <;> omega) (.slice none 0 0)
          clear z0 z1 zf zl
          generalize ((w4.setCell ⟨w.heap.size + 1 + 1 + 1, 0, none⟩ (.slice none 0 0)).setCell ⟨w.heap.size + 1 + 1 + 1, 1, none⟩ (.slice none 0 0)) = we at *
          obtain ⟨z0, z1, zf, zl⟩ := MO.two
          refine bodyPost_ret (v := .tuple #[.agg #[.slice none 0 0, .slice none 0 0], .int .i64 5]) (by simp [results, Tryz.results11, go_sem, z0, z1]) rfl ?_
          rw [HPR.out]
          exact ⟨rfl, hM⟩
      · obtain rfl : k = LG.length := by omega
        have hlt' : ¬ ((LG.length : Nat) : Int) < (LG.length : Int) := by omega
        have hRk2 : R = none := by rw [hRk, List.drop_length]; split <;> rfl
        have HPR := Lib.hid hRk2
        clear hRk hRk2
        obtain ⟨z0, z1, zf, zl⟩ := BO.two
        go_wp2_with fail
        have MO := (BO.set (i := 0) (.slice none 0 0)).set (i := 1) (.slice none 0 0)
        simp only [List.setIfInBounds_toArray, List.set_cons_zero, List.set_cons_succ] at MO
        have hM := (hb.setCell (p := ⟨w.heap.size + 1 + 1 + 1, 0, none⟩) (by simp <;> omega) (.slice none 0 0)).setCell (p := ⟨w.heap.size + 1 + 1 + 1, 1, none⟩) (by simp <;> omega) (.slice none 0 0)
        clear z0 z1 zf zl
        generalize ((wr.setCell ⟨w.heap.size + 1 + 1 + 1, 0, none⟩ (.slice none 0 0)).setCell ⟨w.heap.size + 1 + 1 + 1, 1, none⟩ (.slice none 0 0)) = we at *
        obtain ⟨z0, z1, zf, zl⟩ := MO.two
        refine bodyPost_ret (v := .tuple #[.agg #[.slice none 0 0, .slice none 0 0], .int .i64 5]) (by simp [results, Tryz.results11, go_sem, z0, z1]) rfl ?_
        rw [HPR.out]
        exact ⟨rfl, hM⟩
  · have e1 : psR p c h s xs ys ra rb ts = none := by unfold psR; rw [if_neg k0]
    have e2 : psK p c h s xs ys ra rb = codeB p c h s xs ys ra rb := by unfold psK; rw [if_neg k0]
    obtain ⟨K, hK⟩ : ∃ K, codeB p c h s xs ys ra rb = K := ⟨_, rfl⟩
    rw [hK] at hrc e2 k0
    have f0 : (K != 0) = true := by rw [bne_iff_ne]; exact k0
    have HPR := Lib.hid e1
    have HPK := Lib.hid e2
    have HRC := Lib.hid hrc
    clear hrc e1 e2 k0 hK
    go_enter Tryz.func11, Tryz.ntmps11
    go_wp2_with (go_at_call 22; refine (HRC.out _ r1 r2).mono ?_; rintro e w1 ⟨rfl, hb1⟩; replace BV := BV.below hb1; replace BB := BB.below hb1; replace BR := BR.below hb1; replace BO := BO.below hb1; replace r1 := r1.below hb1; replace r2 := r2.below hb1; replace hb := chain hb hb1; clear x0 x1 x2 x3 xf xl y0 y1 yf yl u0 u1 uf ul; obtain ⟨x0, x1, x2, x3, xf, xl⟩ := BV.four; obtain ⟨y0, y1, yf, yl⟩ := BB.two; obtain ⟨u0, u1, uf, ul⟩ := BR.two; obtain ⟨z0, z1, zf, zl⟩ := BO.two)
    have MO := (BO.set (i := 0) (.slice none 0 0)).set (i := 1) (.slice none 0 0)
    simp only [List.setIfInBounds_toArray, List.set_cons_zero, List.set_cons_succ] at MO
    have hM := (hb.setCell (p := ⟨w.heap.size + 1 + 1 + 1, 0, none⟩) (by simp <;> omega) (.slice none 0 0)).setCell (p := ⟨w.heap.size + 1 + 1 + 1, 1, none⟩) (by simp <;> omega) (.slice none 0 0)
    clear z0 z1 zf zl
    generalize ((w1.setCell ⟨w.heap.size + 1 + 1 + 1, 0, none⟩ (.slice none 0 0)).setCell ⟨w.heap.size + 1 + 1 + 1, 1, none⟩ (.slice none 0 0)) = we at *
    obtain ⟨z0, z1, zf, zl⟩ := MO.two
    refine bodyPost_ret (v := .tuple #[.agg #[.slice none 0 0, .slice none 0 0], .int .i64 K]) (by simp [results, Tryz.results11, go_sem, z0, z1]) rfl ?_
    rw [HPR.out, HPK.out]
    exact ⟨rfl, hM⟩
end Go.Proofs.YtciljbnailobgaaGreat
