/- Texts of a proof, laid together: Contract of the program's plays of a roll, with the code of a list that is too long; the mathematics of both. Contracts of the program on all plays of a roll with their code, and on forced plays. Contracts of the library's equality of slices of numbers, and of the program's equality of boards. Contracts of the program and of its model on the place of a play. -/
import Derived.Test.YtokjkcnjmfbfiaaY28
import Derived.Test.YtokjkcnjmfbfiaaY20
import Derived.Test.YtokjkcnjmfbfiaaY18
import Derived.Test.YtokjkcnjmfbfiaaY01
import Derived.BigQuiet
import Derived.Laws.StructEq
import Derived.Test.YtokjkcnjmfbfiaaY22
namespace Go.Proofs.Ytokjkcnjmfbfiaa
open Go.ChangeShapes Go.WideShapes Go.ChangeAt Go.RowKit
set_option linter.unusedVariables false
set_option linter.unusedSimpArgs false
set_option maxRecDepth 4000

theorem longP_ne (P : Nat) (h : Int) : ∀ (o : List Int) (l : List Ply), l ≠ [] → longP P h o l ≠ []
  | [], l, hl => hl
  | d :: ds, l, hl => by
    rw [longP]
    split
    · exact hl
    · rename_i e
      exact longP_ne P h ds _ e
theorem addP_ne (out : List Ply) (p : Ply) (h : out ≠ []) : addP out p ≠ [] := by
  unfold addP
  split
  · exact h
  · simp
theorem addAll_keep : ∀ (l out : List Ply), out ≠ [] → addAll out l ≠ []
  | [], out, h => h
  | x :: l, out, h => addAll_keep l (addP out x) (addP_ne out x h)
theorem addAll_ne (l : List Ply) (h : l ≠ []) : addAll [] l ≠ [] := by
  cases l with
  | nil => exact absurd rfl h
  | cons x l => exact addAll_keep l (addP [] x) (by unfold addP; simp)
/-- The orders whose longest sequences are legal. -/
def legalO (P : Nat) (h : Int) (xs ys : List Int) (U : Nat) (OS : List (List Int)) : List (List Int) :=
  if U = 1 then (OS.filter (fun o => longN P h o (startP xs ys) == U)).take 1 else OS.filter (fun o => longN P h o (startP xs ys) == U)
theorem legalO_all (P : Nat) (h : Int) (xs ys : List Int) (U : Nat) (ra rb : Int) :
    addAll [] ((legalO P h xs ys U (ordersP ra rb)).flatMap (fun o => longP P h o (startP xs ys))) = allTo P h xs ys U (ordersP ra rb) (ordersP ra rb).length := by
  have hne : ∀ o, 0 < (addAll [] (longP P h o (startP xs ys))).length := fun o => List.length_pos_iff.2 (addAll_ne _ (longP_ne P h o _ (by simp [startP])))
  unfold ordersP
  split
  · rename_i e
    by_cases e1 : longN P h [ra, ra, ra, ra] (startP xs ys) = U
    · by_cases e2 : U = 1 <;> simp [legalO, allTo, allStep, e1, e2]
    · by_cases e2 : U = 1
      · subst e2
        simp [legalO, allTo, allStep, e1, addAll]
      · simp [legalO, allTo, allStep, e1, e2, addAll]
  · rename_i e
    have n1 := hne [ra, rb]
    by_cases e1 : longN P h [ra, rb] (startP xs ys) = U
    · by_cases e3 : longN P h [rb, ra] (startP xs ys) = U
      · by_cases e2 : U = 1
        · subst e2
          simp [legalO, allTo, allStep, e1, e3, n1]
        · simp [legalO, allTo, allStep, e1, e3, e2, addAll_append]
      · by_cases e2 : U = 1
        · subst e2
          simp [legalO, allTo, allStep, e1, e3]
        · simp [legalO, allTo, allStep, e1, e3, e2]
    · by_cases e3 : longN P h [rb, ra] (startP xs ys) = U
      · by_cases e2 : U = 1
        · subst e2
          simp [legalO, allTo, allStep, e1, e3]
        · simp [legalO, allTo, allStep, e1, e3, e2]
      · by_cases e2 : U = 1
        · subst e2
          simp [legalO, allTo, allStep, e1, e3, addAll]
        · simp [legalO, allTo, allStep, e1, e3, e2, addAll]
theorem levels_ne (P : Nat) (h : Int) : ∀ (o : List Int) (l : List Ply), l ≠ [] → ∀ m ∈ levels P h o l, m ≠ []
  | [], l, hl, m, hm => by simp [levels] at hm; rw [hm]; exact hl
  | d :: ds, l, hl, m, hm => by
    rw [levels] at hm
    rcases List.mem_cons.1 hm with rfl | hm
    · exact hl
    · split at hm
      · simp at hm
      · rename_i e
        exact levels_ne P h ds _ e m hm
theorem levels_steps (P : Nat) (h : Int) : ∀ (o : List Int) (l : List Ply) (n : Nat), (∀ q ∈ l, q.1.length ≤ n) → ∀ m ∈ levels P h o l, ∀ q ∈ m, q.1.length ≤ n + o.length
  | [], l, n, hl, m, hm => by simp [levels] at hm; rw [hm]; exact hl
  | d :: ds, l, n, hl, m, hm => by
    rw [levels] at hm
    rcases List.mem_cons.1 hm with rfl | hm
    · intro q hq; have := hl q hq; simp; omega
    · split at hm
      · simp at hm
      · intro q hq
        have := levels_steps P h ds _ (n + 1) (fun q hq => by
          rcases addAll_mem hq with h2 | h2
          · simp at h2
          · obtain ⟨p, hp, hq⟩ := List.mem_flatMap.1 h2
            obtain ⟨t, _, rfl⟩ := List.mem_map.1 hq
            have := hl p hp
            simp [oneMore]
            omega) m hm q hq
        rw [List.length_cons]
        omega
theorem levels_small {P : Nat} (hP : P ≤ 24) (h : Int) (o : List Int) (xs ys : List Int) (ho : o.length ≤ 4) : ∀ m ∈ levels P h o (startP xs ys), m.length ≤ 390625 := by
  have h1 : ∀ (o : List Int) (l : List Ply), ∀ m ∈ levels P h o l, m.length ≤ l.length * 25 ^ o.length := by
    intro o
    induction o with
    | nil => intro l m hm; simp [levels] at hm; rw [hm]; simp
    | cons d ds ih =>
      intro l m hm
      have hp : 0 < 25 ^ ds.length := Nat.pow_pos (by omega)
      rw [levels] at hm
      rw [List.length_cons, Nat.pow_succ]
      rcases List.mem_cons.1 hm with rfl | hm
      · have : m.length * 1 ≤ m.length * (25 ^ ds.length * 25) := Nat.mul_le_mul_left _ (by omega)
        omega
      · split at hm
        · simp at hm
        · have e1 := ih _ m hm
          have e2 := nextP_length P h d l
          have e3 : l.length * (P + 1) ≤ l.length * 25 := Nat.mul_le_mul_left _ (by omega)
          have e4 : (nextP P h d l).length * 25 ^ ds.length ≤ l.length * 25 * 25 ^ ds.length := Nat.mul_le_mul_right _ (by omega)
          have e5 : l.length * 25 * 25 ^ ds.length = l.length * (25 ^ ds.length * 25) := by rw [Nat.mul_assoc, Nat.mul_comm 25]
          omega
  intro m hm
  have e1 := h1 o _ m hm
  have e2 : 25 ^ o.length ≤ 25 ^ 4 := Nat.pow_le_pow_right (by omega) ho
  simp only [startP, List.length_cons, List.length_nil] at e1
  omega
/-- What is known of the listings of a roll. -/
structure Liss (P : Nat) (h : Int) (xs ys : List Int) (ra rb : Int) (L : List LI) : Prop where
  len : ∀ x ∈ L, x.2.2.2.length = longN P h x.1.2 (startP xs ys) + 1
  four : ∀ x ∈ L, x.1.2.length ≤ 4
  two : L.length ≤ 2
  pos : 0 < L.length
  used : usedL L = usedP P h xs ys ra rb
  low : ∀ i, usedLTo L i ≤ 4
  last : ∀ x ∈ L, (lastP x).map (·.2) = longP P h x.1.2 (startP xs ys)
  crowd : ∀ x ∈ L, crowdB x = !(fineP P h x.1.2 (startP xs ys))
  step : ∀ x ∈ L, ∀ y ∈ x.2.2.2, (∀ q ∈ y.2.2, q.2.1.length ≤ 4) ∧ 0 < y.2.2.length
theorem liss_of {P : Nat} {h ra rb : Int} {xs ys : List Int} {L : List LI} (hT : L.map (fun x => x.1.2) = ordersP ra rb) {F : LI → Prop} (hQ : ∀ x ∈ L, x.2.2.2.map (fun y => y.2.2.map (·.2)) = levels P h x.1.2 (startP xs ys) ∧ F x) : Liss P h xs ys ra rb L := by
  have hlen : ∀ x ∈ L, x.2.2.2.length = longN P h x.1.2 (startP xs ys) + 1 := fun x hx => by
    have := congrArg List.length (hQ x hx).1
    rwa [List.length_map, levels_length] at this
  have ho4 : ∀ x ∈ L, x.1.2.length ≤ 4 := fun x hx => by
    have hm : x.1.2 ∈ ordersP ra rb := by rw [← hT]; exact List.mem_map.2 ⟨x, hx, rfl⟩
    unfold ordersP at hm
    split at hm
    · simp at hm; rw [hm]; simp
    · simp at hm; rcases hm with h | h <;> rw [h] <;> simp
  have hll : L.length = (ordersP ra rb).length := by
    have := congrArg List.length hT
    rwa [List.length_map] at this
  refine ⟨hlen, ho4, by rw [hll]; exact ordersP_length ra rb, by rw [hll]; unfold ordersP; split <;> simp, usedL_levels P h xs ys _ L hT (fun x hx => (hQ x hx).1), fun i => ?_, fun x hx => ?_, fun x hx => ?_, fun x hx y hy => ⟨fun q hq => ?_, ?_⟩⟩
  · have e : usedLTo L i = usedTo P h xs ys (ordersP ra rb) i := by
      unfold usedLTo usedTo
      refine usedL_levels P h xs ys _ _ ?_ (fun x hx => (hQ x (List.mem_of_mem_take hx)).1)
      rw [← hT, List.map_take]
    rw [e]
    exact usedTo_le P h xs ys ra rb i
  · have hl := levels_last P h x.1.2 (startP xs ys)
    rw [← (hQ x hx).1, List.getElem?_map] at hl
    unfold lastP
    rw [hlen x hx, Nat.add_sub_cancel]
    cases e : x.2.2.2[longN P h x.1.2 (startP xs ys)]? with
    | none => rw [e] at hl; simp at hl
    | some y => rw [e] at hl; simpa using hl
  · rw [← levels_fine P h x.1.2 (startP xs ys) (by simp [startP]), ← (hQ x hx).1]
    unfold crowdB
    rw [List.all_map, Bool.eq_iff_iff]
    simp [Function.comp_def]
  · have := levels_steps P h x.1.2 (startP xs ys) 0 (fun q hq => by simp [startP] at hq; rw [hq]; simp) (y.2.2.map (·.2)) (by rw [← (hQ x hx).1]; exact List.mem_map.2 ⟨y, hy, rfl⟩) q.2 (List.mem_map.2 ⟨q, hq, rfl⟩)
    have h4 := ho4 x hx
    omega
  · have := levels_ne P h x.1.2 (startP xs ys) (by simp [startP]) (y.2.2.map (·.2)) (by rw [← (hQ x hx).1]; exact List.mem_map.2 ⟨y, hy, rfl⟩)
    exact List.length_pos_iff.2 (fun e => this (by rw [e]; rfl))
theorem Liss.seqs {P : Nat} {h ra rb : Int} {xs ys : List Int} {L : List LI} (i : Liss P h xs ys ra rb L) (hT : L.map (fun x => x.1.2) = ordersP ra rb) :
    addAll [] (((legalL L).flatMap lastP).map (·.2)) = allP P h xs ys ra rb := by
  unfold allP
  rw [← legalO_all]
  congr 1
  have hk : (keepL (usedP P h xs ys ra rb) L).map (fun x => x.1.2) = (ordersP ra rb).filter (fun o => longN P h o (startP xs ys) == usedP P h xs ys ra rb) := by
    unfold keepL
    rw [← hT, List.filter_map]
    congr 1
    refine List.filter_congr fun x hx => ?_
    rw [i.len x hx, Nat.add_sub_cancel]
    rfl
  have hl : (legalL L).map (fun x => x.1.2) = legalO P h xs ys (usedP P h xs ys ra rb) (ordersP ra rb) := by
    unfold legalL legalO
    rw [i.used]
    split
    · rw [List.map_take, hk]
    · exact hk
  rw [← hl, List.map_flatMap, List.flatMap_map]
  rw [List.flatMap_def, List.flatMap_def]
  congr 1
  exact List.map_congr_left fun x hx => i.last x (legalL_mem hx).1
theorem Liss.ok {P : Nat} {h ra rb : Int} {xs ys : List Int} {L : List LI} (i : Liss P h xs ys ra rb L) (hT : L.map (fun x => x.1.2) = ordersP ra rb) : L.any crowdB = !(allOk P h xs ys ra rb) := by
  have h1 : L.any crowdB = L.any (fun x => !(fineP P h x.1.2 (startP xs ys))) := by
    rw [Bool.eq_iff_iff, List.any_eq_true, List.any_eq_true]
    constructor
    · rintro ⟨x, hx, e⟩; exact ⟨x, hx, by rw [← i.crowd x hx]; exact e⟩
    · rintro ⟨x, hx, e⟩; exact ⟨x, hx, by rw [i.crowd x hx]; exact e⟩
  have h2 : L.any (fun x => !(fineP P h x.1.2 (startP xs ys))) = (L.map (fun x => x.1.2)).any (fun o => !(fineP P h o (startP xs ys))) := by rw [List.any_map]; rfl
  rw [h1, h2, hT]
  unfold allOk ordersP
  split <;> simp [okTo, Bool.not_and]
theorem Liss.small {P : Nat} {h ra rb : Int} {xs ys : List Int} {L : List LI} (i : Liss P h xs ys ra rb L) (hP : P ≤ 24) (k : Nat) : (((legalL L).take k).flatMap lastP).length ≤ 1000000 := by
  have h1 : ∀ (M : List LI), (∀ x ∈ M, x ∈ L) → (M.flatMap lastP).length ≤ M.length * 390625 := by
    intro M
    induction M with
    | nil => intro _; simp
    | cons x M ih =>
      intro hM
      have e1 := ih (fun y hy => hM y (by simp [hy]))
      have e2 : (lastP x).length ≤ 390625 := by
        have := congrArg List.length (i.last x (hM x (by simp)))
        rw [List.length_map] at this
        rw [this]
        exact longP_four hP h _ xs ys (i.four x (hM x (by simp)))
      rw [List.flatMap_cons, List.length_append, List.length_cons]
      omega
  have h2 := h1 ((legalL L).take k) (fun x hx => (legalL_mem (List.mem_of_mem_take hx)).1)
  have h3 : ((legalL L).take k).length ≤ 2 := by
    rw [List.length_take]
    have := legalL_le L
    have := i.two
    omega
  omega
/-- Plays that share no block have been made and are handed back, beside a code. -/
def PlaysGotD (ps : List Ply) (r : Int) (w : World) (e : Ending) (w' : World) : Prop :=
  ∃ (a : Option Addr) (k : Nat) (l : List PP), e = .returned (.tuple #[.slice a l.length k, .int .i64 r]) ∧ l.map Prod.snd = ps ∧ OPl w.heap.size w'.heap.size w' a l ∧ PAll w.heap.size w'.heap.size w' l ∧ l.Pairwise Dis ∧ Below w.heap.size w w'
/-- The program's plays of a roll, or the code of a list that is too long. -/
def plL (P : Nat) (h : Int) (xs ys : List Int) (ra rb : Int) : List Ply := if allOk P h xs ys ra rb = true then allP P h xs ys ra rb else []
def plC2 (P : Nat) (h : Int) (xs ys : List Int) (ra rb : Int) : Int := if allOk P h xs ys ra rb = true then 0 else 3
set_option maxRecDepth 100000 in
set_option maxHeartbeats 4000000 in
theorem implPlaysD_any (P : Nat) (c h s ra rb : Int) (a1 a2 : Option Addr) (n1 n2 c1 c2 : Nat) (xs ys : List Int) (w : World) (h1 : xs.length = n1) (h2 : ys.length = n2) (r1 : IRow w a1 xs) (r2 : IRow w a2 ys) (g : isB (P : Int) c h s xs ys = true) (ha : inB ra 1 s = true) (hbb : inB rb 1 s = true) :
    Calls Try.prog 69 #[.agg #[.int .i64 (P : Int), .int .i64 c, .int .i64 h, .int .i64 s], .agg #[.slice a1 n1 c1, .slice a2 n2 c2], .agg #[.int .i64 ra, .int .i64 rb]] w (PlaysGotD (plL P h xs ys ra rb) (plC2 P h xs ys ra rb) w) := by
  have hp24 : P ≤ 24 := by have := (isB_parts g).2.1; omega
  have hlo := fun W (q1 : IRow W a1 xs) (q2 : IRow W a2 ys) => listingsOf_any P c h s ra rb a1 a2 n1 n2 c1 c2 xs ys W h1 h2 q1 q2 g ha hbb
  have HLO := Lib.hid hlo
  clear hlo g ha hbb
  obtain ⟨PS, hPS⟩ : ∃ z, plL P h xs ys ra rb = z := ⟨_, rfl⟩
  obtain ⟨PC, hPC⟩ : ∃ z, plC2 P h xs ys ra rb = z := ⟨_, rfl⟩
  rw [hPS, hPC]
  unfold plL at hPS
  unfold plC2 at hPC
  have HPS := Lib.hid hPS
  have HPC := Lib.hid hPC
  clear hPS hPC
  obtain ⟨BV, BB, BR, hb, hz⟩ := three_new w #[.int .i64 (P : Int), .int .i64 c, .int .i64 h, .int .i64 s] #[.slice a1 n1 c1, .slice a2 n2 c2] #[.int .i64 ra, .int .i64 rb] 32 34 36
  clear hz
  replace r1 := r1.below hb
  replace r2 := r2.below hb
  obtain ⟨x0, x1, x2, x3, xf, xl⟩ := BV.four
  obtain ⟨y0, y1, yf, yl⟩ := BB.two
  obtain ⟨z0, z1, zf, zl⟩ := BR.two
  go_enter Try.func69, Try.ntmps69
  go_wp2_with fail
  clear x0 x1 x2 x3 xf xl y0 y1 yf yl z0 z1 zf zl
  generalize (((w.alloc (.cells #[.int .i64 (P : Int), .int .i64 c, .int .i64 h, .int .i64 s] 32)).alloc (.cells #[.slice a1 n1 c1, .slice a2 n2 c2] 34)).alloc (.cells #[.int .i64 ra, .int .i64 rb] 36)) = v0 at *
  refine (HLO.out _ r1 r2).mono ?_
  rintro e w1 ⟨gL, kL, L, rfl, hgL, hgz, hV, hA, hT, hQ, hDL, hb1⟩
  clear HLO
  have hLi := liss_of hT hQ
  have hok := hLi.ok hT
  have hseq := hLi.seqs hT
  have hL2 := hLi.two
  have hcon := containsI_any gL kL L 114 #[] crowdB w1 (by omega) hV isCrowded_enter (fun W hW x hx => isCrowded_any x W ((hA x hx).2.2.2.1.below hW) (by have := hLi.len x hx; have := hLi.four x hx; have := longN_le P h x.1.2 (startP xs ys); omega) (fun y hy => by
    have hm : y.2.2.map (·.2) ∈ x.2.2.2.map (fun y => y.2.2.map (·.2)) := List.mem_map.2 ⟨y, hy, rfl⟩
    rw [(hQ x hx).1] at hm
    have := levels_small hp24 h x.1.2 xs ys (hLi.four x hx) _ hm
    rw [List.length_map] at this
    omega))
  obtain ⟨OK, hOK⟩ : ∃ b, allOk P h xs ys ra rb = b := ⟨_, rfl⟩
  rw [hOK] at hok
  rw [hok] at hcon
  have hps := HPS.out
  have hpc := HPC.out
  rw [hOK] at hps hpc
  clear HPS HPC
  have HCON := Lib.hid hcon
  have HLI := Lib.hid hLi
  have HSEQ := Lib.hid hseq
  have HA := Lib.hid hA
  have HQ := Lib.hid hQ
  have HDL := Lib.hid hDL
  clear hcon hLi hseq hA hQ hok hOK hT hDL
  have hb01 := chain hb hb1
  cases OK with
  | false =>
    rw [if_neg (by simp)] at hps hpc
    subst hps hpc
    go_wp2_with fail
    refine (HCON.out).mono ?_
    rintro e w2 ⟨rfl, hb2⟩
    go_wp2
    go_ret2
    exact ⟨none, 0, [], rfl, rfl, .inl ⟨rfl, rfl⟩, PAll.nil _ _ _, List.Pairwise.nil, chain hb01 hb2⟩
  | true =>
    rw [if_pos rfl] at hps hpc
    subst hps hpc
    go_wp2_with fail
    refine (HCON.out).mono ?_
    rintro e w2 ⟨rfl, hb2⟩
    have hvs := hb.size
    have hws := hb1.size
    have hls := (hb01).size
    have hlp := lplays_any P c h s v0.heap.size 4 gL kL L w2 hp24 (by have := hb2.size; omega) (hV.below hb2) ((HA.out.below hb2).mono (Nat.le_refl _) hb2.size) (fun x hx => by
      have h4 := HLI.out.four x hx
      have h5 := longN_le P h x.1.2 (startP xs ys)
      have h6 := HLI.out.len x hx
      omega) (by omega) (by have := HLI.out.low L.length; unfold usedLTo at this; rw [List.take_length] at this; omega) (fun i => by have := HLI.out.low i; omega) HLI.out.pos (fun x hx y hy => ⟨((HQ.out x hx).2 y hy).1, (HLI.out.step x hx y hy).1, (HLI.out.step x hx y hy).2, ((HQ.out x hx).2 y hy).2⟩) HDL.out (HLI.out.small hp24)
    have HLP := Lib.hid hlp
    clear hlp
    go_wp2_with fail
    refine (HLP.out).mono ?_
    rintro e w3 ⟨b, kb, LL, zs, rfl, hzs, hLz, hOPL, hPAL, hLq, hDs, hb3⟩
    have HLZ := Lib.hid (show LL.map Prod.snd = allP P h xs ys ra rb from by rw [← HSEQ.out, ← hzs]; exact hLz)
    clear hLz hzs hLq HLP HCON
    go_wp2
    go_ret2
    exact ⟨b, kb, LL, rfl, HLZ.out, hOPL.mono (by have := hb2.size; omega) (Nat.le_refl _), hPAL.mono (by omega) (Nat.le_refl _), hDs, chain (chain hb01 hb2) hb3⟩
theorem implPlays_any (P : Nat) (c h s ra rb : Int) (a1 a2 : Option Addr) (n1 n2 c1 c2 : Nat) (xs ys : List Int) (w : World) (h1 : xs.length = n1) (h2 : ys.length = n2) (r1 : IRow w a1 xs) (r2 : IRow w a2 ys) (g : isB (P : Int) c h s xs ys = true) (ha : inB ra 1 s = true) (hbb : inB rb 1 s = true) :
    Calls Try.prog 69 #[.agg #[.int .i64 (P : Int), .int .i64 c, .int .i64 h, .int .i64 s], .agg #[.slice a1 n1 c1, .slice a2 n2 c2], .agg #[.int .i64 ra, .int .i64 rb]] w (PlaysGot2 (plL P h xs ys ra rb) (plC2 P h xs ys ra rb) w) :=
  (implPlaysD_any P c h s ra rb a1 a2 n1 n2 c1 c2 xs ys w h1 h2 r1 r2 g ha hbb).mono fun _ _ ⟨a, k, l, e1, e2, e3, e4, _, e6⟩ => ⟨a, k, l, e1, e2, e3, e4, e6⟩
end Go.Proofs.Ytokjkcnjmfbfiaa
namespace Go.Proofs.Ytokjkcnjmfbfiaa
open Go.ChangeShapes Go.WideShapes Go.ChangeAt Go.RowKit
set_option linter.unusedVariables false
set_option linter.unusedSimpArgs false
set_option maxRecDepth 4000

set_option maxRecDepth 8000 in
set_option maxHeartbeats 1000000 in
theorem implAllPlaysD_any (ra rb : Int) (p c h s : Int) (a1 a2 : Option Addr) (n1 n2 c1 c2 : Nat) (xs ys : List Int) (w : World) (h1 : xs.length = n1) (h2 : ys.length = n2) (l1 : n1 ≤ 1048576) (l2 : n2 ≤ 1048576) (r1 : IRow w a1 xs) (r2 : IRow w a2 ys) :
    Calls Try.prog 23 #[.agg #[.int .i64 p, .int .i64 c, .int .i64 h, .int .i64 s], .agg #[.slice a1 n1 c1, .slice a2 n2 c2], .agg #[.int .i64 ra, .int .i64 rb]] w (PlaysGotD (apL p c h s xs ys ra rb) (apC p c h s xs ys ra rb) w) := by
  have hC := fun W (q1 : IRow W a1 xs) (q2 : IRow W a2 ys) => rollCode_any ra rb p c h s a1 a2 n1 n2 c1 c2 xs ys W h1 h2 l1 l2 q1 q2
  unfold apL apC
  by_cases g0 : codeB p c h s xs ys ra rb = 0
  · obtain ⟨g, e⟩ := codeB_zero g0
    rw [if_pos g0, if_pos g0]
    rw [g0] at hC
    obtain ⟨p0, p1, k0, k1, k2, k3, N1, N2, hx, hy, s0, s1, s2, s3⟩ := isB_parts g
    clear hx hy
    obtain ⟨P, rfl⟩ := Int.eq_ofNat_of_zero_le (by omega : 0 ≤ p)
    rw [show ((P : Int)).toNat = P by simp]
    obtain ⟨e1, e2⟩ := rlB_two e
    have hU := fun W (q1 : IRow W a1 xs) (q2 : IRow W a2 ys) => implPlaysD_any P c h s ra rb a1 a2 n1 n2 c1 c2 xs ys W h1 h2 q1 q2 g e1 e2
    unfold PlaysGotD at hU
    have t1 : plL P h xs ys ra rb = (if allOk P h xs ys ra rb = true then allP P h xs ys ra rb else []) := rfl
    have t2 : plC2 P h xs ys ra rb = (if allOk P h xs ys ra rb = true then 0 else 3) := rfl
    rw [← t1, ← t2]
    clear t1 t2
    obtain ⟨AO, hAO⟩ : ∃ z, plC2 P h xs ys ra rb = z := ⟨_, rfl⟩
    obtain ⟨AA, hAA⟩ : ∃ z, plL P h xs ys ra rb = z := ⟨_, rfl⟩
    rw [hAO, hAA] at hU
    rw [hAO, hAA]
    have HC := Lib.hid hC
    have HU := Lib.hid hU
    clear hC hU hAO hAA g e e1 e2 g0
    obtain ⟨BV, BB, BR, hb, hz⟩ := three_new w #[.int .i64 (P : Int), .int .i64 c, .int .i64 h, .int .i64 s] #[.slice a1 n1 c1, .slice a2 n2 c2] #[.int .i64 ra, .int .i64 rb] 32 34 36
    clear hz
    obtain ⟨x0, x1, x2, x3, xf, xl⟩ := BV.four
    obtain ⟨y0, y1, yf, yl⟩ := BB.two
    obtain ⟨z0, z1, zf, zl⟩ := BR.two
    go_enter Try.func23, Try.ntmps23
    go_wp2_with (first | (go_at_call 65; refine (HC.out _ (r1.below hb) (r2.below hb)).mono ?_; clear HC; rintro e w1 ⟨rfl, hb1⟩; obtain ⟨x0, x1, x2, x3, xf, xl⟩ := (BV.below hb1).four; obtain ⟨y0, y1, yf, yl⟩ := (BB.below hb1).two; obtain ⟨z0, z1, zf, zl⟩ := (BR.below hb1).two) | (go_at_call 69; refine (HU.out _ (r1.below (chain hb hb1)) (r2.below (chain hb hb1))).mono ?_; rintro e w2 ⟨aL, kL, L, rfl, hLm, hLO, hLA, hDs, hb2⟩))
    go_ret2
    exact ⟨aL, kL, L, rfl, hLm, hLO.mono (chain hb hb1).size (Nat.le_refl _), hLA.mono (chain hb hb1).size (Nat.le_refl _), hDs, chain (chain hb hb1) hb2⟩
  · rw [if_neg g0, if_neg g0]
    obtain ⟨q, hq⟩ : ∃ q, codeB p c h s xs ys ra rb = q := ⟨_, rfl⟩
    rw [hq] at hC g0 ⊢
    have f0 : (q != 0) = true := by rw [bne_iff_ne]; exact g0
    have HC := Lib.hid hC
    clear hC hq
    obtain ⟨BV, BB, BR, hb, hz⟩ := three_new w #[.int .i64 p, .int .i64 c, .int .i64 h, .int .i64 s] #[.slice a1 n1 c1, .slice a2 n2 c2] #[.int .i64 ra, .int .i64 rb] 32 34 36
    clear hz
    obtain ⟨x0, x1, x2, x3, xf, xl⟩ := BV.four
    obtain ⟨y0, y1, yf, yl⟩ := BB.two
    obtain ⟨z0, z1, zf, zl⟩ := BR.two
    go_enter Try.func23, Try.ntmps23
    go_wp2_with (first | (go_at_call 65; refine (HC.out _ (r1.below hb) (r2.below hb)).mono ?_; clear HC; rintro e w1 ⟨rfl, hb1⟩; obtain ⟨x0, x1, x2, x3, xf, xl⟩ := (BV.below hb1).four; obtain ⟨y0, y1, yf, yl⟩ := (BB.below hb1).two; obtain ⟨z0, z1, zf, zl⟩ := (BR.below hb1).two))
    go_ret2
    exact ⟨none, 0, [], rfl, rfl, .inl ⟨rfl, rfl⟩, PAll.nil _ _ _, List.Pairwise.nil, chain hb hb1⟩
theorem implAllPlays_any (ra rb : Int) (p c h s : Int) (a1 a2 : Option Addr) (n1 n2 c1 c2 : Nat) (xs ys : List Int) (w : World) (h1 : xs.length = n1) (h2 : ys.length = n2) (l1 : n1 ≤ 1048576) (l2 : n2 ≤ 1048576) (r1 : IRow w a1 xs) (r2 : IRow w a2 ys) :
    Calls Try.prog 23 #[.agg #[.int .i64 p, .int .i64 c, .int .i64 h, .int .i64 s], .agg #[.slice a1 n1 c1, .slice a2 n2 c2], .agg #[.int .i64 ra, .int .i64 rb]] w (PlaysGot2 (apL p c h s xs ys ra rb) (apC p c h s xs ys ra rb) w) :=
  (implAllPlaysD_any ra rb p c h s a1 a2 n1 n2 c1 c2 xs ys w h1 h2 l1 l2 r1 r2).mono fun _ _ ⟨a, k, l, e1, e2, e3, e4, _, e6⟩ => ⟨a, k, l, e1, e2, e3, e4, e6⟩
set_option maxRecDepth 8000 in
set_option maxHeartbeats 1000000 in
theorem implIsForced_any (ra rb : Int) (p c h s : Int) (a1 a2 : Option Addr) (n1 n2 c1 c2 : Nat) (xs ys : List Int) (w : World) (h1 : xs.length = n1) (h2 : ys.length = n2) (l1 : n1 ≤ 1048576) (l2 : n2 ≤ 1048576) (r1 : IRow w a1 xs) (r2 : IRow w a2 ys) :
    Calls Try.prog 31 #[.agg #[.int .i64 p, .int .i64 c, .int .i64 h, .int .i64 s], .agg #[.slice a1 n1 c1, .slice a2 n2 c2], .agg #[.int .i64 ra, .int .i64 rb]] w fun e w' => e = .returned (ifV p c h s xs ys ra rb) ∧ Below w.heap.size w w' := by
  have hA := fun W (q1 : IRow W a1 xs) (q2 : IRow W a2 ys) => implAllPlays_any ra rb p c h s a1 a2 n1 n2 c1 c2 xs ys W h1 h2 l1 l2 q1 q2
  unfold ifV
  unfold PlaysGot2 at hA
  obtain ⟨AC, hAC⟩ : ∃ z, apC p c h s xs ys ra rb = z := ⟨_, rfl⟩
  obtain ⟨AA, hAA⟩ : ∃ z, apL p c h s xs ys ra rb = z := ⟨_, rfl⟩
  rw [hAC, hAA] at hA
  rw [hAC, hAA]
  have HA := Lib.hid hA
  clear hA hAC hAA
  obtain ⟨BV, BB, BR, hb, hz⟩ := three_new w #[.int .i64 p, .int .i64 c, .int .i64 h, .int .i64 s] #[.slice a1 n1 c1, .slice a2 n2 c2] #[.int .i64 ra, .int .i64 rb] 32 34 36
  clear hz
  obtain ⟨x0, x1, x2, x3, xf, xl⟩ := BV.four
  obtain ⟨y0, y1, yf, yl⟩ := BB.two
  obtain ⟨z0, z1, zf, zl⟩ := BR.two
  by_cases e1 : AA.length = 1
  · rw [decide_eq_true e1]
    go_enter Try.func31, Try.ntmps31
    go_wp2_with fail
    refine (HA.out _ (r1.below hb) (r2.below hb)).mono ?_
    rintro e w1 ⟨aL, kL, L, rfl, hLm, -, -, hb1⟩
    have hl : L.length = 1 := by rw [← e1, ← hLm, List.length_map]
    have f0 : ((L.length : Int) == 1) = true := by rw [beq_iff_eq]; omega
    clear hl hLm e1
    go_wp2
    go_ret2
    exact ⟨rfl, chain hb hb1⟩
  · rw [decide_eq_false e1]
    go_enter Try.func31, Try.ntmps31
    go_wp2_with fail
    refine (HA.out _ (r1.below hb) (r2.below hb)).mono ?_
    rintro e w1 ⟨aL, kL, L, rfl, hLm, -, -, hb1⟩
    have hl : L.length ≠ 1 := fun q => e1 (by rw [← q, ← hLm, List.length_map])
    have f0 : ((L.length : Int) == 1) = false := by rw [beq_eq_false_iff_ne]; omega
    clear hl hLm e1
    go_wp2
    go_ret2
    exact ⟨rfl, chain hb hb1⟩
end Go.Proofs.Ytokjkcnjmfbfiaa
namespace Go.Proofs.Ytokjkcnjmfbfiaa
open Go.ChangeShapes Go.WideShapes Go.ChangeAt Go.RowKit
set_option linter.unusedVariables false
set_option linter.unusedSimpArgs false
set_option maxRecDepth 4000

set_option maxRecDepth 8000 in
set_option maxHeartbeats 1000000 in
theorem slicesEqual_any (a b : Option Addr) (n m c d : Nat) (xs us : List Int) (w : World) (h1 : xs.length = n) (h2 : us.length = m) (l1 : n ≤ 1048576) (l2 : m ≤ 1048576) (r : IRow w a xs) (s : IRow w b us) :
    Calls Try.prog 117 #[.slice a n c, .slice b m d] w fun e w' => e = .returned (.bool (decide (xs = us))) ∧ Below w.heap.size w w' := by
  obtain ⟨Q, hQ⟩ : ∃ Q, decide (xs = us) = Q := ⟨_, rfl⟩
  rw [hQ]
  have HQ := Lib.hid hQ
  clear hQ
  by_cases e : m = n
  · subst e
    go_enter Try.func117, Try.ntmps117
    go_wp2_with fail
    go_loopg [13, 5] m (fun k5 i j wr => ∃ k : Nat, k ≤ m ∧ k5 = m - k ∧ i = .int .i64 k ∧ (∀ q, q < k → xs.getD q 0 = us.getD q 0) ∧ Below w.heap.size w wr)
    case atStart => exact ⟨0, by omega, by omega, rfl, fun j hj => by omega, Below.refl _ _⟩
    case round =>
      obtain ⟨k, hk, hm, rfl, hsm, hbel⟩ := hrel
      by_cases hlt : k < m
      · have hlt' : (k : Int) < (m : Int) := by omega
        have hk0 : (0 : Int) ≤ (k : Int) := by omega
        obtain ⟨p1, o1, rfl, hc1⟩ := (r.below hbel) k (by omega)
        obtain ⟨p2, o2, rfl, hc2⟩ := (s.below hbel) k (by omega)
        obtain ⟨v1, hv1⟩ : ∃ v, xs.getD k 0 = v := ⟨_, rfl⟩
        obtain ⟨v2, hv2⟩ : ∃ v, us.getD k 0 = v := ⟨_, rfl⟩
        rw [hv1] at hc1
        rw [hv2] at hc2
        by_cases e : v1 = v2
        · subst e
          have HSM := Lib.hid hsm
          have HV1 := Lib.hid hv1
          have HV2 := Lib.hid hv2
          clear hsm hv1 hv2
          go_wp2_with fail
          go_quiet (fail)
          go_wp2
          go_roundg (m - (k + 1))
          case measure => omega
          case rel => exact ⟨k + 1, by omega, rfl, by go_num, fun j hj => by
            by_cases h : j = k
            · subst h; exact HV1.out.trans HV2.out.symm
            · exact HSM.out j (by omega), below_drewN hbel _⟩
        · have fe : (v1 != v2) = true := by rw [bne_iff_ne]; exact e
          have fe2 : (v1 == v2) = false := by rw [beq_eq_false_iff_ne]; exact e
          have hQ : Q = false := by
            rw [← HQ.out, decide_eq_false_iff_not]
            rintro rfl
            exact e (hv1.symm.trans hv2)
          subst hQ
          clear hsm hv1 hv2
          go_wp2_with fail
          go_quiet (fail)
          go_wp2
          go_ret
          exact ⟨rfl, below_drewN hbel _⟩
      · obtain rfl : k = m := by omega
        have hQ : Q = true := by
          rw [← HQ.out, decide_eq_true_eq]
          exact ext_getD (by omega) (fun j => by
            by_cases hj : j < xs.length
            · exact hsm j (by omega)
            · rw [getD_out (by omega), getD_out (by omega)])
        subst hQ
        clear hsm
        go_wp2
        go_ret
        exact ⟨rfl, hbel⟩
  · have hQ : Q = false := by
      rw [← HQ.out, decide_eq_false_iff_not]
      rintro rfl
      exact e (h2.symm.trans h1)
    subst hQ
    have fe : ((n : Int) != (m : Int)) = true := by rw [bne_iff_ne]; omega
    have fe2 : ((n : Int) == (m : Int)) = false := by rw [beq_eq_false_iff_ne]; omega
    go_enter Try.func117, Try.ntmps117
    go_wp2
    go_ret
    exact ⟨rfl, Below.refl _ _⟩
set_option maxRecDepth 8000 in
set_option maxHeartbeats 1000000 in
theorem boardEquals_any (a1 a2 b1 b2 : Option Addr) (n1 n2 m1 m2 c1 c2 d1 d2 : Nat) (xs ys us vs : List Int) (w : World) (h1 : xs.length = n1) (h2 : ys.length = n2) (h3 : us.length = m1) (h4 : vs.length = m2) (l1 : n1 ≤ 1048576) (l2 : n2 ≤ 1048576) (l3 : m1 ≤ 1048576) (l4 : m2 ≤ 1048576)
    (r1 : IRow w a1 xs) (r2 : IRow w a2 ys) (s1 : IRow w b1 us) (s2 : IRow w b2 vs) :
    Calls Try.prog 75 #[.agg #[.slice a1 n1 c1, .slice a2 n2 c2], .agg #[.slice b1 m1 d1, .slice b2 m2 d2]] w fun e w' => e = .returned (.bool (decide (xs = us) && decide (ys = vs))) ∧ Below w.heap.size w w' := by
  obtain ⟨BA, BB, hb, hz⟩ := two_new w #[.slice a1 n1 c1, .slice a2 n2 c2] #[.slice b1 m1 d1, .slice b2 m2 d2] 34 34
  clear hz
  obtain ⟨x0, x1, xf, xl⟩ := BA.two
  obtain ⟨y0, y1, yf, yl⟩ := BB.two
  have hE1 := fun (W : World) (hW : Below w.heap.size w W) => slicesEqual_any a1 b1 n1 m1 c1 d1 xs us W h1 h3 l1 l3 (r1.below hW) (s1.below hW)
  have hE2 := fun (W : World) (hW : Below w.heap.size w W) => slicesEqual_any a2 b2 n2 m2 c2 d2 ys vs W h2 h4 l2 l4 (r2.below hW) (s2.below hW)
  obtain ⟨A, hA⟩ : ∃ A, decide (xs = us) = A := ⟨_, rfl⟩
  obtain ⟨B, hB⟩ : ∃ B, decide (ys = vs) = B := ⟨_, rfl⟩
  rw [hA] at hE1 ⊢
  rw [hB] at hE2 ⊢
  have HE1 := Lib.hid hE1
  have HE2 := Lib.hid hE2
  clear hA hB hE1 hE2
  cases A with
  | false =>
    go_enter Try.func75, Try.ntmps75
    go_wp2_with fail
    refine (HE1.out _ hb).mono ?_
    rintro e w1 ⟨rfl, hb1⟩
    go_wp2_with fail
    go_ret
    exact ⟨rfl, chain hb hb1⟩
  | true =>
    go_enter Try.func75, Try.ntmps75
    go_wp2_with fail
    refine (HE1.out _ hb).mono ?_
    rintro e w1 ⟨rfl, hb1⟩
    clear x0 x1 xf xl y0 y1 yf yl
    obtain ⟨x0, x1, xf, xl⟩ := (BA.below hb1).two
    obtain ⟨y0, y1, yf, yl⟩ := (BB.below hb1).two
    go_wp2_with fail
    refine (HE2.out _ (chain hb hb1)).mono ?_
    rintro e w2 ⟨rfl, hb2⟩
    go_wp2_with fail
    go_ret
    exact ⟨rfl, chain (chain hb hb1) hb2⟩
end Go.Proofs.Ytokjkcnjmfbfiaa
namespace Go.Proofs.Ytokjkcnjmfbfiaa
open Go.ChangeShapes Go.WideShapes Go.ChangeAt Go.RowKit
set_option linter.unusedVariables false
set_option linter.unusedSimpArgs false
set_option maxRecDepth 4000

/-- Is a play's board this one? -/
def isAt (us vs : List Int) (x : PP) : Bool := decide (x.2.2.1 = us) && decide (x.2.2.2 = vs)
theorem findP_first (us vs : List Int) : ∀ (l : List PP) (n : Nat), findP (us, vs) (l.map Prod.snd) n = if firstE (isAt us vs) l < 0 then -1 else firstE (isAt us vs) l + n
  | [], n => rfl
  | x :: l, n => by
    rw [List.map_cons, findP, firstE]
    have ih := findP_first us vs l (n + 1)
    have hl := (firstE_low (isAt us vs) l).1
    by_cases e : x.2.2 = (us, vs)
    · have e2 : isAt us vs x = true := by unfold isAt; simp [e]
      rw [if_pos e, if_pos e2]
      simp
    · have e2 : ¬ isAt us vs x = true := by
        unfold isAt
        intro h
        simp at h
        exact e (Prod.ext h.1 h.2)
      rw [if_neg e, if_neg e2, ih]
      by_cases h3 : firstE (isAt us vs) l < 0
      · rw [if_pos h3, if_pos h3]; rfl
      · rw [if_neg h3, if_neg h3, if_neg (by omega)]
        omega
theorem findP_zero (us vs : List Int) (l : List PP) : findP (us, vs) (l.map Prod.snd) 0 = firstE (isAt us vs) l := by
  have hl := (firstE_low (isAt us vs) l).1
  rw [findP_first]
  split <;> omega
/-- The place of a play, with its code. -/
def fpV (p c h s : Int) (xs ys : List Int) (ra rb : Int) (us vs : List Int) : Value :=
  if apC p c h s xs ys ra rb = 0 then (if findP (us, vs) (apL p c h s xs ys ra rb) 0 < 0 then .tuple #[.int .i64 0, .int .i64 4] else .tuple #[.int .i64 (findP (us, vs) (apL p c h s xs ys ra rb) 0), .int .i64 0]) else .tuple #[.int .i64 0, .int .i64 (apC p c h s xs ys ra rb)]
theorem apL_small {p c h s : Int} {xs ys : List Int} {ra rb : Int} : ∀ q ∈ apL p c h s xs ys ra rb, q.2.1.length ≤ 1048576 ∧ q.2.2.length ≤ 1048576 := by
  intro q hq
  unfold apL at hq
  split at hq
  · rename_i g0
    split at hq
    · obtain ⟨g, e⟩ := codeB_zero g0
      obtain ⟨e1, e2⟩ := rlB_two e
      have gp := isB_parts g
      obtain ⟨P, rfl⟩ := Int.eq_ofNat_of_zero_le (by omega : 0 ≤ p)
      rw [show ((P : Int)).toNat = P by simp] at hq
      have hf := allTo_fine (U := usedP P h xs ys ra rb) (l := ordersP ra rb) g (fun o ho => by obtain ⟨j, hj⟩ := List.mem_iff_getElem?.1 ho; exact (ordersP_mem e1 e2 hj).2) (ordersP ra rb).length q hq
      have gq := isB_parts hf
      omega
    · simp at hq
  · simp at hq
theorem apL_len {p c h s : Int} {xs ys : List Int} {ra rb : Int} : (apL p c h s xs ys ra rb).length ≤ 1000000 := by
  unfold apL
  split
  · rename_i g0
    split
    · obtain ⟨g, e⟩ := codeB_zero g0
      obtain ⟨e1, e2⟩ := rlB_two e
      have gp := isB_parts g
      obtain ⟨P, rfl⟩ := Int.eq_ofNat_of_zero_le (by omega : 0 ≤ p)
      rw [show ((P : Int)).toNat = P by simp]
      have := allTo_length P h xs ys (usedP P h xs ys ra rb) 390625 (ordersP ra rb) (fun o ho => longP_four (by omega) h o xs ys (by obtain ⟨j, hj⟩ := List.mem_iff_getElem?.1 ho; exact (ordersP_mem e1 e2 hj).1)) (ordersP ra rb).length
      have h2 := ordersP_length ra rb
      unfold allP
      have h3 : (ordersP ra rb).length * 390625 ≤ 2 * 390625 := Nat.mul_le_mul_right _ h2
      omega
    · simp
  · simp
set_option maxRecDepth 8000 in
theorem find1_any (x : PP) (B7 : Nat) (b1 b2 : Option Addr) (m1 m2 d1 d2 lo hi : Nat) (us vs : List Int) (w : World) (hB : Blk w B7 #[.slice b1 m1 d1, .slice b2 m2 d2] 34) (hx : PAt lo hi w x) (q1 : x.2.2.1.length ≤ 1048576) (q2 : x.2.2.2.length ≤ 1048576) (g1 : us.length = m1) (g2 : vs.length = m2) (k1 : m1 ≤ 1048576) (k2 : m2 ≤ 1048576) (s1 : IRow w b1 us) (s2 : IRow w b2 vs) :
    Calls Try.prog 74 #[plV x, .pointer (some ⟨B7, 0, none⟩)] w fun e w' => e = .returned (.bool (isAt us vs x)) ∧ Below w.heap.size w w' := by
  have BX := Blk.new w #[pl0 x, pl1 x, pl2 x] 94
  have hb : Below w.heap.size w (w.alloc (.cells #[pl0 x, pl1 x, pl2 x] 94)) := (Below.refl _ _).alloc (Nat.le_refl _) _
  have he := fun W (hW : Below w.heap.size w W) => boardEquals_any x.1.b1 x.1.b2 b1 b2 x.2.2.1.length x.2.2.2.length m1 m2 x.1.k1 x.1.k2 d1 d2 x.2.2.1 x.2.2.2 us vs W rfl rfl g1 g2 q1 q2 k1 k2 (hx.2.irow1.below hW) (hx.2.irow2.below hW) (s1.below hW) (s2.below hW)
  have hi : (decide (x.2.2.1 = us) && decide (x.2.2.2 = vs)) = isAt us vs x := rfl
  rw [hi] at he
  obtain ⟨R, hR⟩ : ∃ R, isAt us vs x = R := ⟨_, rfl⟩
  rw [hR] at he ⊢
  have HE := Lib.hid he
  clear he hi hR
  obtain ⟨x0, x1, x2, xf, xl⟩ := BX.tri
  obtain ⟨y0, y1, yf, yl⟩ := (hB.below hb).two
  go_enter Try.func74, Try.ntmps74
  go_wp2_with fail
  refine (HE.out _ hb).mono ?_
  rintro e w1 ⟨rfl, hb1⟩
  go_wp2
  go_ret
  exact ⟨rfl, chain hb hb1⟩
theorem find1_enter (args : Array Value) (w : World) : (callFunc 74 args).run Try.prog w = .ok (.enter 74 args) w := by
  obtain ⟨fn, hf, hn, cc, hc⟩ : ∃ fn, Try.prog.funcs[(74 : FuncId)]? = some fn ∧ (fn.name == "runtime.NumGoroutine") = false ∧ ∃ cc, fn.body = some cc := ⟨_, Try.func74, by kernel_rfl, _, rfl⟩
  have h1 : ¬ fn.name = "runtime.NumGoroutine" := by simpa using hn
  simp [callFunc, hf, h1, hc]
set_option maxRecDepth 8000 in
set_option maxHeartbeats 2000000 in
theorem implFindPlay_any (ra rb : Int) (p c h s : Int) (a1 a2 : Option Addr) (n1 n2 c1 c2 : Nat) (xs ys : List Int) (b1 b2 : Option Addr) (m1 m2 d1 d2 : Nat) (us vs : List Int) (w : World) (h1 : xs.length = n1) (h2 : ys.length = n2) (l1 : n1 ≤ 1048576) (l2 : n2 ≤ 1048576) (r1 : IRow w a1 xs) (r2 : IRow w a2 ys) (g1 : us.length = m1) (g2 : vs.length = m2) (k1 : m1 ≤ 1048576) (k2 : m2 ≤ 1048576) (s1 : IRow w b1 us) (s2 : IRow w b2 vs) :
    Calls Try.prog 29 #[.agg #[.int .i64 p, .int .i64 c, .int .i64 h, .int .i64 s], .agg #[.slice a1 n1 c1, .slice a2 n2 c2], .agg #[.int .i64 ra, .int .i64 rb], .agg #[.slice b1 m1 d1, .slice b2 m2 d2]] w fun e w' => e = .returned (fpV p c h s xs ys ra rb us vs) ∧ Below w.heap.size w w' := by
  have hap := fun W (q1 : IRow W a1 xs) (q2 : IRow W a2 ys) => implAllPlays_any ra rb p c h s a1 a2 n1 n2 c1 c2 xs ys W h1 h2 l1 l2 q1 q2
  have hsm := apL_small (p := p) (c := c) (h := h) (s := s) (xs := xs) (ys := ys) (ra := ra) (rb := rb)
  have hln := apL_len (p := p) (c := c) (h := h) (s := s) (xs := xs) (ys := ys) (ra := ra) (rb := rb)
  unfold fpV
  unfold PlaysGot2 at hap
  obtain ⟨AC, hAC⟩ : ∃ z, apC p c h s xs ys ra rb = z := ⟨_, rfl⟩
  obtain ⟨AA, hAA⟩ : ∃ z, apL p c h s xs ys ra rb = z := ⟨_, rfl⟩
  rw [hAC, hAA] at hap
  rw [hAA] at hsm hln
  rw [hAC, hAA]
  have hfb := findP_bound (us, vs) AA 0
  obtain ⟨FF, hFF⟩ : ∃ z, findP (us, vs) AA 0 = z := ⟨_, rfl⟩
  rw [hFF] at hfb ⊢
  have HAP := Lib.hid hap
  have HSM := Lib.hid hsm
  have HFF := Lib.hid hFF
  clear hap hsm hAC hAA hFF
  have BV := ((((Blk.new w #[.int .i64 p, .int .i64 c, .int .i64 h, .int .i64 s] 32).alloc (.cells #[.slice a1 n1 c1, .slice a2 n2 c2] 34)).alloc (.cells #[.int .i64 ra, .int .i64 rb] 36)).alloc (.cells #[.slice b1 m1 d1, .slice b2 m2 d2] 34))
  obtain ⟨-, BB, BR, hb3, hz3⟩ := three_new w #[.int .i64 p, .int .i64 c, .int .i64 h, .int .i64 s] #[.slice a1 n1 c1, .slice a2 n2 c2] #[.int .i64 ra, .int .i64 rb] 32 34 36
  replace BB := BB.alloc (.cells #[.slice b1 m1 d1, .slice b2 m2 d2] 34)
  replace BR := BR.alloc (.cells #[.slice b1 m1 d1, .slice b2 m2 d2] 34)
  have BD := Blk.new (((w.alloc (.cells #[.int .i64 p, .int .i64 c, .int .i64 h, .int .i64 s] 32)).alloc (.cells #[.slice a1 n1 c1, .slice a2 n2 c2] 34)).alloc (.cells #[.int .i64 ra, .int .i64 rb] 36)) #[.slice b1 m1 d1, .slice b2 m2 d2] 34
  rw [hz3] at BD
  have hb : Below w.heap.size w ((((w.alloc (.cells #[.int .i64 p, .int .i64 c, .int .i64 h, .int .i64 s] 32)).alloc (.cells #[.slice a1 n1 c1, .slice a2 n2 c2] 34)).alloc (.cells #[.int .i64 ra, .int .i64 rb] 36)).alloc (.cells #[.slice b1 m1 d1, .slice b2 m2 d2] 34)) := hb3.alloc hb3.size _
  clear hb3 hz3
  obtain ⟨x0, x1, x2, x3, xf, xl⟩ := BV.four
  obtain ⟨y0, y1, yf, yl⟩ := BB.two
  obtain ⟨z0, z1, zf, zl⟩ := BR.two
  by_cases e0 : AC = 0
  · subst e0
    rw [if_pos rfl]
    obtain ⟨RV, hRV⟩ : ∃ z, (if FF < 0 then (.tuple #[.int .i64 0, .int .i64 4] : Value) else .tuple #[.int .i64 FF, .int .i64 0]) = z := ⟨_, rfl⟩
    rw [hRV]
    have HRV := Lib.hid hRV
    clear hRV
    go_enter Try.func29, Try.ntmps29
    go_wp2_with fail
    clear x0 x1 x2 x3 xf xl y0 y1 yf yl z0 z1 zf zl
    generalize ((((w.alloc (.cells #[.int .i64 p, .int .i64 c, .int .i64 h, .int .i64 s] 32)).alloc (.cells #[.slice a1 n1 c1, .slice a2 n2 c2] 34)).alloc (.cells #[.int .i64 ra, .int .i64 rb] 36)).alloc (.cells #[.slice b1 m1 d1, .slice b2 m2 d2] 34)) = v0 at *
    refine (HAP.out _ (r1.below hb) (r2.below hb)).mono ?_
    rintro e w1 ⟨aL, kL, L, rfl, hLm, hLO, hLA, hb1⟩
    have hLl : L.length ≤ 1000000 := by have := congrArg List.length hLm; rw [List.length_map] at this; omega
    have hbox : w.heap.size < v0.heap.size := by have := BV.lt; omega
    have HLM := Lib.hid hLm
    clear hLm
    have hsec := indexP_any w.heap.size w1.heap.size aL kL L 74 #[.pointer (some ⟨w.heap.size + 1 + 1 + 1, 0, none⟩)] (isAt us vs) w1 (by omega) (hLO.mono (Nat.le_of_lt hbox) (Nat.le_refl _)) find1_enter (fun W hW x hx => find1_any x (w.heap.size + 1 + 1 + 1) b1 b2 m1 m2 d1 d2 v0.heap.size w1.heap.size us vs W (BD.below (chain hb1 hW)) ((hLA x hx).below hW) (HSM.out x.2 (by rw [← HLM.out]; exact List.mem_map.2 ⟨x, hx, rfl⟩)).1 (HSM.out x.2 (by rw [← HLM.out]; exact List.mem_map.2 ⟨x, hx, rfl⟩)).2 g1 g2 k1 k2 (s1.below (chain (chain hb hb1) hW)) (s2.below (chain (chain hb hb1) hW)))
    rw [← findP_zero, HLM.out] at hsec
    rw [HFF.out] at hsec
    have HSEC := Lib.hid hsec
    clear hsec
    obtain ⟨u0, u1, uf, ul⟩ := (BD.below hb1).two
    go_wp2_with fail
    refine (HSEC.out).mono ?_
    rintro e w2 ⟨rfl, hb2⟩
    have hrv := HRV.out
    clear HRV
    by_cases f0 : FF < 0
    · rw [if_pos f0] at hrv
      subst hrv
      go_wp2
      go_ret2
      exact ⟨rfl, chain (chain hb hb1) hb2⟩
    · rw [if_neg f0] at hrv
      subst hrv
      go_wp2
      go_ret2
      exact ⟨rfl, chain (chain hb hb1) hb2⟩
  · rw [if_neg e0]
    have f1 : (AC != 0) = true := by rw [bne_iff_ne]; exact e0
    go_enter Try.func29, Try.ntmps29
    go_wp2_with fail
    clear x0 x1 x2 x3 xf xl y0 y1 yf yl z0 z1 zf zl
    generalize ((((w.alloc (.cells #[.int .i64 p, .int .i64 c, .int .i64 h, .int .i64 s] 32)).alloc (.cells #[.slice a1 n1 c1, .slice a2 n2 c2] 34)).alloc (.cells #[.int .i64 ra, .int .i64 rb] 36)).alloc (.cells #[.slice b1 m1 d1, .slice b2 m2 d2] 34)) = v0 at *
    refine (HAP.out _ (r1.below hb) (r2.below hb)).mono ?_
    rintro e w1 ⟨aL, kL, L, rfl, -, -, -, hb1⟩
    go_wp2
    go_ret2
    exact ⟨rfl, chain hb hb1⟩
set_option maxRecDepth 8000 in
set_option maxHeartbeats 2000000 in
theorem specFindPlay_any (ra rb : Int) (p c h s : Int) (a1 a2 : Option Addr) (n1 n2 c1 c2 : Nat) (xs ys : List Int) (b1 b2 : Option Addr) (m1 m2 d1 d2 : Nat) (us vs : List Int) (w : World) (h1 : xs.length = n1) (h2 : ys.length = n2) (l1 : n1 ≤ 1048576) (l2 : n2 ≤ 1048576) (r1 : IRow w a1 xs) (r2 : IRow w a2 ys) (g1 : us.length = m1) (g2 : vs.length = m2) (k1 : m1 ≤ 1048576) (k2 : m2 ≤ 1048576) (s1 : IRow w b1 us) (s2 : IRow w b2 vs) :
    Calls Try.prog 28 #[.agg #[.int .i64 p, .int .i64 c, .int .i64 h, .int .i64 s], .agg #[.slice a1 n1 c1, .slice a2 n2 c2], .agg #[.int .i64 ra, .int .i64 rb], .agg #[.slice b1 m1 d1, .slice b2 m2 d2]] w fun e w' => e = .returned (fpV p c h s xs ys ra rb us vs) ∧ Below w.heap.size w w' := by
  have hap := fun W (q1 : IRow W a1 xs) (q2 : IRow W a2 ys) => specAllPlays_any ra rb p c h s a1 a2 n1 n2 c1 c2 xs ys W h1 h2 l1 l2 q1 q2
  have hsm := apL_small (p := p) (c := c) (h := h) (s := s) (xs := xs) (ys := ys) (ra := ra) (rb := rb)
  have hln := apL_len (p := p) (c := c) (h := h) (s := s) (xs := xs) (ys := ys) (ra := ra) (rb := rb)
  unfold fpV
  unfold PlaysGot2 at hap
  obtain ⟨AC, hAC⟩ : ∃ z, apC p c h s xs ys ra rb = z := ⟨_, rfl⟩
  obtain ⟨AA, hAA⟩ : ∃ z, apL p c h s xs ys ra rb = z := ⟨_, rfl⟩
  rw [hAC, hAA] at hap
  rw [hAA] at hsm hln
  rw [hAC, hAA]
  have hfb := findP_bound (us, vs) AA 0
  obtain ⟨FF, hFF⟩ : ∃ z, findP (us, vs) AA 0 = z := ⟨_, rfl⟩
  rw [hFF] at hfb ⊢
  have HAP := Lib.hid hap
  have HSM := Lib.hid hsm
  have HFF := Lib.hid hFF
  clear hap hsm hAC hAA hFF
  have BV := ((((Blk.new w #[.int .i64 p, .int .i64 c, .int .i64 h, .int .i64 s] 32).alloc (.cells #[.slice a1 n1 c1, .slice a2 n2 c2] 34)).alloc (.cells #[.int .i64 ra, .int .i64 rb] 36)).alloc (.cells #[.slice b1 m1 d1, .slice b2 m2 d2] 34))
  obtain ⟨-, BB, BR, hb3, hz3⟩ := three_new w #[.int .i64 p, .int .i64 c, .int .i64 h, .int .i64 s] #[.slice a1 n1 c1, .slice a2 n2 c2] #[.int .i64 ra, .int .i64 rb] 32 34 36
  replace BB := BB.alloc (.cells #[.slice b1 m1 d1, .slice b2 m2 d2] 34)
  replace BR := BR.alloc (.cells #[.slice b1 m1 d1, .slice b2 m2 d2] 34)
  have BD := Blk.new (((w.alloc (.cells #[.int .i64 p, .int .i64 c, .int .i64 h, .int .i64 s] 32)).alloc (.cells #[.slice a1 n1 c1, .slice a2 n2 c2] 34)).alloc (.cells #[.int .i64 ra, .int .i64 rb] 36)) #[.slice b1 m1 d1, .slice b2 m2 d2] 34
  rw [hz3] at BD
  have hb : Below w.heap.size w ((((w.alloc (.cells #[.int .i64 p, .int .i64 c, .int .i64 h, .int .i64 s] 32)).alloc (.cells #[.slice a1 n1 c1, .slice a2 n2 c2] 34)).alloc (.cells #[.int .i64 ra, .int .i64 rb] 36)).alloc (.cells #[.slice b1 m1 d1, .slice b2 m2 d2] 34)) := hb3.alloc hb3.size _
  clear hb3 hz3
  obtain ⟨x0, x1, x2, x3, xf, xl⟩ := BV.four
  obtain ⟨y0, y1, yf, yl⟩ := BB.two
  obtain ⟨z0, z1, zf, zl⟩ := BR.two
  by_cases e0 : AC = 0
  · subst e0
    rw [if_pos rfl]
    obtain ⟨RV, hRV⟩ : ∃ z, (if FF < 0 then (.tuple #[.int .i64 0, .int .i64 4] : Value) else .tuple #[.int .i64 FF, .int .i64 0]) = z := ⟨_, rfl⟩
    rw [hRV]
    have HRV := Lib.hid hRV
    clear hRV
    go_enter Try.func28, Try.ntmps28
    go_wp2_with fail
    clear x0 x1 x2 x3 xf xl y0 y1 yf yl z0 z1 zf zl
    generalize ((((w.alloc (.cells #[.int .i64 p, .int .i64 c, .int .i64 h, .int .i64 s] 32)).alloc (.cells #[.slice a1 n1 c1, .slice a2 n2 c2] 34)).alloc (.cells #[.int .i64 ra, .int .i64 rb] 36)).alloc (.cells #[.slice b1 m1 d1, .slice b2 m2 d2] 34)) = v0 at *
    refine (HAP.out _ (r1.below hb) (r2.below hb)).mono ?_
    rintro e w1 ⟨aL, kL, L, rfl, hLm, hLO, hLA, hb1⟩
    have hLl : L.length ≤ 1000000 := by have := congrArg List.length hLm; rw [List.length_map] at this; omega
    have hbox : w.heap.size < v0.heap.size := by have := BV.lt; omega
    have HLM := Lib.hid hLm
    clear hLm
    have hsec := l05Find_any v0.heap.size w1.heap.size aL L.length kL L b1 b2 m1 m2 d1 d2 us vs w1 rfl (by omega) hLO hLA (fun x hx => HSM.out x.2 (by rw [← HLM.out]; exact List.mem_map.2 ⟨x, hx, rfl⟩)) g1 g2 k1 k2 (s1.below (chain hb hb1)) (s2.below (chain hb hb1))
    rw [HLM.out] at hsec
    rw [HFF.out] at hsec
    have HSEC := Lib.hid hsec
    clear hsec
    obtain ⟨u0, u1, uf, ul⟩ := (BD.below hb1).two
    go_wp2_with fail
    refine (HSEC.out).mono ?_
    rintro e w2 ⟨rfl, hb2⟩
    have hrv := HRV.out
    clear HRV
    by_cases f0 : FF < 0
    · rw [if_pos f0] at hrv
      subst hrv
      go_wp2
      go_ret2
      exact ⟨rfl, chain (chain hb hb1) hb2⟩
    · rw [if_neg f0] at hrv
      subst hrv
      go_wp2
      go_ret2
      exact ⟨rfl, chain (chain hb hb1) hb2⟩
  · rw [if_neg e0]
    have f1 : (AC != 0) = true := by rw [bne_iff_ne]; exact e0
    go_enter Try.func28, Try.ntmps28
    go_wp2_with fail
    clear x0 x1 x2 x3 xf xl y0 y1 yf yl z0 z1 zf zl
    generalize ((((w.alloc (.cells #[.int .i64 p, .int .i64 c, .int .i64 h, .int .i64 s] 32)).alloc (.cells #[.slice a1 n1 c1, .slice a2 n2 c2] 34)).alloc (.cells #[.int .i64 ra, .int .i64 rb] 36)).alloc (.cells #[.slice b1 m1 d1, .slice b2 m2 d2] 34)) = v0 at *
    refine (HAP.out _ (r1.below hb) (r2.below hb)).mono ?_
    rintro e w1 ⟨aL, kL, L, rfl, -, -, -, hb1⟩
    go_wp2
    go_ret2
    exact ⟨rfl, chain hb hb1⟩
end Go.Proofs.Ytokjkcnjmfbfiaa
