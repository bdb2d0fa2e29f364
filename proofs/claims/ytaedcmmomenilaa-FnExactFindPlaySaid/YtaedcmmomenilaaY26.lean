/- Texts of a proof, laid together: Contract of the program's plays of a roll, with the code of a list that is too long; the mathematics of both. Contracts of the program on all plays of a roll with their code, and on forced plays. -/
import Derived.Test.YtaedcmmomenilaaY24
import Derived.Test.YtaedcmmomenilaaY25
namespace Go.Proofs.Ytaedcmmomenilaa
open Go.ChangeShapes Go.WideShapes Go.ChangeAt Go.RowKit
set_option linter.unusedVariables false
set_option linter.unusedSimpArgs false

theorem longP_ne (P : Nat) (h : Int) : ∀ (o : List Int) (l : List Ply), l ≠ [] → longP P h o l ≠ []
  | [], l, hl => hl
  | d :: ds, l, hl => by
    rw [longP]
    split
    · exact hl
    · rename_i e
      exact longP_ne P h ds _ e
theorem addP_ne (out : List Ply) (p : Ply) (h : out ≠ []) : addP out p ≠ [] := by
  unfold addP
  split
  · exact h
  · simp
theorem addAll_keep : ∀ (l out : List Ply), out ≠ [] → addAll out l ≠ []
  | [], out, h => h
  | x :: l, out, h => addAll_keep l (addP out x) (addP_ne out x h)
theorem addAll_ne (l : List Ply) (h : l ≠ []) : addAll [] l ≠ [] := by
  cases l with
  | nil => exact absurd rfl h
  | cons x l => exact addAll_keep l (addP [] x) (by unfold addP; simp)
/-- The orders whose longest sequences are legal. -/
def legalO (P : Nat) (h : Int) (xs ys : List Int) (U : Nat) (OS : List (List Int)) : List (List Int) :=
  if U = 1 then (OS.filter (fun o => longN P h o (startP xs ys) == U)).take 1 else OS.filter (fun o => longN P h o (startP xs ys) == U)
theorem legalO_all (P : Nat) (h : Int) (xs ys : List Int) (U : Nat) (ra rb : Int) :
    addAll [] ((legalO P h xs ys U (ordersP ra rb)).flatMap (fun o => longP P h o (startP xs ys))) = allTo P h xs ys U (ordersP ra rb) (ordersP ra rb).length := by
  have hne : ∀ o, 0 < (addAll [] (longP P h o (startP xs ys))).length := fun o => List.length_pos_iff.2 (addAll_ne _ (longP_ne P h o _ (by simp [startP])))
  unfold ordersP
  split
  · rename_i e
    by_cases e1 : longN P h [ra, ra, ra, ra] (startP xs ys) = U
    · by_cases e2 : U = 1 <;> simp [legalO, allTo, allStep, e1, e2]
    · by_cases e2 : U = 1
      · subst e2
        simp [legalO, allTo, allStep, e1, addAll]
      · simp [legalO, allTo, allStep, e1, e2, addAll]
  · rename_i e
    have n1 := hne [ra, rb]
    by_cases e1 : longN P h [ra, rb] (startP xs ys) = U
    · by_cases e3 : longN P h [rb, ra] (startP xs ys) = U
      · by_cases e2 : U = 1
        · subst e2
          simp [legalO, allTo, allStep, e1, e3, n1]
        · simp [legalO, allTo, allStep, e1, e3, e2, addAll_append]
      · by_cases e2 : U = 1
        · subst e2
          simp [legalO, allTo, allStep, e1, e3]
        · simp [legalO, allTo, allStep, e1, e3, e2]
    · by_cases e3 : longN P h [rb, ra] (startP xs ys) = U
      · by_cases e2 : U = 1
        · subst e2
          simp [legalO, allTo, allStep, e1, e3]
        · simp [legalO, allTo, allStep, e1, e3, e2]
      · by_cases e2 : U = 1
        · subst e2
          simp [legalO, allTo, allStep, e1, e3, addAll]
        · simp [legalO, allTo, allStep, e1, e3, e2, addAll]
theorem levels_ne (P : Nat) (h : Int) : ∀ (o : List Int) (l : List Ply), l ≠ [] → ∀ m ∈ levels P h o l, m ≠ []
  | [], l, hl, m, hm => by simp [levels] at hm; rw [hm]; exact hl
  | d :: ds, l, hl, m, hm => by
    rw [levels] at hm
    rcases List.mem_cons.1 hm with rfl | hm
    · exact hl
    · split at hm
      · simp at hm
      · rename_i e
        exact levels_ne P h ds _ e m hm
theorem levels_steps (P : Nat) (h : Int) : ∀ (o : List Int) (l : List Ply) (n : Nat), (∀ q ∈ l, q.1.length ≤ n) → ∀ m ∈ levels P h o l, ∀ q ∈ m, q.1.length ≤ n + o.length
  | [], l, n, hl, m, hm => by simp [levels] at hm; rw [hm]; exact hl
  | d :: ds, l, n, hl, m, hm => by
    rw [levels] at hm
    rcases List.mem_cons.1 hm with rfl | hm
    · intro q hq; have := hl q hq; simp; omega
    · split at hm
      · simp at hm
      · intro q hq
        have := levels_steps P h ds _ (n + 1) (fun q hq => by
          rcases addAll_mem hq with h2 | h2
          · simp at h2
          · obtain ⟨p, hp, hq⟩ := List.mem_flatMap.1 h2
            obtain ⟨t, _, rfl⟩ := List.mem_map.1 hq
            have := hl p hp
            simp [oneMore]
            omega) m hm q hq
        rw [List.length_cons]
        omega
theorem levels_small {P : Nat} (hP : P ≤ 24) (h : Int) (o : List Int) (xs ys : List Int) (ho : o.length ≤ 4) : ∀ m ∈ levels P h o (startP xs ys), m.length ≤ 390625 := by
  have h1 : ∀ (o : List Int) (l : List Ply), ∀ m ∈ levels P h o l, m.length ≤ l.length * 25 ^ o.length := by
    intro o
    induction o with
    | nil => intro l m hm; simp [levels] at hm; rw [hm]; simp
    | cons d ds ih =>
      intro l m hm
      have hp : 0 < 25 ^ ds.length := Nat.pow_pos (by omega)
      rw [levels] at hm
      rw [List.length_cons, Nat.pow_succ]
      rcases List.mem_cons.1 hm with rfl | hm
      · have : m.length * 1 ≤ m.length * (25 ^ ds.length * 25) := Nat.mul_le_mul_left _ (by omega)
        omega
      · split at hm
        · simp at hm
        · have e1 := ih _ m hm
          have e2 := nextP_length P h d l
          have e3 : l.length * (P + 1) ≤ l.length * 25 := Nat.mul_le_mul_left _ (by omega)
          have e4 : (nextP P h d l).length * 25 ^ ds.length ≤ l.length * 25 * 25 ^ ds.length := Nat.mul_le_mul_right _ (by omega)
          have e5 : l.length * 25 * 25 ^ ds.length = l.length * (25 ^ ds.length * 25) := by rw [Nat.mul_assoc, Nat.mul_comm 25]
          omega
  intro m hm
  have e1 := h1 o _ m hm
  have e2 : 25 ^ o.length ≤ 25 ^ 4 := Nat.pow_le_pow_right (by omega) ho
  simp only [startP, List.length_cons, List.length_nil] at e1
  omega
/-- What is known of the listings of a roll. -/
structure Liss (P : Nat) (h : Int) (xs ys : List Int) (ra rb : Int) (L : List LI) : Prop where
  len : ∀ x ∈ L, x.2.2.2.length = longN P h x.1.2 (startP xs ys) + 1
  four : ∀ x ∈ L, x.1.2.length ≤ 4
  two : L.length ≤ 2
  pos : 0 < L.length
  used : usedL L = usedP P h xs ys ra rb
  low : ∀ i, usedLTo L i ≤ 4
  last : ∀ x ∈ L, (lastP x).map (·.2) = longP P h x.1.2 (startP xs ys)
  crowd : ∀ x ∈ L, crowdB x = !(fineP P h x.1.2 (startP xs ys))
  step : ∀ x ∈ L, ∀ y ∈ x.2.2.2, (∀ q ∈ y.2.2, q.2.1.length ≤ 4) ∧ 0 < y.2.2.length
theorem liss_of {P : Nat} {h ra rb : Int} {xs ys : List Int} {L : List LI} (hT : L.map (fun x => x.1.2) = ordersP ra rb) {F : LI → Prop} (hQ : ∀ x ∈ L, x.2.2.2.map (fun y => y.2.2.map (·.2)) = levels P h x.1.2 (startP xs ys) ∧ F x) : Liss P h xs ys ra rb L := by
  have hlen : ∀ x ∈ L, x.2.2.2.length = longN P h x.1.2 (startP xs ys) + 1 := fun x hx => by
    have := congrArg List.length (hQ x hx).1
    rwa [List.length_map, levels_length] at this
  have ho4 : ∀ x ∈ L, x.1.2.length ≤ 4 := fun x hx => by
    have hm : x.1.2 ∈ ordersP ra rb := by rw [← hT]; exact List.mem_map.2 ⟨x, hx, rfl⟩
    unfold ordersP at hm
    split at hm
    · simp at hm; rw [hm]; simp
    · simp at hm; rcases hm with h | h <;> rw [h] <;> simp
  have hll : L.length = (ordersP ra rb).length := by
    have := congrArg List.length hT
    rwa [List.length_map] at this
  refine ⟨hlen, ho4, by rw [hll]; exact ordersP_length ra rb, by rw [hll]; unfold ordersP; split <;> simp, usedL_levels P h xs ys _ L hT (fun x hx => (hQ x hx).1), fun i => ?_, fun x hx => ?_, fun x hx => ?_, fun x hx y hy => ⟨fun q hq => ?_, ?_⟩⟩
  · have e : usedLTo L i = usedTo P h xs ys (ordersP ra rb) i := by
      unfold usedLTo usedTo
      refine usedL_levels P h xs ys _ _ ?_ (fun x hx => (hQ x (List.mem_of_mem_take hx)).1)
      rw [← hT, List.map_take]
    rw [e]
    exact usedTo_le P h xs ys ra rb i
  · have hl := levels_last P h x.1.2 (startP xs ys)
    rw [← (hQ x hx).1, List.getElem?_map] at hl
    unfold lastP
    rw [hlen x hx, Nat.add_sub_cancel]
    cases e : x.2.2.2[longN P h x.1.2 (startP xs ys)]? with
    | none => rw [e] at hl; simp at hl
    | some y => rw [e] at hl; simpa using hl
  · rw [← levels_fine P h x.1.2 (startP xs ys) (by simp [startP]), ← (hQ x hx).1]
    unfold crowdB
    rw [List.all_map, Bool.eq_iff_iff]
    simp [Function.comp_def]
  · have := levels_steps P h x.1.2 (startP xs ys) 0 (fun q hq => by simp [startP] at hq; rw [hq]; simp) (y.2.2.map (·.2)) (by rw [← (hQ x hx).1]; exact List.mem_map.2 ⟨y, hy, rfl⟩) q.2 (List.mem_map.2 ⟨q, hq, rfl⟩)
    have h4 := ho4 x hx
    omega
  · have := levels_ne P h x.1.2 (startP xs ys) (by simp [startP]) (y.2.2.map (·.2)) (by rw [← (hQ x hx).1]; exact List.mem_map.2 ⟨y, hy, rfl⟩)
    exact List.length_pos_iff.2 (fun e => this (by rw [e]; rfl))
theorem Liss.seqs {P : Nat} {h ra rb : Int} {xs ys : List Int} {L : List LI} (i : Liss P h xs ys ra rb L) (hT : L.map (fun x => x.1.2) = ordersP ra rb) :
    addAll [] (((legalL L).flatMap lastP).map (·.2)) = allP P h xs ys ra rb := by
  unfold allP
  rw [← legalO_all]
  congr 1
  have hk : (keepL (usedP P h xs ys ra rb) L).map (fun x => x.1.2) = (ordersP ra rb).filter (fun o => longN P h o (startP xs ys) == usedP P h xs ys ra rb) := by
    unfold keepL
    rw [← hT, List.filter_map]
    congr 1
    refine List.filter_congr fun x hx => ?_
    rw [i.len x hx, Nat.add_sub_cancel]
    rfl
  have hl : (legalL L).map (fun x => x.1.2) = legalO P h xs ys (usedP P h xs ys ra rb) (ordersP ra rb) := by
    unfold legalL legalO
    rw [i.used]
    split
    · rw [List.map_take, hk]
    · exact hk
  rw [← hl, List.map_flatMap, List.flatMap_map]
  rw [List.flatMap_def, List.flatMap_def]
  congr 1
  exact List.map_congr_left fun x hx => i.last x (legalL_mem hx).1
theorem Liss.ok {P : Nat} {h ra rb : Int} {xs ys : List Int} {L : List LI} (i : Liss P h xs ys ra rb L) (hT : L.map (fun x => x.1.2) = ordersP ra rb) : L.any crowdB = !(allOk P h xs ys ra rb) := by
  have h1 : L.any crowdB = L.any (fun x => !(fineP P h x.1.2 (startP xs ys))) := by
    rw [Bool.eq_iff_iff, List.any_eq_true, List.any_eq_true]
    constructor
    · rintro ⟨x, hx, e⟩; exact ⟨x, hx, by rw [← i.crowd x hx]; exact e⟩
    · rintro ⟨x, hx, e⟩; exact ⟨x, hx, by rw [i.crowd x hx]; exact e⟩
  have h2 : L.any (fun x => !(fineP P h x.1.2 (startP xs ys))) = (L.map (fun x => x.1.2)).any (fun o => !(fineP P h o (startP xs ys))) := by rw [List.any_map]; rfl
  rw [h1, h2, hT]
  unfold allOk ordersP
  split <;> simp [okTo, Bool.not_and]
theorem Liss.small {P : Nat} {h ra rb : Int} {xs ys : List Int} {L : List LI} (i : Liss P h xs ys ra rb L) (hP : P ≤ 24) (k : Nat) : (((legalL L).take k).flatMap lastP).length ≤ 1000000 := by
  have h1 : ∀ (M : List LI), (∀ x ∈ M, x ∈ L) → (M.flatMap lastP).length ≤ M.length * 390625 := by
    intro M
    induction M with
    | nil => intro _; simp
    | cons x M ih =>
      intro hM
      have e1 := ih (fun y hy => hM y (by simp [hy]))
      have e2 : (lastP x).length ≤ 390625 := by
        have := congrArg List.length (i.last x (hM x (by simp)))
        rw [List.length_map] at this
        rw [this]
        exact longP_four hP h _ xs ys (i.four x (hM x (by simp)))
      rw [List.flatMap_cons, List.length_append, List.length_cons]
      omega
  have h2 := h1 ((legalL L).take k) (fun x hx => (legalL_mem (List.mem_of_mem_take hx)).1)
  have h3 : ((legalL L).take k).length ≤ 2 := by
    rw [List.length_take]
    have := legalL_le L
    have := i.two
    omega
  omega
/-- The program's plays of a roll, or the code of a list that is too long. -/
def plL (P : Nat) (h : Int) (xs ys : List Int) (ra rb : Int) : List Ply := if allOk P h xs ys ra rb = true then allP P h xs ys ra rb else []
def plC2 (P : Nat) (h : Int) (xs ys : List Int) (ra rb : Int) : Int := if allOk P h xs ys ra rb = true then 0 else 3
set_option maxRecDepth 100000 in
set_option maxHeartbeats 4000000 in
theorem implPlays_any (P : Nat) (c h s ra rb : Int) (a1 a2 : Option Addr) (n1 n2 c1 c2 : Nat) (xs ys : List Int) (w : World) (h1 : xs.length = n1) (h2 : ys.length = n2) (r1 : IRow w a1 xs) (r2 : IRow w a2 ys) (g : isB (P : Int) c h s xs ys = true) (ha : inB ra 1 s = true) (hbb : inB rb 1 s = true) :
    Calls Try.prog 50 #[.agg #[.int .i64 (P : Int), .int .i64 c, .int .i64 h, .int .i64 s], .agg #[.slice a1 n1 c1, .slice a2 n2 c2], .agg #[.int .i64 ra, .int .i64 rb]] w (PlaysGot2 (plL P h xs ys ra rb) (plC2 P h xs ys ra rb) w) := by
  have hp24 : P ≤ 24 := by have := (isB_parts g).2.1; omega
  have hlo := fun W (q1 : IRow W a1 xs) (q2 : IRow W a2 ys) => listingsOf_any P c h s ra rb a1 a2 n1 n2 c1 c2 xs ys W h1 h2 q1 q2 g ha hbb
  have HLO := Lib.hid hlo
  clear hlo g ha hbb
  obtain ⟨PS, hPS⟩ : ∃ z, plL P h xs ys ra rb = z := ⟨_, rfl⟩
  obtain ⟨PC, hPC⟩ : ∃ z, plC2 P h xs ys ra rb = z := ⟨_, rfl⟩
  rw [hPS, hPC]
  unfold plL at hPS
  unfold plC2 at hPC
  have HPS := Lib.hid hPS
  have HPC := Lib.hid hPC
  clear hPS hPC
  obtain ⟨BV, BB, BR, hb, hz⟩ := three_new w #[.int .i64 (P : Int), .int .i64 c, .int .i64 h, .int .i64 s] #[.slice a1 n1 c1, .slice a2 n2 c2] #[.int .i64 ra, .int .i64 rb] 32 34 36
  clear hz
  replace r1 := r1.below hb
  replace r2 := r2.below hb
  obtain ⟨x0, x1, x2, x3, xf, xl⟩ := BV.four
  obtain ⟨y0, y1, yf, yl⟩ := BB.two
  obtain ⟨z0, z1, zf, zl⟩ := BR.two
  go_enter Try.func50, Try.ntmps50
  go_wp2_with fail
  clear x0 x1 x2 x3 xf xl y0 y1 yf yl z0 z1 zf zl
  generalize (((w.alloc (.cells #[.int .i64 (P : Int), .int .i64 c, .int .i64 h, .int .i64 s] 32)).alloc (.cells #[.slice a1 n1 c1, .slice a2 n2 c2] 34)).alloc (.cells #[.int .i64 ra, .int .i64 rb] 36)) = v0 at *
  refine (HLO.out _ r1 r2).mono ?_
  rintro e w1 ⟨gL, kL, L, rfl, hgL, hgz, hV, hA, hT, hQ, hb1⟩
  clear HLO
  have hLi := liss_of hT hQ
  have hok := hLi.ok hT
  have hseq := hLi.seqs hT
  have hL2 := hLi.two
  have hcon := containsI_any gL kL L 79 #[] crowdB w1 (by omega) hV isCrowded_enter (fun W hW x hx => isCrowded_any x W ((hA x hx).2.2.2.1.below hW) (by have := hLi.len x hx; have := hLi.four x hx; have := longN_le P h x.1.2 (startP xs ys); omega) (fun y hy => by
    have hm : y.2.2.map (·.2) ∈ x.2.2.2.map (fun y => y.2.2.map (·.2)) := List.mem_map.2 ⟨y, hy, rfl⟩
    rw [(hQ x hx).1] at hm
    have := levels_small hp24 h x.1.2 xs ys (hLi.four x hx) _ hm
    rw [List.length_map] at this
    omega))
  obtain ⟨OK, hOK⟩ : ∃ b, allOk P h xs ys ra rb = b := ⟨_, rfl⟩
  rw [hOK] at hok
  rw [hok] at hcon
  have hps := HPS.out
  have hpc := HPC.out
  rw [hOK] at hps hpc
  clear HPS HPC
  have HCON := Lib.hid hcon
  have HLI := Lib.hid hLi
  have HSEQ := Lib.hid hseq
  have HA := Lib.hid hA
  have HQ := Lib.hid hQ
  clear hcon hLi hseq hA hQ hok hOK hT
  have hb01 := chain hb hb1
  cases OK with
  | false =>
    rw [if_neg (by simp)] at hps hpc
    subst hps hpc
    go_wp2_with fail
    refine (HCON.out).mono ?_
    rintro e w2 ⟨rfl, hb2⟩
    go_wp2
    go_ret2
    exact ⟨none, 0, [], rfl, rfl, .inl ⟨rfl, rfl⟩, PAll.nil _ _ _, chain hb01 hb2⟩
  | true =>
    rw [if_pos rfl] at hps hpc
    subst hps hpc
    go_wp2_with fail
    refine (HCON.out).mono ?_
    rintro e w2 ⟨rfl, hb2⟩
    have hvs := hb.size
    have hws := hb1.size
    have hls := (hb01).size
    have hlp := lplays_any P c h s v0.heap.size 4 gL kL L w2 hp24 (by have := hb2.size; omega) (hV.below hb2) ((HA.out.below hb2).mono (Nat.le_refl _) hb2.size) (fun x hx => by
      have h4 := HLI.out.four x hx
      have h5 := longN_le P h x.1.2 (startP xs ys)
      have h6 := HLI.out.len x hx
      omega) (by omega) (by have := HLI.out.low L.length; unfold usedLTo at this; rw [List.take_length] at this; omega) (fun i => by have := HLI.out.low i; omega) HLI.out.pos (fun x hx y hy => ⟨(HQ.out x hx).2 y hy, HLI.out.step x hx y hy⟩) (HLI.out.small hp24)
    have HLP := Lib.hid hlp
    clear hlp
    go_wp2_with fail
    refine (HLP.out).mono ?_
    rintro e w3 ⟨b, kb, LL, zs, rfl, hzs, hLz, hOPL, hPAL, hLq, hb3⟩
    have HLZ := Lib.hid (show LL.map Prod.snd = allP P h xs ys ra rb from by rw [← HSEQ.out, ← hzs]; exact hLz)
    clear hLz hzs hLq HLP HCON
    go_wp2
    go_ret2
    exact ⟨b, kb, LL, rfl, HLZ.out, hOPL.mono (by have := hb2.size; omega) (Nat.le_refl _), hPAL.mono (by omega) (Nat.le_refl _), chain (chain hb01 hb2) hb3⟩
end Go.Proofs.Ytaedcmmomenilaa
namespace Go.Proofs.Ytaedcmmomenilaa
open Go.ChangeShapes Go.WideShapes Go.ChangeAt Go.RowKit
set_option linter.unusedVariables false
set_option linter.unusedSimpArgs false

set_option maxRecDepth 8000 in
set_option maxHeartbeats 1000000 in
theorem implAllPlays_any (ra rb : Int) (p c h s : Int) (a1 a2 : Option Addr) (n1 n2 c1 c2 : Nat) (xs ys : List Int) (w : World) (h1 : xs.length = n1) (h2 : ys.length = n2) (l1 : n1 ≤ 1048576) (l2 : n2 ≤ 1048576) (r1 : IRow w a1 xs) (r2 : IRow w a2 ys) :
    Calls Try.prog 34 #[.agg #[.int .i64 p, .int .i64 c, .int .i64 h, .int .i64 s], .agg #[.slice a1 n1 c1, .slice a2 n2 c2], .agg #[.int .i64 ra, .int .i64 rb]] w (PlaysGot2 (apL p c h s xs ys ra rb) (apC p c h s xs ys ra rb) w) := by
  have hC := fun W (q1 : IRow W a1 xs) (q2 : IRow W a2 ys) => rollCode_any ra rb p c h s a1 a2 n1 n2 c1 c2 xs ys W h1 h2 l1 l2 q1 q2
  unfold apL apC
  by_cases g0 : codeB p c h s xs ys ra rb = 0
  · obtain ⟨g, e⟩ := codeB_zero g0
    rw [if_pos g0, if_pos g0]
    rw [g0] at hC
    obtain ⟨p0, p1, k0, k1, k2, k3, N1, N2, hx, hy, s0, s1, s2, s3⟩ := isB_parts g
    clear hx hy
    obtain ⟨P, rfl⟩ := Int.eq_ofNat_of_zero_le (by omega : 0 ≤ p)
    rw [show ((P : Int)).toNat = P by simp]
    obtain ⟨e1, e2⟩ := rlB_two e
    have hU := fun W (q1 : IRow W a1 xs) (q2 : IRow W a2 ys) => implPlays_any P c h s ra rb a1 a2 n1 n2 c1 c2 xs ys W h1 h2 q1 q2 g e1 e2
    unfold PlaysGot2 at hU
    have t1 : plL P h xs ys ra rb = (if allOk P h xs ys ra rb = true then allP P h xs ys ra rb else []) := rfl
    have t2 : plC2 P h xs ys ra rb = (if allOk P h xs ys ra rb = true then 0 else 3) := rfl
    rw [← t1, ← t2]
    clear t1 t2
    obtain ⟨AO, hAO⟩ : ∃ z, plC2 P h xs ys ra rb = z := ⟨_, rfl⟩
    obtain ⟨AA, hAA⟩ : ∃ z, plL P h xs ys ra rb = z := ⟨_, rfl⟩
    rw [hAO, hAA] at hU
    rw [hAO, hAA]
    have HC := Lib.hid hC
    have HU := Lib.hid hU
    clear hC hU hAO hAA g e e1 e2 g0
    obtain ⟨BV, BB, BR, hb, hz⟩ := three_new w #[.int .i64 (P : Int), .int .i64 c, .int .i64 h, .int .i64 s] #[.slice a1 n1 c1, .slice a2 n2 c2] #[.int .i64 ra, .int .i64 rb] 32 34 36
    clear hz
    obtain ⟨x0, x1, x2, x3, xf, xl⟩ := BV.four
    obtain ⟨y0, y1, yf, yl⟩ := BB.two
    obtain ⟨z0, z1, zf, zl⟩ := BR.two
    go_enter Try.func34, Try.ntmps34
    go_wp2_with (first | (go_at_call 42; refine (HC.out _ (r1.below hb) (r2.below hb)).mono ?_; clear HC; rintro e w1 ⟨rfl, hb1⟩; obtain ⟨x0, x1, x2, x3, xf, xl⟩ := (BV.below hb1).four; obtain ⟨y0, y1, yf, yl⟩ := (BB.below hb1).two; obtain ⟨z0, z1, zf, zl⟩ := (BR.below hb1).two) | (go_at_call 50; refine (HU.out _ (r1.below (chain hb hb1)) (r2.below (chain hb hb1))).mono ?_; rintro e w2 ⟨aL, kL, L, rfl, hLm, hLO, hLA, hb2⟩))
    go_ret2
    exact ⟨aL, kL, L, rfl, hLm, hLO.mono (chain hb hb1).size (Nat.le_refl _), hLA.mono (chain hb hb1).size (Nat.le_refl _), chain (chain hb hb1) hb2⟩
  · rw [if_neg g0, if_neg g0]
    obtain ⟨q, hq⟩ : ∃ q, codeB p c h s xs ys ra rb = q := ⟨_, rfl⟩
    rw [hq] at hC g0 ⊢
    have f0 : (q != 0) = true := by rw [bne_iff_ne]; exact g0
    have HC := Lib.hid hC
    clear hC hq
    obtain ⟨BV, BB, BR, hb, hz⟩ := three_new w #[.int .i64 p, .int .i64 c, .int .i64 h, .int .i64 s] #[.slice a1 n1 c1, .slice a2 n2 c2] #[.int .i64 ra, .int .i64 rb] 32 34 36
    clear hz
    obtain ⟨x0, x1, x2, x3, xf, xl⟩ := BV.four
    obtain ⟨y0, y1, yf, yl⟩ := BB.two
    obtain ⟨z0, z1, zf, zl⟩ := BR.two
    go_enter Try.func34, Try.ntmps34
    go_wp2_with (first | (go_at_call 42; refine (HC.out _ (r1.below hb) (r2.below hb)).mono ?_; clear HC; rintro e w1 ⟨rfl, hb1⟩; obtain ⟨x0, x1, x2, x3, xf, xl⟩ := (BV.below hb1).four; obtain ⟨y0, y1, yf, yl⟩ := (BB.below hb1).two; obtain ⟨z0, z1, zf, zl⟩ := (BR.below hb1).two))
    go_ret2
    exact ⟨none, 0, [], rfl, rfl, .inl ⟨rfl, rfl⟩, PAll.nil _ _ _, chain hb hb1⟩
set_option maxRecDepth 8000 in
set_option maxHeartbeats 1000000 in
theorem implIsForced_any (ra rb : Int) (p c h s : Int) (a1 a2 : Option Addr) (n1 n2 c1 c2 : Nat) (xs ys : List Int) (w : World) (h1 : xs.length = n1) (h2 : ys.length = n2) (l1 : n1 ≤ 1048576) (l2 : n2 ≤ 1048576) (r1 : IRow w a1 xs) (r2 : IRow w a2 ys) :
    Calls Try.prog 17 #[.agg #[.int .i64 p, .int .i64 c, .int .i64 h, .int .i64 s], .agg #[.slice a1 n1 c1, .slice a2 n2 c2], .agg #[.int .i64 ra, .int .i64 rb]] w fun e w' => e = .returned (ifV p c h s xs ys ra rb) ∧ Below w.heap.size w w' := by
  have hA := fun W (q1 : IRow W a1 xs) (q2 : IRow W a2 ys) => implAllPlays_any ra rb p c h s a1 a2 n1 n2 c1 c2 xs ys W h1 h2 l1 l2 q1 q2
  unfold ifV
  unfold PlaysGot2 at hA
  obtain ⟨AC, hAC⟩ : ∃ z, apC p c h s xs ys ra rb = z := ⟨_, rfl⟩
  obtain ⟨AA, hAA⟩ : ∃ z, apL p c h s xs ys ra rb = z := ⟨_, rfl⟩
  rw [hAC, hAA] at hA
  rw [hAC, hAA]
  have HA := Lib.hid hA
  clear hA hAC hAA
  obtain ⟨BV, BB, BR, hb, hz⟩ := three_new w #[.int .i64 p, .int .i64 c, .int .i64 h, .int .i64 s] #[.slice a1 n1 c1, .slice a2 n2 c2] #[.int .i64 ra, .int .i64 rb] 32 34 36
  clear hz
  obtain ⟨x0, x1, x2, x3, xf, xl⟩ := BV.four
  obtain ⟨y0, y1, yf, yl⟩ := BB.two
  obtain ⟨z0, z1, zf, zl⟩ := BR.two
  by_cases e1 : AA.length = 1
  · rw [decide_eq_true e1]
    go_enter Try.func17, Try.ntmps17
    go_wp2_with fail
    refine (HA.out _ (r1.below hb) (r2.below hb)).mono ?_
    rintro e w1 ⟨aL, kL, L, rfl, hLm, -, -, hb1⟩
    have hl : L.length = 1 := by rw [← e1, ← hLm, List.length_map]
    have f0 : ((L.length : Int) == 1) = true := by rw [beq_iff_eq]; omega
    clear hl hLm e1
    go_wp2
    go_ret2
    exact ⟨rfl, chain hb hb1⟩
  · rw [decide_eq_false e1]
    go_enter Try.func17, Try.ntmps17
    go_wp2_with fail
    refine (HA.out _ (r1.below hb) (r2.below hb)).mono ?_
    rintro e w1 ⟨aL, kL, L, rfl, hLm, -, -, hb1⟩
    have hl : L.length ≠ 1 := fun q => e1 (by rw [← q, ← hLm, List.length_map])
    have f0 : ((L.length : Int) == 1) = false := by rw [beq_eq_false_iff_ne]; omega
    clear hl hLm e1
    go_wp2
    go_ret2
    exact ⟨rfl, chain hb hb1⟩
end Go.Proofs.Ytaedcmmomenilaa
