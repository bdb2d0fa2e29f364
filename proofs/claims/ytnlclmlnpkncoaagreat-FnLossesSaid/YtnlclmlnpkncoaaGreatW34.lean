/- Texts of a proof, laid together. -/
import Derived.Test.YtnlclmlnpkncoaaGreatW33
namespace Go.Proofs.YtnlclmlnpkncoaaGreat
open Go.ChangeShapes Go.WideShapes Go.ChangeAt Go.RowKit
set_option linter.unusedVariables false
set_option linter.unusedSimpArgs false
set_option maxRecDepth 4000
theorem wkS_le (b r : List (List Int) × Int) : (wkS b r).1.length ≤ b.1.length + r.1.length := by
  have h1 := putAll_le r.1 []
  have h2 := putAll_le r.1 b.1
  unfold wkS
  split
  · dsimp only; simp at h1; omega
  · split
    · dsimp only; omega
    · omega
theorem putAll_PO {n : Nat} : ∀ (m l : List (List Int)), (∀ z ∈ l, PO n z) → (∀ z ∈ m, PO n z) → ∀ z ∈ putAll l m, PO n z
  | [], l, hl, _ => hl
  | p :: m, l, hl, hm => putAll_PO m (putP l p) (fun z hz => by
      rcases (putP_mem (n := n) (fun x hx => (hl x hx).2.1) (hm p (by simp)).2.1 z).1 hz with h | h
      · exact hl z h
      · rw [h]; exact hm p (by simp)) (fun z hz => hm z (by simp [hz]))
theorem wk_fold {n B : Nat} {ds : List Int} {M : Int} (hB : ∀ q, PO n q → (∀ z ∈ (walkV ds q).1, PO n z) ∧ (walkV ds q).1.length ≤ B ∧ 0 ≤ (walkV ds q).2 ∧ (walkV ds q).2 ≤ M) : ∀ (qs : List (List Int)) (b : List (List Int) × Int), (∀ q ∈ qs, PO n q) → (∀ z ∈ b.1, PO n z) → 0 ≤ b.2 → b.2 ≤ M + 1 →
    (∀ z ∈ (qs.foldl (fun b q => wkS b (walkV ds q)) b).1, PO n z) ∧ (qs.foldl (fun b q => wkS b (walkV ds q)) b).1.length ≤ b.1.length + qs.length * B ∧ 0 ≤ (qs.foldl (fun b q => wkS b (walkV ds q)) b).2 ∧ (qs.foldl (fun b q => wkS b (walkV ds q)) b).2 ≤ M + 1
  | [], b, _, h1, h2, h3 => ⟨h1, by simp, h2, h3⟩
  | q :: qs, b, hq, h1, h2, h3 => by
    obtain ⟨r1, r2, r3, r4⟩ := hB q (hq q (by simp))
    have hl := wkS_le b (walkV ds q)
    have hp : (∀ z ∈ (wkS b (walkV ds q)).1, PO n z) ∧ 0 ≤ (wkS b (walkV ds q)).2 ∧ (wkS b (walkV ds q)).2 ≤ M + 1 := by
      unfold wkS
      split
      · exact ⟨putAll_PO _ _ (by simp) r1, by dsimp only; omega, by dsimp only; omega⟩
      · split
        · exact ⟨putAll_PO _ _ h1 r1, h2, h3⟩
        · exact ⟨h1, h2, h3⟩
    obtain ⟨g1, g2, g3, g4⟩ := wk_fold hB qs (wkS b (walkV ds q)) (fun x hx => hq x (by simp [hx])) hp.1 hp.2.1 hp.2.2
    refine ⟨g1, ?_, g3, g4⟩
    rw [List.foldl_cons, List.length_cons, Nat.add_mul]
    omega
def wb : Nat → Nat
  | 0 => 1
  | m + 1 => 1 + 24 * wb m
theorem wb_le : ∀ m, m ≤ 4 → wb m ≤ 346201 := fun m hm => by
  match m, hm with
  | 0, _ => decide
  | 1, _ => decide
  | 2, _ => decide
  | 3, _ => decide
  | 4, _ => decide
theorem stepsP_le (p : List Int) (d : Int) : (stepsP p d).length ≤ p.length := stM_len p d _
theorem stepsP_PO {n : Nat} {q z : List Int} {d : Int} (h : PO n q) (hd : 1 ≤ d) (hz : z ∈ stepsP q d) : PO n z := by
  by_cases e : q.sum = 0
  · rw [steps_none h.1 e] at hz; simp at hz
  · exact h.step hd ((adL_mem h.1 e z).2 hz)
theorem walk_facts {n : Nat} (hn : n ≤ 24) : ∀ (ds : List Int) (xs : List Int), PO n xs → (∀ d ∈ ds, 1 ≤ d) → (∀ z ∈ (walkV ds xs).1, PO n z) ∧ (walkV ds xs).1.length ≤ wb ds.length ∧ 0 ≤ (walkV ds xs).2 ∧ (walkV ds xs).2 ≤ ds.length
  | [], xs, h, _ => ⟨by simp [walkV, h], by simp [walkV, wb], by simp [walkV], by simp [walkV]⟩
  | d :: ds, xs, h, hd => by
    have ih := fun q (hq : PO n q) => walk_facts hn ds q hq (fun x hx => hd x (by simp [hx]))
    obtain ⟨g1, g2, g3, g4⟩ := wk_fold ih (stepsP xs d) ([xs], 0) (fun q hq => stepsP_PO h (hd d (by simp)) hq) (by simp [h]) (by simp) (by simp; omega)
    refine ⟨g1, ?_, g3, by rw [List.length_cons]; exact_mod_cast g4⟩
    have h3 : (stepsP xs d).length * wb ds.length ≤ 24 * wb ds.length := Nat.mul_le_mul_right _ (Nat.le_trans (stepsP_le xs d) (by rw [h.2.1]; exact hn))
    rw [List.length_cons, wb]
    have h4 : (walkV (d :: ds) xs).1.length ≤ 1 + (stepsP xs d).length * wb ds.length := g2
    omega
def WalkGot (r : List (List Int) × Int) (w : World) (e : Ending) (w' : World) : Prop :=
  ∃ g k l, e = .returned (.tuple #[.slice (some ⟨g, 0, none⟩) l.length k, .int .i64 r.2]) ∧ l.length ≤ k ∧ QRow w' g l ∧ nmQ l = r.1 ∧ QAll w.heap.size w'.heap.size w' l ∧ QCap l ∧ Below w.heap.size w w'
theorem OwnQ_one (w1 : World) (g1 k1 : Nat) (xs : List Int) : QRow (w1.alloc (.cells #[.slice (some ⟨g1, 0, none⟩) xs.length k1] 26)) w1.heap.size [(g1, k1, xs)] := ⟨_, Blk.new w1 _ _, by simp [pqC], rfl⟩
set_option maxRecDepth 8000 in
set_option maxHeartbeats 800000 in
theorem l10Walk_any (n : Nat) (h1 : 1 ≤ n) (hle : n ≤ 24) : ∀ (ds : List Int), ds.length ≤ 4 → (∀ d ∈ ds, 1 ≤ d ∧ d ≤ 6) → ∀ (a b : Option Addr) (cap : Nat) (xs : List Int) (w : World), PO n xs → xs.length ≤ cap → IRow w a xs → IRow w b ds → (ds ≠ [] → ∃ bb oo, b = some ⟨bb, oo, none⟩) →
    Calls Tryz.prog 81 #[.slice a xs.length cap, .slice b ds.length ds.length] w (WalkGot (walkV ds xs) w) := by
  intro ds
  induction ds with
  | nil =>
    intro _ _ a b cap xs w hP hcap hr _ _
    have hn := hP.2.1
    have n0 : (xs.length : Int) ≤ 24 := by omega
    have n9 : xs.length ≤ 24 ∧ 1 ≤ xs.length := by omega
    clear hn
    go_enter Tryz.func81, Tryz.ntmps81
    go_wp2_with (first | (at_builtin; go_loud (refine wp_cloneI rfl (.tmp 13) (.tmp 14) rfl rfl rfl _ xs _ _ rfl rfl hr (by omega) (by omega) ?_; intro g1 k1 w1 hg1 hk1 R1 hb1)))
    go_ret2
    have hz := hb1.size
    exact ⟨w1.heap.size, 1, [(g1, k1, xs)], rfl, Nat.le_refl _, OwnQ_one _ _ _ _, rfl, fun y hy => by
      simp at hy
      subst hy
      exact ⟨hg1, by have := R1.lt; simp; omega, R1.alloc _⟩, fun y hy => by
      simp at hy
      subst hy
      exact hk1, hb1.alloc hz _⟩
  | cons d ds ih =>
    intro h4 hd a b cap xs w hP hcap hr hrd hbx
    rw [List.length_cons] at h4
    have hn := hP.2.1
    have hdd := hd d (by simp)
    have ih2 := ih (by omega) (fun x hx => hd x (by simp [hx]))
    obtain ⟨bb, oo, rfl⟩ := hbx (by simp)
    obtain ⟨b2, o2, he2, hc0⟩ := hrd 0 (by simp)
    cases he2
    rw [Nat.add_zero] at hc0
    simp only [List.getD_cons_zero] at hc0
    have n0 : (xs.length : Int) ≤ 24 := by omega
    obtain ⟨m, hm⟩ : ∃ m, ds.length = m := ⟨_, rfl⟩
    have hst := fun W (r : IRow W a xs) => l10Steps_any a xs.length cap d xs W rfl (by omega) (by omega) hcap hdd hP.all r
    have hwf := fun q (hq : PO n q) => walk_facts hle ds q hq (fun x hx => (hd x (by simp [hx])).1)
    have hSPO : ∀ q ∈ stepsP xs d, PO n q := fun q hq => stepsP_PO hP hdd.1 hq
    have hSN := stepsP_le xs d
    have hwb := wb_le m (by omega)
    have hwb1 := wb_le (m + 1) (by omega)
    have hm3 : m ≤ 3 := by omega
    have hwb2 : 1 + 24 * wb m ≤ 346201 := hwb1
    have n9 : xs.length ≤ 24 ∧ 1 ≤ xs.length := by omega
    have HXN := Lib.hid hn
    obtain ⟨M, hM⟩ : ∃ M, ds.length + 1 = M := ⟨_, rfl⟩
    have f0 : ((M : Int) == 0) = false := by rw [beq_eq_false_iff_ne]; omega
    have f1 : (0 : Int) < (M : Int) := by omega
    have f2 : (1 : Int) ≤ (M : Int) := by omega
    have eM1 : M - 1 = m := by omega
    show Calls Tryz.prog 81 #[.slice a xs.length cap, .slice (some ⟨bb, oo, none⟩) (ds.length + 1) (ds.length + 1)] w (WalkGot (walkV (d :: ds) xs) w)
    rw [hM]
    have HM := Lib.hid hM
    have HM1 := Lib.hid hm
    have HST := Lib.hid hst
    have HWF := Lib.hid hwf
    have HIH := Lib.hid ih2
    have HSPO := Lib.hid hSPO
    have hwv : walkV (d :: ds) xs = (stepsP xs d).foldl (fun b q => wkS b (walkV ds q)) ([xs], 0) := rfl
    rw [hwv]
    clear ih ih2 hst hwf hSPO hwv hd hn hM hm
    go_enter Tryz.func81, Tryz.ntmps81
    go_wp2_with (first | (at_builtin; go_loud (refine wp_cloneI rfl (.tmp 13) (.tmp 14) rfl rfl rfl _ xs _ _ rfl rfl hr (by omega) (by omega) ?_; intro g1 k1 w1 hg1 hk1 R1 hb1; have hc2 := CellIs.below (b := bb) (o := oo) hc0 (hb1.alloc hb1.size (.cells #[.slice (some ⟨g1, 0, none⟩) xs.length k1] 26)); unfold CellIs at hc2)))
    clear hc0 hc2
    have hbA := hb1.alloc hb1.size (.cells #[.slice (some ⟨g1, 0, none⟩) xs.length k1] 26)
    have hQB0 := OwnQ_one w1 g1 k1 xs
    have hAB0 : QAll w.heap.size (w1.alloc (.cells #[.slice (some ⟨g1, 0, none⟩) xs.length k1] 26)).heap.size (w1.alloc (.cells #[.slice (some ⟨g1, 0, none⟩) xs.length k1] 26)) [(g1, k1, xs)] := fun y hy => by
      simp at hy
      subst hy
      exact ⟨hg1, by have := R1.lt; simp; omega, R1.alloc _⟩
    have hz1 := hb1.size
    generalize w1.alloc (.cells #[.slice (some ⟨g1, 0, none⟩) xs.length k1] 26) = wA at *
    refine (HST.out _ (hr.below hbA)).mono ?_
    rintro e w2 ⟨gN, kN, lN, rfl, hkN, hQN, hnmN, hAN, hCN, hb2⟩
    replace hQB0 := hQB0.below hb2
    replace hAB0 := hAB0.below hb2
    have hb := chain hbA hb2
    have hzA := hbA.size
    have hz2 := hb2.size
    have hNl := nm_len hnmN
    obtain ⟨N, hN⟩ : ∃ N, lN.length = N := ⟨_, rfl⟩
    have hN24 : N ≤ 24 := by omega
    have HN := Lib.hid hN
    have HNM := Lib.hid hnmN
    have HCN := Lib.hid hCN
    rw [hN] at hkN ⊢
    have n5 : (N : Int) ≤ 24 := by omega
    clear hN hnmN hCN hNl
    by_cases hM1 : M = 1
    · subst hM1
      have hds : ds = [] := List.eq_nil_of_length_eq_zero (by have := HM.out; omega)
      obtain rfl : m = 0 := by omega
      have hrdt : IRow w (some ⟨bb, oo, none⟩) ds := by
        rw [hds]
        exact fun i hi => by simp at hi
      have HRD := Lib.hid hrdt
      clear hrdt hrd hds
      go_wp2_with fail
      go_loopg [6, 7, 9] N (fun mm bv mv iv wr => ∃ (W : World) (i gB kB : Nat) (lB : List PQ), W = wr ∧ i ≤ N ∧ mm = N - i ∧ bv = .slice (some ⟨gB, 0, none⟩) lB.length kB ∧ mv = .int .i64 (((stepsP xs d).take i).foldl (fun b q => wkS b (walkV ds q)) ([xs], 0)).2 ∧ iv = .int .i64 i ∧ lB.length ≤ kB ∧ QRow W gB lB ∧ nmQ lB = (((stepsP xs d).take i).foldl (fun b q => wkS b (walkV ds q)) ([xs], 0)).1 ∧ QAll w.heap.size W.heap.size W lB ∧ QCap lB ∧ QRow W gN lN ∧ QAll w.heap.size W.heap.size W lN ∧ Below w.heap.size w W)
      case atStart => exact ⟨w2, 0, w1.heap.size, 1, [(g1, k1, xs)], rfl, by omega, by omega, rfl, by simp, by go_num, Nat.le_refl _, hQB0, rfl, hAB0.mono (Nat.le_refl _) (by omega), fun y hy => by (simp at hy; subst hy; exact hk1), hQN, hAN.mono (by omega) (Nat.le_refl _), hb⟩
      case round =>
        clear hQB0 hAB0 hQN hAN hb
        obtain ⟨wr, i, gB, kB, lB, hW, hi, hmm, rfl, rfl, rfl, hkB, hQB, hnmB, hAB, hCB, hQN, hAN, hb⟩ := hrel
        subst hW
        by_cases hlt : i < N
        · have i0 : (0 : Int) ≤ (i : Int) := by omega
          have i1 : (i : Int) < (N : Int) := by omega
          obtain ⟨⟨gx, kx, ys⟩, hx⟩ : ∃ x, lN[i]? = some x := ⟨_, List.getElem?_eq_getElem (by rw [HN.out]; omega)⟩
          have hxm := List.mem_of_getElem? hx
          have hxs : (stepsP xs d)[i]? = some ys := by rw [← HNM.out, List.getElem?_map, hx]; rfl
          have hpy : PO n ys := HSPO.out _ (List.mem_of_getElem? hxs)
          have u0 : CellIs wr gN i (.slice (some ⟨gx, 0, none⟩) ys.length kx) := QRow.at hQN i _ hx
          have hrx : Row wr gx ys := (hAN _ hxm).2.2
          have hS1 : ((stepsP xs d).take (i + 1)).foldl (fun b q => wkS b (walkV ds q)) ([xs], 0) = wkS (((stepsP xs d).take i).foldl (fun b q => wkS b (walkV ds q)) ([xs], 0)) (walkV ds ys) := by rw [List.take_add_one, hxs]; simp
          obtain ⟨p1, p2, p3, p4⟩ := wk_fold (n := n) (ds := ds) HWF.out ((stepsP xs d).take i) ([xs], 0) (fun q hq => HSPO.out q (List.mem_of_mem_take hq)) (by simp [hP]) (by simp) (by simp; omega)
          obtain ⟨r1, r2, r3, r4⟩ := HWF.out ys hpy
          have hlen1 : ((stepsP xs d).take i).length ≤ i := by rw [List.length_take]; omega
          have hmul : ((stepsP xs d).take i).length * wb ds.length ≤ 24 * wb ds.length := Nat.mul_le_mul_right _ (by omega)
          obtain ⟨B, hB⟩ : ∃ B, ((stepsP xs d).take i).foldl (fun b q => wkS b (walkV ds q)) ([xs], 0) = B := ⟨_, rfl⟩
          obtain ⟨B1, B2⟩ := B
          obtain ⟨⟨RL, R2⟩, hR⟩ : ∃ R, walkV ds ys = R := ⟨_, rfl⟩
          rw [hB] at hS1 p1 p2 p3 p4 hnmB ⊢
          rw [hR] at hS1 r1 r2 r3 r4
          dsimp only at p1 p2 p3 p4 hnmB r1 r2 r3 r4 ⊢
          have hih := fun (W' : World) (rx : Row W' gx ys) (rd : IRow W' (some ⟨bb, oo, none⟩) ds) => HIH.out (some ⟨gx, 0, none⟩) (some ⟨bb, oo, none⟩) kx ys W' hpy (HCN.out _ hxm) rx.irow rd (fun _ => ⟨_, _, rfl⟩)
          rw [hR, HM1.out] at hih
          rw [HM1.out] at r2 p2 hmul
          have hrd2 : IRow wr (some ⟨bb, oo, none⟩) ds := (HRD.out).below hb
          clear eM1
          have HIHc := Lib.hid hih
          have HS1 := Lib.hid hS1
          have hsz := hb.size
          simp only [List.length_cons, List.length_nil] at p2
          clear hih hS1 hx hxm hxs hB hR hlen1
          go_wp2_with fail
          have hd_ : wr.drew.heap.size = wr.heap.size := rfl
          replace hQN := hQN.drew
          replace hQB := hQB.drew
          replace hAN := hAN.drew
          replace hAB := hAB.drew
          replace hb := hb.drew
          replace hrx := hrx.drew
          replace hrd2 := hrd2.drew
          replace u0 := CellIs.drew u0
          refine wp_region_held_drew (S := fun w' => w'.cell? ⟨gN, i, none⟩ = some (.slice (some ⟨gx, 0, none⟩) ys.length kx)) (by kernel_rfl) u0 (fun hHeld => ?_)
          clear hHeld
          generalize wr.drew = vd at *
          have hHeld : vd.cell? ⟨gN, i, none⟩ = some (.slice (some ⟨gx, 0, none⟩) ys.length kx) := u0
          refine tk 0 34 ?_
          refine tk 1 35 ?_
          refine tk 2 36 ?_
          refine tk 3 37 ?_
          refine tk 4 38 ?_
          refine tk 5 39 ?_
          refine rdk 6 40 fun K hK => ?_
          go_simp
          refine (HIHc.out _ hrx hrd2).mono ?_
          rintro e w5 ⟨gR, kR, lR, rfl, hkR, hQR, hnmR, hAR, hCR, hb5⟩
          have hz5 := hb5.size
          replace u0 := CellIs.below u0 hb5
          replace hQN := hQN.below hb5
          replace hAN := hAN.below hb5
          replace hQB := hQB.below hb5
          replace hAB := hAB.below hb5
          replace hb := chain hb hb5
          clear hb5 hrx hrd2
          (try go_wp2_with fail)
          refine hko hK u0 fun hHeld => ?_
          clear hK K
          refine tk 7 33 ?_
          refine tk 8 41 ?_
          refine tk 9 42 ?_
          refine tk 10 10 ?_
          refine tk 11 11 ?_
          refine wpAnyH_done (by kernel_rfl) ?_ _
          clear hHeld
          have hAR2 : QAll w.heap.size w5.heap.size w5 lR := hAR.mono (by omega) (Nat.le_refl _)
          replace hAN := hAN.mono (Nat.le_refl w.heap.size) (show _ ≤ w5.heap.size by omega)
          replace hAB := hAB.mono (Nat.le_refl w.heap.size) (show _ ≤ w5.heap.size by omega)
          (try dsimp only at hnmR)
          obtain ⟨RN, hRN⟩ : ∃ RN, lR.length = RN := ⟨_, rfl⟩
          have hrl : RL.length = RN := by rw [← hRN, nm_len hnmR]
          have hRN2 : RN ≤ 346201 := by omega
          have b1 : R2 ≤ 3 := by have := HM1.out; omega
          have b2 : B2 ≤ 4 := by have := HM1.out; omega
          have b3 : (RN : Int) ≤ 346201 := by omega
          have hlb := nm_len hnmB
          have hLB0 : B1.length ≤ 346201 := by omega
          have HRN := Lib.hid hRN
          have HNR := Lib.hid hnmR
          have HRP := Lib.hid r1
          have HRL := Lib.hid hrl
          have HCR := Lib.hid hCR
          have HBP := Lib.hid p1
          have HNB := Lib.hid hnmB
          have hAR := hAR2
          rw [hRN] at hkR ⊢
          clear hrl hnmR r1 hCR p1 hnmB hAR2 r2 p2 hlb hRN HIHc u0 HST
          by_cases c1 : B2 < R2 + 1
          · have hw2 : wkS (B1, B2) (RL, R2) = (putAll [] RL, R2 + 1) := by simp [wkS, c1]
            have HW2 := Lib.hid hw2
            have HWS := Lib.hid (show (wkS (B1, B2) (RL, R2)).1 = putAll [] RL by rw [hw2])
            have HLP := Lib.hid (show ∀ z ∈ ([] : List (List Int)), PO n z by simp)
            have HLB := Lib.hid (show ([] : List (List Int)).length ≤ 346201 by simp)
            obtain ⟨L0, hL0⟩ : ∃ L0 : List (List Int), ([] : List (List Int)) = L0 := ⟨_, rfl⟩
            rw [hL0] at HWS HLP HLB
            clear hw2
            go_wp2_with fail
            have hQC0 : QRow (w5.alloc (.cells #[] 26)) w5.heap.size [] := ⟨_, Blk.new w5 _ _, by simp, rfl⟩
            have hal : Below w5.heap.size w5 (w5.alloc (.cells #[] 26)) := (Below.refl _ _).alloc (Nat.le_refl _) _
            replace hQR := hQR.below hal
            replace hAR := (hAR.below hal).mono (Nat.le_refl w.heap.size) hal.size
            replace hQN := hQN.below hal
            replace hAN := (hAN.below hal).mono (Nat.le_refl w.heap.size) hal.size
            replace hb := chain hb hal
            have hAC0 : QAll w.heap.size (w5.alloc (.cells #[] 26)).heap.size (w5.alloc (.cells #[] 26)) [] := QAll.nil _ _ _
            have hCC0 : QCap [] := fun y hy => by simp at hy
            have hkC0 : ([] : List PQ).length ≤ 0 := Nat.le_refl _
            have hnmC0 : nmQ [] = L0 := hL0
            generalize w5.alloc (.cells #[] 26) = w6 at *
            obtain ⟨gC0, hgC0⟩ : ∃ gC0, w5.heap.size = gC0 := ⟨_, rfl⟩
            rw [hgC0] at hQC0 ⊢
            obtain ⟨lC0, hlC0⟩ : ∃ lC0 : List PQ, [] = lC0 := ⟨_, rfl⟩
            obtain ⟨kC0, hkk0⟩ : ∃ kC0 : Nat, 0 = kC0 := ⟨_, rfl⟩
            have HLC0 := Lib.hid hlC0
            have HKK0 := Lib.hid hkk0
            rw [hlC0] at hQC0 hAC0 hCC0 hkC0 hnmC0
            rw [hkk0] at hkC0
            clear hlC0 hkk0 hgC0 hL0
            go_loopg [6, 12] RN (fun m3 bv jv wr => ∃ (W : World) (j gC kC : Nat) (lC : List PQ), W = wr ∧ j ≤ RN ∧ m3 = RN - j ∧ jv = .int .i64 j ∧ bv = .slice (some ⟨gC, 0, none⟩) lC.length kC ∧ lC.length ≤ kC ∧ QRow W gC lC ∧ nmQ lC = putAll L0 (RL.take j) ∧ QAll w.heap.size W.heap.size W lC ∧ QCap lC ∧ QRow W gR lR ∧ QAll w.heap.size W.heap.size W lR ∧ QRow W gN lN ∧ QAll w.heap.size W.heap.size W lN ∧ Below w.heap.size w W)
            case atStart => exact ⟨_, 0, gC0, kC0, lC0, rfl, by omega, by omega, by go_num, by rw [← HLC0.out, ← HKK0.out]; rfl, hkC0, hQC0, by rw [hnmC0]; rfl, hAC0, hCC0, hQR, hAR, hQN, hAN, hb⟩
            case round =>
              clear hkC0 hQC0 hnmC0 hAC0 hCC0 hQR hAR hQN hAN hb
              obtain ⟨wr, j, gC, kC, lC, hW3, hj, hm3, rfl, rfl, hkC, hQC, hnmC, hAC, hCC, hQR, hAR, hQN, hAN, hb⟩ := hrel
              subst hW3
              have hz8 := hb.size
              by_cases hlt3 : j < RN
              · have j0 : (0 : Int) ≤ (j : Int) := by omega
                have j1 : (j : Int) < (RN : Int) := by omega
                obtain ⟨⟨gu, ku, us⟩, hu⟩ : ∃ u, lR[j]? = some u := ⟨_, List.getElem?_eq_getElem (by rw [HRN.out]; omega)⟩
                have hum := List.mem_of_getElem? hu
                have hcu := QRow.at hQR j _ hu
                have hur : RL[j]? = some us := by rw [← HNR.out, List.getElem?_map, hu]; rfl
                have hpo : PO n us := HRP.out _ (List.mem_of_getElem? hur)
                have hput : putAll L0 (RL.take (j + 1)) = putP (nmQ lC) us := by rw [List.take_add_one, hur, hnmC]; simp [putAll]
                have hlc : lC.length ≤ L0.length + j := by
                  rw [nm_len hnmC]
                  have q1 := putAll_le (RL.take j) L0
                  rw [List.length_take] at q1
                  omega
                have hml : ∀ x ∈ lC, x.2.2.length = n := fun x hx => by
                  have q : x.2.2 ∈ nmQ lC := List.mem_map.2 ⟨x, hx, rfl⟩
                  rw [hnmC] at q
                  exact (putAll_PO _ _ HLP.out (fun z hz => HRP.out z (List.mem_of_mem_take hz)) _ q).2.1
                have HPU := Lib.hid (l10Put_any w.heap.size gC kC n lC (gu, ku, us) wr hkC (by have := HLB.out; omega) (by omega) hQC hAC (hAR _ hum) hml hpo.2.1 hCC (HCR.out _ hum))
                have HPT := Lib.hid hput
                clear hu hum hur hpo hput hlc hml hnmC hAC hCC
                unfold pqV at hcu HPU
                dsimp only at hcu HPU
                go_wp2_with (go_at_call 82; refine (HPU.out).mono ?_; rintro e w8 ⟨gC2, kC2, lC2, rfl, hkC2, hQC2, hnmC2, hAC2, hCC2, hb8⟩)
                go_roundg (RN - (j + 1))
                case measure => omega
                case rel =>
                  have hz9 := hb8.size
                  exact ⟨w8, j + 1, gC2, kC2, lC2, rfl, by omega, rfl, by go_num, rfl, hkC2, hQC2, by rw [HPT.out]; exact hnmC2, hAC2, hCC2, hQR.below hb8, (hAR.below hb8).mono (Nat.le_refl _) (by omega), hQN.below hb8, (hAN.below hb8).mono (Nat.le_refl _) (by omega), chain hb hb8⟩
              · obtain rfl : j = RN := by omega
                have hfin : nmQ lC = (wkS (B1, B2) (RL, R2)).1 := by rw [hnmC, HWS.out, ← HRL.out, List.take_length]
                have HF := Lib.hid hfin
                clear hfin hnmC
                go_wp2
                go_roundg (N - (i + 1))
                case measure => omega
                case rel => exact ⟨_, i + 1, gC, kC, lC, rfl, by omega, rfl, rfl, (congrArg (fun z : List (List Int) × Int => Value.int .i64 z.2) (HS1.out.trans HW2.out)).symm, by go_num, hkC, hQC, by rw [HS1.out]; exact HF.out, hAC, hCC, hQN, hAN, hb⟩
          · have hlb0 : lB.length ≤ kB := hkB
            by_cases c2 : R2 + 1 = B2
            · have hw2 : wkS (B1, B2) (RL, R2) = (putAll B1 RL, B2) := by simp [wkS, c1, c2]
              have HW2 := Lib.hid hw2
              have f9 : ((R2 + 1) == B2) = true := by rw [beq_iff_eq]; exact c2
              have HWS := Lib.hid (show (wkS (B1, B2) (RL, R2)).1 = putAll B1 RL by rw [hw2])
              have HLP := HBP
              have HLB := Lib.hid hLB0
              obtain ⟨L0, hL0⟩ : ∃ L0 : List (List Int), B1 = L0 := ⟨_, rfl⟩
              have hnmC0 : nmQ lB = L0 := HNB.out.trans hL0
              have HWS := Lib.hid (show (wkS (B1, B2) (RL, R2)).1 = putAll L0 RL by rw [← hL0]; exact HWS.out)
              rw [hL0] at HLP HLB
              clear hw2 hL0 c2 hLB0
              go_wp2_with fail
              go_loopg [6, 12] RN (fun m3 bv jv wr => ∃ (W : World) (j gC kC : Nat) (lC : List PQ), W = wr ∧ j ≤ RN ∧ m3 = RN - j ∧ jv = .int .i64 j ∧ bv = .slice (some ⟨gC, 0, none⟩) lC.length kC ∧ lC.length ≤ kC ∧ QRow W gC lC ∧ nmQ lC = putAll L0 (RL.take j) ∧ QAll w.heap.size W.heap.size W lC ∧ QCap lC ∧ QRow W gR lR ∧ QAll w.heap.size W.heap.size W lR ∧ QRow W gN lN ∧ QAll w.heap.size W.heap.size W lN ∧ Below w.heap.size w W)
              case atStart => exact ⟨_, 0, gB, kB, lB, rfl, by omega, by omega, by go_num, rfl, hkB, hQB, by rw [hnmC0]; rfl, hAB, hCB, hQR, hAR, hQN, hAN, hb⟩
              case round =>
                clear hkB hQB hnmC0 hAB hCB hQR hAR hQN hAN hb
                obtain ⟨wr, j, gC, kC, lC, hW3, hj, hm3, rfl, rfl, hkC, hQC, hnmC, hAC, hCC, hQR, hAR, hQN, hAN, hb⟩ := hrel
                subst hW3
                have hz8 := hb.size
                by_cases hlt3 : j < RN
                · have j0 : (0 : Int) ≤ (j : Int) := by omega
                  have j1 : (j : Int) < (RN : Int) := by omega
                  obtain ⟨⟨gu, ku, us⟩, hu⟩ : ∃ u, lR[j]? = some u := ⟨_, List.getElem?_eq_getElem (by rw [HRN.out]; omega)⟩
                  have hum := List.mem_of_getElem? hu
                  have hcu := QRow.at hQR j _ hu
                  have hur : RL[j]? = some us := by rw [← HNR.out, List.getElem?_map, hu]; rfl
                  have hpo : PO n us := HRP.out _ (List.mem_of_getElem? hur)
                  have hput : putAll L0 (RL.take (j + 1)) = putP (nmQ lC) us := by rw [List.take_add_one, hur, hnmC]; simp [putAll]
                  have hlc : lC.length ≤ L0.length + j := by
                    rw [nm_len hnmC]
                    have q1 := putAll_le (RL.take j) L0
                    rw [List.length_take] at q1
                    omega
                  have hml : ∀ x ∈ lC, x.2.2.length = n := fun x hx => by
                    have q : x.2.2 ∈ nmQ lC := List.mem_map.2 ⟨x, hx, rfl⟩
                    rw [hnmC] at q
                    exact (putAll_PO _ _ HLP.out (fun z hz => HRP.out z (List.mem_of_mem_take hz)) _ q).2.1
                  have HPU := Lib.hid (l10Put_any w.heap.size gC kC n lC (gu, ku, us) wr hkC (by have := HLB.out; omega) (by omega) hQC hAC (hAR _ hum) hml hpo.2.1 hCC (HCR.out _ hum))
                  have HPT := Lib.hid hput
                  clear hu hum hur hpo hput hlc hml hnmC hAC hCC
                  unfold pqV at hcu HPU
                  dsimp only at hcu HPU
                  go_wp2_with (go_at_call 82; refine (HPU.out).mono ?_; rintro e w8 ⟨gC2, kC2, lC2, rfl, hkC2, hQC2, hnmC2, hAC2, hCC2, hb8⟩)
                  go_roundg (RN - (j + 1))
                  case measure => omega
                  case rel =>
                    have hz9 := hb8.size
                    exact ⟨w8, j + 1, gC2, kC2, lC2, rfl, by omega, rfl, by go_num, rfl, hkC2, hQC2, by rw [HPT.out]; exact hnmC2, hAC2, hCC2, hQR.below hb8, (hAR.below hb8).mono (Nat.le_refl _) (by omega), hQN.below hb8, (hAN.below hb8).mono (Nat.le_refl _) (by omega), chain hb hb8⟩
                · obtain rfl : j = RN := by omega
                  have hfin : nmQ lC = (wkS (B1, B2) (RL, R2)).1 := by rw [hnmC, HWS.out, ← HRL.out, List.take_length]
                  have HF := Lib.hid hfin
                  clear hfin hnmC
                  go_wp2
                  go_roundg (N - (i + 1))
                  case measure => omega
                  case rel => exact ⟨_, i + 1, gC, kC, lC, rfl, by omega, rfl, rfl, (congrArg (fun z : List (List Int) × Int => Value.int .i64 z.2) (HS1.out.trans HW2.out)).symm, by go_num, hkC, hQC, by rw [HS1.out]; exact HF.out, hAC, hCC, hQN, hAN, hb⟩
            · have hw2 : wkS (B1, B2) (RL, R2) = (B1, B2) := by simp [wkS, c1, c2]
              have HW2 := Lib.hid hw2
              have f9 : ((R2 + 1) == B2) = false := by rw [beq_eq_false_iff_ne]; exact c2
              clear hw2 c2
              go_wp2_with fail
              go_loopg [6, 12] 1 (fun m3 bv jv wr => ∃ W : World, W = wr ∧ m3 = 1 ∧ bv = .slice (some ⟨gB, 0, none⟩) lB.length kB ∧ jv = .int .i64 0 ∧ QRow W gB lB ∧ QAll w.heap.size W.heap.size W lB ∧ QRow W gN lN ∧ QAll w.heap.size W.heap.size W lN ∧ Below w.heap.size w W)
              case atStart => exact ⟨_, rfl, rfl, rfl, by go_num, hQB, hAB, hQN, hAN, hb⟩
              case round =>
                clear hQB hAB hQN hAN hb hQR hAR
                obtain ⟨wr, hW3, hm3, rfl, rfl, hQB, hAB, hQN, hAN, hb⟩ := hrel
                subst hW3
                by_cases hR0 : 0 < RN
                · go_wp2
                  go_roundg (N - (i + 1))
                  case measure => omega
                  case rel => exact ⟨_, i + 1, gB, kB, lB, rfl, by omega, rfl, rfl, (congrArg (fun z : List (List Int) × Int => Value.int .i64 z.2) (HS1.out.trans HW2.out)).symm, by go_num, hkB, hQB, by rw [HS1.out, HW2.out]; exact HNB.out, hAB, hCB, hQN, hAN, hb⟩
                · go_wp2
                  go_roundg (N - (i + 1))
                  case measure => omega
                  case rel => exact ⟨_, i + 1, gB, kB, lB, rfl, by omega, rfl, rfl, (congrArg (fun z : List (List Int) × Int => Value.int .i64 z.2) (HS1.out.trans HW2.out)).symm, by go_num, hkB, hQB, by rw [HS1.out, HW2.out]; exact HNB.out, hAB, hCB, hQN, hAN, hb⟩
        · obtain rfl : i = N := by omega
          have hall : (stepsP xs d).take i = stepsP xs d := by rw [← HNM.out, ← HN.out, ← List.length_map (f := fun x : PQ => x.2.2), List.take_length]
          rw [hall] at hnmB ⊢
          have HNB := Lib.hid hnmB
          clear hnmB hall
          go_wp2
          go_ret2
          exact ⟨gB, kB, lB, rfl, hkB, hQB, HNB.out, hAB, hCB, hb⟩
    · have hM2 : (1 : Int) < (M : Int) := by omega
      have hrdt : IRow w (some ⟨bb, oo + 1, none⟩) ds := by
        have := IRow.drop hrd 1
        simpa using this
      have HRD := Lib.hid hrdt
      clear hrdt hrd
      go_wp2_with fail
      go_loopg [6, 7, 9] N (fun mm bv mv iv wr => ∃ (W : World) (i gB kB : Nat) (lB : List PQ), W = wr ∧ i ≤ N ∧ mm = N - i ∧ bv = .slice (some ⟨gB, 0, none⟩) lB.length kB ∧ mv = .int .i64 (((stepsP xs d).take i).foldl (fun b q => wkS b (walkV ds q)) ([xs], 0)).2 ∧ iv = .int .i64 i ∧ lB.length ≤ kB ∧ QRow W gB lB ∧ nmQ lB = (((stepsP xs d).take i).foldl (fun b q => wkS b (walkV ds q)) ([xs], 0)).1 ∧ QAll w.heap.size W.heap.size W lB ∧ QCap lB ∧ QRow W gN lN ∧ QAll w.heap.size W.heap.size W lN ∧ Below w.heap.size w W)
      case atStart => exact ⟨w2, 0, w1.heap.size, 1, [(g1, k1, xs)], rfl, by omega, by omega, rfl, by simp, by go_num, Nat.le_refl _, hQB0, rfl, hAB0.mono (Nat.le_refl _) (by omega), fun y hy => by (simp at hy; subst hy; exact hk1), hQN, hAN.mono (by omega) (Nat.le_refl _), hb⟩
      case round =>
        clear hQB0 hAB0 hQN hAN hb
        obtain ⟨wr, i, gB, kB, lB, hW, hi, hmm, rfl, rfl, rfl, hkB, hQB, hnmB, hAB, hCB, hQN, hAN, hb⟩ := hrel
        subst hW
        by_cases hlt : i < N
        · have i0 : (0 : Int) ≤ (i : Int) := by omega
          have i1 : (i : Int) < (N : Int) := by omega
          obtain ⟨⟨gx, kx, ys⟩, hx⟩ : ∃ x, lN[i]? = some x := ⟨_, List.getElem?_eq_getElem (by rw [HN.out]; omega)⟩
          have hxm := List.mem_of_getElem? hx
          have hxs : (stepsP xs d)[i]? = some ys := by rw [← HNM.out, List.getElem?_map, hx]; rfl
          have hpy : PO n ys := HSPO.out _ (List.mem_of_getElem? hxs)
          have u0 : CellIs wr gN i (.slice (some ⟨gx, 0, none⟩) ys.length kx) := QRow.at hQN i _ hx
          have hrx : Row wr gx ys := (hAN _ hxm).2.2
          have hS1 : ((stepsP xs d).take (i + 1)).foldl (fun b q => wkS b (walkV ds q)) ([xs], 0) = wkS (((stepsP xs d).take i).foldl (fun b q => wkS b (walkV ds q)) ([xs], 0)) (walkV ds ys) := by rw [List.take_add_one, hxs]; simp
          obtain ⟨p1, p2, p3, p4⟩ := wk_fold (n := n) (ds := ds) HWF.out ((stepsP xs d).take i) ([xs], 0) (fun q hq => HSPO.out q (List.mem_of_mem_take hq)) (by simp [hP]) (by simp) (by simp; omega)
          obtain ⟨r1, r2, r3, r4⟩ := HWF.out ys hpy
          have hlen1 : ((stepsP xs d).take i).length ≤ i := by rw [List.length_take]; omega
          have hmul : ((stepsP xs d).take i).length * wb ds.length ≤ 24 * wb ds.length := Nat.mul_le_mul_right _ (by omega)
          obtain ⟨B, hB⟩ : ∃ B, ((stepsP xs d).take i).foldl (fun b q => wkS b (walkV ds q)) ([xs], 0) = B := ⟨_, rfl⟩
          obtain ⟨B1, B2⟩ := B
          obtain ⟨⟨RL, R2⟩, hR⟩ : ∃ R, walkV ds ys = R := ⟨_, rfl⟩
          rw [hB] at hS1 p1 p2 p3 p4 hnmB ⊢
          rw [hR] at hS1 r1 r2 r3 r4
          dsimp only at p1 p2 p3 p4 hnmB r1 r2 r3 r4 ⊢
          have hih := fun (W' : World) (rx : Row W' gx ys) (rd : IRow W' (some ⟨bb, oo + 1, none⟩) ds) => HIH.out (some ⟨gx, 0, none⟩) (some ⟨bb, oo + 1, none⟩) kx ys W' hpy (HCN.out _ hxm) rx.irow rd (fun _ => ⟨_, _, rfl⟩)
          rw [hR, HM1.out] at hih
          rw [HM1.out] at r2 p2 hmul
          have hrd2 : IRow wr (some ⟨bb, oo + 1, none⟩) ds := (HRD.out).below hb
          have hM3 : m = M - 1 := eM1.symm
          rw [hM3] at hih
          clear hM3 eM1
          have HIHc := Lib.hid hih
          have HS1 := Lib.hid hS1
          have hsz := hb.size
          simp only [List.length_cons, List.length_nil] at p2
          clear hih hS1 hx hxm hxs hB hR hlen1
          go_wp2_with fail
          have hd_ : wr.drew.heap.size = wr.heap.size := rfl
          replace hQN := hQN.drew
          replace hQB := hQB.drew
          replace hAN := hAN.drew
          replace hAB := hAB.drew
          replace hb := hb.drew
          replace hrx := hrx.drew
          replace hrd2 := hrd2.drew
          replace u0 := CellIs.drew u0
          refine wp_region_held_drew (S := fun w' => w'.cell? ⟨gN, i, none⟩ = some (.slice (some ⟨gx, 0, none⟩) ys.length kx)) (by kernel_rfl) u0 (fun hHeld => ?_)
          clear hHeld
          generalize wr.drew = vd at *
          have hHeld : vd.cell? ⟨gN, i, none⟩ = some (.slice (some ⟨gx, 0, none⟩) ys.length kx) := u0
          refine tk 0 34 ?_
          refine tk 1 35 ?_
          refine tk 2 36 ?_
          refine tk 3 37 ?_
          refine tk 4 38 ?_
          refine tk 5 39 ?_
          refine rdk 6 40 fun K hK => ?_
          go_simp
          refine (HIHc.out _ hrx hrd2).mono ?_
          rintro e w5 ⟨gR, kR, lR, rfl, hkR, hQR, hnmR, hAR, hCR, hb5⟩
          have hz5 := hb5.size
          replace u0 := CellIs.below u0 hb5
          replace hQN := hQN.below hb5
          replace hAN := hAN.below hb5
          replace hQB := hQB.below hb5
          replace hAB := hAB.below hb5
          replace hb := chain hb hb5
          clear hb5 hrx hrd2
          (try go_wp2_with fail)
          refine hko hK u0 fun hHeld => ?_
          clear hK K
          refine tk 7 33 ?_
          refine tk 8 41 ?_
          refine tk 9 42 ?_
          refine tk 10 10 ?_
          refine tk 11 11 ?_
          refine wpAnyH_done (by kernel_rfl) ?_ _
          clear hHeld
          have hAR2 : QAll w.heap.size w5.heap.size w5 lR := hAR.mono (by omega) (Nat.le_refl _)
          replace hAN := hAN.mono (Nat.le_refl w.heap.size) (show _ ≤ w5.heap.size by omega)
          replace hAB := hAB.mono (Nat.le_refl w.heap.size) (show _ ≤ w5.heap.size by omega)
          (try dsimp only at hnmR)
          obtain ⟨RN, hRN⟩ : ∃ RN, lR.length = RN := ⟨_, rfl⟩
          have hrl : RL.length = RN := by rw [← hRN, nm_len hnmR]
          have hRN2 : RN ≤ 346201 := by omega
          have b1 : R2 ≤ 3 := by have := HM1.out; omega
          have b2 : B2 ≤ 4 := by have := HM1.out; omega
          have b3 : (RN : Int) ≤ 346201 := by omega
          have hlb := nm_len hnmB
          have hLB0 : B1.length ≤ 346201 := by omega
          have HRN := Lib.hid hRN
          have HNR := Lib.hid hnmR
          have HRP := Lib.hid r1
          have HRL := Lib.hid hrl
          have HCR := Lib.hid hCR
          have HBP := Lib.hid p1
          have HNB := Lib.hid hnmB
          have hAR := hAR2
          rw [hRN] at hkR ⊢
          clear hrl hnmR r1 hCR p1 hnmB hAR2 r2 p2 hlb hRN HIHc u0 HST
          by_cases c1 : B2 < R2 + 1
          · have hw2 : wkS (B1, B2) (RL, R2) = (putAll [] RL, R2 + 1) := by simp [wkS, c1]
            have HW2 := Lib.hid hw2
            have HWS := Lib.hid (show (wkS (B1, B2) (RL, R2)).1 = putAll [] RL by rw [hw2])
            have HLP := Lib.hid (show ∀ z ∈ ([] : List (List Int)), PO n z by simp)
            have HLB := Lib.hid (show ([] : List (List Int)).length ≤ 346201 by simp)
            obtain ⟨L0, hL0⟩ : ∃ L0 : List (List Int), ([] : List (List Int)) = L0 := ⟨_, rfl⟩
            rw [hL0] at HWS HLP HLB
            clear hw2
            go_wp2_with fail
            have hQC0 : QRow (w5.alloc (.cells #[] 26)) w5.heap.size [] := ⟨_, Blk.new w5 _ _, by simp, rfl⟩
            have hal : Below w5.heap.size w5 (w5.alloc (.cells #[] 26)) := (Below.refl _ _).alloc (Nat.le_refl _) _
            replace hQR := hQR.below hal
            replace hAR := (hAR.below hal).mono (Nat.le_refl w.heap.size) hal.size
            replace hQN := hQN.below hal
            replace hAN := (hAN.below hal).mono (Nat.le_refl w.heap.size) hal.size
            replace hb := chain hb hal
            have hAC0 : QAll w.heap.size (w5.alloc (.cells #[] 26)).heap.size (w5.alloc (.cells #[] 26)) [] := QAll.nil _ _ _
            have hCC0 : QCap [] := fun y hy => by simp at hy
            have hkC0 : ([] : List PQ).length ≤ 0 := Nat.le_refl _
            have hnmC0 : nmQ [] = L0 := hL0
            generalize w5.alloc (.cells #[] 26) = w6 at *
            obtain ⟨gC0, hgC0⟩ : ∃ gC0, w5.heap.size = gC0 := ⟨_, rfl⟩
            rw [hgC0] at hQC0 ⊢
            obtain ⟨lC0, hlC0⟩ : ∃ lC0 : List PQ, [] = lC0 := ⟨_, rfl⟩
            obtain ⟨kC0, hkk0⟩ : ∃ kC0 : Nat, 0 = kC0 := ⟨_, rfl⟩
            have HLC0 := Lib.hid hlC0
            have HKK0 := Lib.hid hkk0
            rw [hlC0] at hQC0 hAC0 hCC0 hkC0 hnmC0
            rw [hkk0] at hkC0
            clear hlC0 hkk0 hgC0 hL0
            go_loopg [6, 12] RN (fun m3 bv jv wr => ∃ (W : World) (j gC kC : Nat) (lC : List PQ), W = wr ∧ j ≤ RN ∧ m3 = RN - j ∧ jv = .int .i64 j ∧ bv = .slice (some ⟨gC, 0, none⟩) lC.length kC ∧ lC.length ≤ kC ∧ QRow W gC lC ∧ nmQ lC = putAll L0 (RL.take j) ∧ QAll w.heap.size W.heap.size W lC ∧ QCap lC ∧ QRow W gR lR ∧ QAll w.heap.size W.heap.size W lR ∧ QRow W gN lN ∧ QAll w.heap.size W.heap.size W lN ∧ Below w.heap.size w W)
            case atStart => exact ⟨_, 0, gC0, kC0, lC0, rfl, by omega, by omega, by go_num, by rw [← HLC0.out, ← HKK0.out]; rfl, hkC0, hQC0, by rw [hnmC0]; rfl, hAC0, hCC0, hQR, hAR, hQN, hAN, hb⟩
            case round =>
              clear hkC0 hQC0 hnmC0 hAC0 hCC0 hQR hAR hQN hAN hb
              obtain ⟨wr, j, gC, kC, lC, hW3, hj, hm3, rfl, rfl, hkC, hQC, hnmC, hAC, hCC, hQR, hAR, hQN, hAN, hb⟩ := hrel
              subst hW3
              have hz8 := hb.size
              by_cases hlt3 : j < RN
              · have j0 : (0 : Int) ≤ (j : Int) := by omega
                have j1 : (j : Int) < (RN : Int) := by omega
                obtain ⟨⟨gu, ku, us⟩, hu⟩ : ∃ u, lR[j]? = some u := ⟨_, List.getElem?_eq_getElem (by rw [HRN.out]; omega)⟩
                have hum := List.mem_of_getElem? hu
                have hcu := QRow.at hQR j _ hu
                have hur : RL[j]? = some us := by rw [← HNR.out, List.getElem?_map, hu]; rfl
                have hpo : PO n us := HRP.out _ (List.mem_of_getElem? hur)
                have hput : putAll L0 (RL.take (j + 1)) = putP (nmQ lC) us := by rw [List.take_add_one, hur, hnmC]; simp [putAll]
                have hlc : lC.length ≤ L0.length + j := by
                  rw [nm_len hnmC]
                  have q1 := putAll_le (RL.take j) L0
                  rw [List.length_take] at q1
                  omega
                have hml : ∀ x ∈ lC, x.2.2.length = n := fun x hx => by
                  have q : x.2.2 ∈ nmQ lC := List.mem_map.2 ⟨x, hx, rfl⟩
                  rw [hnmC] at q
                  exact (putAll_PO _ _ HLP.out (fun z hz => HRP.out z (List.mem_of_mem_take hz)) _ q).2.1
                have HPU := Lib.hid (l10Put_any w.heap.size gC kC n lC (gu, ku, us) wr hkC (by have := HLB.out; omega) (by omega) hQC hAC (hAR _ hum) hml hpo.2.1 hCC (HCR.out _ hum))
                have HPT := Lib.hid hput
                clear hu hum hur hpo hput hlc hml hnmC hAC hCC
                unfold pqV at hcu HPU
                dsimp only at hcu HPU
                go_wp2_with (go_at_call 82; refine (HPU.out).mono ?_; rintro e w8 ⟨gC2, kC2, lC2, rfl, hkC2, hQC2, hnmC2, hAC2, hCC2, hb8⟩)
                go_roundg (RN - (j + 1))
                case measure => omega
                case rel =>
                  have hz9 := hb8.size
                  exact ⟨w8, j + 1, gC2, kC2, lC2, rfl, by omega, rfl, by go_num, rfl, hkC2, hQC2, by rw [HPT.out]; exact hnmC2, hAC2, hCC2, hQR.below hb8, (hAR.below hb8).mono (Nat.le_refl _) (by omega), hQN.below hb8, (hAN.below hb8).mono (Nat.le_refl _) (by omega), chain hb hb8⟩
              · obtain rfl : j = RN := by omega
                have hfin : nmQ lC = (wkS (B1, B2) (RL, R2)).1 := by rw [hnmC, HWS.out, ← HRL.out, List.take_length]
                have HF := Lib.hid hfin
                clear hfin hnmC
                go_wp2
                go_roundg (N - (i + 1))
                case measure => omega
                case rel => exact ⟨_, i + 1, gC, kC, lC, rfl, by omega, rfl, rfl, (congrArg (fun z : List (List Int) × Int => Value.int .i64 z.2) (HS1.out.trans HW2.out)).symm, by go_num, hkC, hQC, by rw [HS1.out]; exact HF.out, hAC, hCC, hQN, hAN, hb⟩
          · have hlb0 : lB.length ≤ kB := hkB
            by_cases c2 : R2 + 1 = B2
            · have hw2 : wkS (B1, B2) (RL, R2) = (putAll B1 RL, B2) := by simp [wkS, c1, c2]
              have HW2 := Lib.hid hw2
              have f9 : ((R2 + 1) == B2) = true := by rw [beq_iff_eq]; exact c2
              have HWS := Lib.hid (show (wkS (B1, B2) (RL, R2)).1 = putAll B1 RL by rw [hw2])
              have HLP := HBP
              have HLB := Lib.hid hLB0
              obtain ⟨L0, hL0⟩ : ∃ L0 : List (List Int), B1 = L0 := ⟨_, rfl⟩
              have hnmC0 : nmQ lB = L0 := HNB.out.trans hL0
              have HWS := Lib.hid (show (wkS (B1, B2) (RL, R2)).1 = putAll L0 RL by rw [← hL0]; exact HWS.out)
              rw [hL0] at HLP HLB
              clear hw2 hL0 c2 hLB0
              go_wp2_with fail
              go_loopg [6, 12] RN (fun m3 bv jv wr => ∃ (W : World) (j gC kC : Nat) (lC : List PQ), W = wr ∧ j ≤ RN ∧ m3 = RN - j ∧ jv = .int .i64 j ∧ bv = .slice (some ⟨gC, 0, none⟩) lC.length kC ∧ lC.length ≤ kC ∧ QRow W gC lC ∧ nmQ lC = putAll L0 (RL.take j) ∧ QAll w.heap.size W.heap.size W lC ∧ QCap lC ∧ QRow W gR lR ∧ QAll w.heap.size W.heap.size W lR ∧ QRow W gN lN ∧ QAll w.heap.size W.heap.size W lN ∧ Below w.heap.size w W)
              case atStart => exact ⟨_, 0, gB, kB, lB, rfl, by omega, by omega, by go_num, rfl, hkB, hQB, by rw [hnmC0]; rfl, hAB, hCB, hQR, hAR, hQN, hAN, hb⟩
              case round =>
                clear hkB hQB hnmC0 hAB hCB hQR hAR hQN hAN hb
                obtain ⟨wr, j, gC, kC, lC, hW3, hj, hm3, rfl, rfl, hkC, hQC, hnmC, hAC, hCC, hQR, hAR, hQN, hAN, hb⟩ := hrel
                subst hW3
                have hz8 := hb.size
                by_cases hlt3 : j < RN
                · have j0 : (0 : Int) ≤ (j : Int) := by omega
                  have j1 : (j : Int) < (RN : Int) := by omega
                  obtain ⟨⟨gu, ku, us⟩, hu⟩ : ∃ u, lR[j]? = some u := ⟨_, List.getElem?_eq_getElem (by rw [HRN.out]; omega)⟩
                  have hum := List.mem_of_getElem? hu
                  have hcu := QRow.at hQR j _ hu
                  have hur : RL[j]? = some us := by rw [← HNR.out, List.getElem?_map, hu]; rfl
                  have hpo : PO n us := HRP.out _ (List.mem_of_getElem? hur)
                  have hput : putAll L0 (RL.take (j + 1)) = putP (nmQ lC) us := by rw [List.take_add_one, hur, hnmC]; simp [putAll]
                  have hlc : lC.length ≤ L0.length + j := by
                    rw [nm_len hnmC]
                    have q1 := putAll_le (RL.take j) L0
                    rw [List.length_take] at q1
                    omega
                  have hml : ∀ x ∈ lC, x.2.2.length = n := fun x hx => by
                    have q : x.2.2 ∈ nmQ lC := List.mem_map.2 ⟨x, hx, rfl⟩
                    rw [hnmC] at q
                    exact (putAll_PO _ _ HLP.out (fun z hz => HRP.out z (List.mem_of_mem_take hz)) _ q).2.1
                  have HPU := Lib.hid (l10Put_any w.heap.size gC kC n lC (gu, ku, us) wr hkC (by have := HLB.out; omega) (by omega) hQC hAC (hAR _ hum) hml hpo.2.1 hCC (HCR.out _ hum))
                  have HPT := Lib.hid hput
                  clear hu hum hur hpo hput hlc hml hnmC hAC hCC
                  unfold pqV at hcu HPU
                  dsimp only at hcu HPU
                  go_wp2_with (go_at_call 82; refine (HPU.out).mono ?_; rintro e w8 ⟨gC2, kC2, lC2, rfl, hkC2, hQC2, hnmC2, hAC2, hCC2, hb8⟩)
                  go_roundg (RN - (j + 1))
                  case measure => omega
                  case rel =>
                    have hz9 := hb8.size
                    exact ⟨w8, j + 1, gC2, kC2, lC2, rfl, by omega, rfl, by go_num, rfl, hkC2, hQC2, by rw [HPT.out]; exact hnmC2, hAC2, hCC2, hQR.below hb8, (hAR.below hb8).mono (Nat.le_refl _) (by omega), hQN.below hb8, (hAN.below hb8).mono (Nat.le_refl _) (by omega), chain hb hb8⟩
                · obtain rfl : j = RN := by omega
                  have hfin : nmQ lC = (wkS (B1, B2) (RL, R2)).1 := by rw [hnmC, HWS.out, ← HRL.out, List.take_length]
                  have HF := Lib.hid hfin
                  clear hfin hnmC
                  go_wp2
                  go_roundg (N - (i + 1))
                  case measure => omega
                  case rel => exact ⟨_, i + 1, gC, kC, lC, rfl, by omega, rfl, rfl, (congrArg (fun z : List (List Int) × Int => Value.int .i64 z.2) (HS1.out.trans HW2.out)).symm, by go_num, hkC, hQC, by rw [HS1.out]; exact HF.out, hAC, hCC, hQN, hAN, hb⟩
            · have hw2 : wkS (B1, B2) (RL, R2) = (B1, B2) := by simp [wkS, c1, c2]
              have HW2 := Lib.hid hw2
              have f9 : ((R2 + 1) == B2) = false := by rw [beq_eq_false_iff_ne]; exact c2
              clear hw2 c2
              go_wp2_with fail
              go_loopg [6, 12] 1 (fun m3 bv jv wr => ∃ W : World, W = wr ∧ m3 = 1 ∧ bv = .slice (some ⟨gB, 0, none⟩) lB.length kB ∧ jv = .int .i64 0 ∧ QRow W gB lB ∧ QAll w.heap.size W.heap.size W lB ∧ QRow W gN lN ∧ QAll w.heap.size W.heap.size W lN ∧ Below w.heap.size w W)
              case atStart => exact ⟨_, rfl, rfl, rfl, by go_num, hQB, hAB, hQN, hAN, hb⟩
              case round =>
                clear hQB hAB hQN hAN hb hQR hAR
                obtain ⟨wr, hW3, hm3, rfl, rfl, hQB, hAB, hQN, hAN, hb⟩ := hrel
                subst hW3
                by_cases hR0 : 0 < RN
                · go_wp2
                  go_roundg (N - (i + 1))
                  case measure => omega
                  case rel => exact ⟨_, i + 1, gB, kB, lB, rfl, by omega, rfl, rfl, (congrArg (fun z : List (List Int) × Int => Value.int .i64 z.2) (HS1.out.trans HW2.out)).symm, by go_num, hkB, hQB, by rw [HS1.out, HW2.out]; exact HNB.out, hAB, hCB, hQN, hAN, hb⟩
                · go_wp2
                  go_roundg (N - (i + 1))
                  case measure => omega
                  case rel => exact ⟨_, i + 1, gB, kB, lB, rfl, by omega, rfl, rfl, (congrArg (fun z : List (List Int) × Int => Value.int .i64 z.2) (HS1.out.trans HW2.out)).symm, by go_num, hkB, hQB, by rw [HS1.out, HW2.out]; exact HNB.out, hAB, hCB, hQN, hAN, hb⟩
        · obtain rfl : i = N := by omega
          have hall : (stepsP xs d).take i = stepsP xs d := by rw [← HNM.out, ← HN.out, ← List.length_map (f := fun x : PQ => x.2.2), List.take_length]
          rw [hall] at hnmB ⊢
          have HNB := Lib.hid hnmB
          clear hnmB hall
          go_wp2
          go_ret2
          exact ⟨gB, kB, lB, rfl, hkB, hQB, HNB.out, hAB, hCB, hb⟩
end Go.Proofs.YtnlclmlnpkncoaaGreat
