/- Texts of a proof, laid together. -/
import Derived.Test.YtnlclmlnpkncoaaGreatW16
import Derived.Test.YtnlclmlnpkncoaaGreatW05
import Derived.Lib.SliceRun
import Derived.StillTailTactics
import Derived.Deep.LoopGhost
namespace Go.Proofs.YtnlclmlnpkncoaaGreat
open Go.ChangeShapes Go.WideShapes Go.ChangeAt Go.RowKit
set_option linter.unusedVariables false
set_option linter.unusedSimpArgs false
set_option maxRecDepth 4000
def vAt (l : List PQ) (j : Nat) : List Int := ((l[j]?).map fun x => x.2.2).getD []
def cpT (l : List PQ) : Nat → List PQ
  | 0 => []
  | j + 1 => cpT l j ++ (match l[j]? with | none => [] | some y => if 0 < j ∧ vAt l j = vAt l (j - 1) then [] else [y])
theorem vAt_is {l : List PQ} {j : Nat} {x : PQ} (h : l[j]? = some x) : vAt l j = x.2.2 := by simp [vAt, h]
theorem cpT_skip {l : List PQ} {j : Nat} (h0 : 0 < j) (h : vAt l j = vAt l (j - 1)) : cpT l (j + 1) = cpT l j := by
  rw [cpT]
  cases l[j]? with
  | none => simp
  | some y => simp [h0, h]
theorem cpT_keep {l : List PQ} {j : Nat} {x : PQ} (e : l[j]? = some x) (h : ¬ (0 < j ∧ vAt l j = vAt l (j - 1))) : cpT l (j + 1) = cpT l j ++ [x] := by
  rw [cpT, e]
  dsimp only
  rw [if_neg h]
theorem cpT_sub (l : List PQ) : ∀ j, (cpT l j).Sublist (l.take j)
  | 0 => by simp [cpT]
  | j + 1 => by
    have ih := cpT_sub l j
    rw [List.take_add_one, cpT]
    cases l[j]? with
    | none => simpa using ih
    | some y =>
      dsimp only [Option.toList]
      split
      · simpa using ih.trans (List.sublist_append_left _ _)
      · exact ih.append (List.Sublist.refl _)
theorem cpT_facts {l : List PQ} {n : Nat} (hn : ∀ x ∈ l, x.2.2.length = n) (hs : (nmQ l).Pairwise fun a b => ltP b a = false) : ∀ j, j ≤ l.length → Strict (nmQ (cpT l j)) ∧ ∀ z, z ∈ nmQ (cpT l j) ↔ z ∈ nmQ (l.take j)
  | 0, _ => ⟨by simp [cpT, Strict], fun z => by simp [cpT]⟩
  | j + 1, hj => by
    obtain ⟨ih1, ih2⟩ := cpT_facts hn hs j (by omega)
    obtain ⟨x, hx⟩ : ∃ x, l[j]? = some x := ⟨_, List.getElem?_eq_getElem (by omega)⟩
    have hxm : x ∈ l := List.mem_of_getElem? hx
    have htk : nmQ (l.take (j + 1)) = nmQ (l.take j) ++ [x.2.2] := by rw [List.take_add_one, hx]; simp
    have hsort : ∀ i, i < j → ∀ y, l[i]? = some y → ltP x.2.2 y.2.2 = false := fun i hi y hy => by
      have h1 := List.pairwise_iff_getElem.1 hs i j (by simp; omega) (by simp; omega) hi
      obtain ⟨hy1, hy2⟩ := List.getElem?_eq_some_iff.1 hy
      obtain ⟨hx1, hx2⟩ := List.getElem?_eq_some_iff.1 hx
      simpa [hy2, hx2] using h1
    by_cases e : 0 < j ∧ vAt l j = vAt l (j - 1)
    · rw [cpT_skip e.1 e.2, htk]
      refine ⟨ih1, fun z => (ih2 z).trans ⟨fun h => List.mem_append_left _ h, fun h => ?_⟩⟩
      rcases List.mem_append.1 h with h | h
      · exact h
      · simp at h
        subst h
        obtain ⟨y, hy⟩ : ∃ y, l[j - 1]? = some y := ⟨_, List.getElem?_eq_getElem (by omega)⟩
        rw [← vAt_is hx, e.2, vAt_is hy]
        exact List.mem_map.2 ⟨y, List.mem_of_getElem? (i := j - 1) (by rw [List.getElem?_take_of_lt (by omega)]; exact hy), rfl⟩
    · rw [cpT_keep hx e, htk]
      refine ⟨?_, fun z => by rw [show nmQ (cpT l j ++ [x]) = nmQ (cpT l j) ++ [x.2.2] by simp, List.mem_append, List.mem_append, ih2 z]⟩
      rw [show nmQ (cpT l j ++ [x]) = nmQ (cpT l j) ++ [x.2.2] by simp]
      refine List.pairwise_append.2 ⟨ih1, List.pairwise_singleton _ _, fun a ha b hb => ?_⟩
      simp at hb
      subst hb
      obtain ⟨y, hy, rfl⟩ := List.mem_map.1 ((ih2 a).1 ha)
      obtain ⟨i, hi⟩ := List.mem_iff_getElem?.1 hy
      have hij : i < j := by
        have := (List.getElem?_eq_some_iff.1 hi).1
        simp at this
        omega
      rw [List.getElem?_take_of_lt hij] at hi
      have h1 := hsort i hij y hi
      cases q : ltP y.2.2 x.2.2 with
      | true => rfl
      | false =>
        exfalso
        have hym : y ∈ l := List.mem_of_getElem? hi
        have exy : y.2.2 = x.2.2 := ltP_tri (by rw [hn y hym, hn x hxm]) q h1
        obtain ⟨p, hp⟩ : ∃ p, l[j - 1]? = some p := ⟨_, List.getElem?_eq_getElem (by omega)⟩
        have hpm : p ∈ l := List.mem_of_getElem? hp
        have h2 := hsort (j - 1) (by omega) p hp
        have h3 : ltP p.2.2 y.2.2 = false := by
          by_cases c : i = j - 1
          · subst c
            rw [hi] at hp
            injection hp with hp
            rw [hp]
            exact ltP_irr _
          · have h4 := List.pairwise_iff_getElem.1 hs i (j - 1) (by simp; omega) (by simp; omega) (by omega)
            obtain ⟨hy1, hy2⟩ := List.getElem?_eq_some_iff.1 hi
            obtain ⟨hp1, hp2⟩ := List.getElem?_eq_some_iff.1 hp
            simpa [hy2, hp2] using h4
        rw [exy] at h3
        have := ltP_tri (by rw [hn p hpm, hn x hxm]) h3 h2
        exact e ⟨by omega, by rw [vAt_is hx, vAt_is hp, this]⟩
theorem grown_setCells {w : World} {g : Nat} : ∀ (us : List Value) (i : Nat) (W : World), w.grownBy W (some g) → w.grownBy (W.setCells g i us) (some g)
  | [], _, _, h => h
  | u :: us, i, W, h => grown_setCells us (i + 1) _ (grown_set (o := i) (v := u) h)
theorem VRow.setBeyond {w : World} {g : Nat} {vs : List Value} {t : TypeId} (h : VRow w g vs t) (i : Nat) (hi : vs.length ≤ i) (v : Value) : VRow (w.setCell ⟨g, i, none⟩ v) g vs t := by
  have := h.set i v
  rwa [List.set_eq_of_length_le hi] at this
theorem VRow.setCells {g : Nat} {vs : List Value} {t : TypeId} : ∀ (us : List Value) (i : Nat) (w : World), VRow w g vs t → vs.length ≤ i → VRow (w.setCells g i us) g vs t
  | [], _, _, h, _ => h
  | u :: us, i, w, h, hi => VRow.setCells us (i + 1) _ (h.setBeyond i hi u) (by omega)
theorem VRow.prefix {w : World} {g : Nat} {vs us : List Value} {t : TypeId} (h : VRow w g (vs ++ us) t) : VRow w g vs t := by
  have := h.take vs.length
  rwa [List.take_left] at this
theorem run_clear_pos (w : World) (ty : TypeId) (g o n c : Nat) (hn : 0 < n) (hc : ∀ j, j < n → (w.cell? ⟨g, o + j, none⟩).isSome = true) (hf : ∀ j, j < n → w.frozen? ⟨g, o + j, none⟩ = false) :
    (Builtin.clear_ #[48] ty #[.slice (some ⟨g, o, none⟩) n c]).run Tryz.prog w = .ok (.tuple #[]) (w.setCells g o (Builtin.zeroCells (.slice none 0 0 : Value).cells n).toList) := by
  have hv : ∀ w, (zeroValue 26).run Tryz.prog w = .ok (.slice none 0 0 : Value) w := fun w => by kernel_rfl
  have hl : (Builtin.zeroCells (.slice none 0 0 : Value).cells n).toList.length = n := by
    rw [Array.length_toList, size_zeroCells]
    show n * 1 = n
    omega
  have hone : ∀ v ∈ (Builtin.zeroCells (.slice none 0 0 : Value).cells n).toList, v.oneCell' = true := by
    intro v hv
    simp only [Builtin.zeroCells, Array.toList_map, List.mem_map] at hv
    obtain ⟨i, _, rfl⟩ := hv
    have h1 : i % 1 < 1 := Nat.mod_lt _ (by omega)
    show (#[Value.slice none 0 0][i % 1]!).oneCell' = true
    generalize i % 1 = r at h1
    match r, h1 with
    | 0, _ => rfl
  have hst := run_storeCells_cells (P := Tryz.prog) g o (Builtin.zeroCells (.slice none 0 0 : Value).cells n).toList 0 w (by rw [hl]; simpa using hc) (by rw [hl]; simpa using hf) hone
  simp only [Nat.add_zero] at hst
  obtain ⟨m, rfl⟩ : ∃ m, n = m + 1 := ⟨n - 1, by omega⟩
  have ht := Tryz.underlying48
  simp [Builtin.clear_, run_underlying ht, hv, hst]
theorem drop_at_pq (l A : List PQ) (C p : Nat) (hA : A.length = C) (hp : C ≤ p) : ((A ++ l.drop C).flatMap pqC)[p]? = (l[p]?).map pqV := by
  rw [pq_at, List.getElem?_append_right (by omega), List.getElem?_drop, hA, show C + (p - C) = p by omega]
set_option maxHeartbeats 2000000 in
theorem compactPos_any (lo hi g cap n : Nat) (l : List PQ) (w : World) (hle : n ≤ 1048576) (hl0 : 0 < l.length) (hl : l.length ≤ 1048576) (hcap : l.length ≤ cap) (hQ : QRow w g l) (hA : QAll lo hi w l) (hn : ∀ x ∈ l, x.2.2.length = n) (hne : ∀ x ∈ l, x.1 ≠ g) :
    Calls Tryz.prog 97 #[.slice (some ⟨g, 0, none⟩) l.length cap, .func (.func 98) #[] #[]] w fun e w' => e = .returned (.slice (some ⟨g, 0, none⟩) (cpT l l.length).length cap) ∧ QRow w' g (cpT l l.length) ∧ w.grownBy w' (some g) := by
  obtain ⟨N, hN⟩ : ∃ N, l.length = N := ⟨_, rfl⟩
  rw [hN] at hl0 hl hcap ⊢
  have HN := Lib.hid hN
  have HA := Lib.hid hA
  have HLn := Lib.hid hn
  have HNE := Lib.hid hne
  have m0 : (N : Int) ≤ 1048576 := by omega
  have m1 : (N : Int) ≤ (cap : Int) := by omega
  have heq := fun (gx kx gy ky : Nat) (xs ys : List Int) (W : World) (h1 : xs.length ≤ 1048576) (h2 : ys.length ≤ 1048576) (rx : Row W gx xs) (ry : Row W gy ys) => equal_any (some ⟨gx, 0, none⟩) (some ⟨gy, 0, none⟩) xs.length ys.length kx ky xs ys W rfl rfl h1 h2 rx.irow ry.irow
  have HEQ := Lib.hid heq
  clear hN hA hn hne heq
  by_cases h2 : N < 2
  · obtain rfl : N = 1 := by omega
    have e1 : cpT l 1 = l := by
      have hh := HN.out
      match l, hh with
      | [y], _ => rfl
    have HE1 := Lib.hid hQ
    have E1 := Lib.hid e1
    clear e1
    go_enter Tryz.func97, Tryz.ntmps97
    go_wp2
    go_ret
    exact ⟨by rw [E1.out, HN.out]; rfl, by rw [E1.out]; exact HE1.out, ⟨rfl, rfl, rfl, Nat.le_refl _, fun _ _ _ => rfl⟩⟩
  · have h2' : ¬ (N : Int) < 2 := by omega
    go_enter Tryz.func97, Tryz.ntmps97
    go_wp2_with fail
    go_loopg [5] (N - 1) (fun m k wr => ∃ (W : World) (K : Nat), W = wr ∧ 1 ≤ K ∧ K ≤ N ∧ m = N - K ∧ k = .int .i64 K ∧ QRow W g l ∧ cpT l K = l.take K ∧ w.grownBy W (some g))
    case atStart =>
      refine ⟨_, 1, rfl, by omega, by omega, by omega, by go_num, hQ, ?_, ⟨rfl, rfl, rfl, Nat.le_refl _, fun _ _ _ => rfl⟩⟩
      obtain ⟨x, hx⟩ : ∃ x, l[0]? = some x := ⟨_, List.getElem?_eq_getElem (by rw [HN.out]; omega)⟩
      rw [cpT_keep hx (fun h => absurd h.1 (by omega)), List.take_add_one, hx]
      rfl
    case round =>
      clear hQ
      obtain ⟨wr, K, hW, hK1, hK, hm, rfl, hr, hcp, hG⟩ := hrel
      subst hW
      by_cases hlt : K < N
      · obtain ⟨J, hJ⟩ : ∃ J, K - 1 = J := ⟨_, rfl⟩
        have eJ : (K : Int) - 1 = (J : Int) := by omega
        obtain ⟨⟨gx, kx, xs⟩, hx⟩ : ∃ x, l[K]? = some x := ⟨_, List.getElem?_eq_getElem (by rw [HN.out]; omega)⟩
        obtain ⟨⟨gy, ky, ys⟩, hy⟩ : ∃ y, l[J]? = some y := ⟨_, List.getElem?_eq_getElem (by rw [HN.out]; omega)⟩
        have hxm := List.mem_of_getElem? hx
        have hym := List.mem_of_getElem? hy
        have u0 : CellIs wr g (K) (pqV (gx, kx, xs)) := hr.at K _ hx
        have u1 : CellIs wr g (J) (pqV (gy, ky, ys)) := hr.at J _ hy
        have rx := (HA.out _ hxm).2.2.grown hG (HNE.out _ hxm)
        have ry := (HA.out _ hym).2.2.grown hG (HNE.out _ hym)
        have hvx := vAt_is hx
        have hvy := vAt_is hy
        rw [← hJ] at hvy
        have HE := Lib.hid (fun W => HEQ.out gx kx gy ky xs ys W (by rw [HLn.out _ hxm]; exact hle) (by rw [HLn.out _ hym]; exact hle))
        dsimp only at rx ry hvx hvy
        have wz : IntKind.i64.wrap ((K : Int) - 1) = (J : Int) := by rw [IntWalk.i64_in _ (by omega)]; exact eJ
        have p0 : (0 : Int) ≤ (K : Int) := by omega
        have p1 : (K : Int) < (N : Int) := by omega
        have p2 : (0 : Int) ≤ (J : Int) := by omega
        have p3 : (J : Int) < (N : Int) := by omega
        have p4 : (K : Int) ≤ (N : Int) := by omega
        have p5 : (K : Int) ≤ (cap : Int) := by omega
        have HX := Lib.hid hx
        have HCP := Lib.hid hcp
        have HJ := Lib.hid hJ
        have HVX := Lib.hid hvx
        have HVY := Lib.hid hvy
        clear hx hy hcp hJ hvx hvy hxm hym eJ
        by_cases hq : xs = ys
        · have hskip : cpT l (K + 1) = l.take K := by rw [cpT_skip (by omega) (by rw [HVX.out, HVY.out, hq]), HCP.out]
          have HSK := Lib.hid hskip
          have he := HE.out
          simp only [decide_eq_true hq] at he
          replace HE := Lib.hid he
          clear hskip he hq HX HVX HVY
          go_wp2_with fail
          have hd_ : wr.drew.heap.size = wr.heap.size := rfl
          replace hr := hr.drew
          replace rx := rx.drew
          replace ry := ry.drew
          replace u0 := CellIs.drew u0
          replace u1 := CellIs.drew u1
          replace hG := grown_drew hG
          refine wp_region_held_drew (S := fun w' => w'.cell? ⟨g, K, none⟩ = some (pqV (gx, kx, xs)) ∧ w'.cell? ⟨g, J, none⟩ = some (pqV (gy, ky, ys))) (by kernel_rfl) ⟨u0, u1⟩ (fun hHeld => ?_)
          clear hHeld
          generalize wr.drew = vd at *
          have hHeld : vd.cell? ⟨g, K, none⟩ = some (pqV (gx, kx, xs)) ∧ vd.cell? ⟨g, J, none⟩ = some (pqV (gy, ky, ys)) := ⟨u0, u1⟩
          refine tk 0 18 ?_
          refine tk 1 19 ?_
          refine tk 2 20 ?_
          refine tk 3 21 ?_
          refine tk 4 22 ?_
          refine tk 5 23 ?_
          refine tk 6 24 ?_
          refine tk 7 25 ?_
          refine tk 8 26 ?_
          refine tk 9 27 ?_
          refine rdk 10 28 fun K hK => ?_
          go_simp
          refine (HE.out _ rx ry).mono ?_
          rintro e w5 ⟨rfl, hb5⟩
          have hb5_ := hb5
          replace u0 := CellIs.below u0 hb5
          replace u1 := CellIs.below u1 hb5
          replace hr := hr.below hb5
          replace hG := grown_trans hG (grown_of_below hb5 (some g))
          clear hb5 rx ry
          (try go_wp2_with fail)
          refine hko hK ⟨u0, u1⟩ fun hHeld => ?_
          clear hK K
          refine wpAnyH_done (by kernel_rfl) ?_ _
          clear hHeld
          clear HE u0 u1
          go_wp2_with fail
          go_loopg [5, 7] (N - (K + 1)) (fun m k k2 wr => ∃ (W : World) (j C : Nat), W = wr ∧ K + 1 ≤ j ∧ j ≤ N ∧ m = N - j ∧ k = .int .i64 C ∧ k2 = .int .i64 ((j - K : Nat) : Int) ∧ (cpT l j).length = C ∧ K ≤ C ∧ C < j ∧ VRow W g ((cpT l j ++ l.drop C).flatMap pqC) 26 ∧ w.grownBy W (some g))
          case atStart =>
            refine ⟨_, K + 1, K, rfl, by omega, by omega, by omega, rfl, by rw [show K + 1 - K = 1 by omega]; rfl, ?_, by omega, by omega, ?_, hG⟩
            · rw [HSK.out, List.length_take, HN.out]; omega
            · rw [HSK.out, List.take_append_drop]; exact hr
          case round =>
            clear hr hG
            obtain ⟨wr, j, C, hW, hj1, hj, hm2, rfl, rfl, hC, hKC, hCj, hr, hG⟩ := hrel
            subst hW
            by_cases hlt2 : j < N
            · obtain ⟨J2, hJ2⟩ : ∃ J2, j - K = J2 := ⟨_, rfl⟩
              obtain ⟨J3, hJ3⟩ : ∃ J3, j - 1 = J3 := ⟨_, rfl⟩
              rw [hJ2]
              obtain ⟨⟨gx, kx, xs⟩, hx⟩ : ∃ x, l[j]? = some x := ⟨_, List.getElem?_eq_getElem (by rw [HN.out]; omega)⟩
              obtain ⟨⟨gy, ky, ys⟩, hy⟩ : ∃ y, l[J3]? = some y := ⟨_, List.getElem?_eq_getElem (by rw [HN.out]; omega)⟩
              have hxm := List.mem_of_getElem? hx
              have hym := List.mem_of_getElem? hy
              have u0 : CellIs wr g (K + J2) (pqV (gx, kx, xs)) := by
                rw [show K + J2 = j by omega]
                exact hr.cell _ _ (by rw [drop_at_pq l _ C j hC (by omega), hx]; rfl)
              have u1 : CellIs wr g (K + (J2 - 1)) (pqV (gy, ky, ys)) := by
                rw [show K + (J2 - 1) = J3 by omega]
                exact hr.cell _ _ (by rw [drop_at_pq l _ C J3 hC (by omega), hy]; rfl)
              have rx := (HA.out _ hxm).2.2.grown hG (HNE.out _ hxm)
              have ry := (HA.out _ hym).2.2.grown hG (HNE.out _ hym)
              have hvx := vAt_is hx
              have hvy := vAt_is hy
              rw [← hJ3] at hvy
              have HE := Lib.hid (fun W => HEQ.out gx kx gy ky xs ys W (by rw [HLn.out _ hxm]; exact hle) (by rw [HLn.out _ hym]; exact hle))
              dsimp only at rx ry hvx hvy
              obtain ⟨J4, hJ4⟩ : ∃ J4, J2 - 1 = J4 := ⟨_, rfl⟩
              rw [hJ4] at u1
              have wz : IntKind.i64.wrap ((J2 : Int) - 1) = (J4 : Int) := by rw [IntWalk.i64_in _ (by omega)]; omega
              have q0 : (0 : Int) ≤ (J2 : Int) := by omega
              have q1 : (J2 : Int) < ((N - K : Nat) : Int) := by omega
              have q2 : (0 : Int) ≤ (J4 : Int) := by omega
              have q3 : (J4 : Int) < ((N - K : Nat) : Int) := by omega
              have q4 : (0 : Int) ≤ (C : Int) := by omega
              have q5 : (C : Int) < (N : Int) := by omega
              obtain ⟨v0, u2⟩ : ∃ v0, CellIs wr g C v0 := by
                obtain ⟨x0, hx0⟩ : ∃ x, l[C]? = some x := ⟨_, List.getElem?_eq_getElem (by rw [HN.out]; omega)⟩
                have := drop_at_pq l (cpT l j) C C hC (Nat.le_refl _)
                rw [hx0] at this
                exact ⟨_, hr.cell _ _ this⟩
              have HX := Lib.hid hx
              have HVX := Lib.hid hvx
              have HVY := Lib.hid hvy
              have HCL := Lib.hid hC
              clear hx hy hvx hvy hxm hym hC
              by_cases hq2 : xs = ys
              · have he := HE.out
                simp only [decide_eq_true hq2] at he
                replace HE := Lib.hid he
                have hsk := cpT_skip (l := l) (j := j) (by omega) (by rw [HVX.out, HVY.out, hq2])
                have HS2 := Lib.hid hsk
                clear hsk he hq2
                go_wp2_with fail
                have hd_ : wr.drew.heap.size = wr.heap.size := rfl
                replace hr := hr.drew
                replace rx := rx.drew
                replace ry := ry.drew
                replace u2 := u2.drew
                replace u0 := CellIs.drew u0
                replace u1 := CellIs.drew u1
                replace hG := grown_drew hG
                refine wp_region_held_drew (S := fun w' => w'.cell? ⟨g, K + J2, none⟩ = some (pqV (gx, kx, xs)) ∧ w'.cell? ⟨g, K + J4, none⟩ = some (pqV (gy, ky, ys))) (by kernel_rfl) ⟨u0, u1⟩ (fun hHeld => ?_)
                clear hHeld
                generalize wr.drew = vd at *
                have hHeld : vd.cell? ⟨g, K + J2, none⟩ = some (pqV (gx, kx, xs)) ∧ vd.cell? ⟨g, K + J4, none⟩ = some (pqV (gy, ky, ys)) := ⟨u0, u1⟩
                refine tk 0 38 ?_
                refine tk 1 39 ?_
                refine tk 2 40 ?_
                refine tk 3 41 ?_
                refine tk 4 42 ?_
                refine tk 5 43 ?_
                refine tk 6 44 ?_
                refine tk 7 45 ?_
                refine tk 8 46 ?_
                refine tk 9 47 ?_
                refine rdk 10 48 fun K hK => ?_
                go_simp
                refine (HE.out _ rx ry).mono ?_
                rintro e w5 ⟨rfl, hb5⟩
                have hb5_ := hb5
                replace u0 := CellIs.below u0 hb5
                replace u1 := CellIs.below u1 hb5
                replace hr := hr.below hb5
                replace hG := grown_trans hG (grown_of_below hb5 (some g))
                clear hb5 rx ry
                replace u2 := CellIs.below u2 hb5_
                (try go_wp2_with fail)
                refine hko hK ⟨u0, u1⟩ fun hHeld => ?_
                clear hK K
                refine tk 11 49 ?_
                refine wpAnyH_done (by kernel_rfl) ?_ _
                clear hHeld
                go_wp2
                go_roundg (N - (j + 1))
                case measure => omega
                case rel => exact ⟨_, j + 1, C, rfl, by omega, by omega, rfl, rfl, by go_num, by rw [HS2.out]; exact HCL.out, by omega, by omega, by rw [HS2.out]; exact hr, hG⟩
              · have he := HE.out
                simp only [decide_eq_false hq2] at he
                replace HE := Lib.hid he
                have hkp := cpT_keep HX.out (fun h => hq2 (by rw [← HVX.out, ← HVY.out, h.2]))
                have HS2 := Lib.hid hkp
                clear hkp he hq2
                go_wp2_with fail
                have hd_ : wr.drew.heap.size = wr.heap.size := rfl
                replace hr := hr.drew
                replace rx := rx.drew
                replace ry := ry.drew
                replace u2 := u2.drew
                replace u0 := CellIs.drew u0
                replace u1 := CellIs.drew u1
                replace hG := grown_drew hG
                refine wp_region_held_drew (S := fun w' => w'.cell? ⟨g, K + J2, none⟩ = some (pqV (gx, kx, xs)) ∧ w'.cell? ⟨g, K + J4, none⟩ = some (pqV (gy, ky, ys))) (by kernel_rfl) ⟨u0, u1⟩ (fun hHeld => ?_)
                clear hHeld
                generalize wr.drew = vd at *
                have hHeld : vd.cell? ⟨g, K + J2, none⟩ = some (pqV (gx, kx, xs)) ∧ vd.cell? ⟨g, K + J4, none⟩ = some (pqV (gy, ky, ys)) := ⟨u0, u1⟩
                refine tk 0 38 ?_
                refine tk 1 39 ?_
                refine tk 2 40 ?_
                refine tk 3 41 ?_
                refine tk 4 42 ?_
                refine tk 5 43 ?_
                refine tk 6 44 ?_
                refine tk 7 45 ?_
                refine tk 8 46 ?_
                refine tk 9 47 ?_
                refine rdk 10 48 fun K hK => ?_
                go_simp
                refine (HE.out _ rx ry).mono ?_
                rintro e w5 ⟨rfl, hb5⟩
                have hb5_ := hb5
                replace u0 := CellIs.below u0 hb5
                replace u1 := CellIs.below u1 hb5
                replace hr := hr.below hb5
                replace hG := grown_trans hG (grown_of_below hb5 (some g))
                clear hb5 rx ry
                replace u2 := CellIs.below u2 hb5_
                (try go_wp2_with fail)
                refine hko hK ⟨u0, u1⟩ fun hHeld => ?_
                clear hK K
                refine tk 11 49 ?_
                refine wpAnyH_done (by kernel_rfl) ?_ _
                clear hHeld
                have f0 := hr.free C
                have c0 := u0
                have c2 := u2
                unfold CellIs at c0 c2
                go_wp2
                go_roundg (N - (j + 1))
                case measure => omega
                case rel =>
                  refine ⟨_, j + 1, C + 1, rfl, by omega, by omega, rfl, by go_num, by go_num, by rw [HS2.out, List.length_append, HCL.out]; rfl, by omega, by omega, ?_, grown_set (o := C) (v := pqV (gx, kx, xs)) hG⟩
                  have R6 := hr.set C (pqV (gx, kx, xs))
                  rw [HS2.out]
                  refine R6.wf ?_
                  rw [List.flatMap_append, List.set_append_right _ _ (by rw [pq_len, HCL.out]; exact Nat.le_refl _), pq_len, HCL.out, Nat.sub_self]
                  have hCl : C < l.length := by rw [HN.out]; omega
                  rw [List.drop_eq_getElem_cons hCl]
                  simp only [List.flatMap_append, List.flatMap_cons, List.flatMap_nil, pqC, List.cons_append, List.nil_append, List.set_cons_zero, List.append_assoc, List.append_nil]
            · obtain rfl : j = N := by omega
              have hr2 : VRow wr g ((cpT l j).flatMap pqC ++ (l.drop C).flatMap pqC) 26 := hr.wf List.flatMap_append
              have hlc : ((cpT l j).flatMap pqC).length = C := by rw [pq_len, hC]
              have hcl := fun ty => run_clear_pos wr ty g C (j - C) (cap - C) (by omega) (fun i hi4 => by
                have hlt : C + i < ((cpT l j ++ l.drop C).flatMap pqC).length := by rw [pq_len, List.length_append, hC, List.length_drop, HN.out]; omega
                rw [hr.cell _ _ (List.getElem?_eq_getElem hlt)]
                rfl) (fun i _ => hr.free _)
              have hfin := VRow.setCells (Builtin.zeroCells (.slice none 0 0 : Value).cells (j - C)).toList C wr (VRow.prefix hr2) (by rw [hlc]; exact Nat.le_refl _)
              have hgf := grown_setCells (Builtin.zeroCells (.slice none 0 0 : Value).cells (j - C)).toList C wr hG
              have q4 : (0 : Int) ≤ (C : Int) := by omega
              have q5 : (C : Int) ≤ (j : Int) := by omega
              have q6 : (C : Int) ≤ (cap : Int) := by omega
              have HFI := Lib.hid hfin
              have HGF := Lib.hid hgf
              have HCL := Lib.hid hC
              clear hfin hgf hr2 hr hC hlc hG
              go_wp2
              go_ret
              exact ⟨by rw [HCL.out]; rfl, HFI.out, HGF.out⟩
        · have he := HE.out
          simp only [decide_eq_false hq] at he
          replace HE := Lib.hid he
          have hkp : cpT l (K + 1) = l.take (K + 1) := by
            rw [cpT_keep HX.out (fun h => hq (by rw [← HVX.out, ← HVY.out, h.2])), HCP.out, List.take_add_one, HX.out]
            rfl
          have HKP := Lib.hid hkp
          clear hkp he hq
          go_wp2_with fail
          have hd_ : wr.drew.heap.size = wr.heap.size := rfl
          replace hr := hr.drew
          replace rx := rx.drew
          replace ry := ry.drew
          replace u0 := CellIs.drew u0
          replace u1 := CellIs.drew u1
          replace hG := grown_drew hG
          refine wp_region_held_drew (S := fun w' => w'.cell? ⟨g, K, none⟩ = some (pqV (gx, kx, xs)) ∧ w'.cell? ⟨g, J, none⟩ = some (pqV (gy, ky, ys))) (by kernel_rfl) ⟨u0, u1⟩ (fun hHeld => ?_)
          clear hHeld
          generalize wr.drew = vd at *
          have hHeld : vd.cell? ⟨g, K, none⟩ = some (pqV (gx, kx, xs)) ∧ vd.cell? ⟨g, J, none⟩ = some (pqV (gy, ky, ys)) := ⟨u0, u1⟩
          refine tk 0 18 ?_
          refine tk 1 19 ?_
          refine tk 2 20 ?_
          refine tk 3 21 ?_
          refine tk 4 22 ?_
          refine tk 5 23 ?_
          refine tk 6 24 ?_
          refine tk 7 25 ?_
          refine tk 8 26 ?_
          refine tk 9 27 ?_
          refine rdk 10 28 fun K hK => ?_
          go_simp
          refine (HE.out _ rx ry).mono ?_
          rintro e w5 ⟨rfl, hb5⟩
          have hb5_ := hb5
          replace u0 := CellIs.below u0 hb5
          replace u1 := CellIs.below u1 hb5
          replace hr := hr.below hb5
          replace hG := grown_trans hG (grown_of_below hb5 (some g))
          clear hb5 rx ry
          (try go_wp2_with fail)
          refine hko hK ⟨u0, u1⟩ fun hHeld => ?_
          clear hK K
          refine wpAnyH_done (by kernel_rfl) ?_ _
          clear hHeld
          clear HE u0 u1
          go_wp2
          go_roundg (N - (K + 1))
          case measure => omega
          case rel => exact ⟨_, K + 1, rfl, by omega, by omega, rfl, by go_num, hr, HKP.out, hG⟩
      · obtain rfl : K = N := by omega
        have e1 : cpT l K = l := by rw [hcp, ← HN.out, List.take_length]
        have HR := Lib.hid hr
        have E1 := Lib.hid e1
        have hlN := HN.out
        clear e1 hcp
        go_wp2
        go_ret
        exact ⟨by rw [E1.out, hlN]; rfl, by rw [E1.out]; exact HR.out, hG⟩
def RowsGot (base : Nat) (L : List (List Int)) (lo : Nat) (w : World) (e : Ending) (w' : World) : Prop :=
  ∃ g k l, e = .returned (.slice (some ⟨g, 0, none⟩) l.length k) ∧ base ≤ g ∧ QRow w' g l ∧ nmQ l = L ∧ QAll lo w'.heap.size w' l ∧ QDis l ∧ Below base w w'
set_option maxHeartbeats 1000000 in
theorem distinct_any (base lo n : Nat) (v : Value) (l : List PQ) (w : World) (hbase : base ≤ w.heap.size) (hle : n ≤ 1048576) (hl0 : 0 < l.length) (hl : l.length ≤ 1048576) (hO : OwnQ w base v l) (hA : QAll lo w.heap.size w l) (hD : QDis l) (hn : ∀ x ∈ l, x.2.2.length = n) :
    Calls Tryz.prog 71 #[v] w (RowsGot base (sdP (nmQ l)) lo w) := by
  obtain ⟨g, k, rfl⟩ := OwnQ.some hO hl0
  obtain ⟨hb0, hgl, hQ, -⟩ := hO.row
  have hcap : l.length ≤ k := by
    obtain ⟨_, ⟨h1, _⟩ | ⟨g', cap', cur, hv, hbg, hh, hc, _⟩⟩ := hO
    · cases h1
    · simp at hv
      obtain ⟨rfl, rfl⟩ := hv
      exact hc
  have hne : ∀ x ∈ l, x.1 ≠ g := fun x hx e => by
    obtain ⟨cur, hB, _⟩ := (hA x hx).2.2
    rw [e] at hB
    obtain ⟨cur2, hB2, _⟩ := hQ
    have : some (Obj.cells cur 2 (0, 0)) = some (Obj.cells cur2 26 (0, 0)) := hB.symm.trans hB2
    injection this with this
    injection this with _ h3
    exact absurd h3 (by decide)
  have HS := Lib.hid (sortPos_any base lo w.heap.size g k n l w hle hl0 hl hO hA hn)
  go_enter Tryz.func71, Tryz.ntmps71
  go_wp2_with fail
  refine HS.out.mono ?_
  rintro e w1 ⟨rfl, l1, hp, hs, hO1, hg1⟩
  have hll : l1.length = l.length := hp.length_eq
  have hm : ∀ x, x ∈ l1 ↔ x ∈ l := fun x => hp.mem_iff
  have hz1 := hg1.size
  have hA1 : QAll lo w1.heap.size w1 l1 := fun x hx => by
    have q := hA x ((hm x).1 hx)
    exact ⟨q.1, by have := q.2.1; omega, q.2.2.grown hg1 (hne x ((hm x).1 hx))⟩
  have hD1 : QDis l1 := (hp.pairwise_iff (R := fun x y : PQ => x.1 ≠ y.1) (fun h => fun e => h e.symm)).2 hD
  have hn1 : ∀ x ∈ l1, x.2.2.length = n := fun x hx => hn x ((hm x).1 hx)
  obtain ⟨-, -, hQ1, -⟩ := OwnQ.row (l := l1) (g := g) (n := l.length) (k := k) hO1
  have hcp := compactPos_any lo w1.heap.size g k n l1 w1 hle (by omega) (by omega) (by omega) hQ1 hA1 hn1 (fun x hx => hne x ((hm x).1 hx))
  obtain ⟨f1, f2⟩ := cpT_facts hn1 hs l1.length (Nat.le_refl _)
  have hsub := cpT_sub l1 l1.length
  rw [List.take_length] at f2 hsub
  have hsd : nmQ (cpT l1 l1.length) = sdP (nmQ l) := by
    refine sdP_is (n := n) (fun x hx => ?_) f1 (fun z => (f2 z).trans ?_)
    · obtain ⟨y, hy, rfl⟩ := List.mem_map.1 hx
      exact hn y hy
    · rw [List.mem_map, List.mem_map]
      exact ⟨fun ⟨y, h1, h2⟩ => ⟨y, (hm y).1 h1, h2⟩, fun ⟨y, h1, h2⟩ => ⟨y, (hm y).2 h1, h2⟩⟩
  rw [hll] at hcp hsd hsub
  have HC := Lib.hid hcp
  have HSD := Lib.hid hsd
  have HSB := Lib.hid hsub
  clear hcp hsd hsub f1 f2 HS hs hO1 hQ1
  go_wp2_with fail
  refine HC.out.mono ?_
  rintro e w2 ⟨rfl, hQ2, hg2⟩
  have hz2 := hg2.size
  have hrow : ∀ x ∈ l1, Row w2 x.1 x.2.2 := fun x hx => (hA1 x hx).2.2.grown hg2 (hne x ((hm x).1 hx))
  have hb : Below base w w2 := by
    refine ((Below.refl base w).grown hg1 hbase (fun q hq => ?_)).grown hg2 (by omega) (fun q hq => ?_)
    · simp at hq; omega
    · simp at hq; omega
  go_wp2
  go_ret
  exact ⟨g, k, cpT l1 l.length, rfl, hb0, hQ2, HSD.out, fun x hx => ⟨(hA1 x (HSB.out.subset hx)).1, by have := (hA1 x (HSB.out.subset hx)).2.1; omega, hrow x (HSB.out.subset hx)⟩, List.Pairwise.sublist HSB.out hD1, hb⟩
end Go.Proofs.YtnlclmlnpkncoaaGreat
