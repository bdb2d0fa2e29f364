/- Texts of a proof, laid together. -/
import Derived.Test.YtlnljfbdicgkcaaGreatV14
import Derived.Test.YtlnljfbdicgkcaaGreatV12
import Derived.BigQuiet
import Derived.Deep.QuietTactic
import Derived.Deep.LoopGhost
import Derived.Test.YtlnljfbdicgkcaaGreatV07
import Derived.Test.YtlnljfbdicgkcaaGreatV04
import Derived.Lib.SliceRun
import Derived.StillTailTactics
import Derived.Test.YtlnljfbdicgkcaaGreatV01
namespace Go.Proofs.YtlnljfbdicgkcaaGreat
open Go.ChangeShapes Go.WideShapes Go.ChangeAt Go.RowKit
set_option linter.unusedVariables false
set_option linter.unusedSimpArgs false
set_option maxRecDepth 4000
theorem compare64_same (a b : Int) (w : World) : Calls Tryz.prog 180 #[.int .i64 a, .int .i64 b] w fun e w' => e = .returned (.int .i64 (sg3 a b)) ∧ w' = w := (compare64_any a b w).mono fun _ _ h => ⟨h.1, h.2.symm⟩
theorem rev_drop (xs : List Int) (j n : Nat) (hn : xs.length = n) (h : j < n) : xs.reverse.drop j = xs.getD (n - 1 - j) 0 :: xs.reverse.drop (j + 1) := by
  subst hn
  rw [List.drop_eq_getElem_cons (by simpa using h)]
  congr 1
  rw [List.getElem_reverse, List.getD_eq_getElem?_getD, List.getElem?_eq_getElem (by omega)]
  rfl
set_option maxHeartbeats 1000000 in
theorem comparePositions_any (a b : Option Addr) (n ca cb : Nat) (xs ys : List Int) (w : World) (hx : xs.length = n) (hy : ys.length = n) (hle : n ≤ 1048576) (ra : ∀ k, IRow (w.drewN k) a xs) (rb : ∀ k, IRow (w.drewN k) b ys) :
    Calls Tryz.prog 150 #[.slice a n ca, .slice b n cb] w fun e w' => e = .returned (.int .i64 (cmpP xs ys)) ∧ ∃ q, w' = w.drewN q := by
  obtain ⟨R, hR⟩ : ∃ R, cmpP xs ys = R := ⟨_, rfl⟩
  rw [hR]
  have h0 : lexC (xs.reverse.drop 0) (ys.reverse.drop 0) = R := hR
  have HX := Lib.hid hx
  have HY := Lib.hid hy
  have n0 : (n : Int) ≤ 1048576 := by omega
  clear hR hx hy
  go_enter Tryz.func150, Tryz.ntmps150
  go_wp2_with fail
  go_loopg [5, 6] (n + 1) (fun m i t wr => ∃ j q : Nat, j ≤ n ∧ m = n + 1 - j ∧ i = .int .i64 ((n : Int) - 1 - j) ∧ lexC (xs.reverse.drop j) (ys.reverse.drop j) = R ∧ w.drewN q = wr)
  case atStart => exact ⟨0, 0, by omega, by omega, by go_num, h0, rfl⟩
  case round =>
    clear h0
    obtain ⟨j, q, hj, hm, rfl, hl, hW⟩ := hrel
    have ra1 := ra q
    have rb1 := rb q
    rw [hW] at ra1 rb1
    by_cases hlt : j < n
    · obtain ⟨I, hI⟩ : ∃ I, n - 1 - j = I := ⟨_, rfl⟩
      have ei : (n : Int) - 1 - (j : Int) = (I : Int) := by omega
      rw [rev_drop xs j n HX.out hlt, rev_drop ys j n HY.out hlt, lexC_cons, hI] at hl
      obtain ⟨b1, o1, rfl, hc1⟩ := ra1 I (by have := HX.out; omega)
      obtain ⟨b2, o2, rfl, hc2⟩ := rb1 I (by have := HY.out; omega)
      obtain ⟨x, hxe⟩ : ∃ x, xs.getD I 0 = x := ⟨_, rfl⟩
      obtain ⟨y, hye⟩ : ∃ y, ys.getD I 0 = y := ⟨_, rfl⟩
      rw [hxe, hye] at hl
      rw [hxe] at hc1
      rw [hye] at hc2
      rw [ei]
      have i0 : (0 : Int) ≤ (I : Int) := by omega
      have i1 : (I : Int) < (n : Int) := by omega
      have hcc := fun W => compare64_same x y W
      unfold sg3 at hcc
      have HI := Lib.hid ei
      clear hI hxe hye ei hj
      by_cases c1 : x < y
      · rw [if_pos c1] at hl hcc
        subst hl
        have HC := Lib.hid hcc
        clear hcc
        go_wp2_with fail
        go_quiet (first | (go_at_call 180; refine Calls.quiet_of_same (HC.out _)))
        go_wp2
        go_ret
        exact ⟨rfl, _, by rw [← hW, World.drewN_drewN]⟩
      · by_cases c2 : y < x
        · rw [if_neg c1, if_pos c2] at hl hcc
          subst hl
          have HC := Lib.hid hcc
          clear hcc
          go_wp2_with fail
          go_quiet (first | (go_at_call 180; refine Calls.quiet_of_same (HC.out _)))
          go_wp2
          go_ret
          exact ⟨rfl, _, by rw [← hW, World.drewN_drewN]⟩
        · rw [if_neg c1, if_neg c2] at hl hcc
          have HC := Lib.hid hcc
          have HL := Lib.hid hl
          clear hcc hl
          go_wp2_with fail
          go_quiet (first | (go_at_call 180; refine Calls.quiet_of_same (HC.out _)))
          go_wp2
          go_roundg (n + 1 - (j + 1))
          case measure => omega
          case rel => exact ⟨j + 1, _, by omega, by omega, by (have := HI.out); go_num, HL.out, by rw [← hW, World.drewN_drewN]⟩
    · obtain rfl : j = n := by omega
      have hR : R = 0 := by
        rw [← hl, List.drop_eq_nil_of_le (by rw [List.length_reverse, HX.out]; exact Nat.le_refl _), List.drop_eq_nil_of_le (by rw [List.length_reverse, HY.out]; exact Nat.le_refl _)]
        rfl
      have hm1 : (j : Int) - 1 - (j : Int) = -1 := by omega
      rw [hm1]
      subst hR
      go_wp2
      go_ret
      exact ⟨rfl, q, hW.symm⟩
theorem grownBy_sortW {α : Type} [Inhabited α] (enc : α → Value) {w : World} {g m : Nat} {os : Array Obj} (d : Array α) : w.grownBy (sortWorld enc w g 0 m d os) (some g) := by
  refine ⟨rfl, rfl, rfl, by simp [sortWorld], fun k hk hne => ?_⟩
  unfold sortWorld
  rw [Go.Sort.heap_grow_old _ _ (by simpa using hk)]
  have : g ≠ k := fun e => hne (by rw [e])
  simp [Go.Sort.putRow, Go.Sort.mapBlock, Go.Sort.ahead, Array.getElem?_modify, this]
theorem heap_sortW {α : Type} [Inhabited α] (enc : α → Value) {w : World} {g m : Nat} {os : Array Obj} {cur : Array Value} {e : TypeId} {fr : Nat × Nat} (d : Array α) (hb : w.heap[g]? = some (.cells cur e fr)) :
    (sortWorld enc w g 0 m d os).heap[g]? = some (.cells (Go.Sort.putCells enc 0 d cur) e fr) := by
  have hg : g < w.heap.size := (Array.getElem?_eq_some_iff.1 hb).1
  unfold sortWorld
  rw [Go.Sort.heap_grow_old _ _ (by simpa using hg)]
  simp [Go.Sort.putRow, Go.Sort.mapBlock, Go.Sort.ahead, Array.getElem?_modify, hb, Go.Sort.onCells]
theorem take_putC {α : Type} [Inhabited α] (enc : α → Value) (cur : Array Value) (ts : Array α) (h : ts.size ≤ cur.size) : (Go.Sort.putCells enc 0 ts cur).toList.take ts.size = ts.toList.map enc := by
  apply List.ext_getElem?
  intro j
  by_cases hj : j < ts.size
  · rw [List.getElem?_take_of_lt hj, Array.getElem?_toList]
    simp [Go.Sort.putCells, hj, show j < cur.size by omega]
  · rw [List.getElem?_take_eq_none (by omega), List.getElem?_eq_none (by simp; omega)]
abbrev PA (w : World) (g n : Nat) := { x : PQ // Row w x.1 x.2.2 ∧ x.2.2.length = n ∧ x.1 ≠ g }
theorem mapPQ (l : List PQ) : l.flatMap pqC = l.map pqV := by
  induction l with
  | nil => rfl
  | cons x l ih => simp [pqC, ih]
theorem cmpLaysP (w : World) (g n size : Nat) (hle : n ≤ 1048576) [Inhabited (PA w g n)] : CmpLays1 Tryz.prog 150 #[] (fun x : PA w g n => pqV x.1) (fun x y => cmpP x.1.2.2 y.1.2.2) g 0 size w := by
  intro m os dk _ x y
  obtain ⟨W, hW⟩ : ∃ W, sortWorld (fun x : PA w g n => pqV x.1) w g 0 m dk os = W := ⟨_, rfl⟩
  have hg : w.grownBy W (some g) := by rw [← hW]; exact grownBy_sortW _ _
  rw [hW]
  obtain ⟨⟨gx, kx, xs⟩, rx, hx, nx⟩ := x
  obtain ⟨⟨gy, ky, ys⟩, ry, hy, ny⟩ := y
  dsimp only at rx hx nx ry hy ny
  have hr : ∀ {gz : Nat} {zs : List Int}, Row w gz zs → gz ≠ g → ∀ k, IRow (W.drewN k) (some ⟨gz, 0, none⟩) zs := fun r ne k => ((r.grown hg ne).below (below_drewN (Below.refl _ _) k)).irow
  have h := comparePositions_any (some ⟨gx, 0, none⟩) (some ⟨gy, 0, none⟩) n kx ky xs ys W hx hy hle (hr rx nx) (hr ry ny)
  have e1 : (#[pqV (gx, kx, xs), pqV (gy, ky, ys)] ++ #[] : Array Value) = #[.slice (some ⟨gx, 0, none⟩) n kx, .slice (some ⟨gy, 0, none⟩) n ky] := by
    simp only [Array.append_empty, pqV, hx, hy]
  show Calls Tryz.prog 150 (#[pqV (gx, kx, xs), pqV (gy, ky, ys)] ++ #[]) W _
  rw [e1]
  exact h.mono fun _ _ ⟨he, q, hq⟩ => ⟨he, q, #[], by rw [hq, Go.Sort.grow_empty]⟩
set_option maxHeartbeats 1000000 in
theorem sortPos_any (base lo hi g cap n : Nat) (l : List PQ) (w : World) (hle : n ≤ 1048576) (hl0 : 0 < l.length) (hl : l.length ≤ 1048576) (hO : OwnQ w base (.slice (some ⟨g, 0, none⟩) l.length cap) l) (hA : QAll lo hi w l) (hn : ∀ x ∈ l, x.2.2.length = n) :
    Calls Tryz.prog 149 #[.slice (some ⟨g, 0, none⟩) l.length cap, .func (.func 150) #[] #[]] w fun e w' => e = .returned (.tuple #[]) ∧ ∃ l', l'.Perm l ∧ (nmQ l').Pairwise (fun a b => ltP b a = false) ∧ OwnQ w' base (.slice (some ⟨g, 0, none⟩) l.length cap) l' ∧ w.grownBy w' (some g) := by
  obtain ⟨hb0, hgl, hQ, -⟩ := hO.row
  have hne : ∀ x ∈ l, x.1 ≠ g := fun x hx e => by
    obtain ⟨cur, hB, _⟩ := (hA x hx).2.2
    rw [e] at hB
    obtain ⟨cur2, hB2, _⟩ := hQ
    have : some (Obj.cells cur 2 (0, 0)) = some (Obj.cells cur2 26 (0, 0)) := hB.symm.trans hB2
    injection this with this
    injection this with _ h3
    exact absurd h3 (by decide)
  have hP : ∀ x ∈ l, Row w x.1 x.2.2 ∧ x.2.2.length = n ∧ x.1 ≠ g := fun x hx => ⟨(hA x hx).2.2, hn x hx, hne x hx⟩
  obtain ⟨L, hL⟩ : ∃ L : List (PA w g n), L.map (fun x => x.1) = l := ⟨l.attach.map fun x => ⟨x.1, hP x.1 x.2⟩, by
    rw [List.map_map]
    exact List.attach_map_subtype_val l⟩
  have hLl : L.length = l.length := by rw [← hL, List.length_map]
  haveI : Inhabited (PA w g n) := ⟨L[0]'(by omega)⟩
  have hlt : ∀ x y : PA w g n, ltOf (fun x y : PA w g n => cmpP x.1.2.2 y.1.2.2) x y = ltP x.1.2.2 y.1.2.2 := fun x y => rfl
  have hSWO : Go.Sort.SWO (ltOf fun x y : PA w g n => cmpP x.1.2.2 y.1.2.2) :=
    ⟨fun x => by rw [hlt]; exact ltP_irr _, fun x y z h1 h2 => by rw [hlt] at *; exact ltP_trans (by rw [x.2.2.1, y.2.2.1]) (by rw [y.2.2.1, z.2.2.1]) h1 h2, fun x y z h1 h2 => by rw [hlt] at *; exact ltP_ntrans (by rw [x.2.2.1, y.2.2.1]) (by rw [y.2.2.1, z.2.2.1]) h1 h2⟩
  have eg : ∀ args w2, (callFunc 150 args).run Tryz.prog w2 = .ok (.enter 150 args) w2 := fun args w2 => by kernel_rfl
  have hH : Go.Sort.Holds (fun x : PA w g n => pqV x.1) w g 0 L.toArray := by
    intro j hj
    have hj' : j < L.length := by simpa using hj
    refine ⟨?_, hQ.free _⟩
    rw [Nat.zero_add]
    have e : l[j]? = some (L[j]'hj').1 := by
      have e0 : (L.map (fun x => x.1))[j]? = some (L[j]'hj').1 := by rw [List.getElem?_map, List.getElem?_eq_getElem hj']; rfl
      exact (congrArg (fun z => z[j]?) hL).symm.trans e0
    rw [hQ.at j _ e]
    simp [hj']
  have hcon := Tryz.slices_SortFunc (fun x : PA w g n => pqV x.1) (fun _ => rfl) (fun x y => cmpP x.1.2.2 y.1.2.2) hSWO 150 #[] g 0 cap L.toArray w eg (cmpLaysP w g n _ hle) hH hgl (by simp; omega)
  have es : L.toArray.size = l.length := by simpa using hLl
  rw [es] at hcon
  refine hcon.mono ?_
  rintro e w' ⟨rfl, d', m, os, hp, hs, rfl⟩
  obtain ⟨hsz, _, hperm⟩ := hp
  rw [es] at hsz
  refine ⟨rfl, d'.toList.map (fun x => x.1), ?_, ?_, ?_, grownBy_sortW _ _⟩
  · have e1 : d'.extract 0 l.length = d' := by rw [← hsz]; simp
    have e2 : L.toArray.extract 0 l.length = L.toArray := by rw [← es]; simp
    rw [e1, e2] at hperm
    have := hperm.map (fun x : PA w g n => x.1)
    rw [← hL]
    simpa using this
  · rw [nmQ, List.map_map, List.pairwise_map, List.pairwise_iff_getElem]
    intro i j hi hj hij
    have hi' : i < d'.size := by simpa using hi
    have hj' : j < d'.size := by simpa using hj
    have := hs i j (by omega) hij (by omega)
    rw [hlt, getElem!_pos d' i hi', getElem!_pos d' j hj'] at this
    simpa using this
  · obtain ⟨hx, ⟨h1, _⟩ | ⟨g', cap', cur, hv, hbg, hh, hc, hm, hcs, ht⟩⟩ := hO
    · cases h1
    · simp at hv
      obtain ⟨rfl, rfl⟩ := hv
      have hdl : (d'.toList.map (fun x => x.1)).length = l.length := by simp [hsz]
      refine ⟨by rw [pq_len, hdl]; omega, .inr ⟨g, cap, _, by rw [hdl], hbg, heap_sortW _ _ hh, by omega, hm, by simp [Go.Sort.putCells, hcs], ?_⟩⟩
      rw [mapPQ, hdl, List.map_map, Nat.mul_one, ← hsz]
      exact take_putC _ cur d' (by omega)
def vAt (l : List PQ) (j : Nat) : List Int := ((l[j]?).map fun x => x.2.2).getD []
def cpT (l : List PQ) : Nat → List PQ
  | 0 => []
  | j + 1 => cpT l j ++ (match l[j]? with | none => [] | some y => if 0 < j ∧ vAt l j = vAt l (j - 1) then [] else [y])
theorem vAt_is {l : List PQ} {j : Nat} {x : PQ} (h : l[j]? = some x) : vAt l j = x.2.2 := by simp [vAt, h]
theorem cpT_skip {l : List PQ} {j : Nat} (h0 : 0 < j) (h : vAt l j = vAt l (j - 1)) : cpT l (j + 1) = cpT l j := by
  rw [cpT]
  cases l[j]? with
  | none => simp
  | some y => simp [h0, h]
theorem cpT_keep {l : List PQ} {j : Nat} {x : PQ} (e : l[j]? = some x) (h : ¬ (0 < j ∧ vAt l j = vAt l (j - 1))) : cpT l (j + 1) = cpT l j ++ [x] := by
  rw [cpT, e]
  dsimp only
  rw [if_neg h]
theorem cpT_sub (l : List PQ) : ∀ j, (cpT l j).Sublist (l.take j)
  | 0 => by simp [cpT]
  | j + 1 => by
    have ih := cpT_sub l j
    rw [List.take_add_one, cpT]
    cases l[j]? with
    | none => simpa using ih
    | some y =>
      dsimp only [Option.toList]
      split
      · simpa using ih.trans (List.sublist_append_left _ _)
      · exact ih.append (List.Sublist.refl _)
theorem cpT_facts {l : List PQ} {n : Nat} (hn : ∀ x ∈ l, x.2.2.length = n) (hs : (nmQ l).Pairwise fun a b => ltP b a = false) : ∀ j, j ≤ l.length → Strict (nmQ (cpT l j)) ∧ ∀ z, z ∈ nmQ (cpT l j) ↔ z ∈ nmQ (l.take j)
  | 0, _ => ⟨by simp [cpT, Strict], fun z => by simp [cpT]⟩
  | j + 1, hj => by
    obtain ⟨ih1, ih2⟩ := cpT_facts hn hs j (by omega)
    obtain ⟨x, hx⟩ : ∃ x, l[j]? = some x := ⟨_, List.getElem?_eq_getElem (by omega)⟩
    have hxm : x ∈ l := List.mem_of_getElem? hx
    have htk : nmQ (l.take (j + 1)) = nmQ (l.take j) ++ [x.2.2] := by rw [List.take_add_one, hx]; simp
    have hsort : ∀ i, i < j → ∀ y, l[i]? = some y → ltP x.2.2 y.2.2 = false := fun i hi y hy => by
      have h1 := List.pairwise_iff_getElem.1 hs i j (by simp; omega) (by simp; omega) hi
      obtain ⟨hy1, hy2⟩ := List.getElem?_eq_some_iff.1 hy
      obtain ⟨hx1, hx2⟩ := List.getElem?_eq_some_iff.1 hx
      simpa [hy2, hx2] using h1
    by_cases e : 0 < j ∧ vAt l j = vAt l (j - 1)
    · rw [cpT_skip e.1 e.2, htk]
      refine ⟨ih1, fun z => (ih2 z).trans ⟨fun h => List.mem_append_left _ h, fun h => ?_⟩⟩
      rcases List.mem_append.1 h with h | h
      · exact h
      · simp at h
        subst h
        obtain ⟨y, hy⟩ : ∃ y, l[j - 1]? = some y := ⟨_, List.getElem?_eq_getElem (by omega)⟩
        rw [← vAt_is hx, e.2, vAt_is hy]
        exact List.mem_map.2 ⟨y, List.mem_of_getElem? (i := j - 1) (by rw [List.getElem?_take_of_lt (by omega)]; exact hy), rfl⟩
    · rw [cpT_keep hx e, htk]
      refine ⟨?_, fun z => by rw [show nmQ (cpT l j ++ [x]) = nmQ (cpT l j) ++ [x.2.2] by simp, List.mem_append, List.mem_append, ih2 z]⟩
      rw [show nmQ (cpT l j ++ [x]) = nmQ (cpT l j) ++ [x.2.2] by simp]
      refine List.pairwise_append.2 ⟨ih1, List.pairwise_singleton _ _, fun a ha b hb => ?_⟩
      simp at hb
      subst hb
      obtain ⟨y, hy, rfl⟩ := List.mem_map.1 ((ih2 a).1 ha)
      obtain ⟨i, hi⟩ := List.mem_iff_getElem?.1 hy
      have hij : i < j := by
        have := (List.getElem?_eq_some_iff.1 hi).1
        simp at this
        omega
      rw [List.getElem?_take_of_lt hij] at hi
      have h1 := hsort i hij y hi
      cases q : ltP y.2.2 x.2.2 with
      | true => rfl
      | false =>
        exfalso
        have hym : y ∈ l := List.mem_of_getElem? hi
        have exy : y.2.2 = x.2.2 := ltP_tri (by rw [hn y hym, hn x hxm]) q h1
        obtain ⟨p, hp⟩ : ∃ p, l[j - 1]? = some p := ⟨_, List.getElem?_eq_getElem (by omega)⟩
        have hpm : p ∈ l := List.mem_of_getElem? hp
        have h2 := hsort (j - 1) (by omega) p hp
        have h3 : ltP p.2.2 y.2.2 = false := by
          by_cases c : i = j - 1
          · subst c
            rw [hi] at hp
            injection hp with hp
            rw [hp]
            exact ltP_irr _
          · have h4 := List.pairwise_iff_getElem.1 hs i (j - 1) (by simp; omega) (by simp; omega) (by omega)
            obtain ⟨hy1, hy2⟩ := List.getElem?_eq_some_iff.1 hi
            obtain ⟨hp1, hp2⟩ := List.getElem?_eq_some_iff.1 hp
            simpa [hy2, hp2] using h4
        rw [exy] at h3
        have := ltP_tri (by rw [hn p hpm, hn x hxm]) h3 h2
        exact e ⟨by omega, by rw [vAt_is hx, vAt_is hp, this]⟩
theorem grown_setCells {w : World} {g : Nat} : ∀ (us : List Value) (i : Nat) (W : World), w.grownBy W (some g) → w.grownBy (W.setCells g i us) (some g)
  | [], _, _, h => h
  | u :: us, i, W, h => grown_setCells us (i + 1) _ (grown_set (o := i) (v := u) h)
theorem VRow.setBeyond {w : World} {g : Nat} {vs : List Value} {t : TypeId} (h : VRow w g vs t) (i : Nat) (hi : vs.length ≤ i) (v : Value) : VRow (w.setCell ⟨g, i, none⟩ v) g vs t := by
  have := h.set i v
  rwa [List.set_eq_of_length_le hi] at this
theorem VRow.setCells {g : Nat} {vs : List Value} {t : TypeId} : ∀ (us : List Value) (i : Nat) (w : World), VRow w g vs t → vs.length ≤ i → VRow (w.setCells g i us) g vs t
  | [], _, _, h, _ => h
  | u :: us, i, w, h, hi => VRow.setCells us (i + 1) _ (h.setBeyond i hi u) (by omega)
theorem VRow.prefix {w : World} {g : Nat} {vs us : List Value} {t : TypeId} (h : VRow w g (vs ++ us) t) : VRow w g vs t := by
  have := h.take vs.length
  rwa [List.take_left] at this
theorem run_clear_pos (w : World) (ty : TypeId) (g o n c : Nat) (hn : 0 < n) (hc : ∀ j, j < n → (w.cell? ⟨g, o + j, none⟩).isSome = true) (hf : ∀ j, j < n → w.frozen? ⟨g, o + j, none⟩ = false) :
    (Builtin.clear_ #[48] ty #[.slice (some ⟨g, o, none⟩) n c]).run Tryz.prog w = .ok (.tuple #[]) (w.setCells g o (Builtin.zeroCells (.slice none 0 0 : Value).cells n).toList) := by
  have hv : ∀ w, (zeroValue 26).run Tryz.prog w = .ok (.slice none 0 0 : Value) w := fun w => by kernel_rfl
  have hl : (Builtin.zeroCells (.slice none 0 0 : Value).cells n).toList.length = n := by
    rw [Array.length_toList, size_zeroCells]
    show n * 1 = n
    omega
  have hone : ∀ v ∈ (Builtin.zeroCells (.slice none 0 0 : Value).cells n).toList, v.oneCell' = true := by
    intro v hv
    simp only [Builtin.zeroCells, Array.toList_map, List.mem_map] at hv
    obtain ⟨i, _, rfl⟩ := hv
    have h1 : i % 1 < 1 := Nat.mod_lt _ (by omega)
    show (#[Value.slice none 0 0][i % 1]!).oneCell' = true
    generalize i % 1 = r at h1
    match r, h1 with
    | 0, _ => rfl
  have hst := run_storeCells_cells (P := Tryz.prog) g o (Builtin.zeroCells (.slice none 0 0 : Value).cells n).toList 0 w (by rw [hl]; simpa using hc) (by rw [hl]; simpa using hf) hone
  simp only [Nat.add_zero] at hst
  obtain ⟨m, rfl⟩ : ∃ m, n = m + 1 := ⟨n - 1, by omega⟩
  have ht := Tryz.underlying48
  simp [Builtin.clear_, run_underlying ht, hv, hst]
theorem drop_at_pq (l A : List PQ) (C p : Nat) (hA : A.length = C) (hp : C ≤ p) : ((A ++ l.drop C).flatMap pqC)[p]? = (l[p]?).map pqV := by
  rw [pq_at, List.getElem?_append_right (by omega), List.getElem?_drop, hA, show C + (p - C) = p by omega]
set_option maxHeartbeats 2000000 in
theorem compactPos_any (lo hi g cap n : Nat) (l : List PQ) (w : World) (hle : n ≤ 1048576) (hl0 : 0 < l.length) (hl : l.length ≤ 1048576) (hcap : l.length ≤ cap) (hQ : QRow w g l) (hA : QAll lo hi w l) (hn : ∀ x ∈ l, x.2.2.length = n) (hne : ∀ x ∈ l, x.1 ≠ g) :
    Calls Tryz.prog 151 #[.slice (some ⟨g, 0, none⟩) l.length cap, .func (.func 152) #[] #[]] w fun e w' => e = .returned (.slice (some ⟨g, 0, none⟩) (cpT l l.length).length cap) ∧ QRow w' g (cpT l l.length) ∧ w.grownBy w' (some g) := by
  obtain ⟨N, hN⟩ : ∃ N, l.length = N := ⟨_, rfl⟩
  rw [hN] at hl0 hl hcap ⊢
  have HN := Lib.hid hN
  have HA := Lib.hid hA
  have HLn := Lib.hid hn
  have HNE := Lib.hid hne
  have m0 : (N : Int) ≤ 1048576 := by omega
  have m1 : (N : Int) ≤ (cap : Int) := by omega
  have heq := fun (gx kx gy ky : Nat) (xs ys : List Int) (W : World) (h1 : xs.length ≤ 1048576) (h2 : ys.length ≤ 1048576) (rx : Row W gx xs) (ry : Row W gy ys) => equal_any (some ⟨gx, 0, none⟩) (some ⟨gy, 0, none⟩) xs.length ys.length kx ky xs ys W rfl rfl h1 h2 rx.irow ry.irow
  have HEQ := Lib.hid heq
  clear hN hA hn hne heq
  by_cases h2 : N < 2
  · obtain rfl : N = 1 := by omega
    have e1 : cpT l 1 = l := by
      have hh := HN.out
      match l, hh with
      | [y], _ => rfl
    have HE1 := Lib.hid hQ
    have E1 := Lib.hid e1
    clear e1
    go_enter Tryz.func151, Tryz.ntmps151
    go_wp2
    go_ret
    exact ⟨by rw [E1.out, HN.out]; rfl, by rw [E1.out]; exact HE1.out, ⟨rfl, rfl, rfl, Nat.le_refl _, fun _ _ _ => rfl⟩⟩
  · have h2' : ¬ (N : Int) < 2 := by omega
    go_enter Tryz.func151, Tryz.ntmps151
    go_wp2_with fail
    go_loopg [5] (N - 1) (fun m k wr => ∃ (W : World) (K : Nat), W = wr ∧ 1 ≤ K ∧ K ≤ N ∧ m = N - K ∧ k = .int .i64 K ∧ QRow W g l ∧ cpT l K = l.take K ∧ w.grownBy W (some g))
    case atStart =>
      refine ⟨_, 1, rfl, by omega, by omega, by omega, by go_num, hQ, ?_, ⟨rfl, rfl, rfl, Nat.le_refl _, fun _ _ _ => rfl⟩⟩
      obtain ⟨x, hx⟩ : ∃ x, l[0]? = some x := ⟨_, List.getElem?_eq_getElem (by rw [HN.out]; omega)⟩
      rw [cpT_keep hx (fun h => absurd h.1 (by omega)), List.take_add_one, hx]
      rfl
    case round =>
      clear hQ
      obtain ⟨wr, K, hW, hK1, hK, hm, rfl, hr, hcp, hG⟩ := hrel
      subst hW
      by_cases hlt : K < N
      · obtain ⟨J, hJ⟩ : ∃ J, K - 1 = J := ⟨_, rfl⟩
        have eJ : (K : Int) - 1 = (J : Int) := by omega
        obtain ⟨⟨gx, kx, xs⟩, hx⟩ : ∃ x, l[K]? = some x := ⟨_, List.getElem?_eq_getElem (by rw [HN.out]; omega)⟩
        obtain ⟨⟨gy, ky, ys⟩, hy⟩ : ∃ y, l[J]? = some y := ⟨_, List.getElem?_eq_getElem (by rw [HN.out]; omega)⟩
        have hxm := List.mem_of_getElem? hx
        have hym := List.mem_of_getElem? hy
        have u0 : CellIs wr g (K) (pqV (gx, kx, xs)) := hr.at K _ hx
        have u1 : CellIs wr g (J) (pqV (gy, ky, ys)) := hr.at J _ hy
        have rx := (HA.out _ hxm).2.2.grown hG (HNE.out _ hxm)
        have ry := (HA.out _ hym).2.2.grown hG (HNE.out _ hym)
        have hvx := vAt_is hx
        have hvy := vAt_is hy
        rw [← hJ] at hvy
        have HE := Lib.hid (fun W => HEQ.out gx kx gy ky xs ys W (by rw [HLn.out _ hxm]; exact hle) (by rw [HLn.out _ hym]; exact hle))
        dsimp only at rx ry hvx hvy
        have wz : IntKind.i64.wrap ((K : Int) - 1) = (J : Int) := by rw [IntWalk.i64_in _ (by omega)]; exact eJ
        have p0 : (0 : Int) ≤ (K : Int) := by omega
        have p1 : (K : Int) < (N : Int) := by omega
        have p2 : (0 : Int) ≤ (J : Int) := by omega
        have p3 : (J : Int) < (N : Int) := by omega
        have p4 : (K : Int) ≤ (N : Int) := by omega
        have p5 : (K : Int) ≤ (cap : Int) := by omega
        have HX := Lib.hid hx
        have HCP := Lib.hid hcp
        have HJ := Lib.hid hJ
        have HVX := Lib.hid hvx
        have HVY := Lib.hid hvy
        clear hx hy hcp hJ hvx hvy hxm hym eJ
        by_cases hq : xs = ys
        · have hskip : cpT l (K + 1) = l.take K := by rw [cpT_skip (by omega) (by rw [HVX.out, HVY.out, hq]), HCP.out]
          have HSK := Lib.hid hskip
          have he := HE.out
          simp only [decide_eq_true hq] at he
          replace HE := Lib.hid he
          clear hskip he hq HX HVX HVY
          go_wp2_with fail
          have hd_ : wr.drew.heap.size = wr.heap.size := rfl
          replace hr := hr.drew
          replace rx := rx.drew
          replace ry := ry.drew
          replace u0 := CellIs.drew u0
          replace u1 := CellIs.drew u1
          replace hG := grown_drew hG
          refine wp_region_held_drew (S := fun w' => w'.cell? ⟨g, K, none⟩ = some (pqV (gx, kx, xs)) ∧ w'.cell? ⟨g, J, none⟩ = some (pqV (gy, ky, ys))) (by kernel_rfl) ⟨u0, u1⟩ (fun hHeld => ?_)
          clear hHeld
          generalize wr.drew = vd at *
          have hHeld : vd.cell? ⟨g, K, none⟩ = some (pqV (gx, kx, xs)) ∧ vd.cell? ⟨g, J, none⟩ = some (pqV (gy, ky, ys)) := ⟨u0, u1⟩
          refine tk 0 18 ?_
          refine tk 1 19 ?_
          refine tk 2 20 ?_
          refine tk 3 21 ?_
          refine tk 4 22 ?_
          refine tk 5 23 ?_
          refine tk 6 24 ?_
          refine tk 7 25 ?_
          refine tk 8 26 ?_
          refine tk 9 27 ?_
          refine rdk 10 28 fun K hK => ?_
          go_simp
          refine (HE.out _ rx ry).mono ?_
          rintro e w5 ⟨rfl, hb5⟩
          have hb5_ := hb5
          replace u0 := CellIs.below u0 hb5
          replace u1 := CellIs.below u1 hb5
          replace hr := hr.below hb5
          replace hG := grown_trans hG (grown_of_below hb5 (some g))
          clear hb5 rx ry
          (try go_wp2_with fail)
          refine hko hK ⟨u0, u1⟩ fun hHeld => ?_
          clear hK K
          refine wpAnyH_done (by kernel_rfl) ?_ _
          clear hHeld
          clear HE u0 u1
          go_wp2_with fail
          go_loopg [5, 7] (N - (K + 1)) (fun m k k2 wr => ∃ (W : World) (j C : Nat), W = wr ∧ K + 1 ≤ j ∧ j ≤ N ∧ m = N - j ∧ k = .int .i64 C ∧ k2 = .int .i64 ((j - K : Nat) : Int) ∧ (cpT l j).length = C ∧ K ≤ C ∧ C < j ∧ VRow W g ((cpT l j ++ l.drop C).flatMap pqC) 26 ∧ w.grownBy W (some g))
          case atStart =>
            refine ⟨_, K + 1, K, rfl, by omega, by omega, by omega, rfl, by rw [show K + 1 - K = 1 by omega]; rfl, ?_, by omega, by omega, ?_, hG⟩
            · rw [HSK.out, List.length_take, HN.out]; omega
            · rw [HSK.out, List.take_append_drop]; exact hr
          case round =>
            clear hr hG
            obtain ⟨wr, j, C, hW, hj1, hj, hm2, rfl, rfl, hC, hKC, hCj, hr, hG⟩ := hrel
            subst hW
            by_cases hlt2 : j < N
            · obtain ⟨J2, hJ2⟩ : ∃ J2, j - K = J2 := ⟨_, rfl⟩
              obtain ⟨J3, hJ3⟩ : ∃ J3, j - 1 = J3 := ⟨_, rfl⟩
              rw [hJ2]
              obtain ⟨⟨gx, kx, xs⟩, hx⟩ : ∃ x, l[j]? = some x := ⟨_, List.getElem?_eq_getElem (by rw [HN.out]; omega)⟩
              obtain ⟨⟨gy, ky, ys⟩, hy⟩ : ∃ y, l[J3]? = some y := ⟨_, List.getElem?_eq_getElem (by rw [HN.out]; omega)⟩
              have hxm := List.mem_of_getElem? hx
              have hym := List.mem_of_getElem? hy
              have u0 : CellIs wr g (K + J2) (pqV (gx, kx, xs)) := by
                rw [show K + J2 = j by omega]
                exact hr.cell _ _ (by rw [drop_at_pq l _ C j hC (by omega), hx]; rfl)
              have u1 : CellIs wr g (K + (J2 - 1)) (pqV (gy, ky, ys)) := by
                rw [show K + (J2 - 1) = J3 by omega]
                exact hr.cell _ _ (by rw [drop_at_pq l _ C J3 hC (by omega), hy]; rfl)
              have rx := (HA.out _ hxm).2.2.grown hG (HNE.out _ hxm)
              have ry := (HA.out _ hym).2.2.grown hG (HNE.out _ hym)
              have hvx := vAt_is hx
              have hvy := vAt_is hy
              rw [← hJ3] at hvy
              have HE := Lib.hid (fun W => HEQ.out gx kx gy ky xs ys W (by rw [HLn.out _ hxm]; exact hle) (by rw [HLn.out _ hym]; exact hle))
              dsimp only at rx ry hvx hvy
              obtain ⟨J4, hJ4⟩ : ∃ J4, J2 - 1 = J4 := ⟨_, rfl⟩
              rw [hJ4] at u1
              have wz : IntKind.i64.wrap ((J2 : Int) - 1) = (J4 : Int) := by rw [IntWalk.i64_in _ (by omega)]; omega
              have q0 : (0 : Int) ≤ (J2 : Int) := by omega
              have q1 : (J2 : Int) < ((N - K : Nat) : Int) := by omega
              have q2 : (0 : Int) ≤ (J4 : Int) := by omega
              have q3 : (J4 : Int) < ((N - K : Nat) : Int) := by omega
              have q4 : (0 : Int) ≤ (C : Int) := by omega
              have q5 : (C : Int) < (N : Int) := by omega
              obtain ⟨v0, u2⟩ : ∃ v0, CellIs wr g C v0 := by
                obtain ⟨x0, hx0⟩ : ∃ x, l[C]? = some x := ⟨_, List.getElem?_eq_getElem (by rw [HN.out]; omega)⟩
                have := drop_at_pq l (cpT l j) C C hC (Nat.le_refl _)
                rw [hx0] at this
                exact ⟨_, hr.cell _ _ this⟩
              have HX := Lib.hid hx
              have HVX := Lib.hid hvx
              have HVY := Lib.hid hvy
              have HCL := Lib.hid hC
              clear hx hy hvx hvy hxm hym hC
              by_cases hq2 : xs = ys
              · have he := HE.out
                simp only [decide_eq_true hq2] at he
                replace HE := Lib.hid he
                have hsk := cpT_skip (l := l) (j := j) (by omega) (by rw [HVX.out, HVY.out, hq2])
                have HS2 := Lib.hid hsk
                clear hsk he hq2
                go_wp2_with fail
                have hd_ : wr.drew.heap.size = wr.heap.size := rfl
                replace hr := hr.drew
                replace rx := rx.drew
                replace ry := ry.drew
                replace u2 := u2.drew
                replace u0 := CellIs.drew u0
                replace u1 := CellIs.drew u1
                replace hG := grown_drew hG
                refine wp_region_held_drew (S := fun w' => w'.cell? ⟨g, K + J2, none⟩ = some (pqV (gx, kx, xs)) ∧ w'.cell? ⟨g, K + J4, none⟩ = some (pqV (gy, ky, ys))) (by kernel_rfl) ⟨u0, u1⟩ (fun hHeld => ?_)
                clear hHeld
                generalize wr.drew = vd at *
                have hHeld : vd.cell? ⟨g, K + J2, none⟩ = some (pqV (gx, kx, xs)) ∧ vd.cell? ⟨g, K + J4, none⟩ = some (pqV (gy, ky, ys)) := ⟨u0, u1⟩
                refine tk 0 38 ?_
                refine tk 1 39 ?_
                refine tk 2 40 ?_
                refine tk 3 41 ?_
                refine tk 4 42 ?_
                refine tk 5 43 ?_
                refine tk 6 44 ?_
                refine tk 7 45 ?_
                refine tk 8 46 ?_
                refine tk 9 47 ?_
                refine rdk 10 48 fun K hK => ?_
                go_simp
                refine (HE.out _ rx ry).mono ?_
                rintro e w5 ⟨rfl, hb5⟩
                have hb5_ := hb5
                replace u0 := CellIs.below u0 hb5
                replace u1 := CellIs.below u1 hb5
                replace hr := hr.below hb5
                replace hG := grown_trans hG (grown_of_below hb5 (some g))
                clear hb5 rx ry
                replace u2 := CellIs.below u2 hb5_
                (try go_wp2_with fail)
                refine hko hK ⟨u0, u1⟩ fun hHeld => ?_
                clear hK K
                refine tk 11 49 ?_
                refine wpAnyH_done (by kernel_rfl) ?_ _
                clear hHeld
                go_wp2
                go_roundg (N - (j + 1))
                case measure => omega
                case rel => exact ⟨_, j + 1, C, rfl, by omega, by omega, rfl, rfl, by go_num, by rw [HS2.out]; exact HCL.out, by omega, by omega, by rw [HS2.out]; exact hr, hG⟩
              · have he := HE.out
                simp only [decide_eq_false hq2] at he
                replace HE := Lib.hid he
                have hkp := cpT_keep HX.out (fun h => hq2 (by rw [← HVX.out, ← HVY.out, h.2]))
                have HS2 := Lib.hid hkp
                clear hkp he hq2
                go_wp2_with fail
                have hd_ : wr.drew.heap.size = wr.heap.size := rfl
                replace hr := hr.drew
                replace rx := rx.drew
                replace ry := ry.drew
                replace u2 := u2.drew
                replace u0 := CellIs.drew u0
                replace u1 := CellIs.drew u1
                replace hG := grown_drew hG
                refine wp_region_held_drew (S := fun w' => w'.cell? ⟨g, K + J2, none⟩ = some (pqV (gx, kx, xs)) ∧ w'.cell? ⟨g, K + J4, none⟩ = some (pqV (gy, ky, ys))) (by kernel_rfl) ⟨u0, u1⟩ (fun hHeld => ?_)
                clear hHeld
                generalize wr.drew = vd at *
                have hHeld : vd.cell? ⟨g, K + J2, none⟩ = some (pqV (gx, kx, xs)) ∧ vd.cell? ⟨g, K + J4, none⟩ = some (pqV (gy, ky, ys)) := ⟨u0, u1⟩
                refine tk 0 38 ?_
                refine tk 1 39 ?_
                refine tk 2 40 ?_
                refine tk 3 41 ?_
                refine tk 4 42 ?_
                refine tk 5 43 ?_
                refine tk 6 44 ?_
                refine tk 7 45 ?_
                refine tk 8 46 ?_
                refine tk 9 47 ?_
                refine rdk 10 48 fun K hK => ?_
                go_simp
                refine (HE.out _ rx ry).mono ?_
                rintro e w5 ⟨rfl, hb5⟩
                have hb5_ := hb5
                replace u0 := CellIs.below u0 hb5
                replace u1 := CellIs.below u1 hb5
                replace hr := hr.below hb5
                replace hG := grown_trans hG (grown_of_below hb5 (some g))
                clear hb5 rx ry
                replace u2 := CellIs.below u2 hb5_
                (try go_wp2_with fail)
                refine hko hK ⟨u0, u1⟩ fun hHeld => ?_
                clear hK K
                refine tk 11 49 ?_
                refine wpAnyH_done (by kernel_rfl) ?_ _
                clear hHeld
                have f0 := hr.free C
                have c0 := u0
                have c2 := u2
                unfold CellIs at c0 c2
                go_wp2
                go_roundg (N - (j + 1))
                case measure => omega
                case rel =>
                  refine ⟨_, j + 1, C + 1, rfl, by omega, by omega, rfl, by go_num, by go_num, by rw [HS2.out, List.length_append, HCL.out]; rfl, by omega, by omega, ?_, grown_set (o := C) (v := pqV (gx, kx, xs)) hG⟩
                  have R6 := hr.set C (pqV (gx, kx, xs))
                  rw [HS2.out]
                  refine R6.wf ?_
                  rw [List.flatMap_append, List.set_append_right _ _ (by rw [pq_len, HCL.out]; exact Nat.le_refl _), pq_len, HCL.out, Nat.sub_self]
                  have hCl : C < l.length := by rw [HN.out]; omega
                  rw [List.drop_eq_getElem_cons hCl]
                  simp only [List.flatMap_append, List.flatMap_cons, List.flatMap_nil, pqC, List.cons_append, List.nil_append, List.set_cons_zero, List.append_assoc, List.append_nil]
            · obtain rfl : j = N := by omega
              have hr2 : VRow wr g ((cpT l j).flatMap pqC ++ (l.drop C).flatMap pqC) 26 := hr.wf List.flatMap_append
              have hlc : ((cpT l j).flatMap pqC).length = C := by rw [pq_len, hC]
              have hcl := fun ty => run_clear_pos wr ty g C (j - C) (cap - C) (by omega) (fun i hi4 => by
                have hlt : C + i < ((cpT l j ++ l.drop C).flatMap pqC).length := by rw [pq_len, List.length_append, hC, List.length_drop, HN.out]; omega
                rw [hr.cell _ _ (List.getElem?_eq_getElem hlt)]
                rfl) (fun i _ => hr.free _)
              have hfin := VRow.setCells (Builtin.zeroCells (.slice none 0 0 : Value).cells (j - C)).toList C wr (VRow.prefix hr2) (by rw [hlc]; exact Nat.le_refl _)
              have hgf := grown_setCells (Builtin.zeroCells (.slice none 0 0 : Value).cells (j - C)).toList C wr hG
              have q4 : (0 : Int) ≤ (C : Int) := by omega
              have q5 : (C : Int) ≤ (j : Int) := by omega
              have q6 : (C : Int) ≤ (cap : Int) := by omega
              have HFI := Lib.hid hfin
              have HGF := Lib.hid hgf
              have HCL := Lib.hid hC
              clear hfin hgf hr2 hr hC hlc hG
              go_wp2
              go_ret
              exact ⟨by rw [HCL.out]; rfl, HFI.out, HGF.out⟩
        · have he := HE.out
          simp only [decide_eq_false hq] at he
          replace HE := Lib.hid he
          have hkp : cpT l (K + 1) = l.take (K + 1) := by
            rw [cpT_keep HX.out (fun h => hq (by rw [← HVX.out, ← HVY.out, h.2])), HCP.out, List.take_add_one, HX.out]
            rfl
          have HKP := Lib.hid hkp
          clear hkp he hq
          go_wp2_with fail
          have hd_ : wr.drew.heap.size = wr.heap.size := rfl
          replace hr := hr.drew
          replace rx := rx.drew
          replace ry := ry.drew
          replace u0 := CellIs.drew u0
          replace u1 := CellIs.drew u1
          replace hG := grown_drew hG
          refine wp_region_held_drew (S := fun w' => w'.cell? ⟨g, K, none⟩ = some (pqV (gx, kx, xs)) ∧ w'.cell? ⟨g, J, none⟩ = some (pqV (gy, ky, ys))) (by kernel_rfl) ⟨u0, u1⟩ (fun hHeld => ?_)
          clear hHeld
          generalize wr.drew = vd at *
          have hHeld : vd.cell? ⟨g, K, none⟩ = some (pqV (gx, kx, xs)) ∧ vd.cell? ⟨g, J, none⟩ = some (pqV (gy, ky, ys)) := ⟨u0, u1⟩
          refine tk 0 18 ?_
          refine tk 1 19 ?_
          refine tk 2 20 ?_
          refine tk 3 21 ?_
          refine tk 4 22 ?_
          refine tk 5 23 ?_
          refine tk 6 24 ?_
          refine tk 7 25 ?_
          refine tk 8 26 ?_
          refine tk 9 27 ?_
          refine rdk 10 28 fun K hK => ?_
          go_simp
          refine (HE.out _ rx ry).mono ?_
          rintro e w5 ⟨rfl, hb5⟩
          have hb5_ := hb5
          replace u0 := CellIs.below u0 hb5
          replace u1 := CellIs.below u1 hb5
          replace hr := hr.below hb5
          replace hG := grown_trans hG (grown_of_below hb5 (some g))
          clear hb5 rx ry
          (try go_wp2_with fail)
          refine hko hK ⟨u0, u1⟩ fun hHeld => ?_
          clear hK K
          refine wpAnyH_done (by kernel_rfl) ?_ _
          clear hHeld
          clear HE u0 u1
          go_wp2
          go_roundg (N - (K + 1))
          case measure => omega
          case rel => exact ⟨_, K + 1, rfl, by omega, by omega, rfl, by go_num, hr, HKP.out, hG⟩
      · obtain rfl : K = N := by omega
        have e1 : cpT l K = l := by rw [hcp, ← HN.out, List.take_length]
        have HR := Lib.hid hr
        have E1 := Lib.hid e1
        have hlN := HN.out
        clear e1 hcp
        go_wp2
        go_ret
        exact ⟨by rw [E1.out, hlN]; rfl, by rw [E1.out]; exact HR.out, hG⟩
def RowsGot (base : Nat) (L : List (List Int)) (lo : Nat) (w : World) (e : Ending) (w' : World) : Prop :=
  ∃ g k l, e = .returned (.slice (some ⟨g, 0, none⟩) l.length k) ∧ base ≤ g ∧ QRow w' g l ∧ nmQ l = L ∧ QAll lo w'.heap.size w' l ∧ QDis l ∧ Below base w w'
set_option maxHeartbeats 1000000 in
theorem distinct_any (base lo n : Nat) (v : Value) (l : List PQ) (w : World) (hbase : base ≤ w.heap.size) (hle : n ≤ 1048576) (hl0 : 0 < l.length) (hl : l.length ≤ 1048576) (hO : OwnQ w base v l) (hA : QAll lo w.heap.size w l) (hD : QDis l) (hn : ∀ x ∈ l, x.2.2.length = n) :
    Calls Tryz.prog 109 #[v] w (RowsGot base (sdP (nmQ l)) lo w) := by
  obtain ⟨g, k, rfl⟩ := OwnQ.some hO hl0
  obtain ⟨hb0, hgl, hQ, -⟩ := hO.row
  have hcap : l.length ≤ k := by
    obtain ⟨_, ⟨h1, _⟩ | ⟨g', cap', cur, hv, hbg, hh, hc, _⟩⟩ := hO
    · cases h1
    · simp at hv
      obtain ⟨rfl, rfl⟩ := hv
      exact hc
  have hne : ∀ x ∈ l, x.1 ≠ g := fun x hx e => by
    obtain ⟨cur, hB, _⟩ := (hA x hx).2.2
    rw [e] at hB
    obtain ⟨cur2, hB2, _⟩ := hQ
    have : some (Obj.cells cur 2 (0, 0)) = some (Obj.cells cur2 26 (0, 0)) := hB.symm.trans hB2
    injection this with this
    injection this with _ h3
    exact absurd h3 (by decide)
  have HS := Lib.hid (sortPos_any base lo w.heap.size g k n l w hle hl0 hl hO hA hn)
  go_enter Tryz.func109, Tryz.ntmps109
  go_wp2_with fail
  refine HS.out.mono ?_
  rintro e w1 ⟨rfl, l1, hp, hs, hO1, hg1⟩
  have hll : l1.length = l.length := hp.length_eq
  have hm : ∀ x, x ∈ l1 ↔ x ∈ l := fun x => hp.mem_iff
  have hz1 := hg1.size
  have hA1 : QAll lo w1.heap.size w1 l1 := fun x hx => by
    have q := hA x ((hm x).1 hx)
    exact ⟨q.1, by have := q.2.1; omega, q.2.2.grown hg1 (hne x ((hm x).1 hx))⟩
  have hD1 : QDis l1 := (hp.pairwise_iff (R := fun x y : PQ => x.1 ≠ y.1) (fun h => fun e => h e.symm)).2 hD
  have hn1 : ∀ x ∈ l1, x.2.2.length = n := fun x hx => hn x ((hm x).1 hx)
  obtain ⟨-, -, hQ1, -⟩ := OwnQ.row (l := l1) (g := g) (n := l.length) (k := k) hO1
  have hcp := compactPos_any lo w1.heap.size g k n l1 w1 hle (by omega) (by omega) (by omega) hQ1 hA1 hn1 (fun x hx => hne x ((hm x).1 hx))
  obtain ⟨f1, f2⟩ := cpT_facts hn1 hs l1.length (Nat.le_refl _)
  have hsub := cpT_sub l1 l1.length
  rw [List.take_length] at f2 hsub
  have hsd : nmQ (cpT l1 l1.length) = sdP (nmQ l) := by
    refine sdP_is (n := n) (fun x hx => ?_) f1 (fun z => (f2 z).trans ?_)
    · obtain ⟨y, hy, rfl⟩ := List.mem_map.1 hx
      exact hn y hy
    · rw [List.mem_map, List.mem_map]
      exact ⟨fun ⟨y, h1, h2⟩ => ⟨y, (hm y).1 h1, h2⟩, fun ⟨y, h1, h2⟩ => ⟨y, (hm y).2 h1, h2⟩⟩
  rw [hll] at hcp hsd hsub
  have HC := Lib.hid hcp
  have HSD := Lib.hid hsd
  have HSB := Lib.hid hsub
  clear hcp hsd hsub f1 f2 HS hs hO1 hQ1
  go_wp2_with fail
  refine HC.out.mono ?_
  rintro e w2 ⟨rfl, hQ2, hg2⟩
  have hz2 := hg2.size
  have hrow : ∀ x ∈ l1, Row w2 x.1 x.2.2 := fun x hx => (hA1 x hx).2.2.grown hg2 (hne x ((hm x).1 hx))
  have hb : Below base w w2 := by
    refine ((Below.refl base w).grown hg1 hbase (fun q hq => ?_)).grown hg2 (by omega) (fun q hq => ?_)
    · simp at hq; omega
    · simp at hq; omega
  go_wp2
  go_ret
  exact ⟨g, k, cpT l1 l.length, rfl, hb0, hQ2, HSD.out, fun x hx => ⟨(hA1 x (HSB.out.subset hx)).1, by have := (hA1 x (HSB.out.subset hx)).2.1; omega, hrow x (HSB.out.subset hx)⟩, List.Pairwise.sublist HSB.out hD1, hb⟩
def PO (n : Nat) (q : List Int) : Prop := NN q ∧ q.length = n ∧ q.sum ≤ 15
theorem PO.all {n : Nat} {q : List Int} (h : PO n q) : ∀ x ∈ q, 0 ≤ x ∧ x ≤ 15 := fun x hx => by
  obtain ⟨j, hj, rfl⟩ := List.mem_iff_getElem.1 hx
  have := sum_ge h.1 j
  rw [List.getD_eq_getElem?_getD, List.getElem?_eq_getElem hj] at this
  have h2 := h.2.2
  exact ⟨h.1 _ hx, by simp at this; omega⟩
theorem PO.step {n : Nat} {q z : List Int} {d : Int} (h : PO n q) (hd : 1 ≤ d) (hz : z ∈ adL q d) : PO n z := by
  by_cases e : q.sum = 0
  · rw [adL_zero h.1 e, List.mem_singleton] at hz
    subst hz
    exact h
  · have hs := (adL_mem h.1 e z).1 hz
    have f := steps_facts h.1 hd hs
    obtain ⟨i, h1, h2, h3, rfl⟩ := (steps_mem h.1).1 hs
    refine ⟨f.1, f.2.1.trans h.2.1, ?_⟩
    rw [asL_sum h1 hd]
    have := h.2.2
    split <;> omega
theorem adL_len {p : List Int} {d : Int} {n : Nat} (h1 : 1 ≤ n) (hn : p.length = n) : (adL p d).length ≤ n := by
  have := adK_len p d p.length
  unfold adL
  split
  · simpa using h1
  · omega
theorem adL_ne {p : List Int} {d : Int} (h : NN p) : adL p d ≠ [] := fun e => by
  obtain ⟨q, hq⟩ := adL_some (d := d) h
  rw [e] at hq
  simp at hq
theorem putP_le : ∀ (l : List (List Int)) (p : List Int), (putP l p).length ≤ l.length + 1
  | [], p => by simp [putP]
  | x :: l, p => by
    have := putP_le l p
    rw [putP]
    split
    · simp only [List.length_cons]; omega
    · split <;> simp only [List.length_cons] <;> omega
theorem putAll_le : ∀ (m l : List (List Int)), (putAll l m).length ≤ l.length + m.length
  | [], l => by simp [putAll]
  | p :: m, l => by
    have h1 := putAll_le m (putP l p)
    have h2 := putP_le l p
    show (putAll (putP l p) m).length ≤ _
    simp only [List.length_cons]
    omega
theorem sdP_le (l : List (List Int)) : (sdP l).length ≤ l.length := by
  have := putAll_le l []
  simpa [sdP] using this
theorem sdP_ne {l : List (List Int)} {n : Nat} (h : ∀ x ∈ l, x.length = n) (hl : l ≠ []) : sdP l ≠ [] := fun e => by
  obtain ⟨x, l', rfl⟩ := List.exists_cons_of_ne_nil hl
  have := ((sdP_facts h).2.2 x).2 (by simp)
  rw [e] at this
  simp at this
abbrev IQ := Option Addr × Nat × List Int
abbrev iqV (x : IQ) : Value := .slice x.1 x.2.2.length x.2.1
abbrev toI (x : PQ) : IQ := (some ⟨x.1, 0, none⟩, x.2.1, x.2.2)
theorem toI_row (l : List PQ) : (l.map toI).map iqV = l.flatMap pqC := by
  rw [mapPQ, List.map_map]
  rfl
set_option maxHeartbeats 2000000 in
theorem afterOrder_any (a b : Option Addr) (n m cap kb : Nat) (xs ds : List Int) (w : World) (hn : xs.length = n) (h1 : 1 ≤ n) (hle : n ≤ 24) (hP : PO n xs) (hm : ds.length = m) (hm1 : 1 ≤ m) (hm4 : m ≤ 4) (hd : ∀ d ∈ ds, 1 ≤ d ∧ d ≤ 6) (hr : IRow w a xs) (hrd : IRow w b ds) :
    Calls Tryz.prog 108 #[.slice a n cap, .slice b m kb] w (RowsGot w.heap.size (aoL xs ds) w.heap.size w) := by
  subst hn
  have HM := Lib.hid hm
  have HD := Lib.hid hd
  have HP := Lib.hid hP
  have hAD := fun (ax : Option Addr) (kx : Nat) (ys : List Int) (d : Int) (W : World) (q : PO xs.length ys) (hd : 1 ≤ d ∧ d ≤ 6) (r : IRow W ax ys) => afterDie_any ax ys.length kx d ys W rfl (by rw [q.2.1]; exact h1) (by rw [q.2.1]; exact hle) hd q.all r
  have HAD := Lib.hid hAD
  clear hm hd hP hAD
  go_enter Tryz.func108, Tryz.ntmps108
  go_wp2_with fail
  have B0 := Blk.new w #[.slice a xs.length cap] 26
  have hb0 : Below w.heap.size w (w.alloc (.cells #[.slice a xs.length cap] 26)) := (Below.refl _ _).alloc (Nat.le_refl _) _
  generalize w.alloc (.cells #[.slice a xs.length cap] 26) = v0 at *
  go_loopg [5, 15] m (fun mm lv iv wr => ∃ (W : World) (i gL kL : Nat) (L : List IQ), W = wr ∧ i ≤ m ∧ mm = m - i ∧ iv = .int .i64 i ∧ lv = .slice (some ⟨gL, 0, none⟩) L.length kL ∧ VRow W gL (L.map iqV) 26 ∧ (∀ x ∈ L, IRow W x.1 x.2.2 ∧ PO xs.length x.2.2) ∧ (L.map fun x => x.2.2) = (ds.take i).foldl aoS [xs] ∧ L.length ≤ 24 ^ i ∧ 0 < L.length ∧ Below w.heap.size w W ∧ w.heap.size ≤ gL ∧ (0 < i → ∃ l : List PQ, L = l.map toI ∧ QAll w.heap.size W.heap.size W l ∧ QDis l))
  case atStart =>
    refine ⟨v0, 0, w.heap.size, 1, [(a, cap, xs)], rfl, by omega, by omega, by go_num, rfl, ⟨_, B0, by simp, rfl⟩, fun x hx => ?_, rfl, by simp, by simp, hb0, Nat.le_refl _, fun q => by omega⟩
    simp at hx
    subst hx
    exact ⟨hr.below hb0, HP.out⟩
  case round =>
    clear B0 hb0
    obtain ⟨wr, i, gL, kL, L, hW, hi, hmm, rfl, rfl, hL, hLs, hLv, hL24, hL0, hb, hgL, hl⟩ := hrel
    subst hW
    by_cases hlt : i < m
    · have hlt' : (i : Int) < (m : Int) := by omega
      have hi0 : (0 : Int) ≤ (i : Int) := by omega
      obtain ⟨b2, o2, rfl, hc⟩ := (hrd.below hb) i (by rw [HM.out]; exact hlt)
      have hdm := HD.out _ (getD_mem (xs := ds) (k := i) (by rw [HM.out]; exact hlt))
      have htk : ds.take (i + 1) = ds.take i ++ [ds.getD i 0] := take_snoc_int ds i (by rw [HM.out]; exact hlt)
      obtain ⟨d, hde⟩ : ∃ d, ds.getD i 0 = d := ⟨_, rfl⟩
      rw [hde] at hc hdm htk
      have hnext : (ds.take (i + 1)).foldl aoS [xs] = aoS (L.map fun x => x.2.2) d := by rw [htk, List.foldl_append, ← hLv]; rfl
      have hpow : 24 ^ i * 24 = 24 ^ (i + 1) := (Nat.pow_succ 24 i).symm
      have hpw : 24 ^ (i + 1) ≤ 331776 := Nat.pow_le_pow_right (by decide : 1 ≤ 24) (by omega : i + 1 ≤ 4)
      obtain ⟨P, hP⟩ : ∃ P, 24 ^ (i + 1) = P := ⟨_, rfl⟩
      obtain ⟨P0, hP0⟩ : ∃ P, 24 ^ i = P := ⟨_, rfl⟩
      rw [hP] at hpow hpw
      rw [hP0] at hpow hL24
      obtain ⟨N, hN⟩ : ∃ N, L.length = N := ⟨_, rfl⟩
      rw [hN] at hL24 hL0 ⊢
      have d0 := hdm.1
      have d1 := hdm.2
      have n0 : (N : Int) ≤ 331776 := by omega
      have HNX := Lib.hid hnext
      have HN := Lib.hid hN
      have HLS := Lib.hid hLs
      have HPW := Lib.hid hP
      have hBl := hL.lt
      clear hde htk hnext hLv hl hN hLs hdm hP hP0
      go_wp2_with fail
      go_loopg [8, 21] N (fun m2 lg jv wr2 => ∃ (W2 : World) (j : Nat) (l : List PQ), W2 = wr2 ∧ j ≤ N ∧ m2 = N - j ∧ jv = .int .i64 j ∧ OwnQ W2 wr.heap.size lg l ∧ nmQ l = ((L.take j).map fun x => x.2.2).flatMap (fun q => adL q d) ∧ l.length ≤ j * 24 ∧ (0 < j → 0 < l.length) ∧ QAll wr.heap.size W2.heap.size W2 l ∧ QDis l ∧ Below wr.heap.size wr W2)
      case atStart => exact ⟨wr, 0, [], rfl, by omega, by omega, by go_num, OwnE.nil _ _, rfl, by simp, fun q => by omega, QAll.nil _ _ _, QDis.nil, Below.refl _ _⟩
      case round =>
        obtain ⟨w2, j, l, hW2, hj, hm2, rfl, hO, hnm, hl24, hl0, hA, hDs, hb2⟩ := hrel
        subst hW2
        obtain ⟨aV, kV, rfl⟩ := hO.form
        by_cases hlt2 : j < N
        · have hlt2' : (j : Int) < (N : Int) := by omega
          have hj0 : (0 : Int) ≤ (j : Int) := by omega
          obtain ⟨⟨ax, kx, ys⟩, hx⟩ : ∃ x, L[j]? = some x := ⟨_, List.getElem?_eq_getElem (by rw [HN.out]; exact hlt2)⟩
          have hxm := List.mem_of_getElem? hx
          have hcx : w2.cell? ⟨gL, j, none⟩ = some (iqV (ax, kx, ys)) := (hL.below hb2).cell j _ (by rw [List.getElem?_map, hx]; rfl)
          obtain ⟨hrx, hpx⟩ := HLS.out _ hxm
          dsimp only at hrx hpx
          have hn2 : nmQ l ++ adL ys d = ((L.take (j + 1)).map fun x => x.2.2).flatMap (fun q => adL q d) := by
            rw [hnm, List.take_add_one, hx]
            simp
          have hal := adL_len (d := d) h1 hpx.2.1
          have hane := adL_ne (d := d) hpx.1
          have HC := Lib.hid (HAD.out ax kx ys d w2 hpx ⟨d0, d1⟩ (hrx.below hb2))
          have HN2 := Lib.hid hn2
          have hz2 := hb2.size
          clear hx hxm hrx hpx hn2 hnm
          go_wp2_with (first | (go_at_call 148; refine HC.out.mono ?_; rintro e w3 ⟨v3, l3, rfl, hO3, hnm3, hA3, hD3, hb3⟩; obtain ⟨g3, k3, rfl⟩ := OwnQ.some hO3 (List.length_pos_iff.2 (fun e => hane (by rw [← hnm3, e]; rfl))); obtain ⟨-, -, hQ3, -⟩ := OwnQ.row hO3; have hl3b : l3.length ≤ 24 := (by have := nm_len hnm3; omega); have hz3 := hb3.size; have hOb := hO.below hb3; have hAb := hA.below hb3) | (at_builtin; go_loud (refine wp_pushQs rfl (.tmp 25) (.tmp 28) rfl wr.heap.size _ l rfl hOb ⟨g3, 0, none⟩ l3.length k3 l3 rfl rfl (fun q y hy => hQ3.newsT l3.length q y (by rw [List.take_length]; exact hy)) (by omega) (by omega) ?_; intro v4 w4 hO4 hb4 hk4 hkk)))
          go_roundg (N - (j + 1))
          case measure => omega
          case rel =>
            have hz4 := hb4.size
            refine ⟨w4, j + 1, l ++ l3, rfl, by omega, rfl, by go_num, hO4, ?_, by rw [List.length_append]; omega, fun _ => by rw [List.length_append]; have : 0 < l3.length := List.length_pos_iff.2 (fun e => hane (by rw [← hnm3, e]; rfl)); omega, ((hAb.keepT hk4 (by omega)).mono (Nat.le_refl _) (Nat.le_refl _)).app ((hA3.keepT hk4 (by omega)).mono (by omega) (Nat.le_refl _)), hDs.app hD3 hA hA3 (Nat.le_refl _), (hb2.trans (hb3.mono (by omega))).trans hb4⟩
            rw [← HN2.out, ← hnm3]
            show List.map _ (l ++ l3) = _
            rw [List.map_append]
        · obtain rfl : j = N := by omega
          have hlp := hl0 (by omega)
          have hlen : ∀ x ∈ l, x.2.2.length = xs.length := fun x hx => by
            have hq : x.2.2 ∈ nmQ l := List.mem_map.2 ⟨x, hx, rfl⟩
            rw [hnm] at hq
            obtain ⟨q, h5, h6⟩ := List.mem_flatMap.1 hq
            obtain ⟨y, h7, rfl⟩ := List.mem_map.1 h5
            exact ((HLS.out y (List.mem_of_mem_take h7)).2.step d0 h6).2.1
          have hPO : ∀ z ∈ nmQ l, PO xs.length z := fun z hz => by
            rw [hnm] at hz
            obtain ⟨q, h5, h6⟩ := List.mem_flatMap.1 hz
            obtain ⟨y, h7, rfl⟩ := List.mem_map.1 h5
            exact (HLS.out y (List.mem_of_mem_take h7)).2.step d0 h6
          have hao : aoS (L.map fun x => x.2.2) d = sdP (nmQ l) := by
            rw [hnm, ← HN.out, List.take_length]
            rfl
          have hnl : ∀ z ∈ nmQ l, z.length = xs.length := fun z hz => (hPO z hz).2.1
          have hsf := sdP_facts hnl
          have hsl := sdP_le (nmQ l)
          have hsn := sdP_ne hnl (fun e => by have := congrArg List.length e; rw [List.length_map, List.length_nil] at this; omega)
          rw [List.length_map] at hsl
          have HC := Lib.hid (distinct_any wr.heap.size wr.heap.size xs.length _ l w2 hb2.size (by omega) hlp (by omega) hO hA hDs hlen)
          have HAO := Lib.hid hao
          have HPO := Lib.hid hPO
          have HSF := Lib.hid hsf
          have hz2 := hb2.size
          have hzw := hb.size
          clear hao hPO hsf hlen hnl hnm hA hDs
          go_wp2_with (go_at_call 109; refine HC.out.mono ?_; rintro e w3 ⟨g3, k3, l3, rfl, hg3, hQ3, hnm3, hA3, hD3, hb3⟩)
          go_roundg (m - (i + 1))
          case measure => omega
          case rel =>
            have hl3 := nm_len hnm3
            have hz3 := hb3.size
            refine ⟨w3, i + 1, g3, k3, l3.map toI, rfl, by omega, rfl, by go_num, by rw [List.length_map], ?_, fun x hx => ?_, ?_, ?_, ?_, hb.trans ((hb2.trans hb3).mono (by omega)), by omega, fun _ => ⟨l3, rfl, hA3.mono (by omega) (Nat.le_refl _), hD3⟩⟩
            · rw [toI_row]; exact hQ3
            · obtain ⟨y, hy, rfl⟩ := List.mem_map.1 hx
              refine ⟨(hA3 y hy).2.2.irow, HPO.out _ ((HSF.out.2.2 _).1 ?_)⟩
              rw [← hnm3]
              exact List.mem_map.2 ⟨y, hy, rfl⟩
            · rw [HNX.out, HAO.out, ← hnm3, List.map_map]
              rfl
            · rw [List.length_map, hl3, HPW.out]; omega
            · rw [List.length_map, hl3]; exact List.length_pos_iff.2 hsn
    · obtain rfl : i = m := by omega
      obtain ⟨l, rfl, hA, hDs⟩ := hl (by omega)
      have hfin : nmQ l = aoL xs ds := by
        have : (l.map toI).map (fun x => x.2.2) = nmQ l := by rw [List.map_map]; rfl
        rw [← this, hLv, ← HM.out, List.take_length]
        rfl
      have HF := Lib.hid hfin
      rw [toI_row] at hL
      rw [List.length_map]
      clear hfin hLv
      go_wp2
      go_ret
      exact ⟨gL, kL, l, rfl, hgL, hL, HF.out, hA, hDs, hb⟩
def ordersP (ra rb : Int) : List (List Int) := if ra = rb then [[ra, ra, ra, ra]] else [[ra, rb], [rb, ra]]
def OrdersGot (os : List (List Int)) (w : World) (e : Ending) (w' : World) : Prop :=
  ∃ g, e = .returned (.slice (some ⟨g, 0, none⟩) os.length os.length) ∧ (∀ j o, os[j]? = some o → ∃ gj, w'.cell? ⟨g, j, none⟩ = some (.slice (some ⟨gj, 0, none⟩) o.length o.length) ∧ Row w' gj o) ∧ Below w.heap.size w w'
theorem Row.of_blk {w : World} {g : Nat} {vs : Array Value} {xs : List Int} (h : Blk w g vs 2) (e : vs.toList = ints xs) : Row w g xs := by
  have hl : vs.size = xs.length := by rw [← Array.length_toList, e]; simp [ints]
  exact ⟨vs, h, by omega, by rw [e]; exact List.take_of_length_le (by simp [ints])⟩
set_option maxHeartbeats 1000000 in
theorem implOrders_any (ra rb : Int) (w : World) :
    Calls Tryz.prog 107 #[.agg #[.int .i64 ra, .int .i64 rb]] w (OrdersGot (ordersP ra rb) w) := by
  have hd := fun W => isDouble_any ra rb W
  by_cases e : ra = rb
  · rw [decide_eq_true e] at hd
    subst e
    have e1 : ordersP ra ra = [[ra, ra, ra, ra]] := by simp [ordersP]
    rw [e1]
    clear e1
    have HD := Lib.hid hd
    clear hd
    have BR := Blk.new w #[.int .i64 ra, .int .i64 ra] 39
    have hb : Below w.heap.size w (w.alloc (.cells #[.int .i64 ra, .int .i64 ra] 39)) := (Below.refl _ _).alloc (Nat.le_refl _) _
    obtain ⟨x0, x1, xf, xl⟩ := BR.two
    go_enter Tryz.func107, Tryz.ntmps107
    go_wp2_with fail
    clear x0 x1 xf xl
    refine (HD.out _).mono ?_
    rintro e w1 ⟨rfl, hb1⟩
    obtain ⟨x0, x1, xf, xl⟩ := (BR.below hb1).two
    replace hb := chain hb hb1
    clear hb1 BR HD
    go_wp2
    refine bodyPost_ret (v := .slice (some ⟨w1.heap.size + 1, 0, none⟩) 1 1) (by simp [results, Tryz.results107, go_sem]) rfl ?_
    have B1 := Blk.new w1 #[.int .i64 ra, .int .i64 ra, .int .i64 ra, .int .i64 ra] 2
    have B2 := Blk.new (w1.alloc (.cells #[.int .i64 ra, .int .i64 ra, .int .i64 ra, .int .i64 ra] 2)) #[.slice (some ⟨w1.heap.size, 0, none⟩) 4 4] 26
    rw [World.size_alloc] at B2
    refine ⟨_, rfl, fun j o hj => ?_, (hb.alloc hb.size _).alloc (Nat.le_trans hb.size (by simp)) _⟩
    cases j with
    | zero =>
      simp at hj
      subst hj
      exact ⟨w1.heap.size, by first | (simp; done) | simpa using B2.cell 0, Row.of_blk (B1.alloc _) rfl⟩
    | succ j => simp at hj
  · rw [decide_eq_false e] at hd
    have e1 : ordersP ra rb = [[ra, rb], [rb, ra]] := by simp [ordersP, e]
    rw [e1]
    clear e1 e
    have HD := Lib.hid hd
    clear hd
    have BR := Blk.new w #[.int .i64 ra, .int .i64 rb] 39
    have hb : Below w.heap.size w (w.alloc (.cells #[.int .i64 ra, .int .i64 rb] 39)) := (Below.refl _ _).alloc (Nat.le_refl _) _
    obtain ⟨x0, x1, xf, xl⟩ := BR.two
    go_enter Tryz.func107, Tryz.ntmps107
    go_wp2_with fail
    clear x0 x1 xf xl
    refine (HD.out _).mono ?_
    rintro e w1 ⟨rfl, hb1⟩
    obtain ⟨x0, x1, xf, xl⟩ := (BR.below hb1).two
    replace hb := chain hb hb1
    clear hb1 BR HD
    go_wp2
    refine bodyPost_ret (v := .slice (some ⟨w1.heap.size + 1 + 1, 0, none⟩) 2 2) (by simp [results, Tryz.results107, go_sem]) rfl ?_
    have B1 := Blk.new w1 #[.int .i64 ra, .int .i64 rb] 2
    have B2 := Blk.new (w1.alloc (.cells #[.int .i64 ra, .int .i64 rb] 2)) #[.int .i64 rb, .int .i64 ra] 2
    have B3 := Blk.new ((w1.alloc (.cells #[.int .i64 ra, .int .i64 rb] 2)).alloc (.cells #[.int .i64 rb, .int .i64 ra] 2)) #[.slice (some ⟨w1.heap.size, 0, none⟩) 2 2, .slice (some ⟨w1.heap.size + 1, 0, none⟩) 2 2] 26
    rw [World.size_alloc, World.size_alloc] at B3
    rw [World.size_alloc] at B2
    refine ⟨_, rfl, fun j o hj => ?_, ((hb.alloc hb.size _).alloc (Nat.le_trans hb.size (by simp)) _).alloc (Nat.le_trans hb.size (by simp; omega)) _⟩
    rcases (by omega : j = 0 ∨ j = 1 ∨ 2 ≤ j) with rfl | rfl | h2
    · simp at hj
      subst hj
      exact ⟨w1.heap.size, by simpa using B3.cell 0, Row.of_blk ((B1.alloc _).alloc _) rfl⟩
    · simp at hj
      subst hj
      exact ⟨w1.heap.size + 1, by simpa using B3.cell 1, Row.of_blk (B2.alloc _) rfl⟩
    · obtain ⟨j, rfl⟩ := Nat.exists_eq_add_of_le h2
      rw [Nat.add_comm] at hj
      simp at hj
theorem hasDie_any (p c h s d : Int) (w : World) :
    Calls Tryz.prog 145 #[.agg #[.int .i64 p, .int .i64 c, .int .i64 h, .int .i64 s], .int .i64 d] w fun e w' => e = .returned (.bool (inB d 1 s)) ∧ Below w.heap.size w w' := by
  have hb : Below w.heap.size w (w.alloc (.cells #[.int .i64 p, .int .i64 c, .int .i64 h, .int .i64 s] 25)) := (Below.refl _ _).alloc (Nat.le_refl _) _
  unfold inB
  rw [Bool.decide_and]
  by_cases g1 : 1 ≤ d
  · rw [decide_eq_true g1, Bool.true_and]
    go_enter Tryz.func145, Tryz.ntmps145
    go_wp2
    go_ret
    exact ⟨by first | rfl | (simp; done), hb⟩
  · rw [decide_eq_false g1, Bool.false_and]
    go_enter Tryz.func145, Tryz.ntmps145
    go_wp2
    go_ret
    exact ⟨by first | rfl | (simp; done), hb⟩
end Go.Proofs.YtlnljfbdicgkcaaGreat
