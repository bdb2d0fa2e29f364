/- Contract of the library's sorting of a list of positions. -/
import Derived.Test.Ytpalokkcmpjcmaa10s
import Derived.Test.YtpalokkcmpjcmaaShelf
namespace Go.Proofs.Ytpalokkcmpjcmaa
open Go.ChangeShapes Go.WideShapes Go.ChangeAt Go.RowKit
set_option linter.unusedVariables false
set_option linter.unusedSimpArgs false
set_option maxRecDepth 4000

theorem grownBy_sortW {α : Type} [Inhabited α] (enc : α → Value) {w : World} {g m : Nat} {os : Array Obj} (d : Array α) : w.grownBy (sortWorld enc w g 0 m d os) (some g) := by
  refine ⟨rfl, rfl, rfl, by simp [sortWorld], fun k hk hne => ?_⟩
  unfold sortWorld
  rw [Go.Sort.heap_grow_old _ _ (by simpa using hk)]
  have : g ≠ k := fun e => hne (by rw [e])
  simp [Go.Sort.putRow, Go.Sort.mapBlock, Go.Sort.ahead, Array.getElem?_modify, this]
theorem heap_sortW {α : Type} [Inhabited α] (enc : α → Value) {w : World} {g m : Nat} {os : Array Obj} {cur : Array Value} {e : TypeId} {fr : Nat × Nat} (d : Array α) (hb : w.heap[g]? = some (.cells cur e fr)) :
    (sortWorld enc w g 0 m d os).heap[g]? = some (.cells (Go.Sort.putCells enc 0 d cur) e fr) := by
  have hg : g < w.heap.size := (Array.getElem?_eq_some_iff.1 hb).1
  unfold sortWorld
  rw [Go.Sort.heap_grow_old _ _ (by simpa using hg)]
  simp [Go.Sort.putRow, Go.Sort.mapBlock, Go.Sort.ahead, Array.getElem?_modify, hb, Go.Sort.onCells]
theorem take_putC {α : Type} [Inhabited α] (enc : α → Value) (cur : Array Value) (ts : Array α) (h : ts.size ≤ cur.size) : (Go.Sort.putCells enc 0 ts cur).toList.take ts.size = ts.toList.map enc := by
  apply List.ext_getElem?
  intro j
  by_cases hj : j < ts.size
  · rw [List.getElem?_take_of_lt hj, Array.getElem?_toList]
    simp [Go.Sort.putCells, hj, show j < cur.size by omega]
  · rw [List.getElem?_take_eq_none (by omega), List.getElem?_eq_none (by simp; omega)]
/-- A position of one length, in a block of its own. -/
abbrev PA (w : World) (g n : Nat) := { x : PQ // Row w x.1 x.2.2 ∧ x.2.2.length = n ∧ x.1 ≠ g }
theorem mapPQ (l : List PQ) : l.flatMap pqC = l.map pqV := by
  induction l with
  | nil => rfl
  | cons x l ih => simp [pqC, ih]
theorem cmpLaysP (w : World) (g n size : Nat) (hle : n ≤ 1048576) [Inhabited (PA w g n)] : CmpLays1 Try.prog 63 #[] (fun x : PA w g n => pqV x.1) (fun x y => cmpP x.1.2.2 y.1.2.2) g 0 size w := by
  intro m os dk _ x y
  obtain ⟨W, hW⟩ : ∃ W, sortWorld (fun x : PA w g n => pqV x.1) w g 0 m dk os = W := ⟨_, rfl⟩
  have hg : w.grownBy W (some g) := by rw [← hW]; exact grownBy_sortW _ _
  rw [hW]
  obtain ⟨⟨gx, kx, xs⟩, rx, hx, nx⟩ := x
  obtain ⟨⟨gy, ky, ys⟩, ry, hy, ny⟩ := y
  dsimp only at rx hx nx ry hy ny
  have hr : ∀ {gz : Nat} {zs : List Int}, Row w gz zs → gz ≠ g → ∀ k, IRow (W.drewN k) (some ⟨gz, 0, none⟩) zs := fun r ne k => ((r.grown hg ne).below (below_drewN (Below.refl _ _) k)).irow
  have h := comparePositions_any (some ⟨gx, 0, none⟩) (some ⟨gy, 0, none⟩) n kx ky xs ys W hx hy hle (hr rx nx) (hr ry ny)
  have e1 : (#[pqV (gx, kx, xs), pqV (gy, ky, ys)] ++ #[] : Array Value) = #[.slice (some ⟨gx, 0, none⟩) n kx, .slice (some ⟨gy, 0, none⟩) n ky] := by
    simp only [Array.append_empty, pqV, hx, hy]
  show Calls Try.prog 63 (#[pqV (gx, kx, xs), pqV (gy, ky, ys)] ++ #[]) W _
  rw [e1]
  exact h.mono fun _ _ ⟨he, q, hq⟩ => ⟨he, q, #[], by rw [hq, Go.Sort.grow_empty]⟩
set_option maxHeartbeats 1000000 in
theorem sortPos_any (base lo hi g cap n : Nat) (l : List PQ) (w : World) (hle : n ≤ 1048576) (hl0 : 0 < l.length) (hl : l.length ≤ 1048576) (hO : OwnQ w base (.slice (some ⟨g, 0, none⟩) l.length cap) l) (hA : QAll lo hi w l) (hn : ∀ x ∈ l, x.2.2.length = n) :
    Calls Try.prog 62 #[.slice (some ⟨g, 0, none⟩) l.length cap, .func (.func 63) #[] #[]] w fun e w' => e = .returned (.tuple #[]) ∧ ∃ l', l'.Perm l ∧ (nmQ l').Pairwise (fun a b => ltP b a = false) ∧ OwnQ w' base (.slice (some ⟨g, 0, none⟩) l.length cap) l' ∧ w.grownBy w' (some g) := by
  obtain ⟨hb0, hgl, hQ, -⟩ := hO.row
  have hne : ∀ x ∈ l, x.1 ≠ g := fun x hx e => by
    obtain ⟨cur, hB, _⟩ := (hA x hx).2.2
    rw [e] at hB
    obtain ⟨cur2, hB2, _⟩ := hQ
    have : some (Obj.cells cur 2 (0, 0)) = some (Obj.cells cur2 26 (0, 0)) := hB.symm.trans hB2
    injection this with this
    injection this with _ h3
    exact absurd h3 (by decide)
  have hP : ∀ x ∈ l, Row w x.1 x.2.2 ∧ x.2.2.length = n ∧ x.1 ≠ g := fun x hx => ⟨(hA x hx).2.2, hn x hx, hne x hx⟩
  obtain ⟨L, hL⟩ : ∃ L : List (PA w g n), L.map (fun x => x.1) = l := ⟨l.attach.map fun x => ⟨x.1, hP x.1 x.2⟩, by
    rw [List.map_map]
    exact List.attach_map_subtype_val l⟩
  have hLl : L.length = l.length := by rw [← hL, List.length_map]
  haveI : Inhabited (PA w g n) := ⟨L[0]'(by omega)⟩
  have hlt : ∀ x y : PA w g n, ltOf (fun x y : PA w g n => cmpP x.1.2.2 y.1.2.2) x y = ltP x.1.2.2 y.1.2.2 := fun x y => rfl
  have hSWO : Go.Sort.SWO (ltOf fun x y : PA w g n => cmpP x.1.2.2 y.1.2.2) :=
    ⟨fun x => by rw [hlt]; exact ltP_irr _, fun x y z h1 h2 => by rw [hlt] at *; exact ltP_trans (by rw [x.2.2.1, y.2.2.1]) (by rw [y.2.2.1, z.2.2.1]) h1 h2, fun x y z h1 h2 => by rw [hlt] at *; exact ltP_ntrans (by rw [x.2.2.1, y.2.2.1]) (by rw [y.2.2.1, z.2.2.1]) h1 h2⟩
  have eg : ∀ args w2, (callFunc 63 args).run Try.prog w2 = .ok (.enter 63 args) w2 := fun args w2 => by kernel_rfl
  have hH : Go.Sort.Holds (fun x : PA w g n => pqV x.1) w g 0 L.toArray := by
    intro j hj
    have hj' : j < L.length := by simpa using hj
    refine ⟨?_, hQ.free _⟩
    rw [Nat.zero_add]
    have e : l[j]? = some (L[j]'hj').1 := by
      have e0 : (L.map (fun x => x.1))[j]? = some (L[j]'hj').1 := by rw [List.getElem?_map, List.getElem?_eq_getElem hj']; rfl
      exact (congrArg (fun z => z[j]?) hL).symm.trans e0
    rw [hQ.at j _ e]
    simp [hj']
  have hcon := Try.slices_SortFunc (fun x : PA w g n => pqV x.1) (fun _ => rfl) (fun x y => cmpP x.1.2.2 y.1.2.2) hSWO 63 #[] g 0 cap L.toArray w eg (cmpLaysP w g n _ hle) hH hgl (by simp; omega)
  have es : L.toArray.size = l.length := by simpa using hLl
  rw [es] at hcon
  refine hcon.mono ?_
  rintro e w' ⟨rfl, d', m, os, hp, hs, rfl⟩
  obtain ⟨hsz, _, hperm⟩ := hp
  rw [es] at hsz
  refine ⟨rfl, d'.toList.map (fun x => x.1), ?_, ?_, ?_, grownBy_sortW _ _⟩
  · have e1 : d'.extract 0 l.length = d' := by rw [← hsz]; simp
    have e2 : L.toArray.extract 0 l.length = L.toArray := by rw [← es]; simp
    rw [e1, e2] at hperm
    have := hperm.map (fun x : PA w g n => x.1)
    rw [← hL]
    simpa using this
  · rw [nmQ, List.map_map, List.pairwise_map, List.pairwise_iff_getElem]
    intro i j hi hj hij
    have hi' : i < d'.size := by simpa using hi
    have hj' : j < d'.size := by simpa using hj
    have := hs i j (by omega) hij (by omega)
    rw [hlt, getElem!_pos d' i hi', getElem!_pos d' j hj'] at this
    simpa using this
  · obtain ⟨hx, ⟨h1, _⟩ | ⟨g', cap', cur, hv, hbg, hh, hc, hm, hcs, ht⟩⟩ := hO
    · cases h1
    · simp at hv
      obtain ⟨rfl, rfl⟩ := hv
      have hdl : (d'.toList.map (fun x => x.1)).length = l.length := by simp [hsz]
      refine ⟨by rw [pq_len, hdl]; omega, .inr ⟨g, cap, _, by rw [hdl], hbg, heap_sortW _ _ hh, by omega, hm, by simp [Go.Sort.putCells, hcs], ?_⟩⟩
      rw [mapPQ, hdl, List.map_map, Nat.mul_one, ← hsz]
      exact take_putC _ cur d' (by omega)
end Go.Proofs.Ytpalokkcmpjcmaa
