/- Contract of chapter 10: a list of positions in order, each once. -/
import Derived.Test.Ytpalokkcmpjcmaa10t
import Derived.Test.Ytpalokkcmpjcmaa10u
namespace Go.Proofs.Ytpalokkcmpjcmaa
open Go.ChangeShapes Go.WideShapes Go.ChangeAt Go.RowKit
set_option linter.unusedVariables false
set_option linter.unusedSimpArgs false
set_option maxRecDepth 4000

/-- A list of positions is handed back, each in a block of its own. -/
def RowsGot (base : Nat) (L : List (List Int)) (lo : Nat) (w : World) (e : Ending) (w' : World) : Prop :=
  ∃ g k l, e = .returned (.slice (some ⟨g, 0, none⟩) l.length k) ∧ base ≤ g ∧ QRow w' g l ∧ nmQ l = L ∧ QAll lo w'.heap.size w' l ∧ QDis l ∧ Below base w w'
set_option maxHeartbeats 1000000 in
theorem distinct_any (base lo n : Nat) (v : Value) (l : List PQ) (w : World) (hbase : base ≤ w.heap.size) (hle : n ≤ 1048576) (hl0 : 0 < l.length) (hl : l.length ≤ 1048576) (hO : OwnQ w base v l) (hA : QAll lo w.heap.size w l) (hD : QDis l) (hn : ∀ x ∈ l, x.2.2.length = n) :
    Calls Try.prog 49 #[v] w (RowsGot base (sdP (nmQ l)) lo w) := by
  obtain ⟨g, k, rfl⟩ := OwnQ.some hO hl0
  obtain ⟨hb0, hgl, hQ, -⟩ := hO.row
  have hcap : l.length ≤ k := by
    obtain ⟨_, ⟨h1, _⟩ | ⟨g', cap', cur, hv, hbg, hh, hc, _⟩⟩ := hO
    · cases h1
    · simp at hv
      obtain ⟨rfl, rfl⟩ := hv
      exact hc
  have hne : ∀ x ∈ l, x.1 ≠ g := fun x hx e => by
    obtain ⟨cur, hB, _⟩ := (hA x hx).2.2
    rw [e] at hB
    obtain ⟨cur2, hB2, _⟩ := hQ
    have : some (Obj.cells cur 2 (0, 0)) = some (Obj.cells cur2 26 (0, 0)) := hB.symm.trans hB2
    injection this with this
    injection this with _ h3
    exact absurd h3 (by decide)
  have HS := Lib.hid (sortPos_any base lo w.heap.size g k n l w hle hl0 hl hO hA hn)
  go_enter Try.func49, Try.ntmps49
  go_wp2_with fail
  refine HS.out.mono ?_
  rintro e w1 ⟨rfl, l1, hp, hs, hO1, hg1⟩
  have hll : l1.length = l.length := hp.length_eq
  have hm : ∀ x, x ∈ l1 ↔ x ∈ l := fun x => hp.mem_iff
  have hz1 := hg1.size
  have hA1 : QAll lo w1.heap.size w1 l1 := fun x hx => by
    have q := hA x ((hm x).1 hx)
    exact ⟨q.1, by have := q.2.1; omega, q.2.2.grown hg1 (hne x ((hm x).1 hx))⟩
  have hD1 : QDis l1 := (hp.pairwise_iff (R := fun x y : PQ => x.1 ≠ y.1) (fun h => fun e => h e.symm)).2 hD
  have hn1 : ∀ x ∈ l1, x.2.2.length = n := fun x hx => hn x ((hm x).1 hx)
  obtain ⟨-, -, hQ1, -⟩ := OwnQ.row (l := l1) (g := g) (n := l.length) (k := k) hO1
  have hcp := compactPos_any lo w1.heap.size g k n l1 w1 hle (by omega) (by omega) (by omega) hQ1 hA1 hn1 (fun x hx => hne x ((hm x).1 hx))
  obtain ⟨f1, f2⟩ := cpT_facts hn1 hs l1.length (Nat.le_refl _)
  have hsub := cpT_sub l1 l1.length
  rw [List.take_length] at f2 hsub
  have hsd : nmQ (cpT l1 l1.length) = sdP (nmQ l) := by
    refine sdP_is (n := n) (fun x hx => ?_) f1 (fun z => (f2 z).trans ?_)
    · obtain ⟨y, hy, rfl⟩ := List.mem_map.1 hx
      exact hn y hy
    · rw [List.mem_map, List.mem_map]
      exact ⟨fun ⟨y, h1, h2⟩ => ⟨y, (hm y).1 h1, h2⟩, fun ⟨y, h1, h2⟩ => ⟨y, (hm y).2 h1, h2⟩⟩
  rw [hll] at hcp hsd hsub
  have HC := Lib.hid hcp
  have HSD := Lib.hid hsd
  have HSB := Lib.hid hsub
  clear hcp hsd hsub f1 f2 HS hs hO1 hQ1
  go_wp2_with fail
  refine HC.out.mono ?_
  rintro e w2 ⟨rfl, hQ2, hg2⟩
  have hz2 := hg2.size
  have hrow : ∀ x ∈ l1, Row w2 x.1 x.2.2 := fun x hx => (hA1 x hx).2.2.grown hg2 (hne x ((hm x).1 hx))
  have hb : Below base w w2 := by
    refine ((Below.refl base w).grown hg1 hbase (fun q hq => ?_)).grown hg2 (by omega) (fun q hq => ?_)
    · simp at hq; omega
    · simp at hq; omega
  go_wp2
  go_ret
  exact ⟨g, k, cpT l1 l.length, rfl, hb0, hQ2, HSD.out, fun x hx => ⟨(hA1 x (HSB.out.subset hx)).1, by have := (hA1 x (HSB.out.subset hx)).2.1; omega, hrow x (HSB.out.subset hx)⟩, List.Pairwise.sublist HSB.out hD1, hb⟩
end Go.Proofs.Ytpalokkcmpjcmaa
