/- Texts of a proof, laid together. -/
import Derived.Test.YtodlofabffenoaaV10
import Derived.Test.YtodlofabffenoaaV14
import Derived.OwnWalkIn
import Derived.OneCell
import Derived.Maps.OwnIn
import Derived.Maps.AppendAt
import Derived.Test.YtodlofabffenoaaV11
import Derived.Test.YtodlofabffenoaaV01
namespace Go.Proofs.Ytodlofabffenoaa
open Go.ChangeShapes Go.WideShapes Go.ChangeAt Go.RowKit
set_option linter.unusedVariables false
set_option linter.unusedSimpArgs false
def adr (x : PP) : List Nat := [x.1.sa, x.1.b1, x.1.b2].filterMap (fun a => a.map (·.block))
def Dis (y x : PP) : Prop := ∀ a ∈ adr y, ∀ b ∈ adr x, a ≠ b
def Und (l : List PP) (B : Nat) : Prop := ∀ y ∈ l, ∀ a ∈ adr y, a < B
theorem Und.nil (B : Nat) : Und [] B := fun y hy => by simp at hy
theorem Und.mono {l : List PP} {B C : Nat} (h : Und l B) (hC : B ≤ C) : Und l C := fun y hy a ha => Nat.lt_of_lt_of_le (h y hy a ha) hC
theorem Und.snoc {l : List PP} {x : PP} {B C : Nat} (h : Und l B) (hC : B ≤ C) (hx : ∀ a ∈ adr x, a < C) : Und (l ++ [x]) C := fun y hy a ha => by
  rcases List.mem_append.1 hy with hy | hy
  · exact Nat.lt_of_lt_of_le (h y hy a ha) hC
  · simp at hy
    subst hy
    exact hx a ha
theorem PAt.adr {lo hi : Nat} {W : World} {x : PP} (h : PAt lo hi W x) : ∀ a ∈ adr x, lo ≤ a ∧ a < hi := by
  intro a ha
  unfold Go.Proofs.Ytodlofabffenoaa.adr at ha
  simp only [List.mem_filterMap, List.mem_cons, List.not_mem_nil, or_false] at ha
  obtain ⟨q, hq, e⟩ := ha
  have hS : ∀ g, x.1.sa = some g → lo ≤ g.block ∧ g.block < hi := fun g eg => by
    rcases h.1 with ⟨h1, _⟩ | ⟨g', e', h1, h2, _⟩
    · rw [h1] at eg; simp at eg
    · rw [e'] at eg; simp at eg; subst eg; exact ⟨h1, h2⟩
  have hB : (∀ g, x.1.b1 = some g → lo ≤ g.block ∧ g.block < hi) ∧ (∀ g, x.1.b2 = some g → lo ≤ g.block ∧ g.block < hi) := by
    rcases h.2 with ⟨h1, h2, _⟩ | ⟨g1, g2, e1, e2, _, b1, b2, b3, b4, _⟩
    · exact ⟨fun g eg => (by rw [h1] at eg; simp at eg), fun g eg => (by rw [h2] at eg; simp at eg)⟩
    · exact ⟨fun g eg => (by rw [e1] at eg; simp at eg; subst eg; exact ⟨b1, b2⟩), fun g eg => (by rw [e2] at eg; simp at eg; subst eg; exact ⟨b3, b4⟩)⟩
  cases q with
  | none => simp at e
  | some g =>
    simp at e
    subst e
    rcases hq with hq | hq | hq
    · exact hS g hq.symm
    · exact hB.1 g hq.symm
    · exact hB.2 g hq.symm
theorem Dis.symm {x y : PP} (h : Dis x y) : Dis y x := fun a ha b hb e => h b hb a ha e.symm
def SubD (L pre : List PP) : Prop := L.length ≤ pre.length ∧ L.Pairwise Dis ∧ ∀ y ∈ L, y ∈ pre
theorem SubD.nil : SubD [] [] := ⟨Nat.le_refl _, List.Pairwise.nil, fun y hy => by simp at hy⟩
theorem SubD.more {L pre : List PP} (x : PP) (h : SubD L pre) : SubD L (pre ++ [x]) := ⟨by have := h.1; simp; omega, h.2.1, fun y hy => List.mem_append_left _ (h.2.2 y hy)⟩
theorem SubD.snoc {L pre : List PP} {x : PP} (h : SubD L pre) (hx : ∀ y ∈ pre, Dis y x) : SubD (L ++ [x]) (pre ++ [x]) := by
  refine ⟨by have := h.1; simp; omega, List.pairwise_append.2 ⟨h.2.1, List.pairwise_singleton _ _, fun a ha b hb => ?_⟩, fun y hy => ?_⟩
  · simp at hb
    subst hb
    exact hx a (h.2.2 a ha)
  · rcases List.mem_append.1 hy with hy | hy
    · exact List.mem_append_left _ (h.2.2 y hy)
    · exact List.mem_append_right _ hy
end Go.Proofs.Ytodlofabffenoaa
namespace Go.Proofs.Ytodlofabffenoaa
open Go.ChangeShapes Go.WideShapes Go.ChangeAt Go.RowKit
set_option linter.unusedVariables false
set_option linter.unusedSimpArgs false
set_option maxRecDepth 4000
theorem wpListIn_pushPW {F : Fence} {n : Nat} {ops : Array Oper} {rest : List Oper} {o : Oper} {a : Act} {Q : Exit → Act → World → Prop} (hgd : o.guard = none) (s x : Operand)
    (ho : o.op = .call { callee := .builtin .append, args := #[s, x], argTypes := #[72, 72] })
    (base : Nat) (v : Value) (l : List PP) (hs : a.eval s = v) {w0 : World} (hown : OwnP w0 base v l) (u : PP)
    {zz : Nat} (hx : a.eval x = .slice (some ⟨zz, 0, none⟩) 1 1) (hzz : w0.heap.size = zz) (hl : l.length ≤ 1048576) (hbase : base ≤ w0.heap.size)
    (h : ∀ v' w', OwnP w' base v' (l ++ [u]) → Below base w0 w' → (∀ k, k < w0.heap.size → v.ownBlock ≠ some k → w'.heap[k]? = w0.heap[k]?) → (v'.ownBlock = v.ownBlock ∨ v'.ownBlock = some (w0.heap.size + 1)) → wpListIn F n Try.prog ops Q rest (a.put o.dst v') w') : wpListIn F n Try.prog ops Q (o :: rest) a (w0.alloc (.cells #[pl0 u, pl1 u, pl2 u] 95)) := by
  subst hzz
  obtain ⟨i0, hi, hz0, hz1, hz2⟩ := info_parts infoPly
  have hown0 : w0.ownsRow base 95 3 v l.length (plsC l) := hown
  refine wpListIn_append_own_at _ hgd s x 72 ho base 95 i0 _ 3 72 Try.underlying72 hi hz0 hz1 hz2 rfl (by decide) v l.length (plsC l) hs (hown0.alloc _) ⟨w0.heap.size, 0, none⟩ 1 1 (plC u) hx (by simp [plC])
    (World.news_of_block (cs := #[pl0 u, pl1 u, pl2 u]) (Blk.new w0 _ 95)) (fun y hy => by simp [plC] at hy; rcases hy with rfl | rfl | rfl <;> rfl) (by unfold maxLen; omega) (by omega) (by simp; omega) ?_
  intro v' w' hown' hgrow _ hat
  refine h v' w' ?_ (((Below.refl base w0).alloc hbase _).grown hgrow (by simp; omega) (fun k hk => (hown0.lt k hk).1)) (fun k hk hne => ?_) (by rw [World.size_alloc] at hat; exact hat)
  · show w'.ownsRow base 95 3 _ (l ++ [u]).length (plsC (l ++ [u]))
    rw [List.length_append, plsC_append]
    simpa [plsC] using hown'
  · rw [hgrow.block k (by simp; omega) (fun hh => hne hh.symm), Below.heap_alloc _ _ _ hk]
theorem PAt.frame {lo hi hi' : Nat} {w w' : World} {x : PP} (h : PAt lo hi w x) (hh : hi ≤ hi') (hk : ∀ g cur t, Blk w g cur t → t ≠ 95 → t ≠ 72 → w'.heap[g]? = w.heap[g]?) : PAt lo hi' w' x := by
  refine ⟨?_, ?_⟩
  · rcases h.1 with h | ⟨g, e, h1, h2, cur, hB, r1, r2⟩
    · exact .inl h
    · exact .inr ⟨g, e, h1, by omega, cur, (hk g _ _ hB (by decide) (by decide)).trans hB, r1, r2⟩
  · rcases h.2 with h | ⟨g1, g2, e1, e2, hne, b1, b2, b3, b4, ⟨cur, hB, r1, r2⟩, ⟨cur', hB', r1', r2'⟩⟩
    · exact .inl h
    · exact .inr ⟨g1, g2, e1, e2, hne, b1, by omega, b3, by omega, ⟨cur, (hk g1 _ _ hB (by decide) (by decide)).trans hB, r1, r2⟩, ⟨cur', (hk g2 _ _ hB' (by decide) (by decide)).trans hB', r1', r2'⟩⟩
theorem SeenM.map {W : World} {b n P : Nat} {seen : List (List Int × List Int)} (h : SeenM W b n P seen) {cur : Array Value} {t : TypeId} {g : Nat} (hB : Blk W g cur t) : g ≠ b := by
  rintro rfl
  obtain ⟨D, ⟨es, clock, h1, _⟩, _⟩ := h
  have hB' : W.heap[g]? = some (.cells cur t (0, 0)) := hB
  rw [hB'] at h1
  cases h1
theorem wpListIn_mapput {F : Fence} {n : Nat} {ops : Array Oper} {rest : List Oper} {o : Oper} {a : Act} {W : World} {Q : Exit → Act → World → Prop} (hgd : o.guard = none) (m x v : Operand) {t : TypeId} (ho : o.op = .mapUpdate t m x v)
    {mv xv vv : Value} {R : World → Prop} (h : ∃ w', (Instr.mapUpdate t mv xv vv).run Try.prog W = .ok () w' ∧ R w') (hm : a.eval m = mv) (hx : a.eval x = xv) (hv : a.eval v = vv)
    (hK : ∀ w', R w' → wpListIn F n Try.prog ops Q rest (a.put o.dst undef) w') : wpListIn F n Try.prog ops Q (o :: rest) a W := by
  refine wpListIn_plain hgd fun K' hK' => ?_
  obtain ⟨w', hrun, hR⟩ := h
  unfold Oper.wpIn
  refine ⟨by simp [Oper.about, ho], ?_⟩
  rw [Oper.semAt_plain F _ _ (by rw [ho]; intro c hc; cases hc)]
  simp [execOp, ho, hm, hx, hv, hrun, Result.andThen]
  exact hK' _ _ (hK w' hR)
theorem Blk.grownM {W w6 w7 : World} {g b n P : Nat} {seen : List (List Int × List Int)} {cur : Array Value} {t : TypeId} (h : Blk W g cur t) (m : SeenM W b n P seen) (h56 : Below W.heap.size W w6) (h67 : w6.grownBy w7 (some b)) : Blk w7 g cur t :=
  (h67.block g (Nat.lt_of_lt_of_le h.lt h56.size) (fun e => m.map h (by simpa using e))).trans ((h56.block g h.lt).trans h)
theorem OwnP.grown {W w6 w7 : World} {base b n P : Nat} {seen : List (List Int × List Int)} {v : Value} {L : List PP} (h : OwnP W base v L) (m : SeenM W b n P seen) (h56 : Below W.heap.size W w6) (h67 : w6.grownBy w7 (some b)) : OwnP w7 base v L := by
  obtain ⟨h1, h2 | ⟨g, cap, cur, hv, hb, hh, hc⟩⟩ := h
  · exact ⟨h1, .inl h2⟩
  · exact ⟨h1, .inr ⟨g, cap, cur, hv, hb, Blk.grownM (g := g) (cur := cur) hh m h56 h67, hc⟩⟩
def footP (B3 M : Nat) (X : World) (k : Nat) : Prop := k = B3 ∨ k = M ∨ ∃ v, X.cell? ⟨B3, 0, none⟩ = some v ∧ v.ownBlock = some k
def InvP (P : Nat) (c h s : Int) (lo2 K : Nat) (w v1 : World) (pre : List PP) (X : World) : Prop :=
  (∃ v L, Blk X w.heap.size #[v] 72 ∧ OwnP X w.heap.size v L ∧ L.map (·.2) = addAll [] (pre.map (·.2)) ∧ PAll lo2 X.heap.size X L ∧ (∀ x ∈ L, isB (P : Int) c h s x.2.2.1 x.2.2.2 = true ∧ x.2.1.length ≤ K) ∧ SeenM X (w.heap.size + 1) L.length P (L.map (·.2.2)) ∧ SubD L pre) ∧
  Blk X (w.heap.size + 1 + 1) #[.map (some (w.heap.size + 1))] 111 ∧ Below w.heap.size w X ∧ v1.heap.size ≤ X.heap.size
theorem first_push {P : Nat} {c h s : Int} {lo lo2 K : Nat} {w v1 W w6 w7 w8 : World} {pre : List PP} {x : PP} {v v' : Value} {L : List PP} {a : Act}
    (hz3 : v1.heap.size = w.heap.size + 1 + 1 + 1) (hlo : lo ≤ w.heap.size) (q1 : Blk W w.heap.size #[v] 72) (q2 : OwnP W w.heap.size v L) (q3 : L.map (·.2) = addAll [] (pre.map (·.2))) (q4 : PAll lo2 W.heap.size W L)
    (q5 : ∀ x ∈ L, isB (P : Int) c h s x.2.2.1 x.2.2.2 = true ∧ x.2.1.length ≤ K) (q6 : SeenM W (w.heap.size + 1) L.length P (L.map (·.2.2))) (q7 : SubD L pre) (hR : ∀ y ∈ pre, Dis y x) (q8 : Blk W (w.heap.size + 1 + 1) #[.map (some (w.heap.size + 1))] 111) (q9 : Below w.heap.size w W) (q10 : v1.heap.size ≤ W.heap.size)
    (hPA : PAt lo2 W.heap.size W x) (gx : isB (P : Int) c h s x.2.2.1 x.2.2.2 = true) (hK : x.2.1.length ≤ K) (hadd : addAll [] (pre.map (·.2) ++ [x.2]) = addAll [] (pre.map (·.2)) ++ [x.2])
    (h56 : Below W.heap.size W w6) (g67 : w6.grownBy w7 (some (w.heap.size + 1))) (m7 : SeenM w7 (w.heap.size + 1) (L.length + 1) P (L.map (·.2.2) ++ [x.2.2])) (h78 : Below w.heap.size w7 w8)
    (f78 : ∀ k, k < w7.heap.size → v.ownBlock ≠ some k → w8.heap[k]? = w7.heap[k]?) (o8 : OwnP w8 w.heap.size v' (L ++ [x])) (k8 : v'.ownBlock = v.ownBlock ∨ v'.ownBlock = some (w7.heap.size + 1)) :
    goodPost v1.heap.size lo (footP w.heap.size (w.heap.size + 1)) (InvP P c h s lo2 K w v1) (pre ++ [x]) W .normal a (w8.setCell ⟨w.heap.size, 0, none⟩ v') := by
  have s6 := h56.size
  have s7 := g67.size
  have s8 := h78.size
  obtain ⟨Y, hY⟩ : ∃ Y, w8.setCell ⟨w.heap.size, 0, none⟩ v' = Y := ⟨_, rfl⟩
  have hYz : Y.heap.size = w8.heap.size := by rw [← hY]; simp
  have f1 : ∀ k, k < W.heap.size → k ≠ w.heap.size + 1 → v.ownBlock ≠ some k → w8.heap[k]? = W.heap[k]? := fun k hk h1 h2 => by
    rw [f78 k (by omega) h2, g67.block k (by omega) (fun e => h1 (by simpa using e)), h56.block k hk]
  have fY : ∀ k, k ≠ w.heap.size → Y.heap[k]? = w8.heap[k]? := fun k hk => by rw [← hY]; exact heap_setCell_other _ _ _ _ hk
  have fA : ∀ k, k < W.heap.size → k ≠ w.heap.size → k ≠ w.heap.size + 1 → v.ownBlock ≠ some k → Y.heap[k]? = W.heap[k]? := fun k h1 h2 h3 h4 => (fY k h2).trans (f1 k h1 h3 h4)
  have fT : ∀ g cur t, Blk W g cur t → t ≠ 95 → t ≠ 72 → Y.heap[g]? = W.heap[g]? := fun g cur t hB t1 t2 => by
    refine fA g hB.lt ?_ (q6.map hB) (q2.ne hB t1)
    rintro rfl
    have e1 : W.heap[w.heap.size]? = some (.cells cur t (0, 0)) := hB
    have e2 : W.heap[w.heap.size]? = some (.cells #[v] 72 (0, 0)) := q1
    rw [e1] at e2
    injection e2 with e2
    injection e2 with _ e3
    exact t2 e3
  have b8 : Blk w8 w.heap.size #[v] 72 := (f1 _ q1.lt (by omega) (q2.ne q1 (by decide))).trans q1
  have bY : Blk Y w.heap.size #[v'] 72 := by rw [← hY]; exact one_setCell b8
  have cY := bY.one.1
  have hbW : Below w.heap.size W Y := by
    rw [← hY]
    exact (((h56.mono q9.size).grown g67 (Nat.le_trans q9.size s6) (fun k hk => by simp at hk; omega)).trans h78).setCell (Nat.le_refl _) _
  have hlq := fun k hk => World.ownsRow.lt q2 k hk
  refine ⟨?_, ?_, ⟨?_, fun k hk hf => ?_, fun k hk hf => ?_⟩, ⟨v', L ++ [x], ?_, ?_, ?_, ?_, ?_, ?_, ?_⟩, ?_, ?_, ?_⟩
  · refine ⟨by rw [hY]; omega, fun k o hk ho hc => ?_⟩
    rw [hY, fA k (Array.getElem?_eq_some_iff.1 ho).1 (by omega) (by omega) (fun e => ?_)]
    · exact ho
    · obtain ⟨_, ⟨rfl, _⟩ | ⟨g, cap, cur, rfl, _, hh, _⟩⟩ := q2
      · simp [Value.ownBlock] at e
      · simp [Value.ownBlock] at e
        subst e
        rw [hh] at ho
        cases ho
        simp [Obj.isCells] at hc
  · rw [hY]; exact hbW.mono hlo
  · rw [hY]; omega
  · rw [hY]
    exact fA k hk (fun e => hf (.inl e)) (fun e => hf (.inr (.inl e))) (fun e => hf (.inr (.inr ⟨v, q1.one.1, e⟩)))
  · rw [hY] at hf
    rcases hf with rfl | rfl | ⟨u, hu, ho⟩
    · exact .inl rfl
    · exact .inr (.inl rfl)
    · have e : u = v' := by
        rw [cY] at hu
        simpa using hu.symm
      subst e
      rcases k8 with e | e
      · exact .inr (.inr ⟨v, q1.one.1, by rw [← e]; exact ho⟩)
      · rw [e] at ho
        simp at ho
        omega
  · rw [hY]; exact bY
  · have := ownsRow_setCell_other (a := ⟨w.heap.size, 0, none⟩) (w := w8) o8 (o8.ne b8 (by decide)) v'
    rw [hY] at this
    rw [hY]
    exact this
  · rw [List.map_append, List.map_append, q3]
    exact hadd.symm
  · intro y hy
    rw [hY]
    rcases List.mem_append.1 hy with hy | hy
    · exact (q4 y hy).frame (by omega) fT
    · simp at hy
      subst hy
      exact hPA.frame (by omega) fT
  · intro y hy
    rcases List.mem_append.1 hy with hy | hy
    · exact q5 y hy
    · simp at hy
      subst hy
      exact ⟨gx, hK⟩
  · rw [hY]
    have h7 := m7.lt
    have := m7.keep (W' := Y) (by
      rw [fY _ (by omega), f78 _ h7 (fun e => ?_)]
      obtain ⟨_, ⟨rfl, _⟩ | ⟨g, cap, cur, rfl, _, hh, _⟩⟩ := q2
      · simp [Value.ownBlock] at e
      · simp [Value.ownBlock] at e
        exact q6.map (g := g) hh e)
    simpa using this
  · exact q7.snoc hR
  · rw [hY]
    exact (fT _ _ _ q8 (by decide) (by decide)).trans q8
  · rw [hY]; exact q9.trans hbW
  · rw [hY]; omega
end Go.Proofs.Ytodlofabffenoaa
namespace Go.Proofs.Ytodlofabffenoaa
open Go.ChangeShapes Go.WideShapes Go.ChangeAt Go.RowKit
set_option linter.unusedVariables false
set_option linter.unusedSimpArgs false
def OwnE {α : Type} (enc : α → List Value) (T : TypeId) (sz : Nat) (w : World) (base : Nat) (v : Value) (l : List α) : Prop := w.ownsRow base T sz v l.length (l.flatMap enc)
section
variable {α : Type} {enc : α → List Value} {T : TypeId} {sz : Nat}
theorem OwnE.form {w : World} {base : Nat} {v : Value} {l : List α} (h : OwnE enc T sz w base v l) : ∃ a k, v = .slice a l.length k := by
  rcases h.2 with ⟨h1, h2⟩ | ⟨g, cap, cur, h1, _⟩
  · exact ⟨none, 0, by rw [h1, h2]⟩
  · exact ⟨some ⟨g, 0, none⟩, cap, h1⟩
theorem OwnE.nil (w : World) (base : Nat) : OwnE enc T sz w base (.slice none 0 0) [] := World.ownsRow_nil w base _ _
theorem OwnE.alloc {w : World} {base : Nat} {v : Value} {l : List α} (h : OwnE enc T sz w base v l) (o : Obj) : OwnE enc T sz (w.alloc o) base v l := World.ownsRow.alloc h o
theorem OwnE.below {w w' : World} {base : Nat} {v : Value} {l : List α} (h : OwnE enc T sz w base v l) (hb : Below w.heap.size w w') : OwnE enc T sz w' base v l :=
  World.ownsRow.kept (row := none) h ⟨hb.os, hb.tape, hb.output, hb.size, fun k hk _ => hb.block k hk⟩ (by
    cases hv : v.ownBlock with
    | none => exact .inl rfl
    | some g => exact .inr (by simp))
theorem OwnE.mono {w : World} {base base' : Nat} {v : Value} {l : List α} (h : OwnE enc T sz w base v l) (hb : base' ≤ base) : OwnE enc T sz w base' v l := by
  obtain ⟨h1, h2 | ⟨g, cap, cur, q1, q2, q3⟩⟩ := h
  · exact ⟨h1, .inl h2⟩
  · exact ⟨h1, .inr ⟨g, cap, cur, q1, by omega, q3⟩⟩
theorem OwnE.ne {w : World} {base g : Nat} {v : Value} {l : List α} {cur : Array Value} {t : TypeId} (h : OwnE enc T sz w base v l) (hB : Blk w g cur t) (ht : t ≠ T) : v.ownBlock ≠ some g := by
  intro e
  obtain ⟨_, ⟨h1, _⟩ | ⟨g', cap, cur', rfl, _, hh, _⟩⟩ := h
  · rw [h1] at e
    simp [Value.ownBlock] at e
  · simp [Value.ownBlock] at e
    subst e
    have hB' : w.heap[g']? = some (.cells cur t (0, 0)) := hB
    rw [hh] at hB'
    injection hB' with hB'
    injection hB' with _ h3
    exact ht h3.symm
theorem OwnE.one (w : World) (x : α) (cs : Array Value) (hcs : cs.toList = enc x) (hsz : (enc x).length = sz) : OwnE enc T sz (w.alloc (.cells cs T)) w.heap.size (.slice (some ⟨w.heap.size, 0, none⟩) 1 1) [x] := by
  have hn : cs.size = sz := by rw [← Array.length_toList, hcs, hsz]
  refine ⟨by simp [hsz], .inr ⟨w.heap.size, 1, cs, rfl, Nat.le_refl _, Blk.new w cs T, Nat.le_refl _, by unfold maxLen; omega, by rw [hn]; simp, ?_⟩⟩
  simp only [List.flatMap_cons, List.flatMap_nil, List.append_nil]
  rw [← hcs]
  exact List.take_of_length_le (by rw [Array.length_toList, hn]; simp)
theorem wp_pushE {TS : TypeId} (hU : Try.prog.underlying TS = some (.slice T)) {i0 : TypeInfo} {z : Value} {by_ : Nat} (hi : Try.prog.info? T = some i0) (hz0 : i0.zero = some z) (hz1 : i0.size = sz) (hz2 : i0.bytes = by_) (hzs : z.cells.size = sz) (hs0 : 0 < sz) (hby : by_ ≤ 100)
    {ops : Array Oper} {rest : List Oper} {o : Oper} {a : Act} {Q : Exit → Act → World → Prop} (hgd : o.guard = none) (s x : Operand)
    (ho : o.op = .call { callee := .builtin .append, args := #[s, x], argTypes := #[TS, TS] })
    (base : Nat) (v : Value) (l : List α) (hs : a.eval s = v) {w0 : World} (hown : OwnE enc T sz w0 base v l) (u : α) (cs : Array Value) (hcs : cs.toList = enc u) (hsz : (enc u).length = sz) (hone : ∀ y ∈ enc u, y.oneCell' = true)
    {zz : Nat} (hx : a.eval x = .slice (some ⟨zz, 0, none⟩) 1 1) (hzz : w0.heap.size = zz) (hl : l.length ≤ 1048576) (hbase : base ≤ w0.heap.size)
    (h : ∀ v' w', OwnE enc T sz w' base v' (l ++ [u]) → Below base w0 w' → (∀ k, k < w0.heap.size → v.ownBlock ≠ some k → w'.heap[k]? = w0.heap[k]?) → wpList Try.prog ops Q rest (a.put o.dst v') w') : wpList Try.prog ops Q (o :: rest) a (w0.alloc (.cells cs T)) := by
  subst hzz
  have hown0 : w0.ownsRow base T sz v l.length (l.flatMap enc) := hown
  refine wpList_append_own _ hgd s x TS ho base T i0 z sz by_ hU hi hz0 hz1 hz2 hzs hs0 v l.length (l.flatMap enc) hs (hown0.alloc _) ⟨w0.heap.size, 0, none⟩ 1 1 (enc u) hx (by rw [hsz, Nat.one_mul])
    (fun j y hj => World.news_of_block (cs := cs) (Blk.new w0 _ T) j y (by rw [hcs]; exact hj)) hone (by unfold maxLen; omega) (Nat.le_trans (Nat.mul_le_mul (by omega : l.length + 1 ≤ 1048577) hby) (by omega)) (by simp; omega) ?_
  intro v' w' hown' hgrow _
  refine h v' w' ?_ (((Below.refl base w0).alloc hbase _).grown hgrow (by simp; omega) (fun k hk => (hown0.lt k hk).1)) (fun k hk hne => ?_)
  · show w'.ownsRow base T sz _ (l ++ [u]).length ((l ++ [u]).flatMap enc)
    rw [List.length_append, List.flatMap_append]
    simpa using hown'
  · rw [hgrow.block k (by simp; omega) (fun hh => hne hh.symm), Below.heap_alloc _ _ _ hk]
end
theorem PAt.frameT {lo hi hi' : Nat} {w w' : World} {x : PP} {T : TypeId} (h : PAt lo hi w x) (hh : hi ≤ hi') (hT : 56 ≠ T ∧ 2 ≠ T) (hk : ∀ g cur t, Blk w g cur t → t ≠ T → w'.heap[g]? = w.heap[g]?) : PAt lo hi' w' x := by
  refine ⟨?_, ?_⟩
  · rcases h.1 with h | ⟨g, e, h1, h2, cur, hB, r1, r2⟩
    · exact .inl h
    · exact .inr ⟨g, e, h1, by omega, cur, (hk g _ _ hB hT.1).trans hB, r1, r2⟩
  · rcases h.2 with h | ⟨g1, g2, e1, e2, hne, b1, b2, b3, b4, ⟨cur, hB, r1, r2⟩, ⟨cur', hB', r1', r2'⟩⟩
    · exact .inl h
    · exact .inr ⟨g1, g2, e1, e2, hne, b1, by omega, b3, by omega, ⟨cur, (hk g1 _ _ hB hT.2).trans hB, r1, r2⟩, ⟨cur', (hk g2 _ _ hB' hT.2).trans hB', r1', r2'⟩⟩
abbrev LV := Option Addr × Nat × List PP
abbrev lvV (x : LV) : Value := .slice x.1 x.2.2.length x.2.1
def lvC (x : LV) : List Value := [lvV x]
def LvAt (lo hi : Nat) (w : World) (x : LV) : Prop := OPl lo hi w x.1 x.2.2 ∧ PAll lo hi w x.2.2
def LsAll (lo hi : Nat) (w : World) (l : List LV) : Prop := ∀ x ∈ l, LvAt lo hi w x
theorem LvAt.below {lo hi : Nat} {w w' : World} {x : LV} (h : LvAt lo hi w x) (hb : Below w.heap.size w w') : LvAt lo hi w' x := ⟨h.1.below hb, h.2.below hb⟩
theorem LvAt.mono {lo hi lo' hi' : Nat} {w : World} {x : LV} (h : LvAt lo hi w x) (h1 : lo' ≤ lo) (h2 : hi ≤ hi') : LvAt lo' hi' w x := ⟨h.1.mono h1 h2, h.2.mono h1 h2⟩
theorem LsAll.below {lo hi : Nat} {w w' : World} {l : List LV} (h : LsAll lo hi w l) (hb : Below w.heap.size w w') : LsAll lo hi w' l := fun x hx => (h x hx).below hb
theorem LsAll.mono {lo hi lo' hi' : Nat} {w : World} {l : List LV} (h : LsAll lo hi w l) (h1 : lo' ≤ lo) (h2 : hi ≤ hi') : LsAll lo' hi' w l := fun x hx => (h x hx).mono h1 h2
theorem LvAt.frameT {lo hi hi' : Nat} {w w' : World} {x : LV} {T : TypeId} (h : LvAt lo hi w x) (hh : hi ≤ hi') (hT : 56 ≠ T ∧ 2 ≠ T) (hT2 : 95 ≠ T) (hk : ∀ g cur t, Blk w g cur t → t ≠ T → w'.heap[g]? = w.heap[g]?) : LvAt lo hi' w' x := by
  refine ⟨?_, fun y hy => (h.2 y hy).frameT hh hT hk⟩
  rcases h.1 with h | ⟨g, e, h1, h2, cur, hB, r1, r2⟩
  · exact .inl h
  · exact .inr ⟨g, e, h1, by omega, cur, (hk g _ _ hB hT2).trans hB, r1, r2⟩
theorem LsAll.frameT {lo hi hi' : Nat} {w w' : World} {l : List LV} {T : TypeId} (h : LsAll lo hi w l) (hh : hi ≤ hi') (hT : 56 ≠ T ∧ 2 ≠ T) (hT2 : 95 ≠ T) (hk : ∀ g cur t, Blk w g cur t → t ≠ T → w'.heap[g]? = w.heap[g]?) : LsAll lo hi' w' l := fun x hx => (h x hx).frameT hh hT hT2 hk
abbrev OwnL (w : World) (base : Nat) (v : Value) (l : List LV) : Prop := OwnE lvC 72 1 w base v l
theorem infoPls : (Try.prog.info? 72).map (fun i => (i.zero, i.size, i.bytes)) = some (some (.slice none 0 0), 1, 24) := by kernel_rfl
theorem wp_pushL {ops : Array Oper} {rest : List Oper} {o : Oper} {a : Act} {Q : Exit → Act → World → Prop} (hgd : o.guard = none) (s x : Operand)
    (ho : o.op = .call { callee := .builtin .append, args := #[s, x], argTypes := #[63, 63] })
    (base : Nat) (v : Value) (l : List LV) (hs : a.eval s = v) {w0 : World} (hown : OwnL w0 base v l) (u : LV)
    {zz : Nat} (hx : a.eval x = .slice (some ⟨zz, 0, none⟩) 1 1) (hzz : w0.heap.size = zz) (hl : l.length ≤ 1048576) (hbase : base ≤ w0.heap.size)
    (h : ∀ v' w', OwnL w' base v' (l ++ [u]) → Below base w0 w' → (∀ g cur t, Blk w0 g cur t → t ≠ 72 → w'.heap[g]? = w0.heap[g]?) → wpList Try.prog ops Q rest (a.put o.dst v') w') : wpList Try.prog ops Q (o :: rest) a (w0.alloc (.cells #[lvV u] 72)) := by
  obtain ⟨i0, hi, hz0, hz1, hz2⟩ := info_parts infoPls
  exact wp_pushE (enc := lvC) (sz := 1) Try.underlying63 hi hz0 hz1 hz2 rfl (by decide) (by decide) hgd s x ho base v l hs hown u #[lvV u] rfl rfl (fun y hy => by simp [lvC] at hy; subst hy; rfl) hx hzz hl hbase
    (fun v' w' q1 q2 q3 => h v' w' q1 q2 (fun g cur t hB ht => q3 g hB.lt (hown.ne hB ht)))
abbrev LI := (Nat × List Int) × (Nat × Nat × List LV)
abbrev liV (x : LI) : Value := .agg #[.slice (some ⟨x.1.1, 0, none⟩) x.1.2.length x.1.2.length, .slice (some ⟨x.2.1, 0, none⟩) x.2.2.2.length x.2.2.1]
def liC (x : LI) : List Value := [.slice (some ⟨x.1.1, 0, none⟩) x.1.2.length x.1.2.length, .slice (some ⟨x.2.1, 0, none⟩) x.2.2.2.length x.2.2.1]
def LiAt (lo hi : Nat) (w : World) (x : LI) : Prop := Row w x.1.1 x.1.2 ∧ lo ≤ x.2.1 ∧ x.2.1 < hi ∧ VRow w x.2.1 (x.2.2.2.flatMap lvC) 72 ∧ LsAll lo hi w x.2.2.2
def LisAll (lo hi : Nat) (w : World) (l : List LI) : Prop := ∀ x ∈ l, LiAt lo hi w x
theorem LiAt.below {lo hi : Nat} {w w' : World} {x : LI} (h : LiAt lo hi w x) (hb : Below w.heap.size w w') : LiAt lo hi w' x := ⟨h.1.below hb, h.2.1, h.2.2.1, h.2.2.2.1.below hb, h.2.2.2.2.below hb⟩
theorem LiAt.mono {lo hi lo' hi' : Nat} {w : World} {x : LI} (h : LiAt lo hi w x) (h1 : lo' ≤ lo) (h2 : hi ≤ hi') : LiAt lo' hi' w x := ⟨h.1, by have := h.2.1; omega, by have := h.2.2.1; omega, h.2.2.2.1, h.2.2.2.2.mono h1 h2⟩
theorem LisAll.below {lo hi : Nat} {w w' : World} {l : List LI} (h : LisAll lo hi w l) (hb : Below w.heap.size w w') : LisAll lo hi w' l := fun x hx => (h x hx).below hb
theorem LisAll.mono {lo hi lo' hi' : Nat} {w : World} {l : List LI} (h : LisAll lo hi w l) (h1 : lo' ≤ lo) (h2 : hi ≤ hi') : LisAll lo' hi' w l := fun x hx => (h x hx).mono h1 h2
theorem LiAt.frameT {lo hi hi' : Nat} {w w' : World} {x : LI} {T : TypeId} (h : LiAt lo hi w x) (hh : hi ≤ hi') (hT : 56 ≠ T ∧ 2 ≠ T) (hT2 : 95 ≠ T) (hT3 : 72 ≠ T) (hk : ∀ g cur t, Blk w g cur t → t ≠ T → w'.heap[g]? = w.heap[g]?) : LiAt lo hi' w' x := by
  obtain ⟨⟨cur, hB, r1, r2⟩, h2, h3, ⟨cur', hB', r1', r2'⟩, h5⟩ := h
  exact ⟨⟨cur, (hk _ _ _ hB hT.2).trans hB, r1, r2⟩, h2, by omega, ⟨cur', (hk _ _ _ hB' hT3).trans hB', r1', r2'⟩, h5.frameT hh hT hT2 hk⟩
theorem LisAll.frameT {lo hi hi' : Nat} {w w' : World} {l : List LI} {T : TypeId} (h : LisAll lo hi w l) (hh : hi ≤ hi') (hT : 56 ≠ T ∧ 2 ≠ T) (hT2 : 95 ≠ T) (hT3 : 72 ≠ T) (hk : ∀ g cur t, Blk w g cur t → t ≠ T → w'.heap[g]? = w.heap[g]?) : LisAll lo hi' w' l := fun x hx => (h x hx).frameT hh hT hT2 hT3 hk
abbrev OwnI (w : World) (base : Nat) (v : Value) (l : List LI) : Prop := OwnE liC 65 2 w base v l
theorem infoLis : (Try.prog.info? 65).map (fun i => (i.zero, i.size, i.bytes)) = some (some (.agg #[.slice none 0 0, .slice none 0 0]), 2, 48) := by kernel_rfl
theorem wp_pushLi {ops : Array Oper} {rest : List Oper} {o : Oper} {a : Act} {Q : Exit → Act → World → Prop} (hgd : o.guard = none) (s x : Operand)
    (ho : o.op = .call { callee := .builtin .append, args := #[s, x], argTypes := #[60, 60] })
    (base : Nat) (v : Value) (l : List LI) (hs : a.eval s = v) {w0 : World} (hown : OwnI w0 base v l) (u : LI)
    {zz : Nat} (hx : a.eval x = .slice (some ⟨zz, 0, none⟩) 1 1) (hzz : w0.heap.size = zz) (hl : l.length ≤ 1048576) (hbase : base ≤ w0.heap.size)
    (h : ∀ v' w', OwnI w' base v' (l ++ [u]) → Below base w0 w' → (∀ g cur t, Blk w0 g cur t → t ≠ 65 → w'.heap[g]? = w0.heap[g]?) → wpList Try.prog ops Q rest (a.put o.dst v') w') : wpList Try.prog ops Q (o :: rest) a (w0.alloc (.cells #[.slice (some ⟨u.1.1, 0, none⟩) u.1.2.length u.1.2.length, .slice (some ⟨u.2.1, 0, none⟩) u.2.2.2.length u.2.2.1] 65)) := by
  obtain ⟨i0, hi, hz0, hz1, hz2⟩ := info_parts infoLis
  exact wp_pushE (enc := liC) (sz := 2) Try.underlying60 hi hz0 hz1 hz2 rfl (by decide) (by decide) hgd s x ho base v l hs hown u _ rfl rfl (fun y hy => by simp [liC] at hy; rcases hy with rfl | rfl <;> rfl) hx hzz hl hbase
    (fun v' w' q1 q2 q3 => h v' w' q1 q2 (fun g cur t hB ht => q3 g hB.lt (hown.ne hB ht)))
def levels (P : Nat) (h : Int) : List Int → List Ply → List (List Ply)
  | [], l => [l]
  | d :: ds, l => l :: (if nextP P h d l = [] then [] else levels P h ds (nextP P h d l))
theorem levels_length (P : Nat) (h : Int) : ∀ (o : List Int) (l : List Ply), (levels P h o l).length = longN P h o l + 1
  | [], l => rfl
  | d :: ds, l => by
    rw [levels, longN, List.length_cons]
    split
    · rfl
    · rw [levels_length P h ds]
theorem levels_last (P : Nat) (h : Int) : ∀ (o : List Int) (l : List Ply), (levels P h o l)[longN P h o l]? = some (longP P h o l)
  | [], l => rfl
  | d :: ds, l => by
    rw [levels, longN, longP]
    split
    · rfl
    · rw [List.getElem?_cons_succ]
      exact levels_last P h ds _
theorem levels_fine (P : Nat) (h : Int) : ∀ (o : List Int) (l : List Ply), l.length ≤ 3000 → (levels P h o l).all (fun m => decide (m.length ≤ 3000)) = fineP P h o l
  | [], l, hl => by simp [levels, fineP, hl]
  | d :: ds, l, hl => by
    rw [levels, fineP, List.all_cons, decide_eq_true hl, Bool.true_and]
    by_cases e : nextP P h d l = []
    · simp [e]
    · rw [if_neg e, if_neg e]
      by_cases e2 : (nextP P h d l).length ≤ 3000
      · rw [levels_fine P h ds _ e2, decide_eq_true e2, Bool.true_and]
      · rw [decide_eq_false e2, Bool.false_and]
        cases ds <;> simp [levels, e2]
theorem fourNew (w : World) (v1 v2 v3 v4 : Array Value) (t1 t2 t3 t4 : TypeId) :
    Blk ((((w.alloc (.cells v1 t1)).alloc (.cells v2 t2)).alloc (.cells v3 t3)).alloc (.cells v4 t4)) w.heap.size v1 t1 ∧ Blk ((((w.alloc (.cells v1 t1)).alloc (.cells v2 t2)).alloc (.cells v3 t3)).alloc (.cells v4 t4)) (w.heap.size + 1) v2 t2 ∧ Blk ((((w.alloc (.cells v1 t1)).alloc (.cells v2 t2)).alloc (.cells v3 t3)).alloc (.cells v4 t4)) (w.heap.size + 1 + 1) v3 t3 ∧
    Blk ((((w.alloc (.cells v1 t1)).alloc (.cells v2 t2)).alloc (.cells v3 t3)).alloc (.cells v4 t4)) (w.heap.size + 1 + 1 + 1) v4 t4 ∧
    Below w.heap.size w ((((w.alloc (.cells v1 t1)).alloc (.cells v2 t2)).alloc (.cells v3 t3)).alloc (.cells v4 t4)) ∧ ((((w.alloc (.cells v1 t1)).alloc (.cells v2 t2)).alloc (.cells v3 t3)).alloc (.cells v4 t4)).heap.size = w.heap.size + 1 + 1 + 1 + 1 := by
  obtain ⟨h1, h2, h3, h4, h5⟩ := three_new w v1 v2 v3 t1 t2 t3
  have hn := Blk.new (((w.alloc (.cells v1 t1)).alloc (.cells v2 t2)).alloc (.cells v3 t3)) v4 t4
  rw [h5] at hn
  exact ⟨h1.alloc _, h2.alloc _, h3.alloc _, hn, h4.alloc h4.size _, by simp⟩
end Go.Proofs.Ytodlofabffenoaa
