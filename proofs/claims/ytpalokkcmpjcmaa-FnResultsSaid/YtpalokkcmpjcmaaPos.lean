/- Positions in memory: rows of numbers of the call's own, lists of such rows, how they grow. -/
import Derived.Test.YtpalokkcmpjcmaaOwnS
import Derived.Test.YtpalokkcmpjcmaaCln
import Derived.Test.YtpalokkcmpjcmaaStp
import Derived.Test.YtpalokkcmpjcmaaM10c
import Derived.Laws.AppendOwn
namespace Go.Proofs.Ytpalokkcmpjcmaa
open Go.ChangeShapes Go.WideShapes Go.ChangeAt Go.RowKit
set_option linter.unusedVariables false
set_option linter.unusedSimpArgs false

/-- A list of records of one size that the call made itself. -/
def OwnE {α : Type} (enc : α → List Value) (T : TypeId) (sz : Nat) (w : World) (base : Nat) (v : Value) (l : List α) : Prop := w.ownsRow base T sz v l.length (l.flatMap enc)
section
variable {α : Type} {enc : α → List Value} {T : TypeId} {sz : Nat}
theorem OwnE.form {w : World} {base : Nat} {v : Value} {l : List α} (h : OwnE enc T sz w base v l) : ∃ a k, v = .slice a l.length k := by
  rcases h.2 with ⟨h1, h2⟩ | ⟨g, cap, cur, h1, _⟩
  · exact ⟨none, 0, by rw [h1, h2]⟩
  · exact ⟨some ⟨g, 0, none⟩, cap, h1⟩
theorem OwnE.nil (w : World) (base : Nat) : OwnE enc T sz w base (.slice none 0 0) [] := World.ownsRow_nil w base _ _
theorem OwnE.alloc {w : World} {base : Nat} {v : Value} {l : List α} (h : OwnE enc T sz w base v l) (o : Obj) : OwnE enc T sz (w.alloc o) base v l := World.ownsRow.alloc h o
theorem OwnE.below {w w' : World} {base : Nat} {v : Value} {l : List α} (h : OwnE enc T sz w base v l) (hb : Below w.heap.size w w') : OwnE enc T sz w' base v l :=
  World.ownsRow.kept (row := none) h ⟨hb.os, hb.tape, hb.output, hb.size, fun k hk _ => hb.block k hk⟩ (by
    cases hv : v.ownBlock with
    | none => exact .inl rfl
    | some g => exact .inr (by simp))
theorem OwnE.mono {w : World} {base base' : Nat} {v : Value} {l : List α} (h : OwnE enc T sz w base v l) (hb : base' ≤ base) : OwnE enc T sz w base' v l := by
  obtain ⟨h1, h2 | ⟨g, cap, cur, q1, q2, q3⟩⟩ := h
  · exact ⟨h1, .inl h2⟩
  · exact ⟨h1, .inr ⟨g, cap, cur, q1, by omega, q3⟩⟩
theorem OwnE.ne {w : World} {base g : Nat} {v : Value} {l : List α} {cur : Array Value} {t : TypeId} (h : OwnE enc T sz w base v l) (hB : Blk w g cur t) (ht : t ≠ T) : v.ownBlock ≠ some g := by
  intro e
  obtain ⟨_, ⟨h1, _⟩ | ⟨g', cap, cur', rfl, _, hh, _⟩⟩ := h
  · rw [h1] at e
    simp [Value.ownBlock] at e
  · simp [Value.ownBlock] at e
    subst e
    have hB' : w.heap[g']? = some (.cells cur t (0, 0)) := hB
    rw [hh] at hB'
    injection hB' with hB'
    injection hB' with _ h3
    exact ht h3.symm
/-- Such a list of one record, made as a literal. -/
theorem OwnE.one (w : World) (x : α) (cs : Array Value) (hcs : cs.toList = enc x) (hsz : (enc x).length = sz) : OwnE enc T sz (w.alloc (.cells cs T)) w.heap.size (.slice (some ⟨w.heap.size, 0, none⟩) 1 1) [x] := by
  have hn : cs.size = sz := by rw [← Array.length_toList, hcs, hsz]
  refine ⟨by simp [hsz], .inr ⟨w.heap.size, 1, cs, rfl, Nat.le_refl _, Blk.new w cs T, Nat.le_refl _, by unfold maxLen; omega, by rw [hn]; simp, ?_⟩⟩
  simp only [List.flatMap_cons, List.flatMap_nil, List.append_nil]
  rw [← hcs]
  exact List.take_of_length_le (by rw [Array.length_toList, hn]; simp)
/-- One record appended. -/
theorem wp_pushE {TS : TypeId} (hU : Try.prog.underlying TS = some (.slice T)) {i0 : TypeInfo} {z : Value} {by_ : Nat} (hi : Try.prog.info? T = some i0) (hz0 : i0.zero = some z) (hz1 : i0.size = sz) (hz2 : i0.bytes = by_) (hzs : z.cells.size = sz) (hs0 : 0 < sz) (hby : by_ ≤ 100)
    {ops : Array Oper} {rest : List Oper} {o : Oper} {a : Act} {Q : Exit → Act → World → Prop} (hgd : o.guard = none) (s x : Operand)
    (ho : o.op = .call { callee := .builtin .append, args := #[s, x], argTypes := #[TS, TS] })
    (base : Nat) (v : Value) (l : List α) (hs : a.eval s = v) {w0 : World} (hown : OwnE enc T sz w0 base v l) (u : α) (cs : Array Value) (hcs : cs.toList = enc u) (hsz : (enc u).length = sz) (hone : ∀ y ∈ enc u, y.oneCell' = true)
    {zz : Nat} (hx : a.eval x = .slice (some ⟨zz, 0, none⟩) 1 1) (hzz : w0.heap.size = zz) (hl : l.length ≤ 1048576) (hbase : base ≤ w0.heap.size)
    (h : ∀ v' w', OwnE enc T sz w' base v' (l ++ [u]) → Below base w0 w' → (∀ k, k < w0.heap.size → v.ownBlock ≠ some k → w'.heap[k]? = w0.heap[k]?) → wpList Try.prog ops Q rest (a.put o.dst v') w') : wpList Try.prog ops Q (o :: rest) a (w0.alloc (.cells cs T)) := by
  subst hzz
  have hown0 : w0.ownsRow base T sz v l.length (l.flatMap enc) := hown
  refine wpList_append_own _ hgd s x TS ho base T i0 z sz by_ hU hi hz0 hz1 hz2 hzs hs0 v l.length (l.flatMap enc) hs (hown0.alloc _) ⟨w0.heap.size, 0, none⟩ 1 1 (enc u) hx (by rw [hsz, Nat.one_mul])
    (fun j y hj => World.news_of_block (cs := cs) (Blk.new w0 _ T) j y (by rw [hcs]; exact hj)) hone (by unfold maxLen; omega) (Nat.le_trans (Nat.mul_le_mul (by omega : l.length + 1 ≤ 1048577) hby) (by omega)) (by simp; omega) ?_
  intro v' w' hown' hgrow _
  refine h v' w' ?_ (((Below.refl base w0).alloc hbase _).grown hgrow (by simp; omega) (fun k hk => (hown0.lt k hk).1)) (fun k hk hne => ?_)
  · show w'.ownsRow base T sz _ (l ++ [u]).length ((l ++ [u]).flatMap enc)
    rw [List.length_append, List.flatMap_append]
    simpa using hown'
  · rw [hgrow.block k (by simp; omega) (fun hh => hne hh.symm), Below.heap_alloc _ _ _ hk]
end
/-- A position in memory: its block, its room, its numbers. -/
abbrev PQ := Nat × Nat × List Int
abbrev pqV (x : PQ) : Value := .slice (some ⟨x.1, 0, none⟩) x.2.2.length x.2.1
def pqC (x : PQ) : List Value := [pqV x]
abbrev nmQ (l : List PQ) : List (List Int) := l.map fun x => x.2.2
def QAt (lo hi : Nat) (w : World) (x : PQ) : Prop := lo ≤ x.1 ∧ x.1 < hi ∧ Row w x.1 x.2.2
def QAll (lo hi : Nat) (w : World) (l : List PQ) : Prop := ∀ x ∈ l, QAt lo hi w x
/-- Positions that share no block. -/
def QDis (l : List PQ) : Prop := l.Pairwise fun x y => x.1 ≠ y.1
theorem QAt.below {lo hi : Nat} {w w' : World} {x : PQ} (h : QAt lo hi w x) (hb : Below w.heap.size w w') : QAt lo hi w' x := ⟨h.1, h.2.1, h.2.2.below hb⟩
theorem QAt.mono {lo hi lo' hi' : Nat} {w : World} {x : PQ} (h : QAt lo hi w x) (h1 : lo' ≤ lo) (h2 : hi ≤ hi') : QAt lo' hi' w x := ⟨by have := h.1; omega, by have := h.2.1; omega, h.2.2⟩
theorem QAll.below {lo hi : Nat} {w w' : World} {l : List PQ} (h : QAll lo hi w l) (hb : Below w.heap.size w w') : QAll lo hi w' l := fun x hx => (h x hx).below hb
theorem QAll.drew {lo hi : Nat} {w : World} {l : List PQ} (h : QAll lo hi w l) : QAll lo hi w.drew l := h.below (Below.refl _ _).drew
theorem QAll.mono {lo hi lo' hi' : Nat} {w : World} {l : List PQ} (h : QAll lo hi w l) (h1 : lo' ≤ lo) (h2 : hi ≤ hi') : QAll lo' hi' w l := fun x hx => (h x hx).mono h1 h2
theorem QAll.nil (lo hi : Nat) (w : World) : QAll lo hi w [] := fun x hx => by simp at hx
theorem QAll.app {lo hi : Nat} {w : World} {l m : List PQ} (h : QAll lo hi w l) (hm : QAll lo hi w m) : QAll lo hi w (l ++ m) := fun y hy => by
  rcases List.mem_append.1 hy with hy | hy
  · exact h y hy
  · exact hm y hy
theorem QAll.snoc {lo hi : Nat} {w : World} {l : List PQ} {x : PQ} (h : QAll lo hi w l) (hx : QAt lo hi w x) : QAll lo hi w (l ++ [x]) := h.app fun y hy => by simp at hy; subst hy; exact hx
theorem QDis.nil : QDis [] := List.Pairwise.nil
/-- Positions below a mark and positions above it share no block. -/
theorem QDis.app {lo mid lo' hi' : Nat} {w w' : World} {l m : List PQ} (h : QDis l) (hm : QDis m) (hl : QAll lo mid w l) (hh : QAll lo' hi' w' m) (hc : mid ≤ lo') : QDis (l ++ m) :=
  List.pairwise_append.2 ⟨h, hm, fun a ha b hb => by have := (hl a ha).2.1; have := (hh b hb).1; omega⟩
theorem QDis.snoc {lo mid lo' hi' : Nat} {w w' : World} {l : List PQ} {x : PQ} (h : QDis l) (hl : QAll lo mid w l) (hx : QAt lo' hi' w' x) (hc : mid ≤ lo') : QDis (l ++ [x]) :=
  h.app (List.pairwise_singleton _ _) hl (fun y hy => by simp at hy; subst hy; exact hx) hc
/-- A list of positions in memory. -/
abbrev QRow (w : World) (g : Nat) (l : List PQ) : Prop := VRow w g (l.flatMap pqC) 26
theorem pq_at : ∀ (l : List PQ) (k : Nat), (l.flatMap pqC)[k]? = (l[k]?).map pqV
  | [], k => by simp
  | x :: l, 0 => by simp [pqC]
  | x :: l, k + 1 => by simpa [pqC] using pq_at l k
theorem pq_len (l : List PQ) : (l.flatMap pqC).length = l.length := by
  induction l with
  | nil => rfl
  | cons x l ih => simp [pqC, ih]
theorem pq_one (l : List PQ) : ∀ y ∈ l.flatMap pqC, y.oneCell' = true := by
  intro y hy
  obtain ⟨x, _, h⟩ := List.mem_flatMap.1 hy
  simp [pqC] at h
  subst h
  rfl
theorem QRow.at {w : World} {g : Nat} {l : List PQ} (h : QRow w g l) (k : Nat) (x : PQ) (hk : l[k]? = some x) : w.cell? ⟨g, k, none⟩ = some (pqV x) := h.cell k _ (by rw [pq_at, hk]; rfl)
abbrev OwnQ (w : World) (base : Nat) (v : Value) (l : List PQ) : Prop := OwnE pqC 26 1 w base v l
theorem OwnQ.row {w : World} {base g n k : Nat} {l : List PQ} (h : OwnQ w base (.slice (some ⟨g, 0, none⟩) n k) l) : base ≤ g ∧ g < w.heap.size ∧ QRow w g l ∧ n = l.length := by
  obtain ⟨hl, ⟨h1, _⟩ | ⟨g', cap, cur, hv, hb, hh, hc, hm, hs, ht⟩⟩ := h
  · cases h1
  · simp at hv
    obtain ⟨rfl, rfl, rfl⟩ := hv
    refine ⟨hb, (Array.getElem?_eq_some_iff.1 hh).1, ⟨cur, hh, ?_, ?_⟩, rfl⟩
    · rw [hl, hs]; (try omega)
    · rw [hl]; exact ht
theorem OwnQ.some {w : World} {base : Nat} {v : Value} {l : List PQ} (h : OwnQ w base v l) (hl : 0 < l.length) : ∃ g k, v = .slice (some ⟨g, 0, none⟩) l.length k := by
  obtain ⟨_, ⟨h1, h2⟩ | ⟨g', cap, cur, hv, _⟩⟩ := h
  · omega
  · exact ⟨g', cap, hv⟩
theorem infoQ : (Try.prog.info? 26).map (fun i => (i.zero, i.size, i.bytes)) = some (some (.slice none 0 0), 1, 24) := by kernel_rfl
/-- What holds numbers is kept where only lists of positions change. -/
theorem Row.keepT {w w' : World} {g : Nat} {xs : List Int} (h : Row w g xs) (hk : ∀ g cur t, Blk w g cur t → t ≠ 26 → w'.heap[g]? = w.heap[g]?) : Row w' g xs := by
  obtain ⟨cur, hB, h1, h2⟩ := h
  exact ⟨cur, (hk _ _ _ hB (by decide)).trans hB, h1, h2⟩
theorem QAt.keepT {lo hi hi' : Nat} {w w' : World} {x : PQ} (h : QAt lo hi w x) (hk : ∀ g cur t, Blk w g cur t → t ≠ 26 → w'.heap[g]? = w.heap[g]?) (hh : hi ≤ hi') : QAt lo hi' w' x := ⟨h.1, by have := h.2.1; omega, h.2.2.keepT hk⟩
theorem QAll.keepT {lo hi hi' : Nat} {w w' : World} {l : List PQ} (h : QAll lo hi w l) (hk : ∀ g cur t, Blk w g cur t → t ≠ 26 → w'.heap[g]? = w.heap[g]?) (hh : hi ≤ hi') : QAll lo hi' w' l := fun x hx => (h x hx).keepT hk hh
/-- One position appended to a list. -/
theorem wp_pushQ {ops : Array Oper} {rest : List Oper} {o : Oper} {a : Act} {Q : Exit → Act → World → Prop} (hgd : o.guard = none) (s x : Operand)
    (ho : o.op = .call { callee := .builtin .append, args := #[s, x], argTypes := #[31, 31] })
    (base : Nat) (v : Value) (l : List PQ) (hs : a.eval s = v) {w0 : World} (hown : OwnQ w0 base v l) (u : PQ)
    {zz : Nat} (hx : a.eval x = .slice (some ⟨zz, 0, none⟩) 1 1) (hzz : w0.heap.size = zz) (hl : l.length ≤ 1048576) (hbase : base ≤ w0.heap.size)
    (h : ∀ v' w', OwnQ w' base v' (l ++ [u]) → Below base w0 w' → (∀ g cur t, Blk w0 g cur t → t ≠ 26 → w'.heap[g]? = w0.heap[g]?) → wpList Try.prog ops Q rest (a.put o.dst v') w') : wpList Try.prog ops Q (o :: rest) a (w0.alloc (.cells #[pqV u] 26)) := by
  obtain ⟨i0, hi, hz0, hz1, hz2⟩ := info_parts infoQ
  exact wp_pushE (enc := pqC) (sz := 1) Try.underlying31 hi hz0 hz1 hz2 rfl (by decide) (by decide) hgd s x ho base v l hs hown u #[pqV u] rfl rfl (fun y hy => by simp [pqC] at hy; subst hy; rfl) hx hzz hl hbase
    (fun v' w' q1 q2 q3 => h v' w' q1 q2 (fun g cur t hB ht => q3 g hB.lt (hown.ne hB ht)))
/-- A whole list of positions appended to a list of the call's own. -/
theorem wp_pushQs {ops : Array Oper} {rest : List Oper} {o : Oper} {a : Act} {Q : Exit → Act → World → Prop} (hgd : o.guard = none) (s x : Operand)
    (ho : o.op = .call { callee := .builtin .append, args := #[s, x], argTypes := #[31, 31] })
    (base : Nat) (v : Value) (l : List PQ) (hs : a.eval s = v) {w0 : World} (hown : OwnQ w0 base v l) (ad : Addr) (m c : Nat) (ys : List PQ) (hx : a.eval x = .slice (some ad) m c) (hm : ys.length = m)
    (hr : ∀ j y, ys[j]? = some y → w0.cell? (ad.add j) = some (pqV y))
    (hl : l.length + m ≤ 1048576) (hbase : base ≤ w0.heap.size)
    (h : ∀ v' w', OwnQ w' base v' (l ++ ys) → Below base w0 w' → (∀ g cur t, Blk w0 g cur t → t ≠ 26 → w'.heap[g]? = w0.heap[g]?) → (∀ k, k < w0.heap.size → v.ownBlock ≠ .some k → w'.heap[k]? = w0.heap[k]?) → wpList Try.prog ops Q rest (a.put o.dst v') w') : wpList Try.prog ops Q (o :: rest) a w0 := by
  obtain ⟨i0, hi0, hz0, hz1, hz2⟩ := info_parts infoQ
  have hown0 : w0.ownsRow base 26 1 v l.length (l.flatMap pqC) := hown
  refine wpList_append_own _ hgd s x 31 ho base 26 i0 _ 1 24 Try.underlying31 hi0 hz0 hz1 hz2 rfl (by decide) v l.length (l.flatMap pqC) hs hown0 ad m c (ys.flatMap pqC) hx (by rw [pq_len, hm]; omega) ?_ (pq_one ys) (by unfold maxLen; omega) (by omega) hbase ?_
  · intro j u hj
    rw [pq_at] at hj
    cases e : ys[j]? with
    | none => rw [e] at hj; simp at hj
    | some y => rw [e] at hj; simp at hj; subst hj; exact hr j y e
  · intro v' w' hown' hgrow _
    refine h v' w' ?_ ((Below.refl base w0).grown hgrow hbase (fun k hk => (hown0.lt k hk).1)) (fun g cur t hB ht => hgrow.block g hB.lt (fun hh => hown.ne hB ht hh.symm)) (fun k hk hne => hgrow.block k hk (fun hh => hne hh.symm))
    show w'.ownsRow base 26 1 _ (l ++ ys).length ((l ++ ys).flatMap pqC)
    rw [List.length_append, List.flatMap_append, hm]
    exact hown'
/-- The positions of a list from a place on. -/
theorem QRow.news {w : World} {g : Nat} {l : List PQ} (h : QRow w g l) (k : Nat) (j : Nat) (y : PQ) (e : (l.drop k)[j]? = some y) : w.cell? ((⟨g, k, none⟩ : Addr).add j) = some (pqV y) := by
  rw [List.getElem?_drop] at e
  rw [show (⟨g, k, none⟩ : Addr).add j = ⟨g, k + j, none⟩ from by unfold Addr.add; split <;> simp_all]
  exact h.at _ _ e
theorem QRow.newsT {w : World} {g : Nat} {l : List PQ} (h : QRow w g l) (k : Nat) (j : Nat) (y : PQ) (e : (l.take k)[j]? = some y) : w.cell? ((⟨g, 0, none⟩ : Addr).add j) = some (pqV y) := by
  have hj : j < k := by
    rcases Nat.lt_or_ge j k with q | q
    · exact q
    · rw [List.getElem?_take_eq_none q] at e; simp at e
  rw [List.getElem?_take_of_lt hj] at e
  rw [show (⟨g, 0, none⟩ : Addr).add j = ⟨g, j, none⟩ from by unfold Addr.add; split <;> simp_all]
  exact h.at _ _ e
end Go.Proofs.Ytpalokkcmpjcmaa
