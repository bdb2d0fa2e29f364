/- Texts of a proof, laid together. -/
import Derived.Test.YtnlclmlnpkncoaaGreatW02
import Derived.Test.YtnlclmlnpkncoaaGreatW13
import Derived.Test.YtnlclmlnpkncoaaGreatW15
import Derived.Laws.AppendOwn
import Derived.Test.YtnlclmlnpkncoaaGreatW11
import Derived.BigQuiet
import Derived.Deep.QuietTactic
import Derived.Deep.LoopGhost
import Derived.Test.YtnlclmlnpkncoaaGreatW03
namespace Go.Proofs.YtnlclmlnpkncoaaGreat
open Go.ChangeShapes Go.WideShapes Go.ChangeAt Go.RowKit
set_option linter.unusedVariables false
set_option linter.unusedSimpArgs false
def OwnE {α : Type} (enc : α → List Value) (T : TypeId) (sz : Nat) (w : World) (base : Nat) (v : Value) (l : List α) : Prop := w.ownsRow base T sz v l.length (l.flatMap enc)
section
variable {α : Type} {enc : α → List Value} {T : TypeId} {sz : Nat}
theorem OwnE.form {w : World} {base : Nat} {v : Value} {l : List α} (h : OwnE enc T sz w base v l) : ∃ a k, v = .slice a l.length k := by
  rcases h.2 with ⟨h1, h2⟩ | ⟨g, cap, cur, h1, _⟩
  · exact ⟨none, 0, by rw [h1, h2]⟩
  · exact ⟨some ⟨g, 0, none⟩, cap, h1⟩
theorem OwnE.nil (w : World) (base : Nat) : OwnE enc T sz w base (.slice none 0 0) [] := World.ownsRow_nil w base _ _
theorem OwnE.alloc {w : World} {base : Nat} {v : Value} {l : List α} (h : OwnE enc T sz w base v l) (o : Obj) : OwnE enc T sz (w.alloc o) base v l := World.ownsRow.alloc h o
theorem OwnE.below {w w' : World} {base : Nat} {v : Value} {l : List α} (h : OwnE enc T sz w base v l) (hb : Below w.heap.size w w') : OwnE enc T sz w' base v l :=
  World.ownsRow.kept (row := none) h ⟨hb.os, hb.tape, hb.output, hb.size, fun k hk _ => hb.block k hk⟩ (by
    cases hv : v.ownBlock with
    | none => exact .inl rfl
    | some g => exact .inr (by simp))
theorem OwnE.mono {w : World} {base base' : Nat} {v : Value} {l : List α} (h : OwnE enc T sz w base v l) (hb : base' ≤ base) : OwnE enc T sz w base' v l := by
  obtain ⟨h1, h2 | ⟨g, cap, cur, q1, q2, q3⟩⟩ := h
  · exact ⟨h1, .inl h2⟩
  · exact ⟨h1, .inr ⟨g, cap, cur, q1, by omega, q3⟩⟩
theorem OwnE.ne {w : World} {base g : Nat} {v : Value} {l : List α} {cur : Array Value} {t : TypeId} (h : OwnE enc T sz w base v l) (hB : Blk w g cur t) (ht : t ≠ T) : v.ownBlock ≠ some g := by
  intro e
  obtain ⟨_, ⟨h1, _⟩ | ⟨g', cap, cur', rfl, _, hh, _⟩⟩ := h
  · rw [h1] at e
    simp [Value.ownBlock] at e
  · simp [Value.ownBlock] at e
    subst e
    have hB' : w.heap[g']? = some (.cells cur t (0, 0)) := hB
    rw [hh] at hB'
    injection hB' with hB'
    injection hB' with _ h3
    exact ht h3.symm
theorem OwnE.one (w : World) (x : α) (cs : Array Value) (hcs : cs.toList = enc x) (hsz : (enc x).length = sz) : OwnE enc T sz (w.alloc (.cells cs T)) w.heap.size (.slice (some ⟨w.heap.size, 0, none⟩) 1 1) [x] := by
  have hn : cs.size = sz := by rw [← Array.length_toList, hcs, hsz]
  refine ⟨by simp [hsz], .inr ⟨w.heap.size, 1, cs, rfl, Nat.le_refl _, Blk.new w cs T, Nat.le_refl _, by unfold maxLen; omega, by rw [hn]; simp, ?_⟩⟩
  simp only [List.flatMap_cons, List.flatMap_nil, List.append_nil]
  rw [← hcs]
  exact List.take_of_length_le (by rw [Array.length_toList, hn]; simp)
theorem wp_pushE {TS : TypeId} (hU : Tryz.prog.underlying TS = some (.slice T)) {i0 : TypeInfo} {z : Value} {by_ : Nat} (hi : Tryz.prog.info? T = some i0) (hz0 : i0.zero = some z) (hz1 : i0.size = sz) (hz2 : i0.bytes = by_) (hzs : z.cells.size = sz) (hs0 : 0 < sz) (hby : by_ ≤ 100)
    {ops : Array Oper} {rest : List Oper} {o : Oper} {a : Act} {Q : Exit → Act → World → Prop} (hgd : o.guard = none) (s x : Operand)
    (ho : o.op = .call { callee := .builtin .append, args := #[s, x], argTypes := #[TS, TS] })
    (base : Nat) (v : Value) (l : List α) (hs : a.eval s = v) {w0 : World} (hown : OwnE enc T sz w0 base v l) (u : α) (cs : Array Value) (hcs : cs.toList = enc u) (hsz : (enc u).length = sz) (hone : ∀ y ∈ enc u, y.oneCell' = true)
    {zz : Nat} (hx : a.eval x = .slice (some ⟨zz, 0, none⟩) 1 1) (hzz : w0.heap.size = zz) (hl : l.length ≤ 1048576) (hbase : base ≤ w0.heap.size)
    (h : ∀ v' w', OwnE enc T sz w' base v' (l ++ [u]) → Below base w0 w' → (∀ k, k < w0.heap.size → v.ownBlock ≠ some k → w'.heap[k]? = w0.heap[k]?) → wpList Tryz.prog ops Q rest (a.put o.dst v') w') : wpList Tryz.prog ops Q (o :: rest) a (w0.alloc (.cells cs T)) := by
  subst hzz
  have hown0 : w0.ownsRow base T sz v l.length (l.flatMap enc) := hown
  refine wpList_append_own _ hgd s x TS ho base T i0 z sz by_ hU hi hz0 hz1 hz2 hzs hs0 v l.length (l.flatMap enc) hs (hown0.alloc _) ⟨w0.heap.size, 0, none⟩ 1 1 (enc u) hx (by rw [hsz, Nat.one_mul])
    (fun j y hj => World.news_of_block (cs := cs) (Blk.new w0 _ T) j y (by rw [hcs]; exact hj)) hone (by unfold maxLen; omega) (Nat.le_trans (Nat.mul_le_mul (by omega : l.length + 1 ≤ 1048577) hby) (by omega)) (by simp; omega) ?_
  intro v' w' hown' hgrow _
  refine h v' w' ?_ (((Below.refl base w0).alloc hbase _).grown hgrow (by simp; omega) (fun k hk => (hown0.lt k hk).1)) (fun k hk hne => ?_)
  · show w'.ownsRow base T sz _ (l ++ [u]).length ((l ++ [u]).flatMap enc)
    rw [List.length_append, List.flatMap_append]
    simpa using hown'
  · rw [hgrow.block k (by simp; omega) (fun hh => hne hh.symm), Below.heap_alloc _ _ _ hk]
end
abbrev PQ := Nat × Nat × List Int
abbrev pqV (x : PQ) : Value := .slice (some ⟨x.1, 0, none⟩) x.2.2.length x.2.1
def pqC (x : PQ) : List Value := [pqV x]
abbrev nmQ (l : List PQ) : List (List Int) := l.map fun x => x.2.2
def QAt (lo hi : Nat) (w : World) (x : PQ) : Prop := lo ≤ x.1 ∧ x.1 < hi ∧ Row w x.1 x.2.2
def QAll (lo hi : Nat) (w : World) (l : List PQ) : Prop := ∀ x ∈ l, QAt lo hi w x
def QDis (l : List PQ) : Prop := l.Pairwise fun x y => x.1 ≠ y.1
theorem QAt.below {lo hi : Nat} {w w' : World} {x : PQ} (h : QAt lo hi w x) (hb : Below w.heap.size w w') : QAt lo hi w' x := ⟨h.1, h.2.1, h.2.2.below hb⟩
theorem QAt.mono {lo hi lo' hi' : Nat} {w : World} {x : PQ} (h : QAt lo hi w x) (h1 : lo' ≤ lo) (h2 : hi ≤ hi') : QAt lo' hi' w x := ⟨by have := h.1; omega, by have := h.2.1; omega, h.2.2⟩
theorem QAll.below {lo hi : Nat} {w w' : World} {l : List PQ} (h : QAll lo hi w l) (hb : Below w.heap.size w w') : QAll lo hi w' l := fun x hx => (h x hx).below hb
theorem QAll.drew {lo hi : Nat} {w : World} {l : List PQ} (h : QAll lo hi w l) : QAll lo hi w.drew l := h.below (Below.refl _ _).drew
theorem QAll.mono {lo hi lo' hi' : Nat} {w : World} {l : List PQ} (h : QAll lo hi w l) (h1 : lo' ≤ lo) (h2 : hi ≤ hi') : QAll lo' hi' w l := fun x hx => (h x hx).mono h1 h2
theorem QAll.nil (lo hi : Nat) (w : World) : QAll lo hi w [] := fun x hx => by simp at hx
theorem QAll.app {lo hi : Nat} {w : World} {l m : List PQ} (h : QAll lo hi w l) (hm : QAll lo hi w m) : QAll lo hi w (l ++ m) := fun y hy => by
  rcases List.mem_append.1 hy with hy | hy
  · exact h y hy
  · exact hm y hy
theorem QAll.snoc {lo hi : Nat} {w : World} {l : List PQ} {x : PQ} (h : QAll lo hi w l) (hx : QAt lo hi w x) : QAll lo hi w (l ++ [x]) := h.app fun y hy => by simp at hy; subst hy; exact hx
theorem QDis.nil : QDis [] := List.Pairwise.nil
theorem QDis.app {lo mid lo' hi' : Nat} {w w' : World} {l m : List PQ} (h : QDis l) (hm : QDis m) (hl : QAll lo mid w l) (hh : QAll lo' hi' w' m) (hc : mid ≤ lo') : QDis (l ++ m) :=
  List.pairwise_append.2 ⟨h, hm, fun a ha b hb => by have := (hl a ha).2.1; have := (hh b hb).1; omega⟩
theorem QDis.snoc {lo mid lo' hi' : Nat} {w w' : World} {l : List PQ} {x : PQ} (h : QDis l) (hl : QAll lo mid w l) (hx : QAt lo' hi' w' x) (hc : mid ≤ lo') : QDis (l ++ [x]) :=
  h.app (List.pairwise_singleton _ _) hl (fun y hy => by simp at hy; subst hy; exact hx) hc
abbrev QRow (w : World) (g : Nat) (l : List PQ) : Prop := VRow w g (l.flatMap pqC) 26
theorem pq_at : ∀ (l : List PQ) (k : Nat), (l.flatMap pqC)[k]? = (l[k]?).map pqV
  | [], k => by simp
  | x :: l, 0 => by simp [pqC]
  | x :: l, k + 1 => by simpa [pqC] using pq_at l k
theorem pq_len (l : List PQ) : (l.flatMap pqC).length = l.length := by
  induction l with
  | nil => rfl
  | cons x l ih => simp [pqC, ih]
theorem pq_one (l : List PQ) : ∀ y ∈ l.flatMap pqC, y.oneCell' = true := by
  intro y hy
  obtain ⟨x, _, h⟩ := List.mem_flatMap.1 hy
  simp [pqC] at h
  subst h
  rfl
theorem QRow.at {w : World} {g : Nat} {l : List PQ} (h : QRow w g l) (k : Nat) (x : PQ) (hk : l[k]? = some x) : w.cell? ⟨g, k, none⟩ = some (pqV x) := h.cell k _ (by rw [pq_at, hk]; rfl)
abbrev OwnQ (w : World) (base : Nat) (v : Value) (l : List PQ) : Prop := OwnE pqC 26 1 w base v l
theorem OwnQ.row {w : World} {base g n k : Nat} {l : List PQ} (h : OwnQ w base (.slice (some ⟨g, 0, none⟩) n k) l) : base ≤ g ∧ g < w.heap.size ∧ QRow w g l ∧ n = l.length := by
  obtain ⟨hl, ⟨h1, _⟩ | ⟨g', cap, cur, hv, hb, hh, hc, hm, hs, ht⟩⟩ := h
  · cases h1
  · simp at hv
    obtain ⟨rfl, rfl, rfl⟩ := hv
    refine ⟨hb, (Array.getElem?_eq_some_iff.1 hh).1, ⟨cur, hh, ?_, ?_⟩, rfl⟩
    · rw [hl, hs]; (try omega)
    · rw [hl]; exact ht
theorem OwnQ.some {w : World} {base : Nat} {v : Value} {l : List PQ} (h : OwnQ w base v l) (hl : 0 < l.length) : ∃ g k, v = .slice (some ⟨g, 0, none⟩) l.length k := by
  obtain ⟨_, ⟨h1, h2⟩ | ⟨g', cap, cur, hv, _⟩⟩ := h
  · omega
  · exact ⟨g', cap, hv⟩
theorem infoQ : (Tryz.prog.info? 26).map (fun i => (i.zero, i.size, i.bytes)) = some (some (.slice none 0 0), 1, 24) := by kernel_rfl
theorem Row.keepT {w w' : World} {g : Nat} {xs : List Int} (h : Row w g xs) (hk : ∀ g cur t, Blk w g cur t → t ≠ 26 → w'.heap[g]? = w.heap[g]?) : Row w' g xs := by
  obtain ⟨cur, hB, h1, h2⟩ := h
  exact ⟨cur, (hk _ _ _ hB (by decide)).trans hB, h1, h2⟩
theorem QAt.keepT {lo hi hi' : Nat} {w w' : World} {x : PQ} (h : QAt lo hi w x) (hk : ∀ g cur t, Blk w g cur t → t ≠ 26 → w'.heap[g]? = w.heap[g]?) (hh : hi ≤ hi') : QAt lo hi' w' x := ⟨h.1, by have := h.2.1; omega, h.2.2.keepT hk⟩
theorem QAll.keepT {lo hi hi' : Nat} {w w' : World} {l : List PQ} (h : QAll lo hi w l) (hk : ∀ g cur t, Blk w g cur t → t ≠ 26 → w'.heap[g]? = w.heap[g]?) (hh : hi ≤ hi') : QAll lo hi' w' l := fun x hx => (h x hx).keepT hk hh
theorem wp_pushQ {ops : Array Oper} {rest : List Oper} {o : Oper} {a : Act} {Q : Exit → Act → World → Prop} (hgd : o.guard = none) (s x : Operand)
    (ho : o.op = .call { callee := .builtin .append, args := #[s, x], argTypes := #[48, 48] })
    (base : Nat) (v : Value) (l : List PQ) (hs : a.eval s = v) {w0 : World} (hown : OwnQ w0 base v l) (u : PQ)
    {zz : Nat} (hx : a.eval x = .slice (some ⟨zz, 0, none⟩) 1 1) (hzz : w0.heap.size = zz) (hl : l.length ≤ 1048576) (hbase : base ≤ w0.heap.size)
    (h : ∀ v' w', OwnQ w' base v' (l ++ [u]) → Below base w0 w' → (∀ g cur t, Blk w0 g cur t → t ≠ 26 → w'.heap[g]? = w0.heap[g]?) → wpList Tryz.prog ops Q rest (a.put o.dst v') w') : wpList Tryz.prog ops Q (o :: rest) a (w0.alloc (.cells #[pqV u] 26)) := by
  obtain ⟨i0, hi, hz0, hz1, hz2⟩ := info_parts infoQ
  exact wp_pushE (enc := pqC) (sz := 1) Tryz.underlying48 hi hz0 hz1 hz2 rfl (by decide) (by decide) hgd s x ho base v l hs hown u #[pqV u] rfl rfl (fun y hy => by simp [pqC] at hy; subst hy; rfl) hx hzz hl hbase
    (fun v' w' q1 q2 q3 => h v' w' q1 q2 (fun g cur t hB ht => q3 g hB.lt (hown.ne hB ht)))
theorem wp_pushQs {ops : Array Oper} {rest : List Oper} {o : Oper} {a : Act} {Q : Exit → Act → World → Prop} (hgd : o.guard = none) (s x : Operand)
    (ho : o.op = .call { callee := .builtin .append, args := #[s, x], argTypes := #[48, 48] })
    (base : Nat) (v : Value) (l : List PQ) (hs : a.eval s = v) {w0 : World} (hown : OwnQ w0 base v l) (ad : Addr) (m c : Nat) (ys : List PQ) (hx : a.eval x = .slice (some ad) m c) (hm : ys.length = m)
    (hr : ∀ j y, ys[j]? = some y → w0.cell? (ad.add j) = some (pqV y))
    (hl : l.length + m ≤ 1048576) (hbase : base ≤ w0.heap.size)
    (h : ∀ v' w', OwnQ w' base v' (l ++ ys) → Below base w0 w' → (∀ g cur t, Blk w0 g cur t → t ≠ 26 → w'.heap[g]? = w0.heap[g]?) → (∀ k, k < w0.heap.size → v.ownBlock ≠ .some k → w'.heap[k]? = w0.heap[k]?) → wpList Tryz.prog ops Q rest (a.put o.dst v') w') : wpList Tryz.prog ops Q (o :: rest) a w0 := by
  obtain ⟨i0, hi0, hz0, hz1, hz2⟩ := info_parts infoQ
  have hown0 : w0.ownsRow base 26 1 v l.length (l.flatMap pqC) := hown
  refine wpList_append_own _ hgd s x 48 ho base 26 i0 _ 1 24 Tryz.underlying48 hi0 hz0 hz1 hz2 rfl (by decide) v l.length (l.flatMap pqC) hs hown0 ad m c (ys.flatMap pqC) hx (by rw [pq_len, hm]; omega) ?_ (pq_one ys) (by unfold maxLen; omega) (by omega) hbase ?_
  · intro j u hj
    rw [pq_at] at hj
    cases e : ys[j]? with
    | none => rw [e] at hj; simp at hj
    | some y => rw [e] at hj; simp at hj; subst hj; exact hr j y e
  · intro v' w' hown' hgrow _
    refine h v' w' ?_ ((Below.refl base w0).grown hgrow hbase (fun k hk => (hown0.lt k hk).1)) (fun g cur t hB ht => hgrow.block g hB.lt (fun hh => hown.ne hB ht hh.symm)) (fun k hk hne => hgrow.block k hk (fun hh => hne hh.symm))
    show w'.ownsRow base 26 1 _ (l ++ ys).length ((l ++ ys).flatMap pqC)
    rw [List.length_append, List.flatMap_append, hm]
    exact hown'
theorem QRow.news {w : World} {g : Nat} {l : List PQ} (h : QRow w g l) (k : Nat) (j : Nat) (y : PQ) (e : (l.drop k)[j]? = some y) : w.cell? ((⟨g, k, none⟩ : Addr).add j) = some (pqV y) := by
  rw [List.getElem?_drop] at e
  rw [show (⟨g, k, none⟩ : Addr).add j = ⟨g, k + j, none⟩ from by unfold Addr.add; split <;> simp_all]
  exact h.at _ _ e
theorem QRow.newsT {w : World} {g : Nat} {l : List PQ} (h : QRow w g l) (k : Nat) (j : Nat) (y : PQ) (e : (l.take k)[j]? = some y) : w.cell? ((⟨g, 0, none⟩ : Addr).add j) = some (pqV y) := by
  have hj : j < k := by
    rcases Nat.lt_or_ge j k with q | q
    · exact q
    · rw [List.getElem?_take_eq_none q] at e; simp at e
  rw [List.getElem?_take_of_lt hj] at e
  rw [show (⟨g, 0, none⟩ : Addr).add j = ⟨g, j, none⟩ from by unfold Addr.add; split <;> simp_all]
  exact h.at _ _ e
end Go.Proofs.YtnlclmlnpkncoaaGreat
namespace Go.Proofs.YtnlclmlnpkncoaaGreat
open Go.ChangeShapes Go.WideShapes Go.ChangeAt Go.RowKit
set_option linter.unusedVariables false
set_option linter.unusedSimpArgs false
set_option maxRecDepth 4000
theorem hasCheckerF_any (x : Int) (w : World) : Calls Tryz.prog 119 #[.int .i64 x] w fun e w' => e = .returned (.bool (decide (0 < x))) ∧ w = w' := by
  by_cases q : 0 < x
  · rw [decide_eq_true q]
    go_enter Tryz.func119, Tryz.ntmps119
    go_wp2
    go_ret
    exact ⟨rfl, rfl⟩
  · rw [decide_eq_false q]
    go_enter Tryz.func119, Tryz.ntmps119
    go_wp2
    go_ret
    exact ⟨rfl, rfl⟩
set_option maxHeartbeats 1000000 in
theorem afterStep_any (a : Option Addr) (n cap i : Nat) (d : Int) (xs : List Int) (w : World) (hn : xs.length = n) (hle : n ≤ 24) (hi : i < n) (hd : 1 ≤ d ∧ d ≤ 6) (hx : ∀ x ∈ xs, 0 ≤ x ∧ x ≤ 15) (hr : IRow w a xs) :
    Calls Tryz.prog 120 #[.slice a n cap, .int .i64 (i : Int), .int .i64 d] w fun e w' => ∃ u : PQ, e = .returned (pqV u) ∧ u.2.2 = asL xs i d ∧ QAt w.heap.size w'.heap.size w' u ∧ Below w.heap.size w w' := by
  obtain ⟨b, o, rfl, _⟩ := hr 0 (by omega)
  have hC := fun W (r : IRow W (some ⟨b, o, none⟩) xs) => clone_any b o n cap xs W hn (by omega) (by omega) r
  have hx0 := hx _ (getD_mem (xs := xs) (k := i) (by omega))
  subst hn
  obtain ⟨v, hv⟩ : ∃ v, xs.getD i 0 = v := ⟨_, rfl⟩
  have hv0 : 0 ≤ v := by omega
  have hv1 : v ≤ 15 := by omega
  have n1 : (0 : Int) ≤ (i : Int) := by omega
  have n2 : (i : Int) < (xs.length : Int) := by omega
  have n3 : (xs.length : Int) ≤ 24 := by omega
  have n4 := hd.1
  have n5 := hd.2
  have HC := Lib.hid hC
  have HI := Lib.hid hi
  by_cases q : d ≤ (i : Int)
  · obtain ⟨j, hj⟩ : ∃ j, i - d.toNat = j := ⟨_, rfl⟩
    have ej : (i : Int) - d = (j : Int) := by omega
    have hji : j < i := by omega
    have hjl : j < (xs.set i (v - 1)).length := by rw [List.length_set]; omega
    have hx1 := hx _ (getD_mem (xs := xs) (k := j) (by omega))
    obtain ⟨u, hu⟩ : ∃ u, xs.getD j 0 = u := ⟨_, rfl⟩
    have hw : (xs.set i (v - 1)).getD j 0 = u := by rw [set_at _ _ _ _ hi, if_neg (by omega)]; exact hu
    have he : asL xs i d = (xs.set i (v - 1)).set j (u + 1) := by rw [asL, if_pos q, hj, hv, hu]
    have u0 : 0 ≤ u := by omega
    have u1 : u ≤ 15 := by omega
    have m1 : (0 : Int) ≤ (j : Int) := by omega
    have m2 : (j : Int) < (xs.length : Int) := by omega
    have wz : IntKind.i64.wrap ((i : Int) - d) = (j : Int) := by rw [IntWalk.i64_in _ (by omega)]; exact ej
    have HV := Lib.hid hv
    have HJ := Lib.hid hjl
    have HW := Lib.hid hw
    have HE := Lib.hid he
    clear hC hx hx0 hx1 hv hi hjl hw he hu hj hji
    go_enter Tryz.func120, Tryz.ntmps120
    go_wp2_with (go_at_call 88; refine (HC.out _ hr).mono ?_; rintro e w1 ⟨g1, k1, rfl, hg1, R1, hb1⟩; have hc1 := R1.cell i HI.out; have hf1 := R1.free i; rw [HV.out] at hc1; have R2 := R1.set i (v - 1); have hc2 := R2.cell j HJ.out; have hf2 := R2.free j; rw [HW.out] at hc2; have R3 := R2.set j (u + 1); have HR := Lib.hid R3; clear R1 R2 R3)
    go_ret
    have hsz := hb1.size
    have hgl := HR.out.lt
    exact ⟨(g1, k1, asL xs i d), by show Ending.returned (Value.slice (some ⟨g1, 0, none⟩) xs.length k1) = Ending.returned (Value.slice (some ⟨g1, 0, none⟩) (asL xs i d).length k1); rw [asL_len], rfl, ⟨hg1, hgl, by dsimp only; rw [HE.out]; exact HR.out⟩, (hb1.setCell (p := ⟨g1, i, none⟩) (by show _ ≤ g1; omega) _).setCell (p := ⟨g1, j, none⟩) (by show _ ≤ g1; omega) _⟩
  · have he : asL xs i d = xs.set i (v - 1) := by rw [asL, if_neg q, hv]
    have HV := Lib.hid hv
    have HE := Lib.hid he
    clear hC hx hx0 hv hi he
    go_enter Tryz.func120, Tryz.ntmps120
    go_wp2_with (go_at_call 88; refine (HC.out _ hr).mono ?_; rintro e w1 ⟨g1, k1, rfl, hg1, R1, hb1⟩; have hc1 := R1.cell i HI.out; have hf1 := R1.free i; rw [HV.out] at hc1; have R2 := R1.set i (v - 1); have HR := Lib.hid R2; clear R1 R2)
    go_ret
    have hsz := hb1.size
    have hgl := HR.out.lt
    exact ⟨(g1, k1, asL xs i d), by show Ending.returned (Value.slice (some ⟨g1, 0, none⟩) xs.length k1) = Ending.returned (Value.slice (some ⟨g1, 0, none⟩) (asL xs i d).length k1); rw [asL_len], rfl, ⟨hg1, hgl, by dsimp only; rw [HE.out]; exact HR.out⟩, hb1.setCell (p := ⟨g1, i, none⟩) (by show _ ≤ g1; omega) _⟩
def LstGot (L : List (List Int)) (w : World) (e : Ending) (w' : World) : Prop :=
  ∃ v l, e = .returned v ∧ OwnQ w' w.heap.size v l ∧ nmQ l = L ∧ QAll w.heap.size w'.heap.size w' l ∧ QDis l ∧ Below w.heap.size w w'
theorem nm_len {l : List PQ} {L : List (List Int)} (h : nmQ l = L) : l.length = L.length := by rw [← h, List.length_map]
theorem adK_len (p : List Int) (d : Int) : ∀ j, (adK p d j).length ≤ j
  | 0 => Nat.le_refl _
  | j + 1 => by
    have := adK_len p d j
    rw [adK, List.length_append]
    split <;> simp <;> omega
set_option maxHeartbeats 2000000 in
theorem afterDie_any (a : Option Addr) (n cap : Nat) (d : Int) (xs : List Int) (w : World) (hn : xs.length = n) (h1 : 1 ≤ n) (hle : n ≤ 24) (hd : 1 ≤ d ∧ d ≤ 6) (hx : ∀ x ∈ xs, 0 ≤ x ∧ x ≤ 15) (hr : IRow w a xs) :
    Calls Tryz.prog 94 #[.slice a n cap, .int .i64 d] w (LstGot (adL xs d) w) := by
  subst hn
  have hS := fun (i : Nat) (hi : i < xs.length) W (r : IRow W a xs) => afterStep_any a xs.length cap i d xs W rfl hle hi hd hx r
  obtain ⟨b, o, rfl, _⟩ := hr 0 (by omega)
  have hC := fun W (r : IRow W (some ⟨b, o, none⟩) xs) => clone_any b o xs.length cap xs W rfl h1 (by omega) r
  have HS := Lib.hid hS
  have HC := Lib.hid hC
  have HX := Lib.hid hx
  have d0 := hd.1
  have d1 := hd.2
  have n0 : (xs.length : Int) ≤ 24 := by omega
  clear hS hC hx hd
  go_enter Tryz.func94, Tryz.ntmps94
  go_wp2_with fail
  go_loopg [5, 6] (xs.length + 1) (fun m v i wr => ∃ (j : Nat) (l : List PQ), j ≤ xs.length ∧ m = xs.length + 1 - j ∧ i = .int .i64 ((xs.length : Int) - 1 - j) ∧ OwnQ wr w.heap.size v l ∧ nmQ l = adK xs d j ∧ QAll w.heap.size wr.heap.size wr l ∧ QDis l ∧ Below w.heap.size w wr)
  case atStart => exact ⟨0, [], by omega, by omega, by go_num, OwnE.nil _ _, rfl, QAll.nil _ _ _, QDis.nil, Below.refl _ _⟩
  case round =>
    obtain ⟨j, l, hj, hm, rfl, hO, hL, hA, hD, hb⟩ := hrel
    have hr2 := hr.below hb
    obtain ⟨aV, kV, rfl⟩ := hO.form
    have hll := nm_len hL
    have hlj := adK_len xs d j
    by_cases hlt : j < xs.length
    · obtain ⟨I, hI⟩ : ∃ I, xs.length - 1 - j = I := ⟨_, rfl⟩
      have ei : (xs.length : Int) - 1 - (j : Int) = (I : Int) := by omega
      have hIl : I < xs.length := by omega
      rw [ei]
      have hcl := hr2 I hIl
      obtain ⟨b2, o2, he2, hc⟩ := hcl
      cases he2
      have hstep : adK xs d (j + 1) = adK xs d j ++ (if 0 < xs.getD I 0 ∧ (d ≤ (I : Int) + 1 ∨ adK xs d j = []) then [asL xs I d] else []) := by rw [adK, hI]
      have i0 : (0 : Int) ≤ (I : Int) := by omega
      have i1 : (I : Int) < (xs.length : Int) := by omega
      have hx0 := HX.out _ (getD_mem (xs := xs) (k := I) hIl)
      obtain ⟨x, hxe⟩ : ∃ x, xs.getD I 0 = x := ⟨_, rfl⟩
      rw [hxe] at hc hstep hx0
      have wz : IntKind.i64.wrap ((I : Int) + 1) = (I : Int) + 1 := IntWalk.i64_in _ (by omega)
      have HSI := Lib.hid (HS.out I hIl)
      have hgo : ∀ (same : ¬ (0 < x ∧ (d ≤ (I : Int) + 1 ∨ adK xs d j = []))), adK xs d (j + 1) = adK xs d j := fun q => by rw [hstep, if_neg q, List.append_nil]
      have hgy : ∀ (q : 0 < x ∧ (d ≤ (I : Int) + 1 ∨ adK xs d j = [])), adK xs d (j + 1) = adK xs d j ++ [asL xs I d] := fun q => by rw [hstep, if_pos q]
      have hnil : (l.length : Int) = 0 ↔ adK xs d j = [] := by rw [← List.length_eq_zero_iff]; omega
      have HI := Lib.hid ei
      have HL := Lib.hid hL
      have hl24 : l.length ≤ 24 := by omega
      clear hstep hll hlj hI hIl hxe hL
      by_cases q : 0 < x
      · have hdx : decide (0 < x) = true := decide_eq_true q
        by_cases q2 : d ≤ (I : Int) + 1 ∨ adK xs d j = []
        · have HN := Lib.hid (hgy ⟨q, q2⟩)
          clear hgo hgy
          by_cases q3 : d ≤ (I : Int) + 1
          · clear q2 hnil
            go_wp2_with (first | (go_at_call 119; refine (hasCheckerF_any _ _).mono ?_; rintro e w5 ⟨rfl, rfl⟩) | (go_at_call 120; refine (HSI.out _ hr2).mono ?_; rintro e w6 ⟨u, rfl, hu, hQ, hb6⟩; replace hO := hO.below hb6; have hA6 := hA.below hb6; have hz6 := hb6.size; have hz0 := hb.size; have hQ6 := hQ; replace hb := chain hb hb6) | (at_builtin; go_loud (refine wp_pushQ rfl (.tmp 30) (.tmp 35) rfl w.heap.size _ l rfl hO u rfl (by first | rfl | simp) (by omega) (by omega) ?_; intro v7 w7 hO7 hb7 hk7)))
            go_roundg (xs.length + 1 - (j + 1))
            case measure => omega
            case rel =>
              have hz7 := hb7.size
              exact ⟨j + 1, l ++ [u], by omega, by omega, by (have := HI.out); go_num, hO7, by show List.map _ (l ++ [u]) = _; rw [List.map_append, HN.out]; show nmQ l ++ [u.2.2] = _; rw [HL.out, hu], ((hA6.keepT hk7 (by omega)).mono (Nat.le_refl _) (Nat.le_refl _)).snoc ((hQ6.keepT hk7 (by omega)).mono (by omega) (Nat.le_refl _)), hD.snoc hA6 hQ6 (by omega), hb.trans hb7⟩
          · have q4 : (l.length : Int) = 0 := hnil.2 (by rcases q2 with q2 | q2; exact absurd q2 q3; exact q2)
            clear q2 hnil
            go_wp2_with (first | (go_at_call 119; refine (hasCheckerF_any _ _).mono ?_; rintro e w5 ⟨rfl, rfl⟩) | (go_at_call 120; refine (HSI.out _ hr2).mono ?_; rintro e w6 ⟨u, rfl, hu, hQ, hb6⟩; replace hO := hO.below hb6; have hA6 := hA.below hb6; have hz6 := hb6.size; have hz0 := hb.size; have hQ6 := hQ; replace hb := chain hb hb6) | (at_builtin; go_loud (refine wp_pushQ rfl (.tmp 30) (.tmp 35) rfl w.heap.size _ l rfl hO u rfl (by first | rfl | simp) (by omega) (by omega) ?_; intro v7 w7 hO7 hb7 hk7)))
            go_roundg (xs.length + 1 - (j + 1))
            case measure => omega
            case rel =>
              have hz7 := hb7.size
              exact ⟨j + 1, l ++ [u], by omega, by omega, by (have := HI.out); go_num, hO7, by show List.map _ (l ++ [u]) = _; rw [List.map_append, HN.out]; show nmQ l ++ [u.2.2] = _; rw [HL.out, hu], ((hA6.keepT hk7 (by omega)).mono (Nat.le_refl _) (Nat.le_refl _)).snoc ((hQ6.keepT hk7 (by omega)).mono (by omega) (Nat.le_refl _)), hD.snoc hA6 hQ6 (by omega), hb.trans hb7⟩
        · have HN := Lib.hid (hgo (fun h => q2 h.2))
          have q3 : ¬ d ≤ (I : Int) + 1 := fun h => q2 (.inl h)
          have q4 : ¬ (l.length : Int) = 0 := fun h => q2 (.inr (hnil.1 h))
          have q5 : ((l.length : Int) == 0) = false := by rw [beq_eq_false_iff_ne]; exact q4
          have q6 : decide (d ≤ (I : Int) + 1) = false := decide_eq_false q3
          clear hgo hgy q2 hnil
          go_wp2_with (go_at_call 119; refine (hasCheckerF_any _ _).mono ?_; rintro e w5 ⟨rfl, rfl⟩)
          go_roundg (xs.length + 1 - (j + 1))
          case measure => omega
          case rel => exact ⟨j + 1, l, by omega, by omega, by (have := HI.out); go_num, hO, by rw [HN.out]; exact HL.out, hA, hD, hb⟩
      · have hdx : decide (0 < x) = false := decide_eq_false q
        have HN := Lib.hid (hgo (fun h => q h.1))
        clear hgo hgy hnil
        go_wp2_with (go_at_call 119; refine (hasCheckerF_any _ _).mono ?_; rintro e w5 ⟨rfl, rfl⟩)
        go_roundg (xs.length + 1 - (j + 1))
        case measure => omega
        case rel => exact ⟨j + 1, l, by omega, by omega, by (have := HI.out); go_num, hO, by rw [HN.out]; exact HL.out, hA, hD, hb⟩
    · obtain rfl : j = xs.length := by omega
      have hm1 : (xs.length : Int) - 1 - (xs.length : Int) = -1 := by omega
      rw [hm1]
      have ha : adL xs d = if l.length = 0 then [xs] else adK xs d xs.length := by
        unfold adL
        rw [hll]
        simp only [List.length_eq_zero_iff]
      by_cases q : l.length = 0
      · have q4 : (l.length : Int) = 0 := by omega
        have HQ := Lib.hid (ha.trans (if_pos q))
        have hr3 := hr2
        clear ha
        go_wp2_with (go_at_call 88; refine (HC.out _ hr3).mono ?_; rintro e w1 ⟨g1, k1, rfl, hg1, R1, hb1⟩)
        go_ret
        have hz1 := hb.size
        refine ⟨_, [(g1, k1, xs)], rfl, OwnE.mono (OwnE.one _ (g1, k1, xs) _ rfl rfl) (by have := hb1.size; omega), by rw [HQ.out]; rfl, fun y hy => ?_, List.pairwise_singleton _ _, (chain hb hb1).alloc (by have := hb1.size; omega) _⟩
        simp at hy
        subst hy
        exact ⟨by dsimp only; omega, by have := R1.lt; simp; omega, R1.alloc _⟩
      · have q4 : ¬ (l.length : Int) = 0 := by omega
        have HQ := Lib.hid (ha.trans (if_neg q))
        have q5 : ((l.length : Int) == 0) = false := by rw [beq_eq_false_iff_ne]; exact q4
        clear ha
        go_wp2_with fail
        go_ret
        exact ⟨_, l, rfl, hO, by rw [HQ.out]; exact hL, hA, hD, hb⟩
theorem compare64_same (a b : Int) (w : World) : Calls Tryz.prog 123 #[.int .i64 a, .int .i64 b] w fun e w' => e = .returned (.int .i64 (sg3 a b)) ∧ w' = w := (compare64_any a b w).mono fun _ _ h => ⟨h.1, h.2.symm⟩
theorem rev_drop (xs : List Int) (j n : Nat) (hn : xs.length = n) (h : j < n) : xs.reverse.drop j = xs.getD (n - 1 - j) 0 :: xs.reverse.drop (j + 1) := by
  subst hn
  rw [List.drop_eq_getElem_cons (by simpa using h)]
  congr 1
  rw [List.getElem_reverse, List.getD_eq_getElem?_getD, List.getElem?_eq_getElem (by omega)]
  rfl
set_option maxHeartbeats 1000000 in
theorem comparePositions_any (a b : Option Addr) (n ca cb : Nat) (xs ys : List Int) (w : World) (hx : xs.length = n) (hy : ys.length = n) (hle : n ≤ 1048576) (ra : ∀ k, IRow (w.drewN k) a xs) (rb : ∀ k, IRow (w.drewN k) b ys) :
    Calls Tryz.prog 96 #[.slice a n ca, .slice b n cb] w fun e w' => e = .returned (.int .i64 (cmpP xs ys)) ∧ ∃ q, w' = w.drewN q := by
  obtain ⟨R, hR⟩ : ∃ R, cmpP xs ys = R := ⟨_, rfl⟩
  rw [hR]
  have h0 : lexC (xs.reverse.drop 0) (ys.reverse.drop 0) = R := hR
  have HX := Lib.hid hx
  have HY := Lib.hid hy
  have n0 : (n : Int) ≤ 1048576 := by omega
  clear hR hx hy
  go_enter Tryz.func96, Tryz.ntmps96
  go_wp2_with fail
  go_loopg [5, 6] (n + 1) (fun m i t wr => ∃ j q : Nat, j ≤ n ∧ m = n + 1 - j ∧ i = .int .i64 ((n : Int) - 1 - j) ∧ lexC (xs.reverse.drop j) (ys.reverse.drop j) = R ∧ w.drewN q = wr)
  case atStart => exact ⟨0, 0, by omega, by omega, by go_num, h0, rfl⟩
  case round =>
    clear h0
    obtain ⟨j, q, hj, hm, rfl, hl, hW⟩ := hrel
    have ra1 := ra q
    have rb1 := rb q
    rw [hW] at ra1 rb1
    by_cases hlt : j < n
    · obtain ⟨I, hI⟩ : ∃ I, n - 1 - j = I := ⟨_, rfl⟩
      have ei : (n : Int) - 1 - (j : Int) = (I : Int) := by omega
      rw [rev_drop xs j n HX.out hlt, rev_drop ys j n HY.out hlt, lexC_cons, hI] at hl
      obtain ⟨b1, o1, rfl, hc1⟩ := ra1 I (by have := HX.out; omega)
      obtain ⟨b2, o2, rfl, hc2⟩ := rb1 I (by have := HY.out; omega)
      obtain ⟨x, hxe⟩ : ∃ x, xs.getD I 0 = x := ⟨_, rfl⟩
      obtain ⟨y, hye⟩ : ∃ y, ys.getD I 0 = y := ⟨_, rfl⟩
      rw [hxe, hye] at hl
      rw [hxe] at hc1
      rw [hye] at hc2
      rw [ei]
      have i0 : (0 : Int) ≤ (I : Int) := by omega
      have i1 : (I : Int) < (n : Int) := by omega
      have hcc := fun W => compare64_same x y W
      unfold sg3 at hcc
      have HI := Lib.hid ei
      clear hI hxe hye ei hj
      by_cases c1 : x < y
      · rw [if_pos c1] at hl hcc
        subst hl
        have HC := Lib.hid hcc
        clear hcc
        go_wp2_with fail
        go_quiet (first | (go_at_call 123; refine Calls.quiet_of_same (HC.out _)))
        go_wp2
        go_ret
        exact ⟨rfl, _, by rw [← hW, World.drewN_drewN]⟩
      · by_cases c2 : y < x
        · rw [if_neg c1, if_pos c2] at hl hcc
          subst hl
          have HC := Lib.hid hcc
          clear hcc
          go_wp2_with fail
          go_quiet (first | (go_at_call 123; refine Calls.quiet_of_same (HC.out _)))
          go_wp2
          go_ret
          exact ⟨rfl, _, by rw [← hW, World.drewN_drewN]⟩
        · rw [if_neg c1, if_neg c2] at hl hcc
          have HC := Lib.hid hcc
          have HL := Lib.hid hl
          clear hcc hl
          go_wp2_with fail
          go_quiet (first | (go_at_call 123; refine Calls.quiet_of_same (HC.out _)))
          go_wp2
          go_roundg (n + 1 - (j + 1))
          case measure => omega
          case rel => exact ⟨j + 1, _, by omega, by omega, by (have := HI.out); go_num, HL.out, by rw [← hW, World.drewN_drewN]⟩
    · obtain rfl : j = n := by omega
      have hR : R = 0 := by
        rw [← hl, List.drop_eq_nil_of_le (by rw [List.length_reverse, HX.out]; exact Nat.le_refl _), List.drop_eq_nil_of_le (by rw [List.length_reverse, HY.out]; exact Nat.le_refl _)]
        rfl
      have hm1 : (j : Int) - 1 - (j : Int) = -1 := by omega
      rw [hm1]
      subst hR
      go_wp2
      go_ret
      exact ⟨rfl, q, hW.symm⟩
theorem grownBy_sortW {α : Type} [Inhabited α] (enc : α → Value) {w : World} {g m : Nat} {os : Array Obj} (d : Array α) : w.grownBy (sortWorld enc w g 0 m d os) (some g) := by
  refine ⟨rfl, rfl, rfl, by simp [sortWorld], fun k hk hne => ?_⟩
  unfold sortWorld
  rw [Go.Sort.heap_grow_old _ _ (by simpa using hk)]
  have : g ≠ k := fun e => hne (by rw [e])
  simp [Go.Sort.putRow, Go.Sort.mapBlock, Go.Sort.ahead, Array.getElem?_modify, this]
theorem heap_sortW {α : Type} [Inhabited α] (enc : α → Value) {w : World} {g m : Nat} {os : Array Obj} {cur : Array Value} {e : TypeId} {fr : Nat × Nat} (d : Array α) (hb : w.heap[g]? = some (.cells cur e fr)) :
    (sortWorld enc w g 0 m d os).heap[g]? = some (.cells (Go.Sort.putCells enc 0 d cur) e fr) := by
  have hg : g < w.heap.size := (Array.getElem?_eq_some_iff.1 hb).1
  unfold sortWorld
  rw [Go.Sort.heap_grow_old _ _ (by simpa using hg)]
  simp [Go.Sort.putRow, Go.Sort.mapBlock, Go.Sort.ahead, Array.getElem?_modify, hb, Go.Sort.onCells]
theorem take_putC {α : Type} [Inhabited α] (enc : α → Value) (cur : Array Value) (ts : Array α) (h : ts.size ≤ cur.size) : (Go.Sort.putCells enc 0 ts cur).toList.take ts.size = ts.toList.map enc := by
  apply List.ext_getElem?
  intro j
  by_cases hj : j < ts.size
  · rw [List.getElem?_take_of_lt hj, Array.getElem?_toList]
    simp [Go.Sort.putCells, hj, show j < cur.size by omega]
  · rw [List.getElem?_take_eq_none (by omega), List.getElem?_eq_none (by simp; omega)]
abbrev PA (w : World) (g n : Nat) := { x : PQ // Row w x.1 x.2.2 ∧ x.2.2.length = n ∧ x.1 ≠ g }
theorem mapPQ (l : List PQ) : l.flatMap pqC = l.map pqV := by
  induction l with
  | nil => rfl
  | cons x l ih => simp [pqC, ih]
theorem cmpLaysP (w : World) (g n size : Nat) (hle : n ≤ 1048576) [Inhabited (PA w g n)] : CmpLays1 Tryz.prog 96 #[] (fun x : PA w g n => pqV x.1) (fun x y => cmpP x.1.2.2 y.1.2.2) g 0 size w := by
  intro m os dk _ x y
  obtain ⟨W, hW⟩ : ∃ W, sortWorld (fun x : PA w g n => pqV x.1) w g 0 m dk os = W := ⟨_, rfl⟩
  have hg : w.grownBy W (some g) := by rw [← hW]; exact grownBy_sortW _ _
  rw [hW]
  obtain ⟨⟨gx, kx, xs⟩, rx, hx, nx⟩ := x
  obtain ⟨⟨gy, ky, ys⟩, ry, hy, ny⟩ := y
  dsimp only at rx hx nx ry hy ny
  have hr : ∀ {gz : Nat} {zs : List Int}, Row w gz zs → gz ≠ g → ∀ k, IRow (W.drewN k) (some ⟨gz, 0, none⟩) zs := fun r ne k => ((r.grown hg ne).below (below_drewN (Below.refl _ _) k)).irow
  have h := comparePositions_any (some ⟨gx, 0, none⟩) (some ⟨gy, 0, none⟩) n kx ky xs ys W hx hy hle (hr rx nx) (hr ry ny)
  have e1 : (#[pqV (gx, kx, xs), pqV (gy, ky, ys)] ++ #[] : Array Value) = #[.slice (some ⟨gx, 0, none⟩) n kx, .slice (some ⟨gy, 0, none⟩) n ky] := by
    simp only [Array.append_empty, pqV, hx, hy]
  show Calls Tryz.prog 96 (#[pqV (gx, kx, xs), pqV (gy, ky, ys)] ++ #[]) W _
  rw [e1]
  exact h.mono fun _ _ ⟨he, q, hq⟩ => ⟨he, q, #[], by rw [hq, Go.Sort.grow_empty]⟩
set_option maxHeartbeats 1000000 in
theorem sortPos_any (base lo hi g cap n : Nat) (l : List PQ) (w : World) (hle : n ≤ 1048576) (hl0 : 0 < l.length) (hl : l.length ≤ 1048576) (hO : OwnQ w base (.slice (some ⟨g, 0, none⟩) l.length cap) l) (hA : QAll lo hi w l) (hn : ∀ x ∈ l, x.2.2.length = n) :
    Calls Tryz.prog 95 #[.slice (some ⟨g, 0, none⟩) l.length cap, .func (.func 96) #[] #[]] w fun e w' => e = .returned (.tuple #[]) ∧ ∃ l', l'.Perm l ∧ (nmQ l').Pairwise (fun a b => ltP b a = false) ∧ OwnQ w' base (.slice (some ⟨g, 0, none⟩) l.length cap) l' ∧ w.grownBy w' (some g) := by
  obtain ⟨hb0, hgl, hQ, -⟩ := hO.row
  have hne : ∀ x ∈ l, x.1 ≠ g := fun x hx e => by
    obtain ⟨cur, hB, _⟩ := (hA x hx).2.2
    rw [e] at hB
    obtain ⟨cur2, hB2, _⟩ := hQ
    have : some (Obj.cells cur 2 (0, 0)) = some (Obj.cells cur2 26 (0, 0)) := hB.symm.trans hB2
    injection this with this
    injection this with _ h3
    exact absurd h3 (by decide)
  have hP : ∀ x ∈ l, Row w x.1 x.2.2 ∧ x.2.2.length = n ∧ x.1 ≠ g := fun x hx => ⟨(hA x hx).2.2, hn x hx, hne x hx⟩
  obtain ⟨L, hL⟩ : ∃ L : List (PA w g n), L.map (fun x => x.1) = l := ⟨l.attach.map fun x => ⟨x.1, hP x.1 x.2⟩, by
    rw [List.map_map]
    exact List.attach_map_subtype_val l⟩
  have hLl : L.length = l.length := by rw [← hL, List.length_map]
  haveI : Inhabited (PA w g n) := ⟨L[0]'(by omega)⟩
  have hlt : ∀ x y : PA w g n, ltOf (fun x y : PA w g n => cmpP x.1.2.2 y.1.2.2) x y = ltP x.1.2.2 y.1.2.2 := fun x y => rfl
  have hSWO : Go.Sort.SWO (ltOf fun x y : PA w g n => cmpP x.1.2.2 y.1.2.2) :=
    ⟨fun x => by rw [hlt]; exact ltP_irr _, fun x y z h1 h2 => by rw [hlt] at *; exact ltP_trans (by rw [x.2.2.1, y.2.2.1]) (by rw [y.2.2.1, z.2.2.1]) h1 h2, fun x y z h1 h2 => by rw [hlt] at *; exact ltP_ntrans (by rw [x.2.2.1, y.2.2.1]) (by rw [y.2.2.1, z.2.2.1]) h1 h2⟩
  have eg : ∀ args w2, (callFunc 96 args).run Tryz.prog w2 = .ok (.enter 96 args) w2 := fun args w2 => by kernel_rfl
  have hH : Go.Sort.Holds (fun x : PA w g n => pqV x.1) w g 0 L.toArray := by
    intro j hj
    have hj' : j < L.length := by simpa using hj
    refine ⟨?_, hQ.free _⟩
    rw [Nat.zero_add]
    have e : l[j]? = some (L[j]'hj').1 := by
      have e0 : (L.map (fun x => x.1))[j]? = some (L[j]'hj').1 := by rw [List.getElem?_map, List.getElem?_eq_getElem hj']; rfl
      exact (congrArg (fun z => z[j]?) hL).symm.trans e0
    rw [hQ.at j _ e]
    simp [hj']
  have hcon := Tryz.slices_SortFunc (fun x : PA w g n => pqV x.1) (fun _ => rfl) (fun x y => cmpP x.1.2.2 y.1.2.2) hSWO 96 #[] g 0 cap L.toArray w eg (cmpLaysP w g n _ hle) hH hgl (by simp; omega)
  have es : L.toArray.size = l.length := by simpa using hLl
  rw [es] at hcon
  refine hcon.mono ?_
  rintro e w' ⟨rfl, d', m, os, hp, hs, rfl⟩
  obtain ⟨hsz, _, hperm⟩ := hp
  rw [es] at hsz
  refine ⟨rfl, d'.toList.map (fun x => x.1), ?_, ?_, ?_, grownBy_sortW _ _⟩
  · have e1 : d'.extract 0 l.length = d' := by rw [← hsz]; simp
    have e2 : L.toArray.extract 0 l.length = L.toArray := by rw [← es]; simp
    rw [e1, e2] at hperm
    have := hperm.map (fun x : PA w g n => x.1)
    rw [← hL]
    simpa using this
  · rw [nmQ, List.map_map, List.pairwise_map, List.pairwise_iff_getElem]
    intro i j hi hj hij
    have hi' : i < d'.size := by simpa using hi
    have hj' : j < d'.size := by simpa using hj
    have := hs i j (by omega) hij (by omega)
    rw [hlt, getElem!_pos d' i hi', getElem!_pos d' j hj'] at this
    simpa using this
  · obtain ⟨hx, ⟨h1, _⟩ | ⟨g', cap', cur, hv, hbg, hh, hc, hm, hcs, ht⟩⟩ := hO
    · cases h1
    · simp at hv
      obtain ⟨rfl, rfl⟩ := hv
      have hdl : (d'.toList.map (fun x => x.1)).length = l.length := by simp [hsz]
      refine ⟨by rw [pq_len, hdl]; omega, .inr ⟨g, cap, _, by rw [hdl], hbg, heap_sortW _ _ hh, by omega, hm, by simp [Go.Sort.putCells, hcs], ?_⟩⟩
      rw [mapPQ, hdl, List.map_map, Nat.mul_one, ← hsz]
      exact take_putC _ cur d' (by omega)
end Go.Proofs.YtnlclmlnpkncoaaGreat
