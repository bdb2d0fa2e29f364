/- Texts of a proof, laid together: All plays of a roll: mathematics. Where a slice of the call's own lies behind an append: where it lay, or in a block of its own. -/
import Derived.Test.YtknkbhmgdddjkaaGreatY14
import Derived.Test.YtknkbhmgdddjkaaGreatY08
import Derived.Laws.AppendOwn
namespace Go.Proofs.YtknkbhmgdddjkaaGreat
open Go.ChangeShapes Go.WideShapes Go.ChangeAt Go.RowKit
set_option linter.unusedVariables false
set_option linter.unusedSimpArgs false

/-- The plays that are kept when one order more is over. -/
def allStep (P : Nat) (h : Int) (xs ys : List Int) (U : Nat) (out : List Ply) (i : Nat) (o : List Int) : List Ply :=
  if longN P h o (startP xs ys) ≠ U ∨ (U = 1 ∧ i = 1 ∧ 0 < out.length) then out else addAll out (longP P h o (startP xs ys))
def allTo (P : Nat) (h : Int) (xs ys : List Int) (U : Nat) (l : List (List Int)) : Nat → List Ply
  | 0 => []
  | k + 1 => match l[k]? with
    | none => allTo P h xs ys U l k
    | some o => allStep P h xs ys U (allTo P h xs ys U l k) k o
def okTo (P : Nat) (h : Int) (xs ys : List Int) (l : List (List Int)) : Nat → Bool
  | 0 => true
  | k + 1 => match l[k]? with
    | none => okTo P h xs ys l k
    | some o => okTo P h xs ys l k && fineP P h o (startP xs ys)
theorem allTo_succ (P : Nat) (h : Int) (xs ys : List Int) (U : Nat) (l : List (List Int)) (k : Nat) (o : List Int) (ho : l[k]? = some o) : allTo P h xs ys U l (k + 1) = allStep P h xs ys U (allTo P h xs ys U l k) k o := by
  rw [allTo, ho]
theorem okTo_succ (P : Nat) (h : Int) (xs ys : List Int) (l : List (List Int)) (k : Nat) (o : List Int) (ho : l[k]? = some o) : okTo P h xs ys l (k + 1) = (okTo P h xs ys l k && fineP P h o (startP xs ys)) := by
  rw [okTo, ho]
/-- All plays of a roll, and that no list was too long. -/
def allP (P : Nat) (h : Int) (xs ys : List Int) (ra rb : Int) : List Ply := allTo P h xs ys (usedP P h xs ys ra rb) (ordersP ra rb) (ordersP ra rb).length
def allOk (P : Nat) (h : Int) (xs ys : List Int) (ra rb : Int) : Bool := okTo P h xs ys (ordersP ra rb) (ordersP ra rb).length
theorem addAll_fine {p c h s : Int} {out l : List Ply} (g : Fine p c h s out) (g2 : Fine p c h s l) : Fine p c h s (addAll out l) := fun q hq => (addAll_mem hq).elim (g q) (g2 q)
theorem longP_isB {P : Nat} {c h s : Int} : ∀ {o : List Int} {l : List Ply}, Fine (P : Int) c h s l → (∀ d ∈ o, inB d 1 s = true) → Fine (P : Int) c h s (longP P h o l)
  | [], l, g, hd => g
  | d :: ds, l, g, hd => by
    rw [longP]
    split
    · exact g
    · exact longP_isB (nextP_fine g (hd d (by simp))) (fun e he => hd e (by simp [he]))
theorem start_fine {P : Nat} {c h s : Int} {xs ys : List Int} (g : isB (P : Int) c h s xs ys = true) : Fine (P : Int) c h s (startP xs ys) := fun q hq => by simp [startP] at hq; subst hq; exact g
theorem allTo_fine {P : Nat} {c h s : Int} {xs ys : List Int} {U : Nat} {l : List (List Int)} (g : isB (P : Int) c h s xs ys = true) (hl : ∀ o ∈ l, ∀ d ∈ o, inB d 1 s = true) : ∀ k : Nat, Fine (P : Int) c h s (allTo P h xs ys U l k)
  | 0 => fun q hq => by simp [allTo] at hq
  | k + 1 => by
    have ih := allTo_fine (U := U) g hl k
    rw [allTo]
    cases e : l[k]? with
    | none => exact ih
    | some o =>
      dsimp only
      unfold allStep
      split
      · exact ih
      · exact addAll_fine ih (longP_isB (start_fine g) (hl o (List.mem_of_getElem? e)))
end Go.Proofs.YtknkbhmgdddjkaaGreat
namespace Go.Proofs.YtknkbhmgdddjkaaGreat
open Go.ChangeShapes Go.WideShapes Go.ChangeAt Go.RowKit
set_option linter.unusedVariables false
set_option linter.unusedSimpArgs false

theorem run_append_where {P : Program} (w : World) (base : Nat) (t ty e : TypeId) (i : TypeInfo) (z : Value) (size bytes : Nat) (ht : P.underlying t = some (.slice e)) (hi : P.info? e = some i) (hz : i.zero = some z)
    (hsize : i.size = size) (hby : i.bytes = bytes) (hzs : z.cells.size = size) (hsz : 0 < size)
    (v : Value) (n : Nat) (xs : List Value) (hown : w.ownsRow base e size v n xs)
    (a : Addr) (m c : Nat) (news : List Value) (hl : news.length = m * size) (hnews : ∀ j u, news[j]? = some u → w.cell? (a.add j) = some u) (h1 : ∀ u ∈ news, u.oneCell' = true)
    (h63 : n + m ≤ maxLen) (hbytes : (n + m) * bytes ≤ 140737488355328) (hbase : base ≤ w.heap.size) :
    ∃ v' w', (Builtin.append_ #[t, t] ty #[v, .slice (some a) m c]).run P w = .ok v' w' ∧ w'.ownsRow base e size v' (n + m) (xs ++ news) ∧ w.grownBy w' v.ownBlock ∧ (v'.ownBlock = v.ownBlock ∨ v'.ownBlock = some w.heap.size) := by
  obtain ⟨v', w', hr, h2, h3, h4⟩ := run_append_own (P := P) w base t ty e i z size bytes ht hi hz hsize hby hzs hsz v n xs hown a m c news hl hnews h1 h63 hbytes hbase
  refine ⟨v', w', hr, h2, h3, ?_⟩
  subst hsize hby
  have hmx : n + m ≤ 9223372036854775807 := by simp only [maxLen] at h63; omega
  rcases hown.2 with ⟨rfl, rfl⟩ | ⟨g, cap, cur, rfl, hbg, hg, hnc, hcm, hcs, htake⟩
  · by_cases hm : m = 0
    · exact .inl (by rw [h4.2 ⟨rfl, hm⟩])
    · have hq := run_append_nil (P := P) w t ty e i z ht hi hz a m c news hl hnews (by omega) (by omega) (by have hb := hbytes; simp only [Nat.zero_add] at hb; omega)
      rw [hr] at hq
      injection hq with hv hw
      exact .inr (by rw [hv]; rfl)
  · by_cases hroom : n + m ≤ cap
    · have hfit : n * i.size + news.length ≤ cur.size := by rw [hl, hcs, ← Nat.add_mul]; exact Nat.mul_le_mul_right _ hroom
      have hq := run_append_room (P := P) w t ty e i ht hi g n cap cur hg a m c news hl hnews h1 hroom hfit
      rw [hr] at hq
      injection hq with hv hw
      exact .inl (by rw [hv]; rfl)
    · have hq := run_append_grow (P := P) w t ty e i z ht hi hz ⟨g, 0, none⟩ n cap xs hown.1 (hown.cells (g := g) rfl) a m c news hl hnews (by omega) (by omega) (growslice_fits (by omega) hbytes)
      rw [hr] at hq
      injection hq with hv hw
      exact .inr (by rw [hv]; rfl)
/-- One play appended, with the place of the slice behind it. -/
theorem wp_pushPW {ops : Array Oper} {rest : List Oper} {o : Oper} {a : Act} {Q : Exit → Act → World → Prop} (hgd : o.guard = none) (s x : Operand)
    (ho : o.op = .call { callee := .builtin .append, args := #[s, x], argTypes := #[50, 50] })
    (base : Nat) (v : Value) (l : List PP) (hs : a.eval s = v) {w0 : World} (hown : OwnP w0 base v l) (u : PP)
    {zz : Nat} (hx : a.eval x = .slice (some ⟨zz, 0, none⟩) 1 1) (hzz : w0.heap.size = zz) (hl : l.length ≤ 1048576) (hbase : base ≤ w0.heap.size)
    (h : ∀ v' w', OwnP w' base v' (l ++ [u]) → Below base w0 w' → (∀ k, k < w0.heap.size → v.ownBlock ≠ some k → w'.heap[k]? = w0.heap[k]?) → (∀ k, k < w0.heap.size → v.ownBlock ≠ some k → v'.ownBlock ≠ some k) → wpList Tryz.prog ops Q rest (a.put o.dst v') w') : wpList Tryz.prog ops Q (o :: rest) a (w0.alloc (.cells #[pl0 u, pl1 u, pl2 u] 93)) := by
  subst hzz
  obtain ⟨i0, hi, hz0, hz1, hz2⟩ := info_parts infoPly
  have hown0 : w0.ownsRow base 93 3 v l.length (plsC l) := hown
  obtain ⟨v', w', hr, hown', hgrow, hwh⟩ := run_append_where (P := Tryz.prog) (w0.alloc (.cells #[pl0 u, pl1 u, pl2 u] 93)) base 50 o.type 93 i0 _ 3 72 Tryz.underlying50 hi hz0 hz1 hz2 rfl (by decide) v l.length (plsC l) (hown0.alloc _) ⟨w0.heap.size, 0, none⟩ 1 1 (plC u) (by simp [plC])
    (World.news_of_block (cs := #[pl0 u, pl1 u, pl2 u]) (Blk.new w0 _ 93)) (fun y hy => by simp [plC] at hy; rcases hy with rfl | rfl | rfl <;> rfl) (by unfold maxLen; omega) (by omega) (by simp; omega)
  refine wpList_plain hgd fun _ hK => ?_
  unfold Oper.wp execOp
  simp only [ho, resolve, invoke, builtin, Sem.run_bind, Sem.run_pure, Result.andThen_ok, List.map_toArray, List.map_cons, List.map_nil, hs, hx, hr]
  refine hK _ _ (h v' w' ?_ (((Below.refl base w0).alloc hbase _).grown hgrow (by simp; omega) (fun k hk => (hown0.lt k hk).1)) (fun k hk hne => ?_) (fun k hk hne => ?_))
  · show w'.ownsRow base 93 3 _ (l ++ [u]).length (plsC (l ++ [u]))
    rw [List.length_append, plsC_append]
    simpa [plsC] using hown'
  · rw [hgrow.block k (by simp; omega) (fun hh => hne hh.symm), Below.heap_alloc _ _ _ hk]
  · rcases hwh with e | e
    · rw [e]; exact hne
    · rw [e]; simp; omega
/-- Plays in a block that is not the slice's own are kept. -/
theorem OPl.keep {lo hi : Nat} {w w' : World} {a : Option Addr} {l : List PP} (h : OPl lo hi w a l) (hhi : hi ≤ w.heap.size) {v : Value} (hne : ∀ g, a = some ⟨g, 0, none⟩ → v.ownBlock ≠ some g) (hk : ∀ k, k < w.heap.size → v.ownBlock ≠ some k → w'.heap[k]? = w.heap[k]?) : OPl lo hi w' a l := by
  rcases h with h | ⟨g, e, h1, h2, cs, hB, q1, q2⟩
  · exact .inl h
  · exact .inr ⟨g, e, h1, h2, cs, (hk g (by omega) (hne g e)).trans hB, q1, q2⟩
/-- One play appended to an empty slice without room: it lies in a block of its own. -/
theorem wp_pushP0 {ops : Array Oper} {rest : List Oper} {o : Oper} {a : Act} {Q : Exit → Act → World → Prop} (hgd : o.guard = none) (s x : Operand)
    (ho : o.op = .call { callee := .builtin .append, args := #[s, x], argTypes := #[50, 50] })
    (base b : Nat) (hs : a.eval s = .slice (some ⟨b, 0, none⟩) 0 0) {w0 : World} (u : PP)
    {zz : Nat} (hx : a.eval x = .slice (some ⟨zz, 0, none⟩) 1 1) (hzz : w0.heap.size = zz) (hbase : base ≤ w0.heap.size)
    (h : ∀ v' w', OwnP w' base v' [u] → Below w0.heap.size w0 w' → (∀ k, k < w0.heap.size → v'.ownBlock ≠ some k) → wpList Tryz.prog ops Q rest (a.put o.dst v') w') : wpList Tryz.prog ops Q (o :: rest) a (w0.alloc (.cells #[pl0 u, pl1 u, pl2 u] 93)) := by
  subst hzz
  obtain ⟨i0, hi, hz0, hz1, hz2⟩ := info_parts infoPly
  have hown0 : (w0.alloc (.cells #[pl0 u, pl1 u, pl2 u] 93)).ownsRow base 93 3 (.slice none 0 0) 0 [] := World.ownsRow_nil _ _ _ _
  have hn : ∀ j y, (plC u)[j]? = some y → (w0.alloc (.cells #[pl0 u, pl1 u, pl2 u] 93)).cell? ((⟨w0.heap.size, 0, none⟩ : Addr).add j) = some y := World.news_of_block (cs := #[pl0 u, pl1 u, pl2 u]) (Blk.new w0 _ 93)
  obtain ⟨v', w', hr, hown', hgrow, h4⟩ := run_append_own (P := Tryz.prog) (w0.alloc (.cells #[pl0 u, pl1 u, pl2 u] 93)) base 50 o.type 93 i0 _ 3 72 Tryz.underlying50 hi hz0 hz1 hz2 rfl (by decide) (.slice none 0 0) 0 [] hown0 ⟨w0.heap.size, 0, none⟩ 1 1 (plC u) (by simp [plC]) hn (fun y hy => by simp [plC] at hy; rcases hy with rfl | rfl | rfl <;> rfl) (by unfold maxLen; omega) (by omega) (by simp; omega)
  have hq := run_append_nil (P := Tryz.prog) (w0.alloc (.cells #[pl0 u, pl1 u, pl2 u] 93)) 50 o.type 93 i0 _ Tryz.underlying50 hi hz0 ⟨w0.heap.size, 0, none⟩ 1 1 (plC u) (by rw [hz1]; simp [plC]) hn (by omega) (by omega) (by rw [hz2]; omega)
  have hq2 := run_append_grow (P := Tryz.prog) (w0.alloc (.cells #[pl0 u, pl1 u, pl2 u] 93)) 50 o.type 93 i0 _ Tryz.underlying50 hi hz0 ⟨b, 0, none⟩ 0 0 [] (by simp) (by simp) ⟨w0.heap.size, 0, none⟩ 1 1 (plC u) (by rw [hz1]; simp [plC]) hn (by omega) (by omega) (by rw [nextslicecap_zero (by omega), hz2]; omega)
  rw [hr] at hq
  injection hq with hv hw
  refine wpList_plain hgd fun _ hK => ?_
  unfold Oper.wp execOp
  simp only [ho, resolve, invoke, builtin, Sem.run_bind, Sem.run_pure, Result.andThen_ok, List.map_toArray, List.map_cons, List.map_nil, hs, hx, hq2]
  subst hv hw
  simp only [List.nil_append, Array.empty_append, Nat.zero_add] at hown' ⊢
  refine hK _ _ (h _ _ ?_ ?_ (fun k hk => ?_))
  · exact hown'
  · exact ((Below.refl _ _).alloc (Nat.le_refl _) _).grown hgrow (by simp) (fun k hk => by simp [Value.ownBlock] at hk)
  · simp [Value.ownBlock]; omega
/-- Plays of the call's own: none yet, in the empty slice at o, or in a block from b on. -/
def OutP (b o : Nat) (w : World) (v : Value) (l : List PP) : Prop := (l = [] ∧ v = .slice (some ⟨o, 0, none⟩) 0 0) ∨ OwnP w b v l
theorem OutP.form {b o : Nat} {w : World} {v : Value} {l : List PP} (h : OutP b o w v l) : ∃ a k, v = .slice a l.length k := by
  rcases h with ⟨rfl, h⟩ | h
  · exact ⟨_, 0, h⟩
  · exact h.form
theorem OutP.below {b o : Nat} {w w' : World} {v : Value} {l : List PP} (h : OutP b o w v l) (hb : Below w.heap.size w w') : OutP b o w' v l := by
  rcases h with h | h
  · exact .inl h
  · exact .inr (h.below hb)
theorem OutP.opl {b o n k : Nat} {w : World} {a : Option Addr} {l : List PP} (h : OutP b o w (.slice a n k) l) (hO : OwnP w o (.slice (some ⟨o, 0, none⟩) 0 0) []) (hbo : o ≤ b) : OPl o w.heap.size w a l := by
  rcases h with ⟨rfl, h⟩ | h
  · have := hO.opl
    injection h with h1 h2 h3
    rw [h1]
    exact this
  · exact h.opl.mono hbo (Nat.le_refl _)
theorem OutP.ne {b o g : Nat} {w : World} {v : Value} {l : List PP} (h : OutP b o w v l) (hg : w.heap.size ≤ g) (ho : o < w.heap.size) : v.ownBlock ≠ some g := by
  rcases h with ⟨-, rfl⟩ | h
  · simp [Value.ownBlock]; omega
  · intro e
    have := (World.ownsRow.lt h g e).2
    omega
end Go.Proofs.YtknkbhmgdddjkaaGreat
