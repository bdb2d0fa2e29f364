/- Texts of a proof, laid together. -/
import Derived.Test.YtciljbnailobgaaGreatV01
import Derived.RangeFuncNested
import Derived.RangeFuncBound
import Derived.RangeFuncCalls
import Derived.RangeFuncLeaves
import Derived.Test.YtciljbnailobgaaGreatV09
import Derived.Test.YtciljbnailobgaaGreatV08
import Derived.Maps.OwnIn
import Derived.Maps.AppendAt
import Derived.Test.YtciljbnailobgaaGreatV06
import Derived.Laws.AppendOwn
import Derived.OwnWalkIn
import Derived.OneCell
namespace Go.Proofs.YtciljbnailobgaaGreat
open Go.RowKit
set_option linter.unusedVariables false
set_option linter.unusedSimpArgs false
structure Keep (foot : World → Nat → Prop) (X Y : World) : Prop where
  size : X.heap.size ≤ Y.heap.size
  same : ∀ k, k < X.heap.size → ¬ foot X k → Y.heap[k]? = X.heap[k]?
  foot : ∀ k, k < X.heap.size → foot Y k → foot X k
def SeqGood {α : Type} (g : Nat) (lb : Array Value) (encs : α → Array Value) (Good : α → World → Prop) (R : α → α → Prop) (lo : Nat) (S : List α → Prop) (N : Nat) (w : World) : Prop :=
  ∀ (n l : Nat) (foot : World → Nat → Prop) (J : List α → World → Prop) (W : World), Below w.heap.size w W → (∀ s X Y, J s X → Below X.heap.size X Y → J s Y) →
    (∀ X Y k, W.heap.size ≤ X.heap.size → Below X.heap.size X Y → foot Y k → foot X k) → (∀ s X k, J s X → foot X k → k < X.heap.size) →
    (∀ pre x X, J pre X → Good x X → (∀ y ∈ pre, R y x) → pre.length < N → W.heap.size ≤ X.heap.size → YieldAt Fence.wide n Tryz.prog l (encs x) X fun e Y => e = .returned (.bool true) ∧ J (pre ++ [x]) Y ∧ Below lo X Y ∧ Keep foot X Y) →
    J [] W → CallsIn Fence.wide (n + 1) Tryz.prog g (#[.func (.yield l) #[] #[]] ++ lb) W fun e Y => (∃ v, e = .returned v) ∧ ∃ xs, S xs ∧ J xs Y
def goodPost {α : Type} (B lo : Nat) (foot : World → Nat → Prop) (I : List α → World → Prop) (xs : List α) (W : World) : Exit → Act → World → Prop
  | .normal, _, Y => KeepsFrom B W Y ∧ Below lo W Y ∧ Keep foot W Y ∧ I xs Y
  | _, _, _ => False
def marked (a : Act) (D : Nat) : Act := { a with defers := { target := .collected D, args := #[] } :: a.defers }
theorem below_put {lo l : Nat} {W : World} {o : Obj} (hl : lo ≤ l) : Below lo W (W.putObj l o) := ⟨rfl, rfl, rfl, by simp, fun k hk => World.putObj_heap_other (by omega)⟩
theorem range_good {α : Type} {g : Operand} {ps : Array Tmp} {assign body : Code} {Q : Exit → Act → World → Prop} {a : Act} {w w0 : World} {n gf lo N : Nat} {lb : Array Value} {encs : α → Array Value} {Good : α → World → Prop} {R : α → α → Prop} {S : List α → Prop}
    (hg : a.eval g = .func (.func gf) #[] lb) (eg : ∀ args w, (callFunc gf args).run Tryz.prog w = .ok (.enter gf args) w) (hseq : SeqGood gf lb encs Good R lo S N w0) (hb0 : Below w0.heap.size w0 w) (hlo : lo ≤ w.heap.size) (hps : ∀ x, (encs x).size = ps.size)
    (foot : World → Nat → Prop) (hf : ∀ X Y k, w.heap.size ≤ X.heap.size → Below X.heap.size X Y → foot Y k → foot X k) (hfp : ∀ X l o o' k, X.heap[l]? = some o → o.isCells = false → Obj.isCells o' = false → foot (X.putObj l o') k → foot X k)
    (I : List α → World → Prop) (hIf : ∀ s X k, I s X → foot X k → k < X.heap.size) (hIb : ∀ s X Y, I s X → Below X.heap.size X Y → I s Y) (hIp : ∀ s X l o o', w.heap.size ≤ l → X.heap[l]? = some o → o.isCells = false → I s X → I s (X.putObj l o'))
    (hGb : ∀ x X Y, Good x X → Below X.heap.size X Y → Good x Y) (hGp : ∀ x X l o o', X.heap[l]? = some o → o.isCells = false → Good x X → Good x (X.putObj l o')) (h0 : I [] w) (Ax : α → Act → World → Prop) (hAp : ∀ x a' X l o o', X.heap[l]? = some o → o.isCells = false → Ax x a' X → Ax x a' (X.putObj l o'))
    (hassign : ∀ (l : Nat) (x : α) (W : World) (K : Act → World → Prop), w.heap.size ≤ W.heap.size → (∀ a' W', Below W.heap.size W W' → Ax x a' W' → K a' W') → assign.wpIn (Fence.wide.inRound l) n Tryz.prog (Exit.then K (fun _ _ _ => False)) { tmps := (ps.zip (encs x)).foldl (fun t (p, v) => t.setIfInBounds p v) a.tmps, defers := [] } W)
    (hbody : ∀ (l : Nat) (pre : List α) (x : α) (a' : Act) (W : World), w.heap.size ≤ l → I pre W → Good x W → Ax x a' W → (∀ y ∈ pre, R y x) → pre.length < N → body.wpIn (Fence.wide.inRound l) n Tryz.prog (goodPost w.heap.size lo foot I (pre ++ [x]) W) a' W)
    (hdone : ∀ (D : Nat) (xs : List α) (W : World), w.heap.size ≤ D → S xs → I xs W → W.heap[D]? = some (.deferred (some [])) → Q .normal (marked a D) W) :
    (Code.rangeFunc g ps assign body).wpIn Fence.wide (n + 2) Tryz.prog Q a w := by
  refine wpIn_rangeFunc fun fn hfn => ?_
  obtain ⟨mk, hmk⟩ : ∃ mk : LoopState → Loop, mk = fun st => { state := st, pending := none, fn, tmps := a.tmps, params := ps, assign, body, defers := w.heap.size } := ⟨_, rfl⟩
  have k1 : ∀ st, (mk st).state = st := fun st => by rw [hmk]
  have k2 : ∀ st, (mk st).pending = none := fun st => by rw [hmk]
  have k3 : ∀ st st', { mk st with state := st' } = mk st' := fun st st' => by rw [hmk]
  have k4 : ∀ st st', { mk st with state := st', pending := none } = mk st' := fun st st' => by rw [hmk]
  obtain ⟨W1, hW1⟩ : ∃ W1, (w.alloc (.deferred (some []))).alloc (.loop (mk .ready)) = W1 := ⟨_, rfl⟩
  have hsz : W1.heap.size = w.heap.size + 2 := by rw [← hW1]; simp
  have q1 : W1.heap[w.heap.size + 1]? = some (.loop (mk .ready)) := by
    rw [← hW1]
    have := World.alloc_heap_new (w.alloc (.deferred (some []))) (.loop (mk .ready))
    rwa [World.size_alloc] at this
  have q2 : W1.heap[w.heap.size]? = some (.deferred (some [])) := by
    rw [← hW1, Below.heap_alloc _ _ _ (by simp)]
    exact World.alloc_heap_new w _
  have hbw : Below w.heap.size w W1 := by
    rw [← hW1]
    exact ((Below.refl _ w).alloc (Nat.le_refl _) _).alloc (by simp) _
  have keepO : ∀ {X Y : World} {k : Nat} {o : Obj}, X.heap[k]? = some o → Below X.heap.size X Y → Y.heap[k]? = some o := fun h hb => (hb.block _ (Array.getElem?_eq_some_iff.1 h).1).trans h
  refine ⟨w.heap.size + 1, [{ target := .collected w.heap.size, args := #[] }], W1, { target := .fn (.func gf) lb, args := #[.func (.yield (w.heap.size + 1)) #[] #[]] }, W1, gf, #[.func (.yield (w.heap.size + 1)) #[] #[]] ++ lb, W1, ?_, ?_, ?_, ?_, fun _ => by omega, ?_⟩
  · rw [← hW1, hmk]
    exact run_enterLoop_outer _ _ _ _ _
  · simp only [resolve, hg]
    simp [go_sem]
  · intro f' hf'
    trivial
  · simp [invoke, go_sem, eg]
  · refine (hseq n (w.heap.size + 1) foot (fun pre X => I pre X ∧ X.heap[w.heap.size + 1]? = some (.loop (mk .ready)) ∧ X.heap[w.heap.size]? = some (.deferred (some []))) W1 (hb0.trans (hbw.mono hb0.size)) (fun s X Y h hb => ⟨hIb s X Y h.1 hb, keepO h.2.1 hb, keepO h.2.2 hb⟩) (fun X Y k hX => hf X Y k (by omega)) (fun s X k h => hIf s X k h.1) ?_ ⟨hIb _ _ _ h0 hbw, q1, q2⟩).mono ?_
    · rintro pre x X ⟨hi, hl, hk⟩ hgood hRx hlen hWX
      have hlt := (Array.getElem?_eq_some_iff.1 hl).1
      have hy := run_yield (P := Tryz.prog) (args := encs x) hl (by rw [hmk]; exact hps x)
      rw [hmk] at hy
      refine ⟨fn, _, assign, body, hy, roundIn_of_wpIn hfn (hassign _ x X _ (by omega) fun a' X' hbx hax => ?_)⟩
      clear hy
      have hbX : Below lo X X' := hbx.mono (by omega)
      have hKX : ∀ k, foot X' k → foot X k := fun k => hf X X' k (by omega) hbx
      have hKs : ∀ k, k < X.heap.size → X'.heap[k]? = X.heap[k]? := hbx.block
      have hXl := hl
      have hXs := hbx.size
      replace hi := hIb _ _ _ hi hbx
      replace hgood := hGb _ _ _ hgood hbx
      replace hl := keepO hl hbx
      replace hk := keepO hk hbx
      clear hbx
      refine ⟨_, run_beginRound hl (k1 _), ?_⟩
      rw [k3]
      replace hlt := (Array.getElem?_eq_some_iff.1 hl).1
      obtain ⟨X0, hX0⟩ : ∃ X0, X0 = X := ⟨_, rfl⟩
      rw [← hX0] at hbX hKX hKs hXl hXs ⊢
      clear hX0
      obtain ⟨X, rfl⟩ : ∃ X, X = X' := ⟨_, rfl⟩
      have hl2 : (X.putObj (w.heap.size + 1) (.loop (mk .busy))).heap[w.heap.size + 1]? = some (.loop (mk .busy)) := World.putObj_heap_same hlt
      have hk2 : (X.putObj (w.heap.size + 1) (.loop (mk .busy))).heap[w.heap.size]? = some (.deferred (some [])) := (World.putObj_heap_other (by omega)).trans hk
      have hb2 : Below lo X (X.putObj (w.heap.size + 1) (.loop (mk .busy))) := below_put (by omega)
      refine wpIn_mono (hbody _ pre x a' _ (by omega) (hIp _ _ _ _ _ (by omega) hl rfl hi) (hGp _ _ _ _ _ hl rfl hgood) (hAp _ _ _ _ _ _ hl rfl hax) hRx hlen) ?_
      rintro e a3 Y hp
      cases e with
      | normal =>
        obtain ⟨u1, u2, u4, u3⟩ := hp
        have hl3 := u1.same _ _ (by omega) hl2 rfl
        have hk3 := u1.same _ _ (Nat.le_refl _) hk2 rfl
        have hr := run_endRound (P := Tryz.prog) none hl3
        refine ⟨_, _, hr, rfl, ⟨hIp _ _ _ _ _ (by omega) hl3 rfl u3, ?_, (World.putObj_heap_other (by omega)).trans hk3⟩, (hbX.trans (hb2.trans u2)).trans (below_put (by omega)), ?_⟩
        · rw [World.putObj_heap_same (Array.getElem?_eq_some_iff.1 hl3).1]
          exact congrArg (fun q => some (Obj.loop q)) (k4 _ _)
        · have us := u4.size
          rw [World.putObj_size] at us
          refine ⟨by rw [World.putObj_size]; omega, fun k hk hnf => ?_, fun k hk hfk => hKX _ (hfp _ _ _ _ _ hl rfl rfl (u4.foot k (by rw [World.putObj_size]; omega) (hfp _ _ _ _ _ hl3 rfl rfl hfk)))⟩
          by_cases e : k = w.heap.size + 1
          · subst e
            rw [World.putObj_heap_same (Array.getElem?_eq_some_iff.1 hl3).1, hXl]
            exact congrArg (fun q => some (Obj.loop q)) (k4 _ _)
          · rw [World.putObj_heap_other e, u4.same k (by rw [World.putObj_size]; omega) (fun q => hnf (hKX _ (hfp _ _ _ _ _ hl rfl rfl q))), World.putObj_heap_other e, hKs k hk]
      | ret => exact hp.elim
      | exit id => exact hp.elim
      | goto t => exact hp.elim
      | panic ch => exact hp.elim
      | outgrown => exact hp.elim
    · rintro e W2 ⟨⟨v, rfl⟩, xs, hS, hi, hl, hk⟩
      have hr := run_endLoop (P := Tryz.prog) hl (by rw [k1]; simp)
      rw [k2] at hr
      exact ⟨none, _, hr, hdone _ xs _ (Nat.le_refl _) hS (hIp _ _ _ _ _ (by omega) hl rfl hi) ((World.putObj_heap_other (by omega)).trans hk)⟩
end Go.Proofs.YtciljbnailobgaaGreat
namespace Go.Proofs.YtciljbnailobgaaGreat
open Go.ChangeShapes Go.WideShapes Go.ChangeAt Go.RowKit
set_option linter.unusedVariables false
set_option linter.unusedSimpArgs false
set_option maxRecDepth 4000
theorem wpListIn_load_row {F : Fence} {n : Nat} {P : Program} {ops : Array Oper} {rest : List Oper} {o : Oper} {a : Act} {w : World} {Q : Exit → Act → World → Prop} (hgd : o.guard = none) (ty : TypeId) (x : Operand) (ho : o.op = .load ty x)
    (g : Nat) (hx : a.eval x = .pointer (some ⟨g, 0, none⟩)) (t : TypeId) (cs : Array Value) (fr : Nat × Nat) (d : TypeDesc) (hg : w.heap[g]? = some (.cells cs t fr))
    (hu : P.underlying ty = some d) (hd : (match d with | .struct _ | .array _ _ => true | _ => false) = true) (hi : (P.info? ty).map (·.size) = some cs.size)
    (h : wpListIn F n P ops Q rest (a.put o.dst (.agg cs)) w) : wpListIn F n P ops Q (o :: rest) a w := by
  refine wpListIn_plain hgd fun K hK => ?_
  have hrun : (Instr.loadAt ty (.pointer (some ⟨g, 0, none⟩))).run P w = .ok (.agg cs) w := by
    simp only [Instr.loadAt, Instr.sureAddr, Sem.run_bind, Sem.run_pure, Result.andThen]
    exact run_loadVar_row w g t ty cs fr d hg hu hd hi
  unfold Oper.wpIn
  refine ⟨by simp [Oper.about, ho], ?_⟩
  rw [Oper.semAt_plain F _ _ (by rw [ho]; intro c hc; cases hc)]
  simp [execOp, ho, hx, hrun, Result.andThen]
  exact hK _ _ h
theorem wpListIn_store_row {F : Fence} {n : Nat} {P : Program} {ops : Array Oper} {rest : List Oper} {o : Oper} {a : Act} {w : World} {Q : Exit → Act → World → Prop} (hgd : o.guard = none) (ty : TypeId) (x y : Operand) (ho : o.op = .store ty x y)
    (g : Nat) (cells : Array Value) (hx : a.eval x = .pointer (some ⟨g, 0, none⟩)) (hy : a.eval y = .agg cells)
    (t : TypeId) (old : Array Value) (hg : w.heap[g]? = some (.cells old t (0, 0))) (hi : (P.info? ty).map (·.size) = some cells.size)
    (hold : old.size = cells.size) (h1 : cells.all (·.oneCell') = true)
    (h : wpListIn F n P ops Q rest (a.put o.dst undef) (w.setRow g cells)) : wpListIn F n P ops Q (o :: rest) a w := by
  refine wpListIn_plain hgd fun K hK => ?_
  have hrun : (Instr.storeAt ty (.pointer (some ⟨g, 0, none⟩)) (.agg cells)).run P w = .ok () (w.setRow g cells) := by
    simp only [Instr.storeAt, Instr.sureAddr, Sem.run_bind, Sem.run_pure, Result.andThen]
    exact run_storeVar_row w g t ty old cells hg hi hold h1
  unfold Oper.wpIn
  refine ⟨by simp [Oper.about, ho], ?_⟩
  rw [Oper.semAt_plain F _ _ (by rw [ho]; intro c hc; cases hc)]
  simp [execOp, ho, hx, hy, hrun, Result.andThen]
  exact hK _ _ h
def FitB (P : Nat) (q : List Int × List Int) : Prop := q.1.length = P + 1 ∧ q.2.length = P + 1 ∧ (∀ x ∈ q.1, 0 ≤ x ∧ x ≤ 100) ∧ (∀ x ∈ q.2, 0 ≤ x ∧ x ≤ 100)
theorem pad_tiny {xs : List Int} (h : ∀ x ∈ xs, 0 ≤ x ∧ x ≤ 100) : Tiny (pad25 xs) := by
  intro x hx
  unfold pad25 at hx
  rcases List.mem_append.1 hx with hx | hx
  · have := h x hx; omega
  · have := (List.mem_replicate.1 hx).2; omega
set_option maxRecDepth 100000 in
theorem FitB.key {P : Nat} {q : List Int × List Int} (hP : P ≤ 24) (h : FitB P q) : keyOf Tryz.prog 144 (.agg (i8s (plcL q.1 q.2)).toArray) = some (keyB (plcL q.1 q.2)) :=
  keyOf_plc _ _ (pad25_length _ (by have := h.1; omega)) (pad25_length _ (by have := h.2.1; omega)) (pad_tiny h.2.2.1) (pad_tiny h.2.2.2)
theorem pad_inj {xs ys : List Int} (hl : xs.length = ys.length) (e : pad25 xs = pad25 ys) : xs = ys := by
  unfold pad25 at e
  exact (List.append_inj e hl).1
set_option maxRecDepth 100000 in
theorem FitB.inj {P : Nat} {q r : List Int × List Int} (hP : P ≤ 24) (h : FitB P q) (k : FitB P r) (e : keyB (plcL q.1 q.2) = keyB (plcL r.1 r.2)) : q = r := by
  have a1 := pad25_length q.1 (by have := h.1; omega)
  have a2 := pad25_length q.2 (by have := h.2.1; omega)
  have b1 := pad25_length r.1 (by have := k.1; omega)
  have b2 := pad25_length r.2 (by have := k.2.1; omega)
  have e1 := keyB_inj _ _ _ _ a1 a2 (pad_tiny h.2.2.1) (pad_tiny h.2.2.2) b1 b2 (pad_tiny k.2.2.1) (pad_tiny k.2.2.2) e
  obtain ⟨p1, p2⟩ := List.append_inj e1 (by rw [a1, b1])
  exact Prod.ext (pad_inj (by rw [h.1, k.1]) p1) (pad_inj (by rw [h.2.1, k.2.1]) p2)
def SeenM (W : World) (b n P : Nat) (seen : List (List Int × List Int)) : Prop :=
  ∃ D : DataW Unit, W.ownsMap Tryz.prog 144 (plainElem Tryz.prog 4) b n D ∧ Maps.IsMap D ∧ ∀ q, FitB P q → D.atKey (keyB (plcL q.1 q.2)) (.lit (.bool false)) = .lit (.bool (decide (q ∈ seen)))
set_option maxRecDepth 100000 in
theorem SeenM.start (w : World) (P : Nat) : SeenM (w.alloc (.map #[] 0)) w.heap.size 0 P [] :=
  ⟨.map [], World.ownsMap_made w Tryz.prog 144 (plainElem Tryz.prog 4), Maps.isMap_empty, fun q _ => by simp; rfl⟩
theorem SeenM.keep {W W' : World} {b n P : Nat} {seen : List (List Int × List Int)} (h : SeenM W b n P seen) (e : W'.heap[b]? = W.heap[b]?) : SeenM W' b n P seen := by
  obtain ⟨D, ⟨es, clock, h1, h2, h3, h4⟩, hm, hq⟩ := h
  exact ⟨D, ⟨es, clock, e.trans h1, h2, h3, h4⟩, hm, hq⟩
theorem SeenM.lt {W : World} {b n P : Nat} {seen : List (List Int × List Int)} (h : SeenM W b n P seen) : b < W.heap.size := by
  obtain ⟨D, ⟨es, clock, h1, _⟩, _⟩ := h
  exact (Array.getElem?_eq_some_iff.1 h1).1
theorem SeenM.more {W : World} {b n m P : Nat} {seen : List (List Int × List Int)} (h : SeenM W b n P seen) (hm : n ≤ m) : SeenM W b m P seen := by
  obtain ⟨D, ⟨es, clock, h1, h2, h3, h4⟩, hm', hq⟩ := h
  exact ⟨D, ⟨es, clock, h1, h2, by omega, h4⟩, hm', hq⟩
set_option maxRecDepth 100000 in
theorem SeenM.look {W : World} {b n P : Nat} {seen : List (List Int × List Int)} (h : SeenM W b n P seen) (hP : P ≤ 24) {q : List Int × List Int} (hq : FitB P q) :
    (Instr.lookup 140 (.map (some b)) (.agg (i8s (plcL q.1 q.2)).toArray) false).run Tryz.prog W = .ok (.bool (decide (q ∈ seen))) W := by
  obtain ⟨D, hown, hm, hat⟩ := h
  obtain ⟨v, ps, hrun, hv⟩ := hown.lookup plcKeyed Tryz.underlying140 (z := .bool false) (by kernel_rfl) (plainElem_bool Tryz.underlying4 false) (hq.key hP)
  rw [hat q hq] at hv
  have : v = .bool (decide (q ∈ seen)) := by
    unfold plainElem at hv
    rw [Tryz.underlying4] at hv
    cases v <;> simp_all
  rw [this] at hrun
  exact hrun
set_option maxRecDepth 100000 in
theorem SeenM.put {W : World} {b n P : Nat} {seen : List (List Int × List Int)} (h : SeenM W b n P seen) (hP : P ≤ 24) (hn : n < maxLen) {q : List Int × List Int} (hq : FitB P q) :
    ∃ w', (Instr.mapUpdate 140 (.map (some b)) (.agg (i8s (plcL q.1 q.2)).toArray) (.bool true)).run Tryz.prog W = .ok () w' ∧ SeenM w' b (n + 1) P (seen ++ [q]) ∧ W.grownBy w' (some b) := by
  obtain ⟨D, hown, hm, hat⟩ := h
  obtain ⟨w', hrun, hown', hg⟩ := hown.update plcKeyed Tryz.underlying140 hn (hq.key hP) (plainElem_bool Tryz.underlying4 true)
  refine ⟨w', hrun, ⟨_, hown', hm.put _ _, fun r hr => ?_⟩, hg⟩
  by_cases e : r = q
  · subst e
    rw [Maps.atKey_put_same hm (plcKeyed.key (hr.key hP))]
    simp
  · rw [Maps.atKey_put_other (fun hk => e (FitB.inj hP hr hq hk)), hat r hr]
    simp [e]
theorem Blk.put {X : World} {g l : Nat} {vs : Array Value} {t : TypeId} {o o' : Obj} (h : Blk X g vs t) (hl : X.heap[l]? = some o) (ho : o.isCells = false) : Blk (X.putObj l o') g vs t := by
  have hne : g ≠ l := by
    intro e
    subst e
    have h' : X.heap[g]? = some (.cells vs t (0, 0)) := h
    rw [h'] at hl
    simp at hl
    subst hl
    simp [Obj.isCells] at ho
  exact (World.putObj_heap_other hne).trans h
theorem VRow.put {X : World} {g l : Nat} {vs : List Value} {t : TypeId} {o o' : Obj} (h : VRow X g vs t) (hl : X.heap[l]? = some o) (ho : o.isCells = false) : VRow (X.putObj l o') g vs t := by
  obtain ⟨cur, hB, h1, h2⟩ := h
  exact ⟨cur, hB.put hl ho, h1, h2⟩
theorem Row.put {X : World} {g l : Nat} {xs : List Int} {o o' : Obj} (h : Row X g xs) (hl : X.heap[l]? = some o) (ho : o.isCells = false) : Row (X.putObj l o') g xs := by
  obtain ⟨cur, hB, h1, h2⟩ := h
  exact ⟨cur, hB.put hl ho, h1, h2⟩
theorem PAt.put {lo hi : Nat} {X : World} {x : PP} {l : Nat} {o o' : Obj} (h : PAt lo hi X x) (hl : X.heap[l]? = some o) (ho : o.isCells = false) : PAt lo hi (X.putObj l o') x := by
  refine ⟨?_, ?_⟩
  · rcases h.1 with h | ⟨g, e, h1, h2, r⟩
    · exact .inl h
    · exact .inr ⟨g, e, h1, h2, VRow.put r hl ho⟩
  · rcases h.2 with h | ⟨g1, g2, e1, e2, hne, b1, b2, b3, b4, r1, r2⟩
    · exact .inl h
    · exact .inr ⟨g1, g2, e1, e2, hne, b1, b2, b3, b4, r1.put hl ho, r2.put hl ho⟩
theorem OwnP.put {X : World} {base l : Nat} {v : Value} {L : List PP} {o o' : Obj} (h : OwnP X base v L) (hl : X.heap[l]? = some o) (ho : o.isCells = false) : OwnP (X.putObj l o') base v L := by
  obtain ⟨h1, h2 | ⟨g, cap, cur, hv, hb, hh, hc, hm, hs, ht⟩⟩ := h
  · exact ⟨h1, .inl h2⟩
  · exact ⟨h1, .inr ⟨g, cap, cur, hv, hb, Blk.put (g := g) (vs := cur) hh hl ho, hc, hm, hs, ht⟩⟩
end Go.Proofs.YtciljbnailobgaaGreat
namespace Go.Proofs.YtciljbnailobgaaGreat
open Go.ChangeShapes Go.WideShapes Go.ChangeAt Go.RowKit
set_option linter.unusedVariables false
set_option linter.unusedSimpArgs false
theorem run_append_where {P : Program} (w : World) (base : Nat) (t ty e : TypeId) (i : TypeInfo) (z : Value) (size bytes : Nat) (ht : P.underlying t = some (.slice e)) (hi : P.info? e = some i) (hz : i.zero = some z)
    (hsize : i.size = size) (hby : i.bytes = bytes) (hzs : z.cells.size = size) (hsz : 0 < size)
    (v : Value) (n : Nat) (xs : List Value) (hown : w.ownsRow base e size v n xs)
    (a : Addr) (m c : Nat) (news : List Value) (hl : news.length = m * size) (hnews : ∀ j u, news[j]? = some u → w.cell? (a.add j) = some u) (h1 : ∀ u ∈ news, u.oneCell' = true)
    (h63 : n + m ≤ maxLen) (hbytes : (n + m) * bytes ≤ 140737488355328) (hbase : base ≤ w.heap.size) :
    ∃ v' w', (Builtin.append_ #[t, t] ty #[v, .slice (some a) m c]).run P w = .ok v' w' ∧ w'.ownsRow base e size v' (n + m) (xs ++ news) ∧ w.grownBy w' v.ownBlock ∧ (v'.ownBlock = v.ownBlock ∨ v'.ownBlock = some w.heap.size) := by
  obtain ⟨v', w', hr, h2, h3, h4⟩ := run_append_own (P := P) w base t ty e i z size bytes ht hi hz hsize hby hzs hsz v n xs hown a m c news hl hnews h1 h63 hbytes hbase
  refine ⟨v', w', hr, h2, h3, ?_⟩
  subst hsize hby
  have hmx : n + m ≤ 9223372036854775807 := by simp only [maxLen] at h63; omega
  rcases hown.2 with ⟨rfl, rfl⟩ | ⟨g, cap, cur, rfl, hbg, hg, hnc, hcm, hcs, htake⟩
  · by_cases hm : m = 0
    · exact .inl (by rw [h4.2 ⟨rfl, hm⟩])
    · have hq := run_append_nil (P := P) w t ty e i z ht hi hz a m c news hl hnews (by omega) (by omega) (by have hb := hbytes; simp only [Nat.zero_add] at hb; omega)
      rw [hr] at hq
      injection hq with hv hw
      exact .inr (by rw [hv]; rfl)
  · by_cases hroom : n + m ≤ cap
    · have hfit : n * i.size + news.length ≤ cur.size := by rw [hl, hcs, ← Nat.add_mul]; exact Nat.mul_le_mul_right _ hroom
      have hq := run_append_room (P := P) w t ty e i ht hi g n cap cur hg a m c news hl hnews h1 hroom hfit
      rw [hr] at hq
      injection hq with hv hw
      exact .inl (by rw [hv]; rfl)
    · have hq := run_append_grow (P := P) w t ty e i z ht hi hz ⟨g, 0, none⟩ n cap xs hown.1 (hown.cells (g := g) rfl) a m c news hl hnews (by omega) (by omega) (growslice_fits (by omega) hbytes)
      rw [hr] at hq
      injection hq with hv hw
      exact .inr (by rw [hv]; rfl)
theorem wp_pushPW {ops : Array Oper} {rest : List Oper} {o : Oper} {a : Act} {Q : Exit → Act → World → Prop} (hgd : o.guard = none) (s x : Operand)
    (ho : o.op = .call { callee := .builtin .append, args := #[s, x], argTypes := #[33, 33] })
    (base : Nat) (v : Value) (l : List PP) (hs : a.eval s = v) {w0 : World} (hown : OwnP w0 base v l) (u : PP)
    {zz : Nat} (hx : a.eval x = .slice (some ⟨zz, 0, none⟩) 1 1) (hzz : w0.heap.size = zz) (hl : l.length ≤ 1048576) (hbase : base ≤ w0.heap.size)
    (h : ∀ v' w', OwnP w' base v' (l ++ [u]) → Below base w0 w' → (∀ k, k < w0.heap.size → v.ownBlock ≠ some k → w'.heap[k]? = w0.heap[k]?) → (∀ k, k < w0.heap.size → v.ownBlock ≠ some k → v'.ownBlock ≠ some k) → wpList Tryz.prog ops Q rest (a.put o.dst v') w') : wpList Tryz.prog ops Q (o :: rest) a (w0.alloc (.cells #[pl0 u, pl1 u, pl2 u] 44)) := by
  subst hzz
  obtain ⟨i0, hi, hz0, hz1, hz2⟩ := info_parts infoPly
  have hown0 : w0.ownsRow base 44 3 v l.length (plsC l) := hown
  obtain ⟨v', w', hr, hown', hgrow, hwh⟩ := run_append_where (P := Tryz.prog) (w0.alloc (.cells #[pl0 u, pl1 u, pl2 u] 44)) base 33 o.type 44 i0 _ 3 72 Tryz.underlying33 hi hz0 hz1 hz2 rfl (by decide) v l.length (plsC l) (hown0.alloc _) ⟨w0.heap.size, 0, none⟩ 1 1 (plC u) (by simp [plC])
    (World.news_of_block (cs := #[pl0 u, pl1 u, pl2 u]) (Blk.new w0 _ 44)) (fun y hy => by simp [plC] at hy; rcases hy with rfl | rfl | rfl <;> rfl) (by unfold maxLen; omega) (by omega) (by simp; omega)
  refine wpList_plain hgd fun _ hK => ?_
  unfold Oper.wp execOp
  simp only [ho, resolve, invoke, builtin, Sem.run_bind, Sem.run_pure, Result.andThen_ok, List.map_toArray, List.map_cons, List.map_nil, hs, hx, hr]
  refine hK _ _ (h v' w' ?_ (((Below.refl base w0).alloc hbase _).grown hgrow (by simp; omega) (fun k hk => (hown0.lt k hk).1)) (fun k hk hne => ?_) (fun k hk hne => ?_))
  · show w'.ownsRow base 44 3 _ (l ++ [u]).length (plsC (l ++ [u]))
    rw [List.length_append, plsC_append]
    simpa [plsC] using hown'
  · rw [hgrow.block k (by simp; omega) (fun hh => hne hh.symm), Below.heap_alloc _ _ _ hk]
  · rcases hwh with e | e
    · rw [e]; exact hne
    · rw [e]; simp; omega
theorem OPl.keep {lo hi : Nat} {w w' : World} {a : Option Addr} {l : List PP} (h : OPl lo hi w a l) (hhi : hi ≤ w.heap.size) {v : Value} (hne : ∀ g, a = some ⟨g, 0, none⟩ → v.ownBlock ≠ some g) (hk : ∀ k, k < w.heap.size → v.ownBlock ≠ some k → w'.heap[k]? = w.heap[k]?) : OPl lo hi w' a l := by
  rcases h with h | ⟨g, e, h1, h2, cs, hB, q1, q2⟩
  · exact .inl h
  · exact .inr ⟨g, e, h1, h2, cs, (hk g (by omega) (hne g e)).trans hB, q1, q2⟩
theorem wp_pushP0 {ops : Array Oper} {rest : List Oper} {o : Oper} {a : Act} {Q : Exit → Act → World → Prop} (hgd : o.guard = none) (s x : Operand)
    (ho : o.op = .call { callee := .builtin .append, args := #[s, x], argTypes := #[33, 33] })
    (base b : Nat) (hs : a.eval s = .slice (some ⟨b, 0, none⟩) 0 0) {w0 : World} (u : PP)
    {zz : Nat} (hx : a.eval x = .slice (some ⟨zz, 0, none⟩) 1 1) (hzz : w0.heap.size = zz) (hbase : base ≤ w0.heap.size)
    (h : ∀ v' w', OwnP w' base v' [u] → Below w0.heap.size w0 w' → (∀ k, k < w0.heap.size → v'.ownBlock ≠ some k) → wpList Tryz.prog ops Q rest (a.put o.dst v') w') : wpList Tryz.prog ops Q (o :: rest) a (w0.alloc (.cells #[pl0 u, pl1 u, pl2 u] 44)) := by
  subst hzz
  obtain ⟨i0, hi, hz0, hz1, hz2⟩ := info_parts infoPly
  have hown0 : (w0.alloc (.cells #[pl0 u, pl1 u, pl2 u] 44)).ownsRow base 44 3 (.slice none 0 0) 0 [] := World.ownsRow_nil _ _ _ _
  have hn : ∀ j y, (plC u)[j]? = some y → (w0.alloc (.cells #[pl0 u, pl1 u, pl2 u] 44)).cell? ((⟨w0.heap.size, 0, none⟩ : Addr).add j) = some y := World.news_of_block (cs := #[pl0 u, pl1 u, pl2 u]) (Blk.new w0 _ 44)
  obtain ⟨v', w', hr, hown', hgrow, h4⟩ := run_append_own (P := Tryz.prog) (w0.alloc (.cells #[pl0 u, pl1 u, pl2 u] 44)) base 33 o.type 44 i0 _ 3 72 Tryz.underlying33 hi hz0 hz1 hz2 rfl (by decide) (.slice none 0 0) 0 [] hown0 ⟨w0.heap.size, 0, none⟩ 1 1 (plC u) (by simp [plC]) hn (fun y hy => by simp [plC] at hy; rcases hy with rfl | rfl | rfl <;> rfl) (by unfold maxLen; omega) (by omega) (by simp; omega)
  have hq := run_append_nil (P := Tryz.prog) (w0.alloc (.cells #[pl0 u, pl1 u, pl2 u] 44)) 33 o.type 44 i0 _ Tryz.underlying33 hi hz0 ⟨w0.heap.size, 0, none⟩ 1 1 (plC u) (by rw [hz1]; simp [plC]) hn (by omega) (by omega) (by rw [hz2]; omega)
  have hq2 := run_append_grow (P := Tryz.prog) (w0.alloc (.cells #[pl0 u, pl1 u, pl2 u] 44)) 33 o.type 44 i0 _ Tryz.underlying33 hi hz0 ⟨b, 0, none⟩ 0 0 [] (by simp) (by simp) ⟨w0.heap.size, 0, none⟩ 1 1 (plC u) (by rw [hz1]; simp [plC]) hn (by omega) (by omega) (by rw [nextslicecap_zero (by omega), hz2]; omega)
  rw [hr] at hq
  injection hq with hv hw
  refine wpList_plain hgd fun _ hK => ?_
  unfold Oper.wp execOp
  simp only [ho, resolve, invoke, builtin, Sem.run_bind, Sem.run_pure, Result.andThen_ok, List.map_toArray, List.map_cons, List.map_nil, hs, hx, hq2]
  subst hv hw
  simp only [List.nil_append, Array.empty_append, Nat.zero_add] at hown' ⊢
  refine hK _ _ (h _ _ ?_ ?_ (fun k hk => ?_))
  · exact hown'
  · exact ((Below.refl _ _).alloc (Nat.le_refl _) _).grown hgrow (by simp) (fun k hk => by simp [Value.ownBlock] at hk)
  · simp [Value.ownBlock]; omega
def OutP (b o : Nat) (w : World) (v : Value) (l : List PP) : Prop := (l = [] ∧ v = .slice (some ⟨o, 0, none⟩) 0 0) ∨ OwnP w b v l
theorem OutP.form {b o : Nat} {w : World} {v : Value} {l : List PP} (h : OutP b o w v l) : ∃ a k, v = .slice a l.length k := by
  rcases h with ⟨rfl, h⟩ | h
  · exact ⟨_, 0, h⟩
  · exact h.form
theorem OutP.below {b o : Nat} {w w' : World} {v : Value} {l : List PP} (h : OutP b o w v l) (hb : Below w.heap.size w w') : OutP b o w' v l := by
  rcases h with h | h
  · exact .inl h
  · exact .inr (h.below hb)
theorem OutP.opl {b o n k : Nat} {w : World} {a : Option Addr} {l : List PP} (h : OutP b o w (.slice a n k) l) (hO : OwnP w o (.slice (some ⟨o, 0, none⟩) 0 0) []) (hbo : o ≤ b) : OPl o w.heap.size w a l := by
  rcases h with ⟨rfl, h⟩ | h
  · have := hO.opl
    injection h with h1 h2 h3
    rw [h1]
    exact this
  · exact h.opl.mono hbo (Nat.le_refl _)
theorem OutP.ne {b o g : Nat} {w : World} {v : Value} {l : List PP} (h : OutP b o w v l) (hg : w.heap.size ≤ g) (ho : o < w.heap.size) : v.ownBlock ≠ some g := by
  rcases h with ⟨-, rfl⟩ | h
  · simp [Value.ownBlock]; omega
  · intro e
    have := (World.ownsRow.lt h g e).2
    omega
def adr (x : PP) : List Nat := [x.1.sa, x.1.b1, x.1.b2].filterMap (fun a => a.map (·.block))
def Dis (y x : PP) : Prop := ∀ a ∈ adr y, ∀ b ∈ adr x, a ≠ b
def Und (l : List PP) (B : Nat) : Prop := ∀ y ∈ l, ∀ a ∈ adr y, a < B
theorem Und.nil (B : Nat) : Und [] B := fun y hy => by simp at hy
theorem Und.mono {l : List PP} {B C : Nat} (h : Und l B) (hC : B ≤ C) : Und l C := fun y hy a ha => Nat.lt_of_lt_of_le (h y hy a ha) hC
theorem Und.snoc {l : List PP} {x : PP} {B C : Nat} (h : Und l B) (hC : B ≤ C) (hx : ∀ a ∈ adr x, a < C) : Und (l ++ [x]) C := fun y hy a ha => by
  rcases List.mem_append.1 hy with hy | hy
  · exact Nat.lt_of_lt_of_le (h y hy a ha) hC
  · simp at hy
    subst hy
    exact hx a ha
theorem PAt.adr {lo hi : Nat} {W : World} {x : PP} (h : PAt lo hi W x) : ∀ a ∈ adr x, lo ≤ a ∧ a < hi := by
  intro a ha
  unfold Go.Proofs.YtciljbnailobgaaGreat.adr at ha
  simp only [List.mem_filterMap, List.mem_cons, List.not_mem_nil, or_false] at ha
  obtain ⟨q, hq, e⟩ := ha
  have hS : ∀ g, x.1.sa = some g → lo ≤ g.block ∧ g.block < hi := fun g eg => by
    rcases h.1 with ⟨h1, _⟩ | ⟨g', e', h1, h2, _⟩
    · rw [h1] at eg; simp at eg
    · rw [e'] at eg; simp at eg; subst eg; exact ⟨h1, h2⟩
  have hB : (∀ g, x.1.b1 = some g → lo ≤ g.block ∧ g.block < hi) ∧ (∀ g, x.1.b2 = some g → lo ≤ g.block ∧ g.block < hi) := by
    rcases h.2 with ⟨h1, h2, _⟩ | ⟨g1, g2, e1, e2, _, b1, b2, b3, b4, _⟩
    · exact ⟨fun g eg => (by rw [h1] at eg; simp at eg), fun g eg => (by rw [h2] at eg; simp at eg)⟩
    · exact ⟨fun g eg => (by rw [e1] at eg; simp at eg; subst eg; exact ⟨b1, b2⟩), fun g eg => (by rw [e2] at eg; simp at eg; subst eg; exact ⟨b3, b4⟩)⟩
  cases q with
  | none => simp at e
  | some g =>
    simp at e
    subst e
    rcases hq with hq | hq | hq
    · exact hS g hq.symm
    · exact hB.1 g hq.symm
    · exact hB.2 g hq.symm
theorem Dis.symm {x y : PP} (h : Dis x y) : Dis y x := fun a ha b hb e => h b hb a ha e.symm
def SubD (L pre : List PP) : Prop := L.length ≤ pre.length ∧ L.Pairwise Dis ∧ ∀ y ∈ L, y ∈ pre
theorem SubD.nil : SubD [] [] := ⟨Nat.le_refl _, List.Pairwise.nil, fun y hy => by simp at hy⟩
theorem SubD.more {L pre : List PP} (x : PP) (h : SubD L pre) : SubD L (pre ++ [x]) := ⟨by have := h.1; simp; omega, h.2.1, fun y hy => List.mem_append_left _ (h.2.2 y hy)⟩
theorem SubD.snoc {L pre : List PP} {x : PP} (h : SubD L pre) (hx : ∀ y ∈ pre, Dis y x) : SubD (L ++ [x]) (pre ++ [x]) := by
  refine ⟨by have := h.1; simp; omega, List.pairwise_append.2 ⟨h.2.1, List.pairwise_singleton _ _, fun a ha b hb => ?_⟩, fun y hy => ?_⟩
  · simp at hb
    subst hb
    exact hx a (h.2.2 a ha)
  · rcases List.mem_append.1 hy with hy | hy
    · exact List.mem_append_left _ (h.2.2 y hy)
    · exact List.mem_append_right _ hy
end Go.Proofs.YtciljbnailobgaaGreat
namespace Go.Proofs.YtciljbnailobgaaGreat
open Go.ChangeShapes Go.WideShapes Go.ChangeAt Go.RowKit
set_option linter.unusedVariables false
set_option linter.unusedSimpArgs false
set_option maxRecDepth 4000
theorem wpListIn_pushPW {F : Fence} {n : Nat} {ops : Array Oper} {rest : List Oper} {o : Oper} {a : Act} {Q : Exit → Act → World → Prop} (hgd : o.guard = none) (s x : Operand)
    (ho : o.op = .call { callee := .builtin .append, args := #[s, x], argTypes := #[33, 33] })
    (base : Nat) (v : Value) (l : List PP) (hs : a.eval s = v) {w0 : World} (hown : OwnP w0 base v l) (u : PP)
    {zz : Nat} (hx : a.eval x = .slice (some ⟨zz, 0, none⟩) 1 1) (hzz : w0.heap.size = zz) (hl : l.length ≤ 1048576) (hbase : base ≤ w0.heap.size)
    (h : ∀ v' w', OwnP w' base v' (l ++ [u]) → Below base w0 w' → (∀ k, k < w0.heap.size → v.ownBlock ≠ some k → w'.heap[k]? = w0.heap[k]?) → (v'.ownBlock = v.ownBlock ∨ v'.ownBlock = some (w0.heap.size + 1)) → wpListIn F n Tryz.prog ops Q rest (a.put o.dst v') w') : wpListIn F n Tryz.prog ops Q (o :: rest) a (w0.alloc (.cells #[pl0 u, pl1 u, pl2 u] 44)) := by
  subst hzz
  obtain ⟨i0, hi, hz0, hz1, hz2⟩ := info_parts infoPly
  have hown0 : w0.ownsRow base 44 3 v l.length (plsC l) := hown
  refine wpListIn_append_own_at _ hgd s x 33 ho base 44 i0 _ 3 72 Tryz.underlying33 hi hz0 hz1 hz2 rfl (by decide) v l.length (plsC l) hs (hown0.alloc _) ⟨w0.heap.size, 0, none⟩ 1 1 (plC u) hx (by simp [plC])
    (World.news_of_block (cs := #[pl0 u, pl1 u, pl2 u]) (Blk.new w0 _ 44)) (fun y hy => by simp [plC] at hy; rcases hy with rfl | rfl | rfl <;> rfl) (by unfold maxLen; omega) (by omega) (by simp; omega) ?_
  intro v' w' hown' hgrow _ hat
  refine h v' w' ?_ (((Below.refl base w0).alloc hbase _).grown hgrow (by simp; omega) (fun k hk => (hown0.lt k hk).1)) (fun k hk hne => ?_) (by rw [World.size_alloc] at hat; exact hat)
  · show w'.ownsRow base 44 3 _ (l ++ [u]).length (plsC (l ++ [u]))
    rw [List.length_append, plsC_append]
    simpa [plsC] using hown'
  · rw [hgrow.block k (by simp; omega) (fun hh => hne hh.symm), Below.heap_alloc _ _ _ hk]
theorem PAt.frame {lo hi hi' : Nat} {w w' : World} {x : PP} (h : PAt lo hi w x) (hh : hi ≤ hi') (hk : ∀ g cur t, Blk w g cur t → t ≠ 44 → t ≠ 33 → w'.heap[g]? = w.heap[g]?) : PAt lo hi' w' x := by
  refine ⟨?_, ?_⟩
  · rcases h.1 with h | ⟨g, e, h1, h2, cur, hB, r1, r2⟩
    · exact .inl h
    · exact .inr ⟨g, e, h1, by omega, cur, (hk g _ _ hB (by decide) (by decide)).trans hB, r1, r2⟩
  · rcases h.2 with h | ⟨g1, g2, e1, e2, hne, b1, b2, b3, b4, ⟨cur, hB, r1, r2⟩, ⟨cur', hB', r1', r2'⟩⟩
    · exact .inl h
    · exact .inr ⟨g1, g2, e1, e2, hne, b1, by omega, b3, by omega, ⟨cur, (hk g1 _ _ hB (by decide) (by decide)).trans hB, r1, r2⟩, ⟨cur', (hk g2 _ _ hB' (by decide) (by decide)).trans hB', r1', r2'⟩⟩
theorem SeenM.map {W : World} {b n P : Nat} {seen : List (List Int × List Int)} (h : SeenM W b n P seen) {cur : Array Value} {t : TypeId} {g : Nat} (hB : Blk W g cur t) : g ≠ b := by
  rintro rfl
  obtain ⟨D, ⟨es, clock, h1, _⟩, _⟩ := h
  have hB' : W.heap[g]? = some (.cells cur t (0, 0)) := hB
  rw [hB'] at h1
  cases h1
theorem wpListIn_mapput {F : Fence} {n : Nat} {ops : Array Oper} {rest : List Oper} {o : Oper} {a : Act} {W : World} {Q : Exit → Act → World → Prop} (hgd : o.guard = none) (m x v : Operand) {t : TypeId} (ho : o.op = .mapUpdate t m x v)
    {mv xv vv : Value} {R : World → Prop} (h : ∃ w', (Instr.mapUpdate t mv xv vv).run Tryz.prog W = .ok () w' ∧ R w') (hm : a.eval m = mv) (hx : a.eval x = xv) (hv : a.eval v = vv)
    (hK : ∀ w', R w' → wpListIn F n Tryz.prog ops Q rest (a.put o.dst undef) w') : wpListIn F n Tryz.prog ops Q (o :: rest) a W := by
  refine wpListIn_plain hgd fun K' hK' => ?_
  obtain ⟨w', hrun, hR⟩ := h
  unfold Oper.wpIn
  refine ⟨by simp [Oper.about, ho], ?_⟩
  rw [Oper.semAt_plain F _ _ (by rw [ho]; intro c hc; cases hc)]
  simp [execOp, ho, hm, hx, hv, hrun, Result.andThen]
  exact hK' _ _ (hK w' hR)
theorem Blk.grownM {W w6 w7 : World} {g b n P : Nat} {seen : List (List Int × List Int)} {cur : Array Value} {t : TypeId} (h : Blk W g cur t) (m : SeenM W b n P seen) (h56 : Below W.heap.size W w6) (h67 : w6.grownBy w7 (some b)) : Blk w7 g cur t :=
  (h67.block g (Nat.lt_of_lt_of_le h.lt h56.size) (fun e => m.map h (by simpa using e))).trans ((h56.block g h.lt).trans h)
theorem OwnP.grown {W w6 w7 : World} {base b n P : Nat} {seen : List (List Int × List Int)} {v : Value} {L : List PP} (h : OwnP W base v L) (m : SeenM W b n P seen) (h56 : Below W.heap.size W w6) (h67 : w6.grownBy w7 (some b)) : OwnP w7 base v L := by
  obtain ⟨h1, h2 | ⟨g, cap, cur, hv, hb, hh, hc⟩⟩ := h
  · exact ⟨h1, .inl h2⟩
  · exact ⟨h1, .inr ⟨g, cap, cur, hv, hb, Blk.grownM (g := g) (cur := cur) hh m h56 h67, hc⟩⟩
def footP (B3 M : Nat) (X : World) (k : Nat) : Prop := k = B3 ∨ k = M ∨ ∃ v, X.cell? ⟨B3, 0, none⟩ = some v ∧ v.ownBlock = some k
def InvP (P : Nat) (c h s : Int) (lo2 K : Nat) (w v1 : World) (pre : List PP) (X : World) : Prop :=
  (∃ v L, Blk X w.heap.size #[v] 33 ∧ OwnP X w.heap.size v L ∧ L.map (·.2) = addAll [] (pre.map (·.2)) ∧ PAll lo2 X.heap.size X L ∧ (∀ x ∈ L, isB (P : Int) c h s x.2.2.1 x.2.2.2 = true ∧ x.2.1.length ≤ K) ∧ SeenM X (w.heap.size + 1) L.length P (L.map (·.2.2)) ∧ SubD L pre) ∧
  Blk X (w.heap.size + 1 + 1) #[.map (some (w.heap.size + 1))] 140 ∧ Below w.heap.size w X ∧ v1.heap.size ≤ X.heap.size
theorem first_push {P : Nat} {c h s : Int} {lo lo2 K : Nat} {w v1 W w6 w7 w8 : World} {pre : List PP} {x : PP} {v v' : Value} {L : List PP} {a : Act}
    (hz3 : v1.heap.size = w.heap.size + 1 + 1 + 1) (hlo : lo ≤ w.heap.size) (q1 : Blk W w.heap.size #[v] 33) (q2 : OwnP W w.heap.size v L) (q3 : L.map (·.2) = addAll [] (pre.map (·.2))) (q4 : PAll lo2 W.heap.size W L)
    (q5 : ∀ x ∈ L, isB (P : Int) c h s x.2.2.1 x.2.2.2 = true ∧ x.2.1.length ≤ K) (q6 : SeenM W (w.heap.size + 1) L.length P (L.map (·.2.2))) (q7 : SubD L pre) (hR : ∀ y ∈ pre, Dis y x) (q8 : Blk W (w.heap.size + 1 + 1) #[.map (some (w.heap.size + 1))] 140) (q9 : Below w.heap.size w W) (q10 : v1.heap.size ≤ W.heap.size)
    (hPA : PAt lo2 W.heap.size W x) (gx : isB (P : Int) c h s x.2.2.1 x.2.2.2 = true) (hK : x.2.1.length ≤ K) (hadd : addAll [] (pre.map (·.2) ++ [x.2]) = addAll [] (pre.map (·.2)) ++ [x.2])
    (h56 : Below W.heap.size W w6) (g67 : w6.grownBy w7 (some (w.heap.size + 1))) (m7 : SeenM w7 (w.heap.size + 1) (L.length + 1) P (L.map (·.2.2) ++ [x.2.2])) (h78 : Below w.heap.size w7 w8)
    (f78 : ∀ k, k < w7.heap.size → v.ownBlock ≠ some k → w8.heap[k]? = w7.heap[k]?) (o8 : OwnP w8 w.heap.size v' (L ++ [x])) (k8 : v'.ownBlock = v.ownBlock ∨ v'.ownBlock = some (w7.heap.size + 1)) :
    goodPost v1.heap.size lo (footP w.heap.size (w.heap.size + 1)) (InvP P c h s lo2 K w v1) (pre ++ [x]) W .normal a (w8.setCell ⟨w.heap.size, 0, none⟩ v') := by
  have s6 := h56.size
  have s7 := g67.size
  have s8 := h78.size
  obtain ⟨Y, hY⟩ : ∃ Y, w8.setCell ⟨w.heap.size, 0, none⟩ v' = Y := ⟨_, rfl⟩
  have hYz : Y.heap.size = w8.heap.size := by rw [← hY]; simp
  have f1 : ∀ k, k < W.heap.size → k ≠ w.heap.size + 1 → v.ownBlock ≠ some k → w8.heap[k]? = W.heap[k]? := fun k hk h1 h2 => by
    rw [f78 k (by omega) h2, g67.block k (by omega) (fun e => h1 (by simpa using e)), h56.block k hk]
  have fY : ∀ k, k ≠ w.heap.size → Y.heap[k]? = w8.heap[k]? := fun k hk => by rw [← hY]; exact heap_setCell_other _ _ _ _ hk
  have fA : ∀ k, k < W.heap.size → k ≠ w.heap.size → k ≠ w.heap.size + 1 → v.ownBlock ≠ some k → Y.heap[k]? = W.heap[k]? := fun k h1 h2 h3 h4 => (fY k h2).trans (f1 k h1 h3 h4)
  have fT : ∀ g cur t, Blk W g cur t → t ≠ 44 → t ≠ 33 → Y.heap[g]? = W.heap[g]? := fun g cur t hB t1 t2 => by
    refine fA g hB.lt ?_ (q6.map hB) (q2.ne hB t1)
    rintro rfl
    have e1 : W.heap[w.heap.size]? = some (.cells cur t (0, 0)) := hB
    have e2 : W.heap[w.heap.size]? = some (.cells #[v] 33 (0, 0)) := q1
    rw [e1] at e2
    injection e2 with e2
    injection e2 with _ e3
    exact t2 e3
  have b8 : Blk w8 w.heap.size #[v] 33 := (f1 _ q1.lt (by omega) (q2.ne q1 (by decide))).trans q1
  have bY : Blk Y w.heap.size #[v'] 33 := by rw [← hY]; exact one_setCell b8
  have cY := bY.one.1
  have hbW : Below w.heap.size W Y := by
    rw [← hY]
    exact (((h56.mono q9.size).grown g67 (Nat.le_trans q9.size s6) (fun k hk => by simp at hk; omega)).trans h78).setCell (Nat.le_refl _) _
  have hlq := fun k hk => World.ownsRow.lt q2 k hk
  refine ⟨?_, ?_, ⟨?_, fun k hk hf => ?_, fun k hk hf => ?_⟩, ⟨v', L ++ [x], ?_, ?_, ?_, ?_, ?_, ?_, ?_⟩, ?_, ?_, ?_⟩
  · refine ⟨by rw [hY]; omega, fun k o hk ho hc => ?_⟩
    rw [hY, fA k (Array.getElem?_eq_some_iff.1 ho).1 (by omega) (by omega) (fun e => ?_)]
    · exact ho
    · obtain ⟨_, ⟨rfl, _⟩ | ⟨g, cap, cur, rfl, _, hh, _⟩⟩ := q2
      · simp [Value.ownBlock] at e
      · simp [Value.ownBlock] at e
        subst e
        rw [hh] at ho
        cases ho
        simp [Obj.isCells] at hc
  · rw [hY]; exact hbW.mono hlo
  · rw [hY]; omega
  · rw [hY]
    exact fA k hk (fun e => hf (.inl e)) (fun e => hf (.inr (.inl e))) (fun e => hf (.inr (.inr ⟨v, q1.one.1, e⟩)))
  · rw [hY] at hf
    rcases hf with rfl | rfl | ⟨u, hu, ho⟩
    · exact .inl rfl
    · exact .inr (.inl rfl)
    · have e : u = v' := by
        rw [cY] at hu
        simpa using hu.symm
      subst e
      rcases k8 with e | e
      · exact .inr (.inr ⟨v, q1.one.1, by rw [← e]; exact ho⟩)
      · rw [e] at ho
        simp at ho
        omega
  · rw [hY]; exact bY
  · have := ownsRow_setCell_other (a := ⟨w.heap.size, 0, none⟩) (w := w8) o8 (o8.ne b8 (by decide)) v'
    rw [hY] at this
    rw [hY]
    exact this
  · rw [List.map_append, List.map_append, q3]
    exact hadd.symm
  · intro y hy
    rw [hY]
    rcases List.mem_append.1 hy with hy | hy
    · exact (q4 y hy).frame (by omega) fT
    · simp at hy
      subst hy
      exact hPA.frame (by omega) fT
  · intro y hy
    rcases List.mem_append.1 hy with hy | hy
    · exact q5 y hy
    · simp at hy
      subst hy
      exact ⟨gx, hK⟩
  · rw [hY]
    have h7 := m7.lt
    have := m7.keep (W' := Y) (by
      rw [fY _ (by omega), f78 _ h7 (fun e => ?_)]
      obtain ⟨_, ⟨rfl, _⟩ | ⟨g, cap, cur, rfl, _, hh, _⟩⟩ := q2
      · simp [Value.ownBlock] at e
      · simp [Value.ownBlock] at e
        exact q6.map (g := g) hh e)
    simpa using this
  · exact q7.snoc hR
  · rw [hY]
    exact (fT _ _ _ q8 (by decide) (by decide)).trans q8
  · rw [hY]; exact q9.trans hbW
  · rw [hY]; omega
end Go.Proofs.YtciljbnailobgaaGreat
namespace Go.Proofs.YtciljbnailobgaaGreat
open Go.ChangeShapes Go.WideShapes Go.ChangeAt Go.RowKit
set_option linter.unusedVariables false
set_option linter.unusedSimpArgs false
def OwnE {α : Type} (enc : α → List Value) (T : TypeId) (sz : Nat) (w : World) (base : Nat) (v : Value) (l : List α) : Prop := w.ownsRow base T sz v l.length (l.flatMap enc)
section
variable {α : Type} {enc : α → List Value} {T : TypeId} {sz : Nat}
theorem OwnE.form {w : World} {base : Nat} {v : Value} {l : List α} (h : OwnE enc T sz w base v l) : ∃ a k, v = .slice a l.length k := by
  rcases h.2 with ⟨h1, h2⟩ | ⟨g, cap, cur, h1, _⟩
  · exact ⟨none, 0, by rw [h1, h2]⟩
  · exact ⟨some ⟨g, 0, none⟩, cap, h1⟩
theorem OwnE.nil (w : World) (base : Nat) : OwnE enc T sz w base (.slice none 0 0) [] := World.ownsRow_nil w base _ _
theorem OwnE.alloc {w : World} {base : Nat} {v : Value} {l : List α} (h : OwnE enc T sz w base v l) (o : Obj) : OwnE enc T sz (w.alloc o) base v l := World.ownsRow.alloc h o
theorem OwnE.below {w w' : World} {base : Nat} {v : Value} {l : List α} (h : OwnE enc T sz w base v l) (hb : Below w.heap.size w w') : OwnE enc T sz w' base v l :=
  World.ownsRow.kept (row := none) h ⟨hb.os, hb.tape, hb.output, hb.size, fun k hk _ => hb.block k hk⟩ (by
    cases hv : v.ownBlock with
    | none => exact .inl rfl
    | some g => exact .inr (by simp))
theorem OwnE.mono {w : World} {base base' : Nat} {v : Value} {l : List α} (h : OwnE enc T sz w base v l) (hb : base' ≤ base) : OwnE enc T sz w base' v l := by
  obtain ⟨h1, h2 | ⟨g, cap, cur, q1, q2, q3⟩⟩ := h
  · exact ⟨h1, .inl h2⟩
  · exact ⟨h1, .inr ⟨g, cap, cur, q1, by omega, q3⟩⟩
theorem OwnE.ne {w : World} {base g : Nat} {v : Value} {l : List α} {cur : Array Value} {t : TypeId} (h : OwnE enc T sz w base v l) (hB : Blk w g cur t) (ht : t ≠ T) : v.ownBlock ≠ some g := by
  intro e
  obtain ⟨_, ⟨h1, _⟩ | ⟨g', cap, cur', rfl, _, hh, _⟩⟩ := h
  · rw [h1] at e
    simp [Value.ownBlock] at e
  · simp [Value.ownBlock] at e
    subst e
    have hB' : w.heap[g']? = some (.cells cur t (0, 0)) := hB
    rw [hh] at hB'
    injection hB' with hB'
    injection hB' with _ h3
    exact ht h3.symm
theorem OwnE.one (w : World) (x : α) (cs : Array Value) (hcs : cs.toList = enc x) (hsz : (enc x).length = sz) : OwnE enc T sz (w.alloc (.cells cs T)) w.heap.size (.slice (some ⟨w.heap.size, 0, none⟩) 1 1) [x] := by
  have hn : cs.size = sz := by rw [← Array.length_toList, hcs, hsz]
  refine ⟨by simp [hsz], .inr ⟨w.heap.size, 1, cs, rfl, Nat.le_refl _, Blk.new w cs T, Nat.le_refl _, by unfold maxLen; omega, by rw [hn]; simp, ?_⟩⟩
  simp only [List.flatMap_cons, List.flatMap_nil, List.append_nil]
  rw [← hcs]
  exact List.take_of_length_le (by rw [Array.length_toList, hn]; simp)
theorem wp_pushE {TS : TypeId} (hU : Tryz.prog.underlying TS = some (.slice T)) {i0 : TypeInfo} {z : Value} {by_ : Nat} (hi : Tryz.prog.info? T = some i0) (hz0 : i0.zero = some z) (hz1 : i0.size = sz) (hz2 : i0.bytes = by_) (hzs : z.cells.size = sz) (hs0 : 0 < sz) (hby : by_ ≤ 100)
    {ops : Array Oper} {rest : List Oper} {o : Oper} {a : Act} {Q : Exit → Act → World → Prop} (hgd : o.guard = none) (s x : Operand)
    (ho : o.op = .call { callee := .builtin .append, args := #[s, x], argTypes := #[TS, TS] })
    (base : Nat) (v : Value) (l : List α) (hs : a.eval s = v) {w0 : World} (hown : OwnE enc T sz w0 base v l) (u : α) (cs : Array Value) (hcs : cs.toList = enc u) (hsz : (enc u).length = sz) (hone : ∀ y ∈ enc u, y.oneCell' = true)
    {zz : Nat} (hx : a.eval x = .slice (some ⟨zz, 0, none⟩) 1 1) (hzz : w0.heap.size = zz) (hl : l.length ≤ 1048576) (hbase : base ≤ w0.heap.size)
    (h : ∀ v' w', OwnE enc T sz w' base v' (l ++ [u]) → Below base w0 w' → (∀ k, k < w0.heap.size → v.ownBlock ≠ some k → w'.heap[k]? = w0.heap[k]?) → wpList Tryz.prog ops Q rest (a.put o.dst v') w') : wpList Tryz.prog ops Q (o :: rest) a (w0.alloc (.cells cs T)) := by
  subst hzz
  have hown0 : w0.ownsRow base T sz v l.length (l.flatMap enc) := hown
  refine wpList_append_own _ hgd s x TS ho base T i0 z sz by_ hU hi hz0 hz1 hz2 hzs hs0 v l.length (l.flatMap enc) hs (hown0.alloc _) ⟨w0.heap.size, 0, none⟩ 1 1 (enc u) hx (by rw [hsz, Nat.one_mul])
    (fun j y hj => World.news_of_block (cs := cs) (Blk.new w0 _ T) j y (by rw [hcs]; exact hj)) hone (by unfold maxLen; omega) (Nat.le_trans (Nat.mul_le_mul (by omega : l.length + 1 ≤ 1048577) hby) (by omega)) (by simp; omega) ?_
  intro v' w' hown' hgrow _
  refine h v' w' ?_ (((Below.refl base w0).alloc hbase _).grown hgrow (by simp; omega) (fun k hk => (hown0.lt k hk).1)) (fun k hk hne => ?_)
  · show w'.ownsRow base T sz _ (l ++ [u]).length ((l ++ [u]).flatMap enc)
    rw [List.length_append, List.flatMap_append]
    simpa using hown'
  · rw [hgrow.block k (by simp; omega) (fun hh => hne hh.symm), Below.heap_alloc _ _ _ hk]
end
theorem PAt.frameT {lo hi hi' : Nat} {w w' : World} {x : PP} {T : TypeId} (h : PAt lo hi w x) (hh : hi ≤ hi') (hT : 55 ≠ T ∧ 2 ≠ T) (hk : ∀ g cur t, Blk w g cur t → t ≠ T → w'.heap[g]? = w.heap[g]?) : PAt lo hi' w' x := by
  refine ⟨?_, ?_⟩
  · rcases h.1 with h | ⟨g, e, h1, h2, cur, hB, r1, r2⟩
    · exact .inl h
    · exact .inr ⟨g, e, h1, by omega, cur, (hk g _ _ hB hT.1).trans hB, r1, r2⟩
  · rcases h.2 with h | ⟨g1, g2, e1, e2, hne, b1, b2, b3, b4, ⟨cur, hB, r1, r2⟩, ⟨cur', hB', r1', r2'⟩⟩
    · exact .inl h
    · exact .inr ⟨g1, g2, e1, e2, hne, b1, by omega, b3, by omega, ⟨cur, (hk g1 _ _ hB hT.2).trans hB, r1, r2⟩, ⟨cur', (hk g2 _ _ hB' hT.2).trans hB', r1', r2'⟩⟩
abbrev LV := Option Addr × Nat × List PP
abbrev lvV (x : LV) : Value := .slice x.1 x.2.2.length x.2.1
def lvC (x : LV) : List Value := [lvV x]
def LvAt (lo hi : Nat) (w : World) (x : LV) : Prop := OPl lo hi w x.1 x.2.2 ∧ PAll lo hi w x.2.2
def LsAll (lo hi : Nat) (w : World) (l : List LV) : Prop := ∀ x ∈ l, LvAt lo hi w x
theorem LvAt.below {lo hi : Nat} {w w' : World} {x : LV} (h : LvAt lo hi w x) (hb : Below w.heap.size w w') : LvAt lo hi w' x := ⟨h.1.below hb, h.2.below hb⟩
theorem LvAt.mono {lo hi lo' hi' : Nat} {w : World} {x : LV} (h : LvAt lo hi w x) (h1 : lo' ≤ lo) (h2 : hi ≤ hi') : LvAt lo' hi' w x := ⟨h.1.mono h1 h2, h.2.mono h1 h2⟩
theorem LsAll.below {lo hi : Nat} {w w' : World} {l : List LV} (h : LsAll lo hi w l) (hb : Below w.heap.size w w') : LsAll lo hi w' l := fun x hx => (h x hx).below hb
theorem LsAll.mono {lo hi lo' hi' : Nat} {w : World} {l : List LV} (h : LsAll lo hi w l) (h1 : lo' ≤ lo) (h2 : hi ≤ hi') : LsAll lo' hi' w l := fun x hx => (h x hx).mono h1 h2
theorem LvAt.frameT {lo hi hi' : Nat} {w w' : World} {x : LV} {T : TypeId} (h : LvAt lo hi w x) (hh : hi ≤ hi') (hT : 55 ≠ T ∧ 2 ≠ T) (hT2 : 44 ≠ T) (hk : ∀ g cur t, Blk w g cur t → t ≠ T → w'.heap[g]? = w.heap[g]?) : LvAt lo hi' w' x := by
  refine ⟨?_, fun y hy => (h.2 y hy).frameT hh hT hk⟩
  rcases h.1 with h | ⟨g, e, h1, h2, cur, hB, r1, r2⟩
  · exact .inl h
  · exact .inr ⟨g, e, h1, by omega, cur, (hk g _ _ hB hT2).trans hB, r1, r2⟩
theorem LsAll.frameT {lo hi hi' : Nat} {w w' : World} {l : List LV} {T : TypeId} (h : LsAll lo hi w l) (hh : hi ≤ hi') (hT : 55 ≠ T ∧ 2 ≠ T) (hT2 : 44 ≠ T) (hk : ∀ g cur t, Blk w g cur t → t ≠ T → w'.heap[g]? = w.heap[g]?) : LsAll lo hi' w' l := fun x hx => (h x hx).frameT hh hT hT2 hk
abbrev OwnL (w : World) (base : Nat) (v : Value) (l : List LV) : Prop := OwnE lvC 33 1 w base v l
theorem infoPls : (Tryz.prog.info? 33).map (fun i => (i.zero, i.size, i.bytes)) = some (some (.slice none 0 0), 1, 24) := by kernel_rfl
theorem wp_pushL {ops : Array Oper} {rest : List Oper} {o : Oper} {a : Act} {Q : Exit → Act → World → Prop} (hgd : o.guard = none) (s x : Operand)
    (ho : o.op = .call { callee := .builtin .append, args := #[s, x], argTypes := #[68, 68] })
    (base : Nat) (v : Value) (l : List LV) (hs : a.eval s = v) {w0 : World} (hown : OwnL w0 base v l) (u : LV)
    {zz : Nat} (hx : a.eval x = .slice (some ⟨zz, 0, none⟩) 1 1) (hzz : w0.heap.size = zz) (hl : l.length ≤ 1048576) (hbase : base ≤ w0.heap.size)
    (h : ∀ v' w', OwnL w' base v' (l ++ [u]) → Below base w0 w' → (∀ g cur t, Blk w0 g cur t → t ≠ 33 → w'.heap[g]? = w0.heap[g]?) → wpList Tryz.prog ops Q rest (a.put o.dst v') w') : wpList Tryz.prog ops Q (o :: rest) a (w0.alloc (.cells #[lvV u] 33)) := by
  obtain ⟨i0, hi, hz0, hz1, hz2⟩ := info_parts infoPls
  exact wp_pushE (enc := lvC) (sz := 1) Tryz.underlying68 hi hz0 hz1 hz2 rfl (by decide) (by decide) hgd s x ho base v l hs hown u #[lvV u] rfl rfl (fun y hy => by simp [lvC] at hy; subst hy; rfl) hx hzz hl hbase
    (fun v' w' q1 q2 q3 => h v' w' q1 q2 (fun g cur t hB ht => q3 g hB.lt (hown.ne hB ht)))
abbrev LI := (Nat × List Int) × (Nat × Nat × List LV)
abbrev liV (x : LI) : Value := .agg #[.slice (some ⟨x.1.1, 0, none⟩) x.1.2.length x.1.2.length, .slice (some ⟨x.2.1, 0, none⟩) x.2.2.2.length x.2.2.1]
def liC (x : LI) : List Value := [.slice (some ⟨x.1.1, 0, none⟩) x.1.2.length x.1.2.length, .slice (some ⟨x.2.1, 0, none⟩) x.2.2.2.length x.2.2.1]
def LiAt (lo hi : Nat) (w : World) (x : LI) : Prop := Row w x.1.1 x.1.2 ∧ lo ≤ x.2.1 ∧ x.2.1 < hi ∧ VRow w x.2.1 (x.2.2.2.flatMap lvC) 33 ∧ LsAll lo hi w x.2.2.2
def LisAll (lo hi : Nat) (w : World) (l : List LI) : Prop := ∀ x ∈ l, LiAt lo hi w x
theorem LiAt.below {lo hi : Nat} {w w' : World} {x : LI} (h : LiAt lo hi w x) (hb : Below w.heap.size w w') : LiAt lo hi w' x := ⟨h.1.below hb, h.2.1, h.2.2.1, h.2.2.2.1.below hb, h.2.2.2.2.below hb⟩
theorem LiAt.mono {lo hi lo' hi' : Nat} {w : World} {x : LI} (h : LiAt lo hi w x) (h1 : lo' ≤ lo) (h2 : hi ≤ hi') : LiAt lo' hi' w x := ⟨h.1, by have := h.2.1; omega, by have := h.2.2.1; omega, h.2.2.2.1, h.2.2.2.2.mono h1 h2⟩
theorem LisAll.below {lo hi : Nat} {w w' : World} {l : List LI} (h : LisAll lo hi w l) (hb : Below w.heap.size w w') : LisAll lo hi w' l := fun x hx => (h x hx).below hb
theorem LisAll.mono {lo hi lo' hi' : Nat} {w : World} {l : List LI} (h : LisAll lo hi w l) (h1 : lo' ≤ lo) (h2 : hi ≤ hi') : LisAll lo' hi' w l := fun x hx => (h x hx).mono h1 h2
theorem LiAt.frameT {lo hi hi' : Nat} {w w' : World} {x : LI} {T : TypeId} (h : LiAt lo hi w x) (hh : hi ≤ hi') (hT : 55 ≠ T ∧ 2 ≠ T) (hT2 : 44 ≠ T) (hT3 : 33 ≠ T) (hk : ∀ g cur t, Blk w g cur t → t ≠ T → w'.heap[g]? = w.heap[g]?) : LiAt lo hi' w' x := by
  obtain ⟨⟨cur, hB, r1, r2⟩, h2, h3, ⟨cur', hB', r1', r2'⟩, h5⟩ := h
  exact ⟨⟨cur, (hk _ _ _ hB hT.2).trans hB, r1, r2⟩, h2, by omega, ⟨cur', (hk _ _ _ hB' hT3).trans hB', r1', r2'⟩, h5.frameT hh hT hT2 hk⟩
theorem LisAll.frameT {lo hi hi' : Nat} {w w' : World} {l : List LI} {T : TypeId} (h : LisAll lo hi w l) (hh : hi ≤ hi') (hT : 55 ≠ T ∧ 2 ≠ T) (hT2 : 44 ≠ T) (hT3 : 33 ≠ T) (hk : ∀ g cur t, Blk w g cur t → t ≠ T → w'.heap[g]? = w.heap[g]?) : LisAll lo hi' w' l := fun x hx => (h x hx).frameT hh hT hT2 hT3 hk
abbrev OwnI (w : World) (base : Nat) (v : Value) (l : List LI) : Prop := OwnE liC 70 2 w base v l
theorem infoLis : (Tryz.prog.info? 70).map (fun i => (i.zero, i.size, i.bytes)) = some (some (.agg #[.slice none 0 0, .slice none 0 0]), 2, 48) := by kernel_rfl
theorem wp_pushLi {ops : Array Oper} {rest : List Oper} {o : Oper} {a : Act} {Q : Exit → Act → World → Prop} (hgd : o.guard = none) (s x : Operand)
    (ho : o.op = .call { callee := .builtin .append, args := #[s, x], argTypes := #[64, 64] })
    (base : Nat) (v : Value) (l : List LI) (hs : a.eval s = v) {w0 : World} (hown : OwnI w0 base v l) (u : LI)
    {zz : Nat} (hx : a.eval x = .slice (some ⟨zz, 0, none⟩) 1 1) (hzz : w0.heap.size = zz) (hl : l.length ≤ 1048576) (hbase : base ≤ w0.heap.size)
    (h : ∀ v' w', OwnI w' base v' (l ++ [u]) → Below base w0 w' → (∀ g cur t, Blk w0 g cur t → t ≠ 70 → w'.heap[g]? = w0.heap[g]?) → wpList Tryz.prog ops Q rest (a.put o.dst v') w') : wpList Tryz.prog ops Q (o :: rest) a (w0.alloc (.cells #[.slice (some ⟨u.1.1, 0, none⟩) u.1.2.length u.1.2.length, .slice (some ⟨u.2.1, 0, none⟩) u.2.2.2.length u.2.2.1] 70)) := by
  obtain ⟨i0, hi, hz0, hz1, hz2⟩ := info_parts infoLis
  exact wp_pushE (enc := liC) (sz := 2) Tryz.underlying64 hi hz0 hz1 hz2 rfl (by decide) (by decide) hgd s x ho base v l hs hown u _ rfl rfl (fun y hy => by simp [liC] at hy; rcases hy with rfl | rfl <;> rfl) hx hzz hl hbase
    (fun v' w' q1 q2 q3 => h v' w' q1 q2 (fun g cur t hB ht => q3 g hB.lt (hown.ne hB ht)))
def levels (P : Nat) (h : Int) : List Int → List Ply → List (List Ply)
  | [], l => [l]
  | d :: ds, l => l :: (if nextP P h d l = [] then [] else levels P h ds (nextP P h d l))
theorem levels_length (P : Nat) (h : Int) : ∀ (o : List Int) (l : List Ply), (levels P h o l).length = longN P h o l + 1
  | [], l => rfl
  | d :: ds, l => by
    rw [levels, longN, List.length_cons]
    split
    · rfl
    · rw [levels_length P h ds]
theorem levels_last (P : Nat) (h : Int) : ∀ (o : List Int) (l : List Ply), (levels P h o l)[longN P h o l]? = some (longP P h o l)
  | [], l => rfl
  | d :: ds, l => by
    rw [levels, longN, longP]
    split
    · rfl
    · rw [List.getElem?_cons_succ]
      exact levels_last P h ds _
theorem levels_fine (P : Nat) (h : Int) : ∀ (o : List Int) (l : List Ply), l.length ≤ 3000 → (levels P h o l).all (fun m => decide (m.length ≤ 3000)) = fineP P h o l
  | [], l, hl => by simp [levels, fineP, hl]
  | d :: ds, l, hl => by
    rw [levels, fineP, List.all_cons, decide_eq_true hl, Bool.true_and]
    by_cases e : nextP P h d l = []
    · simp [e]
    · rw [if_neg e, if_neg e]
      by_cases e2 : (nextP P h d l).length ≤ 3000
      · rw [levels_fine P h ds _ e2, decide_eq_true e2, Bool.true_and]
      · rw [decide_eq_false e2, Bool.false_and]
        cases ds <;> simp [levels, e2]
end Go.Proofs.YtciljbnailobgaaGreat
