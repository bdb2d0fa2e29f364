/- Texts of a proof, laid together. -/
import Derived.Test.YtciljbnailobgaaGreatV06
import Derived.Test.YtciljbnailobgaaGreatV07
import Derived.Test.YtciljbnailobgaaGreatV02
import Derived.Laws.CopyOwn
namespace Go.Proofs.YtciljbnailobgaaGreat
open Go.ChangeShapes Go.WideShapes Go.ChangeAt Go.RowKit
set_option linter.unusedVariables false
set_option linter.unusedSimpArgs false
def oneMore (P : Nat) (p : Ply) (t : Stp) : Ply := (p.1 ++ [t], mvX p.2.1 t.1 t.2.1 1, mvY P p.2.2 t.2.1 t.2.2.2 1)
def cand (P : Nat) (h d : Int) (p : Ply) : List Ply := (legL P h p.2.1 p.2.2 d).map (oneMore P p)
def addP (out : List Ply) (p : Ply) : List Ply := if out.any (fun q => decide (q.2 = p.2)) = true then out else out ++ [p]
def addAll (out : List Ply) (l : List Ply) : List Ply := l.foldl addP out
def nextP (P : Nat) (h d : Int) (l : List Ply) : List Ply := addAll [] (l.flatMap (cand P h d))
theorem addAll_append (out l m : List Ply) : addAll out (l ++ m) = addAll (addAll out l) m := by simp [addAll]
theorem addAll_snoc (out l : List Ply) (x : Ply) : addAll out (l ++ [x]) = addP (addAll out l) x := by simp [addAll]
theorem addP_length (out : List Ply) (p : Ply) : (addP out p).length ≤ out.length + 1 := by
  unfold addP
  split <;> simp
theorem addAll_length : ∀ (l out : List Ply), (addAll out l).length ≤ out.length + l.length
  | [], out => by simp [addAll]
  | x :: l, out => by
    have h1 := addAll_length l (addP out x)
    have h2 := addP_length out x
    simp only [addAll, List.foldl_cons, List.length_cons] at h1 ⊢
    omega
theorem addP_mem {out : List Ply} {p q : Ply} (h : q ∈ addP out p) : q ∈ out ∨ q = p := by
  unfold addP at h
  split at h
  · exact .inl h
  · rcases List.mem_append.1 h with h | h
    · exact .inl h
    · simp at h; exact .inr h
theorem addAll_mem : ∀ {l out : List Ply} {q : Ply}, q ∈ addAll out l → q ∈ out ∨ q ∈ l
  | [], out, q, h => .inl h
  | x :: l, out, q, h => by
    rcases addAll_mem (l := l) (out := addP out x) h with h | h
    · rcases addP_mem h with h | h
      · exact .inl h
      · exact .inr (by simp [h])
    · exact .inr (by simp [h])
theorem cand_length (P : Nat) (h d : Int) (p : Ply) : (cand P h d p).length ≤ P + 1 := by
  unfold cand
  rw [List.length_map]
  exact legL_length P h _ _ d
theorem flat_length (P : Nat) (h d : Int) : ∀ l : List Ply, (l.flatMap (cand P h d)).length ≤ l.length * (P + 1)
  | [] => by simp
  | x :: l => by
    have h1 := flat_length P h d l
    have h2 := cand_length P h d x
    rw [List.flatMap_cons, List.length_append, List.length_cons, Nat.add_mul]
    omega
theorem nextP_length (P : Nat) (h d : Int) (l : List Ply) : (nextP P h d l).length ≤ l.length * (P + 1) := by
  have h1 := addAll_length (l.flatMap (cand P h d)) []
  have h2 := flat_length P h d l
  unfold nextP
  rw [List.length_nil] at h1
  omega
def findP (b : List Int × List Int) : List Ply → Nat → Int
  | [], _ => -1
  | q :: l, n => if q.2 = b then (n : Int) else findP b l (n + 1)
theorem findP_neg (b : List Int × List Int) : ∀ (l : List Ply) (n : Nat), findP b l n < 0 ↔ ¬ (l.any (fun q => decide (q.2 = b)) = true)
  | [], n => by simp [findP]
  | q :: l, n => by
    rw [findP, List.any_cons]
    by_cases e : q.2 = b
    · rw [if_pos e, decide_eq_true e]
      simp
    · rw [if_neg e, decide_eq_false e, findP_neg b l (n + 1)]
      simp
theorem findP_bound (b : List Int × List Int) : ∀ (l : List Ply) (n : Nat), -1 ≤ findP b l n ∧ findP b l n < (n : Int) + l.length + 1
  | [], n => by simp [findP]; omega
  | q :: l, n => by
    rw [findP]
    split
    · simp; omega
    · have := findP_bound b l (n + 1)
      simp
      omega
def Fine (p c h s : Int) (l : List Ply) : Prop := ∀ q ∈ l, isB p c h s q.2.1 q.2.2 = true
theorem legL_leg {P : Nat} {c h s d : Int} {xs ys : List Int} {t : Stp} (g : isB (P : Int) c h s xs ys = true) (hd : inB d 1 s = true) (ht : t ∈ legL P h xs ys d) : legB P h s xs ys t = true := by
  unfold legL at ht
  split at ht
  · simp at ht
  · rename_i ho
    have : ∀ n, n ≤ P + 1 → t ∈ legTo P h xs ys d n → ∃ k, k ≤ P ∧ stepI P h xs ys k d = some t := by
      intro n
      induction n with
      | zero => intro _ h; simp [legTo] at h
      | succ n ih =>
        intro hn h
        rw [legTo, List.mem_append] at h
        rcases h with h | h
        · exact ⟨n, by omega, by simpa using h⟩
        · exact ih (by omega) h
    obtain ⟨k, hk, e⟩ := this _ (Nat.le_refl _) ht
    obtain ⟨e1, -, e3, -⟩ := stepI_form e
    rw [legB_S, e1, e3, hd, show inB (k : Int) 0 (P : Int) = true by simp [inB]; omega, show ((k : Int)).toNat = k by simp]
    unfold stepS
    rw [if_neg ho, e]
    simp
theorem cand_fine {P : Nat} {c h s d : Int} {p : Ply} (g : isB (P : Int) c h s p.2.1 p.2.2 = true) (hd : inB d 1 s = true) : Fine (P : Int) c h s (cand P h d p) := by
  intro q hq
  obtain ⟨t, ht, rfl⟩ := List.mem_map.1 hq
  obtain ⟨a, b, d', q⟩ := t
  exact (step_facts g (legL_leg g hd ht)).1
theorem nextP_fine {P : Nat} {c h s d : Int} {l : List Ply} (g : Fine (P : Int) c h s l) (hd : inB d 1 s = true) : Fine (P : Int) c h s (nextP P h d l) := by
  intro q hq
  rcases addAll_mem hq with h | h
  · simp at h
  · obtain ⟨p, hp, hq⟩ := List.mem_flatMap.1 h
    exact cand_fine (g p hp) hd q hq
def kept (P : Nat) (h d : Int) (l : List Ply) (i : Nat) (m : List Stp) (p : Ply) (k : Nat) : List Ply := addAll (addAll [] ((l.take i).flatMap (cand P h d))) ((m.take k).map (oneMore P p))
def longP (P : Nat) (h : Int) : List Int → List Ply → List Ply
  | [], l => l
  | d :: ds, l => if nextP P h d l = [] then l else longP P h ds (nextP P h d l)
def longN (P : Nat) (h : Int) : List Int → List Ply → Nat
  | [], l => 0
  | d :: ds, l => if nextP P h d l = [] then 0 else longN P h ds (nextP P h d l) + 1
def fineP (P : Nat) (h : Int) : List Int → List Ply → Bool
  | [], l => true
  | d :: ds, l => decide ((nextP P h d l).length ≤ 3000) && (if nextP P h d l = [] then true else fineP P h ds (nextP P h d l))
def startP (xs ys : List Int) : List Ply := [([], xs, ys)]
def ordersP (ra rb : Int) : List (List Int) := if ra = rb then [[ra, ra, ra, ra]] else [[ra, rb], [rb, ra]]
def usedP (P : Nat) (h : Int) (xs ys : List Int) (ra rb : Int) : Nat := ((ordersP ra rb).map (fun o => longN P h o (startP xs ys))).foldl max 0
theorem longN_le (P : Nat) (h : Int) : ∀ (o : List Int) (l : List Ply), longN P h o l ≤ o.length
  | [], l => by simp [longN]
  | d :: ds, l => by
    have := longN_le P h ds (nextP P h d l)
    rw [longN]
    split <;> simp <;> omega
end Go.Proofs.YtciljbnailobgaaGreat
namespace Go.Proofs.YtciljbnailobgaaGreat
set_option linter.unusedVariables false
def folN (P : Nat) (h s : Int) : List Int → List Stp → List Int × List Int → Option (List Int × List Int)
  | _, [], b => some b
  | [], _ :: _, _ => none
  | o :: os, t :: ts, b => if t.2.2.1 = o ∧ legB P h s b.1 b.2 t = true then folN P h s os ts (mvX b.1 t.1 t.2.1 1, mvY P b.2 t.2.1 t.2.2.2 1) else none
def firstF (P : Nat) (h s : Int) (xs ys : List Int) (ts : List Stp) : List (List Int) → Option (List Int × List Int)
  | [] => none
  | o :: os => match folN P h s o ts (xs, ys) with
    | some r => some r
    | none => firstF P h s xs ys ts os
end Go.Proofs.YtciljbnailobgaaGreat
namespace Go.Proofs.YtciljbnailobgaaGreat
open Go.ChangeShapes Go.WideShapes Go.ChangeAt Go.RowKit
set_option linter.unusedVariables false
set_option linter.unusedSimpArgs false
set_option maxRecDepth 4000
theorem made_blk (w : World) (n : Nat) : Blk (w.alloc (.cells (madeCells #[.int .i64 0] n) 2)) w.heap.size (ints (List.replicate n 0)).toArray 2 := by
  rw [show madeCells #[.int .i64 0] n = (ints (List.replicate n 0)).toArray by
    apply Array.toList_inj.1
    rw [toList_madeCells_one]
    simp [ints]]
  exact Blk.new w _ _
theorem irow_copy {W : World} {b o : Nat} {xs : List Int} (r : IRow W (some ⟨b, o, none⟩) xs) (j : Nat) (v : Value) (hj : (ints xs)[j]? = some v) : W.cell? ((⟨b, o, none⟩ : Addr).add j) = some v := by
  obtain ⟨hlt, rfl⟩ := List.getElem?_eq_some_iff.1 hj
  have hlt' : j < xs.length := by simpa [ints] using hlt
  obtain ⟨b', o', e, hc⟩ := r j hlt'
  injection e with e
  injection e with e1 e2 _
  subst e1 e2
  refine Eq.trans (show _ = W.cell? ⟨b, o + j, none⟩ from by unfold Addr.add; split <;> simp_all) (hc.trans ?_)
  simp [ints, hlt']
theorem ints_one1 {xs : List Int} (v : Value) (hv : v ∈ ints xs) : v.oneCell' = true := by
  obtain ⟨x, _, rfl⟩ := List.mem_map.1 hv
  rfl
theorem wp_copyI {ops : Array Oper} {rest : List Oper} {o : Oper} {a : Act} {Q : Exit → Act → World → Prop} (hgd : o.guard = none) (d s : Operand)
    (ho : o.op = .call { callee := .builtin .copy, args := #[d, s], argTypes := #[26, 26] }) (g n b o' c : Nat) (hd : a.eval d = .slice (some ⟨g, 0, none⟩) n n) (hs : a.eval s = .slice (some ⟨b, o', none⟩) n c)
    {w : World} (hg : Blk w g (ints (List.replicate n 0)).toArray 2) (xs : List Int) (hx : xs.length = n) (hr : IRow w (some ⟨b, o', none⟩) xs)
    (h : ∀ w', Row w' g xs → (∀ k, k ≠ g → w'.heap[k]? = w.heap[k]?) → (∀ B w0, Below B w0 w → B ≤ g → Below B w0 w') → wpList Tryz.prog ops Q rest (a.put o.dst (.int .i64 n)) w') : wpList Tryz.prog ops Q (o :: rest) a w := by
  have hsz : (Tryz.prog.info? 2).map (·.size) = some 1 := by kernel_rfl
  have hl : (ints xs).length = n := by simp [ints, hx]
  refine wpList_copy_own hgd d s 26 26 ho 2 Tryz.underlying26 hsz g 0 n n ⟨b, o', none⟩ n c hd hs _ 2 hg (ints xs) (by rw [hl]; exact (Nat.min_self n).symm) (irow_copy hr) (by simp [ints, hx]) ints_one1 ?_
  rw [hl]
  refine h _ ⟨_, setRow_heap w g _ _ 2 _ hg, ?_, ?_⟩ (fun k hk => ?_) (fun B w0 hb hB => below_setRow hb hB _)
  · simp [ints, hx]
  · simp [ints, hx]
    exact List.take_of_length_le (by simp [hx])
  · simp only [World.setRow, Array.getElem?_modify]
    rw [if_neg (fun e => hk e.symm)]
set_option maxRecDepth 8000 in
set_option maxHeartbeats 1000000 in
theorem copied_any (a1 a2 : Option Addr) (n1 n2 c1 c2 : Nat) (xs ys : List Int) (w : World) (h1 : xs.length = n1) (h2 : ys.length = n2) (l1 : 0 < n1) (l2 : 0 < n2) (m1 : n1 ≤ 1048576) (m2 : n2 ≤ 1048576) (r1 : IRow w a1 xs) (r2 : IRow w a2 ys) :
    Calls Tryz.prog 57 #[.agg #[.slice a1 n1 c1, .slice a2 n2 c2]] w fun e w' => ∃ g1 g2, e = .returned (.agg #[.slice (some ⟨g1, 0, none⟩) n1 n1, .slice (some ⟨g2, 0, none⟩) n2 n2]) ∧ g1 ≠ g2 ∧ w.heap.size ≤ g1 ∧ w.heap.size ≤ g2 ∧ Row w' g1 xs ∧ Row w' g2 ys ∧ Below w.heap.size w w' := by
  have hm1 : ∀ W : World, (Instr.makeSlice 26 (.int .i64 (n1 : Int)) (.int .i64 (n1 : Int))).run Tryz.prog W = .ok (.slice (some ⟨W.heap.size, 0, none⟩) n1 n1) (W.alloc (.cells (madeCells #[.int .i64 0] n1) 2)) := run_make_row' (P := Tryz.prog) 26 2 (.int .i64 0) 8 Tryz.underlying26 infoI64 rfl .i64 .i64 n1 (by omega) (by omega)
  have hm2 : ∀ W : World, (Instr.makeSlice 26 (.int .i64 (n2 : Int)) (.int .i64 (n2 : Int))).run Tryz.prog W = .ok (.slice (some ⟨W.heap.size, 0, none⟩) n2 n2) (W.alloc (.cells (madeCells #[.int .i64 0] n2) 2)) := run_make_row' (P := Tryz.prog) 26 2 (.int .i64 0) 8 Tryz.underlying26 infoI64 rfl .i64 .i64 n2 (by omega) (by omega)
  obtain ⟨b1, o1, rfl, -⟩ := r1 0 (by omega)
  obtain ⟨b2, o2, rfl, -⟩ := r2 0 (by omega)
  have BB := (Blk.new w #[.slice (some ⟨b1, o1, none⟩) n1 c1, .slice (some ⟨b2, o2, none⟩) n2 c2] 28).alloc (.cells #[.slice none 0 0, .slice none 0 0] 28)
  have BR := Blk.new (w.alloc (.cells #[.slice (some ⟨b1, o1, none⟩) n1 c1, .slice (some ⟨b2, o2, none⟩) n2 c2] 28)) #[.slice none 0 0, .slice none 0 0] 28
  have hz0 : w.heap.size + 1 + 1 ≤ ((w.alloc (.cells #[.slice (some ⟨b1, o1, none⟩) n1 c1, .slice (some ⟨b2, o2, none⟩) n2 c2] 28)).alloc (.cells #[.slice none 0 0, .slice none 0 0] 28)).heap.size := by simp
  have hb : Below w.heap.size w ((w.alloc (.cells #[.slice (some ⟨b1, o1, none⟩) n1 c1, .slice (some ⟨b2, o2, none⟩) n2 c2] 28)).alloc (.cells #[.slice none 0 0, .slice none 0 0] 28)) := ((Below.refl _ _).alloc (Nat.le_refl _) _).alloc (by simp) _
  rw [show (w.alloc (.cells #[.slice (some ⟨b1, o1, none⟩) n1 c1, .slice (some ⟨b2, o2, none⟩) n2 c2] 28)).heap.size = w.heap.size + 1 by simp] at BR
  obtain ⟨x0, x1, xf, xl⟩ := BB.two
  go_enter Tryz.func57, Tryz.ntmps57
  go_wp2_with fail
  clear x0 x1 xf xl
  generalize ((w.alloc (.cells #[.slice (some ⟨b1, o1, none⟩) n1 c1, .slice (some ⟨b2, o2, none⟩) n2 c2] 28)).alloc (.cells #[.slice none 0 0, .slice none 0 0] 28)) = v0 at *
  refine wp_region_held_drew (S := fun w' => w'.cell? ⟨w.heap.size, 0, none⟩ = some (.slice (some ⟨b1, o1, none⟩) n1 c1) ∧ w'.cell? ⟨w.heap.size, 1, none⟩ = some (.slice (some ⟨b2, o2, none⟩) n2 c2)) (by kernel_rfl) ⟨(BB.below (Below.refl _ _).drew).two.1, (BB.below (Below.refl _ _).drew).two.2.1⟩ (fun hHeld => ?_)
  clear hHeld
  have hbS : Below v0.heap.size v0 v0.drew := (Below.refl _ _).drew
  have hzd := hbS.size
  generalize v0.drew = vd at *
  have hHeld : vd.cell? ⟨w.heap.size, 0, none⟩ = some (.slice (some ⟨b1, o1, none⟩) n1 c1) ∧ vd.cell? ⟨w.heap.size, 1, none⟩ = some (.slice (some ⟨b2, o2, none⟩) n2 c2) := ⟨(BB.below hbS).two.1, (BB.below hbS).two.2.1⟩
  refine tk 0 4 ?_
  refine tk 1 5 ?_
  refine tk 2 6 ?_
  refine tk 4 8 ?_
  refine tk 5 9 ?_
  refine tk 6 10 ?_
  refine wpAnyH_ready (rs := [3, 7, 9]) (by kernel_rfl) (by simp) ?_
  refine AllReadyH.cons (o := ⟨some 7, _, _, _, _, _⟩) rfl (fun K hK => ?_) (AllReadyH.cons (o := ⟨some 11, _, _, _, _, _⟩) rfl (fun K hK => ?_) (AllReadyH.cons (o := ⟨some 3, _, _, _, _, _⟩) rfl (fun K hK => ?_) AllReadyH.nil))
  · go_simp
    (try go_wp2_with fail)
    refine hko hK (Blk.l2 (BB.below (hbS.alloc hbS.size _))) fun hHeld => ?_
    clear hK K
    have M3 := made_blk vd n1
    have hz3 : vd.heap.size + 1 ≤ (vd.alloc (.cells (madeCells #[.int .i64 0] n1) 2)).heap.size := by simp
    have hy3 := hbS.size
    replace hbS := hbS.alloc hbS.size (.cells (madeCells #[.int .i64 0] n1) 2)
    generalize (vd.alloc (.cells (madeCells #[.int .i64 0] n1) 2)) = w3 at *
    generalize vd.heap.size = g3 at *
    refine wpAnyH_ready (rs := [7, 9]) (by kernel_rfl) (by simp) ?_
    refine AllReadyH.cons (o := ⟨some 11, _, _, _, _, _⟩) rfl (fun K hK => ?_) (AllReadyH.cons (o := ⟨some 3, _, _, _, _, _⟩) rfl (fun K hK => ?_) AllReadyH.nil)
    · go_simp
      (try go_wp2_with fail)
      refine hko hK (Blk.l2 (BB.below (hbS.alloc hbS.size _))) fun hHeld => ?_
      clear hK K
      have M7 := made_blk w3 n2
      have hz7 : w3.heap.size + 1 ≤ (w3.alloc (.cells (madeCells #[.int .i64 0] n2) 2)).heap.size := by simp
      replace M3 := M3.alloc (.cells (madeCells #[.int .i64 0] n2) 2)
      have hy7 := hbS.size
      replace hbS := hbS.alloc hbS.size (.cells (madeCells #[.int .i64 0] n2) 2)
      generalize (w3.alloc (.cells (madeCells #[.int .i64 0] n2) 2)) = w7 at *
      generalize w3.heap.size = g7 at *
      refine tk 8 12 ?_
      refine rdk 9 3 fun K hK => ?_
      go_simp
      (try go_wp2_with fail)
      refine hko hK (Blk.l2 (BB.below (hbS.alloc hbS.size _))) fun hHeld => ?_
      clear hK K
      have M9 := Blk.new w7 #[.slice none 0 0, .slice none 0 0] 28
      have hz9 : w7.heap.size + 1 ≤ (w7.alloc (.cells #[.slice none 0 0, .slice none 0 0] 28)).heap.size := by simp
      replace M3 := M3.alloc (.cells #[.slice none 0 0, .slice none 0 0] 28)
      replace M7 := M7.alloc (.cells #[.slice none 0 0, .slice none 0 0] 28)
      have hy9 := hbS.size
      replace hbS := hbS.alloc hbS.size (.cells #[.slice none 0 0, .slice none 0 0] 28)
      generalize (w7.alloc (.cells #[.slice none 0 0, .slice none 0 0] 28)) = w9 at *
      generalize w7.heap.size = g9 at *
      refine rdn 10 fun K hK => ?_
      have q0 := M9.two.1
      have q1 := M9.two.2.1
      have qf := M9.two.2.2.1
      have ql := M9.two.2.2.2
      go_simp
      (try go_wp2_with fail)
      refine hko hK (Blk.l2 (BB.below (below2n M9 hbS (by omega) _ _))) fun hHeld => ?_
      clear hK K
      refine wpAnyH_done (by kernel_rfl) ?_ _
      clear hHeld q0 q1 qf ql
      have hbC := below2n M9 hbS (by omega) (.slice (some ⟨g3, 0, none⟩) n1 n1) (.slice (some ⟨g7, 0, none⟩) n2 n2)
      have MC := (M9.set (i := 0) (.slice (some ⟨g3, 0, none⟩) n1 n1)).set (i := 1) (.slice (some ⟨g7, 0, none⟩) n2 n2)
      replace M3 := (M3.other (g := g9) (o := 0) (v := .slice (some ⟨g3, 0, none⟩) n1 n1) (by omega)).other (g := g9) (o := 1) (v := .slice (some ⟨g7, 0, none⟩) n2 n2) (by omega)
      replace M7 := (M7.other (g := g9) (o := 0) (v := .slice (some ⟨g3, 0, none⟩) n1 n1) (by omega)).other (g := g9) (o := 1) (v := .slice (some ⟨g7, 0, none⟩) n2 n2) (by omega)
      clear M9 hbS
      generalize ((w9.setCell ⟨g9, 0, none⟩ (.slice (some ⟨g3, 0, none⟩) n1 n1)).setCell ⟨g9, 1, none⟩ (.slice (some ⟨g7, 0, none⟩) n2 n2)) = wc at *
      have hne : g3 ≠ g7 := by omega
      have hne2 : g3 ≠ g9 := by omega
      have hne3 : g7 ≠ g9 := by omega
      have hbw := chain hb hbC
      have BBc := BB.below hbC
      have BRc := BR.below hbC
      have MC : Blk wc g9 #[.slice (some ⟨g3, 0, none⟩) n1 n1, .slice (some ⟨g7, 0, none⟩) n2 n2] 28 := MC
      clear hm1 hm2 hbC BB BR hb
      obtain ⟨x0, x1, xf, xl⟩ := BBc.two
      obtain ⟨y0, y1, yf, yl⟩ := MC.two
      go_wp2_with (first | ((with_reducible refine wp_copyI rfl (.tmp 14) (.tmp 16) rfl g3 n1 b1 o1 c1 rfl rfl M3 xs h1 (r1.below hbw) ?_); go_loud ( intro w5 R5 hk5 hB5; have hb5 := hB5 _ _ hbw (by omega); have M75 : Blk w5 g7 _ _ := (hk5 g7 (by omega)).trans M7; have MC5 : Blk w5 g9 #[.slice (some ⟨g3, 0, none⟩) n1 n1, .slice (some ⟨g7, 0, none⟩) n2 n2] 28 := (hk5 g9 (by omega)).trans MC; have BB5 : Blk w5 w.heap.size #[.slice (some ⟨b1, o1, none⟩) n1 c1, .slice (some ⟨b2, o2, none⟩) n2 c2] 28 := (hk5 w.heap.size (by omega)).trans BBc; have BR5 : Blk w5 (w.heap.size + 1) #[.slice none 0 0, .slice none 0 0] 28 := (hk5 (w.heap.size + 1) (by omega)).trans BRc; clear x0 x1 xf xl y0 y1 yf yl M3 M7 MC BBc BRc; obtain ⟨x0, x1, xf, xl⟩ := BB5.two; obtain ⟨y0, y1, yf, yl⟩ := MC5.two)) | ((with_reducible refine wp_copyI rfl (.tmp 19) (.tmp 21) rfl g7 n2 b2 o2 c2 rfl rfl M75 ys h2 (r2.below hb5) ?_); go_loud (intro w6 R6 hk6 hB6; have hb6 := hB6 _ _ hb5 (by omega); have R36 : Row w6 g3 xs := (by obtain ⟨cu, q1, q2, q3⟩ := R5; exact ⟨cu, (hk6 g3 (by omega)).trans q1, q2, q3⟩); have MC6 : Blk w6 g9 #[.slice (some ⟨g3, 0, none⟩) n1 n1, .slice (some ⟨g7, 0, none⟩) n2 n2] 28 := (hk6 g9 (by omega)).trans MC5; have BR6 : Blk w6 (w.heap.size + 1) #[.slice none 0 0, .slice none 0 0] 28 := (hk6 (w.heap.size + 1) (by omega)).trans BR5; clear x0 x1 xf xl y0 y1 yf yl R5 M75 MC5 BB5 BR5; obtain ⟨y0, y1, yf, yl⟩ := MC6.two; obtain ⟨z0, z1, zf, zl⟩ := BR6.two)))
      have MR : Blk ((w6.setCell ⟨w.heap.size + 1, 0, none⟩ (.slice (some ⟨g3, 0, none⟩) n1 n1)).setCell ⟨w.heap.size + 1, 1, none⟩ (.slice (some ⟨g7, 0, none⟩) n2 n2)) (w.heap.size + 1) #[.slice (some ⟨g3, 0, none⟩) n1 n1, .slice (some ⟨g7, 0, none⟩) n2 n2] 28 := (BR6.set (i := 0) (.slice (some ⟨g3, 0, none⟩) n1 n1)).set (i := 1) (.slice (some ⟨g7, 0, none⟩) n2 n2)
      have hbR := below2n BR6 hb6 (by omega) (.slice (some ⟨g3, 0, none⟩) n1 n1) (.slice (some ⟨g7, 0, none⟩) n2 n2)
      replace R36 := (R36.other (g := w.heap.size + 1) (o := 0) (v := .slice (some ⟨g3, 0, none⟩) n1 n1) (by omega)).other (g := w.heap.size + 1) (o := 1) (v := .slice (some ⟨g7, 0, none⟩) n2 n2) (by omega)
      replace R6 := (R6.other (g := w.heap.size + 1) (o := 0) (v := .slice (some ⟨g3, 0, none⟩) n1 n1) (by omega)).other (g := w.heap.size + 1) (o := 1) (v := .slice (some ⟨g7, 0, none⟩) n2 n2) (by omega)
      generalize ((w6.setCell ⟨w.heap.size + 1, 0, none⟩ (.slice (some ⟨g3, 0, none⟩) n1 n1)).setCell ⟨w.heap.size + 1, 1, none⟩ (.slice (some ⟨g7, 0, none⟩) n2 n2)) = we at *
      clear y0 y1 yf yl z0 z1 zf zl
      obtain ⟨z0, z1, zf, zl⟩ := MR.two
      refine bodyPost_ret (v := .agg #[.slice (some ⟨g3, 0, none⟩) n1 n1, .slice (some ⟨g7, 0, none⟩) n2 n2]) (by simp [results, Tryz.results57, go_sem, z0, z1]) rfl ?_
      exact ⟨g3, g7, rfl, hne, by omega, by omega, R36, R6, hbR⟩
    · go_simp
      (try go_wp2_with fail)
      refine hko hK (Blk.l2 (BB.below (hbS.alloc hbS.size _))) fun hHeld => ?_
      clear hK K
      have M9 := Blk.new w3 #[.slice none 0 0, .slice none 0 0] 28
      have hz9 : w3.heap.size + 1 ≤ (w3.alloc (.cells #[.slice none 0 0, .slice none 0 0] 28)).heap.size := by simp
      replace M3 := M3.alloc (.cells #[.slice none 0 0, .slice none 0 0] 28)
      have hy9 := hbS.size
      replace hbS := hbS.alloc hbS.size (.cells #[.slice none 0 0, .slice none 0 0] 28)
      generalize (w3.alloc (.cells #[.slice none 0 0, .slice none 0 0] 28)) = w9 at *
      generalize w3.heap.size = g9 at *
      refine rdk 7 11 fun K hK => ?_
      go_simp
      (try go_wp2_with fail)
      refine hko hK (Blk.l2 (BB.below (hbS.alloc hbS.size _))) fun hHeld => ?_
      clear hK K
      have M7 := made_blk w9 n2
      have hz7 : w9.heap.size + 1 ≤ (w9.alloc (.cells (madeCells #[.int .i64 0] n2) 2)).heap.size := by simp
      replace M3 := M3.alloc (.cells (madeCells #[.int .i64 0] n2) 2)
      replace M9 := M9.alloc (.cells (madeCells #[.int .i64 0] n2) 2)
      have hy7 := hbS.size
      replace hbS := hbS.alloc hbS.size (.cells (madeCells #[.int .i64 0] n2) 2)
      generalize (w9.alloc (.cells (madeCells #[.int .i64 0] n2) 2)) = w7 at *
      generalize w9.heap.size = g7 at *
      refine tk 8 12 ?_
      refine rdn 10 fun K hK => ?_
      have q0 := M9.two.1
      have q1 := M9.two.2.1
      have qf := M9.two.2.2.1
      have ql := M9.two.2.2.2
      go_simp
      (try go_wp2_with fail)
      refine hko hK (Blk.l2 (BB.below (below2n M9 hbS (by omega) _ _))) fun hHeld => ?_
      clear hK K
      refine wpAnyH_done (by kernel_rfl) ?_ _
      clear hHeld q0 q1 qf ql
      have hbC := below2n M9 hbS (by omega) (.slice (some ⟨g3, 0, none⟩) n1 n1) (.slice (some ⟨g7, 0, none⟩) n2 n2)
      have MC := (M9.set (i := 0) (.slice (some ⟨g3, 0, none⟩) n1 n1)).set (i := 1) (.slice (some ⟨g7, 0, none⟩) n2 n2)
      replace M3 := (M3.other (g := g9) (o := 0) (v := .slice (some ⟨g3, 0, none⟩) n1 n1) (by omega)).other (g := g9) (o := 1) (v := .slice (some ⟨g7, 0, none⟩) n2 n2) (by omega)
      replace M7 := (M7.other (g := g9) (o := 0) (v := .slice (some ⟨g3, 0, none⟩) n1 n1) (by omega)).other (g := g9) (o := 1) (v := .slice (some ⟨g7, 0, none⟩) n2 n2) (by omega)
      clear M9 hbS
      generalize ((w7.setCell ⟨g9, 0, none⟩ (.slice (some ⟨g3, 0, none⟩) n1 n1)).setCell ⟨g9, 1, none⟩ (.slice (some ⟨g7, 0, none⟩) n2 n2)) = wc at *
      have hne : g3 ≠ g7 := by omega
      have hne2 : g3 ≠ g9 := by omega
      have hne3 : g7 ≠ g9 := by omega
      have hbw := chain hb hbC
      have BBc := BB.below hbC
      have BRc := BR.below hbC
      have MC : Blk wc g9 #[.slice (some ⟨g3, 0, none⟩) n1 n1, .slice (some ⟨g7, 0, none⟩) n2 n2] 28 := MC
      clear hm1 hm2 hbC BB BR hb
      obtain ⟨x0, x1, xf, xl⟩ := BBc.two
      obtain ⟨y0, y1, yf, yl⟩ := MC.two
      go_wp2_with (first | ((with_reducible refine wp_copyI rfl (.tmp 14) (.tmp 16) rfl g3 n1 b1 o1 c1 rfl rfl M3 xs h1 (r1.below hbw) ?_); go_loud ( intro w5 R5 hk5 hB5; have hb5 := hB5 _ _ hbw (by omega); have M75 : Blk w5 g7 _ _ := (hk5 g7 (by omega)).trans M7; have MC5 : Blk w5 g9 #[.slice (some ⟨g3, 0, none⟩) n1 n1, .slice (some ⟨g7, 0, none⟩) n2 n2] 28 := (hk5 g9 (by omega)).trans MC; have BB5 : Blk w5 w.heap.size #[.slice (some ⟨b1, o1, none⟩) n1 c1, .slice (some ⟨b2, o2, none⟩) n2 c2] 28 := (hk5 w.heap.size (by omega)).trans BBc; have BR5 : Blk w5 (w.heap.size + 1) #[.slice none 0 0, .slice none 0 0] 28 := (hk5 (w.heap.size + 1) (by omega)).trans BRc; clear x0 x1 xf xl y0 y1 yf yl M3 M7 MC BBc BRc; obtain ⟨x0, x1, xf, xl⟩ := BB5.two; obtain ⟨y0, y1, yf, yl⟩ := MC5.two)) | ((with_reducible refine wp_copyI rfl (.tmp 19) (.tmp 21) rfl g7 n2 b2 o2 c2 rfl rfl M75 ys h2 (r2.below hb5) ?_); go_loud (intro w6 R6 hk6 hB6; have hb6 := hB6 _ _ hb5 (by omega); have R36 : Row w6 g3 xs := (by obtain ⟨cu, q1, q2, q3⟩ := R5; exact ⟨cu, (hk6 g3 (by omega)).trans q1, q2, q3⟩); have MC6 : Blk w6 g9 #[.slice (some ⟨g3, 0, none⟩) n1 n1, .slice (some ⟨g7, 0, none⟩) n2 n2] 28 := (hk6 g9 (by omega)).trans MC5; have BR6 : Blk w6 (w.heap.size + 1) #[.slice none 0 0, .slice none 0 0] 28 := (hk6 (w.heap.size + 1) (by omega)).trans BR5; clear x0 x1 xf xl y0 y1 yf yl R5 M75 MC5 BB5 BR5; obtain ⟨y0, y1, yf, yl⟩ := MC6.two; obtain ⟨z0, z1, zf, zl⟩ := BR6.two)))
      have MR : Blk ((w6.setCell ⟨w.heap.size + 1, 0, none⟩ (.slice (some ⟨g3, 0, none⟩) n1 n1)).setCell ⟨w.heap.size + 1, 1, none⟩ (.slice (some ⟨g7, 0, none⟩) n2 n2)) (w.heap.size + 1) #[.slice (some ⟨g3, 0, none⟩) n1 n1, .slice (some ⟨g7, 0, none⟩) n2 n2] 28 := (BR6.set (i := 0) (.slice (some ⟨g3, 0, none⟩) n1 n1)).set (i := 1) (.slice (some ⟨g7, 0, none⟩) n2 n2)
      have hbR := below2n BR6 hb6 (by omega) (.slice (some ⟨g3, 0, none⟩) n1 n1) (.slice (some ⟨g7, 0, none⟩) n2 n2)
      replace R36 := (R36.other (g := w.heap.size + 1) (o := 0) (v := .slice (some ⟨g3, 0, none⟩) n1 n1) (by omega)).other (g := w.heap.size + 1) (o := 1) (v := .slice (some ⟨g7, 0, none⟩) n2 n2) (by omega)
      replace R6 := (R6.other (g := w.heap.size + 1) (o := 0) (v := .slice (some ⟨g3, 0, none⟩) n1 n1) (by omega)).other (g := w.heap.size + 1) (o := 1) (v := .slice (some ⟨g7, 0, none⟩) n2 n2) (by omega)
      generalize ((w6.setCell ⟨w.heap.size + 1, 0, none⟩ (.slice (some ⟨g3, 0, none⟩) n1 n1)).setCell ⟨w.heap.size + 1, 1, none⟩ (.slice (some ⟨g7, 0, none⟩) n2 n2)) = we at *
      clear y0 y1 yf yl z0 z1 zf zl
      obtain ⟨z0, z1, zf, zl⟩ := MR.two
      refine bodyPost_ret (v := .agg #[.slice (some ⟨g3, 0, none⟩) n1 n1, .slice (some ⟨g7, 0, none⟩) n2 n2]) (by simp [results, Tryz.results57, go_sem, z0, z1]) rfl ?_
      exact ⟨g3, g7, rfl, hne, by omega, by omega, R36, R6, hbR⟩
  · go_simp
    (try go_wp2_with fail)
    refine hko hK (Blk.l2 (BB.below (hbS.alloc hbS.size _))) fun hHeld => ?_
    clear hK K
    have M7 := made_blk vd n2
    have hz7 : vd.heap.size + 1 ≤ (vd.alloc (.cells (madeCells #[.int .i64 0] n2) 2)).heap.size := by simp
    have hy7 := hbS.size
    replace hbS := hbS.alloc hbS.size (.cells (madeCells #[.int .i64 0] n2) 2)
    generalize (vd.alloc (.cells (madeCells #[.int .i64 0] n2) 2)) = w7 at *
    generalize vd.heap.size = g7 at *
    refine wpAnyH_ready (rs := [3, 9]) (by kernel_rfl) (by simp) ?_
    refine AllReadyH.cons (o := ⟨some 7, _, _, _, _, _⟩) rfl (fun K hK => ?_) (AllReadyH.cons (o := ⟨some 3, _, _, _, _, _⟩) rfl (fun K hK => ?_) AllReadyH.nil)
    · go_simp
      (try go_wp2_with fail)
      refine hko hK (Blk.l2 (BB.below (hbS.alloc hbS.size _))) fun hHeld => ?_
      clear hK K
      have M3 := made_blk w7 n1
      have hz3 : w7.heap.size + 1 ≤ (w7.alloc (.cells (madeCells #[.int .i64 0] n1) 2)).heap.size := by simp
      replace M7 := M7.alloc (.cells (madeCells #[.int .i64 0] n1) 2)
      have hy3 := hbS.size
      replace hbS := hbS.alloc hbS.size (.cells (madeCells #[.int .i64 0] n1) 2)
      generalize (w7.alloc (.cells (madeCells #[.int .i64 0] n1) 2)) = w3 at *
      generalize w7.heap.size = g3 at *
      refine tk 8 12 ?_
      refine rdk 9 3 fun K hK => ?_
      go_simp
      (try go_wp2_with fail)
      refine hko hK (Blk.l2 (BB.below (hbS.alloc hbS.size _))) fun hHeld => ?_
      clear hK K
      have M9 := Blk.new w3 #[.slice none 0 0, .slice none 0 0] 28
      have hz9 : w3.heap.size + 1 ≤ (w3.alloc (.cells #[.slice none 0 0, .slice none 0 0] 28)).heap.size := by simp
      replace M7 := M7.alloc (.cells #[.slice none 0 0, .slice none 0 0] 28)
      replace M3 := M3.alloc (.cells #[.slice none 0 0, .slice none 0 0] 28)
      have hy9 := hbS.size
      replace hbS := hbS.alloc hbS.size (.cells #[.slice none 0 0, .slice none 0 0] 28)
      generalize (w3.alloc (.cells #[.slice none 0 0, .slice none 0 0] 28)) = w9 at *
      generalize w3.heap.size = g9 at *
      refine rdn 10 fun K hK => ?_
      have q0 := M9.two.1
      have q1 := M9.two.2.1
      have qf := M9.two.2.2.1
      have ql := M9.two.2.2.2
      go_simp
      (try go_wp2_with fail)
      refine hko hK (Blk.l2 (BB.below (below2n M9 hbS (by omega) _ _))) fun hHeld => ?_
      clear hK K
      refine wpAnyH_done (by kernel_rfl) ?_ _
      clear hHeld q0 q1 qf ql
      have hbC := below2n M9 hbS (by omega) (.slice (some ⟨g3, 0, none⟩) n1 n1) (.slice (some ⟨g7, 0, none⟩) n2 n2)
      have MC := (M9.set (i := 0) (.slice (some ⟨g3, 0, none⟩) n1 n1)).set (i := 1) (.slice (some ⟨g7, 0, none⟩) n2 n2)
      replace M3 := (M3.other (g := g9) (o := 0) (v := .slice (some ⟨g3, 0, none⟩) n1 n1) (by omega)).other (g := g9) (o := 1) (v := .slice (some ⟨g7, 0, none⟩) n2 n2) (by omega)
      replace M7 := (M7.other (g := g9) (o := 0) (v := .slice (some ⟨g3, 0, none⟩) n1 n1) (by omega)).other (g := g9) (o := 1) (v := .slice (some ⟨g7, 0, none⟩) n2 n2) (by omega)
      clear M9 hbS
      generalize ((w9.setCell ⟨g9, 0, none⟩ (.slice (some ⟨g3, 0, none⟩) n1 n1)).setCell ⟨g9, 1, none⟩ (.slice (some ⟨g7, 0, none⟩) n2 n2)) = wc at *
      have hne : g3 ≠ g7 := by omega
      have hne2 : g3 ≠ g9 := by omega
      have hne3 : g7 ≠ g9 := by omega
      have hbw := chain hb hbC
      have BBc := BB.below hbC
      have BRc := BR.below hbC
      have MC : Blk wc g9 #[.slice (some ⟨g3, 0, none⟩) n1 n1, .slice (some ⟨g7, 0, none⟩) n2 n2] 28 := MC
      clear hm1 hm2 hbC BB BR hb
      obtain ⟨x0, x1, xf, xl⟩ := BBc.two
      obtain ⟨y0, y1, yf, yl⟩ := MC.two
      go_wp2_with (first | ((with_reducible refine wp_copyI rfl (.tmp 14) (.tmp 16) rfl g3 n1 b1 o1 c1 rfl rfl M3 xs h1 (r1.below hbw) ?_); go_loud ( intro w5 R5 hk5 hB5; have hb5 := hB5 _ _ hbw (by omega); have M75 : Blk w5 g7 _ _ := (hk5 g7 (by omega)).trans M7; have MC5 : Blk w5 g9 #[.slice (some ⟨g3, 0, none⟩) n1 n1, .slice (some ⟨g7, 0, none⟩) n2 n2] 28 := (hk5 g9 (by omega)).trans MC; have BB5 : Blk w5 w.heap.size #[.slice (some ⟨b1, o1, none⟩) n1 c1, .slice (some ⟨b2, o2, none⟩) n2 c2] 28 := (hk5 w.heap.size (by omega)).trans BBc; have BR5 : Blk w5 (w.heap.size + 1) #[.slice none 0 0, .slice none 0 0] 28 := (hk5 (w.heap.size + 1) (by omega)).trans BRc; clear x0 x1 xf xl y0 y1 yf yl M3 M7 MC BBc BRc; obtain ⟨x0, x1, xf, xl⟩ := BB5.two; obtain ⟨y0, y1, yf, yl⟩ := MC5.two)) | ((with_reducible refine wp_copyI rfl (.tmp 19) (.tmp 21) rfl g7 n2 b2 o2 c2 rfl rfl M75 ys h2 (r2.below hb5) ?_); go_loud (intro w6 R6 hk6 hB6; have hb6 := hB6 _ _ hb5 (by omega); have R36 : Row w6 g3 xs := (by obtain ⟨cu, q1, q2, q3⟩ := R5; exact ⟨cu, (hk6 g3 (by omega)).trans q1, q2, q3⟩); have MC6 : Blk w6 g9 #[.slice (some ⟨g3, 0, none⟩) n1 n1, .slice (some ⟨g7, 0, none⟩) n2 n2] 28 := (hk6 g9 (by omega)).trans MC5; have BR6 : Blk w6 (w.heap.size + 1) #[.slice none 0 0, .slice none 0 0] 28 := (hk6 (w.heap.size + 1) (by omega)).trans BR5; clear x0 x1 xf xl y0 y1 yf yl R5 M75 MC5 BB5 BR5; obtain ⟨y0, y1, yf, yl⟩ := MC6.two; obtain ⟨z0, z1, zf, zl⟩ := BR6.two)))
      have MR : Blk ((w6.setCell ⟨w.heap.size + 1, 0, none⟩ (.slice (some ⟨g3, 0, none⟩) n1 n1)).setCell ⟨w.heap.size + 1, 1, none⟩ (.slice (some ⟨g7, 0, none⟩) n2 n2)) (w.heap.size + 1) #[.slice (some ⟨g3, 0, none⟩) n1 n1, .slice (some ⟨g7, 0, none⟩) n2 n2] 28 := (BR6.set (i := 0) (.slice (some ⟨g3, 0, none⟩) n1 n1)).set (i := 1) (.slice (some ⟨g7, 0, none⟩) n2 n2)
      have hbR := below2n BR6 hb6 (by omega) (.slice (some ⟨g3, 0, none⟩) n1 n1) (.slice (some ⟨g7, 0, none⟩) n2 n2)
      replace R36 := (R36.other (g := w.heap.size + 1) (o := 0) (v := .slice (some ⟨g3, 0, none⟩) n1 n1) (by omega)).other (g := w.heap.size + 1) (o := 1) (v := .slice (some ⟨g7, 0, none⟩) n2 n2) (by omega)
      replace R6 := (R6.other (g := w.heap.size + 1) (o := 0) (v := .slice (some ⟨g3, 0, none⟩) n1 n1) (by omega)).other (g := w.heap.size + 1) (o := 1) (v := .slice (some ⟨g7, 0, none⟩) n2 n2) (by omega)
      generalize ((w6.setCell ⟨w.heap.size + 1, 0, none⟩ (.slice (some ⟨g3, 0, none⟩) n1 n1)).setCell ⟨w.heap.size + 1, 1, none⟩ (.slice (some ⟨g7, 0, none⟩) n2 n2)) = we at *
      clear y0 y1 yf yl z0 z1 zf zl
      obtain ⟨z0, z1, zf, zl⟩ := MR.two
      refine bodyPost_ret (v := .agg #[.slice (some ⟨g3, 0, none⟩) n1 n1, .slice (some ⟨g7, 0, none⟩) n2 n2]) (by simp [results, Tryz.results57, go_sem, z0, z1]) rfl ?_
      exact ⟨g3, g7, rfl, hne, by omega, by omega, R36, R6, hbR⟩
    · go_simp
      (try go_wp2_with fail)
      refine hko hK (Blk.l2 (BB.below (hbS.alloc hbS.size _))) fun hHeld => ?_
      clear hK K
      have M9 := Blk.new w7 #[.slice none 0 0, .slice none 0 0] 28
      have hz9 : w7.heap.size + 1 ≤ (w7.alloc (.cells #[.slice none 0 0, .slice none 0 0] 28)).heap.size := by simp
      replace M7 := M7.alloc (.cells #[.slice none 0 0, .slice none 0 0] 28)
      have hy9 := hbS.size
      replace hbS := hbS.alloc hbS.size (.cells #[.slice none 0 0, .slice none 0 0] 28)
      generalize (w7.alloc (.cells #[.slice none 0 0, .slice none 0 0] 28)) = w9 at *
      generalize w7.heap.size = g9 at *
      refine rdk 3 7 fun K hK => ?_
      go_simp
      (try go_wp2_with fail)
      refine hko hK (Blk.l2 (BB.below (hbS.alloc hbS.size _))) fun hHeld => ?_
      clear hK K
      have M3 := made_blk w9 n1
      have hz3 : w9.heap.size + 1 ≤ (w9.alloc (.cells (madeCells #[.int .i64 0] n1) 2)).heap.size := by simp
      replace M7 := M7.alloc (.cells (madeCells #[.int .i64 0] n1) 2)
      replace M9 := M9.alloc (.cells (madeCells #[.int .i64 0] n1) 2)
      have hy3 := hbS.size
      replace hbS := hbS.alloc hbS.size (.cells (madeCells #[.int .i64 0] n1) 2)
      generalize (w9.alloc (.cells (madeCells #[.int .i64 0] n1) 2)) = w3 at *
      generalize w9.heap.size = g3 at *
      refine tk 8 12 ?_
      refine rdn 10 fun K hK => ?_
      have q0 := M9.two.1
      have q1 := M9.two.2.1
      have qf := M9.two.2.2.1
      have ql := M9.two.2.2.2
      go_simp
      (try go_wp2_with fail)
      refine hko hK (Blk.l2 (BB.below (below2n M9 hbS (by omega) _ _))) fun hHeld => ?_
      clear hK K
      refine wpAnyH_done (by kernel_rfl) ?_ _
      clear hHeld q0 q1 qf ql
      have hbC := below2n M9 hbS (by omega) (.slice (some ⟨g3, 0, none⟩) n1 n1) (.slice (some ⟨g7, 0, none⟩) n2 n2)
      have MC := (M9.set (i := 0) (.slice (some ⟨g3, 0, none⟩) n1 n1)).set (i := 1) (.slice (some ⟨g7, 0, none⟩) n2 n2)
      replace M3 := (M3.other (g := g9) (o := 0) (v := .slice (some ⟨g3, 0, none⟩) n1 n1) (by omega)).other (g := g9) (o := 1) (v := .slice (some ⟨g7, 0, none⟩) n2 n2) (by omega)
      replace M7 := (M7.other (g := g9) (o := 0) (v := .slice (some ⟨g3, 0, none⟩) n1 n1) (by omega)).other (g := g9) (o := 1) (v := .slice (some ⟨g7, 0, none⟩) n2 n2) (by omega)
      clear M9 hbS
      generalize ((w3.setCell ⟨g9, 0, none⟩ (.slice (some ⟨g3, 0, none⟩) n1 n1)).setCell ⟨g9, 1, none⟩ (.slice (some ⟨g7, 0, none⟩) n2 n2)) = wc at *
      have hne : g3 ≠ g7 := by omega
      have hne2 : g3 ≠ g9 := by omega
      have hne3 : g7 ≠ g9 := by omega
      have hbw := chain hb hbC
      have BBc := BB.below hbC
      have BRc := BR.below hbC
      have MC : Blk wc g9 #[.slice (some ⟨g3, 0, none⟩) n1 n1, .slice (some ⟨g7, 0, none⟩) n2 n2] 28 := MC
      clear hm1 hm2 hbC BB BR hb
      obtain ⟨x0, x1, xf, xl⟩ := BBc.two
      obtain ⟨y0, y1, yf, yl⟩ := MC.two
      go_wp2_with (first | ((with_reducible refine wp_copyI rfl (.tmp 14) (.tmp 16) rfl g3 n1 b1 o1 c1 rfl rfl M3 xs h1 (r1.below hbw) ?_); go_loud ( intro w5 R5 hk5 hB5; have hb5 := hB5 _ _ hbw (by omega); have M75 : Blk w5 g7 _ _ := (hk5 g7 (by omega)).trans M7; have MC5 : Blk w5 g9 #[.slice (some ⟨g3, 0, none⟩) n1 n1, .slice (some ⟨g7, 0, none⟩) n2 n2] 28 := (hk5 g9 (by omega)).trans MC; have BB5 : Blk w5 w.heap.size #[.slice (some ⟨b1, o1, none⟩) n1 c1, .slice (some ⟨b2, o2, none⟩) n2 c2] 28 := (hk5 w.heap.size (by omega)).trans BBc; have BR5 : Blk w5 (w.heap.size + 1) #[.slice none 0 0, .slice none 0 0] 28 := (hk5 (w.heap.size + 1) (by omega)).trans BRc; clear x0 x1 xf xl y0 y1 yf yl M3 M7 MC BBc BRc; obtain ⟨x0, x1, xf, xl⟩ := BB5.two; obtain ⟨y0, y1, yf, yl⟩ := MC5.two)) | ((with_reducible refine wp_copyI rfl (.tmp 19) (.tmp 21) rfl g7 n2 b2 o2 c2 rfl rfl M75 ys h2 (r2.below hb5) ?_); go_loud (intro w6 R6 hk6 hB6; have hb6 := hB6 _ _ hb5 (by omega); have R36 : Row w6 g3 xs := (by obtain ⟨cu, q1, q2, q3⟩ := R5; exact ⟨cu, (hk6 g3 (by omega)).trans q1, q2, q3⟩); have MC6 : Blk w6 g9 #[.slice (some ⟨g3, 0, none⟩) n1 n1, .slice (some ⟨g7, 0, none⟩) n2 n2] 28 := (hk6 g9 (by omega)).trans MC5; have BR6 : Blk w6 (w.heap.size + 1) #[.slice none 0 0, .slice none 0 0] 28 := (hk6 (w.heap.size + 1) (by omega)).trans BR5; clear x0 x1 xf xl y0 y1 yf yl R5 M75 MC5 BB5 BR5; obtain ⟨y0, y1, yf, yl⟩ := MC6.two; obtain ⟨z0, z1, zf, zl⟩ := BR6.two)))
      have MR : Blk ((w6.setCell ⟨w.heap.size + 1, 0, none⟩ (.slice (some ⟨g3, 0, none⟩) n1 n1)).setCell ⟨w.heap.size + 1, 1, none⟩ (.slice (some ⟨g7, 0, none⟩) n2 n2)) (w.heap.size + 1) #[.slice (some ⟨g3, 0, none⟩) n1 n1, .slice (some ⟨g7, 0, none⟩) n2 n2] 28 := (BR6.set (i := 0) (.slice (some ⟨g3, 0, none⟩) n1 n1)).set (i := 1) (.slice (some ⟨g7, 0, none⟩) n2 n2)
      have hbR := below2n BR6 hb6 (by omega) (.slice (some ⟨g3, 0, none⟩) n1 n1) (.slice (some ⟨g7, 0, none⟩) n2 n2)
      replace R36 := (R36.other (g := w.heap.size + 1) (o := 0) (v := .slice (some ⟨g3, 0, none⟩) n1 n1) (by omega)).other (g := w.heap.size + 1) (o := 1) (v := .slice (some ⟨g7, 0, none⟩) n2 n2) (by omega)
      replace R6 := (R6.other (g := w.heap.size + 1) (o := 0) (v := .slice (some ⟨g3, 0, none⟩) n1 n1) (by omega)).other (g := w.heap.size + 1) (o := 1) (v := .slice (some ⟨g7, 0, none⟩) n2 n2) (by omega)
      generalize ((w6.setCell ⟨w.heap.size + 1, 0, none⟩ (.slice (some ⟨g3, 0, none⟩) n1 n1)).setCell ⟨w.heap.size + 1, 1, none⟩ (.slice (some ⟨g7, 0, none⟩) n2 n2)) = we at *
      clear y0 y1 yf yl z0 z1 zf zl
      obtain ⟨z0, z1, zf, zl⟩ := MR.two
      refine bodyPost_ret (v := .agg #[.slice (some ⟨g3, 0, none⟩) n1 n1, .slice (some ⟨g7, 0, none⟩) n2 n2]) (by simp [results, Tryz.results57, go_sem, z0, z1]) rfl ?_
      exact ⟨g3, g7, rfl, hne, by omega, by omega, R36, R6, hbR⟩
  · go_simp
    (try go_wp2_with fail)
    refine hko hK (Blk.l2 (BB.below (hbS.alloc hbS.size _))) fun hHeld => ?_
    clear hK K
    have M9 := Blk.new vd #[.slice none 0 0, .slice none 0 0] 28
    have hz9 : vd.heap.size + 1 ≤ (vd.alloc (.cells #[.slice none 0 0, .slice none 0 0] 28)).heap.size := by simp
    have hy9 := hbS.size
    replace hbS := hbS.alloc hbS.size (.cells #[.slice none 0 0, .slice none 0 0] 28)
    generalize (vd.alloc (.cells #[.slice none 0 0, .slice none 0 0] 28)) = w9 at *
    generalize vd.heap.size = g9 at *
    refine wpAnyH_ready (rs := [3, 7]) (by kernel_rfl) (by simp) ?_
    refine AllReadyH.cons (o := ⟨some 7, _, _, _, _, _⟩) rfl (fun K hK => ?_) (AllReadyH.cons (o := ⟨some 11, _, _, _, _, _⟩) rfl (fun K hK => ?_) AllReadyH.nil)
    · go_simp
      (try go_wp2_with fail)
      refine hko hK (Blk.l2 (BB.below (hbS.alloc hbS.size _))) fun hHeld => ?_
      clear hK K
      have M3 := made_blk w9 n1
      have hz3 : w9.heap.size + 1 ≤ (w9.alloc (.cells (madeCells #[.int .i64 0] n1) 2)).heap.size := by simp
      replace M9 := M9.alloc (.cells (madeCells #[.int .i64 0] n1) 2)
      have hy3 := hbS.size
      replace hbS := hbS.alloc hbS.size (.cells (madeCells #[.int .i64 0] n1) 2)
      generalize (w9.alloc (.cells (madeCells #[.int .i64 0] n1) 2)) = w3 at *
      generalize w9.heap.size = g3 at *
      refine rdk 7 11 fun K hK => ?_
      go_simp
      (try go_wp2_with fail)
      refine hko hK (Blk.l2 (BB.below (hbS.alloc hbS.size _))) fun hHeld => ?_
      clear hK K
      have M7 := made_blk w3 n2
      have hz7 : w3.heap.size + 1 ≤ (w3.alloc (.cells (madeCells #[.int .i64 0] n2) 2)).heap.size := by simp
      replace M9 := M9.alloc (.cells (madeCells #[.int .i64 0] n2) 2)
      replace M3 := M3.alloc (.cells (madeCells #[.int .i64 0] n2) 2)
      have hy7 := hbS.size
      replace hbS := hbS.alloc hbS.size (.cells (madeCells #[.int .i64 0] n2) 2)
      generalize (w3.alloc (.cells (madeCells #[.int .i64 0] n2) 2)) = w7 at *
      generalize w3.heap.size = g7 at *
      refine tk 8 12 ?_
      refine rdn 10 fun K hK => ?_
      have q0 := M9.two.1
      have q1 := M9.two.2.1
      have qf := M9.two.2.2.1
      have ql := M9.two.2.2.2
      go_simp
      (try go_wp2_with fail)
      refine hko hK (Blk.l2 (BB.below (below2n M9 hbS (by omega) _ _))) fun hHeld => ?_
      clear hK K
      refine wpAnyH_done (by kernel_rfl) ?_ _
      clear hHeld q0 q1 qf ql
      have hbC := below2n M9 hbS (by omega) (.slice (some ⟨g3, 0, none⟩) n1 n1) (.slice (some ⟨g7, 0, none⟩) n2 n2)
      have MC := (M9.set (i := 0) (.slice (some ⟨g3, 0, none⟩) n1 n1)).set (i := 1) (.slice (some ⟨g7, 0, none⟩) n2 n2)
      replace M3 := (M3.other (g := g9) (o := 0) (v := .slice (some ⟨g3, 0, none⟩) n1 n1) (by omega)).other (g := g9) (o := 1) (v := .slice (some ⟨g7, 0, none⟩) n2 n2) (by omega)
      replace M7 := (M7.other (g := g9) (o := 0) (v := .slice (some ⟨g3, 0, none⟩) n1 n1) (by omega)).other (g := g9) (o := 1) (v := .slice (some ⟨g7, 0, none⟩) n2 n2) (by omega)
      clear M9 hbS
      generalize ((w7.setCell ⟨g9, 0, none⟩ (.slice (some ⟨g3, 0, none⟩) n1 n1)).setCell ⟨g9, 1, none⟩ (.slice (some ⟨g7, 0, none⟩) n2 n2)) = wc at *
      have hne : g3 ≠ g7 := by omega
      have hne2 : g3 ≠ g9 := by omega
      have hne3 : g7 ≠ g9 := by omega
      have hbw := chain hb hbC
      have BBc := BB.below hbC
      have BRc := BR.below hbC
      have MC : Blk wc g9 #[.slice (some ⟨g3, 0, none⟩) n1 n1, .slice (some ⟨g7, 0, none⟩) n2 n2] 28 := MC
      clear hm1 hm2 hbC BB BR hb
      obtain ⟨x0, x1, xf, xl⟩ := BBc.two
      obtain ⟨y0, y1, yf, yl⟩ := MC.two
      go_wp2_with (first | ((with_reducible refine wp_copyI rfl (.tmp 14) (.tmp 16) rfl g3 n1 b1 o1 c1 rfl rfl M3 xs h1 (r1.below hbw) ?_); go_loud ( intro w5 R5 hk5 hB5; have hb5 := hB5 _ _ hbw (by omega); have M75 : Blk w5 g7 _ _ := (hk5 g7 (by omega)).trans M7; have MC5 : Blk w5 g9 #[.slice (some ⟨g3, 0, none⟩) n1 n1, .slice (some ⟨g7, 0, none⟩) n2 n2] 28 := (hk5 g9 (by omega)).trans MC; have BB5 : Blk w5 w.heap.size #[.slice (some ⟨b1, o1, none⟩) n1 c1, .slice (some ⟨b2, o2, none⟩) n2 c2] 28 := (hk5 w.heap.size (by omega)).trans BBc; have BR5 : Blk w5 (w.heap.size + 1) #[.slice none 0 0, .slice none 0 0] 28 := (hk5 (w.heap.size + 1) (by omega)).trans BRc; clear x0 x1 xf xl y0 y1 yf yl M3 M7 MC BBc BRc; obtain ⟨x0, x1, xf, xl⟩ := BB5.two; obtain ⟨y0, y1, yf, yl⟩ := MC5.two)) | ((with_reducible refine wp_copyI rfl (.tmp 19) (.tmp 21) rfl g7 n2 b2 o2 c2 rfl rfl M75 ys h2 (r2.below hb5) ?_); go_loud (intro w6 R6 hk6 hB6; have hb6 := hB6 _ _ hb5 (by omega); have R36 : Row w6 g3 xs := (by obtain ⟨cu, q1, q2, q3⟩ := R5; exact ⟨cu, (hk6 g3 (by omega)).trans q1, q2, q3⟩); have MC6 : Blk w6 g9 #[.slice (some ⟨g3, 0, none⟩) n1 n1, .slice (some ⟨g7, 0, none⟩) n2 n2] 28 := (hk6 g9 (by omega)).trans MC5; have BR6 : Blk w6 (w.heap.size + 1) #[.slice none 0 0, .slice none 0 0] 28 := (hk6 (w.heap.size + 1) (by omega)).trans BR5; clear x0 x1 xf xl y0 y1 yf yl R5 M75 MC5 BB5 BR5; obtain ⟨y0, y1, yf, yl⟩ := MC6.two; obtain ⟨z0, z1, zf, zl⟩ := BR6.two)))
      have MR : Blk ((w6.setCell ⟨w.heap.size + 1, 0, none⟩ (.slice (some ⟨g3, 0, none⟩) n1 n1)).setCell ⟨w.heap.size + 1, 1, none⟩ (.slice (some ⟨g7, 0, none⟩) n2 n2)) (w.heap.size + 1) #[.slice (some ⟨g3, 0, none⟩) n1 n1, .slice (some ⟨g7, 0, none⟩) n2 n2] 28 := (BR6.set (i := 0) (.slice (some ⟨g3, 0, none⟩) n1 n1)).set (i := 1) (.slice (some ⟨g7, 0, none⟩) n2 n2)
      have hbR := below2n BR6 hb6 (by omega) (.slice (some ⟨g3, 0, none⟩) n1 n1) (.slice (some ⟨g7, 0, none⟩) n2 n2)
      replace R36 := (R36.other (g := w.heap.size + 1) (o := 0) (v := .slice (some ⟨g3, 0, none⟩) n1 n1) (by omega)).other (g := w.heap.size + 1) (o := 1) (v := .slice (some ⟨g7, 0, none⟩) n2 n2) (by omega)
      replace R6 := (R6.other (g := w.heap.size + 1) (o := 0) (v := .slice (some ⟨g3, 0, none⟩) n1 n1) (by omega)).other (g := w.heap.size + 1) (o := 1) (v := .slice (some ⟨g7, 0, none⟩) n2 n2) (by omega)
      generalize ((w6.setCell ⟨w.heap.size + 1, 0, none⟩ (.slice (some ⟨g3, 0, none⟩) n1 n1)).setCell ⟨w.heap.size + 1, 1, none⟩ (.slice (some ⟨g7, 0, none⟩) n2 n2)) = we at *
      clear y0 y1 yf yl z0 z1 zf zl
      obtain ⟨z0, z1, zf, zl⟩ := MR.two
      refine bodyPost_ret (v := .agg #[.slice (some ⟨g3, 0, none⟩) n1 n1, .slice (some ⟨g7, 0, none⟩) n2 n2]) (by simp [results, Tryz.results57, go_sem, z0, z1]) rfl ?_
      exact ⟨g3, g7, rfl, hne, by omega, by omega, R36, R6, hbR⟩
    · go_simp
      (try go_wp2_with fail)
      refine hko hK (Blk.l2 (BB.below (hbS.alloc hbS.size _))) fun hHeld => ?_
      clear hK K
      have M7 := made_blk w9 n2
      have hz7 : w9.heap.size + 1 ≤ (w9.alloc (.cells (madeCells #[.int .i64 0] n2) 2)).heap.size := by simp
      replace M9 := M9.alloc (.cells (madeCells #[.int .i64 0] n2) 2)
      have hy7 := hbS.size
      replace hbS := hbS.alloc hbS.size (.cells (madeCells #[.int .i64 0] n2) 2)
      generalize (w9.alloc (.cells (madeCells #[.int .i64 0] n2) 2)) = w7 at *
      generalize w9.heap.size = g7 at *
      refine rdk 3 7 fun K hK => ?_
      go_simp
      (try go_wp2_with fail)
      refine hko hK (Blk.l2 (BB.below (hbS.alloc hbS.size _))) fun hHeld => ?_
      clear hK K
      have M3 := made_blk w7 n1
      have hz3 : w7.heap.size + 1 ≤ (w7.alloc (.cells (madeCells #[.int .i64 0] n1) 2)).heap.size := by simp
      replace M9 := M9.alloc (.cells (madeCells #[.int .i64 0] n1) 2)
      replace M7 := M7.alloc (.cells (madeCells #[.int .i64 0] n1) 2)
      have hy3 := hbS.size
      replace hbS := hbS.alloc hbS.size (.cells (madeCells #[.int .i64 0] n1) 2)
      generalize (w7.alloc (.cells (madeCells #[.int .i64 0] n1) 2)) = w3 at *
      generalize w7.heap.size = g3 at *
      refine tk 8 12 ?_
      refine rdn 10 fun K hK => ?_
      have q0 := M9.two.1
      have q1 := M9.two.2.1
      have qf := M9.two.2.2.1
      have ql := M9.two.2.2.2
      go_simp
      (try go_wp2_with fail)
      refine hko hK (Blk.l2 (BB.below (below2n M9 hbS (by omega) _ _))) fun hHeld => ?_
      clear hK K
      refine wpAnyH_done (by kernel_rfl) ?_ _
      clear hHeld q0 q1 qf ql
      have hbC := below2n M9 hbS (by omega) (.slice (some ⟨g3, 0, none⟩) n1 n1) (.slice (some ⟨g7, 0, none⟩) n2 n2)
      have MC := (M9.set (i := 0) (.slice (some ⟨g3, 0, none⟩) n1 n1)).set (i := 1) (.slice (some ⟨g7, 0, none⟩) n2 n2)
      replace M3 := (M3.other (g := g9) (o := 0) (v := .slice (some ⟨g3, 0, none⟩) n1 n1) (by omega)).other (g := g9) (o := 1) (v := .slice (some ⟨g7, 0, none⟩) n2 n2) (by omega)
      replace M7 := (M7.other (g := g9) (o := 0) (v := .slice (some ⟨g3, 0, none⟩) n1 n1) (by omega)).other (g := g9) (o := 1) (v := .slice (some ⟨g7, 0, none⟩) n2 n2) (by omega)
      clear M9 hbS
      generalize ((w3.setCell ⟨g9, 0, none⟩ (.slice (some ⟨g3, 0, none⟩) n1 n1)).setCell ⟨g9, 1, none⟩ (.slice (some ⟨g7, 0, none⟩) n2 n2)) = wc at *
      have hne : g3 ≠ g7 := by omega
      have hne2 : g3 ≠ g9 := by omega
      have hne3 : g7 ≠ g9 := by omega
      have hbw := chain hb hbC
      have BBc := BB.below hbC
      have BRc := BR.below hbC
      have MC : Blk wc g9 #[.slice (some ⟨g3, 0, none⟩) n1 n1, .slice (some ⟨g7, 0, none⟩) n2 n2] 28 := MC
      clear hm1 hm2 hbC BB BR hb
      obtain ⟨x0, x1, xf, xl⟩ := BBc.two
      obtain ⟨y0, y1, yf, yl⟩ := MC.two
      go_wp2_with (first | ((with_reducible refine wp_copyI rfl (.tmp 14) (.tmp 16) rfl g3 n1 b1 o1 c1 rfl rfl M3 xs h1 (r1.below hbw) ?_); go_loud ( intro w5 R5 hk5 hB5; have hb5 := hB5 _ _ hbw (by omega); have M75 : Blk w5 g7 _ _ := (hk5 g7 (by omega)).trans M7; have MC5 : Blk w5 g9 #[.slice (some ⟨g3, 0, none⟩) n1 n1, .slice (some ⟨g7, 0, none⟩) n2 n2] 28 := (hk5 g9 (by omega)).trans MC; have BB5 : Blk w5 w.heap.size #[.slice (some ⟨b1, o1, none⟩) n1 c1, .slice (some ⟨b2, o2, none⟩) n2 c2] 28 := (hk5 w.heap.size (by omega)).trans BBc; have BR5 : Blk w5 (w.heap.size + 1) #[.slice none 0 0, .slice none 0 0] 28 := (hk5 (w.heap.size + 1) (by omega)).trans BRc; clear x0 x1 xf xl y0 y1 yf yl M3 M7 MC BBc BRc; obtain ⟨x0, x1, xf, xl⟩ := BB5.two; obtain ⟨y0, y1, yf, yl⟩ := MC5.two)) | ((with_reducible refine wp_copyI rfl (.tmp 19) (.tmp 21) rfl g7 n2 b2 o2 c2 rfl rfl M75 ys h2 (r2.below hb5) ?_); go_loud (intro w6 R6 hk6 hB6; have hb6 := hB6 _ _ hb5 (by omega); have R36 : Row w6 g3 xs := (by obtain ⟨cu, q1, q2, q3⟩ := R5; exact ⟨cu, (hk6 g3 (by omega)).trans q1, q2, q3⟩); have MC6 : Blk w6 g9 #[.slice (some ⟨g3, 0, none⟩) n1 n1, .slice (some ⟨g7, 0, none⟩) n2 n2] 28 := (hk6 g9 (by omega)).trans MC5; have BR6 : Blk w6 (w.heap.size + 1) #[.slice none 0 0, .slice none 0 0] 28 := (hk6 (w.heap.size + 1) (by omega)).trans BR5; clear x0 x1 xf xl y0 y1 yf yl R5 M75 MC5 BB5 BR5; obtain ⟨y0, y1, yf, yl⟩ := MC6.two; obtain ⟨z0, z1, zf, zl⟩ := BR6.two)))
      have MR : Blk ((w6.setCell ⟨w.heap.size + 1, 0, none⟩ (.slice (some ⟨g3, 0, none⟩) n1 n1)).setCell ⟨w.heap.size + 1, 1, none⟩ (.slice (some ⟨g7, 0, none⟩) n2 n2)) (w.heap.size + 1) #[.slice (some ⟨g3, 0, none⟩) n1 n1, .slice (some ⟨g7, 0, none⟩) n2 n2] 28 := (BR6.set (i := 0) (.slice (some ⟨g3, 0, none⟩) n1 n1)).set (i := 1) (.slice (some ⟨g7, 0, none⟩) n2 n2)
      have hbR := below2n BR6 hb6 (by omega) (.slice (some ⟨g3, 0, none⟩) n1 n1) (.slice (some ⟨g7, 0, none⟩) n2 n2)
      replace R36 := (R36.other (g := w.heap.size + 1) (o := 0) (v := .slice (some ⟨g3, 0, none⟩) n1 n1) (by omega)).other (g := w.heap.size + 1) (o := 1) (v := .slice (some ⟨g7, 0, none⟩) n2 n2) (by omega)
      replace R6 := (R6.other (g := w.heap.size + 1) (o := 0) (v := .slice (some ⟨g3, 0, none⟩) n1 n1) (by omega)).other (g := w.heap.size + 1) (o := 1) (v := .slice (some ⟨g7, 0, none⟩) n2 n2) (by omega)
      generalize ((w6.setCell ⟨w.heap.size + 1, 0, none⟩ (.slice (some ⟨g3, 0, none⟩) n1 n1)).setCell ⟨w.heap.size + 1, 1, none⟩ (.slice (some ⟨g7, 0, none⟩) n2 n2)) = we at *
      clear y0 y1 yf yl z0 z1 zf zl
      obtain ⟨z0, z1, zf, zl⟩ := MR.two
      refine bodyPost_ret (v := .agg #[.slice (some ⟨g3, 0, none⟩) n1 n1, .slice (some ⟨g7, 0, none⟩) n2 n2]) (by simp [results, Tryz.results57, go_sem, z0, z1]) rfl ?_
      exact ⟨g3, g7, rfl, hne, by omega, by omega, R36, R6, hbR⟩
end Go.Proofs.YtciljbnailobgaaGreat
