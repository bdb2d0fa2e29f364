/- Texts of a proof, laid together. -/
import Derived.Test.YtciljbnailobgaaGreatV02
import Derived.Test.YtciljbnailobgaaGreatV23
import Derived.BigQuiet
import Derived.Test.YtciljbnailobgaaGreatV19
import Derived.Test.YtciljbnailobgaaGreatV15
import Derived.Test.YtciljbnailobgaaGreatV20
import Derived.Test.YtciljbnailobgaaGreatV17
import Derived.Test.YtciljbnailobgaaGreatV24
import Derived.Deep.CutRange
import Derived.Laws.BitsLemmas
import Derived.Test.YtciljbnailobgaaGreatV01
namespace Go.Proofs.YtciljbnailobgaaGreat
open Go.ChangeShapes Go.WideShapes Go.ChangeAt Go.RowKit
set_option linter.unusedVariables false
set_option linter.unusedSimpArgs false
set_option maxRecDepth 4000
set_option maxHeartbeats 1000000 in
theorem likeInts_same (a b : Option Addr) (n c1 c2 : Nat) (xs : List Int) (w : World) (hn : xs.length = n) (hle : n ≤ 1048576) (ha : IRow w a xs) (hb : IRow w b xs) :
    Calls Tryz.prog 31 #[.slice a n c1, .slice b n c2] w fun e w' => e = .returned (.bool true) ∧ Below w.heap.size w w' := by
  subst hn
  go_enter Tryz.func31, Tryz.ntmps31
  go_wp2
  go_loopg [5] xs.length (fun m i wr => ∃ k : Nat, k ≤ xs.length ∧ m = xs.length - k ∧ i = .int .i64 k ∧ Below w.heap.size w wr)
  case atStart => exact ⟨0, by omega, by omega, rfl, Below.refl _ _⟩
  case round =>
    obtain ⟨k, hk, hm, rfl, hbel⟩ := hrel
    by_cases hlt : k < xs.length
    · have hlt' : (k : Int) < (xs.length : Int) := by omega
      have hk0 : (0 : Int) ≤ (k : Int) := by omega
      obtain ⟨b1, o1, rfl, hc1⟩ := ha.below hbel k hlt
      obtain ⟨b2, o2, rfl, hc2⟩ := hb.below hbel k hlt
      go_wp2_with fail
      go_quiet (fail)
      go_wp2
      go_roundg (xs.length - (k + 1))
      case measure => omega
      case rel => exact ⟨k + 1, by omega, rfl, by go_num, below_drewN hbel _⟩
    · obtain rfl : k = xs.length := by omega
      go_wp2
      go_ret
      exact ⟨rfl, hbel⟩
set_option maxHeartbeats 1000000 in
theorem w9Boards_same (a1 a2 b1 b2 : Option Addr) (n1 n2 c1 c2 d1 d2 : Nat) (xs ys : List Int) (w : World) (h1 : xs.length = n1) (h2 : ys.length = n2) (l1 : n1 ≤ 1048576) (l2 : n2 ≤ 1048576)
    (r1 : IRow w a1 xs) (r2 : IRow w a2 ys) (s1 : IRow w b1 xs) (s2 : IRow w b2 ys) :
    Calls Tryz.prog 12 #[.agg #[.slice a1 n1 c1, .slice a2 n2 c2], .agg #[.slice b1 n1 d1, .slice b2 n2 d2]] w fun e w' => e = .returned (.bool true) ∧ Below w.heap.size w w' := by
  obtain ⟨BA, BR, hb, hz⟩ := two_new w #[.slice a1 n1 c1, .slice a2 n2 c2] #[.slice b1 n1 d1, .slice b2 n2 d2] 28 28
  replace r1 := r1.below hb
  replace r2 := r2.below hb
  replace s1 := s1.below hb
  replace s2 := s2.below hb
  have HZ := Lib.hid hz
  clear hz
  go_enter Tryz.func12, Tryz.ntmps12
  go_wp2_with fail
  generalize ((w.alloc (.cells #[.slice a1 n1 c1, .slice a2 n2 c2] 28)).alloc (.cells #[.slice b1 n1 d1, .slice b2 n2 d2] 28)) = v0 at *
  refine (likeInts_same a1 b1 n1 c1 d1 xs v0 h1 l1 r1 s1).mono ?_
  rintro e w1 ⟨rfl, hb1⟩
  replace BA := BA.below hb1
  replace BR := BR.below hb1
  have hz1 := HZ.out
  obtain ⟨x0, x1, xf, xl⟩ := BA.two
  obtain ⟨y0, y1, yf, yl⟩ := BR.two
  clear hz1
  go_wp2_with fail
  refine (likeInts_same a2 b2 n2 c2 d2 ys w1 h2 l2 (r2.below hb1) (s2.below hb1)).mono ?_
  rintro e w2 ⟨rfl, hb2⟩
  go_wp2_with fail
  go_ret
  have hz1 := HZ.out
  exact ⟨rfl, (hb.trans (hb1.mono (by omega))).trans (hb2.mono (by have := hb1.size; omega))⟩
theorem big_any (a : Option Addr) (len cap : Nat) (w : World) :
    Calls Tryz.prog 5 #[.slice a len cap] w fun e w' => e = .returned (.bool (decide (4096 < (len : Int)))) ∧ w = w' := by
  go_enter Tryz.func5, Tryz.ntmps5
  go_wp2
  go_ret
  exact ⟨rfl, rfl⟩
theorem VRow.pushI {w w' : World} {base g : Nat} {v : Value} {l : List Int} {vs : List Value} {t : TypeId} (h : VRow w g vs t) (hO : Own w base v l) (ht : t ≠ 2) (hk : ∀ k, k < w.heap.size → v.ownBlock ≠ some k → w'.heap[k]? = w.heap[k]?) : VRow w' g vs t := by
  obtain ⟨cur, hB, q1, q2⟩ := h
  refine ⟨cur, ?_, q1, q2⟩
  have hg : g < w.heap.size := Blk.lt hB
  refine (hk g hg (fun e => ?_)).trans hB
  rcases hO.2 with ⟨h1, h2⟩ | ⟨g', cap, cur', h1, hb, hh, hrest⟩
  · rw [h1] at e
    simp [Value.ownBlock] at e
  · rw [h1] at e
    simp [Value.ownBlock] at e
    subst e
    have hB' : w.heap[g']? = some (.cells cur t (0, 0)) := hB
    rw [hh] at hB'
    simp at hB'
    exact ht hB'.2.symm
theorem ORl.pushI {lo hi : Nat} {w w' : World} {base : Nat} {v : Value} {xs : List Int} {a : Option Addr} {l : List Rl} (h : ORl lo hi w a l) (hO : Own w base v xs) (hk : ∀ k, k < w.heap.size → v.ownBlock ≠ some k → w'.heap[k]? = w.heap[k]?) : ORl lo hi w' a l := by
  rcases h with h | ⟨g, e, h1, h2, r⟩
  · exact .inl h
  · exact .inr ⟨g, e, h1, h2, VRow.pushI r hO (by decide) hk⟩
end Go.Proofs.YtciljbnailobgaaGreat
namespace Go.Proofs.YtciljbnailobgaaGreat
set_option linter.unusedVariables false
theorem addP_neC (out : List Ply) (p : Ply) : addP out p ≠ [] := by
  unfold addP
  split
  · rename_i h
    rintro rfl
    simp at h
  · simp
theorem addAll_keepC : ∀ (l out : List Ply), out ≠ [] → addAll out l ≠ []
  | [], out, h => h
  | x :: l, out, h => addAll_keepC l (addP out x) (addP_neC out x)
theorem addAll_neC (l out : List Ply) (h : l ≠ []) : addAll out l ≠ [] := by
  cases l with
  | nil => exact absurd rfl h
  | cons x l => exact addAll_keepC l (addP out x) (addP_neC out x)
theorem longP_neC (P : Nat) (h : Int) : ∀ (o : List Int) (l : List Ply), l ≠ [] → longP P h o l ≠ []
  | [], l, hl => hl
  | d :: ds, l, hl => by
    rw [longP]
    split
    · exact hl
    · rename_i hn
      exact longP_neC P h ds _ hn
theorem allStep_ne {P : Nat} {h : Int} {xs ys : List Int} {U i : Nat} {o : List Int} {out : List Ply} (hq : out ≠ [] ∨ (longN P h o (startP xs ys) = U ∧ i = 0)) : allStep P h xs ys U out i o ≠ [] := by
  unfold allStep
  split
  · rename_i hc
    rcases hq with hq | ⟨h1, h2⟩
    · exact hq
    · rcases hc with hc | hc
      · exact absurd h1 hc
      · omega
  · exact addAll_neC _ _ (longP_neC P h o _ (by simp [startP]))
theorem allStep_ne2 {P : Nat} {h : Int} {xs ys : List Int} {U i : Nat} {o : List Int} {out : List Ply} (h1 : longN P h o (startP xs ys) = U) : allStep P h xs ys U out i o ≠ [] := by
  unfold allStep
  split
  · rename_i hc
    rcases hc with hc | ⟨-, -, hc⟩
    · exact absurd h1 hc
    · intro e
      rw [e] at hc
      simp at hc
  · exact addAll_neC _ _ (longP_neC P h o _ (by simp [startP]))
theorem allP_ne (P : Nat) (h : Int) (xs ys : List Int) (ra rb : Int) : allP P h xs ys ra rb ≠ [] := by
  unfold allP usedP ordersP
  by_cases e : ra = rb
  · rw [if_pos e]
    simp only [List.map_cons, List.map_nil, List.foldl_cons, List.foldl_nil, List.length_cons, List.length_nil, Nat.zero_add]
    show allStep P h xs ys _ [] 0 _ ≠ []
    exact allStep_ne2 (by omega)
  · rw [if_neg e]
    simp only [List.map_cons, List.map_nil, List.foldl_cons, List.foldl_nil, List.length_cons, List.length_nil, Nat.zero_add]
    show allStep P h xs ys _ (allStep P h xs ys _ [] 0 _) 1 _ ≠ []
    by_cases q : longN P h [rb, ra] (startP xs ys) = max (max 0 (longN P h [ra, rb] (startP xs ys))) (longN P h [rb, ra] (startP xs ys))
    · exact allStep_ne2 q
    · exact allStep_ne (.inl (allStep_ne2 (by omega)))
theorem allP_pos (P : Nat) (h : Int) (xs ys : List Int) (ra rb : Int) : 1 ≤ ((allP P h xs ys ra rb).length : Int) := by
  have := allP_ne P h xs ys ra rb
  cases hq : allP P h xs ys ra rb with
  | nil => exact absurd hq this
  | cons a l => simp; omega
theorem folN_snoc (P : Nat) (h s : Int) : ∀ (o : List Int) (ts : List Stp) (b r : List Int × List Int) (d : Int) (t : Stp), ts.length = o.length → folN P h s o ts b = some r → t.2.2.1 = d → legB P h s r.1 r.2 t = true →
    folN P h s (o ++ [d]) (ts ++ [t]) b = some (mvX r.1 t.1 t.2.1 1, mvY P r.2 t.2.1 t.2.2.2 1)
  | [], [], b, r, d, t, _, e, hd, hl => by
    have e' : some b = some r := e
    cases e'
    show folN P h s [d] [t] b = _
    rw [folN, if_pos ⟨hd, hl⟩]
    rfl
  | [], _ :: _, b, r, d, t, hn, _, _, _ => by simp at hn
  | _ :: _, [], b, r, d, t, hn, _, _, _ => by simp at hn
  | o :: os, u :: ts, b, r, d, t, hn, e, hd, hl => by
    rw [folN] at e
    split at e
    · rename_i hc
      have ih := folN_snoc P h s os ts _ r d t (by simpa using hn) e hd hl
      rw [List.cons_append, List.cons_append, folN, if_pos hc]
      exact ih
    · cases e
theorem folN_nil (P : Nat) (h s : Int) (o : List Int) (b : List Int × List Int) : folN P h s o [] b = some b := by cases o <;> rfl
theorem folN_more (P : Nat) (h s : Int) : ∀ (o o' : List Int) (ts : List Stp) (b r : List Int × List Int), folN P h s o ts b = some r → folN P h s (o ++ o') ts b = some r
  | o, o', [], b, r, e => by
    rw [folN_nil] at e ⊢
    exact e
  | [], o', t :: ts, b, r, e => by simp [folN] at e
  | o :: os, o', t :: ts, b, r, e => by
    rw [folN] at e
    rw [List.cons_append, folN]
    split at e
    · rename_i hc
      rw [if_pos hc]
      exact folN_more P h s os o' ts _ r e
    · cases e
theorem folN_same (P : Nat) (h s : Int) : ∀ (o o' : List Int) (ts : List Stp) (b r r' : List Int × List Int), folN P h s o ts b = some r → folN P h s o' ts b = some r' → r = r'
  | o, o', [], b, r, r', e, e' => by
    rw [folN_nil] at e e'
    cases e
    cases e'
    rfl
  | [], o', t :: ts, b, r, r', e, _ => by simp [folN] at e
  | o :: os, [], t :: ts, b, r, r', _, e => by simp [folN] at e
  | o :: os, o' :: os', t :: ts, b, r, r', e, e' => by
    rw [folN] at e e'
    split at e
    · split at e'
      · exact folN_same P h s os os' ts _ r r' e e'
      · cases e'
    · cases e
theorem firstF_has (P : Nat) (h s : Int) (xs ys : List Int) (ts : List Stp) (r : List Int × List Int) : ∀ (OS : List (List Int)) (o : List Int), o ∈ OS → folN P h s o ts (xs, ys) = some r → firstF P h s xs ys ts OS = some r
  | [], o, ho, _ => by simp at ho
  | o1 :: OS, o, ho, e => by
    rw [firstF]
    cases h1 : folN P h s o1 ts (xs, ys) with
    | some r1 => rw [folN_same P h s o1 o ts _ r1 r h1 e]
    | none =>
      rcases List.mem_cons.1 ho with rfl | ho
      · rw [h1] at e; cases e
      · exact firstF_has P h s xs ys ts r OS o ho e
theorem legTo_mem {P : Nat} {h : Int} {xs ys : List Int} {d : Int} {t : Stp} : ∀ n, t ∈ legTo P h xs ys d n → ∃ k, k < n ∧ stepI P h xs ys k d = some t
  | 0, ht => by simp [legTo] at ht
  | n + 1, ht => by
    rw [legTo, List.mem_append] at ht
    rcases ht with ht | ht
    · refine ⟨n, by omega, ?_⟩
      cases e : stepI P h xs ys n d with
      | none => simp [e] at ht
      | some u => simp [e] at ht; rw [ht]
    · obtain ⟨k, hk, e⟩ := legTo_mem n ht
      exact ⟨k, by omega, e⟩
theorem legL_die {P : Nat} {h : Int} {xs ys : List Int} {d : Int} {t : Stp} (ht : t ∈ legL P h xs ys d) : t.2.2.1 = d := by
  unfold legL at ht
  split at ht
  · simp at ht
  · obtain ⟨k, -, e⟩ := legTo_mem _ ht
    unfold stepI at e
    split at e
    · simp at e
    · split at e
      · simp only [Option.some.injEq] at e
        rw [← e]
      · simp at e
def Fols (P : Nat) (h s : Int) (b : List Int × List Int) (o : List Int) (l : List Ply) : Prop := ∀ q ∈ l, q.1.length = o.length ∧ folN P h s o q.1 b = some q.2
theorem Fols.next {P : Nat} {c h s d : Int} {b : List Int × List Int} {o : List Int} {l : List Ply} (f : Fols P h s b o l) (g : Fine (P : Int) c h s l) (hd : inB d 1 s = true) : Fols P h s b (o ++ [d]) (nextP P h d l) := by
  intro q hq
  unfold nextP at hq
  rcases addAll_mem hq with hq | hq
  · simp at hq
  · obtain ⟨p, hp, hq⟩ := List.mem_flatMap.1 hq
    obtain ⟨t, ht, rfl⟩ := List.mem_map.1 hq
    obtain ⟨f1, f2⟩ := f p hp
    refine ⟨by simp [oneMore, f1], ?_⟩
    exact folN_snoc P h s o p.1 b p.2 d t f1 f2 (legL_die ht) (legL_leg (g p hp) hd ht)
theorem Fols.long {P : Nat} {c h s : Int} {b : List Int × List Int} : ∀ {o' : List Int} {o : List Int} {l : List Ply}, Fols P h s b o l → Fine (P : Int) c h s l → (∀ d ∈ o', inB d 1 s = true) →
    ∀ q ∈ longP P h o' l, q.1.length = o.length + longN P h o' l ∧ folN P h s (o ++ o') q.1 b = some q.2
  | [], o, l, f, g, hd, q, hq => by
    obtain ⟨f1, f2⟩ := f q hq
    rw [List.append_nil, longN]
    exact ⟨f1, f2⟩
  | d :: ds, o, l, f, g, hd, q, hq => by
    rw [longP] at hq
    rw [longN]
    split at hq
    · rename_i e
      rw [if_pos e]
      obtain ⟨f1, f2⟩ := f q hq
      exact ⟨f1, folN_more P h s o _ q.1 b q.2 f2⟩
    · rename_i e
      rw [if_neg e]
      have h1 := f.next g (hd d (by simp))
      have h2 := nextP_fine g (hd d (by simp))
      obtain ⟨q1, q2⟩ := Fols.long (o' := ds) h1 h2 (fun x hx => hd x (by simp [hx])) q hq
      refine ⟨by rw [q1, List.length_append]; simp only [List.length_cons, List.length_nil]; omega, ?_⟩
      rw [← List.append_cons] at q2
      exact q2
theorem play_steps {P : Nat} {c h s : Int} {xs ys : List Int} {ra rb : Int} (g : isB (P : Int) c h s xs ys = true) (ga : inB ra 1 s = true) (gb : inB rb 1 s = true) :
    ∀ q ∈ allP P h xs ys ra rb, q.1.length = usedP P h xs ys ra rb ∧ psO P h s xs ys ra rb q.1 = some q.2 := by
  intro q hq
  unfold allP at hq
  rw [← legalO_all] at hq
  rcases addAll_mem hq with hq | hq
  · simp at hq
  · obtain ⟨o, ho, hq⟩ := List.mem_flatMap.1 hq
    have ho2 : o ∈ ordersP ra rb ∧ longN P h o (startP xs ys) = usedP P h xs ys ra rb := by
      unfold legalO at ho
      have ho' : o ∈ (ordersP ra rb).filter (fun o => longN P h o (startP xs ys) == usedP P h xs ys ra rb) := by
        split at ho
        · exact List.mem_of_mem_take ho
        · exact ho
      rw [List.mem_filter] at ho'
      exact ⟨ho'.1, by simpa using ho'.2⟩
    obtain ⟨j, hj⟩ := List.getElem?_of_mem ho2.1
    have hd := (ordersP_mem ga gb hj).2
    have f0 : Fols P h s (xs, ys) [] (startP xs ys) := fun p hp => by
      simp only [startP, List.mem_cons, List.not_mem_nil, or_false] at hp
      subst hp
      exact ⟨rfl, rfl⟩
    have g0 : Fine (P : Int) c h s (startP xs ys) := fun p hp => by
      simp only [startP, List.mem_cons, List.not_mem_nil, or_false] at hp
      subst hp
      exact g
    obtain ⟨q1, q2⟩ := Fols.long f0 g0 hd q hq
    rw [List.nil_append] at q2
    simp only [List.length_nil, Nat.zero_add] at q1
    rw [ho2.2] at q1
    refine ⟨q1, ?_⟩
    unfold psO
    rw [if_pos q1]
    exact firstF_has P h s xs ys q.1 q.2 _ o ho q2
def Dist (l : List Ply) : Prop := l.Pairwise (fun p q => p.2 ≠ q.2)
theorem Dist.addP {l : List Ply} {p : Ply} (h : Dist l) : Dist (addP l p) := by
  unfold Go.Proofs.YtciljbnailobgaaGreat.addP
  split
  · exact h
  · rename_i hn
    unfold Dist
    rw [List.pairwise_append]
    refine ⟨h, by simp, fun a ha b hb e => hn ?_⟩
    simp only [List.mem_cons, List.not_mem_nil, or_false] at hb
    subst hb
    rw [List.any_eq_true]
    exact ⟨a, ha, by simpa using e⟩
theorem Dist.addAll : ∀ (l : List Ply) {out : List Ply}, Dist out → Dist (addAll out l)
  | [], _, h => h
  | x :: l, _, h => Dist.addAll l (Dist.addP (p := x) h)
theorem findP_at : ∀ (l : List Ply) (n k : Nat) (q : Ply), Dist l → l[k]? = some q → findP q.2 l n = ((n + k : Nat) : Int)
  | [], n, k, q, _, hk => by simp at hk
  | p :: l, n, 0, q, _, hk => by
    simp only [List.getElem?_cons_zero, Option.some.injEq] at hk
    subst hk
    rw [findP, if_pos rfl, Nat.add_zero]
  | p :: l, n, k + 1, q, h, hk => by
    rw [List.getElem?_cons_succ] at hk
    have h' := List.pairwise_cons.1 h
    rw [findP, if_neg (h'.1 q (List.mem_of_getElem? hk)), findP_at l (n + 1) k q h'.2 hk]
    congr 1
    omega
theorem allP_dist (P : Nat) (h : Int) (xs ys : List Int) (ra rb : Int) : Dist (allP P h xs ys ra rb) := by
  unfold allP
  rw [← legalO_all]
  exact Dist.addAll _ List.Pairwise.nil
end Go.Proofs.YtciljbnailobgaaGreat
namespace Go.Proofs.YtciljbnailobgaaGreat
open Go.ChangeShapes Go.WideShapes Go.ChangeAt Go.RowKit
set_option linter.unusedVariables false
set_option linter.unusedSimpArgs false
set_option maxRecDepth 4000
theorem mask_in (y : Int) (h0 : 0 ≤ y) (h1 : y < 18446744073709551616) : 0 ≤ wrap64 (bits BinOp.and IntKind.u64 (y / 8589934592) 16777215) ∧ wrap64 (bits BinOp.and IntKind.u64 (y / 8589934592) 16777215) < 16777216 := by
  have h := Go.bits_mask .u64 63 (by decide) (fun n q0 q1 => by rw [IntKind.wrap_u64]; omega) 24 (by decide) (y / 8589934592) (by omega) (by omega)
  have e : ((2 : Int) ^ 24 - 1) = 16777215 := by decide
  have e2 : ((2 : Int) ^ 24) = 16777216 := by decide
  rw [e, e2] at h
  rw [h]
  unfold wrap64
  omega
set_option maxRecDepth 8000 in
set_option maxHeartbeats 1000000 in
theorem below_any (B g : Nat) (a : Option Addr) (len cap i : Nat) (h n : Int) (w : World) (hB : B ≤ g) (hlen : len ≤ 1048576) (hn : 1 ≤ n) (hc : CodeIn B w a len) (hD : Blk w g #[.slice a len cap, .int .i64 (i : Int), .int .u64 h] 75) :
    Calls Tryz.prog 14 #[.pointer (some ⟨g, 0, none⟩), .int .i64 n] w fun e w' => ∃ r, e = .returned (.int .i64 r) ∧ 0 ≤ r ∧ r < n ∧ Below g w w' := by
  obtain ⟨x0, x1, x2, xf, xl⟩ := hD.tri
  have hm := mask_in (IntKind.u64.wrap (IntKind.u64.wrap (h * 6364136223846793005) + 1442695040888963407)) (by rw [IntKind.wrap_u64]; omega) (by rw [IntKind.wrap_u64]; omega)
  have M := hD.set (i := 2) (.int .u64 (IntKind.u64.wrap (IntKind.u64.wrap (h * 6364136223846793005) + 1442695040888963407)))
  simp only [List.setIfInBounds_toArray, List.set_cons_zero, List.set_cons_succ] at M
  have hb := (Below.refl g w).setCell (p := ⟨g, 2, none⟩) (Nat.le_refl _) (.int .u64 (IntKind.u64.wrap (IntKind.u64.wrap (h * 6364136223846793005) + 1442695040888963407)))
  have hcw := hc.below (hb.mono hB)
  go_enter Tryz.func14, Tryz.ntmps14
  go_upto_region 3 with (fail)
  clear x0 x1 x2 xf xl hD hc
  generalize IntKind.u64.wrap (IntKind.u64.wrap (h * 6364136223846793005) + 1442695040888963407) = hh at *
  generalize wrap64 (bits BinOp.and IntKind.u64 (hh / 8589934592) 16777215) = x at *
  generalize (w.setCell ⟨g, 2, none⟩ (.int .u64 hh)) = w1 at *
  obtain ⟨x0, x1, x2, xf, xl⟩ := M.tri
  by_cases hi : i < len
  · obtain ⟨b, oo, z, rfl, hbB, hz, z0, z1⟩ := hcw i hi
    have hi' : (i : Int) < (len : Int) := by omega
    have hi0 : (0 : Int) ≤ (i : Int) := by omega
    have hi6 : (i : Int) ≤ 1048576 := by omega
    go_region
    all_goals go_wp2_with fail
    all_goals go_region
    all_goals go_wp2
    go_ret
    exact ⟨_, rfl, Int.emod_nonneg _ (by omega), Int.emod_lt_of_pos _ (by omega), (hb.setCell (p := ⟨g, 1, none⟩) (Nat.le_refl _) _).drew.drew⟩
  · have hi' : ¬ (i : Int) < (len : Int) := by omega
    go_region
    all_goals go_wp2
    go_ret
    exact ⟨_, rfl, Int.emod_nonneg _ (by omega), Int.emod_lt_of_pos _ (by omega), hb.drew⟩
set_option maxRecDepth 8000 in
set_option maxHeartbeats 1000000 in
theorem rollCode_dice (B : Nat) (a : Option Addr) (len cap : Nat) (sd : Int) (w : World) (hB : B ≤ w.heap.size) (hlen : len ≤ 1048576) (hc : CodeIn B w a len) :
    Calls Tryz.prog 13 #[.slice a len cap, .int .u64 sd] w fun e w' => e = .returned (.pointer (some ⟨w.heap.size, 0, none⟩)) ∧ (∃ h : Int, Blk w' w.heap.size #[.slice a len cap, .int .i64 0, .int .u64 h] 75) ∧ Below w.heap.size w w' := by
  go_enter Tryz.func13, Tryz.ntmps13
  go_wp2_with fail
  go_loopg [6] len (fun m q wr => ∃ (k : Nat) (h : Int), k ≤ len ∧ m = len - k ∧ q = .int .i64 (k : Int) ∧ Blk wr w.heap.size #[.slice a len cap, .int .i64 0, .int .u64 h] 75 ∧ Below w.heap.size w wr)
  case atStart => exact ⟨0, _, by omega, by omega, rfl, Blk.new w _ _, (Below.refl _ _).alloc (Nat.le_refl _) _⟩
  case round =>
    obtain ⟨k, h, hk, hm, rfl, BD, hb⟩ := hrel
    by_cases hlt : k < len
    · have hlt' : (k : Int) < (len : Int) := by omega
      have hk0 : (0 : Int) ≤ (k : Int) := by omega
      have hk6 : (k : Int) ≤ 1048576 := by omega
      obtain ⟨b, oo, z, rfl, hbB, hz, z0, z1⟩ := (hc.below (hb.mono hB)) k hlt
      have M := fun v => (BD.set (i := 2) v).drew
      simp only [List.setIfInBounds_toArray, List.set_cons_zero, List.set_cons_succ] at M
      obtain ⟨x0, x1, x2, xf, xl⟩ := BD.tri
      go_wp2_with fail
      go_region
      all_goals go_wp2
      go_roundg (len - (k + 1))
      case measure => omega
      case rel => exact ⟨k + 1, _, by omega, rfl, by go_num, M _, (hb.setCell (p := ⟨w.heap.size, 2, none⟩) (Nat.le_refl _) _).drew⟩
    · obtain rfl : k = len := by omega
      have hlt' : ¬ ((k : Nat) : Int) < (k : Int) := by omega
      go_wp2
      go_ret
      exact ⟨rfl, ⟨h, BD⟩, hb⟩
end Go.Proofs.YtciljbnailobgaaGreat
