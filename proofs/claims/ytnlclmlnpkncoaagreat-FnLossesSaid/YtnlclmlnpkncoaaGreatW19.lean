/- Texts of a proof, laid together. -/
import Derived.Test.YtnlclmlnpkncoaaGreatW18
import Derived.Test.YtnlclmlnpkncoaaGreatW13
import Derived.Test.YtnlclmlnpkncoaaGreatW12
import Derived.Test.YtnlclmlnpkncoaaGreatW11
namespace Go.Proofs.YtnlclmlnpkncoaaGreat
open Go.ChangeShapes Go.WideShapes Go.ChangeAt Go.RowKit
set_option linter.unusedVariables false
set_option linter.unusedSimpArgs false
set_option maxRecDepth 4000
theorem flat_le {L : List (List Int)} {f : List Int → List (List Int)} {k : Nat} (h : ∀ q ∈ L, (f q).length ≤ k) : (L.flatMap f).length ≤ L.length * k := by
  induction L with
  | nil => simp
  | cons q L ih =>
    have h1 := h q (by simp)
    have h2 := ih (fun x hx => h x (by simp [hx]))
    rw [List.flatMap_cons, List.length_append, List.length_cons, Nat.add_mul]
    omega
theorem ao_le {n : Nat} (h1 : 1 ≤ n) (hn : n ≤ 24) : ∀ (o : List Int) (L : List (List Int)), (∀ d ∈ o, 1 ≤ d) → (∀ q ∈ L, PO n q) → (o.foldl aoS L).length ≤ L.length * 24 ^ o.length ∧ ∀ q ∈ o.foldl aoS L, PO n q
  | [], L, _, hL => ⟨by simp, hL⟩
  | d :: o, L, hd, hL => by
    have hf : ∀ z ∈ L.flatMap (fun q => adL q d), PO n z := fun z hz => by
      obtain ⟨q, a, b⟩ := List.mem_flatMap.1 hz
      exact (hL q a).step (hd d (by simp)) b
    have hs := sdP_facts (fun z hz => (hf z hz).2.1)
    obtain ⟨g1, g2⟩ := ao_le h1 hn o (aoS L d) (fun x hx => hd x (by simp [hx])) (fun q hq => hf q ((hs.2.2 q).1 hq))
    refine ⟨?_, g2⟩
    have h2 : (aoS L d).length ≤ L.length * 24 := Nat.le_trans (sdP_le _) (flat_le fun q hq => Nat.le_trans (adL_len h1 (hL q hq).2.1) hn)
    have h3 := Nat.mul_le_mul_right (24 ^ o.length) h2
    rw [List.foldl_cons, List.length_cons, Nat.pow_succ, Nat.mul_comm (24 ^ o.length) 24, ← Nat.mul_assoc]
    omega
theorem aoL_ne {n : Nat} {xs o : List Int} (h : PO n xs) (hd : ∀ d ∈ o, 1 ≤ d) : aoL xs o ≠ [] := fun e => by
  obtain ⟨z, hz⟩ := RM_some o h.1 hd
  have := ((ao_mem o [xs] hd (n := n) (by simp [h.1, h.2.1])).2 z).2 ⟨xs, by simp, hz⟩
  have e2 : List.foldl aoS [xs] o = [] := e
  rw [e2] at this
  simp at this
theorem orders_in {ra rb : Int} (h1 : 1 ≤ rb) (h2 : rb ≤ ra) (h3 : ra ≤ 6) : (ordersP ra rb).length ≤ 2 ∧ 1 ≤ (ordersP ra rb).length ∧ ∀ o ∈ ordersP ra rb, 1 ≤ o.length ∧ o.length ≤ 4 ∧ ∀ d ∈ o, 1 ≤ d ∧ d ≤ 6 := by
  unfold ordersP
  split
  · refine ⟨by simp, by simp, fun o ho => ?_⟩
    simp at ho
    subst ho
    refine ⟨by simp, by simp, fun d hd => ?_⟩
    simp at hd
    omega
  · refine ⟨by simp, by simp, fun o ho => ?_⟩
    simp at ho
    rcases ho with rfl | rfl
    · refine ⟨by simp, by simp, fun d hd => ?_⟩
      simp at hd
      omega
    · refine ⟨by simp, by simp, fun d hd => ?_⟩
      simp at hd
      omega
set_option maxHeartbeats 2000000 in
theorem bearoffResultsM_any (a : Option Addr) (n cap : Nat) (xs : List Int) (ra rb : Int) (w : World) (hn : xs.length = n) (h1 : 1 ≤ n) (hle : n ≤ 24) (hP : PO n xs) (r1 : 1 ≤ rb) (r2 : rb ≤ ra) (r3 : ra ≤ 6) (hr : IRow w a xs) :
    Calls Tryz.prog 35 #[.slice a n cap, .agg #[.int .i64 ra, .int .i64 rb]] w (RowsGot w.heap.size (resI xs (ordersP ra rb)) w.heap.size w) := by
  subst hn
  have hO := fun W => implOrders_any ra rb W
  obtain ⟨o1, o2, o3⟩ := orders_in r1 r2 r3
  have hres : resI xs (ordersP ra rb) = sdP ((ordersP ra rb).flatMap fun o => aoL xs o) := rfl
  rw [hres]
  obtain ⟨os, hos⟩ : ∃ os, ordersP ra rb = os := ⟨_, rfl⟩
  rw [hos] at hO o1 o2 o3 ⊢
  have HAO := Lib.hid (fun (gj : Nat) (o : List Int) (ho : o ∈ os) W (r : IRow W a xs) (q : Row W gj o) => afterOrder_any a (some ⟨gj, 0, none⟩) xs.length o.length cap o.length xs o W rfl h1 hle hP rfl (o3 o ho).1 (o3 o ho).2.1 (o3 o ho).2.2 r q.irow)
  have HLE := Lib.hid (fun (o : List Int) (ho : o ∈ os) => ao_le h1 hle o [xs] (fun d hd => ((o3 o ho).2.2 d hd).1) (by simp [hP]))
  have HNE := Lib.hid (fun (o : List Int) (ho : o ∈ os) => aoL_ne hP (fun d hd => ((o3 o ho).2.2 d hd).1))
  have HL4 := Lib.hid (fun (o : List Int) (ho : o ∈ os) => (o3 o ho).2.1)
  have HO := Lib.hid hO
  have BQ := Blk.new w #[.int .i64 ra, .int .i64 rb] 39
  have hb0 : Below w.heap.size w (w.alloc (.cells #[.int .i64 ra, .int .i64 rb] 39)) := (Below.refl _ _).alloc (Nat.le_refl _) _
  obtain ⟨x0, x1, xf, xl⟩ := BQ.two
  clear hO hos hres o3
  go_enter Tryz.func35, Tryz.ntmps35
  go_wp2_with fail
  clear x0 x1 xf xl
  refine (HO.out _).mono ?_
  rintro e w1 ⟨gO, rfl, hcells, hb1⟩
  replace hb0 := chain hb0 hb1
  have hcl := Lib.hid hcells
  obtain ⟨M, hM⟩ : ∃ M, os.length = M := ⟨_, rfl⟩
  have HM := Lib.hid hM
  rw [hM] at o1 o2 ⊢
  have hz0 := hb0.size
  clear hcells hb1 hM BQ HO
  go_wp2_with fail
  go_loopg [5, 11] M (fun mm lv iv wr => ∃ (W : World) (i : Nat) (l : List PQ), W = wr ∧ i ≤ M ∧ mm = M - i ∧ iv = .int .i64 i ∧ OwnQ W w1.heap.size lv l ∧ nmQ l = (os.take i).flatMap (fun o => aoL xs o) ∧ l.length ≤ i * 331776 ∧ (0 < i → 0 < l.length) ∧ QAll w1.heap.size W.heap.size W l ∧ QDis l ∧ Below w1.heap.size w1 W)
  case atStart => exact ⟨w1, 0, [], rfl, by omega, by omega, by go_num, OwnE.nil _ _, rfl, by simp, fun q => by omega, QAll.nil _ _ _, QDis.nil, Below.refl _ _⟩
  case round =>
    obtain ⟨w2, i, l, hW2, hi, hm2, rfl, hOw, hnm, hll, hl0, hA, hDs, hb2⟩ := hrel
    subst hW2
    obtain ⟨aV, kV, rfl⟩ := hOw.form
    by_cases hlt : i < M
    · have hlt' : (i : Int) < (M : Int) := by omega
      have hi0 : (0 : Int) ≤ (i : Int) := by omega
      obtain ⟨o, ho⟩ : ∃ o, os[i]? = some o := ⟨_, List.getElem?_eq_getElem (by rw [HM.out]; exact hlt)⟩
      have hom := List.mem_of_getElem? ho
      obtain ⟨gj, hc1, hrow⟩ := hcl.out i o ho
      have hc := CellIs.below (b := gO) (o := i) hc1 hb2
      unfold CellIs at hc
      have hn2 : nmQ l ++ aoL xs o = (os.take (i + 1)).flatMap (fun o => aoL xs o) := by
        rw [hnm, List.take_add_one, ho]
        simp
      have hle24 : (aoL xs o).length ≤ 331776 := by
        have q1 := (HLE.out o hom).1
        have q2 : 24 ^ o.length ≤ 24 ^ 4 := Nat.pow_le_pow_right (by decide) (HL4.out o hom)
        have q3 : (24 : Nat) ^ 4 = 331776 := by decide
        have q4 : (aoL xs o).length ≤ 1 * 24 ^ o.length := q1
        omega
      have hane := HNE.out o hom
      have HC := Lib.hid (HAO.out gj o hom w2 (hr.below (chain hb0 hb2)) (hrow.below hb2))
      have HN2 := Lib.hid hn2
      have hz2 := hb2.size
      clear ho hn2 hnm hc1 hrow hom
      go_wp2_with (first | (go_at_call 70; refine HC.out.mono ?_; rintro e w3 ⟨g3, k3, l3, rfl, hg3, hQ3, hnm3, hA3, hD3, hb3⟩; have hl3b : l3.length ≤ 331776 := (by have := nm_len hnm3; omega); have hz3 := hb3.size; have hOb := hOw.below hb3; have hAb := hA.below hb3) | (at_builtin; go_loud (refine wp_pushQs rfl (.tmp 15) (.tmp 18) rfl w1.heap.size _ l rfl hOb ⟨g3, 0, none⟩ l3.length k3 l3 rfl rfl (fun q y hy => hQ3.newsT l3.length q y (by rw [List.take_length]; exact hy)) (by omega) (by omega) ?_; intro v4 w4 hO4 hb4 hk4 hkk)))
      go_roundg (M - (i + 1))
      case measure => omega
      case rel =>
        have hz4 := hb4.size
        refine ⟨w4, i + 1, l ++ l3, rfl, by omega, rfl, by go_num, hO4, ?_, by rw [List.length_append]; omega, fun _ => by rw [List.length_append]; have : 0 < l3.length := List.length_pos_iff.2 (fun e => hane (by rw [← hnm3, e]; rfl)); omega, ((hAb.keepT hk4 (by omega)).mono (Nat.le_refl _) (Nat.le_refl _)).app ((hA3.keepT hk4 (by omega)).mono (by omega) (Nat.le_refl _)), hDs.app hD3 hA hA3 (Nat.le_refl _), (hb2.trans (hb3.mono (by omega))).trans hb4⟩
        rw [← HN2.out, ← hnm3]
        show List.map _ (l ++ l3) = _
        rw [List.map_append]
    · obtain rfl : i = M := by omega
      have hlp := hl0 (by omega)
      have hfin : (os.flatMap fun o => aoL xs o) = nmQ l := by rw [hnm, ← HM.out, List.take_length]
      have hlen : ∀ x ∈ l, x.2.2.length = xs.length := fun x hx => by
        have hq : x.2.2 ∈ nmQ l := List.mem_map.2 ⟨x, hx, rfl⟩
        rw [← hfin] at hq
        obtain ⟨o, h5, h6⟩ := List.mem_flatMap.1 hq
        exact ((HLE.out o h5).2 _ h6).2.1
      have HC := Lib.hid (distinct_any w1.heap.size w1.heap.size xs.length _ l w2 hb2.size (by omega) hlp (by omega) hOw hA hDs hlen)
      have HF := Lib.hid hfin
      have hz2 := hb2.size
      clear hnm hlen hA hDs hfin
      go_wp2_with (go_at_call 71; refine HC.out.mono ?_; rintro e w3 ⟨g3, k3, l3, rfl, hg3, hQ3, hnm3, hA3, hD3, hb3⟩)
      go_ret
      exact ⟨g3, k3, l3, rfl, by omega, hQ3, by rw [HF.out]; exact hnm3, hA3.mono (by omega) (Nat.le_refl _), hD3, hb0.trans ((hb2.trans hb3).mono (by omega))⟩
def rsC (p c h s : Int) (xs : List Int) (ra rb : Int) : Int := if bcE p c h s xs = 0 then (if rlB s ra rb = true then 0 else 2) else bcE p c h s xs
def rsL (p c h s : Int) (xs : List Int) (ra rb : Int) : List (List Int) := if rsC p c h s xs ra rb = 0 then resI xs (ordersP ra rb) else []
theorem okP_PO {p c h s : Int} {xs : List Int} (g : okP p c h s xs = true) : PO xs.length xs ∧ 1 ≤ xs.length ∧ xs.length ≤ 24 := by
  have q := okP_parts g
  exact ⟨⟨fun x hx => (q.2.2.1 x hx).1, rfl, by omega⟩, by omega, by omega⟩
theorem rlB_parts {s ra rb : Int} (g : rlB s ra rb = true) (hs : s ≤ 6) : 1 ≤ rb ∧ rb ≤ ra ∧ ra ≤ 6 := by
  rw [rlB_in] at g
  simp [inB] at g
  omega
theorem resI_len {n : Nat} {xs : List Int} {ra rb : Int} (h1 : 1 ≤ n) (hn : n ≤ 24) (hP : PO n xs) (r1 : 1 ≤ rb) (r2 : rb ≤ ra) (r3 : ra ≤ 6) : (resI xs (ordersP ra rb)).length ≤ 700000 := by
  obtain ⟨o1, o2, o3⟩ := orders_in r1 r2 r3
  have hf : ∀ o ∈ ordersP ra rb, (aoL xs o).length ≤ 331776 := fun o ho => by
    obtain ⟨q1, q2, q3⟩ := o3 o ho
    have := (ao_le h1 hn o [xs] (fun d hd => (q3 d hd).1) (fun q hq => by simp at hq; subst hq; exact hP)).1
    have h4 : 24 ^ o.length ≤ 24 ^ 4 := Nat.pow_le_pow_right (by omega) q2
    have e : aoL xs o = o.foldl aoS [xs] := rfl
    rw [e]
    simp at this
    omega
  have h5 := Nat.le_trans (sdP_le ((ordersP ra rb).flatMap fun o => aoL xs o)) (flat_le hf)
  have h6 := Nat.mul_le_mul_right 331776 o1
  show (sdP ((ordersP ra rb).flatMap fun o => aoL xs o)).length ≤ 700000
  omega
theorem resI_PO {n : Nat} {xs : List Int} {ra rb : Int} (h1 : 1 ≤ n) (hn : n ≤ 24) (hP : PO n xs) (r1 : 1 ≤ rb) (r2 : rb ≤ ra) (r3 : ra ≤ 6) : ∀ z ∈ resI xs (ordersP ra rb), PO n z := fun z hz => by
  obtain ⟨o1, o2, o3⟩ := orders_in r1 r2 r3
  have hf : ∀ z ∈ (ordersP ra rb).flatMap fun o => aoL xs o, PO n z := fun z hz => by
    obtain ⟨o, ho, hzo⟩ := List.mem_flatMap.1 hz
    exact (ao_le h1 hn o [xs] (fun d hd => ((o3 o ho).2.2 d hd).1) (fun q hq => by simp at hq; subst hq; exact hP)).2 z hzo
  exact hf z (((sdP_facts (fun z hz => (hf z hz).2.1)).2.2 z).1 hz)
theorem resI_ne {n : Nat} {xs : List Int} {ra rb : Int} (h1 : 1 ≤ n) (hn : n ≤ 24) (hP : PO n xs) (r1 : 1 ≤ rb) (r2 : rb ≤ ra) (r3 : ra ≤ 6) : 0 < (resI xs (ordersP ra rb)).length := by
  obtain ⟨o1, o2, o3⟩ := orders_in r1 r2 r3
  obtain ⟨o, ho⟩ : ∃ o, o ∈ ordersP ra rb := by
    cases e : ordersP ra rb with
    | nil => rw [e] at o2; simp at o2
    | cons o l => exact ⟨o, by simp⟩
  have hne := aoL_ne hP (o := o) (fun d hd => ((o3 o ho).2.2 d hd).1)
  obtain ⟨z, hz⟩ := List.exists_mem_of_ne_nil _ hne
  have hf : ∀ z ∈ (ordersP ra rb).flatMap fun o => aoL xs o, z.length = n := fun z hz => by
    obtain ⟨o, ho, hzo⟩ := List.mem_flatMap.1 hz
    exact ((ao_le h1 hn o [xs] (fun d hd => ((o3 o ho).2.2 d hd).1) (fun q hq => by simp at hq; subst hq; exact hP)).2 z hzo).2.1
  exact List.length_pos_of_mem (((sdP_facts hf).2.2 z).2 (List.mem_flatMap.2 ⟨o, ho, hz⟩))
def pwF (i : Nat) : Int := (i : Int) + 1
def pwT (p : List Int) : Int := wtF pwF 0 p
theorem pw_ge {p : List Int} (h : NN p) : p.sum ≤ pwT p := wtF_ge pwF (fun k => by unfold pwF; omega) p 0 h
theorem adL_pips {p : List Int} {d : Int} {z : List Int} (h : NN p) (hd : 1 ≤ d) (hz : z ∈ adL p d) : pwT z ≤ pwT p ∧ pwT p - d ≤ pwT z ∧ z.sum ≤ p.sum ∧ (p.sum ≠ 0 → pwT z < pwT p) := by
  by_cases e : p.sum = 0
  · rw [adL_zero h e] at hz
    simp at hz
    subst hz
    exact ⟨Int.le_refl _, by omega, Int.le_refl _, fun q => absurd e q⟩
  · obtain ⟨i, hi, h0, hok, rfl⟩ := (steps_mem h).1 ((adL_mem h e z).1 hz)
    have hw := asL_wt pwF (p := p) hi hd
    have hs := asL_sum (p := p) hi hd
    have e1 : pwT (asL p i d) = wtF pwF 0 (asL p i d) := rfl
    have e2 : pwT p = wtF pwF 0 p := rfl
    rw [e1, e2, hw, hs]
    unfold pwF
    by_cases c : d ≤ (i : Int)
    · rw [if_pos c, if_pos c]
      omega
    · rw [if_neg c, if_neg c]
      omega
theorem RM_pips : ∀ {ds : List Int} {p z : List Int}, NN p → (∀ d ∈ ds, 1 ≤ d) → RM ds p z → pwT z ≤ pwT p ∧ pwT p - ds.sum ≤ pwT z ∧ z.sum ≤ p.sum ∧ (ds ≠ [] → p.sum ≠ 0 → pwT z < pwT p)
  | [], p, z, h, _, e => by rw [RM] at e; subst e; exact ⟨Int.le_refl _, by simp, Int.le_refl _, fun q => absurd rfl q⟩
  | d :: ds, p, z, h, hd, ⟨q, h1, h2⟩ => by
    have a := adL_pips h (hd d (by simp)) h1
    have b := RM_pips (adL_facts h (hd d (by simp)) h1).1 (fun x hx => hd x (by simp [hx])) h2
    rw [List.sum_cons]
    exact ⟨by omega, by omega, by omega, fun _ q => by have := a.2.2.2 q; omega⟩
theorem resI_pips {n : Nat} {xs : List Int} {ra rb : Int} (hP : PO n xs) (r1 : 1 ≤ rb) (r2 : rb ≤ ra) (r3 : ra ≤ 6) : ∀ z ∈ resI xs (ordersP ra rb),
    pwT z ≤ pwT xs ∧ pwT xs - (if ra = rb then 4 * ra else ra + rb) ≤ pwT z ∧ z.sum ≤ xs.sum ∧ (xs.sum ≠ 0 → pwT z < pwT xs) := fun z hz => by
  obtain ⟨o1, o2, o3⟩ := orders_in r1 r2 r3
  obtain ⟨o, ho, hm⟩ := ((resI_facts (p := xs) (os := ordersP ra rb) hP.1 (fun o ho d hd => ((o3 o ho).2.2 d hd).1)).2.1 z).1 hz
  have h := RM_pips hP.1 (fun d hd => ((o3 o ho).2.2 d hd).1) hm
  have hs : o.sum = (if ra = rb then 4 * ra else ra + rb) := by
    unfold ordersP at ho
    split at ho
    · rename_i e
      simp at ho
      subst ho
      rw [if_pos e]
      simp
      omega
    · rename_i e
      rw [if_neg e]
      simp at ho
      rcases ho with rfl | rfl
      · simp
      · simp; omega
  rw [hs] at h
  exact ⟨h.1, h.2.1, h.2.2.1, h.2.2.2 (fun e => by have := (o3 o ho).1; rw [e] at this; simp at this)⟩
end Go.Proofs.YtnlclmlnpkncoaaGreat
namespace Go.Proofs.YtnlclmlnpkncoaaGreat
set_option maxRecDepth 8000
set_option linter.unusedVariables false
set_option linter.unusedSimpArgs false
def bstA (T : Int) (f : List Int → Option Int) (L : List (List Int)) : Nat → Option (Nat × Int)
  | 0 => some (0, -1)
  | j + 1 => match bstA T f L j with
    | none => none
    | some q => match f (L.getD j []) with
      | none => none
      | some x => if q.2 < T - x then some (j, T - x) else some q
def bst (T : Int) (f : List Int → Option Int) (L : List (List Int)) : Option (Nat × Int) := bstA T f L L.length
def blA (T : Int) (f : List Int → Option Int) (own : List Int) (R : List Rl) : Nat → Option (List Int)
  | 0 => some []
  | j + 1 => match blA T f own R j with
    | none => none
    | some L => match bst T f (resI own (ordersP (R.getD j (0, 0)).1 (R.getD j (0, 0)).2)) with
      | none => none
      | some q => some (L ++ [q.2])
def mnP (S : Nat) (o : Option (List Int)) : Option Int := match o with
  | none => none
  | some L => if wsum ((rollsTo S).zip L) % ((S * S : Nat) : Int) = 0 then some (wsum ((rollsTo S).zip L) / ((S * S : Nat) : Int)) else none
def wcF (S : Nat) : Nat → List Int → List Int → Option Int
  | 0, _, _ => none
  | n + 1, own, other => if own.sum = 0 then some (tp S) else if other.sum = 0 then some 0 else mnP S (blA (tp S) (fun z => wcF S n other z) own (rollsTo S) (rollsTo S).length)
def wc (S : Nat) (own other : List Int) : Option Int := wcF S ((pwT own + pwT other).toNat + 1) own other
theorem bst_congr {T : Int} {f g : List Int → Option Int} {L : List (List Int)} (h : ∀ z ∈ L, f z = g z) : bst T f L = bst T g L := by
  have gen : ∀ j, j ≤ L.length → bstA T f L j = bstA T g L j := by
    intro j
    induction j with
    | zero => intro _; rfl
    | succ j ih =>
      intro hj
      have hm : L.getD j [] ∈ L := by
        rw [List.getD_eq_getElem?_getD, List.getElem?_eq_getElem hj]
        exact List.getElem_mem hj
      rw [bstA, bstA, ih (by omega), h _ hm]
  exact gen _ (Nat.le_refl _)
theorem bl_congr {T : Int} {f g : List Int → Option Int} {own : List Int} {R : List Rl} (h : ∀ r ∈ R, ∀ z ∈ resI own (ordersP r.1 r.2), f z = g z) : ∀ j, j ≤ R.length → blA T f own R j = blA T g own R j := by
  intro j
  induction j with
  | zero => intro _; rfl
  | succ j ih =>
    intro hj
    have hm : R.getD j (0, 0) ∈ R := by
      rw [List.getD_eq_getElem?_getD, List.getElem?_eq_getElem hj]
      exact List.getElem_mem hj
    rw [blA, blA, ih (by omega), bst_congr (h _ hm)]
theorem blA_length {T : Int} {f : List Int → Option Int} {own : List Int} {R : List Rl} : ∀ {j : Nat} {L : List Int}, blA T f own R j = some L → L.length = j
  | 0, L, h => by
    rw [blA] at h
    injection h with h
    subst h
    rfl
  | j + 1, L, h => by
    rw [blA] at h
    split at h
    · cases h
    · rename_i M hM
      split at h
      · cases h
      · injection h with h
        subst h
        rw [List.length_append, blA_length hM]
        rfl
theorem pw_pos {n : Nat} {p : List Int} (h : PO n p) : 0 ≤ pwT p := by
  have := pw_ge h.1
  have := h.1.sum
  omega
theorem rolls_in {S : Nat} (hS : 1 ≤ S ∧ S ≤ 6) {r : Rl} (h : r ∈ rollsTo S) : 1 ≤ r.2 ∧ r.2 ≤ r.1 ∧ r.1 ≤ 6 := by
  have := rollsTo_mem S r h
  omega
theorem wcF_fuel {S : Nat} (hS : 1 ≤ S ∧ S ≤ 6) {k : Nat} (k1 : 1 ≤ k) (k2 : k ≤ 24) : ∀ (n m : Nat) (own other : List Int), PO k own → PO k other → (pwT own + pwT other).toNat < n → (pwT own + pwT other).toNat < m → wcF S n own other = wcF S m own other
  | 0, _, _, _, _, _, h, _ => by omega
  | n + 1, 0, _, _, _, _, _, h => by omega
  | n + 1, m + 1, own, other, ho, hp, h1, h2 => by
    rw [wcF, wcF]
    by_cases e1 : own.sum = 0
    · rw [if_pos e1, if_pos e1]
    · rw [if_neg e1, if_neg e1]
      by_cases e2 : other.sum = 0
      · rw [if_pos e2, if_pos e2]
      · rw [if_neg e2, if_neg e2]
        congr 1
        refine bl_congr (fun r hr z hz => ?_) _ (Nat.le_refl _)
        obtain ⟨r1, r2, r3⟩ := rolls_in hS hr
        have hz1 := resI_PO k1 k2 ho r1 r2 r3 z hz
        have hz2 := (resI_pips ho r1 r2 r3 z hz).2.2.2 e1
        have := pw_pos hp
        have := pw_pos hz1
        exact wcF_fuel hS k1 k2 n m other z hp hz1 (by omega) (by omega)
theorem wc_own {S : Nat} {own other : List Int} (h : own.sum = 0) : wc S own other = some (tp S) := by rw [wc, wcF, if_pos h]
theorem wc_other {S : Nat} {own other : List Int} (h : own.sum ≠ 0) (h2 : other.sum = 0) : wc S own other = some 0 := by rw [wc, wcF, if_neg h, if_pos h2]
theorem wc_step {S : Nat} (hS : 1 ≤ S ∧ S ≤ 6) {k : Nat} (k1 : 1 ≤ k) (k2 : k ≤ 24) {own other : List Int} (ho : PO k own) (hp : PO k other) (h : own.sum ≠ 0) (h2 : other.sum ≠ 0) :
    wc S own other = mnP S (blA (tp S) (wc S other) own (rollsTo S) (rollsTo S).length) := by
  rw [wc, wcF, if_neg h, if_neg h2]
  congr 1
  refine bl_congr (fun r hr z hz => ?_) _ (Nat.le_refl _)
  obtain ⟨r1, r2, r3⟩ := rolls_in hS hr
  have hz1 := resI_PO k1 k2 ho r1 r2 r3 z hz
  have hz2 := (resI_pips ho r1 r2 r3 z hz).2.2.2 h
  have := pw_pos hp
  have := pw_pos hz1
  exact wcF_fuel hS k1 k2 _ _ other z hp hz1 (by omega) (by omega)
/-! Bounds. -/
theorem bstA_in {T : Int} {f : List Int → Option Int} {L : List (List Int)} (hf : ∀ z x, f z = some x → 0 ≤ x ∧ x ≤ T) : ∀ {j : Nat} {q : Nat × Int}, bstA T f L j = some q → -1 ≤ q.2 ∧ (q.2 ≤ T ∨ q.2 = -1) ∧ (0 < j → 0 ≤ q.2 ∧ q.2 ≤ T ∧ q.1 < j)
  | 0, q, h => by
    rw [bstA] at h
    injection h with h
    subst h
    exact ⟨by decide, .inr rfl, fun h => by omega⟩
  | j + 1, q, h => by
    rw [bstA] at h
    split at h
    · cases h
    · rename_i p hp
      split at h
      · cases h
      · rename_i x hx
        have hb := hf _ _ hx
        have ih := bstA_in hf hp
        split at h
        · rename_i c
          injection h with h
          subst h
          dsimp only
          omega
        · rename_i c
          injection h with h
          subst h
          by_cases hj : 0 < j
          · have := ih.2.2 hj
            omega
          · obtain rfl : j = 0 := by omega
            rw [bstA] at hp
            injection hp with hp
            subst hp
            dsimp only at c ⊢
            omega
theorem bst_in {T : Int} {f : List Int → Option Int} {L : List (List Int)} (hf : ∀ z x, f z = some x → 0 ≤ x ∧ x ≤ T) (hL : 0 < L.length) {q : Nat × Int} (h : bst T f L = some q) : 0 ≤ q.2 ∧ q.2 ≤ T ∧ q.1 < L.length := (bstA_in hf h).2.2 hL
theorem blA_in {T : Int} {f : List Int → Option Int} {own : List Int} {R : List Rl} (hf : ∀ z x, f z = some x → 0 ≤ x ∧ x ≤ T) (hR : ∀ r ∈ R, 0 < (resI own (ordersP r.1 r.2)).length) : ∀ {j : Nat} {L : List Int}, j ≤ R.length → blA T f own R j = some L → ∀ P ∈ L, 0 ≤ P ∧ P ≤ T
  | 0, L, _, h => by
    rw [blA] at h
    injection h with h
    subst h
    simp
  | j + 1, L, hj, h => by
    rw [blA] at h
    split at h
    · cases h
    · rename_i M hM
      split at h
      · cases h
      · rename_i q hq
        injection h with h
        subst h
        have hm : R.getD j (0, 0) ∈ R := by
          rw [List.getD_eq_getElem?_getD, List.getElem?_eq_getElem hj]
          exact List.getElem_mem hj
        intro P hP
        rcases List.mem_append.1 hP with hP | hP
        · exact blA_in hf hR (by omega) hM P hP
        · simp at hP
          subst hP
          have := bst_in hf (hR _ hm) hq
          exact ⟨this.1, this.2.1⟩
theorem wsum_in {T : Int} : ∀ (R : List Rl) (L : List Int), (∀ P ∈ L, 0 ≤ P ∧ P ≤ T) → 0 ≤ T → 0 ≤ wsum (R.zip L) ∧ wsum (R.zip L) ≤ T * (R.map wgR).sum
  | [], L, _, hT => by simp [wsum]
  | r :: R, [], _, hT => by
    have h := wsum_in R [] (T := T) (by simp) hT
    simp only [List.zip_nil_right, wsum] at h ⊢
    rw [List.map_cons, List.sum_cons, Int.mul_add]
    have : 0 ≤ wgR r := by unfold wgR; split <;> omega
    have := Int.mul_nonneg hT this
    omega
  | r :: R, P :: L, h, hT => by
    have ih := wsum_in R L (fun q hq => h q (by simp [hq])) hT
    have hp := h P (by simp)
    rw [List.zip_cons_cons, wsum, List.map_cons, List.sum_cons, Int.mul_add]
    have hw : wgt r = wgR r := rfl
    have hw1 := wgt_in r
    dsimp only
    rw [← hw]
    have a1 := Int.mul_le_mul_of_nonneg_right hp.2 (show 0 ≤ wgt r by omega)
    have a2 := Int.mul_nonneg hp.1 (show 0 ≤ wgt r by omega)
    omega
theorem wsum_snoc : ∀ (R : List Rl) (L : List Int) (x : Int) (r : Rl), R[L.length]? = some r → wsum (R.zip (L ++ [x])) = wsum (R.zip L) + x * wgt r
  | [], L, x, r, h => by simp at h
  | q :: R, [], x, r, h => by
    simp at h
    subst h
    simp [wsum]
  | q :: R, P :: L, x, r, h => by
    have ih := wsum_snoc R L x r (by simpa using h)
    rw [List.cons_append, List.zip_cons_cons, List.zip_cons_cons, wsum, wsum, ih]
    omega
theorem rolls_weight {S : Nat} (h : S ≤ 6) : ((rollsTo S).map wgR).sum = ((S * S : Nat) : Int) := by
  have := wgTo_all S h
  unfold wgTo at this
  rw [List.take_length] at this
  rw [this, Int.natCast_mul]
theorem res_ne {S : Nat} (hS : 1 ≤ S ∧ S ≤ 6) {k : Nat} (k1 : 1 ≤ k) (k2 : k ≤ 24) {own : List Int} (ho : PO k own) : ∀ r ∈ rollsTo S, 0 < (resI own (ordersP r.1 r.2)).length := fun r hr => by
  obtain ⟨r1, r2, r3⟩ := rolls_in hS hr
  exact resI_ne k1 k2 ho r1 r2 r3
theorem mnP_in {S : Nat} (hS : 1 ≤ S ∧ S ≤ 6) {L : List Int} (hL : ∀ P ∈ L, 0 ≤ P ∧ P ≤ tp S) : 0 ≤ wsum ((rollsTo S).zip L) ∧ wsum ((rollsTo S).zip L) ≤ tp S * ((S * S : Nat) : Int) ∧ 0 ≤ wsum ((rollsTo S).zip L) / ((S * S : Nat) : Int) ∧ wsum ((rollsTo S).zip L) / ((S * S : Nat) : Int) ≤ tp S := by
  have ht := tp_in hS
  have h := wsum_in (rollsTo S) L hL (by omega)
  rw [rolls_weight hS.2] at h
  have hB := base_range hS
  refine ⟨h.1, h.2, Int.ediv_nonneg h.1 (by omega), ?_⟩
  exact Int.ediv_le_of_le_mul (by omega) h.2
theorem wcF_in {S : Nat} (hS : 1 ≤ S ∧ S ≤ 6) {k : Nat} (k1 : 1 ≤ k) (k2 : k ≤ 24) : ∀ (n : Nat) (own other : List Int) (x : Int), PO k own → PO k other → wcF S n own other = some x → 0 ≤ x ∧ x ≤ tp S
  | 0, own, other, x, _, _, h => by rw [wcF] at h; cases h
  | n + 1, own, other, x, ho, hp, h => by
    have ht := tp_in hS
    haveI inst : ∀ z, Decidable (PO k z) := fun z => Classical.propDecidable _
    rw [wcF] at h
    split at h
    · injection h with h
      omega
    · split at h
      · injection h with h
        omega
      · have hc : blA (tp S) (fun z => wcF S n other z) own (rollsTo S) (rollsTo S).length = blA (tp S) (fun z => if PO k z then wcF S n other z else none) own (rollsTo S) (rollsTo S).length := by
          refine bl_congr (fun r hr z hz => ?_) _ (Nat.le_refl _)
          obtain ⟨r1, r2, r3⟩ := rolls_in hS hr
          rw [if_pos (resI_PO k1 k2 ho r1 r2 r3 z hz)]
        rw [hc] at h
        unfold mnP at h
        split at h
        · cases h
        · rename_i L hL
          have hb := blA_in (fun z y hy => by
            split at hy
            · rename_i hz
              exact wcF_in hS k1 k2 n other z y hp hz hy
            · cases hy) (res_ne hS k1 k2 ho) (Nat.le_refl _) hL
          have := mnP_in hS hb
          split at h
          · injection h with h
            omega
          · cases h
theorem wc_in {S : Nat} (hS : 1 ≤ S ∧ S ≤ 6) {k : Nat} (k1 : 1 ≤ k) (k2 : k ≤ 24) {own other : List Int} {x : Int} (ho : PO k own) (hp : PO k other) (h : wc S own other = some x) : 0 ≤ x ∧ x ≤ tp S := wcF_in hS k1 k2 _ _ _ _ ho hp h
end Go.Proofs.YtnlclmlnpkncoaaGreat
