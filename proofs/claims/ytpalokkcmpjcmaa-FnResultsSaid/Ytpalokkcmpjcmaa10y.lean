/- Contracts of chapter 10: the results of a roll, of the program. -/
import Derived.Test.Ytpalokkcmpjcmaa10x
import Derived.Test.YtpalokkcmpjcmaaOrd
import Derived.Test.Ytpalokkcmpjcmaa05h0
import Derived.Test.Ytpalokkcmpjcmaa10a
namespace Go.Proofs.Ytpalokkcmpjcmaa
open Go.ChangeShapes Go.WideShapes Go.ChangeAt Go.RowKit
set_option linter.unusedVariables false
set_option linter.unusedSimpArgs false
set_option maxRecDepth 4000

theorem flat_le {L : List (List Int)} {f : List Int → List (List Int)} {k : Nat} (h : ∀ q ∈ L, (f q).length ≤ k) : (L.flatMap f).length ≤ L.length * k := by
  induction L with
  | nil => simp
  | cons q L ih =>
    have h1 := h q (by simp)
    have h2 := ih (fun x hx => h x (by simp [hx]))
    rw [List.flatMap_cons, List.length_append, List.length_cons, Nat.add_mul]
    omega
theorem ao_le {n : Nat} (h1 : 1 ≤ n) (hn : n ≤ 24) : ∀ (o : List Int) (L : List (List Int)), (∀ d ∈ o, 1 ≤ d) → (∀ q ∈ L, PO n q) → (o.foldl aoS L).length ≤ L.length * 24 ^ o.length ∧ ∀ q ∈ o.foldl aoS L, PO n q
  | [], L, _, hL => ⟨by simp, hL⟩
  | d :: o, L, hd, hL => by
    have hf : ∀ z ∈ L.flatMap (fun q => adL q d), PO n z := fun z hz => by
      obtain ⟨q, a, b⟩ := List.mem_flatMap.1 hz
      exact (hL q a).step (hd d (by simp)) b
    have hs := sdP_facts (fun z hz => (hf z hz).2.1)
    obtain ⟨g1, g2⟩ := ao_le h1 hn o (aoS L d) (fun x hx => hd x (by simp [hx])) (fun q hq => hf q ((hs.2.2 q).1 hq))
    refine ⟨?_, g2⟩
    have h2 : (aoS L d).length ≤ L.length * 24 := Nat.le_trans (sdP_le _) (flat_le fun q hq => Nat.le_trans (adL_len h1 (hL q hq).2.1) hn)
    have h3 := Nat.mul_le_mul_right (24 ^ o.length) h2
    rw [List.foldl_cons, List.length_cons, Nat.pow_succ, Nat.mul_comm (24 ^ o.length) 24, ← Nat.mul_assoc]
    omega
theorem aoL_ne {n : Nat} {xs o : List Int} (h : PO n xs) (hd : ∀ d ∈ o, 1 ≤ d) : aoL xs o ≠ [] := fun e => by
  obtain ⟨z, hz⟩ := RM_some o h.1 hd
  have := ((ao_mem o [xs] hd (n := n) (by simp [h.1, h.2.1])).2 z).2 ⟨xs, by simp, hz⟩
  have e2 : List.foldl aoS [xs] o = [] := e
  rw [e2] at this
  simp at this
theorem orders_in {ra rb : Int} (h1 : 1 ≤ rb) (h2 : rb ≤ ra) (h3 : ra ≤ 6) : (ordersP ra rb).length ≤ 2 ∧ 1 ≤ (ordersP ra rb).length ∧ ∀ o ∈ ordersP ra rb, 1 ≤ o.length ∧ o.length ≤ 4 ∧ ∀ d ∈ o, 1 ≤ d ∧ d ≤ 6 := by
  unfold ordersP
  split
  · refine ⟨by simp, by simp, fun o ho => ?_⟩
    simp at ho
    subst ho
    refine ⟨by simp, by simp, fun d hd => ?_⟩
    simp at hd
    omega
  · refine ⟨by simp, by simp, fun o ho => ?_⟩
    simp at ho
    rcases ho with rfl | rfl
    · refine ⟨by simp, by simp, fun d hd => ?_⟩
      simp at hd
      omega
    · refine ⟨by simp, by simp, fun d hd => ?_⟩
      simp at hd
      omega
set_option maxHeartbeats 2000000 in
theorem bearoffResultsM_any (a : Option Addr) (n cap : Nat) (xs : List Int) (ra rb : Int) (w : World) (hn : xs.length = n) (h1 : 1 ≤ n) (hle : n ≤ 24) (hP : PO n xs) (r1 : 1 ≤ rb) (r2 : rb ≤ ra) (r3 : ra ≤ 6) (hr : IRow w a xs) :
    Calls Try.prog 34 #[.slice a n cap, .agg #[.int .i64 ra, .int .i64 rb]] w (RowsGot w.heap.size (resI xs (ordersP ra rb)) w.heap.size w) := by
  subst hn
  have hO := fun W => implOrders_any ra rb W
  obtain ⟨o1, o2, o3⟩ := orders_in r1 r2 r3
  have hres : resI xs (ordersP ra rb) = sdP ((ordersP ra rb).flatMap fun o => aoL xs o) := rfl
  rw [hres]
  obtain ⟨os, hos⟩ : ∃ os, ordersP ra rb = os := ⟨_, rfl⟩
  rw [hos] at hO o1 o2 o3 ⊢
  have HAO := Lib.hid (fun (gj : Nat) (o : List Int) (ho : o ∈ os) W (r : IRow W a xs) (q : Row W gj o) => afterOrder_any a (some ⟨gj, 0, none⟩) xs.length o.length cap o.length xs o W rfl h1 hle hP rfl (o3 o ho).1 (o3 o ho).2.1 (o3 o ho).2.2 r q.irow)
  have HLE := Lib.hid (fun (o : List Int) (ho : o ∈ os) => ao_le h1 hle o [xs] (fun d hd => ((o3 o ho).2.2 d hd).1) (by simp [hP]))
  have HNE := Lib.hid (fun (o : List Int) (ho : o ∈ os) => aoL_ne hP (fun d hd => ((o3 o ho).2.2 d hd).1))
  have HL4 := Lib.hid (fun (o : List Int) (ho : o ∈ os) => (o3 o ho).2.1)
  have HO := Lib.hid hO
  have BQ := Blk.new w #[.int .i64 ra, .int .i64 rb] 28
  have hb0 : Below w.heap.size w (w.alloc (.cells #[.int .i64 ra, .int .i64 rb] 28)) := (Below.refl _ _).alloc (Nat.le_refl _) _
  obtain ⟨x0, x1, xf, xl⟩ := BQ.two
  clear hO hos hres o3
  go_enter Try.func34, Try.ntmps34
  go_wp2_with fail
  clear x0 x1 xf xl
  refine (HO.out _).mono ?_
  rintro e w1 ⟨gO, rfl, hcells, hb1⟩
  replace hb0 := chain hb0 hb1
  have hcl := Lib.hid hcells
  obtain ⟨M, hM⟩ : ∃ M, os.length = M := ⟨_, rfl⟩
  have HM := Lib.hid hM
  rw [hM] at o1 o2 ⊢
  have hz0 := hb0.size
  clear hcells hb1 hM BQ HO
  go_wp2_with fail
  go_loopg [5, 11] M (fun mm lv iv wr => ∃ (W : World) (i : Nat) (l : List PQ), W = wr ∧ i ≤ M ∧ mm = M - i ∧ iv = .int .i64 i ∧ OwnQ W w1.heap.size lv l ∧ nmQ l = (os.take i).flatMap (fun o => aoL xs o) ∧ l.length ≤ i * 331776 ∧ (0 < i → 0 < l.length) ∧ QAll w1.heap.size W.heap.size W l ∧ QDis l ∧ Below w1.heap.size w1 W)
  case atStart => exact ⟨w1, 0, [], rfl, by omega, by omega, by go_num, OwnE.nil _ _, rfl, by simp, fun q => by omega, QAll.nil _ _ _, QDis.nil, Below.refl _ _⟩
  case round =>
    obtain ⟨w2, i, l, hW2, hi, hm2, rfl, hOw, hnm, hll, hl0, hA, hDs, hb2⟩ := hrel
    subst hW2
    obtain ⟨aV, kV, rfl⟩ := hOw.form
    by_cases hlt : i < M
    · have hlt' : (i : Int) < (M : Int) := by omega
      have hi0 : (0 : Int) ≤ (i : Int) := by omega
      obtain ⟨o, ho⟩ : ∃ o, os[i]? = some o := ⟨_, List.getElem?_eq_getElem (by rw [HM.out]; exact hlt)⟩
      have hom := List.mem_of_getElem? ho
      obtain ⟨gj, hc1, hrow⟩ := hcl.out i o ho
      have hc := CellIs.below (b := gO) (o := i) hc1 hb2
      unfold CellIs at hc
      have hn2 : nmQ l ++ aoL xs o = (os.take (i + 1)).flatMap (fun o => aoL xs o) := by
        rw [hnm, List.take_add_one, ho]
        simp
      have hle24 : (aoL xs o).length ≤ 331776 := by
        have q1 := (HLE.out o hom).1
        have q2 : 24 ^ o.length ≤ 24 ^ 4 := Nat.pow_le_pow_right (by decide) (HL4.out o hom)
        have q3 : (24 : Nat) ^ 4 = 331776 := by decide
        have q4 : (aoL xs o).length ≤ 1 * 24 ^ o.length := q1
        omega
      have hane := HNE.out o hom
      have HC := Lib.hid (HAO.out gj o hom w2 (hr.below (chain hb0 hb2)) (hrow.below hb2))
      have HN2 := Lib.hid hn2
      have hz2 := hb2.size
      clear ho hn2 hnm hc1 hrow hom
      go_wp2_with (first | (go_at_call 48; refine HC.out.mono ?_; rintro e w3 ⟨g3, k3, l3, rfl, hg3, hQ3, hnm3, hA3, hD3, hb3⟩; have hl3b : l3.length ≤ 331776 := (by have := nm_len hnm3; omega); have hz3 := hb3.size; have hOb := hOw.below hb3; have hAb := hA.below hb3) | (at_builtin; go_loud (refine wp_pushQs rfl (.tmp 15) (.tmp 18) rfl w1.heap.size _ l rfl hOb ⟨g3, 0, none⟩ l3.length k3 l3 rfl rfl (fun q y hy => hQ3.newsT l3.length q y (by rw [List.take_length]; exact hy)) (by omega) (by omega) ?_; intro v4 w4 hO4 hb4 hk4 hkk)))
      go_roundg (M - (i + 1))
      case measure => omega
      case rel =>
        have hz4 := hb4.size
        refine ⟨w4, i + 1, l ++ l3, rfl, by omega, rfl, by go_num, hO4, ?_, by rw [List.length_append]; omega, fun _ => by rw [List.length_append]; have : 0 < l3.length := List.length_pos_iff.2 (fun e => hane (by rw [← hnm3, e]; rfl)); omega, ((hAb.keepT hk4 (by omega)).mono (Nat.le_refl _) (Nat.le_refl _)).app ((hA3.keepT hk4 (by omega)).mono (by omega) (Nat.le_refl _)), hDs.app hD3 hA hA3 (Nat.le_refl _), (hb2.trans (hb3.mono (by omega))).trans hb4⟩
        rw [← HN2.out, ← hnm3]
        show List.map _ (l ++ l3) = _
        rw [List.map_append]
    · obtain rfl : i = M := by omega
      have hlp := hl0 (by omega)
      have hfin : (os.flatMap fun o => aoL xs o) = nmQ l := by rw [hnm, ← HM.out, List.take_length]
      have hlen : ∀ x ∈ l, x.2.2.length = xs.length := fun x hx => by
        have hq : x.2.2 ∈ nmQ l := List.mem_map.2 ⟨x, hx, rfl⟩
        rw [← hfin] at hq
        obtain ⟨o, h5, h6⟩ := List.mem_flatMap.1 hq
        exact ((HLE.out o h5).2 _ h6).2.1
      have HC := Lib.hid (distinct_any w1.heap.size w1.heap.size xs.length _ l w2 hb2.size (by omega) hlp (by omega) hOw hA hDs hlen)
      have HF := Lib.hid hfin
      have hz2 := hb2.size
      clear hnm hlen hA hDs hfin
      go_wp2_with (go_at_call 49; refine HC.out.mono ?_; rintro e w3 ⟨g3, k3, l3, rfl, hg3, hQ3, hnm3, hA3, hD3, hb3⟩)
      go_ret
      exact ⟨g3, k3, l3, rfl, by omega, hQ3, by rw [HF.out]; exact hnm3, hA3.mono (by omega) (Nat.le_refl _), hD3, hb0.trans ((hb2.trans hb3).mono (by omega))⟩
/-- The results of a roll and their code. -/
def rsC (p c h s : Int) (xs : List Int) (ra rb : Int) : Int := if bcE p c h s xs = 0 then (if rlB s ra rb = true then 0 else 2) else bcE p c h s xs
def rsL (p c h s : Int) (xs : List Int) (ra rb : Int) : List (List Int) := if rsC p c h s xs ra rb = 0 then resI xs (ordersP ra rb) else []
/-- A list of positions and a code are handed back. -/
def RowsGotC (L : List (List Int)) (code : Int) (w : World) (e : Ending) (w' : World) : Prop :=
  ∃ a k l, e = .returned (.tuple #[.slice a l.length k, .int .i64 code]) ∧ ((l = [] ∧ a = none) ∨ ∃ g, a = some ⟨g, 0, none⟩ ∧ w.heap.size ≤ g ∧ QRow w' g l) ∧ nmQ l = L ∧ QAll w.heap.size w'.heap.size w' l ∧ QDis l ∧ Below w.heap.size w w'
theorem okP_PO {p c h s : Int} {xs : List Int} (g : okP p c h s xs = true) : PO xs.length xs ∧ 1 ≤ xs.length ∧ xs.length ≤ 24 := by
  have q := okP_parts g
  exact ⟨⟨fun x hx => (q.2.2.1 x hx).1, rfl, by omega⟩, by omega, by omega⟩
theorem rlB_parts {s ra rb : Int} (g : rlB s ra rb = true) (hs : s ≤ 6) : 1 ≤ rb ∧ rb ≤ ra ∧ ra ≤ 6 := by
  rw [rlB_in] at g
  simp [inB] at g
  omega
set_option maxRecDepth 8000 in
set_option maxHeartbeats 1000000 in
theorem implBearoffResults_any (p c h s : Int) (a : Option Addr) (n cap : Nat) (xs : List Int) (ra rb : Int) (w : World) (hn : xs.length = n) (hle : n ≤ 1048576) (hr : IRow w a xs) :
    Calls Try.prog 9 #[.agg #[.int .i64 p, .int .i64 c, .int .i64 h, .int .i64 s], .slice a n cap, .agg #[.int .i64 ra, .int .i64 rb]] w (RowsGotC (rsL p c h s xs ra rb) (rsC p c h s xs ra rb) w) := by
  subst hn
  obtain ⟨BV, BQ, hb, hz⟩ := two_new w #[.int .i64 p, .int .i64 c, .int .i64 h, .int .i64 s] #[.int .i64 ra, .int .i64 rb] 25 28
  have hB := fun W (r : IRow W a xs) => bearoffCode_any p c h s a xs.length cap xs W rfl hle r
  have hH := fun W => hasRoll_any p c h s ra rb W
  replace hr := hr.below hb
  by_cases z : bcE p c h s xs = 0
  · rw [z] at hB
    cases q : rlB s ra rb with
    | false =>
      have e1 : rsC p c h s xs ra rb = 2 := by simp [rsC, z, q]
      have e2 : rsL p c h s xs ra rb = [] := by simp [rsL, e1]
      rw [e1, e2]
      rw [q] at hH
      have HB := Lib.hid hB
      have HH := Lib.hid hH
      clear hB hH z q e1 e2
      obtain ⟨x0, x1, x2, x3, xf, xl⟩ := BV.four; obtain ⟨z0, z1, zf, zl⟩ := BQ.two
      go_enter Try.func9, Try.ntmps9
      go_wp2_with (first | (go_at_call 32; refine (HB.out _ hr).mono ?_; rintro e w2 ⟨rfl, hb2⟩; clear x0 x1 x2 x3 xf xl z0 z1 zf zl; replace BV := BV.below hb2; replace BQ := BQ.below hb2; replace hr := hr.below hb2; replace hb := chain hb hb2; clear hb2; obtain ⟨x0, x1, x2, x3, xf, xl⟩ := BV.four; obtain ⟨z0, z1, zf, zl⟩ := BQ.two) | (go_at_call 33; refine (HH.out _).mono ?_; rintro e w3 ⟨rfl, hb3⟩; clear x0 x1 x2 x3 xf xl z0 z1 zf zl; replace BV := BV.below hb3; replace BQ := BQ.below hb3; replace hr := hr.below hb3; replace hb := chain hb hb3; clear hb3; obtain ⟨x0, x1, x2, x3, xf, xl⟩ := BV.four; obtain ⟨z0, z1, zf, zl⟩ := BQ.two))
      go_ret2
      exact ⟨none, 0, [], rfl, .inl ⟨rfl, rfl⟩, rfl, QAll.nil _ _ _, QDis.nil, hb⟩
    | true =>
      have e1 : rsC p c h s xs ra rb = 0 := by simp [rsC, z, q]
      have e2 : rsL p c h s xs ra rb = resI xs (ordersP ra rb) := by simp [rsL, e1]
      rw [e1, e2]
      rw [q] at hH
      have g := okP_of z
      have hs6 : s ≤ 6 := by
        have : vB p c h s = true := by simp only [okP, Bool.and_eq_true] at g; exact g.1
        have := vB_iff.1 this
        omega
      obtain ⟨k1, k2, k3⟩ := okP_PO g
      obtain ⟨j1, j2, j3⟩ := rlB_parts q hs6
      have HB := Lib.hid hB
      have HH := Lib.hid hH
      have HR := Lib.hid (fun W (r : IRow W a xs) => bearoffResultsM_any a xs.length cap xs ra rb W rfl k2 k3 k1 j1 j2 j3 r)
      clear hB hH z q e1 e2 g hs6 k1 k2 k3 j1 j2 j3
      obtain ⟨x0, x1, x2, x3, xf, xl⟩ := BV.four; obtain ⟨z0, z1, zf, zl⟩ := BQ.two
      go_enter Try.func9, Try.ntmps9
      go_wp2_with (first | (go_at_call 32; refine (HB.out _ hr).mono ?_; rintro e w2 ⟨rfl, hb2⟩; clear x0 x1 x2 x3 xf xl z0 z1 zf zl; replace BV := BV.below hb2; replace BQ := BQ.below hb2; replace hr := hr.below hb2; replace hb := chain hb hb2; clear hb2; obtain ⟨x0, x1, x2, x3, xf, xl⟩ := BV.four; obtain ⟨z0, z1, zf, zl⟩ := BQ.two) | (go_at_call 33; refine (HH.out _).mono ?_; rintro e w3 ⟨rfl, hb3⟩; clear x0 x1 x2 x3 xf xl z0 z1 zf zl; replace BV := BV.below hb3; replace BQ := BQ.below hb3; replace hr := hr.below hb3; replace hb := chain hb hb3; clear hb3; obtain ⟨x0, x1, x2, x3, xf, xl⟩ := BV.four; obtain ⟨z0, z1, zf, zl⟩ := BQ.two) | (go_at_call 34; refine (HR.out _ hr).mono ?_; rintro e w5 ⟨g5, k5, l5, rfl, hg5, hQ5, hnm5, hA5, hD5, hb5⟩))
      go_ret2
      have hz5 := hb.size
      exact ⟨_, k5, l5, rfl, .inr ⟨g5, rfl, by omega, hQ5⟩, hnm5, hA5.mono (by omega) (Nat.le_refl _), hD5, chain hb hb5⟩
  · have e1 : rsC p c h s xs ra rb = bcE p c h s xs := by rw [rsC, if_neg z]
    have e2 : rsL p c h s xs ra rb = [] := by rw [rsL, if_neg (by rw [e1]; exact z)]
    rw [e1, e2]
    obtain ⟨C, hC⟩ : ∃ C, bcE p c h s xs = C := ⟨_, rfl⟩
    rw [hC] at hB z ⊢
    have f0 : (C != 0) = true := by rw [bne_iff_ne]; exact z
    have HB := Lib.hid hB
    clear hB hH hC z e1 e2
    obtain ⟨x0, x1, x2, x3, xf, xl⟩ := BV.four; obtain ⟨z0, z1, zf, zl⟩ := BQ.two
    go_enter Try.func9, Try.ntmps9
    go_wp2_with (first | (go_at_call 32; refine (HB.out _ hr).mono ?_; rintro e w2 ⟨rfl, hb2⟩; clear x0 x1 x2 x3 xf xl z0 z1 zf zl; replace BV := BV.below hb2; replace BQ := BQ.below hb2; replace hr := hr.below hb2; replace hb := chain hb hb2; clear hb2; obtain ⟨x0, x1, x2, x3, xf, xl⟩ := BV.four; obtain ⟨z0, z1, zf, zl⟩ := BQ.two))
    go_ret2
    exact ⟨none, 0, [], rfl, .inl ⟨rfl, rfl⟩, rfl, QAll.nil _ _ _, QDis.nil, hb⟩
end Go.Proofs.Ytpalokkcmpjcmaa
