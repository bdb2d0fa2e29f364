/- Texts of a proof, laid together. -/
import Derived.Test.YtfomfbfcnenhbaaGreatV07
import Derived.Test.YtfomfbfcnenhbaaGreatV25
import Derived.Test.YtfomfbfcnenhbaaGreatV06
import Derived.Test.YtfomfbfcnenhbaaGreatV04
import Derived.Test.YtfomfbfcnenhbaaGreatV12
namespace Go.Proofs.YtfomfbfcnenhbaaGreat
set_option maxRecDepth 8000
set_option linter.unusedVariables false
set_option linter.unusedSimpArgs false
def LexLt : List Nat → List Nat → Prop
  | x :: xs, y :: ys => x < y ∨ (x = y ∧ LexLt xs ys)
  | _, _ => False
theorem lex_pre {a b : Nat} (h : a < b) (A A' : List Nat) : ∀ B : List Nat, LexLt (B ++ a :: A) (B ++ b :: A')
  | [] => .inl h
  | x :: B => .inr ⟨rfl, lex_pre h A A' B⟩
theorem lex_num : ∀ (xs ys : List Nat) (l : Nat), xs.length = ys.length → xs.sum ≤ l → ys.sum ≤ l → LexLt xs ys → numL xs l < numL ys l
  | [], _, _, _, _, _, h => by simp [LexLt] at h
  | x :: xs, [], _, h, _, _, _ => by simp at h
  | x :: xs, y :: ys, l, hl, h1, h2, h => by
    simp only [List.length_cons, List.sum_cons] at hl h1 h2
    have e : xs.length = ys.length := by omega
    rw [numL, numL, e]
    rcases h with h | ⟨rfl, h⟩
    · have a1 := blk_mono ys.length l h
      have a2 := numL_lt xs (l - x) (by omega)
      rw [e] at a2
      omega
    · have := lex_num xs ys (l - x) e (by omega) (by omega) h
      omega
theorem split_at {α : Type} {l : List α} {i : Nat} {x : α} (h : l[i]? = some x) : l = l.take i ++ x :: l.drop (i + 1) := by
  obtain ⟨hi, rfl⟩ := List.getElem?_eq_some_iff.1 h
  rw [← List.drop_eq_getElem_cons hi, List.take_append_drop]
theorem nats_len (l : List Int) : (nats l).length = l.length := by simp [nats]
theorem numb_step {p : List Int} {i : Nat} {d : Int} {C : Nat} (h : NN p) (hi : i < p.length) (h0 : 0 < p.getD i 0) (hd : 1 ≤ d) (hs : (nats p).sum ≤ C) (hz : (nats (asL p i d)).sum ≤ C) : bnN (nats (asL p i d)) C < bnN (nats p) C := by
  have hl := asL_len p i d
  have hzi : (asL p i d)[i]? = some (p.getD i 0 - 1) := by
    have hq : (p.set i (p.getD i 0 - 1))[i]? = some (p.getD i 0 - 1) := by rw [List.getElem?_set_self hi]
    unfold asL
    split
    · rw [List.getElem?_set_ne (by omega)]
      exact hq
    · exact hq
  have hdr : (asL p i d).drop (i + 1) = p.drop (i + 1) := by
    apply List.ext_getElem?
    intro j
    rw [List.getElem?_drop, List.getElem?_drop]
    unfold asL
    split
    · rw [List.getElem?_set_ne (by omega), List.getElem?_set_ne (by omega)]
    · rw [List.getElem?_set_ne (by omega)]
  have hpi : p[i]? = some (p.getD i 0) := by
    rw [List.getD_eq_getElem?_getD, List.getElem?_eq_getElem hi]
    rfl
  unfold bnN
  refine lex_num _ _ _ (by simp [nats_len, hl]) (by rw [List.sum_reverse]; exact hz) (by rw [List.sum_reverse]; exact hs) ?_
  have e1 : (nats (asL p i d)).reverse = (nats (p.drop (i + 1))).reverse ++ (p.getD i 0 - 1).toNat :: (nats ((asL p i d).take i)).reverse := by
    conv => lhs; rw [split_at hzi, nats_app, nats_cons, hdr]
    simp
  have e2 : (nats p).reverse = (nats (p.drop (i + 1))).reverse ++ (p.getD i 0).toNat :: (nats (p.take i)).reverse := by
    conv => lhs; rw [split_at hpi, nats_app, nats_cons]
    simp
  rw [e1, e2]
  exact lex_pre (by omega) _ _ _
theorem nats_le {p : List Int} {c : Int} (h : NN p) (hs : p.sum ≤ c) : (nats p).sum ≤ c.toNat := by
  have := nats_sum p h
  omega
theorem num_die {p z : List Int} {d c : Int} (h : NN p) (hd : 1 ≤ d) (hs : p.sum ≤ c) (hz : z ∈ adL p d) : bnN (nats z) c.toNat ≤ bnN (nats p) c.toNat := by
  have hf := adL_facts h hd hz
  have hp := adL_pips h hd hz
  by_cases e : p.sum = 0
  · rw [adL_zero h e] at hz
    simp at hz
    subst hz
    exact Nat.le_refl _
  · obtain ⟨i, hi, h0, hok, rfl⟩ := (steps_mem h).1 ((adL_mem h e z).1 hz)
    exact Nat.le_of_lt (numb_step h hi h0 hd (nats_le h hs) (nats_le hf.1 (by omega)))
theorem num_dice {c : Int} : ∀ {ds : List Int} {p z : List Int}, NN p → (∀ d ∈ ds, 1 ≤ d) → p.sum ≤ c → RM ds p z → bnN (nats z) c.toNat ≤ bnN (nats p) c.toNat
  | [], p, z, _, _, _, e => by rw [RM] at e; subst e; exact Nat.le_refl _
  | d :: ds, p, z, h, hd, hs, ⟨q, h1, h2⟩ => by
    have a := num_die h (hd d (by simp)) hs h1
    have b := adL_pips h (hd d (by simp)) h1
    have hq : q.sum ≤ c := by have := b.2.2.1; omega
    have e := num_dice (p := q) (z := z) (adL_facts h (hd d (by simp)) h1).1 (fun x hx => hd x (by simp [hx])) hq h2
    omega
def nm (c : Int) (xs : List Int) : Nat := bnN (nats xs) c.toNat
def Ps (p c h s : Int) (xs : List Int) : Prop := okP p c h s xs = true
theorem Ps.po {p c h s : Int} {xs : List Int} (g : Ps p c h s xs) : PO h.toNat xs ∧ 1 ≤ h.toNat ∧ h.toNat ≤ 24 ∧ xs.length = h.toNat ∧ xs.sum ≤ c ∧ 1 ≤ c ∧ c ≤ 15 ∧ (h.toNat : Int) = h := by
  have q := okP_PO g
  have r := okP_parts g
  have e : xs.length = h.toNat := by omega
  rw [e] at q
  exact ⟨q.1, q.2.1, q.2.2, e, r.2.2.2.1, by omega, by omega, by omega⟩
theorem Ps.res {p c h s : Int} {xs : List Int} (g : Ps p c h s xs) {r : Rl} (r1 : 1 ≤ r.2) (r2 : r.2 ≤ r.1) (r3 : r.1 ≤ 6) : ∀ z ∈ resI xs (ordersP r.1 r.2), Ps p c h s z ∧ nm c z ≤ nm c xs ∧ pwT z ≤ pwT xs ∧ (xs.sum ≠ 0 → pwT z < pwT xs) := fun z hz => by
  obtain ⟨a1, a2, a3, a4, a5, a6, a7, a8⟩ := g.po
  obtain ⟨o1, o2, o3⟩ := orders_in r1 r2 r3
  have hp := resI_pips a1 r1 r2 r3 z hz
  have hz1 := resI_PO a2 a3 a1 r1 r2 r3 z hz
  obtain ⟨o, ho, hm⟩ := ((resI_facts (p := xs) (os := ordersP r.1 r.2) a1.1 (fun o ho d hd => ((o3 o ho).2.2 d hd).1)).2.1 z).1 hz
  refine ⟨okP_iff.2 ⟨(okP_iff.1 g).1, by have := hz1.2.1; omega, fun x hx => ⟨hz1.1 x hx, ?_⟩, by omega⟩, num_dice a1.1 (fun d hd => ((o3 o ho).2.2 d hd).1) a5 hm, hp.1, hp.2.2.2⟩
  obtain ⟨j, hj, rfl⟩ := List.mem_iff_getElem.1 hx
  have := sum_ge hz1.1 j
  rw [List.getD_eq_getElem?_getD, List.getElem?_eq_getElem hj] at this
  simp at this
  omega
theorem nats_inj : ∀ {xs ys : List Int}, NN xs → NN ys → nats xs = nats ys → xs = ys
  | [], [], _, _, _ => rfl
  | [], y :: ys, _, _, h => by simp [nats] at h
  | x :: xs, [], _, _, h => by simp [nats] at h
  | x :: xs, y :: ys, h1, h2, h => by
    rw [nats_cons, nats_cons] at h
    injection h with a b
    have := h1.tail.1
    have := h2.tail.1
    rw [nats_inj h1.tail.2 h2.tail.2 b, show x = y by omega]
theorem nm_inj {p c h s : Int} {xs ys : List Int} (g : Ps p c h s xs) (k : Ps p c h s ys) (e : nm c xs = nm c ys) : xs = ys := by
  obtain ⟨a1, a2, a3, a4, a5, a6, a7, a8⟩ := g.po
  obtain ⟨b1, b2, b3, b4, b5, b6, b7, b8⟩ := k.po
  have := numL_inj (nats xs).reverse (nats ys).reverse c.toNat (by simp [nats_len, a4, b4]) (by rw [List.sum_reverse]; exact nats_le a1.1 a5) (by rw [List.sum_reverse]; exact nats_le b1.1 b5) e
  exact nats_inj a1.1 b1.1 (List.reverse_inj.1 this)
theorem nm_zero {p c h s : Int} {xs : List Int} (g : Ps p c h s xs) : nm c xs = 0 ↔ xs.sum = 0 := by
  obtain ⟨a1, a2, a3, a4, a5, a6, a7, a8⟩ := g.po
  have hz : ∀ ys : List Int, NN ys → ys.sum = 0 → nm c ys = 0 := fun ys h1 h2 => by
    have : ys = List.replicate ys.length 0 := List.eq_replicate_of_mem (fun x hx => zero_all h1 h2 x hx)
    unfold nm bnN
    rw [this, nats_zeros, List.reverse_replicate]
    exact numL_zeros _ _
  refine ⟨fun e => ?_, hz xs a1.1⟩
  have hN : NN (List.replicate h.toNat (0 : Int)) := fun x hx => by rw [(List.mem_replicate.1 hx).2]; exact Int.le_refl _
  have hs : (List.replicate h.toNat (0 : Int)).sum = 0 := by
    simp
  have k : Ps p c h s (List.replicate h.toNat 0) := okP_iff.2 ⟨(okP_iff.1 g).1, by rw [List.length_replicate]; exact a8, fun x hx => by rw [(List.mem_replicate.1 hx).2]; omega, by rw [hs]; omega⟩
  rw [nm_inj g k (by rw [e, hz _ hN hs]), hs]
theorem nm_lt {p c h s : Int} {xs : List Int} (g : Ps p c h s xs) : nm c xs < cnt h.toNat c.toNat := by
  obtain ⟨a1, a2, a3, a4, a5, a6, a7, a8⟩ := g.po
  have := bnN_lt (nats xs) c.toNat (nats_le a1.1 a5)
  rw [nats_len, a4] at this
  exact this
theorem nm_at {p c h s : Int} {xs : List Int} (g : Ps p c h s xs) (f : fewB c h = true) : (unrI h.toNat (nm c xs) c.toNat).reverse = xs := by
  obtain ⟨n, N, h1, h2, h3, h4, h5, h6, h7, h8, h9⟩ := numbers_law (xs := xs) g f
  have e : n = (nm c xs : Int) := by
    rw [← h1, bnI, if_pos ⟨g, f⟩]
    rfl
  rw [e] at h8
  unfold baL at h8
  split at h8
  · rw [Int.toNat_natCast] at h8
    exact h8
  · rename_i q
    rw [baE, if_pos (okP_iff.1 g).1, if_pos f] at h7
    split at h7
    · rename_i z
      rw [e] at z
      exact absurd ⟨(okP_iff.1 g).1, f, z⟩ q
    · omega
end Go.Proofs.YtfomfbfcnenhbaaGreat
namespace Go.Proofs.YtfomfbfcnenhbaaGreat
open Go.ChangeShapes Go.WideShapes Go.ChangeAt Go.RowKit
set_option linter.unusedVariables false
set_option linter.unusedSimpArgs false
set_option maxRecDepth 4000
theorem Blk.five {w : World} {g : Nat} {v0 v1 v2 v3 v4 : Value} {t : TypeId} (h : Blk w g #[v0, v1, v2, v3, v4] t) :
    w.cell? ⟨g, 0, none⟩ = some v0 ∧ w.cell? ⟨g, 1, none⟩ = some v1 ∧ w.cell? ⟨g, 2, none⟩ = some v2 ∧ w.cell? ⟨g, 3, none⟩ = some v3 ∧ w.cell? ⟨g, 4, none⟩ = some v4 ∧ (∀ i, w.frozen? ⟨g, i, none⟩ = false) ∧ g < w.heap.size :=
  ⟨by rw [h.cell 0]; rfl, by rw [h.cell 1]; rfl, by rw [h.cell 2]; rfl, by rw [h.cell 3]; rfl, by rw [h.cell 4]; rfl, fun i => h.free i, h.lt⟩
theorem WaysAt.far5 {w : World} {g : Nat} (h : WaysAt w g) (B : Nat) (hne : g ≠ B) (u0 u1 u2 u3 u4 : Value) : WaysAt (((((w.setCell ⟨B, 0, none⟩ u0).setCell ⟨B, 1, none⟩ u1).setCell ⟨B, 2, none⟩ u2).setCell ⟨B, 3, none⟩ u3).setCell ⟨B, 4, none⟩ u4) g :=
  TabN.other (TabN.other (TabN.other (TabN.other (TabN.other h hne) hne) hne) hne) hne
set_option maxRecDepth 8000 in
set_option maxHeartbeats 1000000 in
theorem numberTable_any (p c h s : Int) (w : World) :
    Calls Tryz.prog 92 #[.agg #[.int .i64 p, .int .i64 c, .int .i64 h, .int .i64 s]] w fun e w' => ∃ gw, e = .returned (.agg #[.int .i64 p, .int .i64 c, .int .i64 h, .int .i64 s, .pointer (some ⟨gw, 0, none⟩)]) ∧ w.heap.size ≤ gw ∧ WaysAt w' gw ∧ Below w.heap.size w w' := by
  obtain ⟨BV, BZ, hb, hz⟩ := two_new w #[.int .i64 p, .int .i64 c, .int .i64 h, .int .i64 s] #[.int .i64 0, .int .i64 0, .int .i64 0, .int .i64 0, .pointer none] 25 78
  have hz0 : w.heap.size + 1 < ((w.alloc (.cells #[.int .i64 p, .int .i64 c, .int .i64 h, .int .i64 s] 25)).alloc (.cells #[.int .i64 0, .int .i64 0, .int .i64 0, .int .i64 0, .pointer none] 78)).heap.size := by rw [hz]; omega
  clear hz
  go_enter Tryz.func92, Tryz.ntmps92
  go_wp2_with fail
  generalize ((w.alloc (.cells #[.int .i64 p, .int .i64 c, .int .i64 h, .int .i64 s] 25)).alloc (.cells #[.int .i64 0, .int .i64 0, .int .i64 0, .int .i64 0, .pointer none] 78)) = w1 at *
  have hd_ : w1.drew.heap.size = w1.heap.size := rfl
  replace BV := BV.drew
  replace BZ := BZ.drew
  replace hb := hb.drew
  refine wp_region_held_drew (S := fun w' => w'.cell? ⟨w.heap.size, 0, none⟩ = some (.int .i64 p) ∧ w'.cell? ⟨w.heap.size, 1, none⟩ = some (.int .i64 c) ∧ w'.cell? ⟨w.heap.size, 2, none⟩ = some (.int .i64 h) ∧ w'.cell? ⟨w.heap.size, 3, none⟩ = some (.int .i64 s)) (by kernel_rfl) ⟨BV.four.1, BV.four.2.1, BV.four.2.2.1, BV.four.2.2.2.1⟩ (fun hHeld => ?_)
  clear hHeld
  generalize w1.drew = vd at *
  have hHeld : vd.cell? ⟨w.heap.size, 0, none⟩ = some (.int .i64 p) ∧ vd.cell? ⟨w.heap.size, 1, none⟩ = some (.int .i64 c) ∧ vd.cell? ⟨w.heap.size, 2, none⟩ = some (.int .i64 h) ∧ vd.cell? ⟨w.heap.size, 3, none⟩ = some (.int .i64 s) := ⟨BV.four.1, BV.four.2.1, BV.four.2.2.1, BV.four.2.2.2.1⟩
  refine wpAnyH_take (i := 0) (oi := ⟨some 3, _, _, _, _, _⟩) (v := ?_) rfl (by kernel_rfl) (by kernel_rfl) (by kernel_rfl) (fun _ _ _ h => h) (Or.inl ⟨by rfl, ?_⟩) (by assumption) ?_
  rotate_left
  · intro w hSw; (try dsimp only at hSw); go_simp; (try (with_reducible rfl))
  try simp only [Act.put, List.setIfInBounds_toArray, List.set_cons_zero, List.set_cons_succ]
  refine wpAnyH_ready (rs := [1]) (by kernel_rfl) (by simp) ?_
  refine AllReadyH.cons (o := ⟨some 4, _, _, _, _, _⟩) rfl (fun K hK => ?_) AllReadyH.nil
  go_simp
  refine (countWays_any _).mono ?_
  rintro e w2 ⟨gw, rfl, hg, hW, hb2⟩
  have hz2 := hb2.size
  replace BV := BV.below hb2
  replace BZ := BZ.below hb2
  replace hb := chain hb hb2
  clear hb2
  (try go_wp2_with fail)
  refine hK.out _ _ ⟨BV.four.1, BV.four.2.1, BV.four.2.2.1, BV.four.2.2.2.1⟩ (fun hHeld => ?_)
  clear hK K
  try simp only [Act.put, List.setIfInBounds_toArray, List.set_cons_zero, List.set_cons_succ]
  refine wpAnyH_take (i := 2) (oi := ⟨some 5, _, _, _, _, _⟩) (v := ?_) rfl (by kernel_rfl) (by kernel_rfl) (by kernel_rfl) (fun _ _ _ h => h) (Or.inl ⟨by rfl, ?_⟩) (by assumption) ?_
  rotate_left
  · intro w hSw; (try dsimp only at hSw); go_simp; (try (with_reducible rfl))
  try simp only [Act.put, List.setIfInBounds_toArray, List.set_cons_zero, List.set_cons_succ]
  refine wpAnyH_ready (rs := [3]) (by kernel_rfl) (by simp) ?_
  refine AllReadyH.cons (o := ⟨none, _, _, _, _, _⟩) rfl (fun K hK => ?_) AllReadyH.nil
  have z0 := BZ.five.1
  have z1 := BZ.five.2.1
  have z2 := BZ.five.2.2.1
  have z3 := BZ.five.2.2.2.1
  have z4 := BZ.five.2.2.2.2.1
  have zf := BZ.five.2.2.2.2.2.1
  have zl := BZ.five.2.2.2.2.2.2
  go_simp
  (try go_wp2_with fail)
  refine hK.out _ _ ⟨(((((BV.other (by omega)).other (by omega)).other (by omega)).other (by omega)).other (by omega)).four.1, (((((BV.other (by omega)).other (by omega)).other (by omega)).other (by omega)).other (by omega)).four.2.1, (((((BV.other (by omega)).other (by omega)).other (by omega)).other (by omega)).other (by omega)).four.2.2.1, (((((BV.other (by omega)).other (by omega)).other (by omega)).other (by omega)).other (by omega)).four.2.2.2.1⟩ (fun hHeld => ?_)
  clear hK K
  try simp only [Act.put, List.setIfInBounds_toArray, List.set_cons_zero, List.set_cons_succ]
  refine wpAnyH_done (by kernel_rfl) ?_ _
  clear hHeld
  go_wp2_with fail
  have BZn := (((((BZ.set (i := 0) (.int .i64 p)).set (i := 1) (.int .i64 c)).set (i := 2) (.int .i64 h)).set (i := 3) (.int .i64 s)).set (i := 4) (.pointer (some ⟨gw, 0, none⟩)))
  simp only [List.setIfInBounds_toArray, List.set_cons_zero, List.set_cons_succ] at BZn
  obtain ⟨t0, t1, t2, t3, t4, tf, tl⟩ := BZn.five
  have hWn : WaysAt _ gw := WaysAt.far5 hW (w.heap.size + 1) (by omega) (.int .i64 p) (.int .i64 c) (.int .i64 h) (.int .i64 s) (.pointer (some ⟨gw, 0, none⟩))
  have hbn := (((((hb.setCell (p := ⟨(w.heap.size + 1), 0, none⟩) (by dsimp only; omega) (.int .i64 p)).setCell (p := ⟨(w.heap.size + 1), 1, none⟩) (by dsimp only; omega) (.int .i64 c)).setCell (p := ⟨(w.heap.size + 1), 2, none⟩) (by dsimp only; omega) (.int .i64 h)).setCell (p := ⟨(w.heap.size + 1), 3, none⟩) (by dsimp only; omega) (.int .i64 s)).setCell (p := ⟨(w.heap.size + 1), 4, none⟩) (by dsimp only; omega) (.pointer (some ⟨gw, 0, none⟩)))
  refine bodyPost_ret (v := .agg #[.int .i64 p, .int .i64 c, .int .i64 h, .int .i64 s, .pointer (some ⟨gw, 0, none⟩)]) (by simp [results, Tryz.results92, go_sem, t0, t1, t2, t3, t4]) rfl ?_
  exact ⟨gw, rfl, by omega, hWn, hbn⟩
set_option maxHeartbeats 1000000 in
theorem numOf_any (p c h s : Int) (gw : Nat) (a : Option Addr) (n cap : Nat) (xs : List Int) (w : World) (g : Ps p c h s xs) (hn : xs.length = n) (hr : IRow w a xs) (hw : WaysAt w gw) :
    Calls Tryz.prog 52 #[.agg #[.int .i64 p, .int .i64 c, .int .i64 h, .int .i64 s, .pointer (some ⟨gw, 0, none⟩)], .slice a n cap] w fun e w' => e = .returned (.int .i64 (nm c xs)) ∧ Below w.heap.size w w' := by
  have BN := Blk.new w #[.int .i64 p, .int .i64 c, .int .i64 h, .int .i64 s, .pointer (some ⟨gw, 0, none⟩)] 78
  have hb : Below w.heap.size w (w.alloc (.cells #[.int .i64 p, .int .i64 c, .int .i64 h, .int .i64 s, .pointer (some ⟨gw, 0, none⟩)] 78)) := (Below.refl _ _).alloc (Nat.le_refl _) _
  obtain ⟨a1, a2, a3, a4, a5, a6, a7, a8⟩ := g.po
  have hvs := okP_v g
  obtain ⟨s1, s2, s3⟩ := side_nats hvs.2 (by omega)
  have hK := fun W (r : IRow W a xs) (q : WaysAt W gw) => bearoffNumberM_any p h s c.toNat gw a n cap (nats xs) xs W (by omega) (by omega) (by omega) hn (by omega) s2 s3 r q
  rw [show ((c.toNat : Nat) : Int) = c by omega] at hK
  have hN : bnN (nats xs) c.toNat = nm c xs := rfl
  rw [hN] at hK
  obtain ⟨K, hKK⟩ : ∃ K, nm c xs = K := ⟨_, rfl⟩
  rw [hKK] at hK ⊢
  replace hr := hr.below hb
  replace hw := hw.below hb
  have HK := Lib.hid hK
  clear hK hN hKK s1 s2 s3 hvs a1 a2 a3 a4 a5 a6 a7 a8 g hn
  obtain ⟨x0, x1, x2, x3, x4, xf, xl⟩ := BN.five
  go_enter Tryz.func52, Tryz.ntmps52
  go_wp2_with (go_at_call 97; refine (HK.out _ hr hw).mono ?_; rintro e w1 ⟨rfl, hb1⟩)
  go_ret
  exact ⟨rfl, chain hb hb1⟩
set_option maxHeartbeats 1000000 in
theorem posAt_any (p c h s : Int) (gw : Nat) (xs : List Int) (K : Nat) (w : World) (g : Ps p c h s xs) (f : fewB c h = true) (hK : nm c xs = K) (hw : WaysAt w gw) :
    Calls Tryz.prog 66 #[.agg #[.int .i64 p, .int .i64 c, .int .i64 h, .int .i64 s, .pointer (some ⟨gw, 0, none⟩)], .int .i64 K] w fun e w' => ∃ gL, e = .returned (.slice (some ⟨gL, 0, none⟩) xs.length xs.length) ∧ w.heap.size ≤ gL ∧ Row w' gL xs ∧ Below w.heap.size w w' := by
  have BN := Blk.new w #[.int .i64 p, .int .i64 c, .int .i64 h, .int .i64 s, .pointer (some ⟨gw, 0, none⟩)] 78
  have hb : Below w.heap.size w (w.alloc (.cells #[.int .i64 p, .int .i64 c, .int .i64 h, .int .i64 s, .pointer (some ⟨gw, 0, none⟩)] 78)) := (Below.refl _ _).alloc (Nat.le_refl _) _
  obtain ⟨a1, a2, a3, a4, a5, a6, a7, a8⟩ := g.po
  have hA := fun W (q : WaysAt W gw) => bearoffAtM_any p s c.toNat h.toNat K gw W (by omega) (by omega) (by omega) (by rw [← hK]; exact nm_lt g) q
  rw [show ((c.toNat : Nat) : Int) = c by omega, show ((h.toNat : Nat) : Int) = h by omega, ← hK, nm_at g f, ← a4] at hA
  rw [hK] at hA
  replace hw := hw.below hb
  have HA := Lib.hid hA
  have hz := hb.size
  clear hA a1 a2 a3 a4 a5 a6 a7 a8 g f hK
  obtain ⟨x0, x1, x2, x3, x4, xf, xl⟩ := BN.five
  go_enter Tryz.func66, Tryz.ntmps66
  go_wp2_with (go_at_call 114; refine (HA.out _ hw).mono ?_; rintro e w1 ⟨gL, rfl, hg, hR, hb1⟩)
  go_ret
  exact ⟨gL, rfl, by omega, hR, chain hb hb1⟩
set_option maxRecDepth 8000 in
theorem or64_any (g : Nat) (q r : Int) (w : World) (HB : Blk w g #[.int .i64 q, .int .i64 r] 2) :
    Calls Tryz.prog 76 #[.slice (some ⟨g, 0, none⟩) 2 2] w fun e w' => e = .returned (.int .i64 (if q ≠ 0 then q else r)) ∧ w = w' := by
  obtain ⟨x0, x1, xf, xl⟩ := HB.two
  by_cases hq : q = 0
  · rw [if_neg (by simpa using hq)]
    have fq : (q != 0) = false := by rw [hq]; rfl
    by_cases hr : r = 0
    · subst hr
      clear hq
      go_enter Tryz.func76, Tryz.ntmps76
      go_wp2_with fail
      refine wp_loop_rounds 3 ?_
      rw [rounds_succ]; go_wp2
      rw [rounds_succ]; go_wp2
      rw [rounds_succ]; go_wp2
      go_ret
      exact ⟨rfl, rfl⟩
    · have fr : (r != 0) = true := by simpa using hr
      clear hq hr
      go_enter Tryz.func76, Tryz.ntmps76
      go_wp2_with fail
      refine wp_loop_rounds 2 ?_
      rw [rounds_succ]; go_wp2
      rw [rounds_succ]; go_wp2
      go_ret
      exact ⟨rfl, rfl⟩
  · rw [if_pos hq]
    have fq : (q != 0) = true := by simpa using hq
    clear hq
    go_enter Tryz.func76, Tryz.ntmps76
    go_wp2_with fail
    refine wp_loop_rounds 1 ?_
    rw [rounds_succ]; go_wp2
    go_ret
    exact ⟨rfl, rfl⟩
set_option maxRecDepth 8000 in
set_option maxHeartbeats 1000000 in
theorem minus_any (xa xc ya yc : Int) (w : World) (hd : -9223372036854775808 ≤ xa - ya ∧ xa - ya ≤ 9223372036854775807) :
    Calls Tryz.prog 71 #[.agg #[.int .i64 xa, .int .i64 xc], .agg #[.int .i64 ya, .int .i64 yc]] w fun e w' => e = .returned (.agg #[.int .i64 (xa - ya), .int .i64 (if xc ≠ 0 then xc else yc)]) ∧ Below w.heap.size w w' := by
  obtain ⟨BX, BY, BZ, hb, hz⟩ := three_new w #[.int .i64 xa, .int .i64 xc] #[.int .i64 ya, .int .i64 yc] #[.int .i64 0, .int .i64 0] 73 73 73
  have hz0 : w.heap.size + 1 + 1 < (((w.alloc (.cells #[.int .i64 xa, .int .i64 xc] 73)).alloc (.cells #[.int .i64 ya, .int .i64 yc] 73)).alloc (.cells #[.int .i64 0, .int .i64 0] 73)).heap.size := by rw [hz]; omega
  clear hz
  have wz : IntKind.i64.wrap (xa - ya) = xa - ya := IntWalk.i64_in _ (by omega)
  have hO := fun W g (HB : Blk W g #[.int .i64 xc, .int .i64 yc] 2) => or64_any g xc yc W HB
  obtain ⟨C, hC⟩ : ∃ C, (if xc ≠ 0 then xc else yc) = C := ⟨_, rfl⟩
  rw [hC] at hO ⊢
  have HO := Lib.hid (fun (W : World) (HB : Blk (W.alloc (.cells #[.int .i64 xc, .int .i64 yc] 2)) W.heap.size #[.int .i64 xc, .int .i64 yc] 2) => hO _ _ HB)
  have HW := Lib.hid wz
  clear hO hC hd wz
  obtain ⟨x0, x1, xf, xl⟩ := BX.two
  obtain ⟨y0, y1, yf, yl⟩ := BY.two
  go_enter Tryz.func71, Tryz.ntmps71
  go_wp2_with fail
  clear x0 x1 xf xl y0 y1 yf yl
  generalize (((w.alloc (.cells #[.int .i64 xa, .int .i64 xc] 73)).alloc (.cells #[.int .i64 ya, .int .i64 yc] 73)).alloc (.cells #[.int .i64 0, .int .i64 0] 73)) = w1 at *
  replace BX := BX.drew
  replace BY := BY.drew
  replace BZ := BZ.drew
  replace hb := hb.drew
  refine wp_region_held_drew (S := fun w' => w'.cell? ⟨w.heap.size, 0, none⟩ = some (.int .i64 xa) ∧ w'.cell? ⟨w.heap.size, 1, none⟩ = some (.int .i64 xc) ∧ w'.cell? ⟨w.heap.size + 1, 0, none⟩ = some (.int .i64 ya) ∧ w'.cell? ⟨w.heap.size + 1, 1, none⟩ = some (.int .i64 yc)) (by kernel_rfl) ⟨BX.two.1, BX.two.2.1, BY.two.1, BY.two.2.1⟩ (fun hHeld => ?_)
  clear hHeld
  generalize w1.drew = vd at *
  have hHeld : vd.cell? ⟨w.heap.size, 0, none⟩ = some (.int .i64 xa) ∧ vd.cell? ⟨w.heap.size, 1, none⟩ = some (.int .i64 xc) ∧ vd.cell? ⟨w.heap.size + 1, 0, none⟩ = some (.int .i64 ya) ∧ vd.cell? ⟨w.heap.size + 1, 1, none⟩ = some (.int .i64 yc) := ⟨BX.two.1, BX.two.2.1, BY.two.1, BY.two.2.1⟩
  refine wpAnyH_take (i := 0) (oi := ⟨some 5, _, _, _, _, _⟩) (v := ?_) rfl (by kernel_rfl) (by kernel_rfl) (by kernel_rfl) (fun _ _ _ h => h) (Or.inl ⟨by rfl, ?_⟩) (by assumption) ?_
  rotate_left
  · intro w hSw; (try dsimp only at hSw); go_simp; (try (with_reducible rfl))
  try simp only [Act.put, List.setIfInBounds_toArray, List.set_cons_zero, List.set_cons_succ]
  refine wpAnyH_take (i := 1) (oi := ⟨some 6, _, _, _, _, _⟩) (v := ?_) rfl (by kernel_rfl) (by kernel_rfl) (by kernel_rfl) (fun _ _ _ h => h) (Or.inl ⟨by rfl, ?_⟩) (by assumption) ?_
  rotate_left
  · intro w hSw; (try dsimp only at hSw); go_simp; (try (with_reducible rfl))
  try simp only [Act.put, List.setIfInBounds_toArray, List.set_cons_zero, List.set_cons_succ]
  refine wpAnyH_take (i := 2) (oi := ⟨some 7, _, _, _, _, _⟩) (v := ?_) rfl (by kernel_rfl) (by kernel_rfl) (by kernel_rfl) (fun _ _ _ h => h) (Or.inl ⟨by rfl, ?_⟩) (by assumption) ?_
  rotate_left
  · intro w hSw; (try dsimp only at hSw); go_simp; (try (with_reducible rfl))
  try simp only [Act.put, List.setIfInBounds_toArray, List.set_cons_zero, List.set_cons_succ]
  refine wpAnyH_take (i := 3) (oi := ⟨some 8, _, _, _, _, _⟩) (v := ?_) rfl (by kernel_rfl) (by kernel_rfl) (by kernel_rfl) (fun _ _ _ h => h) (Or.inl ⟨by rfl, ?_⟩) (by assumption) ?_
  rotate_left
  · intro w hSw; (try dsimp only at hSw); go_simp; (try (with_reducible rfl))
  try simp only [Act.put, List.setIfInBounds_toArray, List.set_cons_zero, List.set_cons_succ]
  refine wpAnyH_take (i := 4) (oi := ⟨some 9, _, _, _, _, _⟩) (v := ?_) rfl (by kernel_rfl) (by kernel_rfl) (by kernel_rfl) (fun _ _ _ h => h) (Or.inl ⟨by rfl, ?_⟩) (by assumption) ?_
  rotate_left
  · intro w hSw; (try dsimp only at hSw); go_simp; (try (with_reducible rfl))
  try simp only [Act.put, List.setIfInBounds_toArray, List.set_cons_zero, List.set_cons_succ]
  refine wpAnyH_take (i := 5) (oi := ⟨some 10, _, _, _, _, _⟩) (v := ?_) rfl (by kernel_rfl) (by kernel_rfl) (by kernel_rfl) (fun _ _ _ h => h) (Or.inl ⟨by rfl, ?_⟩) (by assumption) ?_
  rotate_left
  · intro w hSw; (try dsimp only at hSw); go_simp; (try (with_reducible rfl))
  try simp only [Act.put, List.setIfInBounds_toArray, List.set_cons_zero, List.set_cons_succ]
  refine wpAnyH_take (i := 6) (oi := ⟨some 11, _, _, _, _, _⟩) (v := ?_) rfl (by kernel_rfl) (by kernel_rfl) (by kernel_rfl) (fun _ _ _ h => h) (Or.inl ⟨by rfl, ?_⟩) (by assumption) ?_
  rotate_left
  · intro w hSw; (try dsimp only at hSw); go_simp; (try (with_reducible rfl))
  try simp only [Act.put, List.setIfInBounds_toArray, List.set_cons_zero, List.set_cons_succ]
  refine wpAnyH_take (i := 7) (oi := ⟨some 12, _, _, _, _, _⟩) (v := ?_) rfl (by kernel_rfl) (by kernel_rfl) (by kernel_rfl) (fun _ _ _ h => h) (Or.inl ⟨by rfl, ?_⟩) (by assumption) ?_
  rotate_left
  · intro w hSw; (try dsimp only at hSw); go_simp; (try (with_reducible rfl))
  try simp only [Act.put, List.setIfInBounds_toArray, List.set_cons_zero, List.set_cons_succ]
  refine wpAnyH_take (i := 8) (oi := ⟨some 13, _, _, _, _, _⟩) (v := ?_) rfl (by kernel_rfl) (by kernel_rfl) (by kernel_rfl) (fun _ _ _ h => h) (Or.inl ⟨by rfl, ?_⟩) (by assumption) ?_
  rotate_left
  · intro w hSw; (try dsimp only at hSw); go_simp; (try (with_reducible rfl))
  try simp only [Act.put, List.setIfInBounds_toArray, List.set_cons_zero, List.set_cons_succ]
  refine wpAnyH_ready (rs := [9]) (by kernel_rfl) (by simp) ?_
  refine AllReadyH.cons (o := ⟨some 14, _, _, _, _, _⟩) rfl (fun K hK => ?_) AllReadyH.nil
  go_simp
  (try go_wp2_with fail)
  refine hK.out _ _ ⟨(BX.alloc (.cells #[.int .i64 xc, .int .i64 yc] 2)).two.1, (BX.alloc (.cells #[.int .i64 xc, .int .i64 yc] 2)).two.2.1, (BY.alloc (.cells #[.int .i64 xc, .int .i64 yc] 2)).two.1, (BY.alloc (.cells #[.int .i64 xc, .int .i64 yc] 2)).two.2.1⟩ (fun hHeld => ?_)
  clear hK K
  try simp only [Act.put, List.setIfInBounds_toArray, List.set_cons_zero, List.set_cons_succ]
  refine wpAnyH_ready (rs := [10]) (by kernel_rfl) (by simp) ?_
  refine AllReadyH.cons (o := ⟨some 15, _, _, _, _, _⟩) rfl (fun K hK => ?_) AllReadyH.nil
  go_simp
  have B8 := Blk.new vd #[.int .i64 xc, .int .i64 yc] 2
  replace BX := BX.alloc (.cells #[.int .i64 xc, .int .i64 yc] 2)
  replace BY := BY.alloc (.cells #[.int .i64 xc, .int .i64 yc] 2)
  replace BZ := BZ.alloc (.cells #[.int .i64 xc, .int .i64 yc] 2)
  replace hb := hb.trans ((Below.refl _ _).alloc hb.size (.cells #[.int .i64 xc, .int .i64 yc] 2))
  have hsz := hb.size
  refine (HO.out _ B8).mono ?_
  rintro e wc ⟨rfl, rfl⟩
  (try go_wp2_with fail)
  refine hK.out _ _ ⟨BX.two.1, BX.two.2.1, BY.two.1, BY.two.2.1⟩ (fun hHeld => ?_)
  clear hK K
  try simp only [Act.put, List.setIfInBounds_toArray, List.set_cons_zero, List.set_cons_succ]
  refine wpAnyH_take (i := 11) (oi := ⟨some 16, _, _, _, _, _⟩) (v := ?_) rfl (by kernel_rfl) (by kernel_rfl) (by kernel_rfl) (fun _ _ _ h => h) (Or.inl ⟨by rfl, ?_⟩) (by assumption) ?_
  rotate_left
  · intro w hSw; (try dsimp only at hSw); go_simp; (try (with_reducible rfl))
  try simp only [Act.put, List.setIfInBounds_toArray, List.set_cons_zero, List.set_cons_succ]
  refine wpAnyH_ready (rs := [12]) (by kernel_rfl) (by simp) ?_
  refine AllReadyH.cons (o := ⟨none, _, _, _, _, _⟩) rfl (fun K hK => ?_) AllReadyH.nil
  have z0 := BZ.two.1
  have z1 := BZ.two.2.1
  have zf := BZ.two.2.2.1
  have zl := BZ.two.2.2.2
  go_simp
  (try go_wp2_with fail)
  refine hK.out _ _ ⟨((BX.other (by omega)).other (by omega)).two.1, ((BX.other (by omega)).other (by omega)).two.2.1, ((BY.other (by omega)).other (by omega)).two.1, ((BY.other (by omega)).other (by omega)).two.2.1⟩ (fun hHeld => ?_)
  clear hK K
  try simp only [Act.put, List.setIfInBounds_toArray, List.set_cons_zero, List.set_cons_succ]
  refine wpAnyH_done (by kernel_rfl) ?_ _
  go_wp2_with fail
  have BZn := (BZ.set (i := 0) (.int .i64 (IntKind.i64.wrap (xa - ya)))).set (i := 1) (.int .i64 C)
  simp only [List.setIfInBounds_toArray, List.set_cons_zero, List.set_cons_succ] at BZn
  obtain ⟨t0, t1, tf, tl⟩ := BZn.two
  refine bodyPost_ret (v := .agg #[.int .i64 (IntKind.i64.wrap (xa - ya)), .int .i64 C]) (by simp [results, Tryz.results71, go_sem, t0, t1]) rfl ?_
  exact ⟨by rw [HW.out], (hb.setCell (p := ⟨w.heap.size + 1 + 1, 0, none⟩) (by dsimp only; omega) _).setCell (p := ⟨w.heap.size + 1 + 1, 1, none⟩) (by dsimp only; omega) _⟩
end Go.Proofs.YtfomfbfcnenhbaaGreat
