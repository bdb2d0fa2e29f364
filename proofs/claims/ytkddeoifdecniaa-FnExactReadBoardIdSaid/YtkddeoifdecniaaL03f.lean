/- Contracts of chapter 3: the bits of a board, of the program and of its model. -/
import Derived.Test.YtkddeoifdecniaaL03e
import Derived.Test.YtkddeoifdecniaaL02b
import Derived.Test.YtkddeoifdecniaaImpl02c
import Derived.ArgAppend
namespace Go.Proofs.Ytkddeoifdecniaa
open Go.ChangeShapes Go.WideShapes Go.ChangeAt Go.RowKit
set_option linter.unusedVariables false
set_option linter.unusedSimpArgs false

theorem held2 {w W w2 : World} {g : Nat} {v0 v1 : Value} (hS : W.cell? ⟨g, 0, none⟩ = some v0 ∧ W.cell? ⟨g, 1, none⟩ = some v1 ∧ Below w.heap.size w W ∧ g < W.heap.size) (hb : Below W.heap.size W w2) :
    w2.cell? ⟨g, 0, none⟩ = some v0 ∧ w2.cell? ⟨g, 1, none⟩ = some v1 ∧ Below w.heap.size w w2 ∧ g < w2.heap.size := by
  obtain ⟨h0, h1, h3, h4⟩ := hS
  obtain ⟨hc, _⟩ := bcell hb
  exact ⟨by rw [hc _ _ h4]; exact h0, by rw [hc _ _ h4]; exact h1, chain h3 hb, Nat.lt_of_lt_of_le h4 hb.size⟩
theorem held2b {w W w2 : World} {B : Nat} {v0 v1 : Value} (hS : W.cell? ⟨w.heap.size, 0, none⟩ = some v0 ∧ W.cell? ⟨w.heap.size, 1, none⟩ = some v1 ∧ Below w.heap.size w W ∧ w.heap.size < W.heap.size) (hb : Below B W w2) (hB : w.heap.size < B) :
    w2.cell? ⟨w.heap.size, 0, none⟩ = some v0 ∧ w2.cell? ⟨w.heap.size, 1, none⟩ = some v1 ∧ Below w.heap.size w w2 ∧ w.heap.size < w2.heap.size := by
  obtain ⟨h0, h1, h3, h4⟩ := hS
  exact ⟨by rw [hb.cell (p := ⟨w.heap.size, 0, none⟩) hB]; exact h0, by rw [hb.cell (p := ⟨w.heap.size, 1, none⟩) hB]; exact h1, h3.trans (hb.mono (Nat.le_of_lt hB)), Nat.lt_of_lt_of_le h4 hb.size⟩
theorem bitsL_cons (x : Int) (xs : List Int) : bitsL (x :: xs) = grpL x.toNat ++ bitsL xs := rfl
theorem bitsL_append (xs ys : List Int) : bitsL (xs ++ ys) = bitsL xs ++ bitsL ys := by simp [bitsL]
theorem bitsL_length : ∀ (xs : List Int), (∀ x ∈ xs, 0 ≤ x) → ((bitsL xs).length : Int) = xs.sum + xs.length
  | [], _ => rfl
  | x :: xs, h => by
    have h1 := h x (by simp)
    have h2 := bitsL_length xs (fun y hy => h y (by simp [hy]))
    rw [bitsL_cons, List.length_append, grpL_length, List.sum_cons, List.length_cons]
    omega
theorem bitsL_snoc (xs : List Int) (k : Nat) (h : k < xs.length) : bitsL (xs.take (k + 1)) = bitsL (xs.take k) ++ grpL (xs.getD k 0).toNat := by
  rw [take_snoc_int xs k h, bitsL_append]
  simp [bitsL]
set_option maxHeartbeats 1000000 in
theorem sideBits_any (a : Option Addr) (n cap : Nat) (xs : List Int) (w : World) (hn : xs.length = n) (h0 : 0 < n) (hle : n ≤ 100) (hx : ∀ x ∈ xs, 0 ≤ x ∧ x ≤ 15) (hr : IRow w a xs) :
    Calls Try.prog 102 #[.slice a n cap, .func (.func 103) #[] #[]] w (RowGot (bitsL xs) w) := by
  refine (bitsOfInts_any a n cap xs (fun x => grpL x.toNat) w hn hle hr (fun x hm => ?_)).mono ?_
  · have h := hx x hm
    refine ⟨by rw [grpL_length]; omega, by rw [grpL_length]; omega, fun W => ?_⟩
    have q := countGroup_any x.toNat W (by omega)
    rw [show ((x.toNat : Nat) : Int) = x by omega] at q
    exact q
  · rintro e w' ⟨ga, gk, rfl, hO, hb⟩
    have hl : 0 < (bitsL xs).length := by
      have := bitsL_length xs (fun x h => (hx x h).1)
      have h2 := (sum_bound xs hx).1
      omega
    rcases hO with ⟨_, hO⟩ | ⟨g, rfl, h1, h2, r⟩
    · rw [bitsL, hO] at hl; simp at hl
    · exact ⟨g, gk, rfl, h1, r, hb⟩
set_option maxHeartbeats 1000000 in
theorem bits_any (a1 a2 : Option Addr) (n1 n2 c1 c2 : Nat) (xs ys : List Int) (w : World) (h1 : xs.length = n1) (h2 : ys.length = n2) (m1 : 0 < n1) (m2 : 0 < n2) (l1 : n1 ≤ 100) (l2 : n2 ≤ 100) (hx : ∀ x ∈ xs, 0 ≤ x ∧ x ≤ 15) (hy : ∀ x ∈ ys, 0 ≤ x ∧ x ≤ 15)
    (b1 : (bitsL xs).length ≤ 1000) (b2 : (bitsL ys).length ≤ 1000) (r1 : IRow w a1 xs) (r2 : IRow w a2 ys) :
    Calls Try.prog 74 #[.agg #[.slice a1 n1 c1, .slice a2 n2 c2]] w (SliceGot (bitsL xs ++ bitsL ys) w) := by
  have BB := Blk.new w #[.slice a1 n1 c1, .slice a2 n2 c2] 28
  have hb : Below w.heap.size w (w.alloc (.cells #[.slice a1 n1 c1, .slice a2 n2 c2] 28)) := (Below.refl _ _).alloc (Nat.le_refl _) _
  obtain ⟨y0, y1, yf, yl⟩ := BB.two
  have HB1 := Lib.hid (fun W (r : IRow W a1 xs) => sideBits_any a1 n1 c1 xs W h1 m1 l1 hx r)
  have HB2 := Lib.hid (fun W (r : IRow W a2 ys) => sideBits_any a2 n2 c2 ys W h2 m2 l2 hy r)
  have hbn : ∀ l ∈ [bitsL xs, bitsL ys], l.length ≤ 1000 := by
    intro l hl
    simp at hl
    rcases hl with rfl | rfl
    · exact b1
    · exact b2
  have HBN := Lib.hid hbn
  have hfl : [bitsL xs, bitsL ys].flatten = bitsL xs ++ bitsL ys := by simp
  rw [← hfl]
  clear hbn hfl hx hy h1 h2 b1 b2
  go_enter Try.func74, Try.ntmps74
  go_wp2_with fail
  generalize (w.alloc (.cells #[.slice a1 n1 c1, .slice a2 n2 c2] 28)) = v0 at *
  refine wp_region_held_drew (S := fun w' => w'.cell? ⟨w.heap.size, 0, none⟩ = some (.slice a1 n1 c1) ∧ w'.cell? ⟨w.heap.size, 1, none⟩ = some (.slice a2 n2 c2) ∧ Below w.heap.size w w' ∧ w.heap.size < w'.heap.size) (by kernel_rfl) ⟨y0, y1, hb.drew, yl⟩ (fun hHeld => ?_)
  refine wpAnyH_take (i := 0) (oi := { dst := some 3, op := _, type := _, pos := _, after := _, guard := _ }) (v := ?_) rfl (by kernel_rfl) (by kernel_rfl) (by kernel_rfl) (fun _ _ _ h => h) (Or.inl ⟨by rfl, ?_⟩) (by assumption) ?_
  rotate_left
  · intro w hSw
    (try dsimp only at hSw)
    go_simp
    (try (with_reducible rfl))
  try simp only [Act.put, List.setIfInBounds_toArray, List.set_cons_zero, List.set_cons_succ]
  refine wpAnyH_take (i := 1) (oi := { dst := some 4, op := _, type := _, pos := _, after := _, guard := _ }) (v := ?_) rfl (by kernel_rfl) (by kernel_rfl) (by kernel_rfl) (fun _ _ _ h => h) (Or.inl ⟨by rfl, ?_⟩) (by assumption) ?_
  rotate_left
  · intro w hSw
    (try dsimp only at hSw)
    go_simp
    (try (with_reducible rfl))
  try simp only [Act.put, List.setIfInBounds_toArray, List.set_cons_zero, List.set_cons_succ]
  refine wpAnyH_take (i := 3) (oi := { dst := some 6, op := _, type := _, pos := _, after := _, guard := _ }) (v := ?_) rfl (by kernel_rfl) (by kernel_rfl) (by kernel_rfl) (fun _ _ _ h => h) (Or.inl ⟨by rfl, ?_⟩) (by assumption) ?_
  rotate_left
  · intro w hSw
    (try dsimp only at hSw)
    go_simp
    (try (with_reducible rfl))
  try simp only [Act.put, List.setIfInBounds_toArray, List.set_cons_zero, List.set_cons_succ]
  refine wpAnyH_take (i := 4) (oi := { dst := some 7, op := _, type := _, pos := _, after := _, guard := _ }) (v := ?_) rfl (by kernel_rfl) (by kernel_rfl) (by kernel_rfl) (fun _ _ _ h => h) (Or.inl ⟨by rfl, ?_⟩) (by assumption) ?_
  rotate_left
  · intro w hSw
    (try dsimp only at hSw)
    go_simp
    (try (with_reducible rfl))
  try simp only [Act.put, List.setIfInBounds_toArray, List.set_cons_zero, List.set_cons_succ]
  refine wpAnyH_ready (rs := [2]) (by kernel_rfl) (by simp) ?_
  refine AllReadyH.cons (o := { dst := some 5, op := _, type := _, pos := _, after := _, guard := _ }) rfl (fun K hK => ?_) AllReadyH.nil
  go_simp
  refine (HB1.out _ (r1.below hHeld.2.2.1)).mono ?_
  rintro e w2 ⟨g1, k1, rfl, hg1, R1, hb2⟩
  (try go_wp2_with fail)
  refine hK.out _ _ (held2 hHeld hb2) (fun hHeld => ?_)
  clear hK K
  try simp only [Act.put, List.setIfInBounds_toArray, List.set_cons_zero, List.set_cons_succ]
  refine wpAnyH_ready (rs := [5]) (by kernel_rfl) (by simp) ?_
  refine AllReadyH.cons (o := { dst := some 8, op := _, type := _, pos := _, after := _, guard := _ }) rfl (fun K hK => ?_) AllReadyH.nil
  go_simp
  refine (HB2.out _ (r2.below hHeld.2.2.1)).mono ?_
  rintro e w3 ⟨g2, k2, rfl, hg2, R2, hb3⟩
  replace R1 := R1.below hb3
  (try go_wp2_with fail)
  refine hK.out _ _ (held2 hHeld hb3) (fun hHeld => ?_)
  clear hK K
  try simp only [Act.put, List.setIfInBounds_toArray, List.set_cons_zero, List.set_cons_succ]
  refine wpAnyH_ready (rs := [6]) (by kernel_rfl) (by simp) ?_
  refine AllReadyH.cons (o := { dst := some 9, op := _, type := _, pos := _, after := _, guard := _ }) rfl (fun K hK => ?_) AllReadyH.nil
  go_simp
  (try go_wp2_with fail)
  refine hK.out _ _ (held2 hHeld ((Below.refl _ _).alloc (Nat.le_refl _) _)) (fun hHeld => ?_)
  clear hK K
  try simp only [Act.put, List.setIfInBounds_toArray, List.set_cons_zero, List.set_cons_succ]
  refine wpAnyH_ready (rs := [7]) (by kernel_rfl) (by simp) ?_
  refine AllReadyH.cons (o := { dst := some 10, op := _, type := _, pos := _, after := _, guard := _ }) rfl (fun K hK => ?_) AllReadyH.nil
  go_simp
  refine (joinBits_any w3.heap.size 2 2 [bitsL xs, bitsL ys] _ rfl (by omega) HBN.out (SPart.two R1 R2)).mono ?_
  rintro e w4 ⟨ga, gk, rfl, hO, hb4⟩
  (try go_wp2_with fail)
  refine hK.out _ _ (held2 hHeld hb4) (fun hHeld => ?_)
  clear hK K
  try simp only [Act.put, List.setIfInBounds_toArray, List.set_cons_zero, List.set_cons_succ]
  refine wpAnyH_take (i := 8) (oi := { dst := some 2, op := _, type := _, pos := _, after := _, guard := _ }) (v := ?_) rfl (by kernel_rfl) (by kernel_rfl) (by kernel_rfl) (fun _ _ _ h => h) (Or.inl ⟨by rfl, ?_⟩) (by assumption) ?_
  rotate_left
  · intro w hSw
    (try dsimp only at hSw)
    go_simp
    (try (with_reducible rfl))
  try simp only [Act.put, List.setIfInBounds_toArray, List.set_cons_zero, List.set_cons_succ]
  refine wpAnyH_done (by kernel_rfl) ?_ _
  go_wp2_with fail
  go_ret
  have hz2 : w.heap.size ≤ w3.heap.size + 1 := by have := hb3.size; have := hb2.size; have h5 : v0.drew.heap.size = v0.heap.size := rfl; omega
  have hfl2 : [bitsL xs, bitsL ys].flatten.length = (bitsL xs).length + (bitsL ys).length := by simp
  exact ⟨ga, gk, by rw [hfl2]; rfl, hO.mono (by simp; omega) (Nat.le_refl _), hHeld.2.2.1⟩
/-- A copy of the call's own that may grow. -/
def OwnGot (xs : List Int) (w : World) (e : Ending) (w' : World) : Prop := ∃ v, e = .returned v ∧ Own w' w.heap.size v xs ∧ Below w.heap.size w w'
set_option maxHeartbeats 1000000 in
theorem l02Own_own (a : Option Addr) (n cap : Nat) (xs : List Int) (w : World) (hn : xs.length = n) (h0 : 0 < n) (hle : n ≤ 1048576) (hr : IRow w a xs) :
    Calls Try.prog 100 #[.slice a n cap] w (OwnGot xs w) := by
  obtain ⟨i0, hi, hz0, hz1, hz2⟩ := info_parts infoI64
  obtain ⟨b, o, rfl, -⟩ := hr 0 (by omega)
  have hrow : ∀ (W : World), IRow W (some ⟨b, o, none⟩) xs → ∀ (j : Nat) (u : Value), (ints xs)[j]? = some u → W.cell? ((⟨b, o, none⟩ : Addr).add j) = some u := by
    intro W hW j u hj
    obtain ⟨hlt, rfl⟩ := List.getElem?_eq_some_iff.1 hj
    have hlt2 : j < xs.length := by simpa [ints] using hlt
    obtain ⟨b', o', e, hc⟩ := hW j hlt2
    simp at e
    obtain ⟨rfl, rfl⟩ := e
    rw [show (⟨b, o, none⟩ : Addr).add j = ⟨b, o + j, none⟩ from by unfold Addr.add; split <;> simp_all, hc]
    simp [ints, hlt2]
  have hint : (ints xs).length = n * 1 := by simp [ints, hn]
  have HRW := Lib.hid hrow
  have HIN := Lib.hid hint
  have HR := Lib.hid hr
  have HX := Lib.hid hn
  clear hrow hint hr hn
  go_enter Try.func100, Try.ntmps100
  go_wp2_with (at_builtin; refine wpList_append_grows _ rfl _ _ 26 rfl 2 i0 (.int .i64 0) 1 8 Try.underlying26 hi hz0 hz1 hz2 rfl (by decide) _ 0 0 [] rfl (by simp) rfl (by simp) ⟨b, o, none⟩ n cap (ints xs) rfl HIN.out (HRW.out _ (HR.out.alloc _)) ints_one (by omega) (by unfold maxLen; omega) (by omega) ?_)
  intro v' w' hown hgrow
  go_wp2
  go_ret
  refine ⟨v', rfl, ?_, from_alloc ⟨hgrow.os, hgrow.tape, hgrow.output, hgrow.size, fun k hk => hgrow.block k hk (by simp)⟩⟩
  have ho : Own w' (w.alloc (.cells #[] 2)).heap.size v' xs := by
    show w'.ownsRow _ _ 1 v' xs.length (ints xs)
    rw [HX.out]
    simpa using hown
  exact ho.mono (by simp)
theorem step_pushAll {ops : Array Oper} {o : Oper} {a : Act} {w : World} {K : Act → World → Prop} {Q : Exit → Act → World → Prop} {E : Prop} (hgd : o.guard = none) (s x : Operand)
    (ho : o.op = .call { callee := .builtin .append, args := #[s, x], argTypes := #[26, 26] })
    (base : Nat) (v : Value) (D : List Int) (hs : a.eval s = v) (hown : Own w base v D) (ad : Option Addr) (ys : List Int) (m c : Nat) (hx : a.eval x = .slice ad m c) (hm : ys.length = m) (hr : IRow w ad ys) (hpos : 0 < m)
    (hl : D.length + m ≤ 1048576) (hbase : base ≤ w.heap.size)
    (h : ∀ v' w', Own w' base v' (D ++ ys) → Below base w w' → K (a.put o.dst v') w') :
    if Region.wanted o (yielded ops a.tmps) = true then Oper.wp Try.prog o a w K Q else E := by
  obtain ⟨i0, hi, hz0, hz1, hz2⟩ := info_parts infoI64
  obtain ⟨b, off, rfl, -⟩ := hr 0 (by omega)
  subst hm
  refine step_append_lies w hgd s x 26 ho base 2 i0 (.int .i64 0) 1 8 Try.underlying26 hi hz0 hz1 hz2 rfl (by decide) v D.length (ints D) hs hown ⟨b, off, none⟩ ys.length c (ints ys) hx (by simp [ints]) ?_ ints_one hpos (by unfold maxLen; omega) (by omega) hbase w.heap.size rfl ?_
  · intro j u hj
    obtain ⟨hlt, rfl⟩ := List.getElem?_eq_some_iff.1 hj
    have hlt2 : j < ys.length := by simpa [ints] using hlt
    obtain ⟨b', o', e, hc⟩ := hr j hlt2
    simp at e
    obtain ⟨rfl, rfl⟩ := e
    rw [show (⟨b, off, none⟩ : Addr).add j = ⟨b, off + j, none⟩ from by unfold Addr.add; split <;> simp_all, hc]
    simp [ints, hlt2]
  · intro g cap w' hown' hgrow _ _
    refine h _ w' ?_ ((Below.refl base w).grown hgrow hbase (fun k hk => (World.ownsRow.lt hown k hk).1))
    show w'.ownsRow base 2 1 _ (D ++ ys).length (ints (D ++ ys))
    rw [show (D ++ ys).length = D.length + ys.length by simp, show ints (D ++ ys) = ints D ++ ints ys by simp [ints]]
    exact hown'
/-- One number appended, beside a row that stays as it is. -/
theorem wp_pushA {ops : Array Oper} {rest : List Oper} {o : Oper} {a : Act} {Q : Exit → Act → World → Prop} (hgd : o.guard = none) (s x : Operand)
    (ho : o.op = .call { callee := .builtin .append, args := #[s, x], argTypes := #[26, 26] })
    (base : Nat) (v : Value) (xs : List Int) (hs : a.eval s = v) {w0 : World} (hown : Own w0 base v xs) (u : Int) (gx : Nat) (zs : List Int) (hR : Row w0 gx zs) (hne : v.ownBlock ≠ some gx)
    (hx : a.eval x = .slice (some ⟨w0.heap.size, 0, none⟩) 1 1) (hl : xs.length ≤ 1048576) (hbase : base ≤ w0.heap.size)
    (h : ∀ v' w', Own w' base v' (xs ++ [u]) → Row w' gx zs → v'.ownBlock ≠ some gx → Below base w0 w' → wpList Try.prog ops Q rest (a.put o.dst v') w') : wpList Try.prog ops Q (o :: rest) a (w0.alloc (.cells #[.int .i64 u] 2)) := by
  obtain ⟨i0, hi, hz0, hz1, hz2⟩ := info_parts infoI64
  have hgx := hR.lt
  refine wpList_append_lies _ hgd s x 26 ho base 2 i0 (.int .i64 0) 1 8 Try.underlying26 hi hz0 hz1 hz2 rfl (by decide) v xs.length (ints xs) hs (World.ownsRow.alloc hown _) ⟨w0.heap.size, 0, none⟩ 1 1 [.int .i64 u] hx rfl
    (World.news_of_block (cs := #[.int .i64 u]) (Blk.new w0 #[.int .i64 u] 2)) (fun y hy => by simp at hy; subst hy; rfl) (by omega) (by unfold maxLen; omega) (by omega) (by simp; omega) (w0.heap.size + 1) (by simp) ?_
  intro g cap w' hown' hgrow hw hglt
  have hb : Below base w0 w' := ((Below.refl base w0).alloc hbase _).grown hgrow (by simp; omega) (fun k hk => (World.ownsRow.lt hown k hk).1)
  refine h _ w' ?_ ?_ ?_ hb
  · show w'.ownsRow base 2 1 _ (xs ++ [u]).length (ints (xs ++ [u]))
    rw [show (xs ++ [u]).length = xs.length + 1 by simp, show ints (xs ++ [u]) = ints xs ++ [.int .i64 u] by simp [ints]]
    exact hown'
  · obtain ⟨cur, hB, q1, q2⟩ := hR
    refine ⟨cur, ?_, q1, q2⟩
    show w'.heap[gx]? = _
    rw [hgrow.block gx (by simp; omega) (fun e => hne e.symm), Below.heap_alloc _ _ _ hgx]
    exact hB
  · show some g ≠ some gx
    intro e
    simp only [Option.some.injEq] at e
    subst e
    rcases hw with hw | hw
    · exact hne hw
    · omega
theorem bitsL_small (xs : List Int) (k : Nat) (hx : ∀ x ∈ xs, 0 ≤ x ∧ x ≤ 15) (hl : xs.length ≤ 200) : (bitsL (xs.take k)).length ≤ 3200 := by
  have h1 := bitsL_length (xs.take k) (fun x h => (hx x (List.mem_of_mem_take h)).1)
  have h2 := (sum_bound (xs.take k) (fun x h => hx x (List.mem_of_mem_take h))).2
  have h3 : (xs.take k).length ≤ 200 := by simp; omega
  omega
set_option maxHeartbeats 1000000 in
theorem l03Bits_any (a1 a2 : Option Addr) (n1 n2 c1 c2 : Nat) (xs ys : List Int) (w : World) (h1 : xs.length = n1) (h2 : ys.length = n2) (m1 : 0 < n1) (m2 : 0 < n2) (l1 : n1 ≤ 100) (l2 : n2 ≤ 100) (hx : ∀ x ∈ xs, 0 ≤ x ∧ x ≤ 15) (hy : ∀ x ∈ ys, 0 ≤ x ∧ x ≤ 15)
    (r1 : IRow w a1 xs) (r2 : IRow w a2 ys) :
    Calls Try.prog 76 #[.agg #[.slice a1 n1 c1, .slice a2 n2 c2]] w (SliceGot (bitsL xs ++ bitsL ys) w) := by
  have BB := Blk.new w #[.slice a1 n1 c1, .slice a2 n2 c2] 28
  have hb0 : Below w.heap.size w (w.alloc (.cells #[.slice a1 n1 c1, .slice a2 n2 c2] 28)) := (Below.refl _ _).alloc (Nat.le_refl _) _
  have hO0 := Own.start (w.alloc (.cells #[.slice a1 n1 c1, .slice a2 n2 c2] 28))
  have hz0 : (w.alloc (.cells #[.slice a1 n1 c1, .slice a2 n2 c2] 28)).heap.size = w.heap.size + 1 := by simp
  have hz1 : ((w.alloc (.cells #[.slice a1 n1 c1, .slice a2 n2 c2] 28)).alloc (.cells #[] 2)).heap.size = w.heap.size + 1 + 1 := by simp
  rw [hz0] at hO0
  replace BB := BB.alloc (.cells #[] 2)
  have hb := hb0.alloc hb0.size (.cells #[] 2)
  obtain ⟨y0, y1, yf, yl⟩ := BB.two
  obtain ⟨out, hout⟩ : ∃ out, bitsL xs ++ bitsL ys = out := ⟨_, rfl⟩
  rw [hout]
  have HZ0 := Lib.hid hz0
  have HZ1 := Lib.hid hz1
  have HOUT := Lib.hid hout
  clear hz0 hz1 hout hb0
  go_enter Try.func76, Try.ntmps76
  go_wp2_with fail
  generalize ((w.alloc (.cells #[.slice a1 n1 c1, .slice a2 n2 c2] 28)).alloc (.cells #[] 2)) = v0 at *
  refine wp_region_held_drew (S := fun w' => w'.cell? ⟨w.heap.size, 0, none⟩ = some (.slice a1 n1 c1) ∧ w'.cell? ⟨w.heap.size, 1, none⟩ = some (.slice a2 n2 c2) ∧ Below w.heap.size w w' ∧ w.heap.size < w'.heap.size) (by kernel_rfl) ⟨y0, y1, hb.drew, yl⟩ (fun hHeld => ?_)
  refine wpAnyH_take (i := 0) (oi := { dst := some 8, op := _, type := _, pos := _, after := _, guard := _ }) (v := ?_) rfl (by kernel_rfl) (by kernel_rfl) (by kernel_rfl) (fun _ _ _ h => h) (Or.inl ⟨by rfl, ?_⟩) (by assumption) ?_
  rotate_left
  · intro w hSw
    (try dsimp only at hSw)
    go_simp
    (try (with_reducible rfl))
  try simp only [Act.put, List.setIfInBounds_toArray, List.set_cons_zero, List.set_cons_succ]
  refine wpAnyH_take (i := 1) (oi := { dst := some 9, op := _, type := _, pos := _, after := _, guard := _ }) (v := ?_) rfl (by kernel_rfl) (by kernel_rfl) (by kernel_rfl) (fun _ _ _ h => h) (Or.inl ⟨by rfl, ?_⟩) (by assumption) ?_
  rotate_left
  · intro w hSw
    (try dsimp only at hSw)
    go_simp
    (try (with_reducible rfl))
  try simp only [Act.put, List.setIfInBounds_toArray, List.set_cons_zero, List.set_cons_succ]
  refine wpAnyH_take (i := 3) (oi := { dst := some 11, op := _, type := _, pos := _, after := _, guard := _ }) (v := ?_) rfl (by kernel_rfl) (by kernel_rfl) (by kernel_rfl) (fun _ _ _ h => h) (Or.inl ⟨by rfl, ?_⟩) (by assumption) ?_
  rotate_left
  · intro w hSw
    (try dsimp only at hSw)
    go_simp
    (try (with_reducible rfl))
  try simp only [Act.put, List.setIfInBounds_toArray, List.set_cons_zero, List.set_cons_succ]
  refine wpAnyH_take (i := 4) (oi := { dst := some 12, op := _, type := _, pos := _, after := _, guard := _ }) (v := ?_) rfl (by kernel_rfl) (by kernel_rfl) (by kernel_rfl) (fun _ _ _ h => h) (Or.inl ⟨by rfl, ?_⟩) (by assumption) ?_
  rotate_left
  · intro w hSw
    (try dsimp only at hSw)
    go_simp
    (try (with_reducible rfl))
  try simp only [Act.put, List.setIfInBounds_toArray, List.set_cons_zero, List.set_cons_succ]
  refine wpAnyH_ready (rs := [2]) (by kernel_rfl) (by simp) ?_
  refine AllReadyH.cons (o := { dst := some 10, op := _, type := _, pos := _, after := _, guard := _ }) rfl (fun K hK => ?_) AllReadyH.nil
  go_simp
  refine (l02Own_own a1 n1 c1 xs _ h1 (by omega) (by omega) (r1.below hHeld.2.2.1)).mono ?_
  rintro e w2 ⟨vo, rfl, hO, hb2⟩
  (try go_wp2_with fail)
  refine hK.out _ _ (held2 hHeld hb2) (fun hHeld => ?_)
  clear hK K
  try simp only [Act.put, List.setIfInBounds_toArray, List.set_cons_zero, List.set_cons_succ]
  refine wpAnyH_ready (rs := [5]) (by kernel_rfl) (by simp) ?_
  refine AllReadyH.cons (o := { dst := some 13, op := _, type := _, pos := _, after := _, guard := _ }) rfl (fun K hK => ?_) AllReadyH.nil
  refine step_pushAll rfl (.tmp 10) (.tmp 12) rfl _ _ xs rfl hO _ ys n2 c2 rfl h2 (r2.below hHeld.2.2.1) (by omega) (by omega) hb2.size ?_
  intro va w3 hO3 hb3
  refine hK.out _ _ (held2b hHeld hb3 yl) (fun hHeld => ?_)
  clear hK K
  try simp only [Act.put, List.setIfInBounds_toArray, List.set_cons_zero, List.set_cons_succ]
  refine wpAnyH_take (i := 6) (oi := { dst := some 4, op := _, type := _, pos := _, after := _, guard := _ }) (v := ?_) rfl (by kernel_rfl) (by kernel_rfl) (by kernel_rfl) (fun _ _ _ h => h) (Or.inl ⟨by rfl, ?_⟩) (by assumption) ?_
  rotate_left
  · intro w hSw
    (try dsimp only at hSw)
    go_simp
    (try (with_reducible rfl))
  try simp only [Act.put, List.setIfInBounds_toArray, List.set_cons_zero, List.set_cons_succ]
  refine wpAnyH_done (by kernel_rfl) ?_ _
  have hb23 : Below v0.heap.size v0 w3 := Below.trans (Below.refl v0.heap.size v0).drew (hb2.trans hb3)
  have hO1 := (hO0.kept hb23).mono (show w.heap.size ≤ w.heap.size + 1 by omega)
  have hbel := hHeld.2.2.1
  obtain ⟨gA, kA, rfl, hgA, hR⟩ := hO3.row (by simp; omega)
  have hgA2 : w.heap.size + 1 < gA := by have := HZ1.out; have h5 : v0.drew.heap.size = v0.heap.size := rfl; omega
  have hz : ∀ x ∈ xs ++ ys, 0 ≤ x ∧ x ≤ 15 := fun x h => by
    rcases List.mem_append.1 h with h | h
    · exact hx x h
    · exact hy x h
  have hout : bitsL (xs ++ ys) = out := by rw [bitsL_append]; exact HOUT.out
  have hzl : (xs ++ ys).length ≤ 200 := by simp; omega
  obtain ⟨zs, hzs⟩ : ∃ zs, xs ++ ys = zs := ⟨_, rfl⟩
  rw [hzs] at hz hR hout hzl ⊢
  have HO2 := Lib.hid hout
  have HZS := Lib.hid hz
  have HZL := Lib.hid hzl
  have hne0 : (Value.slice (some ⟨w.heap.size + 1, 0, none⟩) 0 0).ownBlock ≠ some gA := by
    show some (w.heap.size + 1) ≠ some gA
    intro e
    simp only [Option.some.injEq] at e
    omega
  have hzl2 : (zs.length : Int) ≤ 200 := by omega
  clear hout hz hzs hzl hO hO0 hO3 hb2 hb3 hb23 hx hy hHeld HOUT HZ0 HZ1 hb yl yf y0 y1 BB h1 h2
  go_wp2_with fail
  go_loopg [3, 5] zs.length (fun m q i wr => ∃ k : Nat, k ≤ zs.length ∧ m = zs.length - k ∧ i = .int .i64 k ∧ Own wr w.heap.size q (bitsL (zs.take k)) ∧ Row wr gA zs ∧ q.ownBlock ≠ some gA ∧ Below w.heap.size w wr)
  case atStart => exact ⟨0, by omega, by omega, rfl, by simpa [bitsL] using hO1, hR, hne0, hbel⟩
  case round =>
    clear hO1 hR hne0 hbel
    obtain ⟨k, hk, hm, rfl, hO, hR, hne, hbel⟩ := hrel
    by_cases hlt : k < zs.length
    · have hlt' : (k : Int) < (zs.length : Int) := by omega
      have hk0 : (0 : Int) ≤ (k : Int) := by omega
      have hbd := HZS.out _ (getD_mem hlt)
      obtain ⟨x, hx⟩ := Int.eq_ofNat_of_zero_le hbd.1
      have hst := bitsL_snoc zs k hlt
      rw [hx] at hst hbd
      rw [show ((x : Int)).toNat = x by omega] at hst
      have hsm := bitsL_small zs k HZS.out HZL.out
      have hx15 : (x : Int) ≤ 15 := hbd.2
      have HX := Lib.hid hx
      have HST := Lib.hid hst
      have HM := Lib.hid hm
      clear hx hst hm hbd
      go_wp2_with fail
      go_loopg [3, 6] x (fun m2 q i wi => ∃ j : Nat, j ≤ x ∧ m2 = x - j ∧ i = .int .i64 j ∧ Own wi w.heap.size q (bitsL (zs.take k) ++ List.replicate j 1) ∧ Row wi gA zs ∧ q.ownBlock ≠ some gA ∧ Below w.heap.size w wi)
      case atStart => exact ⟨0, by omega, by omega, rfl, by simpa using hO, hR, hne, hbel⟩
      case round =>
        clear hO hR hne hbel
        obtain ⟨j, hj, hm2, rfl, hO, hR, hne, hbel⟩ := hrel
        have hc := hR.cell k hlt
        rw [HX.out] at hc
        have hl : (bitsL (zs.take k) ++ List.replicate j 1).length ≤ 1048576 := by simp; omega
        have HL := Lib.hid hl
        have hbz := hbel.size
        by_cases hjx : j < x
        · have hjx' : (j : Int) < (x : Int) := by omega
          clear hl
          go_wp2_with (at_builtin; refine wp_pushA rfl (.tmp 28) (.tmp 29) rfl w.heap.size _ _ rfl hO 1 gA zs hR hne rfl HL.out hbz ?_; intro v2 w5 hO2 hR2 hne2 hb2)
          go_roundg (x - (j + 1))
          case measure => omega
          case rel => exact ⟨j + 1, by omega, rfl, by go_num, by rw [← List.replicate_append_replicate (n := j) (m := 1), ← List.append_assoc]; exact hO2, hR2, hne2, hbel.trans hb2⟩
        · obtain rfl : j = x := by omega
          have hjx' : ¬ (j : Int) < (j : Int) := by omega
          clear hl
          go_wp2_with (at_builtin; refine wp_pushA rfl (.tmp 31) (.tmp 32) rfl w.heap.size _ _ rfl hO 0 gA zs hR hne rfl HL.out hbz ?_; intro v2 w5 hO2 hR2 hne2 hb2)
          go_roundg (zs.length - (k + 1))
          case measure => have := HM.out; omega
          case rel => exact ⟨k + 1, by omega, rfl, by go_num, by rw [HST.out, grpL, ← List.append_assoc]; exact hO2, hR2, hne2, hbel.trans hb2⟩
    · obtain rfl : k = zs.length := by omega
      have hlt' : ¬ ((zs.length : Int) < (zs.length : Int)) := by omega
      rw [List.take_length, HO2.out] at hO
      obtain ⟨ga, gk2, rfl⟩ := hO.form
      go_wp2
      go_ret
      exact ⟨ga, gk2, rfl, hO.osl, hbel⟩
theorem isB_sides {p c h s : Int} {xs ys : List Int} (g : isB p c h s xs ys = true) : vB p c h s = true ∧ sideB p c xs = true ∧ sideB p c ys = true := by
  simp only [isB, Bool.and_eq_true] at g
  exact ⟨g.1, g.2.1, g.2.2.1⟩
/-- What the bits' contracts ask of a board's sides. -/
theorem isB_fit {p c h s : Int} {xs ys : List Int} (g : isB p c h s xs ys = true) : (0 < xs.length ∧ xs.length ≤ 25 ∧ ∀ x ∈ xs, 0 ≤ x ∧ x ≤ 15) ∧ (0 < ys.length ∧ ys.length ≤ 25 ∧ ∀ x ∈ ys, 0 ≤ x ∧ x ≤ 15) ∧ (bitsL xs).length ≤ 40 ∧ (bitsL ys).length ≤ 40 := by
  obtain ⟨h1, h2, h3⟩ := isB_sides g
  have hv := vB_iff.1 h1
  obtain ⟨a1, a2, a3⟩ := sideB_iff.1 h2
  obtain ⟨b1, b2, b3⟩ := sideB_iff.1 h3
  have q1 := bitsL_length xs (fun x hx => (a2 x hx).1)
  have q2 := bitsL_length ys (fun x hx => (b2 x hx).1)
  exact ⟨⟨by omega, by omega, fun x hx => by have := a2 x hx; omega⟩, ⟨by omega, by omega, fun x hx => by have := b2 x hx; omega⟩, by omega, by omega⟩
def bbL (p c h s : Int) (xs ys : List Int) : List Int := if isB p c h s xs ys = true then bitsL xs ++ bitsL ys else []
theorem bbL_length (p c h s : Int) (xs ys : List Int) : (bbL p c h s xs ys).length ≤ 80 := by
  unfold bbL
  split
  · rename_i g
    have := (isB_fit g).2.2
    simp
    omega
  · simp
set_option maxHeartbeats 1000000 in
theorem specBoardBits_any (p c h s : Int) (a1 a2 : Option Addr) (n1 n2 c1 c2 : Nat) (xs ys : List Int) (w : World) (h1 : xs.length = n1) (h2 : ys.length = n2) (l1 : n1 ≤ 1048576) (l2 : n2 ≤ 1048576) (r1 : IRow w a1 xs) (r2 : IRow w a2 ys) :
    Calls Try.prog 41 #[.agg #[.int .i64 p, .int .i64 c, .int .i64 h, .int .i64 s], .agg #[.slice a1 n1 c1, .slice a2 n2 c2]] w (SliceGot (bbL p c h s xs ys) w) := by
  obtain ⟨BV, BB, hb, hz⟩ := two_new w #[.int .i64 p, .int .i64 c, .int .i64 h, .int .i64 s] #[.slice a1 n1 c1, .slice a2 n2 c2] 25 28
  have hz1 : w.heap.size + 1 < ((w.alloc (.cells #[.int .i64 p, .int .i64 c, .int .i64 h, .int .i64 s] 25)).alloc (.cells #[.slice a1 n1 c1, .slice a2 n2 c2] 28)).heap.size := by rw [hz]; omega
  clear hz
  obtain ⟨x0, x1, x2, x3, xf, xl⟩ := BV.four
  obtain ⟨y0, y1, yf, yl⟩ := BB.two
  by_cases g : isB p c h s xs ys = true
  · rw [bbL, if_pos g]
    obtain ⟨⟨f1, f2, f3⟩, ⟨f4, f5, f6⟩, f7, f8⟩ := isB_fit g
    have hK := fun W (q1 : IRow W a1 xs) (q2 : IRow W a2 ys) => l03Bits_any a1 a2 n1 n2 c1 c2 xs ys W h1 h2 (by omega) (by omega) (by omega) (by omega) f3 f6 q1 q2
    obtain ⟨out, hout⟩ : ∃ out, bitsL xs ++ bitsL ys = out := ⟨_, rfl⟩
    rw [hout] at hK ⊢
    have HK := Lib.hid hK
    clear hK hout f1 f2 f3 f4 f5 f6 f7 f8
    have hB := fun W (q1 : IRow W a1 xs) (q2 : IRow W a2 ys) => specIsBoard_any p c h s a1 a2 n1 n2 c1 c2 xs ys W h1 h2 l1 l2 q1 q2
    simp only [g] at hB
    have HB := Lib.hid hB
    clear hB
    go_enter Try.func41, Try.ntmps41
    go_wp2_with (first | (go_at_call 15; refine (HB.out _ (r1.below hb) (r2.below hb)).mono ?_; rintro e w1 ⟨rfl, hb1⟩; obtain ⟨x0, x1, x2, x3, xf, xl⟩ := (BV.below hb1).four; obtain ⟨y0, y1, yf, yl⟩ := (BB.below hb1).two) | (go_at_call 76; refine (HK.out _ (r1.below (chain hb hb1)) (r2.below (chain hb hb1))).mono ?_; rintro e w2 ⟨ga, gk, rfl, hO, hb2⟩))
    go_ret
    have hbb := chain hb hb1
    exact ⟨ga, gk, rfl, hO.mono hbb.size (Nat.le_refl _), chain hbb hb2⟩
  · rw [bbL, if_neg g]
    replace g : isB p c h s xs ys = false := by simpa using g
    have hB := fun W (q1 : IRow W a1 xs) (q2 : IRow W a2 ys) => specIsBoard_any p c h s a1 a2 n1 n2 c1 c2 xs ys W h1 h2 l1 l2 q1 q2
    simp only [g] at hB
    have HB := Lib.hid hB
    clear hB
    go_enter Try.func41, Try.ntmps41
    go_wp2_with (go_at_call 15; refine (HB.out _ (r1.below hb) (r2.below hb)).mono ?_; rintro e w1 ⟨rfl, hb1⟩; obtain ⟨x0, x1, x2, x3, xf, xl⟩ := (BV.below hb1).four; obtain ⟨y0, y1, yf, yl⟩ := (BB.below hb1).two)
    go_ret
    have hbb := chain hb hb1
    exact ⟨_, _, rfl, (Own.start w1).osl.mono hbb.size (Nat.le_refl _), hbb.alloc hbb.size _⟩
set_option maxHeartbeats 1000000 in
theorem boardBits_any (p c h s : Int) (a1 a2 : Option Addr) (n1 n2 c1 c2 : Nat) (xs ys : List Int) (w : World) (h1 : xs.length = n1) (h2 : ys.length = n2) (l1 : n1 ≤ 1048576) (l2 : n2 ≤ 1048576) (r1 : IRow w a1 xs) (r2 : IRow w a2 ys) :
    Calls Try.prog 38 #[.agg #[.int .i64 p, .int .i64 c, .int .i64 h, .int .i64 s], .agg #[.slice a1 n1 c1, .slice a2 n2 c2]] w (SliceGot (bbL p c h s xs ys) w) := by
  obtain ⟨BV, BB, hb, hz⟩ := two_new w #[.int .i64 p, .int .i64 c, .int .i64 h, .int .i64 s] #[.slice a1 n1 c1, .slice a2 n2 c2] 25 28
  have hz1 : w.heap.size + 1 < ((w.alloc (.cells #[.int .i64 p, .int .i64 c, .int .i64 h, .int .i64 s] 25)).alloc (.cells #[.slice a1 n1 c1, .slice a2 n2 c2] 28)).heap.size := by rw [hz]; omega
  clear hz
  obtain ⟨x0, x1, x2, x3, xf, xl⟩ := BV.four
  obtain ⟨y0, y1, yf, yl⟩ := BB.two
  by_cases g : isB p c h s xs ys = true
  · rw [bbL, if_pos g]
    obtain ⟨⟨f1, f2, f3⟩, ⟨f4, f5, f6⟩, f7, f8⟩ := isB_fit g
    have hK := fun W (q1 : IRow W a1 xs) (q2 : IRow W a2 ys) => bits_any a1 a2 n1 n2 c1 c2 xs ys W h1 h2 (by omega) (by omega) (by omega) (by omega) f3 f6 (by omega) (by omega) q1 q2
    obtain ⟨out, hout⟩ : ∃ out, bitsL xs ++ bitsL ys = out := ⟨_, rfl⟩
    rw [hout] at hK ⊢
    have HK := Lib.hid hK
    clear hK hout f1 f2 f3 f4 f5 f6 f7 f8
    have hB := fun W (q1 : IRow W a1 xs) (q2 : IRow W a2 ys) => isBoard_any p c h s a1 a2 n1 n2 c1 c2 xs ys W h1 h2 l1 l2 q1 q2
    simp only [g] at hB
    have HB := Lib.hid hB
    clear hB
    go_enter Try.func38, Try.ntmps38
    go_wp2_with (first | (go_at_call 16; refine (HB.out _ (r1.below hb) (r2.below hb)).mono ?_; rintro e w1 ⟨rfl, hb1⟩; obtain ⟨x0, x1, x2, x3, xf, xl⟩ := (BV.below hb1).four; obtain ⟨y0, y1, yf, yl⟩ := (BB.below hb1).two) | (go_at_call 74; refine (HK.out _ (r1.below (chain hb hb1)) (r2.below (chain hb hb1))).mono ?_; rintro e w2 ⟨ga, gk, rfl, hO, hb2⟩))
    go_ret
    have hbb := chain hb hb1
    exact ⟨ga, gk, rfl, hO.mono hbb.size (Nat.le_refl _), chain hbb hb2⟩
  · rw [bbL, if_neg g]
    replace g : isB p c h s xs ys = false := by simpa using g
    have hB := fun W (q1 : IRow W a1 xs) (q2 : IRow W a2 ys) => isBoard_any p c h s a1 a2 n1 n2 c1 c2 xs ys W h1 h2 l1 l2 q1 q2
    simp only [g] at hB
    have HB := Lib.hid hB
    clear hB
    go_enter Try.func38, Try.ntmps38
    go_wp2_with (go_at_call 16; refine (HB.out _ (r1.below hb) (r2.below hb)).mono ?_; rintro e w1 ⟨rfl, hb1⟩; obtain ⟨x0, x1, x2, x3, xf, xl⟩ := (BV.below hb1).four; obtain ⟨y0, y1, yf, yl⟩ := (BB.below hb1).two)
    go_ret
    have hbb := chain hb hb1
    exact ⟨none, 0, rfl, .inl ⟨rfl, rfl⟩, hbb⟩
end Go.Proofs.Ytkddeoifdecniaa
