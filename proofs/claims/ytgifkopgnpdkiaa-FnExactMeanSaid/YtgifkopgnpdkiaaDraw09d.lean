/- The model's draw of a variant and a list of exact numbers. -/
import Derived.Test.YtgifkopgnpdkiaaDraw09c
import Derived.Test.Ytgifkopgnpdkiaa09zb
import Derived.Test.YtgifkopgnpdkiaaExArg
namespace Go.Proofs.Ytgifkopgnpdkiaa
open Go.ChangeShapes Go.WideShapes Go.ChangeAt Go.RowKit
set_option linter.unusedVariables false
set_option linter.unusedSimpArgs false

def OwnX (w : World) (base : Nat) (v : Value) (l : List Rl) : Prop := w.ownsRow base 29 2 v l.length (rlsC l)
theorem OwnX.form {w : World} {base : Nat} {v : Value} {l : List Rl} (h : OwnX w base v l) : ∃ a k, v = .slice a l.length k := by
  rcases h.2 with ⟨h1, h2⟩ | ⟨g, cap, cur, h1, _⟩
  · exact ⟨none, 0, by rw [h1, h2]⟩
  · exact ⟨some ⟨g, 0, none⟩, cap, h1⟩
theorem OwnX.ox {w : World} {base : Nat} {a : Option Addr} {n k : Nat} {l : List Rl} (h : OwnX w base (.slice a n k) l) : OX w a l := by
  obtain ⟨hl, h1 | ⟨g, cap, cur, hv, hb, hh, hc, hm, hs, ht⟩⟩ := h
  · obtain ⟨h1, h2⟩ := h1
    simp at h1
    exact .inl ⟨h1.1, List.eq_nil_of_length_eq_zero h2⟩
  · simp at hv
    obtain ⟨rfl, _, rfl⟩ := hv
    exact .inr ⟨g, rfl, cur, hh, by rw [hl, hs]; exact Nat.mul_le_mul_right _ hc, by rw [hl]; exact ht⟩
theorem OwnX.alloc {w : World} {base : Nat} {v : Value} {l : List Rl} (h : OwnX w base v l) (o : Obj) : OwnX (w.alloc o) base v l := World.ownsRow.alloc h o
theorem OwnX.start (w : World) : OwnX (w.alloc (.cells #[] 29)) w.heap.size (.slice (some ⟨w.heap.size, 0, none⟩) 0 0) [] :=
  ⟨rfl, .inr ⟨w.heap.size, 0, #[], rfl, Nat.le_refl _, Blk.new w #[] _, Nat.le_refl _, by unfold maxLen; omega, rfl, rfl⟩⟩
theorem OwnX.nil (w : World) (base : Nat) : OwnX w base (.slice none 0 0) [] := World.ownsRow_nil w base _ _
theorem infoX9 : (Try.prog.info? 29).map (fun i => (i.zero, i.size, i.bytes)) = some (some (.agg #[.int .i64 0, .int .i64 0]), 2, 16) := by kernel_rfl
theorem wp_pushX {ops : Array Oper} {rest : List Oper} {o : Oper} {a : Act} {Q : Exit → Act → World → Prop} (hgd : o.guard = none) (s x : Operand)
    (ho : o.op = .call { callee := .builtin .append, args := #[s, x], argTypes := #[46, 46] })
    (base : Nat) (v : Value) (l : List Rl) (hs : a.eval s = v) {w0 : World} (hown : OwnX w0 base v l) (u : Rl)
    {zz : Nat} (hx : a.eval x = .slice (some ⟨zz, 0, none⟩) 1 1) (hzz : w0.heap.size = zz) (hl : l.length ≤ 1048576) (hbase : base ≤ w0.heap.size)
    (h : ∀ v' w', OwnX w' base v' (l ++ [u]) → Below base w0 w' → wpList Try.prog ops Q rest (a.put o.dst v') w') : wpList Try.prog ops Q (o :: rest) a (w0.alloc (.cells #[.int .i64 u.1, .int .i64 u.2] 29)) := by
  subst hzz
  obtain ⟨i0, hi, hz0, hz1, hz2⟩ := info_parts infoX9
  have hown0 : w0.ownsRow base 29 2 v l.length (rlsC l) := hown
  refine wpList_append_own _ hgd s x 46 ho base 29 i0 _ 2 16 Try.underlying46 hi hz0 hz1 hz2 rfl (by decide) v l.length (rlsC l) hs (hown0.alloc _) ⟨w0.heap.size, 0, none⟩ 1 1 (rlC u) hx (by simp [rlC])
    (World.news_of_block (cs := #[.int .i64 u.1, .int .i64 u.2]) (Blk.new w0 _ 29)) (fun y hy => by simp [rlC] at hy; rcases hy with rfl | rfl <;> rfl) (by unfold maxLen; omega) (by omega) (by simp; omega) ?_
  intro v' w' hown' hgrow _
  refine h v' w' ?_ (((Below.refl base w0).alloc hbase _).grown hgrow (by simp; omega) (fun k hk => (hown0.lt k hk).1))
  show w'.ownsRow base 29 2 _ (l ++ [u]).length (rlsC (l ++ [u]))
  rw [List.length_append, rlsC_append]
  simpa [rlsC] using hown'
theorem Blk.keepB {w w' : World} {g base : Nat} {vs : Array Value} {t : TypeId} (h : Blk w g vs t) (hg : g < base) (hb : Below base w w') : Blk w' g vs t := (hb.block g hg).trans h
theorem Src.keepB {B g base : Nat} {a : Option Addr} {len cap : Nat} {w w' : World} (h : Src B w g a len cap) (hg : g < base) (hb : Below base w w') : Src B w' g a len cap := by
  obtain ⟨k, s, hB, h1, h2, h3, h4, h5, h6⟩ := h
  exact ⟨k, s, hB.keepB hg hb, h1, h2, h3, h4, h5, h6.below (hb.mono (by omega))⟩
theorem OwnX.by {w w' : World} {base : Nat} {v : Value} {l : List Rl} (h : OwnX w base v l) (k : ∀ i, base ≤ i → i < w.heap.size → w'.heap[i]? = w.heap[i]?) : OwnX w' base v l := by
  obtain ⟨hl, h1 | ⟨g, cap, cur, hv, hb, hh, hc⟩⟩ := h
  · exact ⟨hl, .inl h1⟩
  · exact ⟨hl, .inr ⟨g, cap, cur, hv, hb, (k g hb (Array.getElem?_eq_some_iff.1 hh).1).trans hh, hc⟩⟩
theorem OwnX.grown {w w' : World} {base g : Nat} {v : Value} {l : List Rl} (h : OwnX w base v l) (k : w.grownBy w' (some g)) (hg : g < base) : OwnX w' base v l :=
  h.by fun i h1 h2 => k.block i h2 (fun e => by cases e; omega)
theorem OwnX.far2 {w w1 : World} {base B : Nat} {v : Value} {l : List Rl} (h : OwnX w1 base v l) (hB : w1.heap.size ≤ B) (hk : ∀ i, base ≤ i → i < w1.heap.size → w.heap[i]? = w1.heap[i]?) (x y : Value) : OwnX ((w.setCell ⟨B, 0, none⟩ x).setCell ⟨B, 1, none⟩ y) base v l :=
  h.by fun i h1 h2 => by rw [Below.heap_setCell _ ⟨B, 1, none⟩ y i (fun e => by simp only at e; omega), Below.heap_setCell _ ⟨B, 0, none⟩ x i (fun e => by simp only at e; omega)]; exact hk i h1 h2
theorem OwnX.away4 {w : World} {base B : Nat} {v : Value} {l : List Rl} (h : OwnX w base v l) (hB : B < base) (x y z u : Value) : OwnX ((((w.setCell ⟨B, 0, none⟩ x).setCell ⟨B, 1, none⟩ y).setCell ⟨B, 2, none⟩ z).setCell ⟨B, 3, none⟩ u) base v l :=
  h.by fun i h1 h2 => by rw [Below.heap_setCell _ ⟨B, 3, none⟩ u i (fun e => by simp only at e; omega), Below.heap_setCell _ ⟨B, 2, none⟩ z i (fun e => by simp only at e; omega), Below.heap_setCell _ ⟨B, 1, none⟩ y i (fun e => by simp only at e; omega), Below.heap_setCell _ ⟨B, 0, none⟩ x i (fun e => by simp only at e; omega)]
set_option maxHeartbeats 1000000 in
theorem l09Rolls_neg (p c h s : Int) (w : World) (hs : s < 0) :
    Calls Try.prog 55 #[.agg #[.int .i64 p, .int .i64 c, .int .i64 h, .int .i64 s]] w fun e w' => ∃ a k, e = .returned (.slice a 0 k) ∧ Below w.heap.size w w' := by
  have BV := Blk.new w #[.int .i64 p, .int .i64 c, .int .i64 h, .int .i64 s] 27
  have hb : Below w.heap.size w (w.alloc (.cells #[.int .i64 p, .int .i64 c, .int .i64 h, .int .i64 s] 27)) := (Below.refl _ _).alloc (Nat.le_refl _) _
  go_enter Try.func55, Try.ntmps55
  go_wp2_with fail
  generalize (w.alloc (.cells #[.int .i64 p, .int .i64 c, .int .i64 h, .int .i64 s] 27)) = v0 at *
  go_loopg [3, 4, 5] 0 (fun m q3 q4 q5 wr => m = 0 ∧ q4 = .int .i64 1 ∧ q3 = .slice (some ⟨w.heap.size + 1, 0, none⟩) 0 0 ∧ Below v0.heap.size v0 wr)
  case atStart => exact ⟨rfl, rfl, rfl, (Below.refl _ _).alloc (Nat.le_refl _) _⟩
  case round =>
    obtain ⟨rfl, rfl, rfl, hbel⟩ := hrel
    obtain ⟨x0, x1, x2, x3, xf, xl⟩ := (BV.below hbel).four
    have hlt' : s < 1 := by omega
    go_wp2
    go_ret
    exact ⟨_, _, rfl, hb.trans (hbel.mono hb.size)⟩
theorem l09Rolls_count (p c h s : Int) (hs : s ≤ 6) : ∃ n : Nat, n ≤ 36 ∧ ∀ w, Calls Try.prog 55 #[.agg #[.int .i64 p, .int .i64 c, .int .i64 h, .int .i64 s]] w fun e w' => ∃ a k, e = .returned (.slice a n k) ∧ Below w.heap.size w w' := by
  by_cases h0 : s < 0
  · exact ⟨0, by omega, fun w => l09Rolls_neg p c h s w h0⟩
  · obtain ⟨S, rfl⟩ := Int.eq_ofNat_of_zero_le (by omega : 0 ≤ s)
    have h1 := rollsTo_length S
    have h2 : S * S ≤ 6 * 6 := Nat.mul_le_mul (by omega) (by omega)
    exact ⟨(rollsTo S).length, by omega, fun w => (l09Rolls_any p c h S w (by omega)).mono (by rintro e w' ⟨a, k, rfl, -, hb⟩; exact ⟨a, k, rfl, hb⟩)⟩
/-- A variant and a list of numbers have been drawn from a code. -/
def MeNew (w : World) (e : Ending) (w' : World) : Prop := ∃ (p c h s : Int) (va : Option Addr) (kv : Nat) (X : List Rl), e = .returned (.tuple #[.agg #[.int .i64 p, .int .i64 c, .int .i64 h, .int .i64 s], .slice va X.length kv]) ∧ X.length ≤ 37 ∧ (∀ r ∈ X, -9223372036854775808 ≤ r.2 ∧ r.2 ≤ 9223372036854775807) ∧ OX w' va X ∧ Below w.heap.size w w'
set_option maxRecDepth 8000 in
set_option maxHeartbeats 1000000 in
theorem drawMean9_any (B : Nat) (a : Option Addr) (len cap : Nat) (w : World) (hB : B ≤ w.heap.size) (hlen : len ≤ 1048576) (hcode : CodeIn B w a len) :
    Calls Try.prog 36 #[.slice a len cap] w (MeNew w) := by
  have RV := Blk.new w #[.int .i64 0, .int .i64 0, .int .i64 0, .int .i64 0] 27
  have hb : Below w.heap.size w (w.alloc (.cells #[.int .i64 0, .int .i64 0, .int .i64 0, .int .i64 0] 27)) := (Below.refl _ _).alloc (Nat.le_refl _) _
  have hz : (w.alloc (.cells #[.int .i64 0, .int .i64 0, .int .i64 0, .int .i64 0] 27)).heap.size = w.heap.size + 1 := by simp
  have hc1 := hcode.below (hb.mono hB)
  go_enter Try.func36, Try.ntmps36
  go_wp2_with fail
  generalize (w.alloc (.cells #[.int .i64 0, .int .i64 0, .int .i64 0, .int .i64 0] 27)) = v0 at *
  refine (from_any B a len cap _ (by omega) hlen hc1).mono ?_
  rintro e w1 ⟨g, rfl, hg, hS, hb1⟩
  replace RV := RV.below hb1
  replace hb := chain hb hb1
  have hgw : w.heap.size < g := by omega
  clear hb1 hc1
  go_wp2_with fail
  refine (draw9Variant_any B g a len cap _ hS).mono ?_
  rintro e w2 ⟨p, c, h, s, rfl, hS, hg2⟩
  have hl2 := hS.lt
  replace RV := RV.grown hg2 (by omega)
  replace hb := chain_grown hb hg2 (by omega)
  have Bv := Blk.new w2 #[.int .i64 p, .int .i64 c, .int .i64 h, .int .i64 s] 27
  have hl3 := RV.lt
  replace RV := RV.alloc (.cells #[.int .i64 p, .int .i64 c, .int .i64 h, .int .i64 s] 27)
  replace hS := hS.alloc (.cells #[.int .i64 p, .int .i64 c, .int .i64 h, .int .i64 s] 27)
  replace hb := chain_alloc hb (.cells #[.int .i64 p, .int .i64 c, .int .i64 h, .int .i64 s] 27)
  obtain ⟨n, hn, hrc⟩ := l09Rolls_count 0 0 0 (min s 6) (by omega)
  have HRC := Lib.hid hrc
  clear hrc
  obtain ⟨x0, x1, x2, x3, xf, xl⟩ := Bv.four
  have hO := OwnX.start (w2.alloc (.cells #[.int .i64 p, .int .i64 c, .int .i64 h, .int .i64 s] 27))
  have hbs : (w2.alloc (.cells #[.int .i64 p, .int .i64 c, .int .i64 h, .int .i64 s] 27)).heap.size = w2.heap.size + 1 := by simp
  rw [hbs] at hO
  go_wp2_with fail
  clear x0 x1 x2 x3 xf xl
  replace RV := RV.alloc (.cells #[] 29)
  replace Bv := Bv.alloc (.cells #[] 29)
  replace hS := hS.alloc (.cells #[] 29)
  replace hb := chain_alloc hb (.cells #[] 29)
  generalize (w2.alloc (.cells #[.int .i64 p, .int .i64 c, .int .i64 h, .int .i64 s] 27)).alloc (.cells #[] 29) = w3 at *
  refine (HRC.out _).mono ?_
  rintro e w4 ⟨ar, kr, rfl, hb4⟩
  replace RV := RV.below hb4
  replace Bv := Bv.below hb4
  replace hS := hS.below hb4
  replace hO := hO.by (fun i h1 h2 => hb4.block i h2)
  replace hb := chain hb hb4
  have hsv := Bv.lt
  clear hb4 hg2 HRC hbs hz
  generalize w2.heap.size = gv at *
  go_wp2_with fail
  go_loopg [6, 8] n (fun mm q6 q8 wr => ∃ (j : Nat) (L : List Rl), j ≤ n ∧ mm = n - j ∧ q8 = .int .i64 (j : Int) ∧ L.length = j ∧ OwnX wr (gv + 1) q6 L ∧ Hid (∀ r ∈ L, -9223372036854775808 ≤ r.2 ∧ r.2 ≤ 9223372036854775807) ∧ Src B wr g a len cap ∧ Blk wr gv #[.int .i64 p, .int .i64 c, .int .i64 h, .int .i64 s] 27 ∧ Blk wr w.heap.size #[.int .i64 0, .int .i64 0, .int .i64 0, .int .i64 0] 27 ∧ Below w.heap.size w wr)
  case atStart => exact ⟨0, [], by omega, by omega, rfl, rfl, hO, Lib.hid (by simp), hS, Bv, RV, hb⟩
  case round =>
    clear hO hS Bv RV hb hsv
    obtain ⟨j, L, hj, hm, rfl, hL, hO, HL, hS, Bv, RV, hb⟩ := hrel
    have hsv := Bv.lt
    by_cases hlt : j < n
    · have hlt' : (j : Int) < (n : Int) := by omega
      go_wp2_with fail
      refine (next_any B g a len cap 3 _ hS (by omega)).mono ?_
      rintro e w5 ⟨r5, rfl, l5, u5, hS, hg5⟩
      replace RV := RV.grown hg5 (by omega)
      replace Bv := Bv.grown hg5 (by omega)
      replace hO := hO.grown hg5 (by omega)
      replace hb := chain_grown hb hg5 (by omega)
      clear hg5
      have Bx := Blk.new w5 #[.int .i64 r5, .int .i64 0] 29
      have hsl5 := hS.lt
      have hsv5 := Bv.lt
      have hO5 := hO
      have hG6 : w5.grownBy (w5.alloc (.cells #[.int .i64 r5, .int .i64 0] 29)) (some g) := World.grownBy_alloc w5 _ (some g)
      replace RV := RV.alloc (.cells #[.int .i64 r5, .int .i64 0] 29)
      replace Bv := Bv.alloc (.cells #[.int .i64 r5, .int .i64 0] 29)
      replace hS := hS.alloc (.cells #[.int .i64 r5, .int .i64 0] 29)
      replace hO := hO.alloc (.cells #[.int .i64 r5, .int .i64 0] 29)
      replace hb := chain_alloc hb (.cells #[.int .i64 r5, .int .i64 0] 29)
      go_wp2_with fail
      generalize w5.alloc (.cells #[.int .i64 r5, .int .i64 0] 29) = w6 at *
      refine (next_any B g a len cap 3 _ hS (by omega)).mono ?_
      rintro e w7 ⟨r7, rfl, l7, u7, hS, hg7⟩
      have hx6 := Bx.lt
      replace Bx := Bx.grown hg7 (by omega)
      replace hG6 := grown_trans hG6 hg7
      replace RV := RV.grown hg7 (by omega)
      replace Bv := Bv.grown hg7 (by omega)
      replace hO := hO.grown hg7 (by omega)
      replace hb := chain_grown hb hg7 (by omega)
      clear hg7
      generalize hgx : w5.heap.size = gx at *
      by_cases c7 : 0 < r7
      · obtain ⟨x0, x1, x2, x3, xf, xl⟩ := Bv.four
        go_wp2_with fail
        clear x0 x1 x2 x3 xf xl
        refine (draw9Exact_any B g a len cap p c h s _ hS).mono ?_
        rintro e w8 ⟨xn, xd, rfl, hxd, hS, hg8⟩
        have hx7 := Bx.lt
        replace Bx := Bx.grown hg8 (by omega)
        replace hG6 := grown_trans hG6 hg8
        replace RV := RV.grown hg8 (by omega)
        replace Bv := Bv.grown hg8 (by omega)
        replace hO := hO.grown hg8 (by omega)
        replace hb := chain_grown hb hg8 (by omega)
        clear hg8
        have hOt := hO5.far2 (B := gx) (by omega) (fun i h1 h2 => hG6.block i h2 (fun e => by cases e; omega)) (.int .i64 xn) (.int .i64 xd)
        have RVt := RV.far2 (B := gx) (by omega) (.int .i64 xn) (.int .i64 xd)
        have Bvt := Bv.far2 (B := gx) (by omega) (.int .i64 xn) (.int .i64 xd)
        have hSt := (hS.set (g' := gx) (o := 0) (v := .int .i64 xn) (by omega) (by omega)).set (g' := gx) (o := 1) (v := .int .i64 xd) (by omega) (by omega)
        have hbt := belowFar2 hb (B := gx) (by omega) (.int .i64 xn) (.int .i64 xd)
        have BRn := Bx.set2 (.int .i64 xn) (.int .i64 xd)
        obtain ⟨b0, b1, bf, bl⟩ := Bx.two
        obtain ⟨u0, u1, uf, ul⟩ := BRn.two
        have hLl : L.length ≤ 1048576 := by omega
        have hsz : gv + 1 ≤ ((w8.setCell ⟨gx, 0, none⟩ (.int .i64 xn)).setCell ⟨gx, 1, none⟩ (.int .i64 xd)).heap.size := by have := Bvt.lt; omega
        clear hgx hG6
        go_wp2_with (at_builtin; go_loud (refine wp_pushX rfl _ _ rfl (gv + 1) _ L rfl hOt (xn, xd) rfl (by simp) hLl hsz ?_; intro v2 w9 hO2 hb9))
        go_roundg (n - (j + 1))
        case measure => omega
        case rel => exact ⟨j + 1, L ++ [(xn, xd)], by omega, rfl, by go_num, by simp [hL], hO2, Lib.hid (by intro r hr; rw [List.mem_append] at hr; rcases hr with hr | hr; exact HL.out r hr; simp at hr; subst hr; exact hxd), hSt.keepB (by omega) hb9, Bvt.keepB (by omega) hb9, RVt.keepB (by omega) hb9, hbt.trans (hb9.mono (by omega))⟩
      · obtain ⟨b0, b1, bf, bl⟩ := Bx.two
        have hLl : L.length ≤ 1048576 := by omega
        have hsz : gv + 1 ≤ w7.heap.size := by have := Bv.lt; omega
        go_wp2_with (at_builtin; go_loud (refine wp_pushX rfl _ _ rfl (gv + 1) _ L rfl hO (r5, 0) rfl rfl hLl hsz ?_; intro v2 w9 hO2 hb9))
        go_roundg (n - (j + 1))
        case measure => omega
        case rel => exact ⟨j + 1, L ++ [(r5, 0)], by omega, rfl, by go_num, by simp [hL], hO2, Lib.hid (by intro r hr; rw [List.mem_append] at hr; rcases hr with hr | hr; exact HL.out r hr; simp at hr; subst hr; dsimp only; omega), hS.keepB (by omega) hb9, Bv.keepB (by omega) hb9, RV.keepB (by omega) hb9, hb.trans (hb9.mono (by omega))⟩
    · have hjn : j = n := by omega
      go_wp2_with fail
      refine (next_any B g a len cap 16 _ hS (by omega)).mono ?_
      rintro e w5 ⟨r5, rfl, l5, u5, hS, hg5⟩
      replace RV := RV.grown hg5 (by omega)
      replace Bv := Bv.grown hg5 (by omega)
      replace hO := hO.grown hg5 (by omega)
      replace hb := chain_grown hb hg5 (by omega)
      clear hg5
      have hsz : gv + 1 ≤ w5.heap.size := by have := Bv.lt; omega
      have hLl : L.length ≤ 1048576 := by omega
      have hL36 : L.length ≤ 36 := by omega
      by_cases c5 : r5 = 0
      · subst c5
        clear hL
        go_wp2_with (at_builtin; go_loud (refine wp_pushX rfl _ _ rfl (gv + 1) _ L rfl hO (0, 0) rfl rfl hLl hsz ?_; intro v2 w9 hO2 hb9; obtain ⟨a2, k2, rfl⟩ := hO2.form; replace Bv := Bv.keepB (by omega) hb9; replace RV := RV.keepB (by omega) hb9; obtain ⟨x0, x1, x2, x3, xf, xl⟩ := Bv.four; obtain ⟨y0, y1, y2, y3, yf, yl⟩ := RV.four))
        have SRV := RV.put4 (.int .i64 p) (.int .i64 c) (.int .i64 h) (.int .i64 s)
        obtain ⟨t0, t1, t2, t3, tf, tl⟩ := SRV.four
        refine bodyPost_ret (v := .tuple #[.agg #[.int .i64 p, .int .i64 c, .int .i64 h, .int .i64 s], .slice a2 (L ++ [((0 : Int), (0 : Int))]).length k2]) (by simp [results, Try.results36, go_sem, t0, t1, t2, t3]) rfl ?_
        exact ⟨p, c, h, s, a2, k2, L ++ [(0, 0)], rfl, by simp; omega, by intro r hr; rw [List.mem_append] at hr; rcases hr with hr | hr; exact HL.out r hr; simp at hr; subst hr; dsimp only; omega, (hO2.away4 (by omega) _ _ _ _).ox, belowFar4 (hb.trans (hb9.mono (by omega))) (Nat.le_refl _) _ _ _ _⟩
      · have f0 : (r5 == 0) = false := by rw [beq_eq_false_iff_ne]; exact c5
        clear hL
        obtain ⟨a2, k2, rfl⟩ := hO.form
        obtain ⟨x0, x1, x2, x3, xf, xl⟩ := Bv.four
        obtain ⟨y0, y1, y2, y3, yf, yl⟩ := RV.four
        go_wp2_with fail
        have SRV := RV.put4 (.int .i64 p) (.int .i64 c) (.int .i64 h) (.int .i64 s)
        obtain ⟨t0, t1, t2, t3, tf, tl⟩ := SRV.four
        refine bodyPost_ret (v := .tuple #[.agg #[.int .i64 p, .int .i64 c, .int .i64 h, .int .i64 s], .slice a2 L.length k2]) (by simp [results, Try.results36, go_sem, t0, t1, t2, t3]) rfl ?_
        exact ⟨p, c, h, s, a2, k2, L, rfl, by omega, HL.out, (hO.away4 (by omega) _ _ _ _).ox, belowFar4 hb (Nat.le_refl _) _ _ _ _⟩
end Go.Proofs.Ytgifkopgnpdkiaa
