/- The best race result loses nothing and no result gains: for every code the law of chapter 12 returns true and its argument reads behind the call as it read before. No conditions. -/
import Derived.Test.YtnlclmlnpkncoaaGreatW46
import Derived.Test.YtnlclmlnpkncoaaGreatW47
import Derived.Test.YtnlclmlnpkncoaaGreatW29
import Derived.Deep.Cut
import Derived.Deep.CutRange
import Derived.BigQuiet
import Derived.ArgAppend
import Derived.Laws.StructEq
import Derived.Test.YtnlclmlnpkncoaaGreatRows
import Derived.ChangeOld
namespace Go.Proofs.YtnlclmlnpkncoaaGreat
open Go.ChangeMaps (open_string shut_string)
open Go.ChangeShapes Go.WideShapes Go.ChangeAt Go.RowKit
set_option linter.unusedVariables false
set_option linter.unusedSimpArgs false
set_option maxRecDepth 4000
theorem code_of_ints {w : World} {x : Addr} {len : Nat} {zs : List Int} (hl : len ≤ zs.length) (_hz : True) (hcell : ∀ i, i < zs.length → w.cell? (x.add i) = some (.int .u8 (zs.getD i 0))) (hwz : ∀ n ∈ zs, (Lit.int .u8 n).wf = true) : CodeIn w.heap.size w (some x) len := by
  intro i hi
  obtain ⟨b, o, spot⟩ := x
  have hc := hcell i (by omega)
  have hspot : spot = none := by
    have hc0 := hcell 0 (by omega)
    simpa [Addr.add] using World.cell?_spot hc0
  subst hspot
  rw [show (⟨b, o, none⟩ : Addr).add i = ⟨b, o + i, none⟩ from by unfold Addr.add; split <;> simp_all] at hc
  have hm : zs.getD i 0 ∈ zs := by
    have : i < zs.length := by omega
    simp [List.getD, this]
  have hw := hwz _ hm
  have hr : 0 ≤ zs.getD i 0 ∧ zs.getD i 0 ≤ 255 := by simpa [Lit.wf, IntKind.min, IntKind.max, IntKind.signed, IntKind.bits] using hw
  exact ⟨b, o, zs.getD i 0, rfl, World.block_lt_of_cell? w _ hc, hc, hr.1, hr.2⟩
theorem bigR_any (a : Option Addr) (len cap : Nat) (w : World) :
    Calls Tryz.prog 5 #[.slice a len cap] w fun e w' => e = .returned (.bool (decide (4096 < (len : Int)))) ∧ w = w' := by
  go_enter Tryz.func5, Tryz.ntmps5
  go_wp2
  go_ret
  exact ⟨rfl, rfl⟩
theorem VRow.byL {w w' : World} {g : Nat} {vs : List Value} {t : TypeId} (h : VRow w g vs t) (e : w'.heap[g]? = w.heap[g]?) : VRow w' g vs t := by
  obtain ⟨cur, hB, r⟩ := h
  exact ⟨cur, e.trans hB, r⟩
theorem OXl.setLo {lo hi g o : Nat} {w : World} {v : Value} {a : Option Addr} {l : List Rl} (h : OXl lo hi w a l) (hg : g < lo) : OXl lo hi (w.setCell ⟨g, o, none⟩ v) a l := by
  rcases h with h | ⟨b, rfl, h1, h2, r⟩
  · exact .inl h
  · exact .inr ⟨b, rfl, h1, h2, VRow.other r (by omega)⟩
theorem ORl.setLo {lo hi g o : Nat} {w : World} {v : Value} {a : Option Addr} {l : List Rl} (h : ORl lo hi w a l) (hg : g < lo) : ORl lo hi (w.setCell ⟨g, o, none⟩ v) a l := by
  rcases h with h | ⟨b, rfl, h1, h2, r⟩
  · exact .inl h
  · exact .inr ⟨b, rfl, h1, h2, VRow.other r (by omega)⟩
theorem OwnX.setLo {base g o : Nat} {w : World} {v u : Value} {l : List Rl} (h : OwnX w base u l) (hg : g < base) : OwnX (w.setCell ⟨g, o, none⟩ v) base u l := h.by fun i h1 _ => Below.heap_setCell _ _ _ _ (by show i ≠ g; omega)
theorem OXl.belowL {lo hi B : Nat} {w w' : World} {a : Option Addr} {l : List Rl} (h : OXl lo hi w a l) (hb : Below B w w') (hh : hi ≤ B) : OXl lo hi w' a l := by
  rcases h with h | ⟨b, rfl, h1, h2, r⟩
  · exact .inl h
  · exact .inr ⟨b, rfl, h1, h2, VRow.byL r (hb.block b (by omega))⟩
theorem ORl.belowL {lo hi B : Nat} {w w' : World} {a : Option Addr} {l : List Rl} (h : ORl lo hi w a l) (hb : Below B w w') (hh : hi ≤ B) : ORl lo hi w' a l := by
  rcases h with h | ⟨b, rfl, h1, h2, r⟩
  · exact .inl h
  · exact .inr ⟨b, rfl, h1, h2, VRow.byL r (hb.block b (by omega))⟩
theorem OSl.keepL {lo hi : Nat} {w w' : World} {a : Option Addr} {l : List Int} (h : OSl lo hi w a l) (hk : ∀ i, lo ≤ i → i < w.heap.size → w'.heap[i]? = w.heap[i]?) : OSl lo hi w' a l := by
  rcases h with h | ⟨b, rfl, h1, h2, r⟩
  · exact .inl h
  · exact .inr ⟨b, rfl, h1, h2, by obtain ⟨cur, hB, q⟩ := r; exact ⟨cur, (hk b h1 (Blk.lt hB)).trans hB, q⟩⟩
theorem OXl.oxL {lo hi : Nat} {w : World} {a : Option Addr} {l : List Rl} (h : OXl lo hi w a l) : OX w a l := by
  rcases h with h | ⟨b, rfl, h1, h2, r⟩
  · exact .inl h
  · exact .inr ⟨b, rfl, r⟩
theorem stoL {w : World} {B : Nat} {a b : Value} {t : TypeId} (h : Blk w B #[a, b] t) (x y : Value) : Blk ((w.setCell ⟨B, 0, none⟩ x).setCell ⟨B, 1, none⟩ y) B #[x, y] t := by
  have := (h.set (i := 0) x).set (i := 1) y
  simp only [List.setIfInBounds_toArray, List.set_cons_zero, List.set_cons_succ] at this
  exact this
theorem belowOffL {w w' : World} {m B : Nat} (h : Below m w w') (hB : m ≤ B) (x y : Value) : Below m w ((w'.setCell ⟨B, 0, none⟩ x).setCell ⟨B, 1, none⟩ y) := (h.setCell (p := ⟨B, 0, none⟩) hB x).setCell (p := ⟨B, 1, none⟩) hB y
theorem lpV_lengthL (len : Nat) (bs : Nat → Int) : ∀ (m : Nat) (xs ys : List Int) (st : Nat × Int), (lpV len bs m xs ys st).1.1.length = xs.length ∧ (lpV len bs m xs ys st).1.2.length = ys.length
  | 0, xs, ys, st => ⟨rfl, rfl⟩
  | m + 1, xs, ys, st => by
    unfold lpV
    split
    · have q := lpV_lengthL len bs m (fxL xs) (fxL ys) (nxV len bs st 8).2
      rw [fxL_length, fxL_length] at q
      exact q
    · exact ⟨rfl, rfl⟩
theorem qlV_lengthL (len : Nat) (bs : Nat → Int) : (qlV len bs).2.1.length ≤ 25 ∧ (qlV len bs).2.2.length ≤ 25 := by
  have hb := (dv_bnd len bs (frS len bs)).2
  unfold qlV ldV
  dsimp only
  rw [(lpV_lengthL len bs 2 _ _ _).1, (lpV_lengthL len bs 2 _ _ _).2]
  exact ⟨(dlV_length _ _ _ _ _ hb.1).2, (dlV_length _ _ _ _ _ hb.1).2⟩
theorem step_pushAllK {ops : Array Oper} {o : Oper} {a : Act} {w : World} {K : Act → World → Prop} {Q : Exit → Act → World → Prop} {E : Prop} (hgd : o.guard = none) (s x : Operand)
    (ho : o.op = .call { callee := .builtin .append, args := #[s, x], argTypes := #[26, 26] })
    (base : Nat) (v : Value) (D : List Int) (hs : a.eval s = v) (hown : Own w base v D) (ad : Option Addr) (ys : List Int) (m c : Nat) (hx : a.eval x = .slice ad m c) (hm : ys.length = m) (hr : IRow w ad ys) (hpos : 0 < m)
    (hl : D.length + m ≤ 1048576) (hbase : base ≤ w.heap.size)
    (h : ∀ v' w', Own w' base v' (D ++ ys) → Below base w w' → (∀ k, k < w.heap.size → v.ownBlock ≠ some k → w'.heap[k]? = w.heap[k]?) → K (a.put o.dst v') w') :
    if Region.wanted o (yielded ops a.tmps) = true then Oper.wp Tryz.prog o a w K Q else E := by
  obtain ⟨i0, hi, hz0, hz1, hz2⟩ := info_parts infoI64
  obtain ⟨b, off, rfl, -⟩ := hr 0 (by omega)
  subst hm
  refine step_append_lies w hgd s x 26 ho base 2 i0 (.int .i64 0) 1 8 Tryz.underlying26 hi hz0 hz1 hz2 rfl (by decide) v D.length (ints D) hs hown ⟨b, off, none⟩ ys.length c (ints ys) hx (by simp [ints]) ?_ ints_one hpos (by unfold maxLen; omega) (by omega) hbase w.heap.size rfl ?_
  · intro j u hj
    obtain ⟨hlt, rfl⟩ := List.getElem?_eq_some_iff.1 hj
    have hlt2 : j < ys.length := by simpa [ints] using hlt
    obtain ⟨b', o', e, hc⟩ := hr j hlt2
    simp at e
    obtain ⟨rfl, rfl⟩ := e
    rw [show (⟨b, off, none⟩ : Addr).add j = ⟨b, off + j, none⟩ from by unfold Addr.add; split <;> simp_all, hc]
    simp [ints, hlt2]
  · intro g cap w' hown' hgrow _ _
    refine h _ w' ?_ ((Below.refl base w).grown hgrow hbase (fun k hk => (World.ownsRow.lt hown k hk).1)) (fun k hk hne => hgrow.block k hk (fun hh => hne hh.symm))
    show w'.ownsRow base 2 1 _ (D ++ ys).length (ints (D ++ ys))
    rw [show (D ++ ys).length = D.length + ys.length by simp, show ints (D ++ ys) = ints D ++ ints ys by simp [ints]]
    exact hown'
theorem brV_short {p c h s ra rb : Int} {xs ys B : List Int} {cc : Int} (hb : brV p c h s xs ys ra rb = (B, cc)) (hl : xs.length ≤ 25) : B.length ≤ 25 := by
  by_cases e : cc = 0
  · subst e
    obtain ⟨L, X, Z, -, -, -, -, -, -, -, -, e8, -⟩ := loss_all hb
    omega
  · unfold brV brO at hb
    split at hb
    · split at hb
      · simp only [Prod.mk.injEq] at hb
        exact absurd hb.2.symm e
      · simp only [Prod.mk.injEq] at hb
        rw [← hb.1]
        simp
    · simp only [Prod.mk.injEq] at hb
      rw [← hb.1]
      simp
def Kp (b : Nat) (w w' : World) : Prop := ∀ i, i ≠ b ∧ i ≠ b + 1 → i < w.heap.size → w'.heap[i]? = w.heap[i]?
theorem Kp.of (b : Nat) {w w' : World} (h : Below w.heap.size w w') : Kp b w w' := fun i _ h2 => h.block i h2
theorem Kp.refl (b : Nat) (w : World) : Kp b w w := fun i _ h2 => rfl
theorem Kp.drew {b : Nat} {w w' : World} (h : Kp b w w') : Kp b w w'.drew := h
theorem Kp.set {b g o : Nat} {w w' : World} {v : Value} (h : Kp b w w') (hg : g = b ∨ g = b + 1) : Kp b w (w'.setCell ⟨g, o, none⟩ v) := fun i h1 h2 => (Below.heap_setCell _ _ _ _ (by show i ≠ g; omega)).trans (h i h1 h2)
theorem Kp.trans {b0 : Nat} {a b c : World} (h : Kp b0 a b) (hs : a.heap.size ≤ b.heap.size) (k : Kp b0 b c) : Kp b0 a c := fun i h1 h2 => (k i h1 (by omega)).trans (h i h1 h2)
theorem OSl.kp {b0 l u : Nat} {w w' : World} {a : Option Addr} {xs : List Int} (h : OSl l u w a xs) (k : Kp b0 w w') (hl : b0 + 2 ≤ l) : OSl l u w' a xs := by
  rcases h with h | ⟨b, rfl, h1, h2, r⟩
  · exact .inl h
  · exact .inr ⟨b, rfl, h1, h2, by obtain ⟨cur, hB, q⟩ := r; exact ⟨cur, (k b (by omega) (Blk.lt hB)).trans hB, q⟩⟩
theorem OXl.kp {b0 l u : Nat} {w w' : World} {a : Option Addr} {xs : List Rl} (h : OXl l u w a xs) (k : Kp b0 w w') (hl : b0 + 2 ≤ l) : OXl l u w' a xs := by
  rcases h with h | ⟨b, rfl, h1, h2, r⟩
  · exact .inl h
  · exact .inr ⟨b, rfl, h1, h2, VRow.byL r (k b (by omega) (VRow.lt r))⟩
theorem Blk.kp {b g : Nat} {w w' : World} {vs : Array Value} {t : TypeId} (h : Blk w g vs t) (k : Kp b w w') (hl : g ≠ b ∧ g ≠ b + 1) : Blk w' g vs t := (k g hl (Blk.lt h)).trans h
theorem VRow.kp {b g : Nat} {w w' : World} {vs : List Value} {t : TypeId} (h : VRow w g vs t) (k : Kp b w w') (hl : g ≠ b ∧ g ≠ b + 1) : VRow w' g vs t := VRow.byL h (k g hl (VRow.lt h))
theorem Row.kpL {b g : Nat} {w w' : World} {xs : List Int} (h : Row w g xs) (k : Kp b w w') (hl : g ≠ b ∧ g ≠ b + 1) : Row w' g xs := by
  obtain ⟨cur, hB, q⟩ := h
  exact ⟨cur, (k g hl (Blk.lt hB)).trans hB, q⟩
theorem QAll.kp {b l u : Nat} {w w' : World} {xs : List PQ} (h : QAll l u w xs) (k : Kp b w w') (hl : b + 2 ≤ l) : QAll l u w' xs := fun x hx => by
  obtain ⟨q1, q2, r⟩ := h x hx
  exact ⟨q1, q2, r.kpL k (by omega)⟩
theorem VRow.neL {w : World} {g b : Nat} {vs : List Value} {us : Array Value} {t u : TypeId} (h : VRow w g vs t) (k : Blk w b us u) (hne : t ≠ u) : g ≠ b := fun e => by
  subst e
  obtain ⟨cur, hB, -⟩ := h
  have q := hB.symm.trans k
  simp only [Option.some.injEq, Obj.cells.injEq] at q
  exact hne q.2.1
set_option maxRecDepth 8000 in
set_option maxHeartbeats 8000000 in
theorem fnLosses_walk (a : Option Addr) (len cap : Nat) (w : World) (hcode : CodeIn w.heap.size w a len) :
    Calls Tryz.prog 4 #[.slice a len cap] w fun e w' => e = .returned (.bool true) ∧ Below w.heap.size w w' := by
  by_cases hbig : 4096 < len
  · have f0 : decide (4096 < (len : Int)) = true := by simp; omega
    go_enter Tryz.func4, Tryz.ntmps4
    go_wp2_with fail
    refine (bigR_any _ _ _ _).mono ?_
    rintro e w1 ⟨rfl, rfl⟩
    go_wp2
    go_ret
    exact ⟨rfl, Below.refl _ _⟩
  · have f0 : decide (4096 < (len : Int)) = false := by simp; omega
    go_enter Tryz.func4, Tryz.ntmps4
    go_wp2_with fail
    refine (bigR_any _ _ _ _).mono ?_
    rintro e w0 ⟨rfl, rfl⟩
    go_wp2_with fail
    obtain ⟨bs, hcs⟩ := hcode.is
    have hD0 := fun W (hb : Below w.heap.size w W) => drawBestD_any w.heap.size a len cap W hb.size (by omega) bs (hcs.below hb)
    have hln : (bqV len bs).1.2.1.length ≤ 25 ∧ (bqV len bs).1.2.2.length ≤ 25 := qlV_lengthL len bs
    obtain ⟨⟨⟨⟨p, c, h, s⟩, xs, ys⟩, ra, rb⟩, hq⟩ : ∃ q, bqV len bs = q := ⟨_, rfl⟩
    rw [hq] at hD0 hln
    dsimp only at hln
    obtain ⟨hxl, hyl⟩ := hln
    have hD : ∀ W, Below w.heap.size w W → Calls Tryz.prog 13 #[.slice a len cap] W fun e w' => ∃ (aL aM : Option Addr) (kL kM lo m n : Nat), e = .returned (.tuple #[.agg #[.int .i64 p, .int .i64 c, .int .i64 h, .int .i64 s], .slice aL xs.length kL, .slice aM ys.length kM, .agg #[.int .i64 ra, .int .i64 rb]]) ∧ OSl lo m w' aL xs ∧ OSl m n w' aM ys ∧ W.heap.size ≤ lo ∧ lo ≤ m ∧ n ≤ w'.heap.size ∧ xs.length ≤ kL ∧ ys.length ≤ kM ∧ Below W.heap.size W w' := hD0
    have HD := Lib.hid hD
    clear hbig f0 hcode hcs hD hD0 hq
    have hi := fun (W : World) (b1 b2 : Option Addr) (k1 k2 : Nat) (r1 : IRow W b1 xs) (r2 : IRow W b2 ys) => bestRaceResult_any p c h s b1 b2 xs.length ys.length k1 k2 xs ys ra rb W rfl rfl (by omega) (by omega) r1 r2
    have hs := fun (W : World) (b1 b2 : Option Addr) (k1 k2 : Nat) (q1 : xs.length ≤ k1) (q2 : ys.length ≤ k2) (r1 : IRow W b1 xs) (r2 : IRow W b2 ys) => specBestRaceResult_any p c h s b1 b2 xs.length ys.length k1 k2 xs ys ra rb W rfl rfl (by omega) (by omega) q1 q2 r1 r2
    obtain ⟨⟨B, cc⟩, hBc⟩ : ∃ r, brV p c h s xs ys ra rb = r := ⟨_, rfl⟩
    have hB25 := brV_short hBc hxl
    rw [hBc] at hi hs
    unfold SliceGot2 at hi hs
    dsimp only at hi hs
    have hli := fun (W : World) (b1 b2 : Option Addr) (k1 k2 : Nat) (r1 : IRow W b1 B) (r2 : IRow W b2 B) => likeInts_any b1 b2 B.length k1 k2 B B W rfl rfl (by omega) r1 r2
    rw [show decide (B = B) = true by simp] at hli
    have HI := Lib.hid hi
    have HS := Lib.hid hs
    have HLI := Lib.hid hli
    have HBC := Lib.hid hBc
    clear hi hs hli hBc
    refine (HD.out _ (Below.refl _ _)).mono ?_
    rintro e w1 ⟨aL, aM, kL, kM, lo, m, n, rfl, hO, hP, -, -, -, -, -, hb⟩
    have hw1 := hb.size
    obtain ⟨BV, BR, hb2, hz⟩ := two_new w1 #[.int .i64 p, .int .i64 c, .int .i64 h, .int .i64 s] #[.int .i64 ra, .int .i64 rb] 25 39
    have rx := hO.irow.below hb2
    have ry := hP.irow.below hb2
    replace hb := chain hb hb2
    clear hO hP hb2
    obtain ⟨bv, hbv⟩ : ∃ bv, w1.heap.size = bv := ⟨_, rfl⟩
    have hbw : w.heap.size ≤ bv := by omega
    obtain ⟨x0, x1, x2, x3, xf, xl⟩ := BV.four; obtain ⟨y0, y1, yf, yl⟩ := BR.two
    go_wp2_with fail
    clear x0 x1 x2 x3 xf xl y0 y1 yf yl
    rw [hbv] at BV BR
    (try rw [hbv])
    have hszv : bv + 1 < ((w1.alloc (.cells #[.int .i64 p, .int .i64 c, .int .i64 h, .int .i64 s] 25)).alloc (.cells #[.int .i64 ra, .int .i64 rb] 39)).heap.size := BR.lt
    generalize ((w1.alloc (.cells #[.int .i64 p, .int .i64 c, .int .i64 h, .int .i64 s] 25)).alloc (.cells #[.int .i64 ra, .int .i64 rb] 39)) = w2 at *
    clear hz
    obtain ⟨x0, x1, x2, x3, xf, xl⟩ := BV.four; obtain ⟨y0, y1, yf, yl⟩ := BR.two
    (try go_wp2_with fail)
    refine (HI.out _ _ _ _ _ rx ry).mono ?_
    rintro e w3 ⟨aB, kB, rfl, oB, hb3⟩
    clear x0 x1 x2 x3 xf xl y0 y1 yf yl
    replace BV := BV.below hb3
    replace BR := BR.below hb3
    replace hb := chain hb hb3
    obtain ⟨lB, hlB⟩ : ∃ l, w2.heap.size = l := ⟨_, rfl⟩
    rw [hlB] at oB hszv
    clear rx ry hb3 HI hlB
    go_wp2_with fail
    refine (HD.out _ hb).mono ?_
    rintro e wd1 ⟨aL1, aM1, kL1, kM1, lo1, m1, n1, rfl, hO, hP, hlo, hm, hn, hkL, hkM, hbd⟩
    have hwd := hbd.size
    have hbv0 := BR.lt
    have hk := (((((((Kp.of bv hbd).set (g := bv) (o := 0) (v := .int .i64 p) (by omega)).set (g := bv) (o := 1) (v := .int .i64 c) (by omega)).set (g := bv) (o := 2) (v := .int .i64 h) (by omega)).set (g := bv) (o := 3) (v := .int .i64 s) (by omega)).set (g := (bv + 1)) (o := 0) (v := .int .i64 ra) (by omega)).set (g := (bv + 1)) (o := 1) (v := .int .i64 rb) (by omega))
    have hO6 := ((((((hO.setLo (g := bv) (o := 0) (v := .int .i64 p) (by omega)).setLo (g := bv) (o := 1) (v := .int .i64 c) (by omega)).setLo (g := bv) (o := 2) (v := .int .i64 h) (by omega)).setLo (g := bv) (o := 3) (v := .int .i64 s) (by omega)).setLo (g := (bv + 1)) (o := 0) (v := .int .i64 ra) (by omega)).setLo (g := (bv + 1)) (o := 1) (v := .int .i64 rb) (by omega))
    have hP6 := ((((((hP.setLo (g := bv) (o := 0) (v := .int .i64 p) (by omega)).setLo (g := bv) (o := 1) (v := .int .i64 c) (by omega)).setLo (g := bv) (o := 2) (v := .int .i64 h) (by omega)).setLo (g := bv) (o := 3) (v := .int .i64 s) (by omega)).setLo (g := (bv + 1)) (o := 0) (v := .int .i64 ra) (by omega)).setLo (g := (bv + 1)) (o := 1) (v := .int .i64 rb) (by omega))
    have rx := hO6.irow
    have ry := hP6.irow
    replace BV := BV.below hbd
    replace BR := BR.below hbd
    have BVn := (((BV.put4 (.int .i64 p) (.int .i64 c) (.int .i64 h) (.int .i64 s)).other (g := (bv + 1)) (o := 0) (v := .int .i64 ra) (by omega)).other (g := (bv + 1)) (o := 1) (v := .int .i64 rb) (by omega))
    have BRn := stoL ((((BR.other (g := bv) (o := 0) (v := .int .i64 p) (by omega)).other (g := bv) (o := 1) (v := .int .i64 c) (by omega)).other (g := bv) (o := 2) (v := .int .i64 h) (by omega)).other (g := bv) (o := 3) (v := .int .i64 s) (by omega)) (.int .i64 ra) (.int .i64 rb)
    have hbn := (((((((chain hb hbd).setCell (p := ⟨bv, 0, none⟩) (by dsimp only; omega) (.int .i64 p)).setCell (p := ⟨bv, 1, none⟩) (by dsimp only; omega) (.int .i64 c)).setCell (p := ⟨bv, 2, none⟩) (by dsimp only; omega) (.int .i64 h)).setCell (p := ⟨bv, 3, none⟩) (by dsimp only; omega) (.int .i64 s)).setCell (p := ⟨(bv + 1), 0, none⟩) (by dsimp only; omega) (.int .i64 ra)).setCell (p := ⟨(bv + 1), 1, none⟩) (by dsimp only; omega) (.int .i64 rb))
    have hsz : w3.heap.size ≤ ((((((wd1.setCell ⟨bv, 0, none⟩ (.int .i64 p)).setCell ⟨bv, 1, none⟩ (.int .i64 c)).setCell ⟨bv, 2, none⟩ (.int .i64 h)).setCell ⟨bv, 3, none⟩ (.int .i64 s)).setCell ⟨(bv + 1), 0, none⟩ (.int .i64 ra)).setCell ⟨(bv + 1), 1, none⟩ (.int .i64 rb)).heap.size := by
      have : wd1.heap.size = ((((((wd1.setCell ⟨bv, 0, none⟩ (.int .i64 p)).setCell ⟨bv, 1, none⟩ (.int .i64 c)).setCell ⟨bv, 2, none⟩ (.int .i64 h)).setCell ⟨bv, 3, none⟩ (.int .i64 s)).setCell ⟨(bv + 1), 0, none⟩ (.int .i64 ra)).setCell ⟨(bv + 1), 1, none⟩ (.int .i64 rb)).heap.size := by simp [World.setCell]
      omega
    obtain ⟨x0, x1, x2, x3, xf, xl⟩ := BV.four; obtain ⟨y0, y1, yf, yl⟩ := BR.two
    obtain ⟨s0, s1, s2, s3, sf, sl⟩ := BVn.four
    obtain ⟨t0, t1, tf, tl⟩ := BRn.two
    clear hO hP hO6 hP6 hlo hm hn hbd hwd hb
    go_wp2_with fail
    clear x0 x1 x2 x3 xf xl y0 y1 yf yl
    clear s0 s1 s2 s3 sf sl t0 t1 tf tl BV BR
    generalize ((((((wd1.setCell ⟨bv, 0, none⟩ (.int .i64 p)).setCell ⟨bv, 1, none⟩ (.int .i64 c)).setCell ⟨bv, 2, none⟩ (.int .i64 h)).setCell ⟨bv, 3, none⟩ (.int .i64 s)).setCell ⟨(bv + 1), 0, none⟩ (.int .i64 ra)).setCell ⟨(bv + 1), 1, none⟩ (.int .i64 rb)) = w6 at *
    replace oB := oB.kp hk (by omega)
    have BV := BVn
    have BR := BRn
    have hb := hbn
    clear BVn BRn hbn hk
    refine (HS.out _ _ _ _ _ hkL hkM rx ry).mono ?_
    rintro e w7 ⟨aW, kW, rfl, oW, hb7⟩
    replace BV := BV.below hb7
    replace BR := BR.below hb7
    replace oB := oB.below hb7
    replace rx := rx.below hb7
    replace ry := ry.below hb7
    replace hb := chain hb hb7
    clear hb7 HS hkL hkM hsz
    go_wp2_with fail
    refine (HLI.out _ _ _ _ _ oB.irow oW.irow).mono ?_
    rintro e w8 ⟨rfl, hb8⟩
    replace BV := BV.below hb8
    replace BR := BR.below hb8
    replace oB := oB.below hb8
    replace rx := rx.below hb8
    replace ry := ry.below hb8
    replace hb := chain hb hb8
    clear hb8 oW
    by_cases ca : cc = 0
    · obtain rfl : cc = 0 := ca
      obtain ⟨L, X, Z, e1, e2, e3, e4, e5, e6, e7, e8, e9, e10, e11⟩ := loss_all HBC.out
      have hx0 := loss_pos HBC.out
      have hB0 : 0 < B.length := by omega
      have hbv8 := BR.lt
      have oB2 := oB
      have rB := oB.irow
      rcases oB with ⟨_, e0⟩ | ⟨gB, rfl, lb1, lb2, -⟩
      · rw [e0] at hB0
        simp at hB0
      obtain ⟨N, hN⟩ : ∃ N, L.length = N := ⟨_, rfl⟩
      rw [hN] at e4 e5 e6 e7
      have hlb := fun (W : World) (b1 b2 b3 : Option Addr) (k1 k2 k3 : Nat) (r1 : IRow W b1 xs) (r2 : IRow W b2 ys) (r3 : IRow W b3 B) => raceLoss_any p c h s b1 b2 b3 xs.length ys.length B.length k1 k2 k3 xs ys B ra rb W rfl rfl rfl (by omega) (by omega) (by omega) r1 r2 r3
      rw [e8] at hlb
      dsimp only [xoV] at hlb
      have hbr := fun (W : World) (b1 : Option Addr) (k1 : Nat) (hk : xs.length ≤ k1) (r1 : IRow W b1 xs) => specBearoffResults_any p c h s b1 xs.length k1 xs ra rb W rfl (by omega) hk r1
      rw [e1, e2] at hbr
      unfold RowsAtC at hbr
      have hrc := fun (W : World) (b1 b2 : Option Addr) (k1 k2 : Nat) (r1 : IRow W b1 xs) (r2 : IRow W b2 ys) => resultChances_any p c h s b1 b2 xs.length ys.length k1 k2 xs ys ra rb W rfl rfl (by omega) (by omega) r1 r2
      rw [e3] at hrc
      unfold XGot at hrc
      dsimp only at hrc
      rw [e4] at hrc
      have hlz0 := fun (zs : List Int) (hz : zs.length ≤ 1048576) (gz : Nat) (W : World) (b1 b2 : Option Addr) (k1 k2 k3 : Nat) (r1 : IRow W b1 xs) (r2 : IRow W b2 ys) (r3 : IRow W (some ⟨gz, 0, none⟩) zs) => raceLoss_any p c h s b1 b2 (some ⟨gz, 0, none⟩) xs.length ys.length zs.length k1 k2 k3 xs ys zs ra rb W rfl rfl rfl (by omega) (by omega) hz r1 r2 r3
      have HLB := Lib.hid hlb
      have HBR := Lib.hid hbr
      have HRC := Lib.hid hrc
      have HLZ0 := Lib.hid hlz0
      have HN := Lib.hid hN
      have HE4 := Lib.hid e4
      have HE5 := Lib.hid e5
      have HE9 := Lib.hid e9
      have HE10 := Lib.hid e10
      have HE11 := Lib.hid e11
      clear hlb hbr hrc hlz0 hN e1 e2 e3 e4 e5 e8 e9 e10 e11 HBC HLI hx0
      obtain ⟨x0, x1, x2, x3, xf, xl⟩ := BV.four; obtain ⟨y0, y1, yf, yl⟩ := BR.two
      go_upto_region 11 with (fail)
      clear x0 x1 x2 x3 xf xl y0 y1 yf yl
      go_cut [11, 12] from 63 to 73 (fun q11 q12 wq => ∃ g, q11 = .pointer (some ⟨g, 0, none⟩) ∧ q12 = .int .i64 0 ∧ w8.heap.size ≤ g ∧ Blk wq g #[.int .i64 0, .int .i64 0] 35 ∧ Below w8.heap.size w8 wq)
      case first =>
        refine wp_region_held_drew (S := fun w' => w'.cell? ⟨bv, 0, none⟩ = some (.int .i64 p) ∧ w'.cell? ⟨bv, 1, none⟩ = some (.int .i64 c) ∧ w'.cell? ⟨bv, 2, none⟩ = some (.int .i64 h) ∧ w'.cell? ⟨bv, 3, none⟩ = some (.int .i64 s) ∧ w'.cell? ⟨(bv + 1), 0, none⟩ = some (.int .i64 ra) ∧ w'.cell? ⟨(bv + 1), 1, none⟩ = some (.int .i64 rb)) (by kernel_rfl) ⟨BV.four.1, BV.four.2.1, BV.four.2.2.1, BV.four.2.2.2.1, BR.two.1, BR.two.2.1⟩ (fun hHeld => ?_)
        clear hHeld
        have hbS : Below w8.heap.size w8 w8.drew := (Below.refl _ _).drew
        generalize w8.drew = vd at *
        have hHeld : vd.cell? ⟨bv, 0, none⟩ = some (.int .i64 p) ∧ vd.cell? ⟨bv, 1, none⟩ = some (.int .i64 c) ∧ vd.cell? ⟨bv, 2, none⟩ = some (.int .i64 h) ∧ vd.cell? ⟨bv, 3, none⟩ = some (.int .i64 s) ∧ vd.cell? ⟨(bv + 1), 0, none⟩ = some (.int .i64 ra) ∧ vd.cell? ⟨(bv + 1), 1, none⟩ = some (.int .i64 rb) := ⟨(BV.below hbS).four.1, (BV.below hbS).four.2.1, (BV.below hbS).four.2.2.1, (BV.below hbS).four.2.2.2.1, (BR.below hbS).two.1, (BR.below hbS).two.2.1⟩
        refine tk 0 64 ?_
        refine tk 1 65 ?_
        refine tk 2 66 ?_
        refine tk 3 67 ?_
        refine tk 5 69 ?_
        refine wpAnyH_ready (rs := [4, 11]) (by kernel_rfl) (by simp) ?_
        refine AllReadyH.cons (o := ⟨some 68, _, _, _, _, _⟩) rfl (fun K hK => ?_) (AllReadyH.cons (o := ⟨some 11, _, _, _, _, _⟩) rfl (fun K hK => ?_) AllReadyH.nil)
        · go_simp
          (try go_wp2_with fail)
          refine hko hK (Blk.f4 (BV.below (chain_alloc hbS (.cells #[] 2))) (Blk.l2 (BR.below (chain_alloc hbS (.cells #[] 2))))) fun hHeld => ?_
          clear hK K
          have hOw := Own.start vd
          have hE : w8.heap.size ≤ vd.heap.size := hbS.size
          replace hbS := chain_alloc hbS (.cells #[] 2)
          have hEs : vd.heap.size < (vd.alloc (.cells #[] 2)).heap.size := by simp
          generalize vd.alloc (.cells #[] 2) = wE at *
          generalize vd.heap.size = bE at *
          refine wpAnyH_ready (rs := [6, 11]) (by kernel_rfl) (by simp) ?_
          refine AllReadyH.cons (o := ⟨some 70, _, _, _, _, _⟩) rfl (fun K hK => ?_) (AllReadyH.cons (o := ⟨some 11, _, _, _, _, _⟩) rfl (fun K hK => ?_) AllReadyH.nil)
          · refine step_pushAllK rfl (.tmp 68) (.tmp 69) rfl bE _ [] rfl hOw (some ⟨gB, 0, none⟩) B B.length kB rfl rfl (rB.below hbS) hB0 (by simp; omega) (by have := hbS.size; omega) ?_
            intro va w9 hO9 hb9 hk9
            rw [List.nil_append] at hO9
            obtain ⟨aC, kC, rfl⟩ := hO9.form
            have rC := hO9.osl.irow
            replace hbS := hbS.trans (hb9.mono (show w8.heap.size ≤ bE by omega))
            clear hO9 hb9 hk9 hOw
            refine hko hK (Blk.f4 (BV.below hbS) (Blk.l2 (BR.below hbS))) fun hHeld => ?_
            clear hK K
            refine wpAnyH_ready (rs := [7, 11]) (by kernel_rfl) (by simp) ?_
            refine AllReadyH.cons (o := ⟨some 71, _, _, _, _, _⟩) rfl (fun K hK => ?_) (AllReadyH.cons (o := ⟨some 11, _, _, _, _, _⟩) rfl (fun K hK => ?_) AllReadyH.nil)
            · go_simp
              refine (HLB.out _ _ _ _ _ _ _ (rx.below hbS) (ry.below hbS) rC).mono ?_
              rintro e w10 ⟨rfl, hb10⟩
              replace hbS := chain hbS hb10
              clear hb10 rC
              (try go_wp2_with fail)
              refine hko hK (Blk.f4 (BV.below hbS) (Blk.l2 (BR.below hbS))) fun hHeld => ?_
              clear hK K
              refine tk 8 63 ?_
              refine tk 9 72 ?_
              refine tk 10 73 ?_
              refine rdk 11 11 fun K hK => ?_
              go_simp
              (try go_wp2_with fail)
              refine hko hK (Blk.f4 (BV.below (chain_alloc hbS (.cells #[.int .i64 0, .int .i64 0] 35))) (Blk.l2 (BR.below (chain_alloc hbS (.cells #[.int .i64 0, .int .i64 0] 35))))) fun hHeld => ?_
              clear hK K
              have B8 := Blk.new w10 #[.int .i64 0, .int .i64 0] 35
              have h8 : w8.heap.size ≤ w10.heap.size := hbS.size
              replace hbS := chain_alloc hbS (.cells #[.int .i64 0, .int .i64 0] 35)
              generalize w10.alloc (.cells #[.int .i64 0, .int .i64 0] 35) = wA at *
              generalize w10.heap.size = g8 at *
              refine rdn 12 fun K hK => ?_
              clear hHeld
              obtain ⟨z0, z1, zf, zl⟩ := B8.two
              have Shb := belowOffL hbS (B := g8) (by omega) (.int .i64 0) (.int .i64 0)
              have SB8 := stoL B8 (.int .i64 0) (.int .i64 0)
              go_simp
              (try go_wp2_with fail)
              refine hko hK (Blk.f4 (BV.below Shb) (Blk.l2 (BR.below Shb))) fun hHeld => ?_
              clear hK K
              clear z0 z1 zf zl hbS B8
              generalize ((wA.setCell ⟨g8, 0, none⟩ (.int .i64 0)).setCell ⟨g8, 1, none⟩ (.int .i64 0)) = wS at *
              have hbS := Shb
              have B8 := SB8
              clear Shb SB8
              refine tk 13 12 ?_
              refine wpAnyH_done (by kernel_rfl) ?_ _
              clear hHeld
              (try go_wp2_with fail)
              go_meet
              case rel => exact ⟨g8, rfl, rfl, h8, B8, hbS⟩
            · go_simp
              (try go_wp2_with fail)
              refine hko hK (Blk.f4 (BV.below (chain_alloc hbS (.cells #[.int .i64 0, .int .i64 0] 35))) (Blk.l2 (BR.below (chain_alloc hbS (.cells #[.int .i64 0, .int .i64 0] 35))))) fun hHeld => ?_
              clear hK K
              have B8 := Blk.new w9 #[.int .i64 0, .int .i64 0] 35
              have h8 : w8.heap.size ≤ w9.heap.size := hbS.size
              replace rC := rC.alloc (.cells #[.int .i64 0, .int .i64 0] 35)
              replace hbS := chain_alloc hbS (.cells #[.int .i64 0, .int .i64 0] 35)
              generalize w9.alloc (.cells #[.int .i64 0, .int .i64 0] 35) = wA at *
              generalize w9.heap.size = g8 at *
              refine rdk 7 71 fun K hK => ?_
              go_simp
              refine (HLB.out _ _ _ _ _ _ _ (rx.below hbS) (ry.below hbS) rC).mono ?_
              rintro e w10 ⟨rfl, hb10⟩
              replace B8 := B8.below hb10
              replace hbS := chain hbS hb10
              clear hb10 rC
              (try go_wp2_with fail)
              refine hko hK (Blk.f4 (BV.below hbS) (Blk.l2 (BR.below hbS))) fun hHeld => ?_
              clear hK K
              refine tk 8 63 ?_
              refine tk 9 72 ?_
              refine tk 10 73 ?_
              refine rdn 12 fun K hK => ?_
              clear hHeld
              obtain ⟨z0, z1, zf, zl⟩ := B8.two
              have Shb := belowOffL hbS (B := g8) (by omega) (.int .i64 0) (.int .i64 0)
              have SB8 := stoL B8 (.int .i64 0) (.int .i64 0)
              go_simp
              (try go_wp2_with fail)
              refine hko hK (Blk.f4 (BV.below Shb) (Blk.l2 (BR.below Shb))) fun hHeld => ?_
              clear hK K
              clear z0 z1 zf zl hbS B8
              generalize ((w10.setCell ⟨g8, 0, none⟩ (.int .i64 0)).setCell ⟨g8, 1, none⟩ (.int .i64 0)) = wS at *
              have hbS := Shb
              have B8 := SB8
              clear Shb SB8
              refine tk 13 12 ?_
              refine wpAnyH_done (by kernel_rfl) ?_ _
              clear hHeld
              (try go_wp2_with fail)
              go_meet
              case rel => exact ⟨g8, rfl, rfl, h8, B8, hbS⟩
          · go_simp
            (try go_wp2_with fail)
            refine hko hK (Blk.f4 (BV.below (chain_alloc hbS (.cells #[.int .i64 0, .int .i64 0] 35))) (Blk.l2 (BR.below (chain_alloc hbS (.cells #[.int .i64 0, .int .i64 0] 35))))) fun hHeld => ?_
            clear hK K
            have B8 := Blk.new wE #[.int .i64 0, .int .i64 0] 35
            have h8 : w8.heap.size ≤ wE.heap.size := hbS.size
            have hEl : bE < wE.heap.size := by omega
            replace hOw := hOw.alloc (.cells #[.int .i64 0, .int .i64 0] 35)
            replace hbS := chain_alloc hbS (.cells #[.int .i64 0, .int .i64 0] 35)
            generalize wE.alloc (.cells #[.int .i64 0, .int .i64 0] 35) = wA at *
            generalize wE.heap.size = g8 at *
            refine rdk 6 70 fun K hK => ?_
            have hB8l := B8.lt
            refine step_pushAllK rfl (.tmp 68) (.tmp 69) rfl bE _ [] rfl hOw (some ⟨gB, 0, none⟩) B B.length kB rfl rfl (rB.below hbS) hB0 (by simp; omega) (by have := hbS.size; omega) ?_
            intro va w9 hO9 hb9 hk9
            rw [List.nil_append] at hO9
            have B9 : Blk w9 g8 #[.int .i64 0, .int .i64 0] 35 := (hk9 g8 B8.lt (fun e => by have e2 : bE = g8 := Option.some.inj e; omega)).trans B8
            obtain ⟨aC, kC, rfl⟩ := hO9.form
            have rC := hO9.osl.irow
            replace hbS := hbS.trans (hb9.mono (show w8.heap.size ≤ bE by omega))
            clear hO9 hb9 hk9 hOw
            clear B8
            have B8 := B9
            clear B9
            refine hko hK (Blk.f4 (BV.below hbS) (Blk.l2 (BR.below hbS))) fun hHeld => ?_
            clear hK K
            refine rdk 7 71 fun K hK => ?_
            go_simp
            refine (HLB.out _ _ _ _ _ _ _ (rx.below hbS) (ry.below hbS) rC).mono ?_
            rintro e w10 ⟨rfl, hb10⟩
            replace B8 := B8.below hb10
            replace hbS := chain hbS hb10
            clear hb10 rC
            (try go_wp2_with fail)
            refine hko hK (Blk.f4 (BV.below hbS) (Blk.l2 (BR.below hbS))) fun hHeld => ?_
            clear hK K
            refine tk 8 63 ?_
            refine tk 9 72 ?_
            refine tk 10 73 ?_
            refine rdn 12 fun K hK => ?_
            clear hHeld
            obtain ⟨z0, z1, zf, zl⟩ := B8.two
            have Shb := belowOffL hbS (B := g8) (by omega) (.int .i64 0) (.int .i64 0)
            have SB8 := stoL B8 (.int .i64 0) (.int .i64 0)
            go_simp
            (try go_wp2_with fail)
            refine hko hK (Blk.f4 (BV.below Shb) (Blk.l2 (BR.below Shb))) fun hHeld => ?_
            clear hK K
            clear z0 z1 zf zl hbS B8
            generalize ((w10.setCell ⟨g8, 0, none⟩ (.int .i64 0)).setCell ⟨g8, 1, none⟩ (.int .i64 0)) = wS at *
            have hbS := Shb
            have B8 := SB8
            clear Shb SB8
            refine tk 13 12 ?_
            refine wpAnyH_done (by kernel_rfl) ?_ _
            clear hHeld
            (try go_wp2_with fail)
            go_meet
            case rel => exact ⟨g8, rfl, rfl, h8, B8, hbS⟩
        · go_simp
          (try go_wp2_with fail)
          refine hko hK (Blk.f4 (BV.below (chain_alloc hbS (.cells #[.int .i64 0, .int .i64 0] 35))) (Blk.l2 (BR.below (chain_alloc hbS (.cells #[.int .i64 0, .int .i64 0] 35))))) fun hHeld => ?_
          clear hK K
          have B8 := Blk.new vd #[.int .i64 0, .int .i64 0] 35
          have h8 : w8.heap.size ≤ vd.heap.size := hbS.size
          replace hbS := chain_alloc hbS (.cells #[.int .i64 0, .int .i64 0] 35)
          generalize vd.alloc (.cells #[.int .i64 0, .int .i64 0] 35) = wA at *
          generalize vd.heap.size = g8 at *
          refine rdk 4 68 fun K hK => ?_
          go_simp
          (try go_wp2_with fail)
          refine hko hK (Blk.f4 (BV.below (chain_alloc hbS (.cells #[] 2))) (Blk.l2 (BR.below (chain_alloc hbS (.cells #[] 2))))) fun hHeld => ?_
          clear hK K
          have hOw := Own.start wA
          have hE : w8.heap.size ≤ wA.heap.size := hbS.size
          have hne8 := B8.lt
          replace B8 := B8.alloc (.cells #[] 2)
          replace hbS := chain_alloc hbS (.cells #[] 2)
          have hEs : wA.heap.size < (wA.alloc (.cells #[] 2)).heap.size := by simp
          generalize wA.alloc (.cells #[] 2) = wE at *
          generalize wA.heap.size = bE at *
          refine rdk 6 70 fun K hK => ?_
          have hB8l := B8.lt
          refine step_pushAllK rfl (.tmp 68) (.tmp 69) rfl bE _ [] rfl hOw (some ⟨gB, 0, none⟩) B B.length kB rfl rfl (rB.below hbS) hB0 (by simp; omega) (by have := hbS.size; omega) ?_
          intro va w9 hO9 hb9 hk9
          rw [List.nil_append] at hO9
          have B9 : Blk w9 g8 #[.int .i64 0, .int .i64 0] 35 := (hk9 g8 B8.lt (fun e => by have e2 : bE = g8 := Option.some.inj e; omega)).trans B8
          obtain ⟨aC, kC, rfl⟩ := hO9.form
          have rC := hO9.osl.irow
          replace hbS := hbS.trans (hb9.mono (show w8.heap.size ≤ bE by omega))
          clear hO9 hb9 hk9 hOw
          clear B8
          have B8 := B9
          clear B9
          refine hko hK (Blk.f4 (BV.below hbS) (Blk.l2 (BR.below hbS))) fun hHeld => ?_
          clear hK K
          refine rdk 7 71 fun K hK => ?_
          go_simp
          refine (HLB.out _ _ _ _ _ _ _ (rx.below hbS) (ry.below hbS) rC).mono ?_
          rintro e w10 ⟨rfl, hb10⟩
          replace B8 := B8.below hb10
          replace hbS := chain hbS hb10
          clear hb10 rC
          (try go_wp2_with fail)
          refine hko hK (Blk.f4 (BV.below hbS) (Blk.l2 (BR.below hbS))) fun hHeld => ?_
          clear hK K
          refine tk 8 63 ?_
          refine tk 9 72 ?_
          refine tk 10 73 ?_
          refine rdn 12 fun K hK => ?_
          clear hHeld
          obtain ⟨z0, z1, zf, zl⟩ := B8.two
          have Shb := belowOffL hbS (B := g8) (by omega) (.int .i64 0) (.int .i64 0)
          have SB8 := stoL B8 (.int .i64 0) (.int .i64 0)
          go_simp
          (try go_wp2_with fail)
          refine hko hK (Blk.f4 (BV.below Shb) (Blk.l2 (BR.below Shb))) fun hHeld => ?_
          clear hK K
          clear z0 z1 zf zl hbS B8
          generalize ((w10.setCell ⟨g8, 0, none⟩ (.int .i64 0)).setCell ⟨g8, 1, none⟩ (.int .i64 0)) = wS at *
          have hbS := Shb
          have B8 := SB8
          clear Shb SB8
          refine tk 13 12 ?_
          refine wpAnyH_done (by kernel_rfl) ?_ _
          clear hHeld
          (try go_wp2_with fail)
          go_meet
          case rel => exact ⟨g8, rfl, rfl, h8, B8, hbS⟩
      case rest =>
        obtain ⟨g11, rfl, rfl, hg11, B11, hbS⟩ := hcut
        have hwS := hbS.size
        replace BV := BV.below hbS
        replace BR := BR.below hbS
        replace oB2 := oB2.below hbS
        replace hb := chain hb hbS
        clear rx ry rB hbS HLB
        go_wp2_with fail
        refine (HD.out _ hb).mono ?_
        rintro e wd2 ⟨aL2, aM2, kL2, kM2, lo2, m2, n2, rfl, hO, hP, hlo, hm, hn, hkL, hkM, hbd⟩
        have hwd := hbd.size
        have hbv0 := BR.lt
        have hk := (((((((Kp.of bv hbd).set (g := bv) (o := 0) (v := .int .i64 p) (by omega)).set (g := bv) (o := 1) (v := .int .i64 c) (by omega)).set (g := bv) (o := 2) (v := .int .i64 h) (by omega)).set (g := bv) (o := 3) (v := .int .i64 s) (by omega)).set (g := (bv + 1)) (o := 0) (v := .int .i64 ra) (by omega)).set (g := (bv + 1)) (o := 1) (v := .int .i64 rb) (by omega))
        have hO6 := ((((((hO.setLo (g := bv) (o := 0) (v := .int .i64 p) (by omega)).setLo (g := bv) (o := 1) (v := .int .i64 c) (by omega)).setLo (g := bv) (o := 2) (v := .int .i64 h) (by omega)).setLo (g := bv) (o := 3) (v := .int .i64 s) (by omega)).setLo (g := (bv + 1)) (o := 0) (v := .int .i64 ra) (by omega)).setLo (g := (bv + 1)) (o := 1) (v := .int .i64 rb) (by omega))
        have hP6 := ((((((hP.setLo (g := bv) (o := 0) (v := .int .i64 p) (by omega)).setLo (g := bv) (o := 1) (v := .int .i64 c) (by omega)).setLo (g := bv) (o := 2) (v := .int .i64 h) (by omega)).setLo (g := bv) (o := 3) (v := .int .i64 s) (by omega)).setLo (g := (bv + 1)) (o := 0) (v := .int .i64 ra) (by omega)).setLo (g := (bv + 1)) (o := 1) (v := .int .i64 rb) (by omega))
        have rx := hO6.irow
        have ry := hP6.irow
        replace BV := BV.below hbd
        replace BR := BR.below hbd
        have BVn := (((BV.put4 (.int .i64 p) (.int .i64 c) (.int .i64 h) (.int .i64 s)).other (g := (bv + 1)) (o := 0) (v := .int .i64 ra) (by omega)).other (g := (bv + 1)) (o := 1) (v := .int .i64 rb) (by omega))
        have BRn := stoL ((((BR.other (g := bv) (o := 0) (v := .int .i64 p) (by omega)).other (g := bv) (o := 1) (v := .int .i64 c) (by omega)).other (g := bv) (o := 2) (v := .int .i64 h) (by omega)).other (g := bv) (o := 3) (v := .int .i64 s) (by omega)) (.int .i64 ra) (.int .i64 rb)
        have hbn := (((((((chain hb hbd).setCell (p := ⟨bv, 0, none⟩) (by dsimp only; omega) (.int .i64 p)).setCell (p := ⟨bv, 1, none⟩) (by dsimp only; omega) (.int .i64 c)).setCell (p := ⟨bv, 2, none⟩) (by dsimp only; omega) (.int .i64 h)).setCell (p := ⟨bv, 3, none⟩) (by dsimp only; omega) (.int .i64 s)).setCell (p := ⟨(bv + 1), 0, none⟩) (by dsimp only; omega) (.int .i64 ra)).setCell (p := ⟨(bv + 1), 1, none⟩) (by dsimp only; omega) (.int .i64 rb))
        have hsz : wc.heap.size ≤ ((((((wd2.setCell ⟨bv, 0, none⟩ (.int .i64 p)).setCell ⟨bv, 1, none⟩ (.int .i64 c)).setCell ⟨bv, 2, none⟩ (.int .i64 h)).setCell ⟨bv, 3, none⟩ (.int .i64 s)).setCell ⟨(bv + 1), 0, none⟩ (.int .i64 ra)).setCell ⟨(bv + 1), 1, none⟩ (.int .i64 rb)).heap.size := by
          have : wd2.heap.size = ((((((wd2.setCell ⟨bv, 0, none⟩ (.int .i64 p)).setCell ⟨bv, 1, none⟩ (.int .i64 c)).setCell ⟨bv, 2, none⟩ (.int .i64 h)).setCell ⟨bv, 3, none⟩ (.int .i64 s)).setCell ⟨(bv + 1), 0, none⟩ (.int .i64 ra)).setCell ⟨(bv + 1), 1, none⟩ (.int .i64 rb)).heap.size := by simp [World.setCell]
          omega
        obtain ⟨x0, x1, x2, x3, xf, xl⟩ := BV.four; obtain ⟨y0, y1, yf, yl⟩ := BR.two
        obtain ⟨s0, s1, s2, s3, sf, sl⟩ := BVn.four
        obtain ⟨t0, t1, tf, tl⟩ := BRn.two
        clear hO hP hO6 hP6 hlo hm hn hbd hwd hb
        go_wp2_with fail
        clear x0 x1 x2 x3 xf xl y0 y1 yf yl
        clear s0 s1 s2 s3 sf sl t0 t1 tf tl BV BR
        generalize ((((((wd2.setCell ⟨bv, 0, none⟩ (.int .i64 p)).setCell ⟨bv, 1, none⟩ (.int .i64 c)).setCell ⟨bv, 2, none⟩ (.int .i64 h)).setCell ⟨bv, 3, none⟩ (.int .i64 s)).setCell ⟨(bv + 1), 0, none⟩ (.int .i64 ra)).setCell ⟨(bv + 1), 1, none⟩ (.int .i64 rb)) = w12 at *
        replace oB2 := oB2.kp hk (by omega)
        replace B11 := B11.kp hk (by omega)
        have BV := BVn
        have BR := BRn
        have hb := hbn
        clear BVn BRn hbn hk
        refine (HBR.out _ _ _ hkL rx).mono ?_
        rintro e w13 ⟨aQ, kQ, lq, rfl, hQ0, hnm, hA, hb13⟩
        have hbv12 := BR.lt
        have HLQ := Lib.hid (show lq.length = N by have q := congrArg List.length hnm; rw [List.length_map] at q; exact q.trans HN.out)
        have HNM := Lib.hid hnm
        clear hnm HBR hkL hkM
        rw [HLQ.out]
        replace BV := BV.below hb13
        replace BR := BR.below hb13
        replace oB2 := oB2.below hb13
        replace B11 := B11.below hb13
        replace rx := rx.below hb13
        replace ry := ry.below hb13
        replace hb := chain hb hb13
        clear hb13
        have hbv13 := BR.lt
        rcases hQ0 with ⟨q, -⟩ | ⟨gQ, rfl, hQr⟩
        · have := HLQ.out
          rw [q] at this
          simp at this
          omega
        have hgQ : gQ ≠ bv ∧ gQ ≠ bv + 1 := ⟨VRow.neL hQr BV (by decide), VRow.neL hQr BR (by decide)⟩
        obtain ⟨x0, x1, x2, x3, xf, xl⟩ := BV.four; obtain ⟨y0, y1, yf, yl⟩ := BR.two
        go_wp2_with fail
        clear x0 x1 x2 x3 xf xl y0 y1 yf yl
        refine (HRC.out _ _ _ _ _ rx ry).mono ?_
        rintro e w14 ⟨aX, kX, rfl, oX, hb14⟩
        replace hQr := VRow.below hQr hb14
        replace BV := BV.below hb14
        replace BR := BR.below hb14
        replace oB2 := oB2.below hb14
        replace B11 := B11.below hb14
        replace hA := hA.below hb14
        replace hb := chain hb hb14
        clear hb14 rx ry HRC
        go_wp2_with fail
        refine (HD.out _ hb).mono ?_
        rintro e wd3 ⟨aL3, aM3, kL3, kM3, lo3, m3, n3, rfl, hO, hP, hlo, hm, hn, hkL, hkM, hbd⟩
        have hwd := hbd.size
        have hbv0 := BR.lt
        have hk := (((((((Kp.of bv hbd).set (g := bv) (o := 0) (v := .int .i64 p) (by omega)).set (g := bv) (o := 1) (v := .int .i64 c) (by omega)).set (g := bv) (o := 2) (v := .int .i64 h) (by omega)).set (g := bv) (o := 3) (v := .int .i64 s) (by omega)).set (g := (bv + 1)) (o := 0) (v := .int .i64 ra) (by omega)).set (g := (bv + 1)) (o := 1) (v := .int .i64 rb) (by omega))
        have hO6 := ((((((hO.setLo (g := bv) (o := 0) (v := .int .i64 p) (by omega)).setLo (g := bv) (o := 1) (v := .int .i64 c) (by omega)).setLo (g := bv) (o := 2) (v := .int .i64 h) (by omega)).setLo (g := bv) (o := 3) (v := .int .i64 s) (by omega)).setLo (g := (bv + 1)) (o := 0) (v := .int .i64 ra) (by omega)).setLo (g := (bv + 1)) (o := 1) (v := .int .i64 rb) (by omega))
        have hP6 := ((((((hP.setLo (g := bv) (o := 0) (v := .int .i64 p) (by omega)).setLo (g := bv) (o := 1) (v := .int .i64 c) (by omega)).setLo (g := bv) (o := 2) (v := .int .i64 h) (by omega)).setLo (g := bv) (o := 3) (v := .int .i64 s) (by omega)).setLo (g := (bv + 1)) (o := 0) (v := .int .i64 ra) (by omega)).setLo (g := (bv + 1)) (o := 1) (v := .int .i64 rb) (by omega))
        have rx := hO6.irow
        have ry := hP6.irow
        replace BV := BV.below hbd
        replace BR := BR.below hbd
        have BVn := (((BV.put4 (.int .i64 p) (.int .i64 c) (.int .i64 h) (.int .i64 s)).other (g := (bv + 1)) (o := 0) (v := .int .i64 ra) (by omega)).other (g := (bv + 1)) (o := 1) (v := .int .i64 rb) (by omega))
        have BRn := stoL ((((BR.other (g := bv) (o := 0) (v := .int .i64 p) (by omega)).other (g := bv) (o := 1) (v := .int .i64 c) (by omega)).other (g := bv) (o := 2) (v := .int .i64 h) (by omega)).other (g := bv) (o := 3) (v := .int .i64 s) (by omega)) (.int .i64 ra) (.int .i64 rb)
        have hbn := (((((((chain hb hbd).setCell (p := ⟨bv, 0, none⟩) (by dsimp only; omega) (.int .i64 p)).setCell (p := ⟨bv, 1, none⟩) (by dsimp only; omega) (.int .i64 c)).setCell (p := ⟨bv, 2, none⟩) (by dsimp only; omega) (.int .i64 h)).setCell (p := ⟨bv, 3, none⟩) (by dsimp only; omega) (.int .i64 s)).setCell (p := ⟨(bv + 1), 0, none⟩) (by dsimp only; omega) (.int .i64 ra)).setCell (p := ⟨(bv + 1), 1, none⟩) (by dsimp only; omega) (.int .i64 rb))
        have hsz : w14.heap.size ≤ ((((((wd3.setCell ⟨bv, 0, none⟩ (.int .i64 p)).setCell ⟨bv, 1, none⟩ (.int .i64 c)).setCell ⟨bv, 2, none⟩ (.int .i64 h)).setCell ⟨bv, 3, none⟩ (.int .i64 s)).setCell ⟨(bv + 1), 0, none⟩ (.int .i64 ra)).setCell ⟨(bv + 1), 1, none⟩ (.int .i64 rb)).heap.size := by
          have : wd3.heap.size = ((((((wd3.setCell ⟨bv, 0, none⟩ (.int .i64 p)).setCell ⟨bv, 1, none⟩ (.int .i64 c)).setCell ⟨bv, 2, none⟩ (.int .i64 h)).setCell ⟨bv, 3, none⟩ (.int .i64 s)).setCell ⟨(bv + 1), 0, none⟩ (.int .i64 ra)).setCell ⟨(bv + 1), 1, none⟩ (.int .i64 rb)).heap.size := by simp [World.setCell]
          omega
        obtain ⟨x0, x1, x2, x3, xf, xl⟩ := BV.four; obtain ⟨y0, y1, yf, yl⟩ := BR.two
        obtain ⟨s0, s1, s2, s3, sf, sl⟩ := BVn.four
        obtain ⟨t0, t1, tf, tl⟩ := BRn.two
        clear hO hP hO6 hP6 hlo hm hn hbd hwd hb hkL hkM
        go_upto_region 16 with (fail)
        clear x0 x1 x2 x3 xf xl y0 y1 yf yl
        clear s0 s1 s2 s3 sf sl t0 t1 tf tl BV BR
        generalize ((((((wd3.setCell ⟨bv, 0, none⟩ (.int .i64 p)).setCell ⟨bv, 1, none⟩ (.int .i64 c)).setCell ⟨bv, 2, none⟩ (.int .i64 h)).setCell ⟨bv, 3, none⟩ (.int .i64 s)).setCell ⟨(bv + 1), 0, none⟩ (.int .i64 ra)).setCell ⟨(bv + 1), 1, none⟩ (.int .i64 rb)) = wL at *
        replace oB2 := oB2.kp hk (by omega)
        replace B11 := B11.kp hk (by omega)
        replace hA := hA.kp hk (by omega)
        replace oX := oX.kp hk (by omega)
        replace hQr := VRow.kp hQr hk hgQ
        have BV := BVn
        have BR := BRn
        have hb := hbn
        clear BVn BRn hbn hk
        obtain ⟨z0, z1, zf, zl⟩ := B11.two
        go_wp2_with fail
        clear z0 z1 zf zl B11
        rcases oX with ⟨-, q⟩ | ⟨gX, rfl, ox1, ox2, hRX⟩
        · have := HE4.out
          rw [q] at this
          simp at this
          omega
        have HQQ := Lib.hid hQr
        have HAA := Lib.hid hA
        have HRX := Lib.hid hRX
        have HOB := Lib.hid oB2
        have hbvL := BR.lt
        have hszL : wL.heap.size ≤ wL.heap.size := Nat.le_refl _
        clear hQr hA hRX oB2
        go_loopg [4, 5, 17] N (fun mm q4 q5 q17 wr => ∃ (k : Nat) (aP aQ : Option Addr) (kP kQ : Nat), k ≤ N ∧ mm = N - k ∧ q17 = .int .i64 k ∧ q4 = .slice aP xs.length kP ∧ q5 = .slice aQ ys.length kQ ∧ IRow wr aP xs ∧ IRow wr aQ ys ∧ Blk wr bv #[.int .i64 p, .int .i64 c, .int .i64 h, .int .i64 s] 25 ∧ Blk wr (bv + 1) #[.int .i64 ra, .int .i64 rb] 39 ∧ Kp bv wL wr ∧ wL.heap.size ≤ wr.heap.size ∧ Below w.heap.size w wr)
        case atStart => exact ⟨0, aL3, aM3, kL3, kM3, by omega, by omega, rfl, rfl, rfl, rx, ry, BV, BR, Kp.refl _ _, hszL, hb⟩
        case round =>
          clear rx ry BV BR hb
          obtain ⟨k, aP, aQ2, kP, kQ2, hk, hmm, rfl, rfl, rfl, rx, ry, BV, BR, hkp, hsL, hb⟩ := hrel
          by_cases hlt : k < N
          · have hlt' : (k : Int) < (N : Int) := by omega
            have hN0 : (0 : Int) < (N : Int) := by omega
            have hk0 : (0 : Int) ≤ (k : Int) := by omega
            have hbvr := BR.lt
            obtain ⟨⟨gz, kz, zs⟩, hz⟩ : ∃ y, lq[k]? = some y := ⟨_, List.getElem?_eq_getElem (by rw [HLQ.out]; exact hlt)⟩
            obtain ⟨⟨gz0, kz0, z0⟩, hz0⟩ : ∃ y, lq[0]? = some y := ⟨_, List.getElem?_eq_getElem (by rw [HLQ.out]; omega)⟩
            obtain ⟨za1, za2, za3⟩ := HAA.out _ (List.mem_of_getElem? hz)
            obtain ⟨zb1, zb2, zb3⟩ := HAA.out _ (List.mem_of_getElem? hz0)
            dsimp only at za1 za2 za3 zb1 zb2 zb3
            have rz : IRow wr (some ⟨gz, 0, none⟩) zs := (za3.kpL hkp (by omega)).irow
            have hQr := VRow.kp HQQ.out hkp hgQ
            have hLk : L[k]? = some zs := by
              rw [← HNM.out]
              show (lq.map fun x => x.2.2)[k]? = some zs
              rw [List.getElem?_map, hz]
              rfl
            have hL0 : L[0]? = some z0 := by
              rw [← HNM.out]
              show (lq.map fun x => x.2.2)[0]? = some z0
              rw [List.getElem?_map, hz0]
              rfl
            have hzl := HE10.out _ (List.mem_of_getElem? hLk)
            have hz0l : z0.length = B.length := by rw [HE9.out]; exact HE10.out _ (List.mem_of_getElem? hL0)
            obtain ⟨⟨zn, zd⟩, hZk⟩ : ∃ r, Z[k]? = some r := ⟨_, List.getElem?_eq_getElem (by rw [HE5.out]; exact hlt)⟩
            obtain ⟨⟨xn, xd⟩, hXk⟩ : ∃ r, X[k]? = some r := ⟨_, List.getElem?_eq_getElem (by rw [HE4.out]; exact hlt)⟩
            obtain ⟨⟨yn, yd⟩, hX0⟩ : ∃ r, X[0]? = some r := ⟨_, List.getElem?_eq_getElem (by rw [HE4.out]; omega)⟩
            obtain ⟨v1, v2, v3⟩ := HE11.out k zs (zn, zd) hLk hZk
            dsimp only at v1 v2 v3
            have hv3 : z0 = B → (zn = 0 ↔ (xn = yn ∧ xd = yd)) := fun e => by
              have q := v3 (yn, yd) (xn, xd) hX0 hXk (by rw [hL0, e])
              rw [q, Prod.mk.injEq]
            have hlz := HLZ0.out zs (by omega) gz
            rw [v1] at hlz
            dsimp only [xoV] at hlz
            have HLZ := Lib.hid hlz
            have HQK := Lib.hid hz
            have HQ0 := Lib.hid hz0
            have HXK := Lib.hid hXk
            have HX0 := Lib.hid hX0
            have HV3 := Lib.hid hv3
            have HZ0L := Lib.hid hz0l
            have HZB := Lib.hid zb3
            clear hlz hz hz0 hLk hL0 hZk hXk hX0 v1 v3 hv3 hzl hz0l za3 zb3
            obtain ⟨x0, x1, x2, x3, xf, xl⟩ := BV.four; obtain ⟨y0, y1, yf, yl⟩ := BR.two
            have u1 : wr.cell? ⟨gQ, k, none⟩ = some (.slice (some ⟨gz, 0, none⟩) zs.length kz) := QRow.at hQr k _ HQK.out
            go_upto_region 21 with (fail)
            clear x0 x1 x2 x3 xf xl y0 y1 yf yl u1
            go_cut [18, 19] from 125 to 177 (fun q18 q19 wq => ∃ g, q18 = .pointer (some ⟨g, 0, none⟩) ∧ q19 = .int .i64 0 ∧ wr.heap.size ≤ g ∧ Blk wq g #[.int .i64 zn, .int .i64 zd] 35 ∧ Below wr.heap.size wr wq)
            case first =>
              refine wp_region_held_drew (S := fun w' => w'.cell? ⟨bv, 0, none⟩ = some (.int .i64 p) ∧ w'.cell? ⟨bv, 1, none⟩ = some (.int .i64 c) ∧ w'.cell? ⟨bv, 2, none⟩ = some (.int .i64 h) ∧ w'.cell? ⟨bv, 3, none⟩ = some (.int .i64 s) ∧ w'.cell? ⟨(bv + 1), 0, none⟩ = some (.int .i64 ra) ∧ w'.cell? ⟨(bv + 1), 1, none⟩ = some (.int .i64 rb) ∧ w'.cell? ⟨gQ, k, none⟩ = some (.slice (some ⟨gz, 0, none⟩) zs.length kz)) (by kernel_rfl) ⟨BV.four.1, BV.four.2.1, BV.four.2.2.1, BV.four.2.2.2.1, BR.two.1, BR.two.2.1, (QRow.at hQr k _ HQK.out)⟩ (fun hHeld => ?_)
              clear hHeld
              have hbS : Below wr.heap.size wr wr.drew := (Below.refl _ _).drew
              generalize wr.drew = vd at *
              have hHeld : vd.cell? ⟨bv, 0, none⟩ = some (.int .i64 p) ∧ vd.cell? ⟨bv, 1, none⟩ = some (.int .i64 c) ∧ vd.cell? ⟨bv, 2, none⟩ = some (.int .i64 h) ∧ vd.cell? ⟨bv, 3, none⟩ = some (.int .i64 s) ∧ vd.cell? ⟨(bv + 1), 0, none⟩ = some (.int .i64 ra) ∧ vd.cell? ⟨(bv + 1), 1, none⟩ = some (.int .i64 rb) ∧ vd.cell? ⟨gQ, k, none⟩ = some (.slice (some ⟨gz, 0, none⟩) zs.length kz) := ⟨(BV.below hbS).four.1, (BV.below hbS).four.2.1, (BV.below hbS).four.2.2.1, (BV.below hbS).four.2.2.2.1, (BR.below hbS).two.1, (BR.below hbS).two.2.1, (QRow.at (VRow.below hQr hbS) k _ HQK.out)⟩
              refine tk 0 132 ?_
              refine tk 1 133 ?_
              refine tk 2 134 ?_
              refine tk 3 135 ?_
              refine tk 4 136 ?_
              refine tk 5 137 ?_
              refine tk 6 138 ?_
              refine tk 7 139 ?_
              refine wpAnyH_ready (rs := [8, 12]) (by kernel_rfl) (by simp) ?_
              refine AllReadyH.cons (o := ⟨some 140, _, _, _, _, _⟩) rfl (fun K hK => ?_) (AllReadyH.cons (o := ⟨some 18, _, _, _, _, _⟩) rfl (fun K hK => ?_) AllReadyH.nil)
              · go_simp
                refine (HLZ.out _ _ _ _ _ _ (rx.below hbS) (ry.below hbS) (rz.below hbS)).mono ?_
                rintro e w10 ⟨rfl, hb10⟩
                replace hbS := chain hbS hb10
                clear hb10
                (try go_wp2_with fail)
                refine hko hK (Blk.f4 (BV.below hbS) (Blk.f2 (BR.below hbS) (QRow.at (VRow.below hQr hbS) k _ HQK.out))) fun hHeld => ?_
                clear hK K
                refine tk 9 131 ?_
                refine tk 10 141 ?_
                refine tk 11 142 ?_
                refine rdk 12 18 fun K hK => ?_
                go_simp
                (try go_wp2_with fail)
                refine hko hK (Blk.f4 (BV.below (chain_alloc hbS (.cells #[.int .i64 0, .int .i64 0] 35))) (Blk.f2 (BR.below (chain_alloc hbS (.cells #[.int .i64 0, .int .i64 0] 35))) (QRow.at (VRow.below hQr (chain_alloc hbS (.cells #[.int .i64 0, .int .i64 0] 35))) k _ HQK.out))) fun hHeld => ?_
                clear hK K
                have B8 := Blk.new w10 #[.int .i64 0, .int .i64 0] 35
                have h8 : wr.heap.size ≤ w10.heap.size := hbS.size
                replace hbS := chain_alloc hbS (.cells #[.int .i64 0, .int .i64 0] 35)
                generalize w10.alloc (.cells #[.int .i64 0, .int .i64 0] 35) = wA at *
                generalize w10.heap.size = g8 at *
                refine rdn 13 fun K hK => ?_
                clear hHeld
                obtain ⟨z0, z1, zf, zl⟩ := B8.two
                have Shb := belowOffL hbS (B := g8) (by omega) (.int .i64 zn) (.int .i64 zd)
                have SB8 := stoL B8 (.int .i64 zn) (.int .i64 zd)
                go_simp
                (try go_wp2_with fail)
                refine hko hK (Blk.f4 (BV.below Shb) (Blk.f2 (BR.below Shb) (QRow.at (VRow.below hQr Shb) k _ HQK.out))) fun hHeld => ?_
                clear hK K
                clear z0 z1 zf zl hbS B8
                generalize ((wA.setCell ⟨g8, 0, none⟩ (.int .i64 zn)).setCell ⟨g8, 1, none⟩ (.int .i64 zd)) = wS at *
                have hbS := Shb
                have B8 := SB8
                clear Shb SB8
                refine tk 14 19 ?_
                refine wpAnyH_done (by kernel_rfl) ?_ _
                clear hHeld
                (try go_wp2_with fail)
                go_meet
                case rel => exact ⟨g8, rfl, rfl, h8, B8, hbS⟩
              · go_simp
                (try go_wp2_with fail)
                refine hko hK (Blk.f4 (BV.below (chain_alloc hbS (.cells #[.int .i64 0, .int .i64 0] 35))) (Blk.f2 (BR.below (chain_alloc hbS (.cells #[.int .i64 0, .int .i64 0] 35))) (QRow.at (VRow.below hQr (chain_alloc hbS (.cells #[.int .i64 0, .int .i64 0] 35))) k _ HQK.out))) fun hHeld => ?_
                clear hK K
                have B8 := Blk.new vd #[.int .i64 0, .int .i64 0] 35
                have h8 : wr.heap.size ≤ vd.heap.size := hbS.size
                replace hbS := chain_alloc hbS (.cells #[.int .i64 0, .int .i64 0] 35)
                generalize vd.alloc (.cells #[.int .i64 0, .int .i64 0] 35) = wA at *
                generalize vd.heap.size = g8 at *
                refine rdk 8 140 fun K hK => ?_
                go_simp
                refine (HLZ.out _ _ _ _ _ _ (rx.below hbS) (ry.below hbS) (rz.below hbS)).mono ?_
                rintro e w10 ⟨rfl, hb10⟩
                replace B8 := B8.below hb10
                replace hbS := chain hbS hb10
                clear hb10
                (try go_wp2_with fail)
                refine hko hK (Blk.f4 (BV.below hbS) (Blk.f2 (BR.below hbS) (QRow.at (VRow.below hQr hbS) k _ HQK.out))) fun hHeld => ?_
                clear hK K
                refine tk 9 131 ?_
                refine tk 10 141 ?_
                refine tk 11 142 ?_
                refine rdn 13 fun K hK => ?_
                clear hHeld
                obtain ⟨z0, z1, zf, zl⟩ := B8.two
                have Shb := belowOffL hbS (B := g8) (by omega) (.int .i64 zn) (.int .i64 zd)
                have SB8 := stoL B8 (.int .i64 zn) (.int .i64 zd)
                go_simp
                (try go_wp2_with fail)
                refine hko hK (Blk.f4 (BV.below Shb) (Blk.f2 (BR.below Shb) (QRow.at (VRow.below hQr Shb) k _ HQK.out))) fun hHeld => ?_
                clear hK K
                clear z0 z1 zf zl hbS B8
                generalize ((w10.setCell ⟨g8, 0, none⟩ (.int .i64 zn)).setCell ⟨g8, 1, none⟩ (.int .i64 zd)) = wS at *
                have hbS := Shb
                have B8 := SB8
                clear Shb SB8
                refine tk 14 19 ?_
                refine wpAnyH_done (by kernel_rfl) ?_ _
                clear hHeld
                (try go_wp2_with fail)
                go_meet
                case rel => exact ⟨g8, rfl, rfl, h8, B8, hbS⟩
            case rest =>
              obtain ⟨g18, rfl, rfl, hg18, B18, hbS⟩ := hcut
              have hwS2 := hbS.size
              replace BV := BV.below hbS
              replace BR := BR.below hbS
              replace hb := chain hb hbS
              replace hkp := hkp.trans hsL (Kp.of bv hbS)
              replace hsL : wL.heap.size ≤ wc.heap.size := by omega
              clear rx ry rz hQr hbS HLZ
              go_wp2_with fail
              refine (HD.out _ hb).mono ?_
              rintro e wd4 ⟨aL4, aM4, kL4, kM4, lo4, m4, n4, rfl, hO, hP, hlo, hm, hn, hkL, hkM, hbd⟩
              have hwd := hbd.size
              have hbv0 := BR.lt
              have hk := (((((((Kp.of bv hbd).set (g := bv) (o := 0) (v := .int .i64 p) (by omega)).set (g := bv) (o := 1) (v := .int .i64 c) (by omega)).set (g := bv) (o := 2) (v := .int .i64 h) (by omega)).set (g := bv) (o := 3) (v := .int .i64 s) (by omega)).set (g := (bv + 1)) (o := 0) (v := .int .i64 ra) (by omega)).set (g := (bv + 1)) (o := 1) (v := .int .i64 rb) (by omega))
              have hO6 := ((((((hO.setLo (g := bv) (o := 0) (v := .int .i64 p) (by omega)).setLo (g := bv) (o := 1) (v := .int .i64 c) (by omega)).setLo (g := bv) (o := 2) (v := .int .i64 h) (by omega)).setLo (g := bv) (o := 3) (v := .int .i64 s) (by omega)).setLo (g := (bv + 1)) (o := 0) (v := .int .i64 ra) (by omega)).setLo (g := (bv + 1)) (o := 1) (v := .int .i64 rb) (by omega))
              have hP6 := ((((((hP.setLo (g := bv) (o := 0) (v := .int .i64 p) (by omega)).setLo (g := bv) (o := 1) (v := .int .i64 c) (by omega)).setLo (g := bv) (o := 2) (v := .int .i64 h) (by omega)).setLo (g := bv) (o := 3) (v := .int .i64 s) (by omega)).setLo (g := (bv + 1)) (o := 0) (v := .int .i64 ra) (by omega)).setLo (g := (bv + 1)) (o := 1) (v := .int .i64 rb) (by omega))
              have rx := hO6.irow
              have ry := hP6.irow
              replace BV := BV.below hbd
              replace BR := BR.below hbd
              have BVn := (((BV.put4 (.int .i64 p) (.int .i64 c) (.int .i64 h) (.int .i64 s)).other (g := (bv + 1)) (o := 0) (v := .int .i64 ra) (by omega)).other (g := (bv + 1)) (o := 1) (v := .int .i64 rb) (by omega))
              have BRn := stoL ((((BR.other (g := bv) (o := 0) (v := .int .i64 p) (by omega)).other (g := bv) (o := 1) (v := .int .i64 c) (by omega)).other (g := bv) (o := 2) (v := .int .i64 h) (by omega)).other (g := bv) (o := 3) (v := .int .i64 s) (by omega)) (.int .i64 ra) (.int .i64 rb)
              have hbn := (((((((chain hb hbd).setCell (p := ⟨bv, 0, none⟩) (by dsimp only; omega) (.int .i64 p)).setCell (p := ⟨bv, 1, none⟩) (by dsimp only; omega) (.int .i64 c)).setCell (p := ⟨bv, 2, none⟩) (by dsimp only; omega) (.int .i64 h)).setCell (p := ⟨bv, 3, none⟩) (by dsimp only; omega) (.int .i64 s)).setCell (p := ⟨(bv + 1), 0, none⟩) (by dsimp only; omega) (.int .i64 ra)).setCell (p := ⟨(bv + 1), 1, none⟩) (by dsimp only; omega) (.int .i64 rb))
              have hsz : wc.heap.size ≤ ((((((wd4.setCell ⟨bv, 0, none⟩ (.int .i64 p)).setCell ⟨bv, 1, none⟩ (.int .i64 c)).setCell ⟨bv, 2, none⟩ (.int .i64 h)).setCell ⟨bv, 3, none⟩ (.int .i64 s)).setCell ⟨(bv + 1), 0, none⟩ (.int .i64 ra)).setCell ⟨(bv + 1), 1, none⟩ (.int .i64 rb)).heap.size := by
                have : wd4.heap.size = ((((((wd4.setCell ⟨bv, 0, none⟩ (.int .i64 p)).setCell ⟨bv, 1, none⟩ (.int .i64 c)).setCell ⟨bv, 2, none⟩ (.int .i64 h)).setCell ⟨bv, 3, none⟩ (.int .i64 s)).setCell ⟨(bv + 1), 0, none⟩ (.int .i64 ra)).setCell ⟨(bv + 1), 1, none⟩ (.int .i64 rb)).heap.size := by simp [World.setCell]
                omega
              obtain ⟨x0, x1, x2, x3, xf, xl⟩ := BV.four; obtain ⟨y0, y1, yf, yl⟩ := BR.two
              obtain ⟨s0, s1, s2, s3, sf, sl⟩ := BVn.four
              obtain ⟨t0, t1, tf, tl⟩ := BRn.two
              clear hO hP hO6 hP6 hlo hm hn hbd hwd hb hkL hkM
              have hk2 := hkp.trans hsL hk
              have hs2 : wL.heap.size ≤ ((((((wd4.setCell ⟨bv, 0, none⟩ (.int .i64 p)).setCell ⟨bv, 1, none⟩ (.int .i64 c)).setCell ⟨bv, 2, none⟩ (.int .i64 h)).setCell ⟨bv, 3, none⟩ (.int .i64 s)).setCell ⟨(bv + 1), 0, none⟩ (.int .i64 ra)).setCell ⟨(bv + 1), 1, none⟩ (.int .i64 rb)).heap.size := by omega
              go_upto_region 23 with (fail)
              clear x0 x1 x2 x3 xf xl y0 y1 yf yl
              clear s0 s1 s2 s3 sf sl t0 t1 tf tl BV BR
              generalize ((((((wd4.setCell ⟨bv, 0, none⟩ (.int .i64 p)).setCell ⟨bv, 1, none⟩ (.int .i64 c)).setCell ⟨bv, 2, none⟩ (.int .i64 h)).setCell ⟨bv, 3, none⟩ (.int .i64 s)).setCell ⟨(bv + 1), 0, none⟩ (.int .i64 ra)).setCell ⟨(bv + 1), 1, none⟩ (.int .i64 rb)) = w22 at *
              replace B18 := B18.kp hk (by omega)
              have BV := BVn
              have BR := BRn
              have hb := hbn
              clear BVn BRn hbn hk
              have hQ2 := VRow.kp HQQ.out hk2 hgQ
              have cL : CellIs w22 gQ 0 (.slice (some ⟨gz0, 0, none⟩) B.length kz0) := by
                have q : w22.cell? ⟨gQ, 0, none⟩ = some (.slice (some ⟨gz0, 0, none⟩) z0.length kz0) := QRow.at hQ2 0 _ HQ0.out
                rw [HZ0L.out] at q
                exact q
              obtain ⟨cA, cB⟩ := XRow.two (VRow.kp HRX.out hk2 (by omega)) k (xn, xd) HXK.out
              obtain ⟨cC, cD⟩ := XRow.two (VRow.kp HRX.out hk2 (by omega)) 0 (yn, yd) HX0.out
              dsimp only at cA cB cC cD
              rw [Nat.zero_mul] at cC cD
              rw [Nat.zero_add] at cD
              have rz0 : IRow w22 (some ⟨gz0, 0, none⟩) z0 := (HZB.out.kpL hk2 (by omega)).irow
              have rB2 := (HOB.out.kp hk2 (by omega)).irow
              have hlq := fun (W : World) (r1 : IRow W (some ⟨gz0, 0, none⟩) z0) (r2 : IRow W (some ⟨gB, 0, none⟩) B) => likeInts_any (some ⟨gz0, 0, none⟩) (some ⟨gB, 0, none⟩) B.length kz0 kB z0 B W HZ0L.out rfl (by omega) r1 r2
              have fn : decide (zn < 0) = false := by rw [decide_eq_false_iff_not]; omega
              clear hQ2 hk
              by_cases b1 : zn = 0
              · by_cases c1 : xn = yn
                · by_cases c2 : xd = yd
                  · have f1 : (zn == 0) = true := by rw [beq_iff_eq]; exact b1
                    have f2 : (xn == yn) = true := by rw [beq_iff_eq]; exact c1
                    have f3 : (xd == yd) = true := by rw [beq_iff_eq]; exact c2
                    clear hlq b1 c1 c2
                    have hd_ : w22.drew.heap.size = w22.heap.size := rfl
                    replace B18 := B18.drew
                    replace BV := BV.drew
                    replace BR := BR.drew
                    replace rx := rx.drew
                    replace ry := ry.drew
                    replace rz0 := rz0.drew
                    replace rB2 := rB2.drew
                    replace hk2 := hk2.drew
                    replace hb := hb.drew
                    replace cA := CellIs.drew cA
                    replace cB := CellIs.drew cB
                    replace cC := CellIs.drew cC
                    replace cD := CellIs.drew cD
                    replace cL := CellIs.drew cL
                    replace hs2 : wL.heap.size ≤ w22.drew.heap.size := hs2
                    refine wp_region_held_drew (S := fun w' => w'.cell? ⟨g18, 0, none⟩ = some (.int .i64 zn) ∧ w'.cell? ⟨g18, 1, none⟩ = some (.int .i64 zd) ∧ w'.cell? ⟨gX, k * 2, none⟩ = some (.int .i64 xn) ∧ w'.cell? ⟨gX, k * 2 + 1, none⟩ = some (.int .i64 xd) ∧ w'.cell? ⟨gX, 0, none⟩ = some (.int .i64 yn) ∧ w'.cell? ⟨gX, 1, none⟩ = some (.int .i64 yd) ∧ w'.cell? ⟨gQ, 0, none⟩ = some (.slice (some ⟨gz0, 0, none⟩) B.length kz0)) (by kernel_rfl) ⟨B18.two.1, B18.two.2.1, cA, cB, cC, cD, cL⟩ (fun hHeld => ?_)
                    clear hHeld
                    generalize w22.drew = vd3 at *
                    have hHeld : vd3.cell? ⟨g18, 0, none⟩ = some (.int .i64 zn) ∧ vd3.cell? ⟨g18, 1, none⟩ = some (.int .i64 zd) ∧ vd3.cell? ⟨gX, k * 2, none⟩ = some (.int .i64 xn) ∧ vd3.cell? ⟨gX, k * 2 + 1, none⟩ = some (.int .i64 xd) ∧ vd3.cell? ⟨gX, 0, none⟩ = some (.int .i64 yn) ∧ vd3.cell? ⟨gX, 1, none⟩ = some (.int .i64 yd) ∧ vd3.cell? ⟨gQ, 0, none⟩ = some (.slice (some ⟨gz0, 0, none⟩) B.length kz0) := ⟨B18.two.1, B18.two.2.1, cA, cB, cC, cD, cL⟩
                    refine tk 0 150 ?_
                    refine tk 1 151 ?_
                    refine tk 2 152 ?_
                    refine tk 3 153 ?_
                    refine tk 4 154 ?_
                    refine tk 5 155 ?_
                    refine tk 6 156 ?_
                    refine tk 7 157 ?_
                    refine tk 8 158 ?_
                    refine tk 9 159 ?_
                    refine tk 10 160 ?_
                    refine tk 11 161 ?_
                    refine tk 12 162 ?_
                    refine tk 13 163 ?_
                    refine tk 14 164 ?_
                    refine tk 15 165 ?_
                    refine tk 16 166 ?_
                    refine tk 17 167 ?_
                    refine tk 18 168 ?_
                    refine tk 19 169 ?_
                    refine tk 20 170 ?_
                    refine tkv 21 171 ?_
                    refine tkv 22 172 ?_
                    refine tkv 23 173 ?_
                    refine tkv 24 174 ?_
                    refine tkv 25 175 ?_
                    refine tk 26 176 ?_
                    refine tk 27 177 ?_
                    refine wpAnyH_done (by kernel_rfl) ?_ _
                    clear hHeld
                    go_wp2
                    go_roundg (N - (k + 1))
                    case measure => omega
                    case rel => exact ⟨k + 1, aL4, aM4, kL4, kM4, by omega, rfl, by go_num, rfl, rfl, rx, ry, BV, BR, hk2, hs2, hb⟩
                  · have f1 : (zn == 0) = true := by rw [beq_iff_eq]; exact b1
                    have f2 : (xn == yn) = true := by rw [beq_iff_eq]; exact c1
                    have f3 : (xd == yd) = false := by rw [beq_eq_false_iff_ne]; exact c2
                    have hzB : z0 ≠ B := fun e => by
                      have q := HV3.out e
                      exact c2 (q.1 b1).2
                    rw [show decide (z0 = B) = false from decide_eq_false hzB] at hlq
                    have HLK := Lib.hid hlq
                    clear hzB
                    clear hlq b1 c1 c2
                    have hd_ : w22.drew.heap.size = w22.heap.size := rfl
                    replace B18 := B18.drew
                    replace BV := BV.drew
                    replace BR := BR.drew
                    replace rx := rx.drew
                    replace ry := ry.drew
                    replace rz0 := rz0.drew
                    replace rB2 := rB2.drew
                    replace hk2 := hk2.drew
                    replace hb := hb.drew
                    replace cA := CellIs.drew cA
                    replace cB := CellIs.drew cB
                    replace cC := CellIs.drew cC
                    replace cD := CellIs.drew cD
                    replace cL := CellIs.drew cL
                    replace hs2 : wL.heap.size ≤ w22.drew.heap.size := hs2
                    refine wp_region_held_drew (S := fun w' => w'.cell? ⟨g18, 0, none⟩ = some (.int .i64 zn) ∧ w'.cell? ⟨g18, 1, none⟩ = some (.int .i64 zd) ∧ w'.cell? ⟨gX, k * 2, none⟩ = some (.int .i64 xn) ∧ w'.cell? ⟨gX, k * 2 + 1, none⟩ = some (.int .i64 xd) ∧ w'.cell? ⟨gX, 0, none⟩ = some (.int .i64 yn) ∧ w'.cell? ⟨gX, 1, none⟩ = some (.int .i64 yd) ∧ w'.cell? ⟨gQ, 0, none⟩ = some (.slice (some ⟨gz0, 0, none⟩) B.length kz0)) (by kernel_rfl) ⟨B18.two.1, B18.two.2.1, cA, cB, cC, cD, cL⟩ (fun hHeld => ?_)
                    clear hHeld
                    generalize w22.drew = vd3 at *
                    have hHeld : vd3.cell? ⟨g18, 0, none⟩ = some (.int .i64 zn) ∧ vd3.cell? ⟨g18, 1, none⟩ = some (.int .i64 zd) ∧ vd3.cell? ⟨gX, k * 2, none⟩ = some (.int .i64 xn) ∧ vd3.cell? ⟨gX, k * 2 + 1, none⟩ = some (.int .i64 xd) ∧ vd3.cell? ⟨gX, 0, none⟩ = some (.int .i64 yn) ∧ vd3.cell? ⟨gX, 1, none⟩ = some (.int .i64 yd) ∧ vd3.cell? ⟨gQ, 0, none⟩ = some (.slice (some ⟨gz0, 0, none⟩) B.length kz0) := ⟨B18.two.1, B18.two.2.1, cA, cB, cC, cD, cL⟩
                    refine tk 0 150 ?_
                    refine tk 1 151 ?_
                    refine tk 2 152 ?_
                    refine tk 3 153 ?_
                    refine tk 4 154 ?_
                    refine tk 5 155 ?_
                    refine tk 6 156 ?_
                    refine tk 7 157 ?_
                    refine tk 8 158 ?_
                    refine tk 9 159 ?_
                    refine tk 10 160 ?_
                    refine tk 11 161 ?_
                    refine tk 12 162 ?_
                    refine tk 13 163 ?_
                    refine tk 14 164 ?_
                    refine tk 15 165 ?_
                    refine tk 16 166 ?_
                    refine tk 17 167 ?_
                    refine tk 18 168 ?_
                    refine tk 19 169 ?_
                    refine tk 20 170 ?_
                    refine tk 21 171 ?_
                    refine tk 22 172 ?_
                    refine tk 23 173 ?_
                    refine tk 24 174 ?_
                    refine rdk 25 175 fun K hK => ?_
                    go_simp
                    refine (HLK.out _ rz0 rB2).mono ?_
                    rintro e w24 ⟨rfl, hb24⟩
                    replace BV := BV.below hb24
                    replace BR := BR.below hb24
                    replace B18 := B18.below hb24
                    replace rx := rx.below hb24
                    replace ry := ry.below hb24
                    replace cA := CellIs.below cA hb24
                    replace cB := CellIs.below cB hb24
                    replace cC := CellIs.below cC hb24
                    replace cD := CellIs.below cD hb24
                    replace cL := CellIs.below cL hb24
                    replace hk2 := hk2.trans hs2 (Kp.of bv hb24)
                    replace hs2 := Nat.le_trans hs2 hb24.size
                    replace hb := chain hb hb24
                    clear hb24
                    (try go_wp2_with fail)
                    refine hko hK (Blk.f2 B18 ⟨cA, cB, cC, cD, cL⟩) fun hHeld => ?_
                    clear hK K
                    refine tk 26 176 ?_
                    refine tk 27 177 ?_
                    refine wpAnyH_done (by kernel_rfl) ?_ _
                    clear hHeld
                    go_wp2
                    go_roundg (N - (k + 1))
                    case measure => omega
                    case rel => exact ⟨k + 1, aL4, aM4, kL4, kM4, by omega, rfl, by go_num, rfl, rfl, rx, ry, BV, BR, hk2, hs2, hb⟩
                · have f1 : (zn == 0) = true := by rw [beq_iff_eq]; exact b1
                  have f2 : (xn == yn) = false := by rw [beq_eq_false_iff_ne]; exact c1
                  have hzB : z0 ≠ B := fun e => by
                    have q := HV3.out e
                    exact c1 (q.1 b1).1
                  rw [show decide (z0 = B) = false from decide_eq_false hzB] at hlq
                  have HLK := Lib.hid hlq
                  clear hzB
                  clear hlq b1 c1
                  have hd_ : w22.drew.heap.size = w22.heap.size := rfl
                  replace B18 := B18.drew
                  replace BV := BV.drew
                  replace BR := BR.drew
                  replace rx := rx.drew
                  replace ry := ry.drew
                  replace rz0 := rz0.drew
                  replace rB2 := rB2.drew
                  replace hk2 := hk2.drew
                  replace hb := hb.drew
                  replace cA := CellIs.drew cA
                  replace cB := CellIs.drew cB
                  replace cC := CellIs.drew cC
                  replace cD := CellIs.drew cD
                  replace cL := CellIs.drew cL
                  replace hs2 : wL.heap.size ≤ w22.drew.heap.size := hs2
                  refine wp_region_held_drew (S := fun w' => w'.cell? ⟨g18, 0, none⟩ = some (.int .i64 zn) ∧ w'.cell? ⟨g18, 1, none⟩ = some (.int .i64 zd) ∧ w'.cell? ⟨gX, k * 2, none⟩ = some (.int .i64 xn) ∧ w'.cell? ⟨gX, k * 2 + 1, none⟩ = some (.int .i64 xd) ∧ w'.cell? ⟨gX, 0, none⟩ = some (.int .i64 yn) ∧ w'.cell? ⟨gX, 1, none⟩ = some (.int .i64 yd) ∧ w'.cell? ⟨gQ, 0, none⟩ = some (.slice (some ⟨gz0, 0, none⟩) B.length kz0)) (by kernel_rfl) ⟨B18.two.1, B18.two.2.1, cA, cB, cC, cD, cL⟩ (fun hHeld => ?_)
                  clear hHeld
                  generalize w22.drew = vd3 at *
                  have hHeld : vd3.cell? ⟨g18, 0, none⟩ = some (.int .i64 zn) ∧ vd3.cell? ⟨g18, 1, none⟩ = some (.int .i64 zd) ∧ vd3.cell? ⟨gX, k * 2, none⟩ = some (.int .i64 xn) ∧ vd3.cell? ⟨gX, k * 2 + 1, none⟩ = some (.int .i64 xd) ∧ vd3.cell? ⟨gX, 0, none⟩ = some (.int .i64 yn) ∧ vd3.cell? ⟨gX, 1, none⟩ = some (.int .i64 yd) ∧ vd3.cell? ⟨gQ, 0, none⟩ = some (.slice (some ⟨gz0, 0, none⟩) B.length kz0) := ⟨B18.two.1, B18.two.2.1, cA, cB, cC, cD, cL⟩
                  refine tk 0 150 ?_
                  refine tk 1 151 ?_
                  refine tk 2 152 ?_
                  refine tk 3 153 ?_
                  refine tk 4 154 ?_
                  refine tk 5 155 ?_
                  refine tk 6 156 ?_
                  refine tk 7 157 ?_
                  refine tk 8 158 ?_
                  refine tk 9 159 ?_
                  refine tk 10 160 ?_
                  refine tk 11 161 ?_
                  refine tk 12 162 ?_
                  refine tk 13 163 ?_
                  refine tk 14 164 ?_
                  refine tk 15 165 ?_
                  refine tk 16 166 ?_
                  refine tk 17 167 ?_
                  refine tk 18 168 ?_
                  refine tk 19 169 ?_
                  refine tk 20 170 ?_
                  refine tk 21 171 ?_
                  refine tk 22 172 ?_
                  refine tk 23 173 ?_
                  refine tk 24 174 ?_
                  refine rdk 25 175 fun K hK => ?_
                  go_simp
                  refine (HLK.out _ rz0 rB2).mono ?_
                  rintro e w24 ⟨rfl, hb24⟩
                  replace BV := BV.below hb24
                  replace BR := BR.below hb24
                  replace B18 := B18.below hb24
                  replace rx := rx.below hb24
                  replace ry := ry.below hb24
                  replace cA := CellIs.below cA hb24
                  replace cB := CellIs.below cB hb24
                  replace cC := CellIs.below cC hb24
                  replace cD := CellIs.below cD hb24
                  replace cL := CellIs.below cL hb24
                  replace hk2 := hk2.trans hs2 (Kp.of bv hb24)
                  replace hs2 := Nat.le_trans hs2 hb24.size
                  replace hb := chain hb hb24
                  clear hb24
                  (try go_wp2_with fail)
                  refine hko hK (Blk.f2 B18 ⟨cA, cB, cC, cD, cL⟩) fun hHeld => ?_
                  clear hK K
                  refine tk 26 176 ?_
                  refine tk 27 177 ?_
                  refine wpAnyH_done (by kernel_rfl) ?_ _
                  clear hHeld
                  go_wp2
                  go_roundg (N - (k + 1))
                  case measure => omega
                  case rel => exact ⟨k + 1, aL4, aM4, kL4, kM4, by omega, rfl, by go_num, rfl, rfl, rx, ry, BV, BR, hk2, hs2, hb⟩
              · by_cases c1 : xn = yn
                · by_cases c2 : xd = yd
                  · have f1 : (zn == 0) = false := by rw [beq_eq_false_iff_ne]; exact b1
                    have f2 : (xn == yn) = true := by rw [beq_iff_eq]; exact c1
                    have f3 : (xd == yd) = true := by rw [beq_iff_eq]; exact c2
                    have hzB : z0 ≠ B := fun e => by
                      have q := HV3.out e
                      exact b1 (q.2 ⟨c1, c2⟩)
                    rw [show decide (z0 = B) = false from decide_eq_false hzB] at hlq
                    have HLK := Lib.hid hlq
                    clear hzB
                    clear hlq b1 c1 c2
                    have hd_ : w22.drew.heap.size = w22.heap.size := rfl
                    replace B18 := B18.drew
                    replace BV := BV.drew
                    replace BR := BR.drew
                    replace rx := rx.drew
                    replace ry := ry.drew
                    replace rz0 := rz0.drew
                    replace rB2 := rB2.drew
                    replace hk2 := hk2.drew
                    replace hb := hb.drew
                    replace cA := CellIs.drew cA
                    replace cB := CellIs.drew cB
                    replace cC := CellIs.drew cC
                    replace cD := CellIs.drew cD
                    replace cL := CellIs.drew cL
                    replace hs2 : wL.heap.size ≤ w22.drew.heap.size := hs2
                    refine wp_region_held_drew (S := fun w' => w'.cell? ⟨g18, 0, none⟩ = some (.int .i64 zn) ∧ w'.cell? ⟨g18, 1, none⟩ = some (.int .i64 zd) ∧ w'.cell? ⟨gX, k * 2, none⟩ = some (.int .i64 xn) ∧ w'.cell? ⟨gX, k * 2 + 1, none⟩ = some (.int .i64 xd) ∧ w'.cell? ⟨gX, 0, none⟩ = some (.int .i64 yn) ∧ w'.cell? ⟨gX, 1, none⟩ = some (.int .i64 yd) ∧ w'.cell? ⟨gQ, 0, none⟩ = some (.slice (some ⟨gz0, 0, none⟩) B.length kz0)) (by kernel_rfl) ⟨B18.two.1, B18.two.2.1, cA, cB, cC, cD, cL⟩ (fun hHeld => ?_)
                    clear hHeld
                    generalize w22.drew = vd3 at *
                    have hHeld : vd3.cell? ⟨g18, 0, none⟩ = some (.int .i64 zn) ∧ vd3.cell? ⟨g18, 1, none⟩ = some (.int .i64 zd) ∧ vd3.cell? ⟨gX, k * 2, none⟩ = some (.int .i64 xn) ∧ vd3.cell? ⟨gX, k * 2 + 1, none⟩ = some (.int .i64 xd) ∧ vd3.cell? ⟨gX, 0, none⟩ = some (.int .i64 yn) ∧ vd3.cell? ⟨gX, 1, none⟩ = some (.int .i64 yd) ∧ vd3.cell? ⟨gQ, 0, none⟩ = some (.slice (some ⟨gz0, 0, none⟩) B.length kz0) := ⟨B18.two.1, B18.two.2.1, cA, cB, cC, cD, cL⟩
                    refine tk 0 150 ?_
                    refine tk 1 151 ?_
                    refine tk 2 152 ?_
                    refine tk 3 153 ?_
                    refine tk 4 154 ?_
                    refine tk 5 155 ?_
                    refine tk 6 156 ?_
                    refine tk 7 157 ?_
                    refine tk 8 158 ?_
                    refine tk 9 159 ?_
                    refine tk 10 160 ?_
                    refine tk 11 161 ?_
                    refine tk 12 162 ?_
                    refine tk 13 163 ?_
                    refine tk 14 164 ?_
                    refine tk 15 165 ?_
                    refine tk 16 166 ?_
                    refine tk 17 167 ?_
                    refine tk 18 168 ?_
                    refine tk 19 169 ?_
                    refine tk 20 170 ?_
                    refine tk 21 171 ?_
                    refine tk 22 172 ?_
                    refine tk 23 173 ?_
                    refine tk 24 174 ?_
                    refine rdk 25 175 fun K hK => ?_
                    go_simp
                    refine (HLK.out _ rz0 rB2).mono ?_
                    rintro e w24 ⟨rfl, hb24⟩
                    replace BV := BV.below hb24
                    replace BR := BR.below hb24
                    replace B18 := B18.below hb24
                    replace rx := rx.below hb24
                    replace ry := ry.below hb24
                    replace cA := CellIs.below cA hb24
                    replace cB := CellIs.below cB hb24
                    replace cC := CellIs.below cC hb24
                    replace cD := CellIs.below cD hb24
                    replace cL := CellIs.below cL hb24
                    replace hk2 := hk2.trans hs2 (Kp.of bv hb24)
                    replace hs2 := Nat.le_trans hs2 hb24.size
                    replace hb := chain hb hb24
                    clear hb24
                    (try go_wp2_with fail)
                    refine hko hK (Blk.f2 B18 ⟨cA, cB, cC, cD, cL⟩) fun hHeld => ?_
                    clear hK K
                    refine tk 26 176 ?_
                    refine tk 27 177 ?_
                    refine wpAnyH_done (by kernel_rfl) ?_ _
                    clear hHeld
                    go_wp2
                    go_roundg (N - (k + 1))
                    case measure => omega
                    case rel => exact ⟨k + 1, aL4, aM4, kL4, kM4, by omega, rfl, by go_num, rfl, rfl, rx, ry, BV, BR, hk2, hs2, hb⟩
                  · have f1 : (zn == 0) = false := by rw [beq_eq_false_iff_ne]; exact b1
                    have f2 : (xn == yn) = true := by rw [beq_iff_eq]; exact c1
                    have f3 : (xd == yd) = false := by rw [beq_eq_false_iff_ne]; exact c2
                    clear hlq b1 c1 c2
                    have hd_ : w22.drew.heap.size = w22.heap.size := rfl
                    replace B18 := B18.drew
                    replace BV := BV.drew
                    replace BR := BR.drew
                    replace rx := rx.drew
                    replace ry := ry.drew
                    replace rz0 := rz0.drew
                    replace rB2 := rB2.drew
                    replace hk2 := hk2.drew
                    replace hb := hb.drew
                    replace cA := CellIs.drew cA
                    replace cB := CellIs.drew cB
                    replace cC := CellIs.drew cC
                    replace cD := CellIs.drew cD
                    replace cL := CellIs.drew cL
                    replace hs2 : wL.heap.size ≤ w22.drew.heap.size := hs2
                    refine wp_region_held_drew (S := fun w' => w'.cell? ⟨g18, 0, none⟩ = some (.int .i64 zn) ∧ w'.cell? ⟨g18, 1, none⟩ = some (.int .i64 zd) ∧ w'.cell? ⟨gX, k * 2, none⟩ = some (.int .i64 xn) ∧ w'.cell? ⟨gX, k * 2 + 1, none⟩ = some (.int .i64 xd) ∧ w'.cell? ⟨gX, 0, none⟩ = some (.int .i64 yn) ∧ w'.cell? ⟨gX, 1, none⟩ = some (.int .i64 yd) ∧ w'.cell? ⟨gQ, 0, none⟩ = some (.slice (some ⟨gz0, 0, none⟩) B.length kz0)) (by kernel_rfl) ⟨B18.two.1, B18.two.2.1, cA, cB, cC, cD, cL⟩ (fun hHeld => ?_)
                    clear hHeld
                    generalize w22.drew = vd3 at *
                    have hHeld : vd3.cell? ⟨g18, 0, none⟩ = some (.int .i64 zn) ∧ vd3.cell? ⟨g18, 1, none⟩ = some (.int .i64 zd) ∧ vd3.cell? ⟨gX, k * 2, none⟩ = some (.int .i64 xn) ∧ vd3.cell? ⟨gX, k * 2 + 1, none⟩ = some (.int .i64 xd) ∧ vd3.cell? ⟨gX, 0, none⟩ = some (.int .i64 yn) ∧ vd3.cell? ⟨gX, 1, none⟩ = some (.int .i64 yd) ∧ vd3.cell? ⟨gQ, 0, none⟩ = some (.slice (some ⟨gz0, 0, none⟩) B.length kz0) := ⟨B18.two.1, B18.two.2.1, cA, cB, cC, cD, cL⟩
                    refine tk 0 150 ?_
                    refine tk 1 151 ?_
                    refine tk 2 152 ?_
                    refine tk 3 153 ?_
                    refine tk 4 154 ?_
                    refine tk 5 155 ?_
                    refine tk 6 156 ?_
                    refine tk 7 157 ?_
                    refine tk 8 158 ?_
                    refine tk 9 159 ?_
                    refine tk 10 160 ?_
                    refine tk 11 161 ?_
                    refine tk 12 162 ?_
                    refine tk 13 163 ?_
                    refine tk 14 164 ?_
                    refine tk 15 165 ?_
                    refine tk 16 166 ?_
                    refine tk 17 167 ?_
                    refine tk 18 168 ?_
                    refine tk 19 169 ?_
                    refine tk 20 170 ?_
                    refine tkv 21 171 ?_
                    refine tkv 22 172 ?_
                    refine tkv 23 173 ?_
                    refine tkv 24 174 ?_
                    refine tkv 25 175 ?_
                    refine tk 26 176 ?_
                    refine tk 27 177 ?_
                    refine wpAnyH_done (by kernel_rfl) ?_ _
                    clear hHeld
                    go_wp2
                    go_roundg (N - (k + 1))
                    case measure => omega
                    case rel => exact ⟨k + 1, aL4, aM4, kL4, kM4, by omega, rfl, by go_num, rfl, rfl, rx, ry, BV, BR, hk2, hs2, hb⟩
                · have f1 : (zn == 0) = false := by rw [beq_eq_false_iff_ne]; exact b1
                  have f2 : (xn == yn) = false := by rw [beq_eq_false_iff_ne]; exact c1
                  clear hlq b1 c1
                  have hd_ : w22.drew.heap.size = w22.heap.size := rfl
                  replace B18 := B18.drew
                  replace BV := BV.drew
                  replace BR := BR.drew
                  replace rx := rx.drew
                  replace ry := ry.drew
                  replace rz0 := rz0.drew
                  replace rB2 := rB2.drew
                  replace hk2 := hk2.drew
                  replace hb := hb.drew
                  replace cA := CellIs.drew cA
                  replace cB := CellIs.drew cB
                  replace cC := CellIs.drew cC
                  replace cD := CellIs.drew cD
                  replace cL := CellIs.drew cL
                  replace hs2 : wL.heap.size ≤ w22.drew.heap.size := hs2
                  refine wp_region_held_drew (S := fun w' => w'.cell? ⟨g18, 0, none⟩ = some (.int .i64 zn) ∧ w'.cell? ⟨g18, 1, none⟩ = some (.int .i64 zd) ∧ w'.cell? ⟨gX, k * 2, none⟩ = some (.int .i64 xn) ∧ w'.cell? ⟨gX, k * 2 + 1, none⟩ = some (.int .i64 xd) ∧ w'.cell? ⟨gX, 0, none⟩ = some (.int .i64 yn) ∧ w'.cell? ⟨gX, 1, none⟩ = some (.int .i64 yd) ∧ w'.cell? ⟨gQ, 0, none⟩ = some (.slice (some ⟨gz0, 0, none⟩) B.length kz0)) (by kernel_rfl) ⟨B18.two.1, B18.two.2.1, cA, cB, cC, cD, cL⟩ (fun hHeld => ?_)
                  clear hHeld
                  generalize w22.drew = vd3 at *
                  have hHeld : vd3.cell? ⟨g18, 0, none⟩ = some (.int .i64 zn) ∧ vd3.cell? ⟨g18, 1, none⟩ = some (.int .i64 zd) ∧ vd3.cell? ⟨gX, k * 2, none⟩ = some (.int .i64 xn) ∧ vd3.cell? ⟨gX, k * 2 + 1, none⟩ = some (.int .i64 xd) ∧ vd3.cell? ⟨gX, 0, none⟩ = some (.int .i64 yn) ∧ vd3.cell? ⟨gX, 1, none⟩ = some (.int .i64 yd) ∧ vd3.cell? ⟨gQ, 0, none⟩ = some (.slice (some ⟨gz0, 0, none⟩) B.length kz0) := ⟨B18.two.1, B18.two.2.1, cA, cB, cC, cD, cL⟩
                  refine tk 0 150 ?_
                  refine tk 1 151 ?_
                  refine tk 2 152 ?_
                  refine tk 3 153 ?_
                  refine tk 4 154 ?_
                  refine tk 5 155 ?_
                  refine tk 6 156 ?_
                  refine tk 7 157 ?_
                  refine tk 8 158 ?_
                  refine tk 9 159 ?_
                  refine tk 10 160 ?_
                  refine tk 11 161 ?_
                  refine tk 12 162 ?_
                  refine tk 13 163 ?_
                  refine tk 14 164 ?_
                  refine tk 15 165 ?_
                  refine tk 16 166 ?_
                  refine tk 17 167 ?_
                  refine tk 18 168 ?_
                  refine tk 19 169 ?_
                  refine tk 20 170 ?_
                  refine tkv 21 171 ?_
                  refine tkv 22 172 ?_
                  refine tkv 23 173 ?_
                  refine tkv 24 174 ?_
                  refine tkv 25 175 ?_
                  refine tk 26 176 ?_
                  refine tk 27 177 ?_
                  refine wpAnyH_done (by kernel_rfl) ?_ _
                  clear hHeld
                  go_wp2
                  go_roundg (N - (k + 1))
                  case measure => omega
                  case rel => exact ⟨k + 1, aL4, aM4, kL4, kM4, by omega, rfl, by go_num, rfl, rfl, rx, ry, BV, BR, hk2, hs2, hb⟩
          · obtain rfl : k = N := by omega
            go_wp2
            go_ret
            exact ⟨rfl, hb⟩
    · have fa : (cc == 0) = false := by rw [beq_eq_false_iff_ne]; exact ca
      have fa2 : (cc != 0) = true := by rw [bne, fa]; rfl
      clear ca HBC HLI
      go_wp2_with fail
      go_ret
      exact ⟨by simp, hb⟩
set_option maxRecDepth 100000 in
theorem fnLosses_lifted (os : Os) (started : os.Started) (H : Type) (enc : TypeId × Value → H) :
    ReturnsInHanded {} Tryz.checked os 4 .any (Rows.fnLossesSpec.pre6 enc Tryz.prog Tryz.f4 Rows.fnLossesRow.domain false) (Rows.fnLossesSpec.post enc Tryz.prog Tryz.f4 false true false false) := by
  refine returnsInHanded_of_change (C := Tryz.checked) own started (by kernel_rfl) Tryz.func4
    (ChangeSpec.witness6 (enc := enc) (C := Tryz.checked) false ⟨#[], #[.slice none 0 0], []⟩ 8 (by kernel_rfl) (by kernel_rfl) (by kernel_rfl) (by kernel_rfl)) ?_
  intro W base args ds gs before hval0 hW hcnd _
  have hval : ∀ (j : Nat) t v, Tryz.f4.params[j]? = some t → args[j]? = some v → Value.okWide Tryz.prog W .any base t v := hval0
  have hW' := hW
  obtain ⟨p, q, hA0, hV, rfl, hfz, hnd⟩ := hW
  have hA : DataW.TrodAll enc Tryz.prog W 0 (fun _ => true) true Tryz.f4.params.toList args.toList ds p := hA0
  rw [Tryz.params4] at hA hval
  obtain ⟨v0, vs0, d0, ds0, p0, q0, hargs, rfl, rfl, h0, r0⟩ := trodAll_cons hA
  obtain ⟨rfl, rfl, rfl⟩ := trodAll_nil r0
  obtain rfl : args = #[v0] := by cases args; simp_all
  obtain ⟨rfl, rfl⟩ := trodVars_none hV
  have k0 := h0
  have lt0 : ∀ x ∈ p0, x.block < W.heap.size := by obtain ⟨m, hm⟩ := k0; exact DataW.trod_lt m _ _ _ hm
  obtain ⟨sa_0, sl_0, sc_0, rfl⟩ := okWide_slice Tryz.underlying22 (hval 0 22 v0 rfl rfl)
  have hcode_0 : CodeIn W.heap.size W sa_0 sl_0 := by
    obtain ⟨fuel, hf⟩ := h0
    rcases open_ints Tryz.underlying22 Tryz.underlying5 (by kernel_rfl) hf with ⟨hcs, _⟩ | ⟨x, l, c, zs, hcs, _, hl, hm, hz, _, hcell, hwz⟩
    · simp [Value.cells] at hcs
      obtain ⟨rfl, rfl, rfl⟩ := hcs
      intro i hi
      omega
    · simp [Value.cells] at hcs
      obtain ⟨rfl, rfl, rfl⟩ := hcs
      exact code_of_ints (by have hz2 := hz; simp at hz2; omega) trivial hcell hwz
  clear hA0 hval0
  refine (fnLosses_walk sa_0 sl_0 sc_0 W hcode_0).mono fun e W' ⟨he, bel⟩ => ?_
  subst he
  exact ⟨_, rfl, _, _, _, [], _, [], hW', trodAll_mk1 (shut_bool Tryz.underlying4 _), (trodAll_cons_mk (Below.trod laidOut (by kernel_rfl) (of_decide_eq_true (by kernel_rfl)) k0 bel lt0) trodAll_mk0), rfl, bel.frame _, fun h => by cases h⟩
theorem fnLosses_holds : Rows.FnLossesSaid :=
  OpenClaim.holds_of_wide 4 Tryz.f4 rfl rfl rfl rfl rfl rfl rfl ⟨rfl, rfl, rfl, rfl, rfl⟩ rfl rfl rfl rfl rfl (by kernel_rfl) Tryz.func4 (by kernel_rfl)
    (of_decide_eq_true (by kernel_rfl)) (by unfold Func.isWrapper; first | (rw [if_pos (by decide +kernel)]; kernel_rfl) | (rw [if_neg (by decide +kernel)]; exact ⟨rfl, rfl⟩))
    (fun os started H enc _ => fnLosses_lifted os started H enc)
end Go.Proofs.YtnlclmlnpkncoaaGreat
