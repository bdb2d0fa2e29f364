/- Texts of a proof, laid together: Contract of the model on the numbers of plays of all rolls. Contract of the program on the numbers of plays of all rolls. -/
import Derived.Test.YtokjkcnjmfbfiaaY20
import Derived.Test.YtokjkcnjmfbfiaaY15
import Derived.Test.YtokjkcnjmfbfiaaY29
namespace Go.Proofs.Ytokjkcnjmfbfiaa
open Go.ChangeShapes Go.WideShapes Go.ChangeAt Go.RowKit
set_option linter.unusedVariables false
set_option linter.unusedSimpArgs false
set_option maxRecDepth 4000

theorem VRow.pushI {w w' : World} {base g : Nat} {v : Value} {l : List Int} {vs : List Value} {t : TypeId} (h : VRow w g vs t) (hO : Own w base v l) (ht : t ≠ 2) (hk : ∀ k, k < w.heap.size → v.ownBlock ≠ some k → w'.heap[k]? = w.heap[k]?) : VRow w' g vs t := by
  obtain ⟨cur, hB, q1, q2⟩ := h
  refine ⟨cur, ?_, q1, q2⟩
  have hg : g < w.heap.size := Blk.lt hB
  refine (hk g hg (fun e => ?_)).trans hB
  rcases hO.2 with ⟨h1, h2⟩ | ⟨g', cap, cur', h1, hb, hh, hrest⟩
  · rw [h1] at e
    simp [Value.ownBlock] at e
  · rw [h1] at e
    simp [Value.ownBlock] at e
    subst e
    have hB' : w.heap[g']? = some (.cells cur t (0, 0)) := hB
    rw [hh] at hB'
    simp at hB'
    exact ht hB'.2.symm
theorem ORl.pushI {lo hi : Nat} {w w' : World} {base : Nat} {v : Value} {xs : List Int} {a : Option Addr} {l : List Rl} (h : ORl lo hi w a l) (hO : Own w base v xs) (hk : ∀ k, k < w.heap.size → v.ownBlock ≠ some k → w'.heap[k]? = w.heap[k]?) : ORl lo hi w' a l := by
  rcases h with h | ⟨g, e, h1, h2, r⟩
  · exact .inl h
  · exact .inr ⟨g, e, h1, h2, VRow.pushI r hO (by decide) hk⟩
/-- One number appended, with what is kept beside it. -/
theorem wp_pushI {ops : Array Oper} {rest : List Oper} {o : Oper} {a : Act} {Q : Exit → Act → World → Prop} (hgd : o.guard = none) (s x : Operand)
    (ho : o.op = .call { callee := .builtin .append, args := #[s, x], argTypes := #[24, 24] })
    (base : Nat) (v : Value) (xs : List Int) (hs : a.eval s = v) {w0 : World} (hown : Own w0 base v xs) (u : Int)
    (hx : a.eval x = .slice (some ⟨w0.heap.size, 0, none⟩) 1 1) (hl : xs.length ≤ 1048576) (hbase : base ≤ w0.heap.size)
    (h : ∀ v' w', Own w' base v' (xs ++ [u]) → Below base w0 w' → (∀ k, k < w0.heap.size → v.ownBlock ≠ some k → w'.heap[k]? = w0.heap[k]?) → wpList Try.prog ops Q rest (a.put o.dst v') w') : wpList Try.prog ops Q (o :: rest) a (w0.alloc (.cells #[.int .i64 u] 2)) := by
  obtain ⟨i0, hi, hz0, hz1, hz2⟩ := info_parts infoI64
  refine wpList_append1 hgd s x 24 ho base 2 i0 (.int .i64 0) 8 Try.underlying24 hi hz0 hz1 hz2 rfl v xs.length (ints xs) hs hown (.int .i64 u) hx rfl (by unfold maxLen; omega) (by omega) hbase ?_
  intro g cap w' ho' hb' hk
  refine h _ w' ?_ hb' hk
  show w'.ownsRow base 2 1 _ (xs ++ [u]).length (ints (xs ++ [u]))
  rw [show (xs ++ [u]).length = xs.length + 1 by simp, show ints (xs ++ [u]) = ints xs ++ [.int .i64 u] by simp [ints]]
  exact ho'
/-- The numbers of plays of the first rolls. -/
def pcTo (P : Nat) (h : Int) (xs ys : List Int) (l : List Rl) (k : Nat) : List Int := (l.take k).map fun r => ((allP P h xs ys r.1 r.2).length : Int)
theorem pcTo_succ (P : Nat) (h : Int) (xs ys : List Int) (l : List Rl) (k : Nat) (r : Rl) (hr : l[k]? = some r) : pcTo P h xs ys l (k + 1) = pcTo P h xs ys l k ++ [((allP P h xs ys r.1 r.2).length : Int)] := by
  unfold pcTo
  obtain ⟨hk, rfl⟩ := List.getElem?_eq_some_iff.1 hr
  rw [List.take_succ_eq_append_getElem hk, List.map_append]
  rfl
def pcOk (P : Nat) (h : Int) (xs ys : List Int) (l : List Rl) : Bool := l.all fun r => allOk P h xs ys r.1 r.2
def pcL (p c h s : Int) (xs ys : List Int) : List Int := if isB p c h s xs ys = true then (if pcOk p.toNat h xs ys (rollsTo s.toNat) = true then pcTo p.toNat h xs ys (rollsTo s.toNat) (rollsTo s.toNat).length else []) else []
def pcC (p c h s : Int) (xs ys : List Int) : Int := if isB p c h s xs ys = true then (if pcOk p.toNat h xs ys (rollsTo s.toNat) = true then 0 else 3) else 1
set_option maxRecDepth 8000 in
set_option maxHeartbeats 2000000 in
theorem specPlayCounts_any (p c h s : Int) (a1 a2 : Option Addr) (n1 n2 c1 c2 : Nat) (xs ys : List Int) (w : World) (h1 : xs.length = n1) (h2 : ys.length = n2) (l1 : n1 ≤ 1048576) (l2 : n2 ≤ 1048576) (r1 : IRow w a1 xs) (r2 : IRow w a2 ys) :
    Calls Try.prog 32 #[.agg #[.int .i64 p, .int .i64 c, .int .i64 h, .int .i64 s], .agg #[.slice a1 n1 c1, .slice a2 n2 c2]] w (SliceGot2 (pcL p c h s xs ys) (pcC p c h s xs ys) w) := by
  have hib := fun W (q1 : IRow W a1 xs) (q2 : IRow W a2 ys) => specIsBoard_any p c h s a1 a2 n1 n2 c1 c2 xs ys W h1 h2 l1 l2 q1 q2
  unfold pcL pcC
  by_cases g : isB p c h s xs ys = true
  · rw [if_pos g, if_pos g]
    rw [g] at hib
    obtain ⟨p0, p1, k0, k1, k2, k3, N1, N2, hx, hy, s0, s1, s2, s3⟩ := isB_parts g
    have hs6 := isB_sides g
    clear hx hy
    obtain ⟨P, rfl⟩ := Int.eq_ofNat_of_zero_le (by omega : 0 ≤ p)
    obtain ⟨S, rfl⟩ := Int.eq_ofNat_of_zero_le (by omega : 0 ≤ s)
    rw [show ((P : Int)).toNat = P by simp, show ((S : Int)).toNat = S by simp]
    have hRl := rollsTo_length S
    have hS2 : S * S ≤ 6 * 6 := Nat.mul_le_mul (by omega) (by omega)
    have hRm := rollsTo_mem S
    have hrl := fun W => l07All_any (P : Int) c h S W (by omega)
    obtain ⟨RL, hRL⟩ : ∃ z, rollsTo S = z := ⟨_, rfl⟩
    rw [hRL] at hRl hRm hrl ⊢
    have hR36 : RL.length ≤ 36 := by omega
    have hY : pcOk P h xs ys RL = true → (if pcOk P h xs ys RL = true then pcTo P h xs ys RL RL.length else []) = pcTo P h xs ys RL RL.length ∧ (if pcOk P h xs ys RL = true then (0 : Int) else 3) = 0 := fun e => ⟨if_pos e, if_pos e⟩
    have hN : pcOk P h xs ys RL = false → (if pcOk P h xs ys RL = true then pcTo P h xs ys RL RL.length else []) = [] ∧ (if pcOk P h xs ys RL = true then (0 : Int) else 3) = 3 := fun e => ⟨if_neg (by simp [e]), if_neg (by simp [e])⟩
    have hpl : ∀ i, (pcTo P h xs ys RL i).length ≤ 36 := fun i => by unfold pcTo; rw [List.length_map, List.length_take]; omega
    generalize (if pcOk P h xs ys RL = true then pcTo P h xs ys RL RL.length else []) = LST at *
    generalize (if pcOk P h xs ys RL = true then (0 : Int) else 3) = COD at *
    have HY := Lib.hid hY
    have HN := Lib.hid hN
    have HPL := Lib.hid hpl
    clear hY hN hpl
    have hall := fun (ra rb : Int) (e1 : inB ra 1 (S : Int) = true) (e2 : inB rb 1 (S : Int) = true) W (q1 : IRow W a1 xs) (q2 : IRow W a2 ys) => l05All_any P c h (S : Int) ra rb a1 a2 n1 n2 c1 c2 xs ys W h1 h2 q1 q2 g e1 e2
    unfold AllGot at hall
    have HIB := Lib.hid hib
    have HRLc := Lib.hid hrl
    have HALL := Lib.hid hall
    have HRM := Lib.hid hRm
    clear hib hrl hall hRm hRL hRl hS2 g
    obtain ⟨BV, BB, hb, hz⟩ := two_new w #[.int .i64 (P : Int), .int .i64 c, .int .i64 h, .int .i64 (S : Int)] #[.slice a1 n1 c1, .slice a2 n2 c2] 32 34
    have hz0 : w.heap.size + 1 + 1 ≤ ((w.alloc (.cells #[.int .i64 (P : Int), .int .i64 c, .int .i64 h, .int .i64 (S : Int)] 32)).alloc (.cells #[.slice a1 n1 c1, .slice a2 n2 c2] 34)).heap.size := by rw [hz]; omega
    clear hz
    obtain ⟨x0, x1, x2, x3, xf, xl⟩ := BV.four
    obtain ⟨y0, y1, yf, yl⟩ := BB.two
    go_enter Try.func32, Try.ntmps32
    go_wp2_with fail
    clear x0 x1 x2 x3 xf xl y0 y1 yf yl
    generalize ((w.alloc (.cells #[.int .i64 (P : Int), .int .i64 c, .int .i64 h, .int .i64 (S : Int)] 32)).alloc (.cells #[.slice a1 n1 c1, .slice a2 n2 c2] 34)) = v0 at *
    refine (HIB.out _ (r1.below hb) (r2.below hb)).mono ?_
    rintro e w1 ⟨rfl, hb1⟩
    have hO := Own.start w1
    have hal : Below w1.heap.size w1 (w1.alloc (.cells #[] 2)) := (Below.refl _ _).alloc (Nat.le_refl _) _
    have hz1 : w1.heap.size + 1 ≤ (w1.alloc (.cells #[] 2)).heap.size := by simp
    have hzb : w.heap.size + 1 + 1 ≤ w1.heap.size := Nat.le_trans hz0 hb1.size
    replace hb1 := chain hb1 hal
    replace BV := BV.below hb1
    replace BB := BB.below hb1
    replace hb := chain hb hb1
    clear hb1 hal HIB
    have hVl := BV.lt
    obtain ⟨x0, x1, x2, x3, xf, xl⟩ := BV.four
    go_wp2_with fail
    clear x0 x1 x2 x3 xf xl
    generalize (w1.alloc (.cells #[] 2)) = v1 at *
    generalize w1.heap.size = base at *
    refine (HRLc.out _).mono ?_
    rintro e w2 ⟨aR, kR, rfl, hR, hb2⟩
    replace BV := BV.below hb2
    replace BB := BB.below hb2
    replace hO := hO.kept hb2
    replace hb := chain hb hb2
    have hz2 := hb2.size
    clear hb2 HRLc
    go_wp2_with fail
    go_loopg [6, 8, 9, 10] RL.length (fun m q6 q8 q9 q10 wr => ∃ i : Nat, i ≤ RL.length ∧ m = RL.length - i ∧ q8 = .int .i64 (i : Int) ∧ (∀ j r, j < i → RL[j]? = some r → allOk P h xs ys r.1 r.2 = true) ∧ Own wr base q6 (pcTo P h xs ys RL i) ∧ ORl v1.heap.size w2.heap.size wr aR RL ∧ Blk wr w.heap.size #[.int .i64 (P : Int), .int .i64 c, .int .i64 h, .int .i64 (S : Int)] 32 ∧ Blk wr (w.heap.size + 1) #[.slice a1 n1 c1, .slice a2 n2 c2] 34 ∧ Below base w2 wr)
    case atStart => exact ⟨0, by omega, by omega, rfl, fun j r hj => by omega, by simpa [pcTo] using hO, hR, BV, BB, Below.refl _ _⟩
    case round =>
      obtain ⟨i, hi, hm, rfl, hAO, hO, hR, BV, BB, hbq⟩ := hrel
      have hszq := hbq.size
      have hbel := hb.trans (hbq.mono (by omega))
      by_cases hlt : i < RL.length
      · have hlt' : (i : Int) < (RL.length : Int) := by omega
        have hi0 : (0 : Int) ≤ (i : Int) := by omega
        obtain ⟨r, hr⟩ : ∃ r, RL[i]? = some r := ⟨_, List.getElem?_eq_getElem hlt⟩
        have hrm := HRM.out r (List.mem_of_getElem? hr)
        have hst := pcTo_succ P h xs ys RL i r hr
        have hpl := HPL.out i
        obtain ⟨gR, eR, RR⟩ := hR.row hlt
        obtain ⟨u0, u1⟩ := RR.two i r hr
        have hno : allOk P h xs ys r.1 r.2 = false → pcOk P h xs ys RL = false := fun e => by
          rw [Bool.eq_false_iff]
          intro e2
          have := List.all_eq_true.1 e2 r (List.mem_of_getElem? hr)
          rw [e] at this
          exact absurd this (by simp)
        have hso : allOk P h xs ys r.1 r.2 = true → ∀ j r2, j < i + 1 → RL[j]? = some r2 → allOk P h xs ys r2.1 r2.2 = true := fun e j r2 hj hr2 => by
          by_cases ej : j = i
          · subst ej
            rw [hr] at hr2
            injection hr2 with hr2
            rw [← hr2]
            exact e
          · exact hAO j r2 (by omega) hr2
        obtain ⟨ra, rb⟩ := r
        dsimp only at hrm u0 u1 hst hno hso
        have hal := fun W (hW : Below wr.heap.size wr W) => HALL.out ra rb (by simp [inB]; omega) (by simp [inB]; omega) W (r1.below (chain hbel hW)) (r2.below (chain hbel hW))
        obtain ⟨AO, hAOe⟩ : ∃ z, allOk P h xs ys ra rb = z := ⟨_, rfl⟩
        obtain ⟨AA, hAA⟩ : ∃ z, allP P h xs ys ra rb = z := ⟨_, rfl⟩
        rw [hAOe, hAA] at hal
        rw [hAOe] at hno hso
        rw [hAA] at hst
        have HAL := Lib.hid hal
        have HST := Lib.hid hst
        have HNO := Lib.hid hno
        have HSO := Lib.hid hso
        have HAO := Lib.hid hAO
        have HRR := Lib.hid (And.intro hr RR)
        clear hal hst hno hso hAO hAOe hAA hr RR hrm
        subst eR
        obtain ⟨x0, x1, x2, x3, xf, xl⟩ := BV.four
        obtain ⟨y0, y1, yf, yl⟩ := BB.two
        go_wp2_with fail
        clear x0 x1 x2 x3 xf xl y0 y1 yf yl
        refine wp_region_held_drew (S := fun w' => w'.cell? ⟨w.heap.size, 0, none⟩ = some (.int .i64 (P : Int)) ∧ w'.cell? ⟨w.heap.size, 1, none⟩ = some (.int .i64 c) ∧ w'.cell? ⟨w.heap.size, 2, none⟩ = some (.int .i64 h) ∧ w'.cell? ⟨w.heap.size, 3, none⟩ = some (.int .i64 (S : Int)) ∧ w'.cell? ⟨w.heap.size + 1, 0, none⟩ = some (.slice a1 n1 c1) ∧ w'.cell? ⟨w.heap.size + 1, 1, none⟩ = some (.slice a2 n2 c2) ∧ w'.cell? ⟨gR, i * 2, none⟩ = some (.int .i64 ra) ∧ w'.cell? ⟨gR, i * 2 + 1, none⟩ = some (.int .i64 rb)) (by kernel_rfl) ⟨(BV.below (Below.refl _ _).drew).four.1, (BV.below (Below.refl _ _).drew).four.2.1, (BV.below (Below.refl _ _).drew).four.2.2.1, (BV.below (Below.refl _ _).drew).four.2.2.2.1, (BB.below (Below.refl _ _).drew).two.1, (BB.below (Below.refl _ _).drew).two.2.1, CellIs.below u0 (Below.refl _ _).drew, CellIs.below u1 (Below.refl _ _).drew⟩ (fun hHeld => ?_)
        refine wpAnyH_take (i := 0) (oi := { dst := some 26, op := _, type := _, pos := _, after := _, guard := _ }) (v := ?_) rfl (by kernel_rfl) (by kernel_rfl) (by kernel_rfl) (fun _ _ _ h => h) (Or.inl ⟨by rfl, ?_⟩) (by assumption) ?_
        rotate_left
        · intro w hSw
          (try dsimp only at hSw)
          go_simp
          (try (with_reducible rfl))
        try simp only [Act.put, List.setIfInBounds_toArray, List.set_cons_zero, List.set_cons_succ]
        refine wpAnyH_take (i := 1) (oi := { dst := some 27, op := _, type := _, pos := _, after := _, guard := _ }) (v := ?_) rfl (by kernel_rfl) (by kernel_rfl) (by kernel_rfl) (fun _ _ _ h => h) (Or.inl ⟨by rfl, ?_⟩) (by assumption) ?_
        rotate_left
        · intro w hSw
          (try dsimp only at hSw)
          go_simp
          (try (with_reducible rfl))
        try simp only [Act.put, List.setIfInBounds_toArray, List.set_cons_zero, List.set_cons_succ]
        refine wpAnyH_take (i := 2) (oi := { dst := some 28, op := _, type := _, pos := _, after := _, guard := _ }) (v := ?_) rfl (by kernel_rfl) (by kernel_rfl) (by kernel_rfl) (fun _ _ _ h => h) (Or.inl ⟨by rfl, ?_⟩) (by assumption) ?_
        rotate_left
        · intro w hSw
          (try dsimp only at hSw)
          go_simp
          (try (with_reducible rfl))
        try simp only [Act.put, List.setIfInBounds_toArray, List.set_cons_zero, List.set_cons_succ]
        refine wpAnyH_take (i := 3) (oi := { dst := some 29, op := _, type := _, pos := _, after := _, guard := _ }) (v := ?_) rfl (by kernel_rfl) (by kernel_rfl) (by kernel_rfl) (fun _ _ _ h => h) (Or.inl ⟨by rfl, ?_⟩) (by assumption) ?_
        rotate_left
        · intro w hSw
          (try dsimp only at hSw)
          go_simp
          (try (with_reducible rfl))
        try simp only [Act.put, List.setIfInBounds_toArray, List.set_cons_zero, List.set_cons_succ]
        refine wpAnyH_take (i := 4) (oi := { dst := some 30, op := _, type := _, pos := _, after := _, guard := _ }) (v := ?_) rfl (by kernel_rfl) (by kernel_rfl) (by kernel_rfl) (fun _ _ _ h => h) (Or.inl ⟨by rfl, ?_⟩) (by assumption) ?_
        rotate_left
        · intro w hSw
          (try dsimp only at hSw)
          go_simp
          (try (with_reducible rfl))
        try simp only [Act.put, List.setIfInBounds_toArray, List.set_cons_zero, List.set_cons_succ]
        refine wpAnyH_take (i := 5) (oi := { dst := some 31, op := _, type := _, pos := _, after := _, guard := _ }) (v := ?_) rfl (by kernel_rfl) (by kernel_rfl) (by kernel_rfl) (fun _ _ _ h => h) (Or.inl ⟨by rfl, ?_⟩) (by assumption) ?_
        rotate_left
        · intro w hSw
          (try dsimp only at hSw)
          go_simp
          (try (with_reducible rfl))
        try simp only [Act.put, List.setIfInBounds_toArray, List.set_cons_zero, List.set_cons_succ]
        refine wpAnyH_ready (rs := [6]) (by kernel_rfl) (by simp) ?_
        refine AllReadyH.cons (o := { dst := some 32, op := _, type := _, pos := _, after := _, guard := _ }) rfl (fun K hK => ?_) AllReadyH.nil
        go_simp
        refine (HAL.out _ (Below.refl _ _).drew).mono ?_
        rintro e w5 ⟨aP, kP, LP, rfl, hLm, -, -, hb5⟩
        have hb5 := from_drew hb5
        (try go_wp2_with fail)
        refine hK.out _ _ ⟨(BV.below hb5).four.1, (BV.below hb5).four.2.1, (BV.below hb5).four.2.2.1, (BV.below hb5).four.2.2.2.1, (BB.below hb5).two.1, (BB.below hb5).two.2.1, CellIs.below u0 hb5, CellIs.below u1 hb5⟩ (fun hHeld => ?_)
        clear hK K
        try simp only [Act.put, List.setIfInBounds_toArray, List.set_cons_zero, List.set_cons_succ]
        refine wpAnyH_take (i := 7) (oi := { dst := some 25, op := _, type := _, pos := _, after := _, guard := _ }) (v := ?_) rfl (by kernel_rfl) (by kernel_rfl) (by kernel_rfl) (fun _ _ _ h => h) (Or.inl ⟨by rfl, ?_⟩) (by assumption) ?_
        rotate_left
        · intro w hSw
          (try dsimp only at hSw)
          go_simp
          (try (with_reducible rfl))
        try simp only [Act.put, List.setIfInBounds_toArray, List.set_cons_zero, List.set_cons_succ]
        refine wpAnyH_take (i := 8) (oi := { dst := some 33, op := _, type := _, pos := _, after := _, guard := _ }) (v := ?_) rfl (by kernel_rfl) (by kernel_rfl) (by kernel_rfl) (fun _ _ _ h => h) (Or.inl ⟨by rfl, ?_⟩) (by assumption) ?_
        rotate_left
        · intro w hSw
          (try dsimp only at hSw)
          go_simp
          (try (with_reducible rfl))
        try simp only [Act.put, List.setIfInBounds_toArray, List.set_cons_zero, List.set_cons_succ]
        refine wpAnyH_take (i := 9) (oi := { dst := some 34, op := _, type := _, pos := _, after := _, guard := _ }) (v := ?_) rfl (by kernel_rfl) (by kernel_rfl) (by kernel_rfl) (fun _ _ _ h => h) (Or.inl ⟨by rfl, ?_⟩) (by assumption) ?_
        rotate_left
        · intro w hSw
          (try dsimp only at hSw)
          go_simp
          (try (with_reducible rfl))
        try simp only [Act.put, List.setIfInBounds_toArray, List.set_cons_zero, List.set_cons_succ]
        refine wpAnyH_take (i := 10) (oi := { dst := some 9, op := _, type := _, pos := _, after := _, guard := _ }) (v := ?_) rfl (by kernel_rfl) (by kernel_rfl) (by kernel_rfl) (fun _ _ _ h => h) (Or.inl ⟨by rfl, ?_⟩) (by assumption) ?_
        rotate_left
        · intro w hSw
          (try dsimp only at hSw)
          go_simp
          (try (with_reducible rfl))
        try simp only [Act.put, List.setIfInBounds_toArray, List.set_cons_zero, List.set_cons_succ]
        refine wpAnyH_take (i := 11) (oi := { dst := some 10, op := _, type := _, pos := _, after := _, guard := _ }) (v := ?_) rfl (by kernel_rfl) (by kernel_rfl) (by kernel_rfl) (fun _ _ _ h => h) (Or.inl ⟨by rfl, ?_⟩) (by assumption) ?_
        rotate_left
        · intro w hSw
          (try dsimp only at hSw)
          go_simp
          (try (with_reducible rfl))
        try simp only [Act.put, List.setIfInBounds_toArray, List.set_cons_zero, List.set_cons_succ]
        refine wpAnyH_done (by kernel_rfl) ?_ _
        clear hHeld
        have hO5 := hO.kept hb5
        have hR5 := hR.below hb5
        have BV5 := BV.below hb5
        have BB5 := BB.below hb5
        have hbq5 := hbq.trans (hb5.mono (by omega))
        have hbel5 := chain hbel hb5
        have hsz5 := hb5.size
        have hlP : LP.length = AA.length := by rw [← hLm, List.length_map]
        clear hO hR BV BB hLm u0 u1
        cases AO with
        | false =>
          obtain ⟨e1, e2⟩ := HN.out (HNO.out rfl)
          clear hlP
          go_wp2
          go_ret2
          try rw [e1, e2]
          exact ⟨some ⟨w5.heap.size, 0, none⟩, 0, rfl, .inr ⟨w5.heap.size, rfl, (hbel5).size, by simp, #[], Blk.new _ #[] 2, by simp, rfl⟩, (hbel5).alloc (hbel5).size _⟩
        | true =>
          have HLP := Lib.hid hlP
          clear hlP
          go_wp2_with (at_builtin; refine wp_pushI rfl (.tmp 38) (.tmp 41) rfl base _ (pcTo P h xs ys RL i) rfl hO5 (LP.length : Int) rfl (by omega) (by omega) ?_; intro v2 w6 hO2 hb6 hk6)
          go_roundg (RL.length - (i + 1))
          case measure => omega
          case rel => exact ⟨i + 1, by omega, rfl, by go_num, HSO.out (by first | exact trivial | rfl), by rw [HST.out, ← HLP.out]; exact hO2, hR5.pushI hO5 hk6, (hb6.block _ (by omega)).trans BV5, (hb6.block _ (by omega)).trans BB5, hbq5.trans hb6⟩
      · obtain rfl : i = RL.length := by omega
        have hyes : pcOk P h xs ys RL = true := List.all_eq_true.2 (fun r hr => by
          obtain ⟨j, hj⟩ := List.mem_iff_getElem?.1 hr
          exact hAO j r (List.getElem?_eq_some_iff.1 hj).1 hj)
        obtain ⟨e1, e2⟩ := HY.out hyes
        have HE := Lib.hid (And.intro e1 e2)
        clear e1 e2 hyes hAO
        obtain ⟨aO, kO, rfl⟩ := hO.form
        have hos := hO.osl
        have hEl : (pcTo P h xs ys RL RL.length).length = LST.length := by rw [HE.out.1]
        rw [← HE.out.1] at hos
        rw [hEl]
        clear hEl hO
        go_wp2
        go_ret2
        rw [HE.out.2]
        exact ⟨aO, kO, rfl, hos.mono (by omega) (Nat.le_refl _), hbel⟩
  · rw [if_neg g, if_neg g]
    replace g : isB p c h s xs ys = false := by simpa using g
    rw [g] at hib
    have HIB := Lib.hid hib
    clear hib g
    obtain ⟨BV, BB, hb, hz⟩ := two_new w #[.int .i64 p, .int .i64 c, .int .i64 h, .int .i64 s] #[.slice a1 n1 c1, .slice a2 n2 c2] 32 34
    clear hz
    obtain ⟨x0, x1, x2, x3, xf, xl⟩ := BV.four
    obtain ⟨y0, y1, yf, yl⟩ := BB.two
    go_enter Try.func32, Try.ntmps32
    go_wp2_with (go_at_call 76; refine (HIB.out _ (r1.below hb) (r2.below hb)).mono ?_; clear HIB; rintro e w1 ⟨rfl, hb1⟩)
    go_ret2
    exact ⟨some ⟨w1.heap.size, 0, none⟩, 0, rfl, .inr ⟨w1.heap.size, rfl, (chain hb hb1).size, by simp, #[], Blk.new w1 #[] 2, by simp, rfl⟩, (chain hb hb1).alloc (chain hb hb1).size _⟩
end Go.Proofs.Ytokjkcnjmfbfiaa
namespace Go.Proofs.Ytokjkcnjmfbfiaa
open Go.ChangeShapes Go.WideShapes Go.ChangeAt Go.RowKit
set_option linter.unusedVariables false
set_option linter.unusedSimpArgs false
set_option maxRecDepth 4000

set_option maxRecDepth 8000 in
set_option maxHeartbeats 2000000 in
theorem implPlayCounts_any (p c h s : Int) (a1 a2 : Option Addr) (n1 n2 c1 c2 : Nat) (xs ys : List Int) (w : World) (h1 : xs.length = n1) (h2 : ys.length = n2) (l1 : n1 ≤ 1048576) (l2 : n2 ≤ 1048576) (r1 : IRow w a1 xs) (r2 : IRow w a2 ys) :
    Calls Try.prog 33 #[.agg #[.int .i64 p, .int .i64 c, .int .i64 h, .int .i64 s], .agg #[.slice a1 n1 c1, .slice a2 n2 c2]] w (SliceGot2 (pcL p c h s xs ys) (pcC p c h s xs ys) w) := by
  have hib := fun W (q1 : IRow W a1 xs) (q2 : IRow W a2 ys) => isBoard_any p c h s a1 a2 n1 n2 c1 c2 xs ys W h1 h2 l1 l2 q1 q2
  unfold pcL pcC
  by_cases g : isB p c h s xs ys = true
  · rw [if_pos g, if_pos g]
    rw [g] at hib
    obtain ⟨p0, p1, k0, k1, k2, k3, N1, N2, hx, hy, s0, s1, s2, s3⟩ := isB_parts g
    have hs6 := isB_sides g
    clear hx hy
    obtain ⟨P, rfl⟩ := Int.eq_ofNat_of_zero_le (by omega : 0 ≤ p)
    obtain ⟨S, rfl⟩ := Int.eq_ofNat_of_zero_le (by omega : 0 ≤ s)
    rw [show ((P : Int)).toNat = P by simp, show ((S : Int)).toNat = S by simp]
    have hRl := rollsTo_length S
    have hS2 : S * S ≤ 6 * 6 := Nat.mul_le_mul (by omega) (by omega)
    have hRm := rollsTo_mem S
    have hrl := fun W => implRolls_any (P : Int) c h S W (by omega)
    obtain ⟨RL, hRL⟩ : ∃ z, rollsTo S = z := ⟨_, rfl⟩
    rw [hRL] at hRl hRm hrl ⊢
    have hR36 : RL.length ≤ 36 := by omega
    have hY : pcOk P h xs ys RL = true → (if pcOk P h xs ys RL = true then pcTo P h xs ys RL RL.length else []) = pcTo P h xs ys RL RL.length ∧ (if pcOk P h xs ys RL = true then (0 : Int) else 3) = 0 := fun e => ⟨if_pos e, if_pos e⟩
    have hN : pcOk P h xs ys RL = false → (if pcOk P h xs ys RL = true then pcTo P h xs ys RL RL.length else []) = [] ∧ (if pcOk P h xs ys RL = true then (0 : Int) else 3) = 3 := fun e => ⟨if_neg (by simp [e]), if_neg (by simp [e])⟩
    have hpl : ∀ i, (pcTo P h xs ys RL i).length ≤ 36 := fun i => by unfold pcTo; rw [List.length_map, List.length_take]; omega
    generalize (if pcOk P h xs ys RL = true then pcTo P h xs ys RL RL.length else []) = LST at *
    generalize (if pcOk P h xs ys RL = true then (0 : Int) else 3) = COD at *
    have HY := Lib.hid hY
    have HN := Lib.hid hN
    have HPL := Lib.hid hpl
    clear hY hN hpl
    have hall := fun (ra rb : Int) (e1 : inB ra 1 (S : Int) = true) (e2 : inB rb 1 (S : Int) = true) W (q1 : IRow W a1 xs) (q2 : IRow W a2 ys) => implPlays_any P c h (S : Int) ra rb a1 a2 n1 n2 c1 c2 xs ys W h1 h2 q1 q2 g e1 e2
    unfold PlaysGot2 at hall
    have HIB := Lib.hid hib
    have HRLc := Lib.hid hrl
    have HALL := Lib.hid hall
    have HRM := Lib.hid hRm
    clear hib hrl hall hRm hRL hRl hS2 g
    obtain ⟨BV, BB, hb, hz⟩ := two_new w #[.int .i64 (P : Int), .int .i64 c, .int .i64 h, .int .i64 (S : Int)] #[.slice a1 n1 c1, .slice a2 n2 c2] 32 34
    have hz0 : w.heap.size + 1 + 1 ≤ ((w.alloc (.cells #[.int .i64 (P : Int), .int .i64 c, .int .i64 h, .int .i64 (S : Int)] 32)).alloc (.cells #[.slice a1 n1 c1, .slice a2 n2 c2] 34)).heap.size := by rw [hz]; omega
    clear hz
    obtain ⟨x0, x1, x2, x3, xf, xl⟩ := BV.four
    obtain ⟨y0, y1, yf, yl⟩ := BB.two
    go_enter Try.func33, Try.ntmps33
    go_wp2_with fail
    clear x0 x1 x2 x3 xf xl y0 y1 yf yl
    generalize ((w.alloc (.cells #[.int .i64 (P : Int), .int .i64 c, .int .i64 h, .int .i64 (S : Int)] 32)).alloc (.cells #[.slice a1 n1 c1, .slice a2 n2 c2] 34)) = v0 at *
    refine (HIB.out _ (r1.below hb) (r2.below hb)).mono ?_
    rintro e w1 ⟨rfl, hb1⟩
    have hO : Own w1 w1.heap.size (.slice none 0 0) [] := World.ownsRow_nil w1 _ _ _
    have hzb : w.heap.size + 1 + 1 ≤ w1.heap.size := Nat.le_trans hz0 hb1.size
    replace BV := BV.below hb1
    replace BB := BB.below hb1
    replace hb := chain hb hb1
    clear hb1 HIB
    have hVl := BV.lt
    obtain ⟨x0, x1, x2, x3, xf, xl⟩ := BV.four
    go_wp2_with fail
    clear x0 x1 x2 x3 xf xl
    have hz1 : w1.heap.size ≤ w1.heap.size := Nat.le_refl _
    obtain ⟨base, hbase⟩ : ∃ b, w1.heap.size = b := ⟨_, rfl⟩
    rw [hbase] at hO hzb hz1
    obtain ⟨v1, hv1⟩ : ∃ v, w1 = v := ⟨_, rfl⟩
    subst hv1
    refine (HRLc.out _).mono ?_
    rintro e w2 ⟨aR, kR, rfl, hR, hb2⟩
    replace BV := BV.below hb2
    replace BB := BB.below hb2
    replace hO := hO.kept hb2
    replace hb := chain hb hb2
    have hz2 := hb2.size
    clear hb2 HRLc
    go_wp2_with fail
    go_loopg [6, 8, 9, 10, 18] RL.length (fun m q6 q8 q9 q10 q18 wr => ∃ i : Nat, i ≤ RL.length ∧ m = RL.length - i ∧ q18 = .int .i64 (i : Int) ∧ (∀ j r, j < i → RL[j]? = some r → allOk P h xs ys r.1 r.2 = true) ∧ Own wr base q6 (pcTo P h xs ys RL i) ∧ ORl w1.heap.size w2.heap.size wr aR RL ∧ Blk wr w.heap.size #[.int .i64 (P : Int), .int .i64 c, .int .i64 h, .int .i64 (S : Int)] 32 ∧ Blk wr (w.heap.size + 1) #[.slice a1 n1 c1, .slice a2 n2 c2] 34 ∧ Below base w2 wr)
    case atStart => exact ⟨0, by omega, by omega, rfl, fun j r hj => by omega, by simpa [pcTo] using hO, hR, BV, BB, Below.refl _ _⟩
    case round =>
      obtain ⟨i, hi, hm, rfl, hAO, hO, hR, BV, BB, hbq⟩ := hrel
      have hszq := hbq.size
      have hbel := hb.trans (hbq.mono (by omega))
      by_cases hlt : i < RL.length
      · have hlt' : (i : Int) < (RL.length : Int) := by omega
        have hi0 : (0 : Int) ≤ (i : Int) := by omega
        obtain ⟨r, hr⟩ : ∃ r, RL[i]? = some r := ⟨_, List.getElem?_eq_getElem hlt⟩
        have hrm := HRM.out r (List.mem_of_getElem? hr)
        have hst := pcTo_succ P h xs ys RL i r hr
        have hpl := HPL.out i
        obtain ⟨gR, eR, RR⟩ := hR.row hlt
        obtain ⟨u0, u1⟩ := RR.two i r hr
        have hno : allOk P h xs ys r.1 r.2 = false → pcOk P h xs ys RL = false := fun e => by
          rw [Bool.eq_false_iff]
          intro e2
          have := List.all_eq_true.1 e2 r (List.mem_of_getElem? hr)
          rw [e] at this
          exact absurd this (by simp)
        have hso : allOk P h xs ys r.1 r.2 = true → ∀ j r2, j < i + 1 → RL[j]? = some r2 → allOk P h xs ys r2.1 r2.2 = true := fun e j r2 hj hr2 => by
          by_cases ej : j = i
          · subst ej
            rw [hr] at hr2
            injection hr2 with hr2
            rw [← hr2]
            exact e
          · exact hAO j r2 (by omega) hr2
        obtain ⟨ra, rb⟩ := r
        dsimp only at hrm u0 u1 hst hno hso
        have hal := fun W (hW : Below wr.heap.size wr W) => HALL.out ra rb (by simp [inB]; omega) (by simp [inB]; omega) W (r1.below (chain hbel hW)) (r2.below (chain hbel hW))
        obtain ⟨AX, hAX⟩ : ∃ z, plL P h xs ys ra rb = z := ⟨_, rfl⟩
        obtain ⟨CX, hCX⟩ : ∃ z, plC2 P h xs ys ra rb = z := ⟨_, rfl⟩
        rw [hAX, hCX] at hal
        unfold plL at hAX
        unfold plC2 at hCX
        obtain ⟨AO, hAOe⟩ : ∃ z, allOk P h xs ys ra rb = z := ⟨_, rfl⟩
        obtain ⟨AA, hAA⟩ : ∃ z, allP P h xs ys ra rb = z := ⟨_, rfl⟩
        rw [hAOe, hAA] at hAX
        rw [hAOe] at hCX
        have HAXC := Lib.hid (And.intro hAX hCX)
        rw [hAOe] at hno hso
        rw [hAA] at hst
        have HAL := Lib.hid hal
        have HST := Lib.hid hst
        have HNO := Lib.hid hno
        have HSO := Lib.hid hso
        have HAO := Lib.hid hAO
        have HRR := Lib.hid (And.intro hr RR)
        clear hal hst hno hso hAO hAOe hAA hr RR hrm hAX hCX
        subst eR
        have BRx := Blk.new wr #[.int .i64 ra, .int .i64 rb] 36
        have hbx : Below wr.heap.size wr (wr.alloc (.cells #[.int .i64 ra, .int .i64 rb] 36)) := (Below.refl _ _).alloc (Nat.le_refl _) _
        replace BV := BV.below hbx
        replace BB := BB.below hbx
        replace hO := hO.kept hbx
        replace hR := hR.below hbx
        replace hbq := hbq.trans (hbx.mono (by omega))
        replace hbel := chain hbel hbx
        have HAL2 := Lib.hid (fun W (hW : Below (wr.alloc (.cells #[.int .i64 ra, .int .i64 rb] 36)).heap.size (wr.alloc (.cells #[.int .i64 ra, .int .i64 rb] 36)) W) => HAL.out W (chain hbx hW))
        have hszx := hbx.size
        clear HAL hbx
        obtain ⟨x0, x1, x2, x3, xf, xl⟩ := BV.four
        obtain ⟨y0, y1, yf, yl⟩ := BB.two
        obtain ⟨z0, z1, zf, zl⟩ := BRx.two
        go_wp2_with fail
        clear x0 x1 x2 x3 xf xl y0 y1 yf yl z0 z1 zf zl
        generalize (wr.alloc (.cells #[.int .i64 ra, .int .i64 rb] 36)) = vX at *
        refine (HAL2.out _ (Below.refl _ _)).mono ?_
        rintro e w5 ⟨aP, kP, LP, rfl, hLm, -, -, hb5⟩
        have hO5 := hO.kept hb5
        have hR5 := hR.below hb5
        have BV5 := BV.below hb5
        have BB5 := BB.below hb5
        have hbq5 := hbq.trans (hb5.mono (by omega))
        have hbel5 := chain hbel hb5
        have hsz5 := hb5.size
        clear hO hR BV BB BRx u0 u1
        cases AO with
        | false =>
          obtain ⟨e1, e2⟩ := HN.out (HNO.out rfl)
          obtain ⟨hAX, hCX⟩ := HAXC.out
          rw [if_neg (by simp)] at hAX hCX
          subst hAX hCX
          go_wp2
          go_ret2
          try rw [e1, e2]
          exact ⟨none, 0, rfl, .inl ⟨rfl, rfl⟩, hbel5⟩
        | true =>
          obtain ⟨hAX, hCX⟩ := HAXC.out
          rw [if_pos rfl] at hAX hCX
          subst hAX hCX
          have HLP := Lib.hid (show LP.length = AA.length from by rw [← hLm, List.length_map])
          clear hLm
          go_wp2_with (at_builtin; refine wp_pushI rfl (.tmp 32) (.tmp 35) rfl base _ (pcTo P h xs ys RL i) rfl hO5 (LP.length : Int) rfl (by omega) (by omega) ?_; intro v2 w6 hO2 hb6 hk6)
          go_roundg (RL.length - (i + 1))
          case measure => omega
          case rel => exact ⟨i + 1, by omega, rfl, by go_num, HSO.out (by first | exact trivial | rfl), by rw [HST.out, ← HLP.out]; exact hO2, hR5.pushI hO5 hk6, (hb6.block _ (by omega)).trans BV5, (hb6.block _ (by omega)).trans BB5, hbq5.trans hb6⟩
      · obtain rfl : i = RL.length := by omega
        have hyes : pcOk P h xs ys RL = true := List.all_eq_true.2 (fun r hr => by
          obtain ⟨j, hj⟩ := List.mem_iff_getElem?.1 hr
          exact hAO j r (List.getElem?_eq_some_iff.1 hj).1 hj)
        obtain ⟨e1, e2⟩ := HY.out hyes
        have HE := Lib.hid (And.intro e1 e2)
        clear e1 e2 hyes hAO
        obtain ⟨aO, kO, rfl⟩ := hO.form
        have hos := hO.osl
        have hEl : (pcTo P h xs ys RL RL.length).length = LST.length := by rw [HE.out.1]
        rw [← HE.out.1] at hos
        rw [hEl]
        clear hEl hO
        go_wp2
        go_ret2
        rw [HE.out.2]
        exact ⟨aO, kO, rfl, hos.mono (by omega) (Nat.le_refl _), hbel⟩
  · rw [if_neg g, if_neg g]
    replace g : isB p c h s xs ys = false := by simpa using g
    rw [g] at hib
    have HIB := Lib.hid hib
    clear hib g
    obtain ⟨BV, BB, hb, hz⟩ := two_new w #[.int .i64 p, .int .i64 c, .int .i64 h, .int .i64 s] #[.slice a1 n1 c1, .slice a2 n2 c2] 32 34
    clear hz
    obtain ⟨x0, x1, x2, x3, xf, xl⟩ := BV.four
    obtain ⟨y0, y1, yf, yl⟩ := BB.two
    go_enter Try.func33, Try.ntmps33
    go_wp2_with (go_at_call 78; refine (HIB.out _ (r1.below hb) (r2.below hb)).mono ?_; clear HIB; rintro e w1 ⟨rfl, hb1⟩)
    go_ret2
    exact ⟨none, 0, rfl, .inl ⟨rfl, rfl⟩, chain hb hb1⟩
end Go.Proofs.Ytokjkcnjmfbfiaa
