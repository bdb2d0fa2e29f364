/- Contracts of the lists of steps that hit, of the program and of its model. -/
import Derived.Test.Ytjglempkmenacaa04l
import Derived.Test.Ytjglempkmenacaa04q
namespace Go.Proofs.Ytjglempkmenacaa
open Go.ChangeShapes Go.WideShapes Go.ChangeAt Go.RowKit
set_option linter.unusedVariables false
set_option linter.unusedSimpArgs false
set_option maxRecDepth 4000

def StepsGotC (l : List Stp) (w : World) (e : Ending) (w' : World) : Prop :=
  ∃ a k, e = .returned (.slice a l.length k) ∧ l.length ≤ k ∧ OSt w.heap.size w'.heap.size w' a l ∧ Below w.heap.size w w'
def StepsGot2C (l : List Stp) (r : Int) (w : World) (e : Ending) (w' : World) : Prop :=
  ∃ a k, e = .returned (.tuple #[.slice a l.length k, .int .i64 r]) ∧ l.length ≤ k ∧ OSt w.heap.size w'.heap.size w' a l ∧ Below w.heap.size w w'
theorem OwnT.formC {w : World} {base : Nat} {v : Value} {l : List Stp} (h : OwnT w base v l) : ∃ a k, v = .slice a l.length k ∧ l.length ≤ k := by
  rcases h.2 with ⟨h1, h2⟩ | ⟨g, cap, cur, h1, _, _, h2, _⟩
  · exact ⟨none, 0, by rw [h1, h2], by omega⟩
  · exact ⟨some ⟨g, 0, none⟩, cap, h1, h2⟩
/-- One step appended, beside a row of steps that stays as it is. -/
theorem wp_pushT_A {ops : Array Oper} {rest : List Oper} {o : Oper} {a : Act} {Q : Exit → Act → World → Prop} (hgd : o.guard = none) (s x : Operand)
    (ho : o.op = .call { callee := .builtin .append, args := #[s, x], argTypes := #[42, 42] })
    (base : Nat) (v : Value) (l : List Stp) (hs : a.eval s = v) {w0 : World} (hown : OwnT w0 base v l) (u : Stp) (gx : Nat) (zs : List Stp) (hR : SRow w0 gx zs) (hne : v.ownBlock ≠ some gx)
    (hx : a.eval x = .slice (some ⟨w0.heap.size, 0, none⟩) 1 1) (hl : l.length ≤ 1048576) (hbase : base ≤ w0.heap.size)
    (h : ∀ v' w', OwnT w' base v' (l ++ [u]) → SRow w' gx zs → v'.ownBlock ≠ some gx → Below base w0 w' → wpList Try.prog ops Q rest (a.put o.dst v') w') : wpList Try.prog ops Q (o :: rest) a (w0.alloc (.cells #[.int .i64 u.1, .int .i64 u.2.1, .int .i64 u.2.2.1, .bool u.2.2.2] 30)) := by
  obtain ⟨i0, hi, hz0, hz1, hz2⟩ := info_parts infoStp
  have hown0 : w0.ownsRow base 30 4 v l.length (stepsC l) := hown
  have hgx := hR.lt
  refine wpList_append_lies _ hgd s x 42 ho base 30 i0 _ 4 32 Try.underlying42 hi hz0 hz1 hz2 rfl (by decide) v l.length (stepsC l) hs (hown0.alloc _) ⟨w0.heap.size, 0, none⟩ 1 1 (stC u) hx (by simp [stC])
    (World.news_of_block (cs := #[.int .i64 u.1, .int .i64 u.2.1, .int .i64 u.2.2.1, .bool u.2.2.2]) (Blk.new w0 _ 30)) (fun y hy => by simp [stC] at hy; rcases hy with rfl | rfl | rfl | rfl <;> rfl) (by omega) (by unfold maxLen; omega) (by omega) (by simp; omega) (w0.heap.size + 1) (by simp) ?_
  intro g cap w' hown' hgrow hw hglt
  have hb : Below base w0 w' := ((Below.refl base w0).alloc hbase _).grown hgrow (by simp; omega) (fun k hk => (hown0.lt k hk).1)
  refine h _ w' ?_ ?_ ?_ hb
  · show w'.ownsRow base 30 4 _ (l ++ [u]).length (stepsC (l ++ [u]))
    rw [List.length_append, stepsC_append]
    simpa [stepsC] using hown'
  · obtain ⟨cur, hB, q1, q2⟩ := hR
    refine ⟨cur, ?_, q1, q2⟩
    show w'.heap[gx]? = _
    rw [hgrow.block gx (by simp; omega) (fun e => hne e.symm), Below.heap_alloc _ _ _ hgx]
    exact hB
  · show some g ≠ some gx
    intro e
    simp only [Option.some.injEq] at e
    subst e
    rcases hw with hw | hw
    · exact hne hw
    · omega
set_option maxRecDepth 8000 in
set_option maxHeartbeats 2000000 in
theorem legalStepsC_any (P : Nat) (c h s : Int) (f1 f2 B : Nat) (xs ys : List Int) (w : World) (p0 : 2 ≤ P) (p1 : P ≤ 24) (n1 : xs.length = P + 1) (n2 : ys.length = P + 1) (hx : ∀ x ∈ xs, 0 ≤ x ∧ x ≤ 1000) (hy : ∀ y ∈ ys, 0 ≤ y ∧ y ≤ 1000) (q1 : Pays f1 B xs w) (q2 : Pays f2 B ys w) (d : Int) (d0 : 1 ≤ d) (d1 : d ≤ 1000) :
    Calls Try.prog 70 #[.agg #[.int .i64 (P : Int), .int .i64 c, .int .i64 h, .int .i64 s], tv (P : Int) f1 f2 B, .int .i64 d] w (StepsGotC (legL P h xs ys d) w) := by
  obtain ⟨BV, BT, hb, hz⟩ := two_new w #[.int .i64 (P : Int), .int .i64 c, .int .i64 h, .int .i64 s] #[.int .i64 (P : Int), fv f1 B, fv f2 B] 25 74
  have ho0 := fun W (hW : Below w.heap.size w W) => over_any (P : Int) f1 f2 B xs ys W (by omega) (by omega) (by omega) (by omega) hx hy (q1.below hW) (q2.below hW)
  obtain ⟨x0, x1, x2, x3, xf, xl⟩ := BV.four
  obtain ⟨z0, z1, z2, zf, zl⟩ := BT.tri
  unfold legL
  cases g3 : overB xs ys with
  | true =>
    rw [g3] at ho0
    rw [if_pos rfl]
    have HOV := Lib.hid ho0
    clear ho0 g3
    go_enter Try.func70, Try.ntmps70
    go_wp2_with (go_at_call 99; refine (HOV.out _ hb).mono ?_; rintro e w3 ⟨rfl, hb3⟩)
    go_ret
    exact ⟨none, 0, rfl, Nat.le_refl _, .inl ⟨rfl, rfl⟩, chain hb hb3⟩
  | false =>
    rw [g3] at ho0
    rw [if_neg (by simp)]
    have HOV := Lib.hid ho0
    have hf0 := fun W (hW : Below w.heap.size w W) => farthest_any (P : Int) f1 f2 B f1 B xs W (by omega) (by omega) (by omega) hx (q1.below hW)
    have hs0 := fun (k : Nat) (kP : k ≤ P) W (hW : Below w.heap.size w W) => stepFrom_any P c h s f1 f2 B xs ys W p0 p1 n1 n2 hx hy (q1.below hW) (q2.below hW) k d kP d0 d1
    have hl0 : legTo P h xs ys d (lastL xs xs.length + 1).toNat = legTo P h xs ys d (P + 1) := by rw [← legTo_last P h xs ys d hx xs.length (Nat.le_refl _), n1]
    have hll : ∀ k, (legTo P h xs ys d k).length ≤ k := legTo_length P h xs ys d
    obtain ⟨L, hL⟩ : ∃ L, legTo P h xs ys d (P + 1) = L := ⟨_, rfl⟩
    have hLl : L.length ≤ P + 1 := by rw [← hL]; exact hll _
    rw [hL] at hl0 ⊢
    have lb := lastL_bound xs xs.length
    obtain ⟨F, hF⟩ : ∃ F, lastL xs xs.length = F := ⟨_, rfl⟩
    rw [hF] at hf0 hl0 lb
    have F0 : -1 ≤ F := lb.1
    have F1 : F ≤ (P : Int) := by omega
    have HF := Lib.hid hf0
    have HS := Lib.hid hs0
    have HL := Lib.hid hl0
    clear ho0 g3 hf0 hs0 hl0 hL hF lb q1 q2 hll
    go_enter Try.func70, Try.ntmps70
    go_wp2_with (first | (go_at_call 99; refine (HOV.out _ hb).mono ?_; rintro e w3 ⟨rfl, hb3⟩; obtain ⟨x0, x1, x2, x3, xf, xl⟩ := (BV.below hb3).four; obtain ⟨z0, z1, z2, zf, zl⟩ := (BT.below hb3).tri) | (go_at_call 102; refine (HF.out _ (chain hb hb3)).mono ?_; rintro e w4 ⟨rfl, hb4⟩))
    have hb0 := chain hb3 hb4
    clear HOV HF hb3 hb4 x0 x1 x2 x3 xf xl z0 z1 z2 zf zl
    generalize ((w.alloc (.cells #[.int .i64 (P : Int), .int .i64 c, .int .i64 h, .int .i64 s] 25)).alloc (.cells #[.int .i64 (P : Int), fv f1 B, fv f2 B] 74)) = v0 at *
    go_loopg [7, 8] (F + 1).toNat (fun m q i wr => ∃ (k : Nat) (D : List Stp), k ≤ P + 1 ∧ m = k ∧ i = .int .i64 ((k : Int) - 1) ∧ D ++ legTo P h xs ys d k = L ∧ OwnT wr v0.heap.size q D ∧ Below v0.heap.size v0 wr)
    case atStart => exact ⟨(F + 1).toNat, [], by omega, rfl, by congr 1; omega, HL.out, OwnT.nil _ _, hb0⟩
    case round =>
      obtain ⟨k, D, hk, hm, rfl, hDL, hO, hbel⟩ := hrel
      have hDl : D.length ≤ P + 1 := by rw [← hDL, List.length_append] at hLl; omega
      have hbw := chain hb hbel
      obtain ⟨x0, x1, x2, x3, xf, xl⟩ := (BV.below hbel).four
      obtain ⟨z0, z1, z2, zf, zl⟩ := (BT.below hbel).tri
      cases k with
      | zero =>
        have hDL2 : D = L := by rw [← hDL]; simp [legTo]
        subst hDL2
        obtain ⟨a, cp, rfl, hcp⟩ := hO.formC
        have hos := hO.ost
        have HDL := Lib.hid hDL
        clear hDL hDl hLl
        go_wp2
        go_ret
        exact ⟨a, cp, rfl, hcp, hos.mono hb.size (Nat.le_refl _), hbw⟩
      | succ k =>
        have e1 : (((k + 1 : Nat) : Int) - 1) = (k : Int) := by omega
        rw [e1]
        have hsk := HS.out k (by omega) wr hbw
        rw [legTo] at hDL
        have hkP : (k : Int) ≤ (P : Int) := by omega
        clear e1
        cases hst : stepI P h xs ys k d with
        | none =>
          rw [hst] at hsk hDL
          have HC := Lib.hid hsk
          have HDL := Lib.hid hDL
          clear hsk hDL hst hLl
          go_wp2_with (go_at_call 100; refine HC.out.mono ?_; intro e w5 hg; obtain ⟨x, rfl, hb5⟩ := hg.none)
          go_roundg k
          case measure => omega
          case rel => exact ⟨k, D, by omega, rfl, by go_num, by simpa using HDL.out, (hO.kept hb5).alloc _, (chain hbel hb5).alloc (chain hbel hb5).size _⟩
        | some t =>
          obtain ⟨e1, e2, e3, e4⟩ := t
          rw [hst] at hsk hDL
          have hDl2 : D.length ≤ 1048576 := by omega
          have HC := Lib.hid hsk
          have HDL := Lib.hid hDL
          clear hsk hDL hst hLl
          have hpush : ∀ w5, Below wr.heap.size wr w5 → v0.heap.size ≤ (w5.alloc (.cells #[.int .i64 e1, .int .i64 e2, .int .i64 e3, .bool e4] 30)).heap.size := fun w5 h5 => by
            have := (chain hbel h5).size
            simp
            omega
          go_wp2_with (first | (go_at_call 100; refine HC.out.mono ?_; intro e w5 hg; obtain ⟨rfl, hb5⟩ := hg.some) | (at_builtin; go_loud (refine wp_pushT rfl _ _ rfl v0.heap.size _ D rfl ((hO.kept hb5).alloc _) (e1, e2, e3, e4) rfl (by simp) hDl2 (hpush _ hb5) ?_; intro v2 w6 hO2 hb6)))
          go_roundg k
          case measure => omega
          case rel => exact ⟨k, D ++ [(e1, e2, e3, e4)], by omega, rfl, by go_num, by rw [← HDL.out]; simp, hO2, ((chain hbel hb5).alloc (chain hbel hb5).size _).trans hb6⟩
set_option maxRecDepth 8000 in
set_option maxHeartbeats 2000000 in
theorem implLegalStepsC_any (d : Int) (p c h s : Int) (a1 a2 : Option Addr) (n1 n2 c1 c2 : Nat) (xs ys : List Int) (w : World) (h1 : xs.length = n1) (h2 : ys.length = n2) (l1 : n1 ≤ 1048576) (l2 : n2 ≤ 1048576) (r1 : IRow w a1 xs) (r2 : IRow w a2 ys) :
    Calls Try.prog 24 #[.agg #[.int .i64 p, .int .i64 c, .int .i64 h, .int .i64 s], .agg #[.slice a1 n1 c1, .slice a2 n2 c2], .int .i64 d] w (StepsGot2C (lsL p c h s xs ys d) (lsR p c h s xs ys d) w) := by
  obtain ⟨BV, BB, hb, hz⟩ := two_new w #[.int .i64 p, .int .i64 c, .int .i64 h, .int .i64 s] #[.slice a1 n1 c1, .slice a2 n2 c2] 25 28
  have hz1 : w.heap.size + 1 < ((w.alloc (.cells #[.int .i64 p, .int .i64 c, .int .i64 h, .int .i64 s] 25)).alloc (.cells #[.slice a1 n1 c1, .slice a2 n2 c2] 28)).heap.size := by rw [hz]; omega
  clear hz
  obtain ⟨x0, x1, x2, x3, xf, xl⟩ := BV.four
  obtain ⟨y0, y1, yf, yl⟩ := BB.two
  unfold lsL lsR
  by_cases g : isB p c h s xs ys = true
  · rw [if_pos g, if_pos g]
    obtain ⟨p0, p1, k0, k1, k2, k3, N1, N2, hx, hy, s0, s1, s2, s3⟩ := isB_parts g
    obtain ⟨P, rfl⟩ := Int.eq_ofNat_of_zero_le (by omega : 0 ≤ p)
    rw [show (P : Int).toNat = P by simp]
    have hB := fun W (q1 : IRow W a1 xs) (q2 : IRow W a2 ys) => isBoard_any (P : Int) c h s a1 a2 n1 n2 c1 c2 xs ys W h1 h2 l1 l2 q1 q2
    simp only [g] at hB
    have HB := Lib.hid hB
    clear hB
    have hd0 := fun W => hasDie_any (P : Int) c h s d W
    have hs6 := isB_sides g
    cases gi : inB d 1 s with
    | true =>
      have gi' : 1 ≤ d ∧ d ≤ s := by simpa [inB] using gi
      rw [gi] at hd0
      rw [if_pos rfl, if_pos rfl]
      have HD := Lib.hid hd0
      have hL0 := fun W f1 f2 B (q1 : Pays f1 B xs W) (q2 : Pays f2 B ys W) => legalStepsC_any P c h s f1 f2 B xs ys W (by omega) (by omega) (by omega) (by omega) hx hy q1 q2 d (by omega) (by omega)
      obtain ⟨L, hL⟩ : ∃ L, legL P h xs ys d = L := ⟨_, rfl⟩
      rw [hL] at hL0 ⊢
      have HL := Lib.hid hL0
      clear hd0 gi hL hL0
      go_enter Try.func24, Try.ntmps24
      go_wp2_with (first | (go_at_call 57; refine (HB.out _ (r1.below hb) (r2.below hb)).mono ?_; rintro e w1 ⟨rfl, hb1⟩; obtain ⟨x0, x1, x2, x3, xf, xl⟩ := (BV.below hb1).four; obtain ⟨y0, y1, yf, yl⟩ := (BB.below hb1).two) | (go_at_call 69; refine (HD.out _).mono ?_; rintro e w2 ⟨rfl, hb2⟩))
      replace hb := chain (chain hb hb1) hb2
      replace BV := (BV.below hb1).below hb2
      replace BB := (BB.below hb1).below hb2
      replace r1 := r1.below hb
      replace r2 := r2.below hb
      clear x0 x1 x2 x3 xf xl y0 y1 yf yl hz1 HD HB
      replace BV := BV.drew
      replace BB := BB.drew
      replace r1 := r1.drew
      replace r2 := r2.drew
      replace hb := hb.drew
      refine wp_region_held_drew (S := fun w' => w'.cell? ⟨w.heap.size, 0, none⟩ = some (.int .i64 (P : Int)) ∧ w'.cell? ⟨w.heap.size, 1, none⟩ = some (.int .i64 c) ∧ w'.cell? ⟨w.heap.size, 2, none⟩ = some (.int .i64 h) ∧ w'.cell? ⟨w.heap.size, 3, none⟩ = some (.int .i64 s) ∧ w'.cell? ⟨(w.heap.size + 1), 0, none⟩ = some (.slice a1 n1 c1) ∧ w'.cell? ⟨(w.heap.size + 1), 1, none⟩ = some (.slice a2 n2 c2) ∧ Blk w' w.heap.size #[.int .i64 (P : Int), .int .i64 c, .int .i64 h, .int .i64 s] 25 ∧ Blk w' ((w.heap.size + 1)) #[.slice a1 n1 c1, .slice a2 n2 c2] 28 ∧ (IRow w' a1 xs) ∧ (IRow w' a2 ys) ∧ Below w.heap.size w w') (by kernel_rfl) ⟨BV.four.1, BV.four.2.1, BV.four.2.2.1, BV.four.2.2.2.1, BB.two.1, BB.two.2.1, BV, BB, r1, r2, hb⟩ (fun hHeld => ?_)
      refine wpAnyH_take (i := 0) (oi := { dst := some 16, op := _, type := _, pos := _, after := _, guard := _ }) (v := ?_) rfl (by kernel_rfl) (by kernel_rfl) (by kernel_rfl) (fun _ _ _ h => h) (Or.inl ⟨by rfl, ?_⟩) (by assumption) ?_
      rotate_left
      · intro w hSw
        (try dsimp only at hSw)
        go_simp
        (try (with_reducible rfl))
      try simp only [Act.put, List.setIfInBounds_toArray, List.set_cons_zero, List.set_cons_succ]
      refine wpAnyH_take (i := 1) (oi := { dst := some 17, op := _, type := _, pos := _, after := _, guard := _ }) (v := ?_) rfl (by kernel_rfl) (by kernel_rfl) (by kernel_rfl) (fun _ _ _ h => h) (Or.inl ⟨by rfl, ?_⟩) (by assumption) ?_
      rotate_left
      · intro w hSw
        (try dsimp only at hSw)
        go_simp
        (try (with_reducible rfl))
      try simp only [Act.put, List.setIfInBounds_toArray, List.set_cons_zero, List.set_cons_succ]
      refine wpAnyH_take (i := 2) (oi := { dst := some 18, op := _, type := _, pos := _, after := _, guard := _ }) (v := ?_) rfl (by kernel_rfl) (by kernel_rfl) (by kernel_rfl) (fun _ _ _ h => h) (Or.inl ⟨by rfl, ?_⟩) (by assumption) ?_
      rotate_left
      · intro w hSw
        (try dsimp only at hSw)
        go_simp
        (try (with_reducible rfl))
      try simp only [Act.put, List.setIfInBounds_toArray, List.set_cons_zero, List.set_cons_succ]
      refine wpAnyH_take (i := 4) (oi := { dst := some 20, op := _, type := _, pos := _, after := _, guard := _ }) (v := ?_) rfl (by kernel_rfl) (by kernel_rfl) (by kernel_rfl) (fun _ _ _ h => h) (Or.inl ⟨by rfl, ?_⟩) (by assumption) ?_
      rotate_left
      · intro w hSw
        (try dsimp only at hSw)
        go_simp
        (try (with_reducible rfl))
      try simp only [Act.put, List.setIfInBounds_toArray, List.set_cons_zero, List.set_cons_succ]
      refine wpAnyH_ready (rs := [3]) (by kernel_rfl) (by simp) ?_
      refine AllReadyH.cons (o := { dst := some 19, op := _, type := _, pos := _, after := _, guard := _ }) rfl (fun K hK => ?_) AllReadyH.nil
      go_simp
      -- call
      have BV := hHeld.2.2.2.2.2.2.1
      have BB := hHeld.2.2.2.2.2.2.2.1
      have r1 := hHeld.2.2.2.2.2.2.2.2.1
      have r2 := hHeld.2.2.2.2.2.2.2.2.2.1
      have hb := hHeld.2.2.2.2.2.2.2.2.2.2
      clear hHeld
      refine (countsOf_any (P : Int) c h s a1 a2 n1 c1 n2 c2 xs ys _ h1 h2 r1 r2).mono ?_
      rintro e wq1 ⟨B, rfl, q1, q2, hq1⟩
      replace BV := BV.below hq1
      replace BB := BB.below hq1
      replace r1 := r1.below hq1
      replace r2 := r2.below hq1
      replace hb := chain hb hq1
      have hsz1 := hb.size
      (try go_wp2_with fail)
      refine hK.out _ _ ⟨BV.four.1, BV.four.2.1, BV.four.2.2.1, BV.four.2.2.2.1, BB.two.1, BB.two.2.1, BV, BB, r1, r2, hb⟩ (fun hHeld => ?_)
      clear hK K
      try simp only [Act.put, List.setIfInBounds_toArray, List.set_cons_zero, List.set_cons_succ]
      refine wpAnyH_ready (rs := [5]) (by kernel_rfl) (by simp) ?_
      refine AllReadyH.cons (o := { dst := some 21, op := _, type := _, pos := _, after := _, guard := _ }) rfl (fun K hK => ?_) AllReadyH.nil
      go_simp
      -- call
      have BV := hHeld.2.2.2.2.2.2.1
      have BB := hHeld.2.2.2.2.2.2.2.1
      have r1 := hHeld.2.2.2.2.2.2.2.2.1
      have r2 := hHeld.2.2.2.2.2.2.2.2.2.1
      have hb := hHeld.2.2.2.2.2.2.2.2.2.2
      clear hHeld
      refine (HL.out _ _ _ _ q1 q2).mono ?_
      rintro e wq2 ⟨aL, kL, rfl, hcL, OL, hq2⟩
      replace BV := BV.below hq2
      replace BB := BB.below hq2
      replace r1 := r1.below hq2
      replace r2 := r2.below hq2
      replace hb := chain hb hq2
      (try go_wp2_with fail)
      refine hK.out _ _ ⟨BV.four.1, BV.four.2.1, BV.four.2.2.1, BV.four.2.2.2.1, BB.two.1, BB.two.2.1, BV, BB, r1, r2, hb⟩ (fun hHeld => ?_)
      clear hK K
      try simp only [Act.put, List.setIfInBounds_toArray, List.set_cons_zero, List.set_cons_succ]
      refine wpAnyH_take (i := 6) (oi := { dst := some 6, op := _, type := _, pos := _, after := _, guard := _ }) (v := ?_) rfl (by kernel_rfl) (by kernel_rfl) (by kernel_rfl) (fun _ _ _ h => h) (Or.inl ⟨by rfl, ?_⟩) (by assumption) ?_
      rotate_left
      · intro w hSw
        (try dsimp only at hSw)
        go_simp
        (try (with_reducible rfl))
      try simp only [Act.put, List.setIfInBounds_toArray, List.set_cons_zero, List.set_cons_succ]
      refine wpAnyH_take (i := 7) (oi := { dst := some 7, op := _, type := _, pos := _, after := _, guard := _ }) (v := ?_) rfl (by kernel_rfl) (by kernel_rfl) (by kernel_rfl) (fun _ _ _ h => h) (Or.inl ⟨by rfl, ?_⟩) (by assumption) ?_
      rotate_left
      · intro w hSw
        (try dsimp only at hSw)
        go_simp
        (try (with_reducible rfl))
      try simp only [Act.put, List.setIfInBounds_toArray, List.set_cons_zero, List.set_cons_succ]
      refine wpAnyH_done (by kernel_rfl) ?_ _
      have BV := hHeld.2.2.2.2.2.2.1
      have BB := hHeld.2.2.2.2.2.2.2.1
      have r1 := hHeld.2.2.2.2.2.2.2.2.1
      have r2 := hHeld.2.2.2.2.2.2.2.2.2.1
      have hb := hHeld.2.2.2.2.2.2.2.2.2.2
      clear hHeld
      go_wp2
      refine bodyPost_ret (v := .tuple #[.slice aL L.length kL, .int .i64 0]) (by simp [results, Try.results24, go_sem]) rfl ?_
      exact ⟨aL, kL, rfl, hcL, OL.mono hsz1 (Nat.le_refl _), hb⟩
    | false =>
      rw [gi] at hd0
      rw [if_neg (by simp), if_neg (by simp)]
      have HD := Lib.hid hd0
      clear hd0 gi
      go_enter Try.func24, Try.ntmps24
      go_wp2_with (first | (go_at_call 57; refine (HB.out _ (r1.below hb) (r2.below hb)).mono ?_; rintro e w1 ⟨rfl, hb1⟩; obtain ⟨x0, x1, x2, x3, xf, xl⟩ := (BV.below hb1).four; obtain ⟨y0, y1, yf, yl⟩ := (BB.below hb1).two) | (go_at_call 69; refine (HD.out _).mono ?_; rintro e w2 ⟨rfl, hb2⟩))
      refine bodyPost_ret (v := .tuple #[.slice none 0 0, .int .i64 2]) (by simp [results, Try.results24, go_sem]) rfl ?_
      exact ⟨none, 0, rfl, Nat.le_refl _, .inl ⟨rfl, rfl⟩, chain (chain hb hb1) hb2⟩
  · rw [if_neg g, if_neg g]
    replace g : isB p c h s xs ys = false := by simpa using g
    have hB := fun W (q1 : IRow W a1 xs) (q2 : IRow W a2 ys) => isBoard_any p c h s a1 a2 n1 n2 c1 c2 xs ys W h1 h2 l1 l2 q1 q2
    simp only [g] at hB
    have HB := Lib.hid hB
    clear hB
    go_enter Try.func24, Try.ntmps24
    go_wp2_with (go_at_call 57; refine (HB.out _ (r1.below hb) (r2.below hb)).mono ?_; rintro e w1 ⟨rfl, hb1⟩; obtain ⟨x0, x1, x2, x3, xf, xl⟩ := (BV.below hb1).four; obtain ⟨y0, y1, yf, yl⟩ := (BB.below hb1).two)
    refine bodyPost_ret (v := .tuple #[.slice none 0 0, .int .i64 1]) (by simp [results, Try.results24, go_sem]) rfl ?_
    exact ⟨none, 0, rfl, Nat.le_refl _, .inl ⟨rfl, rfl⟩, chain hb hb1⟩
/-- The legal steps that hit. -/
def hitL (l : List Stp) : List Stp := l.filter (fun s => !(!s.2.2.2))
theorem hitL_length (l : List Stp) : (hitL l).length ≤ l.length := List.length_filter_le _ _
def htL (p c h s : Int) (xs ys : List Int) (d : Int) : List Stp := hitL (lsL p c h s xs ys d)
theorem htL_length (p c h s : Int) (xs ys : List Int) (d : Int) : (htL p c h s xs ys d).length ≤ 1048576 := Nat.le_trans (hitL_length _) (lsL_length p c h s xs ys d)
theorem noHit_any (W : World) (s : Stp) : Calls Try.prog 74 #[stV s] W fun e w2 => e = .returned (.bool (!s.2.2.2)) ∧ Below W.heap.size W w2 := by
  obtain ⟨a, b, c, d⟩ := s
  go_enter Try.func74, Try.ntmps74
  go_wp2
  go_ret
  exact ⟨rfl, (Below.refl _ _).alloc (Nat.le_refl _) _⟩
set_option maxRecDepth 8000 in
set_option maxHeartbeats 2000000 in
theorem hitSteps_any (d : Int) (p c h s : Int) (a1 a2 : Option Addr) (n1 n2 c1 c2 : Nat) (xs ys : List Int) (w : World) (h1 : xs.length = n1) (h2 : ys.length = n2) (l1 : n1 ≤ 1048576) (l2 : n2 ≤ 1048576) (r1 : IRow w a1 xs) (r2 : IRow w a2 ys) :
    Calls Try.prog 27 #[.agg #[.int .i64 p, .int .i64 c, .int .i64 h, .int .i64 s], .agg #[.slice a1 n1 c1, .slice a2 n2 c2], .int .i64 d] w (StepsGot2 (htL p c h s xs ys d) (lsR p c h s xs ys d) w) := by
  obtain ⟨BV, BB, hb, hz⟩ := two_new w #[.int .i64 p, .int .i64 c, .int .i64 h, .int .i64 s] #[.slice a1 n1 c1, .slice a2 n2 c2] 25 28
  have hz1 : w.heap.size + 1 < ((w.alloc (.cells #[.int .i64 p, .int .i64 c, .int .i64 h, .int .i64 s] 25)).alloc (.cells #[.slice a1 n1 c1, .slice a2 n2 c2] 28)).heap.size := by rw [hz]; omega
  clear hz
  obtain ⟨x0, x1, x2, x3, xf, xl⟩ := BV.four
  obtain ⟨y0, y1, yf, yl⟩ := BB.two
  have hl0 := fun W (hW : Below w.heap.size w W) => implLegalStepsC_any d p c h s a1 a2 n1 n2 c1 c2 xs ys W h1 h2 l1 l2 (r1.below hW) (r2.below hW)
  have hll := lsL_length p c h s xs ys d
  unfold htL
  obtain ⟨L, hL⟩ : ∃ L, lsL p c h s xs ys d = L := ⟨_, rfl⟩
  obtain ⟨R, hR⟩ : ∃ R, lsR p c h s xs ys d = R := ⟨_, rfl⟩
  rw [hL] at hl0 hll ⊢
  rw [hR] at hl0 ⊢
  have HL := Lib.hid hl0
  clear hl0 hL hR
  have hD := fun lo hi (a : Option Addr) cap W (hnc : L.length ≤ cap) (hlo : lo ≤ W.heap.size) (hO : OSt lo hi W a L) => deleteFunc_any lo hi a L.length cap L 74 (fun s => !s.2.2.2) W rfl hll hnc hlo hO (enters_of (fn := Try.f74) (by kernel_rfl) (by kernel_rfl) rfl) (fun W s => noHit_any W s)
  have HD := Lib.hid hD
  clear hD
  go_enter Try.func27, Try.ntmps27
  go_wp2_with (first | (go_at_call 24; refine (HL.out _ hb).mono ?_; rintro e w1 ⟨aL, kL, rfl, hcL, OL, hb1⟩) | (go_at_call 73; refine (HD.out _ _ aL kL _ hcL hb1.size OL).mono ?_; rintro e w2 ⟨rfl, OD, hb2⟩))
  refine bodyPost_ret (v := .tuple #[.slice aL (hitL L).length kL, .int .i64 R]) (by simp [results, Try.results27, go_sem, hitL]) rfl ?_
  have hOD : OSt w.heap.size w2.heap.size w2 aL (hitL L) := by
    rcases OD with ⟨q1, q2⟩ | ⟨g, q1, q2, q3, q4⟩
    · exact .inl ⟨q1, q2⟩
    · exact .inr ⟨g, q1, by have := hb.size; omega, q4.lt, q4⟩
  exact ⟨aL, kL, rfl, hOD, (chain hb hb1).trans (hb2.mono hb.size)⟩
theorem hitL_eq (l : List Stp) : hitL l = l.filter (fun s => s.2.2.2) := by unfold hitL; simp
theorem hit_take_succ (l : List Stp) (j : Nat) (s : Stp) (h : l[j]? = some s) : hitL (l.take (j + 1)) = hitL (l.take j) ++ (if s.2.2.2 = true then [s] else []) := by
  rw [hitL_eq, hitL_eq]
  exact filter_take_succ (fun s => s.2.2.2) l j s h
set_option maxRecDepth 8000 in
set_option maxHeartbeats 2000000 in
theorem l04Hits_any (P : Nat) (c h s : Int) (a1 a2 : Option Addr) (n1 n2 c1 c2 : Nat) (xs ys : List Int) (w : World) (h1 : xs.length = n1) (h2 : ys.length = n2) (p0 : 2 ≤ P) (p1 : P ≤ 24) (N1 : xs.length = P + 1) (N2 : ys.length = P + 1) (hh0 : 1 ≤ h) (hh : h ≤ (P : Int)) (hx : ∀ x ∈ xs, 0 ≤ x ∧ x ≤ 1000) (hy : ∀ y ∈ ys, 0 ≤ y ∧ y ≤ 1000) (r1 : IRow w a1 xs) (r2 : IRow w a2 ys) (d : Int) (d0 : 1 ≤ d) (d1 : d ≤ 1000) :
    Calls Try.prog 81 #[.agg #[.int .i64 (P : Int), .int .i64 c, .int .i64 h, .int .i64 s], .agg #[.slice a1 n1 c1, .slice a2 n2 c2], .int .i64 d] w (StepsGot (hitL (legL P h xs ys d)) w) := by
  obtain ⟨BV, BB, hb, hz⟩ := two_new w #[.int .i64 (P : Int), .int .i64 c, .int .i64 h, .int .i64 s] #[.slice a1 n1 c1, .slice a2 n2 c2] 25 28
  obtain ⟨x0, x1, x2, x3, xf, xl⟩ := BV.four
  obtain ⟨y0, y1, yf, yl⟩ := BB.two
  have hl0 := fun W (hW : Below w.heap.size w W) => l04Legal_any P c h s a1 a2 n1 n2 c1 c2 xs ys W h1 h2 p0 p1 N1 N2 hh0 hh hx hy (r1.below hW) (r2.below hW) d d0 d1
  have hLl := legL_length P h xs ys d
  obtain ⟨L, hL⟩ : ∃ L, legL P h xs ys d = L := ⟨_, rfl⟩
  rw [hL] at hLl hl0 ⊢
  have HL := Lib.hid hl0
  have hLn : L.length ≤ 1048576 := by omega
  clear hl0 hL
  go_enter Try.func81, Try.ntmps81
  go_wp2_with fail
  have hO0 : OwnT (((w.alloc (.cells #[.int .i64 (P : Int), .int .i64 c, .int .i64 h, .int .i64 s] 25)).alloc (.cells #[.slice a1 n1 c1, .slice a2 n2 c2] 28)).alloc (.cells #[] 30)) ((w.alloc (.cells #[.int .i64 (P : Int), .int .i64 c, .int .i64 h, .int .i64 s] 25)).alloc (.cells #[.slice a1 n1 c1, .slice a2 n2 c2] 28)).heap.size (.slice (some ⟨((w.alloc (.cells #[.int .i64 (P : Int), .int .i64 c, .int .i64 h, .int .i64 s] 25)).alloc (.cells #[.slice a1 n1 c1, .slice a2 n2 c2] 28)).heap.size, 0, none⟩) 0 0) [] := OwnT.start _
  have hbA : Below ((w.alloc (.cells #[.int .i64 (P : Int), .int .i64 c, .int .i64 h, .int .i64 s] 25)).alloc (.cells #[.slice a1 n1 c1, .slice a2 n2 c2] 28)).heap.size ((w.alloc (.cells #[.int .i64 (P : Int), .int .i64 c, .int .i64 h, .int .i64 s] 25)).alloc (.cells #[.slice a1 n1 c1, .slice a2 n2 c2] 28)) (((w.alloc (.cells #[.int .i64 (P : Int), .int .i64 c, .int .i64 h, .int .i64 s] 25)).alloc (.cells #[.slice a1 n1 c1, .slice a2 n2 c2] 28)).alloc (.cells #[] 30)) := (Below.refl _ _).alloc (Nat.le_refl _) _
  rw [hz] at hO0
  have hbw0 := chain hb hbA
  have hz2 : (((w.alloc (.cells #[.int .i64 (P : Int), .int .i64 c, .int .i64 h, .int .i64 s] 25)).alloc (.cells #[.slice a1 n1 c1, .slice a2 n2 c2] 28)).alloc (.cells #[] 30)).heap.size = w.heap.size + 1 + 1 + 1 := by simp
  clear hz x0 x1 x2 x3 xf xl y0 y1 yf yl BV BB hbA hb
  generalize (((w.alloc (.cells #[.int .i64 (P : Int), .int .i64 c, .int .i64 h, .int .i64 s] 25)).alloc (.cells #[.slice a1 n1 c1, .slice a2 n2 c2] 28)).alloc (.cells #[] 30)) = v1 at *
  refine (HL.out _ hbw0).mono ?_
  rintro e w2 ⟨aL, kL, rfl, OL, hb2⟩
  have hO2 := hO0.kept hb2
  have hbw := chain hbw0 hb2
  have hsz := hb2.size
  rw [hz2] at hsz OL
  clear hO0 hbw0 hb2 HL hz2
  go_wp2_with fail
  go_loopg [7, 9] L.length (fun m q i wr => ∃ j : Nat, j ≤ L.length ∧ m = L.length - j ∧ i = .int .i64 j ∧ OwnT wr (w.heap.size + 1 + 1) q (hitL (L.take j)) ∧ (L = [] ∨ ∃ g, aL = some ⟨g, 0, none⟩ ∧ SRow wr g L ∧ q.ownBlock ≠ some g) ∧ Below w.heap.size w wr ∧ w.heap.size + 1 + 1 + 1 ≤ wr.heap.size)
  case atStart =>
    refine ⟨0, by omega, by omega, rfl, hO2, ?_, hbw, hsz⟩
    rcases OL with ⟨_, q⟩ | ⟨g, q1, q2, q3, q4⟩
    · exact .inl q
    · refine .inr ⟨g, q1, q4, ?_⟩
      intro e
      simp [Value.ownBlock] at e
      omega
  case round =>
    obtain ⟨j, hj, hm, rfl, hO, hR, hbel, hszr⟩ := hrel
    by_cases hlt : j < L.length
    · have hlt' : (j : Int) < (L.length : Int) := by omega
      have hj0 : (0 : Int) ≤ (j : Int) := by omega
      obtain ⟨g, rfl, R, hne⟩ : ∃ g, aL = some ⟨g, 0, none⟩ ∧ SRow wr g L ∧ Value.ownBlock _ ≠ some g := by
        rcases hR with hR | hR
        · rw [hR] at hlt
          simp at hlt
        · exact hR
      obtain ⟨t, ht⟩ : ∃ t, L[j]? = some t := ⟨_, List.getElem?_eq_getElem hlt⟩
      obtain ⟨u0, u1, u2, u3⟩ := R.four j t ht
      have hst := hit_take_succ L j t ht
      have hDl : (hitL (L.take j)).length ≤ 1048576 := by
        have h9 := hitL_length (L.take j)
        rw [List.length_take] at h9
        omega
      clear hR ht
      obtain ⟨ta, tb, tc, td⟩ := t
      dsimp only at u0 u1 u2 u3 hst
      cases td with
      | true =>
        rw [if_pos rfl] at hst
        have HST := Lib.hid hst
        clear hst
        go_wp2_with (at_builtin; go_loud (refine wp_pushT_A rfl (.tmp 26) (.tmp 31) rfl (w.heap.size + 1 + 1) _ (hitL (L.take j)) rfl hO (ta, tb, tc, true) g L R hne rfl hDl (by omega) ?_; intro v2 w6 hO3 R3 hne3 hb6))
        go_roundg (L.length - (j + 1))
        case measure => omega
        case rel => exact ⟨j + 1, by omega, rfl, by go_num, by rw [HST.out]; exact hO3, .inr ⟨g, rfl, R3, hne3⟩, hbel.trans (hb6.mono (by omega)), Nat.le_trans hszr hb6.size⟩
      | false =>
        rw [if_neg (by simp), List.append_nil] at hst
        have HST := Lib.hid hst
        clear hst
        go_wp2
        go_roundg (L.length - (j + 1))
        case measure => omega
        case rel => exact ⟨j + 1, by omega, rfl, by go_num, by rw [HST.out]; exact hO, .inr ⟨g, rfl, R, hne⟩, hbel, hszr⟩
    · obtain rfl : j = L.length := by omega
      rw [List.take_length] at hO
      obtain ⟨a, cp, rfl⟩ := hO.form
      have hos := hO.ost
      clear hO hR
      go_wp2
      go_ret
      exact ⟨a, cp, rfl, hos.mono (by omega) (Nat.le_refl _), hbel⟩
set_option maxRecDepth 8000 in
set_option maxHeartbeats 2000000 in
theorem specHitSteps_any (d : Int) (p c h s : Int) (a1 a2 : Option Addr) (n1 n2 c1 c2 : Nat) (xs ys : List Int) (w : World) (h1 : xs.length = n1) (h2 : ys.length = n2) (l1 : n1 ≤ 1048576) (l2 : n2 ≤ 1048576) (r1 : IRow w a1 xs) (r2 : IRow w a2 ys) :
    Calls Try.prog 49 #[.agg #[.int .i64 p, .int .i64 c, .int .i64 h, .int .i64 s], .agg #[.slice a1 n1 c1, .slice a2 n2 c2], .int .i64 d] w (StepsGot2 (htL p c h s xs ys d) (lsR p c h s xs ys d) w) := by
  obtain ⟨BV, BB, hb, hz⟩ := two_new w #[.int .i64 p, .int .i64 c, .int .i64 h, .int .i64 s] #[.slice a1 n1 c1, .slice a2 n2 c2] 25 28
  have hz1 : w.heap.size + 1 < ((w.alloc (.cells #[.int .i64 p, .int .i64 c, .int .i64 h, .int .i64 s] 25)).alloc (.cells #[.slice a1 n1 c1, .slice a2 n2 c2] 28)).heap.size := by rw [hz]; omega
  clear hz
  obtain ⟨x0, x1, x2, x3, xf, xl⟩ := BV.four
  obtain ⟨y0, y1, yf, yl⟩ := BB.two
  unfold htL lsL lsR
  by_cases g : isB p c h s xs ys = true
  · rw [if_pos g, if_pos g]
    obtain ⟨p0, p1, k0, k1, k2, k3, N1, N2, hx, hy, s0, s1, s2, s3⟩ := isB_parts g
    obtain ⟨P, rfl⟩ := Int.eq_ofNat_of_zero_le (by omega : 0 ≤ p)
    rw [show (P : Int).toNat = P by simp]
    have hB := fun W (q1 : IRow W a1 xs) (q2 : IRow W a2 ys) => specIsBoard_any (P : Int) c h s a1 a2 n1 n2 c1 c2 xs ys W h1 h2 l1 l2 q1 q2
    simp only [g] at hB
    have HB := Lib.hid hB
    clear hB
    have hd0 := fun W => l01In_any d 1 s W
    have hs6 := isB_sides g
    cases gi : inB d 1 s with
    | true =>
      have gi' : 1 ≤ d ∧ d ≤ s := by simpa [inB] using gi
      rw [gi] at hd0
      rw [if_pos rfl, if_pos rfl]
      have HD := Lib.hid hd0
      have hL0 := fun W (hW : Below w.heap.size w W) => l04Hits_any P c h s a1 a2 n1 n2 c1 c2 xs ys W h1 h2 (by omega) (by omega) (by omega) (by omega) (by omega) (by omega) hx hy (r1.below hW) (r2.below hW) d (by omega) (by omega)
      obtain ⟨L, hL⟩ : ∃ L, hitL (legL P h xs ys d) = L := ⟨_, rfl⟩
      rw [hL] at hL0 ⊢
      have HL := Lib.hid hL0
      clear hd0 gi hL hL0
      go_enter Try.func49, Try.ntmps49
      go_wp2_with (first | (go_at_call 21; refine (HB.out _ (r1.below hb) (r2.below hb)).mono ?_; rintro e w1 ⟨rfl, hb1⟩; obtain ⟨x0, x1, x2, x3, xf, xl⟩ := (BV.below hb1).four; obtain ⟨y0, y1, yf, yl⟩ := (BB.below hb1).two) | (go_at_call 71; refine (HD.out _).mono ?_; rintro e w2 ⟨rfl, rfl⟩) | (go_at_call 81; refine (HL.out _ (chain hb hb1)).mono ?_; rintro e w3 ⟨aL, kL, rfl, OL, hb3⟩))
      refine bodyPost_ret (v := .tuple #[.slice aL L.length kL, .int .i64 0]) (by simp [results, Try.results49, go_sem]) rfl ?_
      exact ⟨aL, kL, rfl, OL.mono (chain hb hb1).size (Nat.le_refl _), chain (chain hb hb1) hb3⟩
    | false =>
      rw [gi] at hd0
      rw [if_neg (by simp), if_neg (by simp)]
      have HD := Lib.hid hd0
      clear hd0 gi
      go_enter Try.func49, Try.ntmps49
      go_wp2_with (first | (go_at_call 21; refine (HB.out _ (r1.below hb) (r2.below hb)).mono ?_; rintro e w1 ⟨rfl, hb1⟩; obtain ⟨x0, x1, x2, x3, xf, xl⟩ := (BV.below hb1).four; obtain ⟨y0, y1, yf, yl⟩ := (BB.below hb1).two) | (go_at_call 71; refine (HD.out _).mono ?_; rintro e w2 ⟨rfl, rfl⟩))
      refine bodyPost_ret (v := .tuple #[.slice (some ⟨w1.heap.size, 0, none⟩) 0 0, .int .i64 2]) (by simp [results, Try.results49, go_sem]) rfl ?_
      exact ⟨_, _, rfl, OSt.new _ _ (chain hb hb1).size, (chain hb hb1).alloc (chain hb hb1).size _⟩
  · rw [if_neg g, if_neg g]
    replace g : isB p c h s xs ys = false := by simpa using g
    have hB := fun W (q1 : IRow W a1 xs) (q2 : IRow W a2 ys) => specIsBoard_any p c h s a1 a2 n1 n2 c1 c2 xs ys W h1 h2 l1 l2 q1 q2
    simp only [g] at hB
    have HB := Lib.hid hB
    clear hB
    go_enter Try.func49, Try.ntmps49
    go_wp2_with (go_at_call 21; refine (HB.out _ (r1.below hb) (r2.below hb)).mono ?_; rintro e w1 ⟨rfl, hb1⟩; obtain ⟨x0, x1, x2, x3, xf, xl⟩ := (BV.below hb1).four; obtain ⟨y0, y1, yf, yl⟩ := (BB.below hb1).two)
    refine bodyPost_ret (v := .tuple #[.slice (some ⟨w1.heap.size, 0, none⟩) 0 0, .int .i64 1]) (by simp [results, Try.results49, go_sem]) rfl ?_
    exact ⟨_, _, rfl, OSt.new _ _ (chain hb hb1).size, (chain hb hb1).alloc (chain hb hb1).size _⟩
end Go.Proofs.Ytjglempkmenacaa
