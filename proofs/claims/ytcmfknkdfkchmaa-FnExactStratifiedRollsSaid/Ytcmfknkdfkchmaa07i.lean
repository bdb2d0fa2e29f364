/- Contract of the model's group of stratified rolls. -/
import Derived.Test.Ytcmfknkdfkchmaa07h
namespace Go.Proofs.Ytcmfknkdfkchmaa
open Go.ChangeShapes Go.WideShapes Go.ChangeAt Go.RowKit
set_option linter.unusedVariables false
set_option linter.unusedSimpArgs false

theorem nums_succ (k : Nat) : nums (k + 1) = nums k ++ [(k : Int)] := by simp [nums, List.range_succ]
theorem nums_length (k : Nat) : (nums k).length = k := by simp [nums]
theorem nums_mem {m : Nat} {x : Int} (h : x ∈ nums m) : 0 ≤ x ∧ x < (m : Int) := by
  obtain ⟨k, hk, rfl⟩ := List.mem_map.1 h
  have := List.mem_range.1 hk
  omega
theorem Own.start2 (w : World) (vs : Array Value) (t : TypeId) : Own ((w.alloc (.cells vs t)).alloc (.cells #[] 2)) (w.heap.size + 1) (.slice (some ⟨w.heap.size + 1, 0, none⟩) 0 0) [] := by
  have q := Own.start (w.alloc (.cells vs t))
  rw [show (w.alloc (.cells vs t)).heap.size = w.heap.size + 1 by simp] at q
  exact q
theorem Row.low {w w' : World} {g base : Nat} {xs : List Int} (h : Row w g xs) (hb : Below base w w') (hg : g < base) : Row w' g xs := by
  obtain ⟨c, hB, h1, h2⟩ := h
  exact ⟨c, hB.low hb hg, h1, h2⟩
/-- A roll appended to rolls of the call's own, as one operation. -/
theorem step_appR {ops : Array Oper} {o : Oper} {a : Act} {w : World} {K : Act → World → Prop} {Q : Exit → Act → World → Prop} {E : Prop} (hgd : o.guard = none) (s x : Operand)
    (ho : o.op = .call { callee := .builtin .append, args := #[s, x], argTypes := #[27, 27] })
    (base : Nat) (v : Value) (D : List Rl) (hs : a.eval s = v) (hown : OwnR w base v D) (gx c : Nat) (u : Rl) (hx : a.eval x = .slice (some ⟨gx, 0, none⟩) 1 c) (hr : Blk w gx #[.int .i64 u.1, .int .i64 u.2] 33)
    (hl : D.length ≤ 1048575) (hbase : base ≤ w.heap.size)
    (h : ∀ v' w', OwnR w' base v' (D ++ [u]) → Below base w w' → K (a.put o.dst v') w') :
    if Region.wanted o (yielded ops a.tmps) = true then Oper.wp Try.prog o a w K Q else E := by
  have hw : Region.wanted o (yielded ops a.tmps) = true := by simp [Region.wanted, hgd]
  rw [if_pos hw]
  obtain ⟨i0, hi, hz0, hz1, hz2⟩ := info_parts infoRl
  have hown0 : w.ownsRow base 33 2 v D.length (rlsC D) := hown
  refine wp_append_own w s x 27 ho base 33 i0 _ 2 16 Try.underlying27 hi hz0 hz1 hz2 rfl (by decide) v D.length (rlsC D) hs hown0 ⟨gx, 0, none⟩ 1 c (rlC u) hx (by simp [rlC]) (World.news_of_block (cs := #[.int .i64 u.1, .int .i64 u.2]) hr) (fun y hy => by simp [rlC] at hy; rcases hy with rfl | rfl <;> rfl) (by unfold maxLen; omega) (by omega) hbase ?_
  intro v' w' hown' hgrow _
  refine h v' w' ?_ ((Below.refl base w).grown hgrow hbase (fun k hk => (hown0.lt k hk).1))
  show w'.ownsRow base 33 2 _ (D ++ [u]).length (rlsC (D ++ [u]))
  rw [List.length_append, rlsC_append]
  simpa [rlsC] using hown'
set_option maxRecDepth 8000 in
set_option maxHeartbeats 4000000 in
theorem l07Group_any (p c h : Int) (S : Nat) (x : Int) (w : World) (hx : 1 ≤ x ∧ x ≤ 2147483646) (hS : 1 ≤ S ∧ S ≤ 6) :
    Calls Try.prog 62 #[.agg #[.int .i64 p, .int .i64 c, .int .i64 h, .int .i64 (S : Int)], .int .i64 x] w (RollsGot2 (grpL S x) (grpS S x) w) := by
  obtain ⟨hS1, hS6⟩ := hS
  have hM1 : 1 ≤ S * S := Nat.mul_pos hS1 hS1
  have hM36 : S * S ≤ 6 * 6 := Nat.mul_le_mul hS6 hS6
  obtain ⟨hgn, hgs⟩ := grp_nums S hS6 x
  rw [hgn, hgs]
  have hlF := shuf_length (S * S - 1) (nums (S * S)) x
  have hmF := fun z => shuf_mem (S * S - 1) (nums (S * S)) x z
  have hMI : ((S * S : Nat) : Int) = (S : Int) * (S : Int) := by rw [Int.natCast_mul]
  obtain ⟨M, hMe⟩ : ∃ M, S * S = M := ⟨_, rfl⟩
  rw [hMe] at hM1 hM36 hlF hmF hMI ⊢
  rw [nums_length] at hlF
  obtain ⟨⟨FL, FS⟩, hF⟩ : ∃ F, shuf (M - 1) (nums M) x = F := ⟨_, rfl⟩
  rw [hF] at hlF hmF ⊢
  dsimp only at hlF hmF ⊢
  have wT : IntKind.i64.wrap ((S : Int) * (S : Int)) = (M : Int) := by rw [← hMI]; exact IntWalk.i64_in _ (by omega)
  have HF := Lib.hid hF
  have HMF := Lib.hid hmF
  clear hMe hF hgn hgs hMI hmF
  have BV := (Blk.new w #[.int .i64 p, .int .i64 c, .int .i64 h, .int .i64 (S : Int)] 25).alloc (.cells #[] 2)
  have hb : Below w.heap.size w ((w.alloc (.cells #[.int .i64 p, .int .i64 c, .int .i64 h, .int .i64 (S : Int)] 25)).alloc (.cells #[] 2)) := chain_alloc ((Below.refl _ _).alloc (Nat.le_refl _) _) _
  have hO := Own.start2 w #[.int .i64 p, .int .i64 c, .int .i64 h, .int .i64 (S : Int)] 25
  obtain ⟨x0, x1, x2, x3, xf, xl⟩ := BV.four
  go_enter Try.func62, Try.ntmps62
  go_wp2_with fail
  clear x0 x1 x2 x3 xf xl
  generalize ((w.alloc (.cells #[.int .i64 p, .int .i64 c, .int .i64 h, .int .i64 (S : Int)] 25)).alloc (.cells #[] 2)) = v0 at *
  have hv0 := BV.lt
  go_loopg [6, 7] M (fun m q6 q7 wr => ∃ k : Nat, k ≤ M ∧ m = M - k ∧ q7 = .int .i64 (k : Int) ∧ Own wr (w.heap.size + 1) q6 (nums k) ∧ Blk wr w.heap.size #[.int .i64 p, .int .i64 c, .int .i64 h, .int .i64 (S : Int)] 25 ∧ Below w.heap.size w wr)
  case atStart => exact ⟨0, by omega, by omega, rfl, hO, BV, hb⟩
  case round =>
    clear hO BV hb
    obtain ⟨k, hk, hm, rfl, hO, BV, hb⟩ := hrel
    have hVl := BV.lt
    by_cases hlt : k < M
    · have hlt' : (k : Int) < (M : Int) := by omega
      have hk36 : (k : Int) ≤ 36 := by omega
      have hsu := nums_succ k
      have hln := nums_length k
      obtain ⟨LL, hLL⟩ : ∃ z, nums k = z := ⟨_, rfl⟩
      rw [hLL] at hO hsu hln
      have HS_ := Lib.hid hsu
      have hLl : LL.length ≤ 1048576 := by omega
      clear hsu hLL hln
      obtain ⟨x0, x1, x2, x3, xf, xl⟩ := BV.four
      go_wp2_with (at_builtin; go_loud (refine wp_push rfl _ _ rfl (w.heap.size + 1) _ LL rfl hO (k : Int) rfl hLl hVl ?_; intro v2 w6 hO2 hb6))
      go_roundg (M - (k + 1))
      case measure => omega
      case rel => exact ⟨k + 1, by omega, rfl, by go_num, by rw [HS_.out]; exact hO2, BV.low hb6 (by omega), hb.trans (hb6.mono (by omega))⟩
    · obtain rfl : k = M := by omega
      have hln := nums_length k
      obtain ⟨aL, kL, rfl⟩ := hO.form
      rcases hO.osl with ⟨-, hnil⟩ | ⟨gL, rfl, hgL1, hgL2, RL⟩
      · rw [hnil] at hln
        simp at hln
        omega
      have hlt' : ¬ (k : Int) < (k : Int) := by omega
      rw [hln]
      clear hO hlt
      obtain ⟨x0, x1, x2, x3, xf, xl⟩ := BV.four
      go_wp2_with fail
      clear x0 x1 x2 x3 xf xl
      go_loopg [1, 8, 9, 10] (k - 1) (fun m q1 q8 q9 q10 wr => ∃ (i : Nat) (l : List Int) (y : Int), i = m ∧ i ≤ k - 1 ∧ q8 = .int .i64 (i : Int) ∧ q1 = .int .i64 y ∧ l.length = k ∧ shuf i l y = (FL, FS) ∧ (1 ≤ y ∧ y ≤ 2147483646) ∧ Row wr gL l ∧ Blk wr w.heap.size #[.int .i64 p, .int .i64 c, .int .i64 h, .int .i64 (S : Int)] 25 ∧ Below w.heap.size w wr)
      case atStart => exact ⟨k - 1, nums k, x, rfl, Nat.le_refl _, by go_num, rfl, hln, HF.out, hx, RL, BV, hb⟩
      case round =>
        clear RL BV hb
        obtain ⟨i, l, y, hm3, hi, rfl, rfl, hll, hsh, hy, RL, BV, hb⟩ := hrel
        subst hm3
        by_cases hi1 : 1 ≤ i
        · have hi1' : (0 : Int) < (i : Int) := by omega
          have hi0 : (0 : Int) ≤ (i : Int) := by omega
          have hiM : (i : Int) < (k : Int) := by omega
          have hiMn : i < k := by omega
          have hi36 : (i : Int) ≤ 36 := by omega
          rw [shuf_down i l y hi1] at hsh
          have hY := nxS_seed hy
          have hnx := fun W => l07Next_any y W hy
          obtain ⟨Y, hYe⟩ : ∃ Y, nxS y = Y := ⟨_, rfl⟩
          rw [hYe] at hY hsh hnx
          obtain ⟨j, hj⟩ := Int.eq_ofNat_of_zero_le (Int.emod_nonneg Y (show ((i : Int) + 1) ≠ 0 by omega))
          have hji : (j : Int) < (i : Int) + 1 := by rw [← hj]; exact Int.emod_lt_of_pos Y (by omega)
          have hjM2 : j < k := by omega
          have hjM : (j : Int) < (k : Int) := by omega
          have hj0 : (0 : Int) ≤ (j : Int) := by omega
          have hne : ¬ ((i : Int) + 1 = 0) := by omega
          rw [hj, Int.toNat_natCast] at hsh
          have hxi : l[i]? = some (l.getD i 0) := by rw [List.getD, List.getElem?_eq_getElem (by omega)]; rfl
          have hxk : l[j]? = some (l.getD j 0) := by rw [List.getD, List.getElem?_eq_getElem (by omega)]; rfl
          have c0 := RL.cell i (by omega)
          have c1 := RL.cell j (by omega)
          obtain ⟨xi, hxie⟩ : ∃ z, l.getD i 0 = z := ⟨_, rfl⟩
          obtain ⟨xk, hxke⟩ : ∃ z, l.getD j 0 = z := ⟨_, rfl⟩
          rw [hxie] at hxi c0
          rw [hxke] at hxk c1
          rw [swp_some hxi hxk] at hsh
          have R1 := RL.set i xk
          have d1 := R1.cell j (by rw [List.length_set]; omega)
          have he1 : (l.set i xk).getD j 0 = xk := by
            rw [List.getD]
            by_cases e : i = j
            · subst e
              rw [List.getElem?_set_self (by omega)]
              rfl
            · rw [List.getElem?_set_ne e, hxk]
              rfl
          rw [he1] at d1
          have f0 := fun q => RL.free q
          have f1 := fun q => R1.free q
          have hRl := RL.lt
          have R2 := Lib.hid (R1.set j xi)
          have BVn := Lib.hid ((BV.other (g := gL) (o := i) (v := .int .i64 xk) (by omega)).other (g := gL) (o := j) (v := .int .i64 xi) (by omega))
          have hbn := Lib.hid ((hb.setCell (p := ⟨gL, i, none⟩) (by show w.heap.size ≤ gL; omega) (.int .i64 xk)).setCell (p := ⟨gL, j, none⟩) (by show w.heap.size ≤ gL; omega) (.int .i64 xi))
          have HSH := Lib.hid hsh
          have HNX := Lib.hid hnx
          clear hsh hnx hYe hxi hxk hxie hxke RL BV hb R1 he1 hy
          go_wp2_with (go_at_call 66; refine (HNX.out _).mono ?_; rintro e w3 ⟨rfl, rfl⟩)
          go_roundg (i - 1)
          case measure => omega
          case rel => exact ⟨i - 1, _, Y, rfl, by omega, by go_num, rfl, by rw [List.length_set, List.length_set]; exact hll, HSH.out, hY, R2.out, BVn.out, hbn.out⟩
        · have hi0 : (i : Int) ≤ 0 := by omega
          obtain rfl : i = 0 := by omega
          have hsh2 : (l, y) = (FL, FS) := hsh
          obtain ⟨rfl, rfl⟩ : l = FL ∧ y = FS := by simpa using hsh2
          clear hsh hsh2 HF hlF
          have hRl := RL.lt
          have hOR := OwnR.start wr
          replace RL := RL.alloc (.cells #[] 33)
          replace BV := BV.alloc (.cells #[] 33)
          replace hb := chain_alloc hb (.cells #[] 33)
          have hzw : wr.heap.size ≤ (wr.alloc (.cells #[] 33)).heap.size := by simp
          go_wp2_with fail
          generalize (wr.alloc (.cells #[] 33)) = v5 at *
          generalize wr.heap.size = baseR at *
          go_loopg [11, 12] k (fun m q11 q12 wr => ∃ i : Nat, i ≤ k ∧ m = k - i ∧ q12 = .int .i64 (i : Int) ∧ OwnR wr baseR q11 ((l.take i).map (ofNum (S : Int))) ∧ Row wr gL l ∧ Blk wr w.heap.size #[.int .i64 p, .int .i64 c, .int .i64 h, .int .i64 (S : Int)] 25 ∧ baseR ≤ wr.heap.size ∧ Below w.heap.size w wr)
          case atStart => exact ⟨0, by omega, by omega, rfl, hOR, RL, BV, hzw, hb⟩
          case round =>
            clear RL BV hb hOR hzw
            obtain ⟨i, hi, hm4, rfl, hOR, RL, BV, hzw, hb⟩ := hrel
            by_cases hlt : i < k
            · have hlt' : (i : Int) < (k : Int) := by omega
              have hi0 : (0 : Int) ≤ (i : Int) := by omega
              have hxi : l[i]? = some (l.getD i 0) := by rw [List.getD, List.getElem?_eq_getElem (by omega)]; rfl
              have cL := RL.cell i (by omega)
              obtain ⟨xi, hxie⟩ : ∃ z, l.getD i 0 = z := ⟨_, rfl⟩
              rw [hxie] at hxi cL
              have hxb := nums_mem (HMF.out xi (List.mem_of_getElem? hxi))
              obtain ⟨xb1, xb2⟩ := hxb
              have hsu : (l.take (i + 1)).map (ofNum (S : Int)) = (l.take i).map (ofNum (S : Int)) ++ [ofNum (S : Int) xi] := by
                obtain ⟨hi2, he⟩ := List.getElem?_eq_some_iff.1 hxi
                rw [List.take_succ_eq_append_getElem hi2, List.map_append, he]
                rfl
              have hlR : ((l.take i).map (ofNum (S : Int))).length ≤ 36 := by rw [List.length_map, List.length_take]; omega
              unfold ofNum at hsu
              have s1 : 1 ≤ (S : Int) := by omega
              have s2 : (S : Int) ≤ 6 := by omega
              have hS0 : ¬ S = 0 := by omega
              have hSI : ¬ (S : Int) = 0 := by omega
              obtain ⟨D, hD⟩ : ∃ D, xi / (S : Int) = D := ⟨_, rfl⟩
              obtain ⟨R, hR⟩ : ∃ R, xi % (S : Int) = R := ⟨_, rfl⟩
              have D0 : 0 ≤ D := by rw [← hD]; exact Int.ediv_nonneg xb1 (by omega)
              have D1 : D ≤ 36 := by
                have h1 : xi / (S : Int) ≤ xi := Int.ediv_le_self _ xb1
                omega
              have R0 : 0 ≤ R := by rw [← hR]; exact Int.emod_nonneg xi (by omega)
              have R1 : R ≤ 6 := by have := Int.emod_lt_of_pos xi (show 0 < (S : Int) by omega); omega
              have t1 : xi.tdiv (S : Int) = D := by rw [Int.tdiv_eq_ediv_of_nonneg xb1]; exact hD
              have t2 : xi.tmod (S : Int) = R := by rw [Int.tmod_eq_emod_of_nonneg xb1]; exact hR
              have w1_ : IntKind.i64.wrap (1 + D) = 1 + D := IntWalk.i64_in _ (by omega)
              have w2_ : IntKind.i64.wrap (1 + R) = 1 + R := IntWalk.i64_in _ (by omega)
              have w3_ : IntKind.i64.wrap D = D := IntWalk.i64_in _ (by omega)
              have hpr := fun W => l07Pair_any (1 + D) (1 + R) W
              conv at hsu => rhs; rw [hD, hR]
              obtain ⟨⟨fa, fb⟩, hFR⟩ : ∃ r : Rl, prR (1 + D) (1 + R) = r := ⟨_, rfl⟩
              rw [hFR] at hpr hsu
              dsimp only at hpr
              have HPR := Lib.hid hpr
              have HSU := Lib.hid hsu
              obtain ⟨LR, hLR⟩ : ∃ z, (l.take i).map (ofNum (S : Int)) = z := ⟨_, rfl⟩
              have HLR := Lib.hid hLR
              rw [hLR] at hOR hlR
              have fL := fun q => RL.free q
              clear hpr hsu hFR hxi hxie hLR
              obtain ⟨x0, x1, x2, x3, xf, xl⟩ := BV.four
              go_wp2_with fail
              clear x0 x1 x2 x3 xf xl
              clear fL
              have hd9 : wr.drew.heap.size = wr.heap.size := rfl
              replace BV := BV.drew
              replace RL := RL.drew
              replace hOR : OwnR wr.drew baseR _ LR := hOR
              replace hb := hb.drew
              replace cL := CellIs.drew cL
              refine wp_region_held_drew (S := fun w' => w'.cell? ⟨w.heap.size, 0, none⟩ = some (.int .i64 p) ∧ w'.cell? ⟨w.heap.size, 1, none⟩ = some (.int .i64 c) ∧ w'.cell? ⟨w.heap.size, 2, none⟩ = some (.int .i64 h) ∧ w'.cell? ⟨w.heap.size, 3, none⟩ = some (.int .i64 (S : Int)) ∧ w'.cell? ⟨gL, i, none⟩ = some (.int .i64 xi)) (by kernel_rfl) ⟨BV.four.1, BV.four.2.1, BV.four.2.2.1, BV.four.2.2.2.1, cL⟩ (fun hHeld => ?_)
              clear hHeld
              generalize wr.drew = vd at *
              have hHeld : vd.cell? ⟨w.heap.size, 0, none⟩ = some (.int .i64 p) ∧ vd.cell? ⟨w.heap.size, 1, none⟩ = some (.int .i64 c) ∧ vd.cell? ⟨w.heap.size, 2, none⟩ = some (.int .i64 h) ∧ vd.cell? ⟨w.heap.size, 3, none⟩ = some (.int .i64 (S : Int)) ∧ vd.cell? ⟨gL, i, none⟩ = some (.int .i64 xi) := ⟨BV.four.1, BV.four.2.1, BV.four.2.2.1, BV.four.2.2.2.1, cL⟩
              refine wpAnyH_take (i := 0) (oi := { dst := some 62, op := _, type := _, pos := _, after := _, guard := _ }) (v := ?_) rfl (by kernel_rfl) (by kernel_rfl) (by kernel_rfl) (fun _ _ _ h => h) (Or.inl ⟨by rfl, ?_⟩) (by assumption) ?_
              rotate_left
              · intro w hSw
                (try dsimp only at hSw)
                go_simp
                (try (with_reducible rfl))
              try simp only [Act.put, List.setIfInBounds_toArray, List.set_cons_zero, List.set_cons_succ]
              refine wpAnyH_take (i := 1) (oi := { dst := some 63, op := _, type := _, pos := _, after := _, guard := _ }) (v := ?_) rfl (by kernel_rfl) (by kernel_rfl) (by kernel_rfl) (fun _ _ _ h => h) (Or.inl ⟨by rfl, ?_⟩) (by assumption) ?_
              rotate_left
              · intro w hSw
                (try dsimp only at hSw)
                go_simp
                (try (with_reducible rfl))
              try simp only [Act.put, List.setIfInBounds_toArray, List.set_cons_zero, List.set_cons_succ]
              refine wpAnyH_take (i := 2) (oi := { dst := some 64, op := _, type := _, pos := _, after := _, guard := _ }) (v := ?_) rfl (by kernel_rfl) (by kernel_rfl) (by kernel_rfl) (fun _ _ _ h => h) (Or.inl ⟨by rfl, ?_⟩) (by assumption) ?_
              rotate_left
              · intro w hSw
                (try dsimp only at hSw)
                go_simp
                (try (with_reducible rfl))
              try simp only [Act.put, List.setIfInBounds_toArray, List.set_cons_zero, List.set_cons_succ]
              refine wpAnyH_take (i := 3) (oi := { dst := some 65, op := _, type := _, pos := _, after := _, guard := _ }) (v := ?_) rfl (by kernel_rfl) (by kernel_rfl) (by kernel_rfl) (fun _ _ _ h => h) (Or.inl ⟨by rfl, ?_⟩) (by assumption) ?_
              rotate_left
              · intro w hSw
                (try dsimp only at hSw)
                go_simp
                (try (with_reducible rfl))
              try simp only [Act.put, List.setIfInBounds_toArray, List.set_cons_zero, List.set_cons_succ]
              refine wpAnyH_take (i := 4) (oi := { dst := some 66, op := _, type := _, pos := _, after := _, guard := _ }) (v := ?_) rfl (by kernel_rfl) (by kernel_rfl) (by kernel_rfl) (fun _ _ _ h => h) (Or.inl ⟨by rfl, ?_⟩) (by assumption) ?_
              rotate_left
              · intro w hSw
                (try dsimp only at hSw)
                go_simp
                (try (with_reducible rfl))
              try simp only [Act.put, List.setIfInBounds_toArray, List.set_cons_zero, List.set_cons_succ]
              refine wpAnyH_take (i := 5) (oi := { dst := some 67, op := _, type := _, pos := _, after := _, guard := _ }) (v := ?_) rfl (by kernel_rfl) (by kernel_rfl) (by kernel_rfl) (fun _ _ _ h => h) (Or.inl ⟨by rfl, ?_⟩) (by assumption) ?_
              rotate_left
              · intro w hSw
                (try dsimp only at hSw)
                go_simp
                (try (with_reducible rfl))
              try simp only [Act.put, List.setIfInBounds_toArray, List.set_cons_zero, List.set_cons_succ]
              refine wpAnyH_take (i := 6) (oi := { dst := some 68, op := _, type := _, pos := _, after := _, guard := _ }) (v := ?_) rfl (by kernel_rfl) (by kernel_rfl) (by kernel_rfl) (fun _ _ _ h => h) (Or.inl ⟨by rfl, ?_⟩) (by assumption) ?_
              rotate_left
              · intro w hSw
                (try dsimp only at hSw)
                go_simp
                (try (with_reducible rfl))
              try simp only [Act.put, List.setIfInBounds_toArray, List.set_cons_zero, List.set_cons_succ]
              refine wpAnyH_take (i := 7) (oi := { dst := some 69, op := _, type := _, pos := _, after := _, guard := _ }) (v := ?_) rfl (by kernel_rfl) (by kernel_rfl) (by kernel_rfl) (fun _ _ _ h => h) (Or.inl ⟨by rfl, ?_⟩) (by assumption) ?_
              rotate_left
              · intro w hSw
                (try dsimp only at hSw)
                go_simp
                (try (with_reducible rfl))
              try simp only [Act.put, List.setIfInBounds_toArray, List.set_cons_zero, List.set_cons_succ]
              refine wpAnyH_take (i := 8) (oi := { dst := some 70, op := _, type := _, pos := _, after := _, guard := _ }) (v := ?_) rfl (by kernel_rfl) (by kernel_rfl) (by kernel_rfl) (fun _ _ _ h => h) (Or.inl ⟨by rfl, ?_⟩) (by assumption) ?_
              rotate_left
              · intro w hSw
                (try dsimp only at hSw)
                go_simp
                (try (with_reducible rfl))
              try simp only [Act.put, List.setIfInBounds_toArray, List.set_cons_zero, List.set_cons_succ]
              refine wpAnyH_take (i := 9) (oi := { dst := some 71, op := _, type := _, pos := _, after := _, guard := _ }) (v := ?_) rfl (by kernel_rfl) (by kernel_rfl) (by kernel_rfl) (fun _ _ _ h => h) (Or.inl ⟨by rfl, ?_⟩) (by assumption) ?_
              rotate_left
              · intro w hSw
                (try dsimp only at hSw)
                go_simp
                (try (with_reducible rfl))
              try simp only [Act.put, List.setIfInBounds_toArray, List.set_cons_zero, List.set_cons_succ]
              refine wpAnyH_take (i := 10) (oi := { dst := some 72, op := _, type := _, pos := _, after := _, guard := _ }) (v := ?_) rfl (by kernel_rfl) (by kernel_rfl) (by kernel_rfl) (fun _ _ _ h => h) (Or.inl ⟨by rfl, ?_⟩) (by assumption) ?_
              rotate_left
              · intro w hSw
                (try dsimp only at hSw)
                go_simp
                (try (with_reducible rfl))
              try simp only [Act.put, List.setIfInBounds_toArray, List.set_cons_zero, List.set_cons_succ]
              refine wpAnyH_take (i := 11) (oi := { dst := some 73, op := _, type := _, pos := _, after := _, guard := _ }) (v := ?_) rfl (by kernel_rfl) (by kernel_rfl) (by kernel_rfl) (fun _ _ _ h => h) (Or.inl ⟨by rfl, ?_⟩) (by assumption) ?_
              rotate_left
              · intro w hSw
                (try dsimp only at hSw)
                go_simp
                (try (with_reducible rfl))
              try simp only [Act.put, List.setIfInBounds_toArray, List.set_cons_zero, List.set_cons_succ]
              refine wpAnyH_take (i := 12) (oi := { dst := some 74, op := _, type := _, pos := _, after := _, guard := _ }) (v := ?_) rfl (by kernel_rfl) (by kernel_rfl) (by kernel_rfl) (fun _ _ _ h => h) (Or.inl ⟨by rfl, ?_⟩) (by assumption) ?_
              rotate_left
              · intro w hSw
                (try dsimp only at hSw)
                go_simp
                (try (with_reducible rfl))
              try simp only [Act.put, List.setIfInBounds_toArray, List.set_cons_zero, List.set_cons_succ]
              refine wpAnyH_take (i := 13) (oi := { dst := some 75, op := _, type := _, pos := _, after := _, guard := _ }) (v := ?_) rfl (by kernel_rfl) (by kernel_rfl) (by kernel_rfl) (fun _ _ _ h => h) (Or.inl ⟨by rfl, ?_⟩) (by assumption) ?_
              rotate_left
              · intro w hSw
                (try dsimp only at hSw)
                go_simp
                (try (with_reducible rfl))
              try simp only [Act.put, List.setIfInBounds_toArray, List.set_cons_zero, List.set_cons_succ]
              refine wpAnyH_take (i := 14) (oi := { dst := some 76, op := _, type := _, pos := _, after := _, guard := _ }) (v := ?_) rfl (by kernel_rfl) (by kernel_rfl) (by kernel_rfl) (fun _ _ _ h => h) (Or.inl ⟨by rfl, ?_⟩) (by assumption) ?_
              rotate_left
              · intro w hSw
                (try dsimp only at hSw)
                go_simp
                (try (with_reducible rfl))
              try simp only [Act.put, List.setIfInBounds_toArray, List.set_cons_zero, List.set_cons_succ]
              refine wpAnyH_take (i := 15) (oi := { dst := some 77, op := _, type := _, pos := _, after := _, guard := _ }) (v := ?_) rfl (by kernel_rfl) (by kernel_rfl) (by kernel_rfl) (fun _ _ _ h => h) (Or.inl ⟨by rfl, ?_⟩) (by assumption) ?_
              rotate_left
              · intro w hSw
                (try dsimp only at hSw)
                go_simp
                (try (with_reducible rfl))
              try simp only [Act.put, List.setIfInBounds_toArray, List.set_cons_zero, List.set_cons_succ]
              refine wpAnyH_take (i := 16) (oi := { dst := some 78, op := _, type := _, pos := _, after := _, guard := _ }) (v := ?_) rfl (by kernel_rfl) (by kernel_rfl) (by kernel_rfl) (fun _ _ _ h => h) (Or.inl ⟨by rfl, ?_⟩) (by assumption) ?_
              rotate_left
              · intro w hSw
                (try dsimp only at hSw)
                go_simp
                (try (with_reducible rfl))
              try simp only [Act.put, List.setIfInBounds_toArray, List.set_cons_zero, List.set_cons_succ]
              refine wpAnyH_ready (rs := [17]) (by kernel_rfl) (by simp) ?_
              refine AllReadyH.cons (o := { dst := some 79, op := _, type := _, pos := _, after := _, guard := _ }) rfl (fun K hK => ?_) AllReadyH.nil
              go_simp
              refine (HPR.out _).mono ?_
              rintro e w5 ⟨rfl, hq⟩
              replace BV := BV.below hq
              replace cL := CellIs.below cL hq
              replace RL := RL.below hq
              replace hOR := hOR.kept hq
              have hz5 := hq.size
              replace hb := chain hb hq
              clear hq
              (try go_wp2_with fail)
              refine hK.out _ _ ⟨BV.four.1, BV.four.2.1, BV.four.2.2.1, BV.four.2.2.2.1, cL⟩ (fun hHeld => ?_)
              clear hK K
              try simp only [Act.put, List.setIfInBounds_toArray, List.set_cons_zero, List.set_cons_succ]
              refine wpAnyH_ready (rs := [18]) (by kernel_rfl) (by simp) ?_
              refine AllReadyH.cons (o := { dst := some 80, op := _, type := _, pos := _, after := _, guard := _ }) rfl (fun K hK => ?_) AllReadyH.nil
              go_simp
              have BQ := Blk.new w5 #[.int .i64 fa, .int .i64 fb] 33
              replace BV := BV.alloc (.cells #[.int .i64 fa, .int .i64 fb] 33)
              replace RL := RL.alloc (.cells #[.int .i64 fa, .int .i64 fb] 33)
              replace cL := CellIs.below cL ((Below.refl _ _).alloc (Nat.le_refl _) (.cells #[.int .i64 fa, .int .i64 fb] 33))
              replace hOR := hOR.alloc (.cells #[.int .i64 fa, .int .i64 fb] 33)
              replace hb := chain_alloc hb (.cells #[.int .i64 fa, .int .i64 fb] 33)
              have hz6 : w5.heap.size ≤ (w5.alloc (.cells #[.int .i64 fa, .int .i64 fb] 33)).heap.size := by simp
              (try go_wp2_with fail)
              refine hK.out _ _ ⟨BV.four.1, BV.four.2.1, BV.four.2.2.1, BV.four.2.2.2.1, cL⟩ (fun hHeld => ?_)
              clear hK K
              try simp only [Act.put, List.setIfInBounds_toArray, List.set_cons_zero, List.set_cons_succ]
              generalize (w5.alloc (.cells #[.int .i64 fa, .int .i64 fb] 33)) = w6 at *
              refine wpAnyH_ready (rs := [19]) (by kernel_rfl) (by simp) ?_
              refine AllReadyH.cons (o := { dst := some 81, op := _, type := _, pos := _, after := _, guard := _ }) rfl (fun K hK => ?_) AllReadyH.nil
              refine step_appR rfl (.tmp 62) (.tmp 80) rfl baseR _ LR rfl hOR _ _ (fa, fb) rfl BQ (by omega) (by omega) ?_
              intro v2 w7 hOR2 hb7
              replace BV := BV.low hb7 (by omega)
              replace RL := RL.low hb7 (by omega)
              have cL2 : CellIs w7 gL i (.int .i64 xi) := (hb7.cell (p := ⟨gL, i, none⟩) (by show gL < baseR; omega)).trans cL
              clear cL
              have cL := cL2
              have hz7 := hb7.size
              replace hb := hb.trans (hb7.mono (by omega))
              refine hK.out _ _ ⟨BV.four.1, BV.four.2.1, BV.four.2.2.1, BV.four.2.2.2.1, cL⟩ (fun hHeld => ?_)
              clear hK K
              try simp only [Act.put, List.setIfInBounds_toArray, List.set_cons_zero, List.set_cons_succ]
              refine wpAnyH_take (i := 20) (oi := { dst := some 11, op := _, type := _, pos := _, after := _, guard := _ }) (v := ?_) rfl (by kernel_rfl) (by kernel_rfl) (by kernel_rfl) (fun _ _ _ h => h) (Or.inl ⟨by rfl, ?_⟩) (by assumption) ?_
              rotate_left
              · intro w hSw
                (try dsimp only at hSw)
                go_simp
                (try (with_reducible rfl))
              try simp only [Act.put, List.setIfInBounds_toArray, List.set_cons_zero, List.set_cons_succ]
              refine wpAnyH_done (by kernel_rfl) ?_ _
              go_wp2
              go_roundg (k - (i + 1))
              case measure => omega
              case rel => exact ⟨i + 1, by omega, rfl, by go_num, by have := HSU.out; rw [show (l.take i).map (fun x => prR (1 + x / (S : Int)) (1 + x % (S : Int))) = LR from HLR.out] at this; rw [show (l.take (i + 1)).map (ofNum (S : Int)) = LR ++ [(fa, fb)] from this]; exact hOR2, RL, BV, by omega, hb⟩
            · obtain rfl : i = k := by omega
              have hall : l.take i = l := List.take_of_length_le (by omega)
              rw [hall] at hOR
              obtain ⟨aR, kR, rfl⟩ := hOR.form
              have hlm : (l.map (ofNum (S : Int))).length = l.length := by simp
              go_wp2
              go_ret2
              exact ⟨aR, kR, by simp, hOR.orl.mono (by omega) (Nat.le_refl _), hb⟩
end Go.Proofs.Ytcmfknkdfkchmaa
