/- Contract of the model's function that reads several steps from a text. -/
import Derived.Test.YthfhiggageejbaaDoor06p
import Derived.Test.YthfhiggageejbaaDoor06q
import Derived.Test.YthfhiggageejbaaDoorL01w
namespace Go.Proofs.YthfhiggageejbaaDoor
open Go.ChangeShapes Go.WideShapes Go.ChangeAt Go.RowKit
set_option linter.unusedVariables false
set_option linter.unusedSimpArgs false

theorem wp_pushT3 {ops : Array Oper} {rest : List Oper} {o : Oper} {a : Act} {Q : Exit → Act → World → Prop} (hgd : o.guard = none) (s x : Operand)
    (ho : o.op = .call { callee := .builtin .append, args := #[s, x], argTypes := #[26, 26] })
    (base : Nat) (v : Value) (l : List Stp) (hs : a.eval s = v) {w0 : World} (hown : OwnT w0 base v l) (u : Stp)
    {zz : Nat} (hx : a.eval x = .slice (some ⟨zz, 0, none⟩) 1 1) (hzz : w0.heap.size = zz) (hl : l.length ≤ 1048576) (hbase : base ≤ w0.heap.size)
    (h : ∀ v' w', OwnT w' base v' (l ++ [u]) → Below base w0 w' → (∀ j, j < w0.heap.size → v.ownBlock ≠ some j → w'.heap[j]? = w0.heap[j]?) → wpList Tryd.prog ops Q rest (a.put o.dst v') w') : wpList Tryd.prog ops Q (o :: rest) a (w0.alloc (.cells #[.int .i64 u.1, .int .i64 u.2.1, .int .i64 u.2.2.1, .bool u.2.2.2] 38)) := by
  subst hzz
  obtain ⟨i0, hi, hz0, hz1, hz2⟩ := info_parts infoStp
  have hown0 : w0.ownsRow base 38 4 v l.length (stepsC l) := hown
  refine wpList_append_own _ hgd s x 26 ho base 38 i0 _ 4 32 Tryd.underlying26 hi hz0 hz1 hz2 rfl (by decide) v l.length (stepsC l) hs (hown0.alloc _) ⟨w0.heap.size, 0, none⟩ 1 1 (stC u) hx (by simp [stC])
    (World.news_of_block (cs := #[.int .i64 u.1, .int .i64 u.2.1, .int .i64 u.2.2.1, .bool u.2.2.2]) (Blk.new w0 _ 38)) (fun y hy => by simp [stC] at hy; rcases hy with rfl | rfl | rfl | rfl <;> rfl) (by unfold maxLen; omega) (by omega) (by simp; omega) ?_
  intro v' w' hown' hgrow _
  refine h v' w' ?_ (((Below.refl base w0).alloc hbase _).grown hgrow (by simp; omega) (fun k hk => (hown0.lt k hk).1)) (fun j hj hne => by rw [hgrow.block j (by simp; omega) (fun hh => hne hh.symm), Below.heap_alloc _ _ _ hj])
  show w'.ownsRow base 38 4 _ (l ++ [u]).length (stepsC (l ++ [u]))
  rw [List.length_append, stepsC_append]
  simpa [stepsC] using hown'
/-- A row of steps is no row of texts. -/
theorem OwnT.neStr {w : World} {base gw : Nat} {v : Value} {l : List Stp} {cur : Array Value} {f : Nat × Nat} (h : OwnT w base v l) (hg : w.heap[gw]? = some (.cells cur 9 f)) : v.ownBlock ≠ some gw := by
  intro hv
  rcases h.2 with ⟨rfl, _⟩ | ⟨g, cap, cu, rfl, _, hh, _⟩
  · simp [Value.ownBlock] at hv
  · simp [Value.ownBlock] at hv
    subst hv
    rw [hg] at hh
    simp at hh
theorem heldSt {w wr W w2 : World} {p c h s : Int} {gw k : Nat} {X : ByteArray} (hS : W.cell? ⟨w.heap.size, 0, none⟩ = some (.int .i64 p) ∧ W.cell? ⟨w.heap.size, 1, none⟩ = some (.int .i64 c) ∧ W.cell? ⟨w.heap.size, 2, none⟩ = some (.int .i64 h) ∧ W.cell? ⟨w.heap.size, 3, none⟩ = some (.int .i64 s) ∧ W.cell? ⟨gw, k, none⟩ = some (.string X) ∧ Below wr.heap.size wr W) (hb : Below W.heap.size W w2) : w2.cell? ⟨w.heap.size, 0, none⟩ = some (.int .i64 p) ∧ w2.cell? ⟨w.heap.size, 1, none⟩ = some (.int .i64 c) ∧ w2.cell? ⟨w.heap.size, 2, none⟩ = some (.int .i64 h) ∧ w2.cell? ⟨w.heap.size, 3, none⟩ = some (.int .i64 s) ∧ w2.cell? ⟨gw, k, none⟩ = some (.string X) ∧ Below wr.heap.size wr w2 := by
  obtain ⟨a0, a1, a2, a3, B, h⟩ := hS
  exact ⟨cell_keep a0 hb, cell_keep a1 hb, cell_keep a2 hb, cell_keep a3 hb, cell_keep B hb, chain h hb⟩
theorem storeSt {w wr W : World} {p c h s : Int} {gw k : Nat} {X : ByteArray} {B : Nat} {v0 v1 v2 v3 : Value} (hS : W.cell? ⟨w.heap.size, 0, none⟩ = some (.int .i64 p) ∧ W.cell? ⟨w.heap.size, 1, none⟩ = some (.int .i64 c) ∧ W.cell? ⟨w.heap.size, 2, none⟩ = some (.int .i64 h) ∧ W.cell? ⟨w.heap.size, 3, none⟩ = some (.int .i64 s) ∧ W.cell? ⟨gw, k, none⟩ = some (.string X) ∧ Below wr.heap.size wr W) (h0 : w.heap.size < wr.heap.size) (h1 : gw < wr.heap.size) (hB : wr.heap.size ≤ B) : ((((W.setCell ⟨B, 0, none⟩ (v0)).setCell ⟨B, 1, none⟩ (v1)).setCell ⟨B, 2, none⟩ (v2)).setCell ⟨B, 3, none⟩ (v3)).cell? ⟨w.heap.size, 0, none⟩ = some (.int .i64 p) ∧ ((((W.setCell ⟨B, 0, none⟩ (v0)).setCell ⟨B, 1, none⟩ (v1)).setCell ⟨B, 2, none⟩ (v2)).setCell ⟨B, 3, none⟩ (v3)).cell? ⟨w.heap.size, 1, none⟩ = some (.int .i64 c) ∧ ((((W.setCell ⟨B, 0, none⟩ (v0)).setCell ⟨B, 1, none⟩ (v1)).setCell ⟨B, 2, none⟩ (v2)).setCell ⟨B, 3, none⟩ (v3)).cell? ⟨w.heap.size, 2, none⟩ = some (.int .i64 h) ∧ ((((W.setCell ⟨B, 0, none⟩ (v0)).setCell ⟨B, 1, none⟩ (v1)).setCell ⟨B, 2, none⟩ (v2)).setCell ⟨B, 3, none⟩ (v3)).cell? ⟨w.heap.size, 3, none⟩ = some (.int .i64 s) ∧ ((((W.setCell ⟨B, 0, none⟩ (v0)).setCell ⟨B, 1, none⟩ (v1)).setCell ⟨B, 2, none⟩ (v2)).setCell ⟨B, 3, none⟩ (v3)).cell? ⟨gw, k, none⟩ = some (.string X) ∧ Below wr.heap.size wr ((((W.setCell ⟨B, 0, none⟩ (v0)).setCell ⟨B, 1, none⟩ (v1)).setCell ⟨B, 2, none⟩ (v2)).setCell ⟨B, 3, none⟩ (v3)) := by
  obtain ⟨a0, a1, a2, a3, Bk, h⟩ := hS
  exact ⟨cell_far4 a0 (by omega), cell_far4 a1 (by omega), cell_far4 a2 (by omega), cell_far4 a3 (by omega), cell_far4 Bk (by omega), (((h.setCell (p := ⟨B, 0, none⟩) (by show _ ≤ B; omega) _).setCell (p := ⟨B, 1, none⟩) (by show _ ≤ B; omega) _).setCell (p := ⟨B, 2, none⟩) (by show _ ≤ B; omega) _).setCell (p := ⟨B, 3, none⟩) (by show _ ≤ B; omega) _⟩
set_option maxRecDepth 8000 in
set_option maxHeartbeats 4000000 in
theorem specSteps_any (p c h s : Int) (t : ByteArray) (w : World) (g : vB p c h s = true) (ht : t.size ≤ 1048576) :
    Calls Tryd.prog 30 #[.agg #[.int .i64 p, .int .i64 c, .int .i64 h, .int .i64 s], .string t] w (StepsGotB (rds p s t.data.toList) w) := by
  have BV := (Blk.new w #[.int .i64 p, .int .i64 c, .int .i64 h, .int .i64 s] 29).alloc (.cells #[] 38)
  have hb : Below w.heap.size w ((w.alloc (.cells #[.int .i64 p, .int .i64 c, .int .i64 h, .int .i64 s] 29)).alloc (.cells #[] 38)) := ((Below.refl _ _).alloc (Nat.le_refl _) _).alloc (by simp) _
  have hO0 := OwnT.start (w.alloc (.cells #[.int .i64 p, .int .i64 c, .int .i64 h, .int .i64 s] 29))
  have e1 : (w.alloc (.cells #[.int .i64 p, .int .i64 c, .int .i64 h, .int .i64 s] 29)).heap.size = w.heap.size + 1 := by simp
  rw [e1] at hO0
  have hB0 := Blk.new (w.alloc (.cells #[.int .i64 p, .int .i64 c, .int .i64 h, .int .i64 s] 29)) #[] 38
  rw [e1] at hB0
  have hl0 := hB0.lt
  unfold rds
  by_cases hd : t.data.toList = [45]
  · rw [if_pos hd]
    have qT : (t.toList == [45]) = true := by rw [beq_iff_eq, ByteArray.toList_eq]; exact hd
    clear hd
    go_enter Tryd.func30, Tryd.ntmps30
    go_wp2
    go_ret2
    exact ⟨some ⟨w.heap.size + 1, 0, none⟩, 0, rfl, .inr ⟨w.heap.size + 1, rfl, by omega, hl0, #[], hB0, by simp [stepsC], rfl⟩, hb⟩
  · rw [if_neg hd]
    have qT : (t.toList == [45]) = false := by rw [beq_eq_false_iff_ne, ByteArray.toList_eq]; exact hd
    have hcall := fun W => split_any t 32 W ht
    rw [show (32 : UInt8).toNat = 32 from rfl] at hcall
    have hsz := words_leN 32 t.data.toList
    have hne : 0 < (splitL 32 t.data.toList).length := List.length_pos_iff.2 (splitL_ne 32 t.data.toList)
    rw [← Lib.size_eq] at hsz
    generalize splitL 32 t.data.toList = WW at *
    have HC := Lib.hid hcall
    clear hcall hd
    by_cases hq : 4 < WW.length
    · rw [if_pos hq]
      have e4 : decide (4 < (WW.length : Int)) = true := by simp; omega
      have e4b : decide (4 < WW.length) = true := by simp; omega
      clear hq hsz g
      go_enter Tryd.func30, Tryd.ntmps30
      go_wp2_with (first | (go_at_call 52; refine (HC.out _).mono ?_; rintro e w1 ⟨sv, rfl, hown, hb1⟩; obtain ⟨gw, cap, rfl⟩ := Joins.ownsRow_form hown hne))
      go_ret2
      exact ⟨some ⟨w.heap.size + 1, 0, none⟩, 0, rfl, .inr ⟨w.heap.size + 1, rfl, by omega, Nat.lt_of_lt_of_le hl0 hb1.size, #[], hB0.below hb1, by simp [stepsC], rfl⟩, chain hb hb1⟩
    · rw [if_neg hq]
      have e4 : decide (4 < (WW.length : Int)) = false := by simp; omega
      have e4b : decide (4 < WW.length) = false := by simp; omega
      obtain ⟨R, hR⟩ : ∃ R, rdAll p s WW = R := ⟨_, rfl⟩
      rw [hR]
      have HR := Lib.hid hR
      have HZ := Lib.hid hsz
      obtain ⟨n, hn⟩ : ∃ n, WW.length = n := ⟨_, rfl⟩
      have HN := Lib.hid hn
      have hn5 : n ≤ 4 := by omega
      have hrs := fun (x : ByteArray) (hx : x.size ≤ 1048576) (W : World) => specRead_any p c h s x W g hx
      have HRS := Lib.hid hrs
      rw [hn] at e4 e4b
      clear hR hsz hq hrs g
      obtain ⟨x0, x1, x2, x3, xf, xl⟩ := BV.four
      go_enter Tryd.func30, Tryd.ntmps30
      go_wp2_with fail
      clear x0 x1 x2 x3 xf xl
      generalize (w.alloc (.cells #[.int .i64 p, .int .i64 c, .int .i64 h, .int .i64 s] 29)).alloc (.cells #[] 38) = ww0 at *
      refine (HC.out _).mono ?_
      rintro e v0 ⟨sv, rfl, hown, hb1⟩
      obtain ⟨gw, cap, rfl⟩ := Joins.ownsRow_form hown hne
      have hgB : ∃ cur, Blk v0 gw cur 9 := by
        rcases hown.2 with ⟨q, _⟩ | ⟨g', cap', cur, q1, _, q3, _⟩
        · simp at q
        · simp at q1
          exact ⟨cur, q1.1 ▸ q3⟩
      obtain ⟨cur, hgB⟩ := hgB
      have hcl : ∀ (j : Nat) x, WW[j]? = some x → v0.cell? ⟨gw, j, none⟩ = some (.string ⟨x.toArray⟩) := fun j x hj => by
        have hj2 := (List.getElem?_eq_some_iff.1 hj).1
        rw [hown.cellAt j (by omega)]
        unfold strVals
        rw [List.getElem?_map, hj]
        rfl
      have HCL := Lib.hid hcl
      replace BV := BV.below hb1
      replace hO0 := hO0.kept hb1
      replace hb := chain hb hb1
      have hl1 := hb1.size
      rw [hn]
      clear hown hb1 HC hcl hn hB0
      go_wp2_with fail
      go_loopg [6, 8] n (fun m q i wr => ∃ (k : Nat) (D : List Stp), k ≤ n ∧ m = n - k ∧ i = .int .i64 k ∧ rdAll p s (WW.take k) = some D ∧ OwnT wr (w.heap.size + 1) q D ∧ Below (w.heap.size + 1) v0 wr ∧ wr.heap[gw]? = v0.heap[gw]?)
      case atStart => exact ⟨0, [], by omega, by omega, rfl, rfl, hO0, Below.refl _ _, rfl⟩
      case round =>
        obtain ⟨k, D, hk, hm, rfl, hD, hO, hbel, hgs⟩ := hrel
        have BVr := BV.low hbel (by omega)
        obtain ⟨x0, x1, x2, x3, xf, xl⟩ := BVr.four
        have hszb := hbel.size
        have hw0 : w.heap.size < wr.heap.size := by omega
        have hgBr : Blk wr gw cur 9 := hgs.trans hgB
        have hgl := hgBr.lt
        by_cases hlt : k < n
        · have hlt' : (k : Int) < (n : Int) := by omega
          obtain ⟨xw, hxw⟩ : ∃ X, WW[k]? = some X := ⟨WW[k]'(by have := HN.out; omega), List.getElem?_eq_getElem (by have := HN.out; omega)⟩
          obtain ⟨X, hX, hXz⟩ : ∃ X : ByteArray, X = ⟨xw.toArray⟩ ∧ X.size ≤ 1048576 := ⟨_, rfl, by
            have := HZ.out xw (List.mem_of_getElem? hxw)
            rw [mk_size]
            omega⟩
          have hXd : X.data.toList = xw := by rw [hX]
          have c0 : wr.cell? ⟨gw, k, none⟩ = some (.string X) := by
            have h1 := HCL.out k xw hxw
            rw [← hX] at h1
            unfold World.cell? at h1 ⊢
            rw [hgs]
            exact h1
          have hr := fun W => HRS.out X hXz W
          have hXm := List.mem_of_getElem? hxw
          have hXt : WW.take (k + 1) = WW.take k ++ [xw] := by
            rw [List.take_add_one, hxw]
            rfl
          rw [hXd] at hr
          cases hq : rd p s xw with
          | none =>
            rw [hq] at hr
            have hr : ∀ W, Calls Tryd.prog 53 #[.agg #[.int .i64 p, .int .i64 c, .int .i64 h, .int .i64 s], .string X] W fun e w' => e = .returned (.tuple #[.agg #[.int .i64 0, .int .i64 0, .int .i64 0, .bool false], .bool false]) ∧ Below W.heap.size W w' := hr
            have HRX := Lib.hid hr
            have hRn := rdAll_fail p s _ _ hXm hq
            have HRN := Lib.hid hRn
            clear hr hq hRn hXm hXt hXz hX hD hXd hxw xf xl
            go_wp2_with fail
            obtain ⟨J, hJ⟩ : ∃ J : Act → Act → World → Prop, J = fun a a' w' => ∃ B, a' = (((((((((((a.put (some 28) (.agg #[.int .i64 p, .int .i64 c, .int .i64 h, .int .i64 s])).put (some 29) (.slice (some ⟨gw, 0, none⟩) n cap)).put (some 30) (.int .i64 (k : Int))).put (some 31) (.pointer (some ⟨gw, k, none⟩))).put (some 32) (.string X)).put (some 33) (.tuple #[.agg #[.int .i64 0, .int .i64 0, .int .i64 0, .bool false], .bool false])).put (some 27) (.tuple #[.agg #[.int .i64 0, .int .i64 0, .int .i64 0, .bool false], .bool false])).put (some 34) (.agg #[.int .i64 0, .int .i64 0, .int .i64 0, .bool false])).put (some 35) (.bool false)).put (some 9) (.pointer (some ⟨B, 0, none⟩))).put (some 10) (.bool false)) ∧ Blk w' B #[.int .i64 0, .int .i64 0, .int .i64 0, .bool false] 38 ∧ wr.heap.size ≤ B ∧ (w'.cell? ⟨w.heap.size, 0, none⟩ = some (.int .i64 p) ∧ w'.cell? ⟨w.heap.size, 1, none⟩ = some (.int .i64 c) ∧ w'.cell? ⟨w.heap.size, 2, none⟩ = some (.int .i64 h) ∧ w'.cell? ⟨w.heap.size, 3, none⟩ = some (.int .i64 s) ∧ w'.cell? ⟨gw, k, none⟩ = some (.string X) ∧ Below wr.heap.size wr w') := ⟨_, rfl⟩
            have HJ := Lib.hid hJ
            clear hJ
            refine wp_region_join J ?_ ?_
            · skip
              refine wp_region_held_drew (S := fun w' => w'.cell? ⟨w.heap.size, 0, none⟩ = some (.int .i64 p) ∧ w'.cell? ⟨w.heap.size, 1, none⟩ = some (.int .i64 c) ∧ w'.cell? ⟨w.heap.size, 2, none⟩ = some (.int .i64 h) ∧ w'.cell? ⟨w.heap.size, 3, none⟩ = some (.int .i64 s) ∧ w'.cell? ⟨gw, k, none⟩ = some (.string X) ∧ Below wr.heap.size wr w') (by kernel_rfl) ⟨x0, x1, x2, x3, c0, (Below.refl _ _).drew⟩ (fun hHeld => ?_)
              generalize wr.drew = vd at *
              have hprev := hHeld.2.2.2.2.2.size
              refine wpAnyH_take (i := 0) (oi := { dst := some 28, op := _, type := _, pos := _, after := _, guard := _ }) (v := ?_) rfl (by kernel_rfl) (by kernel_rfl) (by kernel_rfl) (fun _ _ _ h => absurd h.1 (by simp)) (Or.inl ⟨by rfl, ?_⟩) (by assumption) ?_
              rotate_left
              · intro w hSw
                (try dsimp only at hSw)
                go_simp
                (try (with_reducible rfl))
              try simp only [Act.put, List.setIfInBounds_toArray, List.set_cons_zero, List.set_cons_succ]
              refine wpAnyH_take (i := 1) (oi := { dst := some 29, op := _, type := _, pos := _, after := _, guard := _ }) (v := ?_) rfl (by kernel_rfl) (by kernel_rfl) (by kernel_rfl) (fun _ _ _ h => absurd h.1 (by simp)) (Or.inl ⟨by rfl, ?_⟩) (by assumption) ?_
              rotate_left
              · intro w hSw
                (try dsimp only at hSw)
                go_simp
                (try (with_reducible rfl))
              try simp only [Act.put, List.setIfInBounds_toArray, List.set_cons_zero, List.set_cons_succ]
              refine wpAnyH_take (i := 2) (oi := { dst := some 30, op := _, type := _, pos := _, after := _, guard := _ }) (v := ?_) rfl (by kernel_rfl) (by kernel_rfl) (by kernel_rfl) (fun _ _ _ h => absurd h.1 (by simp)) (Or.inl ⟨by rfl, ?_⟩) (by assumption) ?_
              rotate_left
              · intro w hSw
                (try dsimp only at hSw)
                go_simp
                (try (with_reducible rfl))
              try simp only [Act.put, List.setIfInBounds_toArray, List.set_cons_zero, List.set_cons_succ]
              refine wpAnyH_take (i := 3) (oi := { dst := some 31, op := _, type := _, pos := _, after := _, guard := _ }) (v := ?_) rfl (by kernel_rfl) (by kernel_rfl) (by kernel_rfl) (fun _ _ _ h => absurd h.1 (by simp)) (Or.inl ⟨by rfl, ?_⟩) (by assumption) ?_
              rotate_left
              · intro w hSw
                (try dsimp only at hSw)
                go_simp
                (try (with_reducible rfl))
              try simp only [Act.put, List.setIfInBounds_toArray, List.set_cons_zero, List.set_cons_succ]
              refine wpAnyH_take (i := 4) (oi := { dst := some 32, op := _, type := _, pos := _, after := _, guard := _ }) (v := ?_) rfl (by kernel_rfl) (by kernel_rfl) (by kernel_rfl) (fun _ _ _ h => absurd h.1 (by simp)) (Or.inl ⟨by rfl, ?_⟩) (by assumption) ?_
              rotate_left
              · intro w hSw
                (try dsimp only at hSw)
                go_simp
                (try (with_reducible rfl))
              try simp only [Act.put, List.setIfInBounds_toArray, List.set_cons_zero, List.set_cons_succ]
              refine wpAnyH_ready (rs := [5, 9]) (by kernel_rfl) (by simp) ?_
              refine AllReadyH.cons (o := { dst := some 33, op := _, type := _, pos := _, after := _, guard := _ }) rfl (fun K hK => ?_) (AllReadyH.cons (o := { dst := some 9, op := _, type := _, pos := _, after := _, guard := _ }) rfl (fun K hK => ?_) AllReadyH.nil)
              · go_simp
                refine (HRX.out _).mono ?_
                rintro e wA ⟨rfl, hbwA⟩
                have hprev := (heldSt hHeld hbwA).2.2.2.2.2.size
                (try go_wp2_with fail)
                refine hK.out _ _ (heldSt hHeld hbwA) (fun hHeld => ?_)
                clear hK K
                try simp only [Act.put, List.setIfInBounds_toArray, List.set_cons_zero, List.set_cons_succ]
                refine wpAnyH_take (i := 6) (oi := { dst := some 27, op := _, type := _, pos := _, after := _, guard := _ }) (v := ?_) rfl (by kernel_rfl) (by kernel_rfl) (by kernel_rfl) (fun _ _ _ h => absurd h.1 (by simp)) (Or.inl ⟨by rfl, ?_⟩) (by assumption) ?_
                rotate_left
                · intro w hSw
                  (try dsimp only at hSw)
                  go_simp
                  (try (with_reducible rfl))
                try simp only [Act.put, List.setIfInBounds_toArray, List.set_cons_zero, List.set_cons_succ]
                refine wpAnyH_take (i := 7) (oi := { dst := some 34, op := _, type := _, pos := _, after := _, guard := _ }) (v := ?_) rfl (by kernel_rfl) (by kernel_rfl) (by kernel_rfl) (fun _ _ _ h => absurd h.1 (by simp)) (Or.inl ⟨by rfl, ?_⟩) (by assumption) ?_
                rotate_left
                · intro w hSw
                  (try dsimp only at hSw)
                  go_simp
                  (try (with_reducible rfl))
                try simp only [Act.put, List.setIfInBounds_toArray, List.set_cons_zero, List.set_cons_succ]
                refine wpAnyH_take (i := 8) (oi := { dst := some 35, op := _, type := _, pos := _, after := _, guard := _ }) (v := ?_) rfl (by kernel_rfl) (by kernel_rfl) (by kernel_rfl) (fun _ _ _ h => absurd h.1 (by simp)) (Or.inl ⟨by rfl, ?_⟩) (by assumption) ?_
                rotate_left
                · intro w hSw
                  (try dsimp only at hSw)
                  go_simp
                  (try (with_reducible rfl))
                try simp only [Act.put, List.setIfInBounds_toArray, List.set_cons_zero, List.set_cons_succ]
                refine wpAnyH_ready (rs := [9]) (by kernel_rfl) (by simp) ?_
                refine AllReadyH.cons (o := { dst := some 9, op := _, type := _, pos := _, after := _, guard := _ }) rfl (fun K hK => ?_) AllReadyH.nil
                go_simp
                refine hK.out _ _ (heldSt hHeld ((Below.refl _ _).alloc (Nat.le_refl _) _)) (fun hHeld => ?_)
                clear hK K
                try simp only [Act.put, List.setIfInBounds_toArray, List.set_cons_zero, List.set_cons_succ]
                have BA := Blk.new wA #[.int .i64 0, .int .i64 0, .int .i64 0, .bool false] 38
                have hlt : wr.heap.size ≤ wA.heap.size := hprev
                generalize hBX : wA.heap.size = BX at *
                clear hBX
                generalize wA.alloc (.cells #[.int .i64 0, .int .i64 0, .int .i64 0, .bool false] 38) = wN at *
                refine wpAnyH_ready (rs := [10]) (by kernel_rfl) (by simp) ?_
                refine AllReadyH.cons (o := { dst := none, op := _, type := _, pos := _, after := _, guard := _ }) rfl (fun K hK => ?_) AllReadyH.nil
                obtain ⟨q0, q1, q2, q3, qf, ql⟩ := BA.four
                go_simp
                (try go_wp2_with fail)
                refine hK.out _ _ (storeSt hHeld hw0 hgl hlt) (fun hHeld => ?_)
                clear hK K
                try simp only [Act.put, List.setIfInBounds_toArray, List.set_cons_zero, List.set_cons_succ]
                refine wpAnyH_take (i := 11) (oi := { dst := some 10, op := _, type := _, pos := _, after := _, guard := _ }) (v := ?_) rfl (by kernel_rfl) (by kernel_rfl) (by kernel_rfl) (fun _ _ _ h => absurd h.1 (by simp)) (Or.inl ⟨by rfl, ?_⟩) (by assumption) ?_
                rotate_left
                · intro w hSw
                  (try dsimp only at hSw)
                  go_simp
                  (try (with_reducible rfl))
                try simp only [Act.put, List.setIfInBounds_toArray, List.set_cons_zero, List.set_cons_succ]
                refine wpAnyH_done (by kernel_rfl) ?_ _
                rw [HJ.out]
                refine ⟨rfl, _, ?_, BA.self4, hlt, hHeld⟩
                (first | (simp only [Act.put, List.setIfInBounds_toArray, List.set_cons_zero, List.set_cons_succ]; done) | rfl)
              · go_simp
                refine hK.out _ _ (heldSt hHeld ((Below.refl _ _).alloc (Nat.le_refl _) _)) (fun hHeld => ?_)
                clear hK K
                try simp only [Act.put, List.setIfInBounds_toArray, List.set_cons_zero, List.set_cons_succ]
                have BA := Blk.new vd #[.int .i64 0, .int .i64 0, .int .i64 0, .bool false] 38
                have hlt : wr.heap.size ≤ vd.heap.size := hprev
                generalize hBX : vd.heap.size = BX at *
                clear hBX
                generalize vd.alloc (.cells #[.int .i64 0, .int .i64 0, .int .i64 0, .bool false] 38) = wN at *
                refine wpAnyH_ready (rs := [5]) (by kernel_rfl) (by simp) ?_
                refine AllReadyH.cons (o := { dst := some 33, op := _, type := _, pos := _, after := _, guard := _ }) rfl (fun K hK => ?_) AllReadyH.nil
                go_simp
                refine (HRX.out _).mono ?_
                rintro e wA ⟨rfl, hbwA⟩
                replace BA := BA.below hbwA
                have hprev := (heldSt hHeld hbwA).2.2.2.2.2.size
                (try go_wp2_with fail)
                refine hK.out _ _ (heldSt hHeld hbwA) (fun hHeld => ?_)
                clear hK K
                try simp only [Act.put, List.setIfInBounds_toArray, List.set_cons_zero, List.set_cons_succ]
                refine wpAnyH_take (i := 6) (oi := { dst := some 27, op := _, type := _, pos := _, after := _, guard := _ }) (v := ?_) rfl (by kernel_rfl) (by kernel_rfl) (by kernel_rfl) (fun _ _ _ h => absurd h.1 (by simp)) (Or.inl ⟨by rfl, ?_⟩) (by assumption) ?_
                rotate_left
                · intro w hSw
                  (try dsimp only at hSw)
                  go_simp
                  (try (with_reducible rfl))
                try simp only [Act.put, List.setIfInBounds_toArray, List.set_cons_zero, List.set_cons_succ]
                refine wpAnyH_take (i := 7) (oi := { dst := some 34, op := _, type := _, pos := _, after := _, guard := _ }) (v := ?_) rfl (by kernel_rfl) (by kernel_rfl) (by kernel_rfl) (fun _ _ _ h => absurd h.1 (by simp)) (Or.inl ⟨by rfl, ?_⟩) (by assumption) ?_
                rotate_left
                · intro w hSw
                  (try dsimp only at hSw)
                  go_simp
                  (try (with_reducible rfl))
                try simp only [Act.put, List.setIfInBounds_toArray, List.set_cons_zero, List.set_cons_succ]
                refine wpAnyH_take (i := 8) (oi := { dst := some 35, op := _, type := _, pos := _, after := _, guard := _ }) (v := ?_) rfl (by kernel_rfl) (by kernel_rfl) (by kernel_rfl) (fun _ _ _ h => absurd h.1 (by simp)) (Or.inl ⟨by rfl, ?_⟩) (by assumption) ?_
                rotate_left
                · intro w hSw
                  (try dsimp only at hSw)
                  go_simp
                  (try (with_reducible rfl))
                try simp only [Act.put, List.setIfInBounds_toArray, List.set_cons_zero, List.set_cons_succ]
                refine wpAnyH_ready (rs := [10]) (by kernel_rfl) (by simp) ?_
                refine AllReadyH.cons (o := { dst := none, op := _, type := _, pos := _, after := _, guard := _ }) rfl (fun K hK => ?_) AllReadyH.nil
                obtain ⟨q0, q1, q2, q3, qf, ql⟩ := BA.four
                go_simp
                (try go_wp2_with fail)
                refine hK.out _ _ (storeSt hHeld hw0 hgl hlt) (fun hHeld => ?_)
                clear hK K
                try simp only [Act.put, List.setIfInBounds_toArray, List.set_cons_zero, List.set_cons_succ]
                refine wpAnyH_take (i := 11) (oi := { dst := some 10, op := _, type := _, pos := _, after := _, guard := _ }) (v := ?_) rfl (by kernel_rfl) (by kernel_rfl) (by kernel_rfl) (fun _ _ _ h => absurd h.1 (by simp)) (Or.inl ⟨by rfl, ?_⟩) (by assumption) ?_
                rotate_left
                · intro w hSw
                  (try dsimp only at hSw)
                  go_simp
                  (try (with_reducible rfl))
                try simp only [Act.put, List.setIfInBounds_toArray, List.set_cons_zero, List.set_cons_succ]
                refine wpAnyH_done (by kernel_rfl) ?_ _
                rw [HJ.out]
                refine ⟨rfl, _, ?_, BA.self4, hlt, hHeld⟩
                (first | (simp only [Act.put, List.setIfInBounds_toArray, List.set_cons_zero, List.set_cons_succ]; done) | rfl)
            · intro a' w6 hj
              rw [HJ.out] at hj
              obtain ⟨B, rfl, B6, hlB, y0, y1, y2, y3, y4, hb6⟩ := hj
              clear HJ HRX x0 x1 x2 x3
              try simp only [Act.put, List.setIfInBounds_toArray, List.set_cons_zero, List.set_cons_succ]
              obtain ⟨k0, k1, k2, k3, kf, kl⟩ := B6.four
              go_wp2
              go_ret2
              have hRe := HR.out
              rw [HRN.out] at hRe
              rw [← hRe]
              have hbw := hb6.size
              exact ⟨some ⟨w6.heap.size, 0, none⟩, 0, rfl, .inr ⟨w6.heap.size, rfl, by omega, by simp, #[], Blk.new w6 #[] 38, by simp [stepsC], rfl⟩, ((hb.trans (hbel.mono (by omega))).trans (hb6.mono (by omega))).alloc (by omega) _⟩
          | some x =>
            obtain ⟨F, TT, D_, H⟩ := x
            rw [hq] at hr
            have hr : ∀ W, Calls Tryd.prog 53 #[.agg #[.int .i64 p, .int .i64 c, .int .i64 h, .int .i64 s], .string X] W fun e w' => e = .returned (.tuple #[.agg #[.int .i64 F, .int .i64 TT, .int .i64 D_, .bool H], .bool true]) ∧ Below W.heap.size W w' := hr
            have HRX := Lib.hid hr
            have hD2 : rdAll p s (WW.take (k + 1)) = some (D ++ [(F, TT, D_, H)]) := by rw [hXt]; exact rdAll_snoc p s _ _ _ _ hD hq
            have HD2 := Lib.hid hD2
            have hDl : D.length ≤ 1048576 := by
              have := rdAll_len p s _ _ hD
              rw [List.length_take] at this
              omega
            clear hr hq hXm hXt hXz hX hD hD2 hXd hxw xf xl
            go_wp2_with fail
            obtain ⟨J, hJ⟩ : ∃ J : Act → Act → World → Prop, J = fun a a' w' => ∃ B, a' = (((((((((((a.put (some 28) (.agg #[.int .i64 p, .int .i64 c, .int .i64 h, .int .i64 s])).put (some 29) (.slice (some ⟨gw, 0, none⟩) n cap)).put (some 30) (.int .i64 (k : Int))).put (some 31) (.pointer (some ⟨gw, k, none⟩))).put (some 32) (.string X)).put (some 33) (.tuple #[.agg #[.int .i64 F, .int .i64 TT, .int .i64 D_, .bool H], .bool true])).put (some 27) (.tuple #[.agg #[.int .i64 F, .int .i64 TT, .int .i64 D_, .bool H], .bool true])).put (some 34) (.agg #[.int .i64 F, .int .i64 TT, .int .i64 D_, .bool H])).put (some 35) (.bool true)).put (some 9) (.pointer (some ⟨B, 0, none⟩))).put (some 10) (.bool true)) ∧ Blk w' B #[.int .i64 F, .int .i64 TT, .int .i64 D_, .bool H] 38 ∧ wr.heap.size ≤ B ∧ (w'.cell? ⟨w.heap.size, 0, none⟩ = some (.int .i64 p) ∧ w'.cell? ⟨w.heap.size, 1, none⟩ = some (.int .i64 c) ∧ w'.cell? ⟨w.heap.size, 2, none⟩ = some (.int .i64 h) ∧ w'.cell? ⟨w.heap.size, 3, none⟩ = some (.int .i64 s) ∧ w'.cell? ⟨gw, k, none⟩ = some (.string X) ∧ Below wr.heap.size wr w') := ⟨_, rfl⟩
            have HJ := Lib.hid hJ
            clear hJ
            refine wp_region_join J ?_ ?_
            · skip
              refine wp_region_held_drew (S := fun w' => w'.cell? ⟨w.heap.size, 0, none⟩ = some (.int .i64 p) ∧ w'.cell? ⟨w.heap.size, 1, none⟩ = some (.int .i64 c) ∧ w'.cell? ⟨w.heap.size, 2, none⟩ = some (.int .i64 h) ∧ w'.cell? ⟨w.heap.size, 3, none⟩ = some (.int .i64 s) ∧ w'.cell? ⟨gw, k, none⟩ = some (.string X) ∧ Below wr.heap.size wr w') (by kernel_rfl) ⟨x0, x1, x2, x3, c0, (Below.refl _ _).drew⟩ (fun hHeld => ?_)
              generalize wr.drew = vd at *
              have hprev := hHeld.2.2.2.2.2.size
              refine wpAnyH_take (i := 0) (oi := { dst := some 28, op := _, type := _, pos := _, after := _, guard := _ }) (v := ?_) rfl (by kernel_rfl) (by kernel_rfl) (by kernel_rfl) (fun _ _ _ h => absurd h.1 (by simp)) (Or.inl ⟨by rfl, ?_⟩) (by assumption) ?_
              rotate_left
              · intro w hSw
                (try dsimp only at hSw)
                go_simp
                (try (with_reducible rfl))
              try simp only [Act.put, List.setIfInBounds_toArray, List.set_cons_zero, List.set_cons_succ]
              refine wpAnyH_take (i := 1) (oi := { dst := some 29, op := _, type := _, pos := _, after := _, guard := _ }) (v := ?_) rfl (by kernel_rfl) (by kernel_rfl) (by kernel_rfl) (fun _ _ _ h => absurd h.1 (by simp)) (Or.inl ⟨by rfl, ?_⟩) (by assumption) ?_
              rotate_left
              · intro w hSw
                (try dsimp only at hSw)
                go_simp
                (try (with_reducible rfl))
              try simp only [Act.put, List.setIfInBounds_toArray, List.set_cons_zero, List.set_cons_succ]
              refine wpAnyH_take (i := 2) (oi := { dst := some 30, op := _, type := _, pos := _, after := _, guard := _ }) (v := ?_) rfl (by kernel_rfl) (by kernel_rfl) (by kernel_rfl) (fun _ _ _ h => absurd h.1 (by simp)) (Or.inl ⟨by rfl, ?_⟩) (by assumption) ?_
              rotate_left
              · intro w hSw
                (try dsimp only at hSw)
                go_simp
                (try (with_reducible rfl))
              try simp only [Act.put, List.setIfInBounds_toArray, List.set_cons_zero, List.set_cons_succ]
              refine wpAnyH_take (i := 3) (oi := { dst := some 31, op := _, type := _, pos := _, after := _, guard := _ }) (v := ?_) rfl (by kernel_rfl) (by kernel_rfl) (by kernel_rfl) (fun _ _ _ h => absurd h.1 (by simp)) (Or.inl ⟨by rfl, ?_⟩) (by assumption) ?_
              rotate_left
              · intro w hSw
                (try dsimp only at hSw)
                go_simp
                (try (with_reducible rfl))
              try simp only [Act.put, List.setIfInBounds_toArray, List.set_cons_zero, List.set_cons_succ]
              refine wpAnyH_take (i := 4) (oi := { dst := some 32, op := _, type := _, pos := _, after := _, guard := _ }) (v := ?_) rfl (by kernel_rfl) (by kernel_rfl) (by kernel_rfl) (fun _ _ _ h => absurd h.1 (by simp)) (Or.inl ⟨by rfl, ?_⟩) (by assumption) ?_
              rotate_left
              · intro w hSw
                (try dsimp only at hSw)
                go_simp
                (try (with_reducible rfl))
              try simp only [Act.put, List.setIfInBounds_toArray, List.set_cons_zero, List.set_cons_succ]
              refine wpAnyH_ready (rs := [5, 9]) (by kernel_rfl) (by simp) ?_
              refine AllReadyH.cons (o := { dst := some 33, op := _, type := _, pos := _, after := _, guard := _ }) rfl (fun K hK => ?_) (AllReadyH.cons (o := { dst := some 9, op := _, type := _, pos := _, after := _, guard := _ }) rfl (fun K hK => ?_) AllReadyH.nil)
              · go_simp
                refine (HRX.out _).mono ?_
                rintro e wA ⟨rfl, hbwA⟩
                have hprev := (heldSt hHeld hbwA).2.2.2.2.2.size
                (try go_wp2_with fail)
                refine hK.out _ _ (heldSt hHeld hbwA) (fun hHeld => ?_)
                clear hK K
                try simp only [Act.put, List.setIfInBounds_toArray, List.set_cons_zero, List.set_cons_succ]
                refine wpAnyH_take (i := 6) (oi := { dst := some 27, op := _, type := _, pos := _, after := _, guard := _ }) (v := ?_) rfl (by kernel_rfl) (by kernel_rfl) (by kernel_rfl) (fun _ _ _ h => absurd h.1 (by simp)) (Or.inl ⟨by rfl, ?_⟩) (by assumption) ?_
                rotate_left
                · intro w hSw
                  (try dsimp only at hSw)
                  go_simp
                  (try (with_reducible rfl))
                try simp only [Act.put, List.setIfInBounds_toArray, List.set_cons_zero, List.set_cons_succ]
                refine wpAnyH_take (i := 7) (oi := { dst := some 34, op := _, type := _, pos := _, after := _, guard := _ }) (v := ?_) rfl (by kernel_rfl) (by kernel_rfl) (by kernel_rfl) (fun _ _ _ h => absurd h.1 (by simp)) (Or.inl ⟨by rfl, ?_⟩) (by assumption) ?_
                rotate_left
                · intro w hSw
                  (try dsimp only at hSw)
                  go_simp
                  (try (with_reducible rfl))
                try simp only [Act.put, List.setIfInBounds_toArray, List.set_cons_zero, List.set_cons_succ]
                refine wpAnyH_take (i := 8) (oi := { dst := some 35, op := _, type := _, pos := _, after := _, guard := _ }) (v := ?_) rfl (by kernel_rfl) (by kernel_rfl) (by kernel_rfl) (fun _ _ _ h => absurd h.1 (by simp)) (Or.inl ⟨by rfl, ?_⟩) (by assumption) ?_
                rotate_left
                · intro w hSw
                  (try dsimp only at hSw)
                  go_simp
                  (try (with_reducible rfl))
                try simp only [Act.put, List.setIfInBounds_toArray, List.set_cons_zero, List.set_cons_succ]
                refine wpAnyH_ready (rs := [9]) (by kernel_rfl) (by simp) ?_
                refine AllReadyH.cons (o := { dst := some 9, op := _, type := _, pos := _, after := _, guard := _ }) rfl (fun K hK => ?_) AllReadyH.nil
                go_simp
                refine hK.out _ _ (heldSt hHeld ((Below.refl _ _).alloc (Nat.le_refl _) _)) (fun hHeld => ?_)
                clear hK K
                try simp only [Act.put, List.setIfInBounds_toArray, List.set_cons_zero, List.set_cons_succ]
                have BA := Blk.new wA #[.int .i64 0, .int .i64 0, .int .i64 0, .bool false] 38
                have hlt : wr.heap.size ≤ wA.heap.size := hprev
                generalize hBX : wA.heap.size = BX at *
                clear hBX
                generalize wA.alloc (.cells #[.int .i64 0, .int .i64 0, .int .i64 0, .bool false] 38) = wN at *
                refine wpAnyH_ready (rs := [10]) (by kernel_rfl) (by simp) ?_
                refine AllReadyH.cons (o := { dst := none, op := _, type := _, pos := _, after := _, guard := _ }) rfl (fun K hK => ?_) AllReadyH.nil
                obtain ⟨q0, q1, q2, q3, qf, ql⟩ := BA.four
                go_simp
                (try go_wp2_with fail)
                refine hK.out _ _ (storeSt hHeld hw0 hgl hlt) (fun hHeld => ?_)
                clear hK K
                try simp only [Act.put, List.setIfInBounds_toArray, List.set_cons_zero, List.set_cons_succ]
                refine wpAnyH_take (i := 11) (oi := { dst := some 10, op := _, type := _, pos := _, after := _, guard := _ }) (v := ?_) rfl (by kernel_rfl) (by kernel_rfl) (by kernel_rfl) (fun _ _ _ h => absurd h.1 (by simp)) (Or.inl ⟨by rfl, ?_⟩) (by assumption) ?_
                rotate_left
                · intro w hSw
                  (try dsimp only at hSw)
                  go_simp
                  (try (with_reducible rfl))
                try simp only [Act.put, List.setIfInBounds_toArray, List.set_cons_zero, List.set_cons_succ]
                refine wpAnyH_done (by kernel_rfl) ?_ _
                rw [HJ.out]
                refine ⟨rfl, _, ?_, BA.self4, hlt, hHeld⟩
                (first | (simp only [Act.put, List.setIfInBounds_toArray, List.set_cons_zero, List.set_cons_succ]; done) | rfl)
              · go_simp
                refine hK.out _ _ (heldSt hHeld ((Below.refl _ _).alloc (Nat.le_refl _) _)) (fun hHeld => ?_)
                clear hK K
                try simp only [Act.put, List.setIfInBounds_toArray, List.set_cons_zero, List.set_cons_succ]
                have BA := Blk.new vd #[.int .i64 0, .int .i64 0, .int .i64 0, .bool false] 38
                have hlt : wr.heap.size ≤ vd.heap.size := hprev
                generalize hBX : vd.heap.size = BX at *
                clear hBX
                generalize vd.alloc (.cells #[.int .i64 0, .int .i64 0, .int .i64 0, .bool false] 38) = wN at *
                refine wpAnyH_ready (rs := [5]) (by kernel_rfl) (by simp) ?_
                refine AllReadyH.cons (o := { dst := some 33, op := _, type := _, pos := _, after := _, guard := _ }) rfl (fun K hK => ?_) AllReadyH.nil
                go_simp
                refine (HRX.out _).mono ?_
                rintro e wA ⟨rfl, hbwA⟩
                replace BA := BA.below hbwA
                have hprev := (heldSt hHeld hbwA).2.2.2.2.2.size
                (try go_wp2_with fail)
                refine hK.out _ _ (heldSt hHeld hbwA) (fun hHeld => ?_)
                clear hK K
                try simp only [Act.put, List.setIfInBounds_toArray, List.set_cons_zero, List.set_cons_succ]
                refine wpAnyH_take (i := 6) (oi := { dst := some 27, op := _, type := _, pos := _, after := _, guard := _ }) (v := ?_) rfl (by kernel_rfl) (by kernel_rfl) (by kernel_rfl) (fun _ _ _ h => absurd h.1 (by simp)) (Or.inl ⟨by rfl, ?_⟩) (by assumption) ?_
                rotate_left
                · intro w hSw
                  (try dsimp only at hSw)
                  go_simp
                  (try (with_reducible rfl))
                try simp only [Act.put, List.setIfInBounds_toArray, List.set_cons_zero, List.set_cons_succ]
                refine wpAnyH_take (i := 7) (oi := { dst := some 34, op := _, type := _, pos := _, after := _, guard := _ }) (v := ?_) rfl (by kernel_rfl) (by kernel_rfl) (by kernel_rfl) (fun _ _ _ h => absurd h.1 (by simp)) (Or.inl ⟨by rfl, ?_⟩) (by assumption) ?_
                rotate_left
                · intro w hSw
                  (try dsimp only at hSw)
                  go_simp
                  (try (with_reducible rfl))
                try simp only [Act.put, List.setIfInBounds_toArray, List.set_cons_zero, List.set_cons_succ]
                refine wpAnyH_take (i := 8) (oi := { dst := some 35, op := _, type := _, pos := _, after := _, guard := _ }) (v := ?_) rfl (by kernel_rfl) (by kernel_rfl) (by kernel_rfl) (fun _ _ _ h => absurd h.1 (by simp)) (Or.inl ⟨by rfl, ?_⟩) (by assumption) ?_
                rotate_left
                · intro w hSw
                  (try dsimp only at hSw)
                  go_simp
                  (try (with_reducible rfl))
                try simp only [Act.put, List.setIfInBounds_toArray, List.set_cons_zero, List.set_cons_succ]
                refine wpAnyH_ready (rs := [10]) (by kernel_rfl) (by simp) ?_
                refine AllReadyH.cons (o := { dst := none, op := _, type := _, pos := _, after := _, guard := _ }) rfl (fun K hK => ?_) AllReadyH.nil
                obtain ⟨q0, q1, q2, q3, qf, ql⟩ := BA.four
                go_simp
                (try go_wp2_with fail)
                refine hK.out _ _ (storeSt hHeld hw0 hgl hlt) (fun hHeld => ?_)
                clear hK K
                try simp only [Act.put, List.setIfInBounds_toArray, List.set_cons_zero, List.set_cons_succ]
                refine wpAnyH_take (i := 11) (oi := { dst := some 10, op := _, type := _, pos := _, after := _, guard := _ }) (v := ?_) rfl (by kernel_rfl) (by kernel_rfl) (by kernel_rfl) (fun _ _ _ h => absurd h.1 (by simp)) (Or.inl ⟨by rfl, ?_⟩) (by assumption) ?_
                rotate_left
                · intro w hSw
                  (try dsimp only at hSw)
                  go_simp
                  (try (with_reducible rfl))
                try simp only [Act.put, List.setIfInBounds_toArray, List.set_cons_zero, List.set_cons_succ]
                refine wpAnyH_done (by kernel_rfl) ?_ _
                rw [HJ.out]
                refine ⟨rfl, _, ?_, BA.self4, hlt, hHeld⟩
                (first | (simp only [Act.put, List.setIfInBounds_toArray, List.set_cons_zero, List.set_cons_succ]; done) | rfl)
            · intro a' w6 hj
              rw [HJ.out] at hj
              obtain ⟨B, rfl, B6, hlB, y0, y1, y2, y3, y4, hb6⟩ := hj
              clear HJ HRX x0 x1 x2 x3
              try simp only [Act.put, List.setIfInBounds_toArray, List.set_cons_zero, List.set_cons_succ]
              obtain ⟨k0, k1, k2, k3, kf, kl⟩ := B6.four
              have hO6 := hO.kept hb6
              have hne6 := hO6.neStr (hgBr.below hb6)
              go_wp2_with (first | (at_builtin; refine wp_pushT3 rfl _ _ rfl (w.heap.size + 1) _ D rfl hO6 (F, TT, D_, H) rfl rfl hDl (Nat.le_trans (by omega) hb6.size) ?_; intro v2 w8 hO2 hb8 hk8))
              go_roundg (n - (k + 1))
              case measure => omega
              case rel => exact ⟨k + 1, D ++ [(F, TT, D_, H)], by omega, rfl, by go_num, HD2.out, hO2, (hbel.trans (hb6.mono (by omega))).trans hb8, ((hk8 gw (Nat.lt_of_lt_of_le hgl hb6.size) hne6).trans (hb6.block gw hgl)).trans hgs⟩
        · obtain rfl : k = n := by omega
          rw [List.take_of_length_le (by rw [HN.out]; omega)] at hD
          have hRe := HR.out
          rw [hD] at hRe
          obtain ⟨a0, k0, rfl⟩ := hO.form
          have hos := hO.ost
          have HRe := Lib.hid hRe
          clear hRe hD HR HRS HZ HCL
          go_wp2
          go_ret2
          rw [← HRe.out]
          exact ⟨a0, k0, rfl, hos.mono (by omega) (Nat.le_refl _), hb.trans (hbel.mono (by omega))⟩
end Go.Proofs.YthfhiggageejbaaDoor
