/- Contracts of chapter 3: runs of ones, groups of bits, groups joined. -/
import Derived.Test.YtkddeoifdecniaaOwnS
import Derived.Test.YtkddeoifdecniaaShelf
import Derived.Deep.RegionLaw
import Derived.Laws.CopyOwn
import Derived.IntWalk
import Derived.Deep.RegionHeld3
namespace Go.Proofs.Ytkddeoifdecniaa
open Go.ChangeShapes Go.WideShapes Go.ChangeAt Go.RowKit
set_option linter.unusedVariables false
set_option linter.unusedSimpArgs false

def grpL (n : Nat) : List Int := List.replicate n 1 ++ [0]
theorem grpL_length (n : Nat) : (grpL n).length = n + 1 := by simp [grpL]
/-- The bits of a list of counts. -/
def bitsL (xs : List Int) : List Int := (xs.map fun x => grpL x.toNat).flatten
theorem ints_one {xs : List Int} : ∀ v ∈ ints xs, v.oneCell' = true := fun v hv => by
  simp [ints] at hv
  obtain ⟨y, _, rfl⟩ := hv
  rfl
/-- Several numbers appended: 'out = append(out, list...)'. -/
theorem wp_pushAll {ops : Array Oper} {rest : List Oper} {o : Oper} {a : Act} {Q : Exit → Act → World → Prop} (hgd : o.guard = none) (s x : Operand)
    (ho : o.op = .call { callee := .builtin .append, args := #[s, x], argTypes := #[26, 26] })
    (base : Nat) (v : Value) (D : List Int) (hs : a.eval s = v) {w0 : World} (hown : Own w0 base v D) (g : Nat) (ys : List Int) (m cap : Nat)
    (hx : a.eval x = .slice (some ⟨g, 0, none⟩) m cap) (hm : ys.length = m) (hr : Row w0 g ys) (hl : D.length + m ≤ 1048576) (hbase : base ≤ w0.heap.size)
    (h : ∀ v' w', Own w' base v' (D ++ ys) → Below base w0 w' → wpList Try.prog ops Q rest (a.put o.dst v') w') : wpList Try.prog ops Q (o :: rest) a w0 := by
  obtain ⟨i0, hi, hz0, hz1, hz2⟩ := info_parts infoI64
  subst hm
  refine wpList_append_own _ hgd s x 26 ho base 2 i0 (.int .i64 0) 1 8 Try.underlying26 hi hz0 hz1 hz2 rfl (by decide) v D.length (ints D) hs hown ⟨g, 0, none⟩ ys.length cap (ints ys) hx (by simp [ints]) ?_ ?_ (by unfold maxLen; omega) (by omega) hbase ?_
  · intro j u hj
    obtain ⟨hlt, rfl⟩ := List.getElem?_eq_some_iff.1 hj
    have hlt2 : j < ys.length := by simpa [ints] using hlt
    rw [show (⟨g, 0, none⟩ : Addr).add j = ⟨g, j, none⟩ from by unfold Addr.add; split <;> simp_all, hr.cell j hlt2]
    simp [ints, hlt2]
  · intro u hu
    simp [ints] at hu
    obtain ⟨y, _, rfl⟩ := hu
    rfl
  · intro v' w' hown' hgrow _
    refine h v' w' ?_ ((Below.refl base w0).grown hgrow hbase (fun k hk => (World.ownsRow.lt hown k hk).1))
    show w'.ownsRow base 2 1 _ (D ++ ys).length (ints (D ++ ys))
    rw [show (D ++ ys).length = D.length + ys.length by simp, show ints (D ++ ys) = ints D ++ ints ys by simp [ints]]
    exact hown'
theorem mul_one_any (m : Nat) (w : World) (hm : m ≤ 1048576) :
    Calls Try.prog 116 #[.int .u64 1, .int .u64 m] w fun e w' => e = .returned (.tuple #[.int .u64 0, .int .u64 m]) ∧ w = w' :=
  (Try.bits_Mul 1 m (by omega) (by omega) w).mono fun e w' h => by
    obtain ⟨rfl, rfl⟩ := h
    rw [Nat.one_mul, Nat.mod_eq_of_lt (by omega), Nat.div_eq_of_lt (by omega)]
    exact ⟨rfl, rfl⟩
set_option maxRecDepth 10000 in
theorem repeat_any (b m : Nat) (x : Int) (w : World) (hm : m ≤ 1048576) (hc : w.cell? ⟨b, 0, none⟩ = some (.int .i64 x)) :
    Calls Try.prog 113 #[.slice (some ⟨b, 0, none⟩) 1 1, .int .i64 m] w fun e w' => ∃ g, e = .returned (.slice (some ⟨g, 0, none⟩) m m) ∧ Own w' w.heap.size (.slice (some ⟨g, 0, none⟩) m m) (List.replicate m x) ∧ Below w.heap.size w w' := by
  have hmk := run_make_row' (P := Try.prog) 26 2 (.int .i64 0) 8 Try.underlying26 infoI64 rfl .i64 .i64 m (by omega) (by omega)
  have hm0 : (m : Int) ≤ 1048576 := by omega
  have HM := Lib.hid (fun W => mul_one_any m W hm)
  have hsz : (Try.prog.info? 2).map (·.size) = some 1 := by kernel_rfl
  have HC := Lib.hid hc
  have hb0 : Below w.heap.size w (w.alloc (.cells (madeCells #[.int .i64 0] m) 2)) := (Below.refl _ _).alloc (Nat.le_refl _) _
  have hbl := World.block_lt_of_cell? w _ hc
  have hB0 : (w.alloc (.cells (madeCells #[.int .i64 0] m) 2)).heap[w.heap.size]? = some (.cells (ints (List.replicate m 0)).toArray 2 (0, 0)) := by
    rw [show madeCells #[.int .i64 0] m = (ints (List.replicate m 0)).toArray by
      apply Array.toList_inj.1
      rw [toList_madeCells_one]
      simp [ints]]
    exact Blk.new w _ _
  have HB := Lib.hid hB0
  have hcs : ∀ (j : Nat) (v : Value), (ints (List.replicate (min 1 m) x))[j]? = some v → (w.alloc (.cells (madeCells #[.int .i64 0] m) 2)).cell? ((⟨b, 0, none⟩ : Addr).add j) = some v := by
    intro j v hj
    obtain ⟨hlt, rfl⟩ := List.getElem?_eq_some_iff.1 hj
    obtain rfl : j = 0 := by simp [ints] at hlt; omega
    rw [show (⟨b, 0, none⟩ : Addr).add 0 = ⟨b, 0, none⟩ from rfl, hb0.cell (p := ⟨b, 0, none⟩) hbl, HC.out]
    simp [ints]
  have HCS := Lib.hid hcs
  have hl1 : (ints (List.replicate (min 1 m) x)).length = Nat.min 1 m := by simp [ints]
  have HL1 := Lib.hid hl1
  have hl2 : 0 + (ints (List.replicate (min 1 m) x)).length ≤ (ints (List.replicate m 0)).length := by simp [ints]; omega
  have HL2 := Lib.hid hl2
  clear hc hB0 hcs hl1 hl2
  go_enter Try.func113, Try.ntmps113
  go_wp2_with fail
  refine (HM.out _).mono ?_
  rintro e w1 ⟨rfl, rfl⟩
  clear HM
  go_wp2_with (with_reducible refine wpList_copy_splice rfl (.tmp 31) (.tmp 32) 26 26 rfl 2 Try.underlying26 hsz (some ⟨w.heap.size, 0, none⟩) (some ⟨b, 0, none⟩) m m 1 1 rfl rfl w.heap.size 0 (ints (List.replicate m 0)) 2 HB.out (ints (List.replicate (min 1 m) x)) HL1.out (fun _ => ⟨rfl, _, rfl, HCS.out⟩) HL2.out ints_one w.heap.size w hb0 (Nat.le_refl _) ?_; intro w2 hg2 hb2)
  clear HC HCS HB HL2 hb0 hbl
  have hst : splice (ints (List.replicate m 0)) 0 (ints (List.replicate (min 1 m) x)) = ints (List.replicate (min 1 m) x ++ List.replicate (m - min 1 m) 0) := by
    simp [splice, ints]
  rw [hst] at hg2
  have HL3 := Lib.hid (show ((ints (List.replicate (min 1 m) x)).length : Int) = ((min 1 m : Nat) : Int) by simp [ints])
  clear hst HL1
  go_loopg [8] (m - min 1 m) (fun r q wr => ∃ k : Nat, k ≤ m ∧ r = m - k ∧ (0 < k ∨ m = 0) ∧ q = .int .i64 k ∧ Hid (wr.heap[w.heap.size]? = some (.cells (ints (List.replicate k x ++ List.replicate (m - k) 0)).toArray 2 (0, 0))) ∧ Below w.heap.size w wr)
  case atStart => exact ⟨min 1 m, by omega, by omega, by omega, by rw [HL3.out], hg2, hb2⟩
  case round =>
    clear HL3 hg2 hb2
    obtain ⟨k, hk, hr, hpos, rfl, hg, hbel⟩ := hrel
    by_cases hlt : k < m
    · have hlt' : (k : Int) < (m : Int) := by omega
      have hk0 : (0 : Int) ≤ (k : Int) := by omega
      have hl1 : (ints (List.replicate (min k (m - k)) x)).length = Nat.min k (m - k) := by simp [ints]
      have HL1 := Lib.hid hl1
      have hl2 : k + (ints (List.replicate (min k (m - k)) x)).length ≤ (ints (List.replicate k x ++ List.replicate (m - k) 0)).length := by simp [ints]; omega
      have HL2 := Lib.hid hl2
      have hcs : ∀ (j : Nat) (v : Value), (ints (List.replicate (min k (m - k)) x))[j]? = some v → wr.drew.cell? ((⟨w.heap.size, 0, none⟩ : Addr).add j) = some v := by
        intro j v hj
        obtain ⟨hj2, rfl⟩ := List.getElem?_eq_some_iff.1 hj
        have hj3 : j < min k (m - k) := by simpa [ints] using hj2
        rw [show (⟨w.heap.size, 0, none⟩ : Addr).add j = ⟨w.heap.size, j, none⟩ from by unfold Addr.add; split <;> simp_all]
        have hB : Blk wr.drew w.heap.size (ints (List.replicate k x ++ List.replicate (m - k) 0)).toArray 2 := hg.out
        rw [hB.cell j]
        simp [ints, List.getElem?_append_left, show j < k by omega]
      have HCS := Lib.hid hcs
      have hgd : wr.drew.heap[w.heap.size]? = some (.cells (ints (List.replicate k x ++ List.replicate (m - k) 0)).toArray 2 (0, 0)) := hg.out
      have HGD := Lib.hid hgd
      have hbd := hbel.drew
      clear hgd
      have HR := Lib.hid hr
      clear hl1 hl2 hcs hr
      go_wp2_with fail
      refine wp_region_held_drew (S := fun w' => True) (by kernel_rfl) trivial (fun hHeld => ?_)
      refine wpAnyH_take (i := 0) (oi := { dst := some 38, op := _, type := _, pos := _, after := _, guard := _ }) (v := ?_) rfl (by kernel_rfl) (by kernel_rfl) (by kernel_rfl) (fun _ _ _ h => h) (Or.inl ⟨by rfl, ?_⟩) (by assumption) ?_
      rotate_left
      · intro w hSw
        (try dsimp only at hSw)
        go_simp
        (try (with_reducible rfl))
      try simp only [Act.put, List.setIfInBounds_toArray, List.set_cons_zero, List.set_cons_succ]
      refine wpAnyH_take (i := 1) (oi := { dst := some 39, op := _, type := _, pos := _, after := _, guard := _ }) (v := ?_) rfl (by kernel_rfl) (by kernel_rfl) (by kernel_rfl) (fun _ _ _ h => h) (Or.inl ⟨by rfl, ?_⟩) (by assumption) ?_
      rotate_left
      · intro w hSw
        (try dsimp only at hSw)
        go_simp
        (try (with_reducible rfl))
      try simp only [Act.put, List.setIfInBounds_toArray, List.set_cons_zero, List.set_cons_succ]
      refine wpAnyH_take (i := 2) (oi := { dst := some 40, op := _, type := _, pos := _, after := _, guard := _ }) (v := ?_) rfl (by kernel_rfl) (by kernel_rfl) (by kernel_rfl) (fun _ _ _ h => h) (Or.inl ⟨by rfl, ?_⟩) (by assumption) ?_
      rotate_left
      · intro w hSw
        (try dsimp only at hSw)
        go_simp
        (try (with_reducible rfl))
      try simp only [Act.put, List.setIfInBounds_toArray, List.set_cons_zero, List.set_cons_succ]
      refine wpAnyH_take (i := 3) (oi := { dst := some 41, op := _, type := _, pos := _, after := _, guard := _ }) (v := ?_) rfl (by kernel_rfl) (by kernel_rfl) (by kernel_rfl) (fun _ _ _ h => h) (Or.inl ⟨by rfl, ?_⟩) (by assumption) ?_
      rotate_left
      · intro w hSw
        (try dsimp only at hSw)
        go_simp
        (try (with_reducible rfl))
      try simp only [Act.put, List.setIfInBounds_toArray, List.set_cons_zero, List.set_cons_succ]
      refine wpAnyH_take (i := 4) (oi := { dst := some 42, op := _, type := _, pos := _, after := _, guard := _ }) (v := ?_) rfl (by kernel_rfl) (by kernel_rfl) (by kernel_rfl) (fun _ _ _ h => h) (Or.inl ⟨by rfl, ?_⟩) (by assumption) ?_
      rotate_left
      · intro w hSw
        (try dsimp only at hSw)
        go_simp
        (try (with_reducible rfl))
      try simp only [Act.put, List.setIfInBounds_toArray, List.set_cons_zero, List.set_cons_succ]
      refine wpAnyH_take (i := 5) (oi := { dst := some 43, op := _, type := _, pos := _, after := _, guard := _ }) (v := ?_) rfl (by kernel_rfl) (by kernel_rfl) (by kernel_rfl) (fun _ _ _ h => h) (Or.inl ⟨by rfl, ?_⟩) (by assumption) ?_
      rotate_left
      · intro w hSw
        (try dsimp only at hSw)
        go_simp
        (try (with_reducible rfl))
      try simp only [Act.put, List.setIfInBounds_toArray, List.set_cons_zero, List.set_cons_succ]
      refine wpAnyH_take (i := 6) (oi := { dst := some 44, op := _, type := _, pos := _, after := _, guard := _ }) (v := ?_) rfl (by kernel_rfl) (by kernel_rfl) (by kernel_rfl) (fun _ _ _ h => h) (Or.inl ⟨by rfl, ?_⟩) (by assumption) ?_
      rotate_left
      · intro w hSw
        (try dsimp only at hSw)
        go_simp
        (try (with_reducible rfl))
      try simp only [Act.put, List.setIfInBounds_toArray, List.set_cons_zero, List.set_cons_succ]
      refine wpAnyH_ready (rs := [7]) (by kernel_rfl) (by simp) ?_
      refine AllReadyH.cons (o := { dst := some 45, op := _, type := _, pos := _, after := _, guard := _ }) rfl (fun K hK => ?_) AllReadyH.nil
      refine step_copy_splice rfl (.tmp 41) (.tmp 44) 26 26 rfl 2 Try.underlying26 hsz (if m = k then some ⟨w.heap.size, 0, none⟩ else some ⟨w.heap.size, k, none⟩) (some ⟨w.heap.size, 0, none⟩) (m - k) (m - k) k m rfl rfl w.heap.size k (ints (List.replicate k x ++ List.replicate (m - k) 0)) 2 HGD.out (ints (List.replicate (min k (m - k)) x)) HL1.out (fun _ => ⟨if_neg (by omega), _, rfl, HCS.out⟩) HL2.out ints_one w.heap.size w hbd (Nat.le_refl _) ?_
      intro w3 hg3 hb3
      refine hK.out _ _ trivial (fun hHeld => ?_)
      clear hK K
      try simp only [Act.put, List.setIfInBounds_toArray, List.set_cons_zero, List.set_cons_succ]
      refine wpAnyH_take (i := 8) (oi := { dst := some 46, op := _, type := _, pos := _, after := _, guard := _ }) (v := ?_) rfl (by kernel_rfl) (by kernel_rfl) (by kernel_rfl) (fun _ _ _ h => h) (Or.inl ⟨by rfl, ?_⟩) (by assumption) ?_
      rotate_left
      · intro w hSw
        (try dsimp only at hSw)
        go_simp
        (try (with_reducible rfl))
      try simp only [Act.put, List.setIfInBounds_toArray, List.set_cons_zero, List.set_cons_succ]
      refine wpAnyH_take (i := 9) (oi := { dst := some 8, op := _, type := _, pos := _, after := _, guard := _ }) (v := ?_) rfl (by kernel_rfl) (by kernel_rfl) (by kernel_rfl) (fun _ _ _ h => h) (Or.inl ⟨by rfl, ?_⟩) (by assumption) ?_
      rotate_left
      · intro w hSw
        (try dsimp only at hSw)
        go_simp
        (try (with_reducible rfl))
      try simp only [Act.put, List.setIfInBounds_toArray, List.set_cons_zero, List.set_cons_succ]
      refine wpAnyH_done (by kernel_rfl) ?_ _
      have hst : splice (ints (List.replicate k x ++ List.replicate (m - k) 0)) k (ints (List.replicate (min k (m - k)) x)) = ints (List.replicate (k + min k (m - k)) x ++ List.replicate (m - (k + min k (m - k))) 0) := by
        have e1 : (ints (List.replicate k x)).length = k := by simp [ints]
        have e2 : ints (List.replicate k x ++ List.replicate (m - k) 0) = ints (List.replicate k x) ++ ints (List.replicate (m - k) 0) := by simp [ints]
        rw [e2, splice, List.take_append_of_le_length (by omega), List.take_of_length_le (by omega), HL1.out, List.drop_append, e1]
        rw [show Nat.min k (m - k) = min k (m - k) from rfl, List.drop_eq_nil_of_le (by omega), List.nil_append]
        simp only [ints, List.map_append, List.map_replicate, List.drop_replicate, ← List.replicate_append_replicate, List.append_assoc]
        congr 3
        omega
      rw [hst] at hg3
      have wz : IntKind.i64.wrap ((k : Int) + ((ints (List.replicate (min k (m - k)) x)).length : Int)) = ((k + min k (m - k) : Nat) : Int) := by
        rw [HL1.out, show Nat.min k (m - k) = min k (m - k) from rfl, IntWalk.i64_in _ (by omega)]
        omega
      have WZ := Lib.hid wz
      clear wz hst hbd
      go_wp2_with fail
      go_roundg (m - (k + min k (m - k)))
      case measure => have := HR.out; omega
      case rel => exact ⟨k + min k (m - k), by omega, rfl, by omega, by rw [← WZ.out], hg3, hb3⟩
    · obtain rfl : k = m := by omega
      have hlt' : ¬ (k : Int) < (k : Int) := by omega
      go_wp2
      go_ret
      rw [Nat.sub_self, List.replicate_zero, List.append_nil] at hg
      refine ⟨w.heap.size, rfl, ⟨by simp [ints], .inr ⟨w.heap.size, k, _, by simp, Nat.le_refl _, hg.out, by simp, by unfold maxLen; omega, by simp [ints], by simp [ints]⟩⟩, hbel⟩
end Go.Proofs.Ytkddeoifdecniaa
