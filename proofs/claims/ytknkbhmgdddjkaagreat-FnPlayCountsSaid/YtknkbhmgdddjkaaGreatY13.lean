/- Texts of a proof, laid together: Contracts of the orders of a roll, and of the model's number of dice that are used. Rolls in memory; contracts of the lists of all rolls. Contracts on the rolls that cannot be used, of the program and of its model. The mathematics of dice: where a roll stands among all rolls, seeds, shuffled groups of pairs, stratified rolls, weights. Contracts of the program and of its model on single rolls, faces and seeds. -/
import Derived.Test.YtknkbhmgdddjkaaGreatY12
import Derived.Lib.MinMax
import Derived.Test.YtknkbhmgdddjkaaGreatY03
import Derived.Test.YtknkbhmgdddjkaaGreatY01
import Derived.Test.YtknkbhmgdddjkaaGreatY07
import Derived.Laws.StructEq
import Derived.IntWalk
import Derived.Deep.QuietTactic
namespace Go.Proofs.YtknkbhmgdddjkaaGreat
open Go.ChangeShapes Go.WideShapes Go.ChangeAt Go.RowKit
set_option linter.unusedVariables false
set_option linter.unusedSimpArgs false
set_option maxRecDepth 4000

/-- Orders have been made and are handed back. -/
def OrdersGot (os : List (List Int)) (w : World) (e : Ending) (w' : World) : Prop :=
  ∃ g, e = .returned (.slice (some ⟨g, 0, none⟩) os.length os.length) ∧ (∀ j o, os[j]? = some o → ∃ gj, w'.cell? ⟨g, j, none⟩ = some (.slice (some ⟨gj, 0, none⟩) o.length o.length) ∧ Row w' gj o) ∧ Below w.heap.size w w'
theorem Row.of_blk {w : World} {g : Nat} {vs : Array Value} {xs : List Int} (h : Blk w g vs 2) (e : vs.toList = ints xs) : Row w g xs := by
  have hl : vs.size = xs.length := by rw [← Array.length_toList, e]; simp [ints]
  exact ⟨vs, h, by omega, by rw [e]; exact List.take_of_length_le (by simp [ints])⟩
set_option maxHeartbeats 1000000 in
theorem l05Orders_any (ra rb : Int) (w : World) :
    Calls Tryz.prog 47 #[.agg #[.int .i64 ra, .int .i64 rb]] w (OrdersGot (ordersP ra rb) w) := by
  have BR := Blk.new w #[.int .i64 ra, .int .i64 rb] 40
  have hb : Below w.heap.size w (w.alloc (.cells #[.int .i64 ra, .int .i64 rb] 40)) := (Below.refl _ _).alloc (Nat.le_refl _) _
  have hz : (w.alloc (.cells #[.int .i64 ra, .int .i64 rb] 40)).heap.size = w.heap.size + 1 := by simp
  obtain ⟨x0, x1, xf, xl⟩ := BR.two
  by_cases e : ra = rb
  · subst e
    have e1 : ordersP ra ra = [[ra, ra, ra, ra]] := by simp [ordersP]
    rw [e1]
    go_enter Tryz.func47, Tryz.ntmps47
    go_wp2
    refine bodyPost_ret (v := .slice (some ⟨w.heap.size + 1 + 1, 0, none⟩) 1 1) (by simp [results, Tryz.results47, go_sem]) rfl ?_
    generalize (w.alloc (.cells #[.int .i64 ra, .int .i64 ra] 40)) = v0 at *
    have B1 := Blk.new v0 #[.int .i64 ra, .int .i64 ra, .int .i64 ra, .int .i64 ra] 2
    have B2 := Blk.new (v0.alloc (.cells #[.int .i64 ra, .int .i64 ra, .int .i64 ra, .int .i64 ra] 2)) #[.slice (some ⟨w.heap.size + 1, 0, none⟩) 4 4] 26
    rw [World.size_alloc, hz] at B2
    rw [hz] at B1
    refine ⟨_, rfl, fun j o hj => ?_, (hb.alloc hb.size _).alloc (Nat.le_trans hb.size (by simp)) _⟩
    cases j with
    | zero =>
      simp at hj
      subst hj
      exact ⟨w.heap.size + 1, by simpa using B2.cell 0, Row.of_blk (B1.alloc _) rfl⟩
    | succ j => simp at hj
  · have f0 : (ra == rb) = false := by rw [beq_eq_false_iff_ne]; exact e
    have e1 : ordersP ra rb = [[ra, rb], [rb, ra]] := by simp [ordersP, e]
    rw [e1]
    go_enter Tryz.func47, Tryz.ntmps47
    go_wp2
    refine bodyPost_ret (v := .slice (some ⟨w.heap.size + 1 + 1 + 1, 0, none⟩) 2 2) (by simp [results, Tryz.results47, go_sem]) rfl ?_
    generalize (w.alloc (.cells #[.int .i64 ra, .int .i64 rb] 40)) = v0 at *
    have B1 := Blk.new v0 #[.int .i64 ra, .int .i64 rb] 2
    have B2 := Blk.new (v0.alloc (.cells #[.int .i64 ra, .int .i64 rb] 2)) #[.int .i64 rb, .int .i64 ra] 2
    have B3 := Blk.new ((v0.alloc (.cells #[.int .i64 ra, .int .i64 rb] 2)).alloc (.cells #[.int .i64 rb, .int .i64 ra] 2)) #[.slice (some ⟨w.heap.size + 1, 0, none⟩) 2 2, .slice (some ⟨w.heap.size + 1 + 1, 0, none⟩) 2 2] 26
    rw [World.size_alloc, World.size_alloc, hz] at B3
    rw [World.size_alloc, hz] at B2
    rw [hz] at B1
    refine ⟨_, rfl, fun j o hj => ?_, ((hb.alloc hb.size _).alloc (Nat.le_trans hb.size (by simp)) _).alloc (Nat.le_trans hb.size (by simp; omega)) _⟩
    rcases (by omega : j = 0 ∨ j = 1 ∨ 2 ≤ j) with rfl | rfl | h2
    · simp at hj
      subst hj
      exact ⟨w.heap.size + 1, by simpa using B3.cell 0, Row.of_blk ((B1.alloc _).alloc _) rfl⟩
    · simp at hj
      subst hj
      exact ⟨w.heap.size + 1 + 1, by simpa using B3.cell 1, Row.of_blk (B2.alloc _) rfl⟩
    · obtain ⟨j, rfl⟩ := Nat.exists_eq_add_of_le h2
      rw [Nat.add_comm] at hj
      simp at hj
theorem ordersP_mem {ra rb s : Int} {j : Nat} {o : List Int} (ha : inB ra 1 s = true) (hb : inB rb 1 s = true) (h : (ordersP ra rb)[j]? = some o) : o.length ≤ 4 ∧ ∀ d ∈ o, inB d 1 s = true := by
  have hm := List.mem_of_getElem? h
  unfold ordersP at hm
  split at hm
  · simp at hm
    subst hm
    exact ⟨by simp, fun d hd => by simp at hd; rw [hd]; exact ha⟩
  · simp at hm
    rcases hm with rfl | rfl
    · exact ⟨by simp, fun d hd => by simp at hd; rcases hd with rfl | rfl <;> assumption⟩
    · exact ⟨by simp, fun d hd => by simp at hd; rcases hd with rfl | rfl <;> assumption⟩
theorem ordersP_length (ra rb : Int) : (ordersP ra rb).length ≤ 2 := by
  unfold ordersP
  split <;> simp
/-- The greatest number of dice for the first orders. -/
def usedTo (P : Nat) (h : Int) (xs ys : List Int) (os : List (List Int)) (k : Nat) : Nat := ((os.take k).map (fun o => longN P h o (startP xs ys))).foldl max 0
theorem usedTo_succ (P : Nat) (h : Int) (xs ys : List Int) (os : List (List Int)) (k : Nat) (o : List Int) (ho : os[k]? = some o) : usedTo P h xs ys os (k + 1) = max (usedTo P h xs ys os k) (longN P h o (startP xs ys)) := by
  unfold usedTo
  rw [List.take_add_one, ho]
  simp
theorem usedTo_all (P : Nat) (h : Int) (xs ys : List Int) (ra rb : Int) : usedTo P h xs ys (ordersP ra rb) (ordersP ra rb).length = usedP P h xs ys ra rb := by
  unfold usedTo usedP
  rw [List.take_length]
theorem usedTo_le (P : Nat) (h : Int) (xs ys : List Int) (ra rb : Int) (k : Nat) : usedTo P h xs ys (ordersP ra rb) k ≤ 4 := by
  have h1 : ∀ (l : List Nat) (m : Nat), m ≤ 4 → (∀ x ∈ l, x ≤ 4) → l.foldl max m ≤ 4 := by
    intro l
    induction l with
    | nil => intro m hm _; exact hm
    | cons a l ih => intro m hm hl; exact ih _ (by have := hl a (by simp); omega) (fun x hx => hl x (by simp [hx]))
  refine h1 _ 0 (by omega) (fun x hx => ?_)
  obtain ⟨o, ho, rfl⟩ := List.mem_map.1 hx
  have hm := List.mem_of_mem_take ho
  have hl : o.length ≤ 4 := by
    unfold ordersP at hm
    split at hm
    · simp at hm; subst hm; simp
    · simp at hm; rcases hm with rfl | rfl <;> simp
  exact Nat.le_trans (longN_le P h o _) hl
set_option maxRecDepth 8000 in
set_option maxHeartbeats 1000000 in
theorem l05Used_any (P : Nat) (c h s ra rb : Int) (a1 a2 : Option Addr) (n1 n2 c1 c2 : Nat) (xs ys : List Int) (w : World) (h1 : xs.length = n1) (h2 : ys.length = n2) (r1 : IRow w a1 xs) (r2 : IRow w a2 ys) (g : isB (P : Int) c h s xs ys = true) (ha : inB ra 1 s = true) (hbb : inB rb 1 s = true) :
    Calls Tryz.prog 46 #[.agg #[.int .i64 (P : Int), .int .i64 c, .int .i64 h, .int .i64 s], .agg #[.slice a1 n1 c1, .slice a2 n2 c2], .agg #[.int .i64 ra, .int .i64 rb]] w fun e w' => e = .returned (.int .i64 ((usedP P h xs ys ra rb : Nat) : Int)) ∧ Below w.heap.size w w' := by
  obtain ⟨BV, BB, BR, hb, hz⟩ := three_new w #[.int .i64 (P : Int), .int .i64 c, .int .i64 h, .int .i64 s] #[.slice a1 n1 c1, .slice a2 n2 c2] #[.int .i64 ra, .int .i64 rb] 25 28 40
  have hz1 : w.heap.size + 1 + 1 + 1 ≤ (((w.alloc (.cells #[.int .i64 (P : Int), .int .i64 c, .int .i64 h, .int .i64 s] 25)).alloc (.cells #[.slice a1 n1 c1, .slice a2 n2 c2] 28)).alloc (.cells #[.int .i64 ra, .int .i64 rb] 40)).heap.size := by rw [hz]; omega
  clear hz
  replace r1 := r1.below hb
  replace r2 := r2.below hb
  have HG := Lib.hid g
  have HOM := Lib.hid (fun j o ho => ordersP_mem (j := j) (o := o) ha hbb ho)
  have HOL := ordersP_length ra rb
  have hall := usedTo_all P h xs ys ra rb
  have hule := usedTo_le P h xs ys ra rb
  have HUS := Lib.hid (fun k o ho => usedTo_succ P h xs ys (ordersP ra rb) k o ho)
  have hor := fun W => l05Orders_any ra rb W
  obtain ⟨OS, hOS⟩ : ∃ z, ordersP ra rb = z := ⟨_, rfl⟩
  rw [hOS] at hor HOM HOL hall hule HUS
  obtain ⟨U, hU⟩ : ∃ z, usedP P h xs ys ra rb = z := ⟨_, rfl⟩
  rw [hU] at hall ⊢
  have HALL := Lib.hid hall
  have HULE := Lib.hid hule
  have HOR := Lib.hid hor
  clear hOS hU hall hule hor g ha hbb
  obtain ⟨x0, x1, x2, x3, xf, xl⟩ := BV.four
  obtain ⟨y0, y1, yf, yl⟩ := BB.two
  obtain ⟨z0, z1, zf, zl⟩ := BR.two
  go_enter Tryz.func46, Tryz.ntmps46
  go_wp2_with fail
  clear x0 x1 x2 x3 xf xl y0 y1 yf yl z0 z1 zf zl
  generalize (((w.alloc (.cells #[.int .i64 (P : Int), .int .i64 c, .int .i64 h, .int .i64 s] 25)).alloc (.cells #[.slice a1 n1 c1, .slice a2 n2 c2] 28)).alloc (.cells #[.int .i64 ra, .int .i64 rb] 40)) = v0 at *
  refine (HOR.out _).mono ?_
  rintro e w1 ⟨gO, rfl, hcells, hb1⟩
  have HC := Lib.hid hcells
  clear hcells
  go_wp2_with fail
  go_loopg [7, 9, 10, 11, 12] OS.length (fun m q7 q9 q10 q11 q12 wr => ∃ i : Nat, i ≤ OS.length ∧ m = OS.length - i ∧ q9 = .int .i64 i ∧ q7 = .int .i64 ((usedTo P h xs ys OS i : Nat) : Int) ∧ Below w1.heap.size w1 wr)
  case atStart => exact ⟨0, by omega, by omega, rfl, by simp [usedTo], Below.refl _ _⟩
  case round =>
    obtain ⟨i, hi, hm, rfl, rfl, hbq⟩ := hrel
    have hbel := chain hb1 hbq
    have hul := HULE.out i
    by_cases hlt : i < OS.length
    · have hlt' : (i : Int) < (OS.length : Int) := by omega
      have hi0 : (0 : Int) ≤ (i : Int) := by omega
      obtain ⟨od, hod⟩ : ∃ o, OS[i]? = some o := ⟨_, List.getElem?_eq_getElem hlt⟩
      obtain ⟨gj, hcj, hRj⟩ := HC.out i od hod
      obtain ⟨ho4, hodd⟩ := HOM.out i od hod
      have hus := HUS.out i od hod
      have hNle := longN_le P h od (startP xs ys)
      have hlg := fun W (hW : Below wr.heap.size wr W) => l05Longest_any P c h s a1 a2 (some ⟨gj, 0, none⟩) n1 n2 od.length c1 c2 od.length xs ys od W h1 h2 rfl ho4 (r1.below (chain hbel hW)) (r2.below (chain hbel hW)) (hRj.below (chain hbq hW)).irow HG.out hodd
      obtain ⟨NN, hNN⟩ : ∃ z, longN P h od (startP xs ys) = z := ⟨_, rfl⟩
      obtain ⟨FF, hFF⟩ : ∃ z, fineP P h od (startP xs ys) = z := ⟨_, rfl⟩
      obtain ⟨UU, hUU⟩ : ∃ z, usedTo P h xs ys OS i = z := ⟨_, rfl⟩
      rw [hNN, hFF] at hlg
      rw [hNN, hUU] at hus
      rw [hNN] at hNle
      rw [hUU] at hul ⊢
      have HLG := Lib.hid hlg
      have HUS2 := Lib.hid hus
      obtain ⟨MM, hMM⟩ : ∃ z : Int, max (UU : Int) (NN : Int) = z := ⟨_, rfl⟩
      have hmx : MM = ((max UU NN : Nat) : Int) := by omega
      have HMX := Lib.hid hmx
      clear hmx
      clear hlg hus hNN hFF hUU hRj hodd hod
      obtain ⟨x0, x1, x2, x3, xf, xl⟩ := (BV.below hbel).four
      obtain ⟨y0, y1, yf, yl⟩ := (BB.below hbel).two
      go_wp2_with fail
      clear x0 x1 x2 x3 xf xl y0 y1 yf yl
      refine wp_region_held_drew (S := fun w' => w'.cell? ⟨w.heap.size, 0, none⟩ = some (.int .i64 (P : Int)) ∧ w'.cell? ⟨w.heap.size, 1, none⟩ = some (.int .i64 c) ∧ w'.cell? ⟨w.heap.size, 2, none⟩ = some (.int .i64 h) ∧ w'.cell? ⟨w.heap.size, 3, none⟩ = some (.int .i64 s) ∧ w'.cell? ⟨w.heap.size + 1, 0, none⟩ = some (.slice a1 n1 c1) ∧ w'.cell? ⟨w.heap.size + 1, 1, none⟩ = some (.slice a2 n2 c2) ∧ w'.cell? ⟨gO, i, none⟩ = some (.slice (some ⟨gj, 0, none⟩) od.length od.length)) (by kernel_rfl) ⟨(BV.below (chain hbel (Below.refl _ _).drew)).four.1, (BV.below (chain hbel (Below.refl _ _).drew)).four.2.1, (BV.below (chain hbel (Below.refl _ _).drew)).four.2.2.1, (BV.below (chain hbel (Below.refl _ _).drew)).four.2.2.2.1, (BB.below (chain hbel (Below.refl _ _).drew)).two.1, (BB.below (chain hbel (Below.refl _ _).drew)).two.2.1, CellIs.below hcj (chain hbq (Below.refl _ _).drew)⟩ (fun hHeld => ?_)
      refine wpAnyH_take (i := 0) (oi := { dst := some 22, op := _, type := _, pos := _, after := _, guard := _ }) (v := ?_) rfl (by kernel_rfl) (by kernel_rfl) (by kernel_rfl) (fun _ _ _ h => h) (Or.inl ⟨by rfl, ?_⟩) (by assumption) ?_
      rotate_left
      · intro w hSw
        (try dsimp only at hSw)
        go_simp
        (try (with_reducible rfl))
      try simp only [Act.put, List.setIfInBounds_toArray, List.set_cons_zero, List.set_cons_succ]
      refine wpAnyH_take (i := 1) (oi := { dst := some 23, op := _, type := _, pos := _, after := _, guard := _ }) (v := ?_) rfl (by kernel_rfl) (by kernel_rfl) (by kernel_rfl) (fun _ _ _ h => h) (Or.inl ⟨by rfl, ?_⟩) (by assumption) ?_
      rotate_left
      · intro w hSw
        (try dsimp only at hSw)
        go_simp
        (try (with_reducible rfl))
      try simp only [Act.put, List.setIfInBounds_toArray, List.set_cons_zero, List.set_cons_succ]
      refine wpAnyH_take (i := 2) (oi := { dst := some 24, op := _, type := _, pos := _, after := _, guard := _ }) (v := ?_) rfl (by kernel_rfl) (by kernel_rfl) (by kernel_rfl) (fun _ _ _ h => h) (Or.inl ⟨by rfl, ?_⟩) (by assumption) ?_
      rotate_left
      · intro w hSw
        (try dsimp only at hSw)
        go_simp
        (try (with_reducible rfl))
      try simp only [Act.put, List.setIfInBounds_toArray, List.set_cons_zero, List.set_cons_succ]
      refine wpAnyH_take (i := 3) (oi := { dst := some 25, op := _, type := _, pos := _, after := _, guard := _ }) (v := ?_) rfl (by kernel_rfl) (by kernel_rfl) (by kernel_rfl) (fun _ _ _ h => h) (Or.inl ⟨by rfl, ?_⟩) (by assumption) ?_
      rotate_left
      · intro w hSw
        (try dsimp only at hSw)
        go_simp
        (try (with_reducible rfl))
      try simp only [Act.put, List.setIfInBounds_toArray, List.set_cons_zero, List.set_cons_succ]
      refine wpAnyH_take (i := 4) (oi := { dst := some 26, op := _, type := _, pos := _, after := _, guard := _ }) (v := ?_) rfl (by kernel_rfl) (by kernel_rfl) (by kernel_rfl) (fun _ _ _ h => h) (Or.inl ⟨by rfl, ?_⟩) (by assumption) ?_
      rotate_left
      · intro w hSw
        (try dsimp only at hSw)
        go_simp
        (try (with_reducible rfl))
      try simp only [Act.put, List.setIfInBounds_toArray, List.set_cons_zero, List.set_cons_succ]
      refine wpAnyH_take (i := 5) (oi := { dst := some 27, op := _, type := _, pos := _, after := _, guard := _ }) (v := ?_) rfl (by kernel_rfl) (by kernel_rfl) (by kernel_rfl) (fun _ _ _ h => h) (Or.inl ⟨by rfl, ?_⟩) (by assumption) ?_
      rotate_left
      · intro w hSw
        (try dsimp only at hSw)
        go_simp
        (try (with_reducible rfl))
      try simp only [Act.put, List.setIfInBounds_toArray, List.set_cons_zero, List.set_cons_succ]
      refine wpAnyH_ready (rs := [6]) (by kernel_rfl) (by simp) ?_
      refine AllReadyH.cons (o := { dst := some 28, op := _, type := _, pos := _, after := _, guard := _ }) rfl (fun K hK => ?_) AllReadyH.nil
      go_simp
      refine (HLG.out _ (Below.refl _ _).drew).mono ?_
      rintro e w5 ⟨aL, kL, LL, rfl, -, -, -, -, hb5⟩
      have hb5 := from_drew hb5
      (try go_wp2_with fail)
      refine hK.out _ _ ⟨(BV.below (chain hbel hb5)).four.1, (BV.below (chain hbel hb5)).four.2.1, (BV.below (chain hbel hb5)).four.2.2.1, (BV.below (chain hbel hb5)).four.2.2.2.1, (BB.below (chain hbel hb5)).two.1, (BB.below (chain hbel hb5)).two.2.1, CellIs.below hcj (chain hbq hb5)⟩ (fun hHeld => ?_)
      clear hK K
      try simp only [Act.put, List.setIfInBounds_toArray, List.set_cons_zero, List.set_cons_succ]
      refine wpAnyH_take (i := 7) (oi := { dst := some 21, op := _, type := _, pos := _, after := _, guard := _ }) (v := ?_) rfl (by kernel_rfl) (by kernel_rfl) (by kernel_rfl) (fun _ _ _ h => h) (Or.inl ⟨by rfl, ?_⟩) (by assumption) ?_
      rotate_left
      · intro w hSw
        (try dsimp only at hSw)
        go_simp
        (try (with_reducible rfl))
      try simp only [Act.put, List.setIfInBounds_toArray, List.set_cons_zero, List.set_cons_succ]
      refine wpAnyH_take (i := 8) (oi := { dst := some 29, op := _, type := _, pos := _, after := _, guard := _ }) (v := ?_) rfl (by kernel_rfl) (by kernel_rfl) (by kernel_rfl) (fun _ _ _ h => h) (Or.inl ⟨by rfl, ?_⟩) (by assumption) ?_
      rotate_left
      · intro w hSw
        (try dsimp only at hSw)
        go_simp
        (try (with_reducible rfl))
      try simp only [Act.put, List.setIfInBounds_toArray, List.set_cons_zero, List.set_cons_succ]
      refine wpAnyH_take (i := 9) (oi := { dst := some 30, op := _, type := _, pos := _, after := _, guard := _ }) (v := ?_) rfl (by kernel_rfl) (by kernel_rfl) (by kernel_rfl) (fun _ _ _ h => h) (Or.inl ⟨by rfl, ?_⟩) (by assumption) ?_
      rotate_left
      · intro w hSw
        (try dsimp only at hSw)
        go_simp
        (try (with_reducible rfl))
      try simp only [Act.put, List.setIfInBounds_toArray, List.set_cons_zero, List.set_cons_succ]
      refine wpAnyH_take (i := 10) (oi := { dst := some 31, op := _, type := _, pos := _, after := _, guard := _ }) (v := ?_) rfl (by kernel_rfl) (by kernel_rfl) (by kernel_rfl) (fun _ _ _ h => h) (Or.inl ⟨by rfl, ?_⟩) (by assumption) ?_
      rotate_left
      · intro w hSw
        (try dsimp only at hSw)
        go_simp
        (try (with_reducible rfl))
      try simp only [Act.put, List.setIfInBounds_toArray, List.set_cons_zero, List.set_cons_succ]
      refine wpAnyH_take (i := 11) (oi := { dst := some 10, op := _, type := _, pos := _, after := _, guard := _ }) (v := ?_) rfl (by kernel_rfl) (by kernel_rfl) (by kernel_rfl) (fun _ _ _ h => h) (Or.inl ⟨by rfl, ?_⟩) (by assumption) ?_
      rotate_left
      · intro w hSw
        (try dsimp only at hSw)
        go_simp
        (try (with_reducible rfl))
      try simp only [Act.put, List.setIfInBounds_toArray, List.set_cons_zero, List.set_cons_succ]
      refine wpAnyH_take (i := 12) (oi := { dst := some 11, op := _, type := _, pos := _, after := _, guard := _ }) (v := ?_) rfl (by kernel_rfl) (by kernel_rfl) (by kernel_rfl) (fun _ _ _ h => h) (Or.inl ⟨by rfl, ?_⟩) (by assumption) ?_
      rotate_left
      · intro w hSw
        (try dsimp only at hSw)
        go_simp
        (try (with_reducible rfl))
      try simp only [Act.put, List.setIfInBounds_toArray, List.set_cons_zero, List.set_cons_succ]
      refine wpAnyH_take (i := 13) (oi := { dst := some 12, op := _, type := _, pos := _, after := _, guard := _ }) (v := ?_) rfl (by kernel_rfl) (by kernel_rfl) (by kernel_rfl) (fun _ _ _ h => h) (Or.inl ⟨by rfl, ?_⟩) (by assumption) ?_
      rotate_left
      · intro w hSw
        (try dsimp only at hSw)
        go_simp
        (try (with_reducible rfl))
      try simp only [Act.put, List.setIfInBounds_toArray, List.set_cons_zero, List.set_cons_succ]
      refine wpAnyH_done (by kernel_rfl) ?_ _
      clear hHeld
      go_wp2
      go_roundg (OS.length - (i + 1))
      case measure => omega
      case rel => exact ⟨i + 1, by omega, rfl, by go_num, by rw [HUS2.out, HMX.out], chain hbq hb5⟩
    · obtain rfl : i = OS.length := by omega
      rw [HALL.out]
      clear hul
      go_wp2
      go_ret
      exact ⟨rfl, chain hb hbel⟩
end Go.Proofs.YtknkbhmgdddjkaaGreat
namespace Go.Proofs.YtknkbhmgdddjkaaGreat
open Go.ChangeShapes Go.WideShapes Go.ChangeAt Go.RowKit
set_option linter.unusedVariables false
set_option linter.unusedSimpArgs false
set_option maxRecDepth 4000

/-- A roll. -/
abbrev Rl := Int × Int
def rlC (r : Rl) : List Value := [.int .i64 r.1, .int .i64 r.2]
def rlsC : List Rl → List Value
  | [] => []
  | s :: l => rlC s ++ rlsC l
theorem rlsC_length : ∀ l : List Rl, (rlsC l).length = l.length * 2
  | [] => rfl
  | s :: l => by simp [rlsC, rlC, rlsC_length l]; omega
theorem rlsC_append : ∀ l m : List Rl, rlsC (l ++ m) = rlsC l ++ rlsC m
  | [], m => rfl
  | s :: l, m => by simp [rlsC, rlsC_append l m]
theorem rlsC_at : ∀ (l : List Rl) (k : Nat) (s : Rl), l[k]? = some s → ∀ j, j < 2 → (rlsC l)[k * 2 + j]? = (rlC s)[j]?
  | [], k, s, h, j, hj => by simp at h
  | x :: l, 0, s, h, j, hj => by
    simp at h
    subst h
    rw [rlsC, List.getElem?_append_left (by simp [rlC]; omega), Nat.zero_mul, Nat.zero_add]
  | x :: l, k + 1, s, h, j, hj => by
    rw [rlsC, List.getElem?_append_right (by simp [rlC]; omega)]
    have := rlsC_at l k s (by simpa using h) j hj
    rw [← this]
    congr 1
    simp [rlC]
    omega
abbrev RRow (w : World) (g : Nat) (l : List Rl) : Prop := VRow w g (rlsC l) 40
theorem RRow.two {w : World} {g : Nat} {l : List Rl} (h : RRow w g l) (k : Nat) (s : Rl) (hk : l[k]? = some s) : w.cell? ⟨g, k * 2, none⟩ = some (.int .i64 s.1) ∧ w.cell? ⟨g, k * 2 + 1, none⟩ = some (.int .i64 s.2) :=
  ⟨h.cell _ _ (by have := rlsC_at l k s hk 0 (by omega); simpa [rlC] using this), h.cell _ _ (by have := rlsC_at l k s hk 1 (by omega); simpa [rlC] using this)⟩
/-- A slice of rolls made between two marks of the heap's size: a row of its own, or nil. -/
def ORl (lo hi : Nat) (w : World) (a : Option Addr) (l : List Rl) : Prop := (a = none ∧ l = []) ∨ ∃ g, a = some ⟨g, 0, none⟩ ∧ lo ≤ g ∧ g < hi ∧ RRow w g l
theorem ORl.below {lo hi : Nat} {w w' : World} {a : Option Addr} {l : List Rl} (h : ORl lo hi w a l) (hb : Below w.heap.size w w') : ORl lo hi w' a l := by
  rcases h with h | ⟨g, e, h1, h2, r⟩
  · exact .inl h
  · exact .inr ⟨g, e, h1, h2, r.below hb⟩
theorem ORl.drew {lo hi : Nat} {w : World} {a : Option Addr} {l : List Rl} (h : ORl lo hi w a l) : ORl lo hi w.drew a l := h
theorem ORl.alloc {lo hi : Nat} {w : World} {a : Option Addr} {l : List Rl} (h : ORl lo hi w a l) (o : Obj) : ORl lo hi (w.alloc o) a l := h.below ((Below.refl _ _).alloc (Nat.le_refl _) o)
theorem ORl.mono {lo hi lo' hi' : Nat} {w : World} {a : Option Addr} {l : List Rl} (h : ORl lo hi w a l) (h1 : lo' ≤ lo) (h2 : hi ≤ hi') : ORl lo' hi' w a l := by
  rcases h with h | ⟨g, e, q1, q2, r⟩
  · exact .inl h
  · exact .inr ⟨g, e, by omega, by omega, r⟩
theorem ORl.same {lo hi lo2 hi2 : Nat} {w w' : World} {a : Option Addr} {l : List Rl} (h : ORl lo2 hi2 w a l) (hs : Same lo hi w w') (hd : hi2 ≤ lo ∨ hi ≤ lo2) : ORl lo2 hi2 w' a l := by
  rcases h with h | ⟨g, e, q1, q2, r⟩
  · exact .inl h
  · exact .inr ⟨g, e, q1, q2, r.same hs (by omega)⟩
theorem ORl.row {lo hi : Nat} {w : World} {a : Option Addr} {l : List Rl} (h : ORl lo hi w a l) {k : Nat} (hk : k < l.length) : ∃ g, a = some ⟨g, 0, none⟩ ∧ RRow w g l := by
  rcases h with ⟨_, rfl⟩ | ⟨g, e, q1, q2, r⟩
  · simp at hk
  · exact ⟨g, e, r⟩
def OwnR (w : World) (base : Nat) (v : Value) (l : List Rl) : Prop := w.ownsRow base 40 2 v l.length (rlsC l)
theorem OwnR.form {w : World} {base : Nat} {v : Value} {l : List Rl} (h : OwnR w base v l) : ∃ a k, v = .slice a l.length k := by
  rcases h.2 with ⟨h1, h2⟩ | ⟨g, cap, cur, h1, _⟩
  · exact ⟨none, 0, by rw [h1, h2]⟩
  · exact ⟨some ⟨g, 0, none⟩, cap, h1⟩
theorem OwnR.orl {w : World} {base : Nat} {a : Option Addr} {n k : Nat} {l : List Rl} (h : OwnR w base (.slice a n k) l) : ORl base w.heap.size w a l := by
  obtain ⟨hl, h1 | ⟨g, cap, cur, hv, hb, hh, hc, hm, hs, ht⟩⟩ := h
  · obtain ⟨h1, h2⟩ := h1
    simp at h1
    exact .inl ⟨h1.1, List.eq_nil_of_length_eq_zero h2⟩
  · simp at hv
    obtain ⟨rfl, _, rfl⟩ := hv
    exact .inr ⟨g, rfl, hb, (Array.getElem?_eq_some_iff.1 hh).1, cur, hh, by rw [hl, hs]; exact Nat.mul_le_mul_right _ hc, by rw [hl]; exact ht⟩
theorem OwnR.alloc {w : World} {base : Nat} {v : Value} {l : List Rl} (h : OwnR w base v l) (o : Obj) : OwnR (w.alloc o) base v l := World.ownsRow.alloc h o
theorem OwnR.start (w : World) : OwnR (w.alloc (.cells #[] 40)) w.heap.size (.slice (some ⟨w.heap.size, 0, none⟩) 0 0) [] :=
  ⟨rfl, .inr ⟨w.heap.size, 0, #[], rfl, Nat.le_refl _, Blk.new w #[] _, Nat.le_refl _, by unfold maxLen; omega, rfl, rfl⟩⟩
theorem OwnR.nil (w : World) (base : Nat) : OwnR w base (.slice none 0 0) [] := World.ownsRow_nil w base _ _
theorem infoRl : (Tryz.prog.info? 40).map (fun i => (i.zero, i.size, i.bytes)) = some (some (.agg #[.int .i64 0, .int .i64 0]), 2, 16) := by kernel_rfl
theorem wp_pushR {ops : Array Oper} {rest : List Oper} {o : Oper} {a : Act} {Q : Exit → Act → World → Prop} (hgd : o.guard = none) (s x : Operand)
    (ho : o.op = .call { callee := .builtin .append, args := #[s, x], argTypes := #[34, 34] })
    (base : Nat) (v : Value) (l : List Rl) (hs : a.eval s = v) {w0 : World} (hown : OwnR w0 base v l) (u : Rl)
    {zz : Nat} (hx : a.eval x = .slice (some ⟨zz, 0, none⟩) 1 1) (hzz : w0.heap.size = zz) (hl : l.length ≤ 1048576) (hbase : base ≤ w0.heap.size)
    (h : ∀ v' w', OwnR w' base v' (l ++ [u]) → Below base w0 w' → wpList Tryz.prog ops Q rest (a.put o.dst v') w') : wpList Tryz.prog ops Q (o :: rest) a (w0.alloc (.cells #[.int .i64 u.1, .int .i64 u.2] 40)) := by
  subst hzz
  obtain ⟨i0, hi, hz0, hz1, hz2⟩ := info_parts infoRl
  have hown0 : w0.ownsRow base 40 2 v l.length (rlsC l) := hown
  refine wpList_append_own _ hgd s x 34 ho base 40 i0 _ 2 16 Tryz.underlying34 hi hz0 hz1 hz2 rfl (by decide) v l.length (rlsC l) hs (hown0.alloc _) ⟨w0.heap.size, 0, none⟩ 1 1 (rlC u) hx (by simp [rlC])
    (World.news_of_block (cs := #[.int .i64 u.1, .int .i64 u.2]) (Blk.new w0 _ 40)) (fun y hy => by simp [rlC] at hy; rcases hy with rfl | rfl <;> rfl) (by unfold maxLen; omega) (by omega) (by simp; omega) ?_
  intro v' w' hown' hgrow _
  refine h v' w' ?_ (((Below.refl base w0).alloc hbase _).grown hgrow (by simp; omega) (fun k hk => (hown0.lt k hk).1))
  show w'.ownsRow base 40 2 _ (l ++ [u]).length (rlsC (l ++ [u]))
  rw [List.length_append, rlsC_append]
  simpa [rlsC] using hown'
/-- All rolls, ordered by the greater face. -/
def rollsTo : Nat → List Rl
  | 0 => []
  | a + 1 => rollsTo a ++ (List.range (a + 1)).map fun (j : Nat) => ((a : Int) + 1, (j : Int) + 1)
def rowTo (a j : Nat) : List Rl := rollsTo a ++ (List.range j).map fun (j : Nat) => ((a : Int) + 1, (j : Int) + 1)
theorem rowTo_succ (a j : Nat) : rowTo a (j + 1) = rowTo a j ++ [((a : Int) + 1, (j : Int) + 1)] := by simp [rowTo, List.range_succ]
theorem rowTo_zero (a : Nat) : rowTo a 0 = rollsTo a := by simp [rowTo]
theorem rowTo_full (a : Nat) : rowTo a (a + 1) = rollsTo (a + 1) := rfl
theorem rollsTo_length : ∀ a, (rollsTo a).length ≤ a * a
  | 0 => by simp [rollsTo]
  | a + 1 => by
    have := rollsTo_length a
    rw [rollsTo, List.length_append, List.length_map, List.length_range, Nat.add_mul, Nat.mul_add]
    omega
theorem rowTo_length (a j : Nat) : (rowTo a j).length ≤ a * a + j := by
  have := rollsTo_length a
  rw [rowTo, List.length_append, List.length_map, List.length_range]
  omega
theorem rollsTo_mem : ∀ (a : Nat) (r : Rl), r ∈ rollsTo a → 1 ≤ r.2 ∧ r.2 ≤ r.1 ∧ r.1 ≤ (a : Int)
  | 0, r, h => by simp [rollsTo] at h
  | a + 1, r, h => by
    rw [rollsTo, List.mem_append] at h
    rcases h with h | h
    · have := rollsTo_mem a r h
      omega
    · obtain ⟨j, hj, rfl⟩ := List.mem_map.1 h
      have := List.mem_range.1 hj
      dsimp only
      omega
def RollsGot (l : List Rl) (w : World) (e : Ending) (w' : World) : Prop := ∃ a k, e = .returned (.slice a l.length k) ∧ ORl w.heap.size w'.heap.size w' a l ∧ Below w.heap.size w w'
set_option maxRecDepth 8000 in
set_option maxHeartbeats 1000000 in
theorem l07All_any (p c h : Int) (S : Nat) (w : World) (hS : S ≤ 6) :
    Calls Tryz.prog 22 #[.agg #[.int .i64 p, .int .i64 c, .int .i64 h, .int .i64 (S : Int)]] w (RollsGot (rollsTo S) w) := by
  have BV := Blk.new w #[.int .i64 p, .int .i64 c, .int .i64 h, .int .i64 (S : Int)] 25
  have hb : Below w.heap.size w (w.alloc (.cells #[.int .i64 p, .int .i64 c, .int .i64 h, .int .i64 (S : Int)] 25)) := (Below.refl _ _).alloc (Nat.le_refl _) _
  have hz0 : (w.alloc (.cells #[.int .i64 p, .int .i64 c, .int .i64 h, .int .i64 (S : Int)] 25)).heap.size = w.heap.size + 1 := by simp
  go_enter Tryz.func22, Tryz.ntmps22
  go_wp2_with fail
  generalize (w.alloc (.cells #[.int .i64 p, .int .i64 c, .int .i64 h, .int .i64 (S : Int)] 25)) = v0 at *
  have HZ0 := Lib.hid hz0
  have hz0a : w.heap.size + 1 ≤ v0.heap.size := by omega
  clear hz0
  go_loopg [3, 4, 5] S (fun m q3 q4 q5 wr => ∃ a : Nat, a ≤ S ∧ m = S - a ∧ q4 = .int .i64 ((a : Int) + 1) ∧ OwnR wr v0.heap.size q3 (rollsTo a) ∧ Below v0.heap.size v0 wr)
  case atStart => exact ⟨0, by omega, by omega, rfl, by have q := OwnR.start v0; rw [HZ0.out] at q ⊢; exact q, (Below.refl _ _).alloc (Nat.le_refl _) _⟩
  case round =>
    obtain ⟨a, ha, hm, rfl, hO, hbel⟩ := hrel
    obtain ⟨x0, x1, x2, x3, xf, xl⟩ := (BV.below hbel).four
    by_cases hlt : a < S
    · have hlt' : (a : Int) + 1 ≤ (S : Int) := by omega
      have ha6 : (a : Int) ≤ 6 := by omega
      go_wp2_with fail
      clear x0 x1 x2 x3 xf xl
      rw [← rowTo_zero] at hO
      go_loopg [3, 5] (a + 1) (fun m q3 q5 wr => ∃ j : Nat, j ≤ a + 1 ∧ m = a + 1 - j ∧ q5 = .int .i64 ((j : Int) + 1) ∧ OwnR wr v0.heap.size q3 (rowTo a j) ∧ Below v0.heap.size v0 wr)
      case atStart => exact ⟨0, by omega, by omega, rfl, hO, hbel⟩
      case round =>
        clear hO hbel
        obtain ⟨j, hj, hm2, rfl, hO, hbel⟩ := hrel
        have hle := rowTo_length a j
        have hle2 : a * a ≤ 6 * 6 := Nat.mul_le_mul (by omega) (by omega)
        by_cases hlj : j < a + 1
        · have hlj' : (j : Int) + 1 ≤ (a : Int) + 1 := by omega
          have hrs := rowTo_succ a j
          have hLl : (rowTo a j).length ≤ 1048576 := by omega
          obtain ⟨LL, hLL⟩ : ∃ z, rowTo a j = z := ⟨_, rfl⟩
          rw [hLL] at hO hrs hLl
          have HRS := Lib.hid hrs
          have hsz := hbel.size
          clear hrs hLL hle hle2
          go_wp2_with (at_builtin; go_loud (refine wp_pushR rfl _ _ rfl v0.heap.size _ LL rfl hO ((a : Int) + 1, (j : Int) + 1) rfl rfl hLl hsz ?_; intro v2 w6 hO2 hb6))
          go_roundg (a + 1 - (j + 1))
          case measure => omega
          case rel => exact ⟨j + 1, by omega, rfl, by go_num, by rw [HRS.out]; exact hO2, hbel.trans hb6⟩
        · obtain rfl : j = a + 1 := by omega
          rw [rowTo_full] at hO
          clear hle hle2
          go_wp2
          go_roundg (S - (a + 1))
          case measure => omega
          case rel => exact ⟨a + 1, by omega, rfl, by go_num, hO, hbel⟩
    · obtain rfl : a = S := by omega
      have hlt' : (a : Int) < (a : Int) + 1 := by omega
      obtain ⟨LL, hLL⟩ : ∃ z, rollsTo a = z := ⟨_, rfl⟩
      rw [hLL] at hO
      have HLL := Lib.hid hLL
      clear hLL
      obtain ⟨aR, kR, rfl⟩ := hO.form
      go_wp2
      go_ret
      exact ⟨aR, kR, by rw [HLL.out]; rfl, by rw [HLL.out]; exact hO.orl.mono hb.size (Nat.le_refl _), hb.trans (hbel.mono hb.size)⟩
set_option maxRecDepth 8000 in
set_option maxHeartbeats 1000000 in
theorem implRolls_any (p c h : Int) (S : Nat) (w : World) (hS : S ≤ 6) :
    Calls Tryz.prog 19 #[.agg #[.int .i64 p, .int .i64 c, .int .i64 h, .int .i64 (S : Int)]] w (RollsGot (rollsTo S) w) := by
  have BV := Blk.new w #[.int .i64 p, .int .i64 c, .int .i64 h, .int .i64 (S : Int)] 25
  have hb : Below w.heap.size w (w.alloc (.cells #[.int .i64 p, .int .i64 c, .int .i64 h, .int .i64 (S : Int)] 25)) := (Below.refl _ _).alloc (Nat.le_refl _) _
  have hz0 : (w.alloc (.cells #[.int .i64 p, .int .i64 c, .int .i64 h, .int .i64 (S : Int)] 25)).heap.size = w.heap.size + 1 := by simp
  go_enter Tryz.func19, Tryz.ntmps19
  go_wp2_with fail
  generalize (w.alloc (.cells #[.int .i64 p, .int .i64 c, .int .i64 h, .int .i64 (S : Int)] 25)) = v0 at *
  have HZ0 := Lib.hid hz0
  have hz0a : w.heap.size + 1 ≤ v0.heap.size := by omega
  clear hz0
  go_loopg [3, 4, 5] S (fun m q3 q4 q5 wr => ∃ a : Nat, a ≤ S ∧ m = S - a ∧ q4 = .int .i64 ((a : Int) + 1) ∧ OwnR wr v0.heap.size q3 (rollsTo a) ∧ Below v0.heap.size v0 wr)
  case atStart => exact ⟨0, by omega, by omega, rfl, OwnR.nil v0 _, Below.refl _ _⟩
  case round =>
    obtain ⟨a, ha, hm, rfl, hO, hbel⟩ := hrel
    obtain ⟨x0, x1, x2, x3, xf, xl⟩ := (BV.below hbel).four
    by_cases hlt : a < S
    · have hlt' : (a : Int) + 1 ≤ (S : Int) := by omega
      have ha6 : (a : Int) ≤ 6 := by omega
      go_wp2_with fail
      clear x0 x1 x2 x3 xf xl
      rw [← rowTo_zero] at hO
      go_loopg [3, 5] (a + 1) (fun m q3 q5 wr => ∃ j : Nat, j ≤ a + 1 ∧ m = a + 1 - j ∧ q5 = .int .i64 ((j : Int) + 1) ∧ OwnR wr v0.heap.size q3 (rowTo a j) ∧ Below v0.heap.size v0 wr)
      case atStart => exact ⟨0, by omega, by omega, rfl, hO, hbel⟩
      case round =>
        clear hO hbel
        obtain ⟨j, hj, hm2, rfl, hO, hbel⟩ := hrel
        have hle := rowTo_length a j
        have hle2 : a * a ≤ 6 * 6 := Nat.mul_le_mul (by omega) (by omega)
        by_cases hlj : j < a + 1
        · have hlj' : (j : Int) + 1 ≤ (a : Int) + 1 := by omega
          have hrs := rowTo_succ a j
          have hLl : (rowTo a j).length ≤ 1048576 := by omega
          obtain ⟨LL, hLL⟩ : ∃ z, rowTo a j = z := ⟨_, rfl⟩
          rw [hLL] at hO hrs hLl
          have HRS := Lib.hid hrs
          have hsz := hbel.size
          clear hrs hLL hle hle2
          go_wp2_with (at_builtin; go_loud (refine wp_pushR rfl _ _ rfl v0.heap.size _ LL rfl hO ((a : Int) + 1, (j : Int) + 1) rfl rfl hLl hsz ?_; intro v2 w6 hO2 hb6))
          go_roundg (a + 1 - (j + 1))
          case measure => omega
          case rel => exact ⟨j + 1, by omega, rfl, by go_num, by rw [HRS.out]; exact hO2, hbel.trans hb6⟩
        · obtain rfl : j = a + 1 := by omega
          rw [rowTo_full] at hO
          clear hle hle2
          go_wp2
          go_roundg (S - (a + 1))
          case measure => omega
          case rel => exact ⟨a + 1, by omega, rfl, by go_num, hO, hbel⟩
    · obtain rfl : a = S := by omega
      have hlt' : (a : Int) < (a : Int) + 1 := by omega
      obtain ⟨LL, hLL⟩ : ∃ z, rollsTo a = z := ⟨_, rfl⟩
      rw [hLL] at hO
      have HLL := Lib.hid hLL
      clear hLL
      obtain ⟨aR, kR, rfl⟩ := hO.form
      go_wp2
      go_ret
      exact ⟨aR, kR, by rw [HLL.out]; rfl, by rw [HLL.out]; exact hO.orl.mono hb.size (Nat.le_refl _), hb.trans (hbel.mono hb.size)⟩
end Go.Proofs.YtknkbhmgdddjkaaGreat
namespace Go.Proofs.YtknkbhmgdddjkaaGreat
open Go.ChangeShapes Go.WideShapes Go.ChangeAt Go.RowKit
set_option linter.unusedVariables false
set_option linter.unusedSimpArgs false
set_option maxRecDepth 4000

theorem addAll_nil : ∀ (l out : List Ply), addAll out l = [] ↔ out = [] ∧ l = []
  | [], out => by simp [addAll]
  | x :: l, out => by
    have h1 := addAll_nil l (addP out x)
    have h2 : addP out x ≠ [] := by
      unfold addP
      split
      · rename_i h
        intro e
        rw [e] at h
        simp at h
      · simp
    simp only [addAll, List.foldl_cons] at h1 ⊢
    constructor
    · intro h
      exact absurd (h1.1 h).1 h2
    · rintro ⟨-, h⟩
      simp at h
theorem next_start (P : Nat) (h d : Int) (xs ys : List Int) : nextP P h d (startP xs ys) = [] ↔ legL P h xs ys d = [] := by
  unfold nextP
  rw [addAll_nil]
  simp [startP, cand]
theorem long_zero (P : Nat) (h d : Int) (ds : List Int) (xs ys : List Int) : longN P h (d :: ds) (startP xs ys) = 0 ↔ legL P h xs ys d = [] := by
  rw [longN, ← next_start]
  split
  · rename_i e
    simp [e]
  · rename_i e
    simp [e]
/-- No die of a roll can be used. -/
def dncB (P : Nat) (h : Int) (xs ys : List Int) (ra rb : Int) : Bool := decide (legL P h xs ys ra = []) && decide (legL P h xs ys rb = [])
theorem used_zero (P : Nat) (h : Int) (xs ys : List Int) (ra rb : Int) : usedP P h xs ys ra rb = 0 ↔ dncB P h xs ys ra rb = true := by
  unfold usedP dncB ordersP
  rw [Bool.and_eq_true, decide_eq_true_eq, decide_eq_true_eq]
  split
  · rename_i e
    subst e
    simp only [List.map_cons, List.map_nil, List.foldl_cons, List.foldl_nil]
    rw [show max 0 (longN P h [ra, ra, ra, ra] (startP xs ys)) = longN P h [ra, ra, ra, ra] (startP xs ys) by omega, long_zero]
    simp
  · simp only [List.map_cons, List.map_nil, List.foldl_cons, List.foldl_nil]
    rw [← long_zero P h ra [rb], ← long_zero P h rb [ra]]
    omega
/-- The weight of the first rolls that cannot be used. -/
def dwTo (P : Nat) (h : Int) (xs ys : List Int) (l : List Rl) : Nat → Int
  | 0 => 0
  | k + 1 => dwTo P h xs ys l k + (match l[k]? with | none => 0 | some r => if dncB P h xs ys r.1 r.2 = true then (if r.1 = r.2 then 1 else 2) else 0)
theorem dwTo_succ (P : Nat) (h : Int) (xs ys : List Int) (l : List Rl) (k : Nat) (r : Rl) (hr : l[k]? = some r) : dwTo P h xs ys l (k + 1) = dwTo P h xs ys l k + (if dncB P h xs ys r.1 r.2 = true then (if r.1 = r.2 then 1 else 2) else 0) := by
  rw [dwTo, hr]
theorem dwTo_bound (P : Nat) (h : Int) (xs ys : List Int) (l : List Rl) : ∀ k : Nat, 0 ≤ dwTo P h xs ys l k ∧ dwTo P h xs ys l k ≤ 2 * (k : Int)
  | 0 => by simp [dwTo]
  | k + 1 => by
    have := dwTo_bound P h xs ys l k
    rw [dwTo]
    cases l[k]? with
    | none => simp; omega
    | some r =>
      dsimp only
      split
      · split <;> omega
      · omega
def dwI (p h s : Int) (xs ys : List Int) : Int := dwTo p.toNat h xs ys (rollsTo s.toNat) (rollsTo s.toNat).length
set_option maxRecDepth 8000 in
set_option maxHeartbeats 2000000 in
theorem dances_any (P : Nat) (c h s ra rb : Int) (a1 a2 : Option Addr) (n1 n2 c1 c2 : Nat) (xs ys : List Int) (w : World) (h1 : xs.length = n1) (h2 : ys.length = n2) (r1 : IRow w a1 xs) (r2 : IRow w a2 ys) (g : isB (P : Int) c h s xs ys = true) (ha : 1 ≤ ra ∧ ra ≤ 6) (hbb : 1 ≤ rb ∧ rb ≤ 6) :
    Calls Tryz.prog 25 #[.agg #[.int .i64 (P : Int), .int .i64 c, .int .i64 h, .int .i64 s], .agg #[.slice a1 n1 c1, .slice a2 n2 c2], .agg #[.int .i64 ra, .int .i64 rb]] w fun e w' => e = .returned (.bool (dncB P h xs ys ra rb)) ∧ Below w.heap.size w w' := by
  obtain ⟨p0, p1, k0, k1, k2, k3, N1, N2, hx, hy, s0, s1, s2, s3⟩ := isB_parts g
  have hA := fun W f1 f2 B (q1 : Pays f1 B xs W) (q2 : Pays f2 B ys W) => legalSteps_any P c h s f1 f2 B xs ys W (by omega) (by omega) (by omega) (by omega) hx hy q1 q2 ra (by omega) (by omega)
  have hB2 := fun W f1 f2 B (q1 : Pays f1 B xs W) (q2 : Pays f2 B ys W) => legalSteps_any P c h s f1 f2 B xs ys W (by omega) (by omega) (by omega) (by omega) hx hy q1 q2 rb (by omega) (by omega)
  unfold dncB
  obtain ⟨LA, hLA⟩ : ∃ z, legL P h xs ys ra = z := ⟨_, rfl⟩
  obtain ⟨LB, hLB⟩ : ∃ z, legL P h xs ys rb = z := ⟨_, rfl⟩
  rw [hLA] at hA
  rw [hLB] at hB2
  rw [hLA, hLB]
  obtain ⟨DA, hDA⟩ : ∃ z, decide (LA = []) = z := ⟨_, rfl⟩
  obtain ⟨DB, hDB⟩ : ∃ z, decide (LB = []) = z := ⟨_, rfl⟩
  rw [hDA, hDB]
  have HA := Lib.hid hA
  have HB2 := Lib.hid hB2
  clear hA hB2 hLA hLB hx hy g
  obtain ⟨BV, BB, BR, hb, hz⟩ := three_new w #[.int .i64 (P : Int), .int .i64 c, .int .i64 h, .int .i64 s] #[.slice a1 n1 c1, .slice a2 n2 c2] #[.int .i64 ra, .int .i64 rb] 25 28 40
  clear hz
  obtain ⟨x0, x1, x2, x3, xf, xl⟩ := BV.four
  obtain ⟨y0, y1, yf, yl⟩ := BB.two
  obtain ⟨z0, z1, zf, zl⟩ := BR.two
  by_cases eA : LA = []
  · obtain rfl : DA = true := by rw [← hDA, decide_eq_true_eq]; exact eA
    rw [Bool.true_and]
    clear hDA
    have f0 : ((LA.length : Int) == 0) = true := by rw [eA]; rfl
    clear eA
    by_cases eB : LB = []
    · obtain rfl : DB = true := by rw [← hDB, decide_eq_true_eq]; exact eB
      clear hDB
      have f1 : ((LB.length : Int) == 0) = true := by rw [eB]; rfl
      clear eB
      go_enter Tryz.func25, Tryz.ntmps25
      go_wp2_with (first | (go_at_call 38; refine (countsOf_any (P : Int) c h s a1 a2 n1 c1 n2 c2 xs ys _ h1 h2 (r1.below hb) (r2.below hb)).mono ?_; rintro e w2 ⟨B, rfl, q1, q2, hb2⟩; obtain ⟨x0, x1, x2, x3, xf, xl⟩ := (BV.below hb2).four; obtain ⟨y0, y1, yf, yl⟩ := (BB.below hb2).two; obtain ⟨z0, z1, zf, zl⟩ := (BR.below hb2).two; obtain ⟨t0, t1, t2, tf, tl⟩ := (Blk.new w2 #[.int .i64 (P : Int), fv 59 B, fv 60 B] 75).tri; obtain ⟨x0, x1, x2, x3, xf, xl⟩ := ((BV.below hb2).alloc (.cells #[.int .i64 (P : Int), fv 59 B, fv 60 B] 75)).four; obtain ⟨y0, y1, yf, yl⟩ := ((BB.below hb2).alloc (.cells #[.int .i64 (P : Int), fv 59 B, fv 60 B] 75)).two; obtain ⟨z0, z1, zf, zl⟩ := ((BR.below hb2).alloc (.cells #[.int .i64 (P : Int), fv 59 B, fv 60 B] 75)).two; have hal := (Below.refl w2.heap.size w2).alloc (Nat.le_refl _) (.cells #[.int .i64 (P : Int), fv 59 B, fv 60 B] 75)) | (go_at_call 50; refine (HA.out _ _ _ B (q1.below hal) (q2.below hal)).mono ?_; clear HA; rintro e w3 ⟨aA, kA, rfl, OA, hb3⟩; obtain ⟨x0, x1, x2, x3, xf, xl⟩ := (((BV.below hb2).below hal).below hb3).four; obtain ⟨t0, t1, t2, tf, tl⟩ := ((Blk.new w2 #[.int .i64 (P : Int), fv 59 B, fv 60 B] 75).below hb3).tri; obtain ⟨z0, z1, zf, zl⟩ := (((BR.below hb2).below hal).below hb3).two) | (go_at_call 50; refine (HB2.out _ _ _ B ((q1.below hal).below hb3) ((q2.below hal).below hb3)).mono ?_; rintro e w4 ⟨aB, kB, rfl, OB, hb4⟩))
      go_ret
      exact ⟨rfl, chain hb (chain (chain (chain hb2 hal) hb3) hb4)⟩
    · have hl : 0 < LB.length := List.length_pos_iff.2 eB
      have f1 : ((LB.length : Int) == 0) = false := by rw [beq_eq_false_iff_ne]; omega
      obtain rfl : DB = false := by rw [← hDB, decide_eq_false_iff_not]; exact eB
      clear hDB eB
      go_enter Tryz.func25, Tryz.ntmps25
      go_wp2_with (first | (go_at_call 38; refine (countsOf_any (P : Int) c h s a1 a2 n1 c1 n2 c2 xs ys _ h1 h2 (r1.below hb) (r2.below hb)).mono ?_; rintro e w2 ⟨B, rfl, q1, q2, hb2⟩; obtain ⟨x0, x1, x2, x3, xf, xl⟩ := (BV.below hb2).four; obtain ⟨y0, y1, yf, yl⟩ := (BB.below hb2).two; obtain ⟨z0, z1, zf, zl⟩ := (BR.below hb2).two; obtain ⟨t0, t1, t2, tf, tl⟩ := (Blk.new w2 #[.int .i64 (P : Int), fv 59 B, fv 60 B] 75).tri; obtain ⟨x0, x1, x2, x3, xf, xl⟩ := ((BV.below hb2).alloc (.cells #[.int .i64 (P : Int), fv 59 B, fv 60 B] 75)).four; obtain ⟨y0, y1, yf, yl⟩ := ((BB.below hb2).alloc (.cells #[.int .i64 (P : Int), fv 59 B, fv 60 B] 75)).two; obtain ⟨z0, z1, zf, zl⟩ := ((BR.below hb2).alloc (.cells #[.int .i64 (P : Int), fv 59 B, fv 60 B] 75)).two; have hal := (Below.refl w2.heap.size w2).alloc (Nat.le_refl _) (.cells #[.int .i64 (P : Int), fv 59 B, fv 60 B] 75)) | (go_at_call 50; refine (HA.out _ _ _ B (q1.below hal) (q2.below hal)).mono ?_; clear HA; rintro e w3 ⟨aA, kA, rfl, OA, hb3⟩; obtain ⟨x0, x1, x2, x3, xf, xl⟩ := (((BV.below hb2).below hal).below hb3).four; obtain ⟨t0, t1, t2, tf, tl⟩ := ((Blk.new w2 #[.int .i64 (P : Int), fv 59 B, fv 60 B] 75).below hb3).tri; obtain ⟨z0, z1, zf, zl⟩ := (((BR.below hb2).below hal).below hb3).two) | (go_at_call 50; refine (HB2.out _ _ _ B ((q1.below hal).below hb3) ((q2.below hal).below hb3)).mono ?_; rintro e w4 ⟨aB, kB, rfl, OB, hb4⟩))
      go_ret
      exact ⟨rfl, chain hb (chain (chain (chain hb2 hal) hb3) hb4)⟩
  · have hl : 0 < LA.length := List.length_pos_iff.2 eA
    have f1 : ((LA.length : Int) == 0) = false := by rw [beq_eq_false_iff_ne]; omega
    obtain rfl : DA = false := by rw [← hDA, decide_eq_false_iff_not]; exact eA
    rw [Bool.false_and]
    clear hDA eA hDB
    go_enter Tryz.func25, Tryz.ntmps25
    go_wp2_with (first | (go_at_call 38; refine (countsOf_any (P : Int) c h s a1 a2 n1 c1 n2 c2 xs ys _ h1 h2 (r1.below hb) (r2.below hb)).mono ?_; rintro e w2 ⟨B, rfl, q1, q2, hb2⟩; obtain ⟨x0, x1, x2, x3, xf, xl⟩ := (BV.below hb2).four; obtain ⟨y0, y1, yf, yl⟩ := (BB.below hb2).two; obtain ⟨z0, z1, zf, zl⟩ := (BR.below hb2).two; obtain ⟨t0, t1, t2, tf, tl⟩ := (Blk.new w2 #[.int .i64 (P : Int), fv 59 B, fv 60 B] 75).tri; obtain ⟨x0, x1, x2, x3, xf, xl⟩ := ((BV.below hb2).alloc (.cells #[.int .i64 (P : Int), fv 59 B, fv 60 B] 75)).four; obtain ⟨y0, y1, yf, yl⟩ := ((BB.below hb2).alloc (.cells #[.int .i64 (P : Int), fv 59 B, fv 60 B] 75)).two; obtain ⟨z0, z1, zf, zl⟩ := ((BR.below hb2).alloc (.cells #[.int .i64 (P : Int), fv 59 B, fv 60 B] 75)).two; have hal := (Below.refl w2.heap.size w2).alloc (Nat.le_refl _) (.cells #[.int .i64 (P : Int), fv 59 B, fv 60 B] 75)) | (go_at_call 50; refine (HA.out _ _ _ B (q1.below hal) (q2.below hal)).mono ?_; clear HA; rintro e w3 ⟨aA, kA, rfl, OA, hb3⟩; obtain ⟨x0, x1, x2, x3, xf, xl⟩ := (((BV.below hb2).below hal).below hb3).four; obtain ⟨t0, t1, t2, tf, tl⟩ := ((Blk.new w2 #[.int .i64 (P : Int), fv 59 B, fv 60 B] 75).below hb3).tri; obtain ⟨z0, z1, zf, zl⟩ := (((BR.below hb2).below hal).below hb3).two))
    go_ret
    exact ⟨rfl, chain hb (chain (chain hb2 hal) hb3)⟩
end Go.Proofs.YtknkbhmgdddjkaaGreat
namespace Go.Proofs.YtknkbhmgdddjkaaGreat
set_option maxRecDepth 20000
set_option linter.unusedVariables false

/-- The seed after a number. -/
def nxS (x : Int) : Int := 48271 * x % 2147483647
theorem nxS_seed {x : Int} (h : 1 ≤ x ∧ x ≤ 2147483646) : 1 ≤ nxS x ∧ nxS x ≤ 2147483646 := by
  unfold nxS
  omega
/-- The roll of two faces. -/
def prR (a b : Int) : Rl := (max a b, min a b)
theorem prR_A (a b : Int) : (prR a b).1 = max a b := rfl
theorem prR_B (a b : Int) : (prR a b).2 = min a b := rfl
theorem rollsTo_len2 : ∀ S : Nat, 2 * (rollsTo S).length = S * (S + 1)
  | 0 => by simp [rollsTo]
  | S + 1 => by
    have := rollsTo_len2 S
    rw [rollsTo, List.length_append, List.length_map, List.length_range, Nat.mul_add, this]
    simp only [Nat.mul_add, Nat.add_mul]
    omega
/-- Where a roll stands in the list of all rolls. -/
theorem rollsTo_num : ∀ (S i : Nat) (r : Rl), (rollsTo S)[i]? = some r → 2 * (i : Int) = r.1 * (r.1 - 1) + 2 * (r.2 - 1)
  | 0, i, r, h => by simp [rollsTo] at h
  | S + 1, i, r, h => by
    rw [rollsTo] at h
    by_cases hi : i < (rollsTo S).length
    · rw [List.getElem?_append_left hi] at h
      exact rollsTo_num S i r h
    · rw [List.getElem?_append_right (by omega)] at h
      have hl := rollsTo_len2 S
      obtain ⟨j, hj⟩ : ∃ j, j = i - (rollsTo S).length := ⟨_, rfl⟩
      rw [← hj] at h
      simp only [List.getElem?_map, Option.map_eq_some_iff] at h
      obtain ⟨k, hk, rfl⟩ := h
      have hk2 := List.getElem?_eq_some_iff.1 hk
      obtain ⟨hk3, hk4⟩ := hk2
      simp at hk4
      dsimp only
      have e : ((S : Int) + 1) * ((S : Int) + 1 - 1) = ((S * (S + 1) : Nat) : Int) := by
        rw [Int.natCast_mul, Int.natCast_add, Int.mul_comm]
        congr 1
        omega
      rw [e, ← hl]
      omega
theorem rollsTo_has : ∀ (S : Nat) (a b : Int), 1 ≤ b → b ≤ a → a ≤ (S : Int) → (a, b) ∈ rollsTo S
  | 0, a, b, h1, h2, h3 => by omega
  | S + 1, a, b, h1, h2, h3 => by
    rw [rollsTo, List.mem_append]
    by_cases h : a ≤ (S : Int)
    · exact .inl (rollsTo_has S a b h1 h2 h)
    · refine .inr (List.mem_map.2 ⟨(b - 1).toNat, List.mem_range.2 (by omega), ?_⟩)
      rw [show a = (S : Int) + 1 by omega, show (((b - 1).toNat : Nat) : Int) + 1 = b by omega]
/-- The rolls of all pairs of faces in order. -/
def prsTo (S : Nat) : Nat → List Rl
  | 0 => []
  | a + 1 => prsTo S a ++ (List.range S).map fun (j : Nat) => prR ((a : Int) + 1) ((j : Int) + 1)
def prsRow (S a j : Nat) : List Rl := prsTo S a ++ (List.range j).map fun (j : Nat) => prR ((a : Int) + 1) ((j : Int) + 1)
theorem prsRow_succ (S a j : Nat) : prsRow S a (j + 1) = prsRow S a j ++ [prR ((a : Int) + 1) ((j : Int) + 1)] := by simp [prsRow, List.range_succ]
theorem prsRow_zero (S a : Nat) : prsRow S a 0 = prsTo S a := by simp [prsRow]
theorem prsRow_full (S a : Nat) : prsRow S a S = prsTo S (a + 1) := rfl
theorem prsTo_length (S : Nat) : ∀ a, (prsTo S a).length = a * S
  | 0 => by simp [prsTo]
  | a + 1 => by rw [prsTo, List.length_append, List.length_map, List.length_range, prsTo_length S a, Nat.add_mul]; omega
theorem prsRow_length (S a j : Nat) : (prsRow S a j).length = a * S + j := by
  rw [prsRow, List.length_append, List.length_map, List.length_range, prsTo_length]
def prs (S : Nat) : List Rl := prsTo S S
/-- The numbers of the pairs. -/
def nums (m : Nat) : List Int := (List.range m).map fun (k : Nat) => (k : Int)
def ofNum (S x : Int) : Rl := prR (1 + x / S) (1 + x % S)
theorem prs_nums (S : Nat) (h : S ≤ 6) : prs S = (nums (S * S)).map (ofNum S) := by
  have : S = 0 ∨ S = 1 ∨ S = 2 ∨ S = 3 ∨ S = 4 ∨ S = 5 ∨ S = 6 := by omega
  rcases this with rfl | rfl | rfl | rfl | rfl | rfl | rfl <;> decide
/-- Two elements of a list exchanged. -/
def swp {α : Type} (l : List α) (i k : Nat) : List α :=
  match l[i]?, l[k]? with
  | some x, some y => (l.set i y).set k x
  | _, _ => l
theorem swp_length {α : Type} (l : List α) (i k : Nat) : (swp l i k).length = l.length := by
  unfold swp
  split <;> simp
theorem swp_some {α : Type} {l : List α} {i k : Nat} {x y : α} (h1 : l[i]? = some x) (h2 : l[k]? = some y) : swp l i k = (l.set i y).set k x := by
  unfold swp
  rw [h1, h2]
theorem swp_map {α β : Type} (f : α → β) (l : List α) (i k : Nat) : swp (l.map f) i k = (swp l i k).map f := by
  unfold swp
  rw [List.getElem?_map, List.getElem?_map]
  cases l[i]? <;> cases l[k]? <;> simp [List.map_set]
theorem swp_mem {α : Type} (l : List α) (i k : Nat) (z : α) (h : z ∈ swp l i k) : z ∈ l := by
  unfold swp at h
  split at h
  · rename_i x y h1 h2
    rcases List.mem_or_eq_of_mem_set h with h | rfl
    · rcases List.mem_or_eq_of_mem_set h with h | rfl
      · exact h
      · exact List.mem_of_getElem? h2
    · exact List.mem_of_getElem? h1
  · exact h
theorem set_count {α : Type} [BEq α] [LawfulBEq α] : ∀ (l : List α) (i : Nat) (x y z : α), l[i]? = some x → (l.set i y).count z + (if x == z then 1 else 0) = l.count z + (if y == z then 1 else 0)
  | [], i, x, y, z, h => by simp at h
  | u :: l, 0, x, y, z, h => by
    simp at h
    subst h
    simp only [List.set_cons_zero, List.count_cons]
    omega
  | u :: l, i + 1, x, y, z, h => by
    have := set_count l i x y z (by simpa using h)
    simp only [List.set_cons_succ, List.count_cons]
    omega
theorem swp_count {α : Type} [BEq α] [LawfulBEq α] (l : List α) (i k : Nat) (z : α) : (swp l i k).count z = l.count z := by
  unfold swp
  split
  · rename_i x y h1 h2
    have e1 := set_count l i x y z h1
    by_cases hik : k = i
    · subst hik
      rw [h1] at h2
      cases h2
      have e2 := set_count (l.set k x) k x x z (by rw [List.getElem?_set_self (by have := (List.getElem?_eq_some_iff.1 h1).1; omega)])
      omega
    · have e2 := set_count (l.set i y) k y x z (by rw [List.getElem?_set_ne (fun e => hik e.symm)]; exact h2)
      omega
  · rfl
/-- A list shuffled from its place i down, and the seed with which that ends. -/
def shuf {α : Type} : Nat → List α → Int → List α × Int
  | 0, l, s => (l, s)
  | i + 1, l, s => shuf i (swp l (i + 1) (nxS s % ((i : Int) + 1 + 1)).toNat) (nxS s)
theorem shuf_length {α : Type} : ∀ (i : Nat) (l : List α) (s : Int), (shuf i l s).1.length = l.length
  | 0, l, s => rfl
  | i + 1, l, s => by rw [shuf, shuf_length i, swp_length]
theorem shuf_map {α β : Type} (f : α → β) : ∀ (i : Nat) (l : List α) (s : Int), shuf i (l.map f) s = ((shuf i l s).1.map f, (shuf i l s).2)
  | 0, l, s => rfl
  | i + 1, l, s => by rw [shuf, swp_map, shuf_map f i, shuf]
theorem shuf_mem {α : Type} : ∀ (i : Nat) (l : List α) (s : Int) (z : α), z ∈ (shuf i l s).1 → z ∈ l
  | 0, l, s, z, h => h
  | i + 1, l, s, z, h => by
    rw [shuf] at h
    exact swp_mem _ _ _ _ (shuf_mem i _ _ z h)
theorem shuf_count {α : Type} [BEq α] [LawfulBEq α] : ∀ (i : Nat) (l : List α) (s : Int) (z : α), (shuf i l s).1.count z = l.count z
  | 0, l, s, z => rfl
  | i + 1, l, s, z => by rw [shuf, shuf_count i, swp_count]
theorem shuf_seed {α : Type} : ∀ (i : Nat) (l : List α) (s : Int), 1 ≤ s ∧ s ≤ 2147483646 → 1 ≤ (shuf i l s).2 ∧ (shuf i l s).2 ≤ 2147483646
  | 0, l, s, h => h
  | i + 1, l, s, h => by rw [shuf]; exact shuf_seed i _ _ (nxS_seed h)
/-- One group of stratified rolls. -/
def grpL (S : Nat) (s : Int) : List Rl := (shuf (S * S - 1) (prs S) s).1
def grpS (S : Nat) (s : Int) : Int := (shuf (S * S - 1) (prs S) s).2
theorem grpL_length (S : Nat) (s : Int) : (grpL S s).length = S * S := by rw [grpL, shuf_length, prs, prsTo_length]
theorem grpS_seed (S : Nat) (s : Int) (h : 1 ≤ s ∧ s ≤ 2147483646) : 1 ≤ grpS S s ∧ grpS S s ≤ 2147483646 := shuf_seed _ _ _ h
/-- The model's group: of numbers, turned into rolls behind the shuffle. -/
theorem grp_nums (S : Nat) (h : S ≤ 6) (s : Int) : grpL S s = (shuf (S * S - 1) (nums (S * S)) s).1.map (ofNum S) ∧ grpS S s = (shuf (S * S - 1) (nums (S * S)) s).2 := by
  unfold grpL grpS
  rw [prs_nums S h, shuf_map]
  exact ⟨rfl, rfl⟩
/-- The seed behind some groups, and their rolls. -/
def strS (S : Nat) (s : Int) : Nat → Int
  | 0 => s
  | g + 1 => grpS S (strS S s g)
def strL (S : Nat) (s : Int) : Nat → List Rl
  | 0 => []
  | g + 1 => strL S s g ++ grpL S (strS S s g)
theorem strS_seed (S : Nat) (s : Int) (h : 1 ≤ s ∧ s ≤ 2147483646) : ∀ g, 1 ≤ strS S s g ∧ strS S s g ≤ 2147483646
  | 0 => h
  | g + 1 => grpS_seed S _ (strS_seed S s h g)
theorem strL_length (S : Nat) (s : Int) : ∀ g, (strL S s g).length = g * (S * S)
  | 0 => by simp [strL]
  | g + 1 => by rw [strL, List.length_append, grpL_length, strL_length S s g, Nat.add_mul, Nat.one_mul]
theorem strL_more (S : Nat) (s : Int) (g : Nat) : ∀ k, ∃ t, strL S s (g + k) = strL S s g ++ t
  | 0 => ⟨[], by simp⟩
  | k + 1 => by
    obtain ⟨t, ht⟩ := strL_more S s g k
    exact ⟨t ++ grpL S (strS S s (g + k)), by rw [← Nat.add_assoc, strL, ht, List.append_assoc]⟩
/-- The first n stratified rolls. -/
def strN (S : Nat) (s : Int) (n : Nat) : List Rl := (strL S s n).take n
theorem strN_of (S : Nat) (s : Int) (n g : Nat) (hS : 1 ≤ S) (h : n ≤ (strL S s g).length) : (strL S s g).take n = strN S s n := by
  have hn : n ≤ (strL S s n).length := by
    rw [strL_length]
    exact Nat.le_mul_of_pos_right n (Nat.mul_pos hS hS)
  unfold strN
  rcases Nat.le_total g n with hg | hg
  · obtain ⟨t, ht⟩ := strL_more S s g (n - g)
    rw [show g + (n - g) = n by omega] at ht
    rw [ht, List.take_append_of_le_length h]
  · obtain ⟨t, ht⟩ := strL_more S s n (g - n)
    rw [show n + (g - n) = g by omega] at ht
    rw [ht, List.take_append_of_le_length hn]
theorem strN_length (S : Nat) (s : Int) (n : Nat) (hS : 1 ≤ S) : (strN S s n).length = n := by
  unfold strN
  rw [List.length_take, strL_length, Nat.min_eq_left]
  exact Nat.le_mul_of_pos_right n (Nat.mul_pos hS hS)
/-- The first group is the first rolls. -/
theorem strN_group (S : Nat) (s : Int) (hS : 1 ≤ S) : strN S s (S * S) = grpL S s := by
  have h := strN_of S s (S * S) 1 hS (by rw [strL_length]; omega)
  rw [← h]
  simp [strL, strS]
  exact List.take_of_length_le (Nat.le_of_eq (grpL_length S s))
/-- Fewer rolls are a beginning of more. -/
theorem strN_at (S : Nat) (s : Int) (m n i : Nat) (hS : 1 ≤ S) (h1 : i < m) (h2 : i < n) : (strN S s m)[i]? = (strN S s n)[i]? := by
  have hm : (strL S s (m + n)).length = (m + n) * (S * S) := strL_length S s (m + n)
  have hle : m + n ≤ (m + n) * (S * S) := Nat.le_mul_of_pos_right _ (Nat.mul_pos hS hS)
  rw [← strN_of S s m (m + n) hS (by omega), ← strN_of S s n (m + n) hS (by omega), List.getElem?_take_of_lt h1, List.getElem?_take_of_lt h2]
/-- The weight of a roll. -/
def wgR (r : Rl) : Int := if r.1 = r.2 then 1 else 2
/-- A group has each roll as often as its weight. -/
theorem prs_count (S : Nat) (h : S ≤ 6) : ∀ r, r ∈ rollsTo S → ((prs S).count r : Int) = wgR r := by
  have : S = 0 ∨ S = 1 ∨ S = 2 ∨ S = 3 ∨ S = 4 ∨ S = 5 ∨ S = 6 := by omega
  rcases this with rfl | rfl | rfl | rfl | rfl | rfl | rfl <;> decide
theorem grp_count (S : Nat) (h : S ≤ 6) (s : Int) (r : Rl) (hr : r ∈ rollsTo S) : ((grpL S s).count r : Int) = wgR r := by
  rw [grpL, shuf_count]
  exact prs_count S h r hr
/-- The weights of the first rolls. -/
def wgTo (l : List Rl) (k : Nat) : Int := ((l.take k).map wgR).sum
theorem wgTo_zero (l : List Rl) : wgTo l 0 = 0 := by simp [wgTo]
theorem wgTo_succ (l : List Rl) (k : Nat) (r : Rl) (h : l[k]? = some r) : wgTo l (k + 1) = wgTo l k + wgR r := by
  unfold wgTo
  obtain ⟨hk, rfl⟩ := List.getElem?_eq_some_iff.1 h
  rw [List.take_succ_eq_append_getElem hk, List.map_append, List.sum_append]
  simp
theorem wgTo_bound (l : List Rl) : ∀ k : Nat, 0 ≤ wgTo l k ∧ wgTo l k ≤ 2 * (k : Int)
  | 0 => by simp [wgTo]
  | k + 1 => by
    have := wgTo_bound l k
    by_cases h : k < l.length
    · rw [wgTo_succ l k _ (List.getElem?_eq_getElem h)]
      unfold wgR
      split <;> omega
    · have e : wgTo l (k + 1) = wgTo l k := by
        unfold wgTo
        rw [List.take_of_length_le (by omega), List.take_of_length_le (by omega)]
      omega
theorem wgTo_all (S : Nat) (h : S ≤ 6) : wgTo (rollsTo S) (rollsTo S).length = (S : Int) * S := by
  have : S = 0 ∨ S = 1 ∨ S = 2 ∨ S = 3 ∨ S = 4 ∨ S = 5 ∨ S = 6 := by omega
  rcases this with rfl | rfl | rfl | rfl | rfl | rfl | rfl <;> decide
/-- The seed behind some rolls, and the rolls. -/
def sdN (s : Int) : Nat → Int
  | 0 => s
  | k + 1 => nxS (nxS (sdN s k))
theorem sdN_seed (s : Int) (h : 1 ≤ s ∧ s ≤ 2147483646) : ∀ k, 1 ≤ sdN s k ∧ sdN s k ≤ 2147483646
  | 0 => h
  | k + 1 => nxS_seed (nxS_seed (sdN_seed s h k))
/-- The roll from a seed. -/
def frR (S s : Int) : Rl := prR (1 + nxS s % S) (1 + nxS (nxS s) % S)
def frN (S s : Int) (n : Nat) : List Rl := (List.range n).map fun k => frR S (sdN s k)
theorem frN_length (S s : Int) (n : Nat) : (frN S s n).length = n := by simp [frN]
theorem frN_succ (S s : Int) (n : Nat) : frN S s (n + 1) = frN S s n ++ [frR S (sdN s n)] := by simp [frN, List.range_succ]
theorem frN_at (S s : Int) (n k : Nat) (h : k < n) : (frN S s n)[k]? = some (frR S (sdN s k)) := by simp [frN, h]
end Go.Proofs.YtknkbhmgdddjkaaGreat
namespace Go.Proofs.YtknkbhmgdddjkaaGreat
open Go.ChangeShapes Go.WideShapes Go.ChangeAt Go.RowKit
set_option linter.unusedVariables false
set_option linter.unusedSimpArgs false
set_option maxRecDepth 4000

theorem isDouble_any (ra rb : Int) (w : World) :
    Calls Tryz.prog 51 #[.agg #[.int .i64 ra, .int .i64 rb]] w fun e w' => e = .returned (.bool (decide (ra = rb))) ∧ Below w.heap.size w w' := by
  have hb : Below w.heap.size w (w.alloc (.cells #[.int .i64 ra, .int .i64 rb] 40)) := (Below.refl _ _).alloc (Nat.le_refl _) _
  obtain ⟨x0, x1, xf, xl⟩ := (Blk.new w #[.int .i64 ra, .int .i64 rb] 40).two
  by_cases e : ra = rb
  · subst e
    rw [decide_eq_true rfl]
    go_enter Tryz.func51, Tryz.ntmps51
    go_wp2
    go_ret
    exact ⟨rfl, hb⟩
  · have f0 : (ra == rb) = false := by rw [beq_eq_false_iff_ne]; exact e
    have f1 : (rb == ra) = false := by rw [beq_eq_false_iff_ne]; exact fun q => e q.symm
    rw [decide_eq_false e]
    go_enter Tryz.func51, Tryz.ntmps51
    go_wp2
    go_ret
    exact ⟨rfl, hb⟩
theorem implWeight_any (ra rb : Int) (w : World) :
    Calls Tryz.prog 26 #[.agg #[.int .i64 ra, .int .i64 rb]] w fun e w' => e = .returned (.int .i64 (if ra = rb then 1 else 2)) ∧ Below w.heap.size w w' := by
  have hb : Below w.heap.size w (w.alloc (.cells #[.int .i64 ra, .int .i64 rb] 40)) := (Below.refl _ _).alloc (Nat.le_refl _) _
  obtain ⟨x0, x1, xf, xl⟩ := (Blk.new w #[.int .i64 ra, .int .i64 rb] 40).two
  have hd := fun W => isDouble_any ra rb W
  by_cases e : ra = rb
  · rw [decide_eq_true e] at hd
    rw [if_pos e]
    have HD := Lib.hid hd
    clear hd e
    go_enter Tryz.func26, Tryz.ntmps26
    go_wp2_with (go_at_call 51; refine (HD.out _).mono ?_; rintro e w1 ⟨rfl, hb1⟩)
    go_ret
    exact ⟨rfl, chain hb hb1⟩
  · rw [decide_eq_false e] at hd
    rw [if_neg e]
    have HD := Lib.hid hd
    clear hd e
    go_enter Tryz.func26, Tryz.ntmps26
    go_wp2_with (go_at_call 51; refine (HD.out _).mono ?_; rintro e w1 ⟨rfl, hb1⟩)
    go_ret
    exact ⟨rfl, chain hb hb1⟩
theorem rollOfFaces_any (a b : Int) (w : World) :
    Calls Tryz.prog 76 #[.int .i64 a, .int .i64 b] w fun e w' => e = .returned (.agg #[.int .i64 (prR a b).1, .int .i64 (prR a b).2]) ∧ Below w.heap.size w w' := by
  have BR := Blk.new w #[.int .i64 (max a b), .int .i64 (min a b)] 40
  have hb : Below w.heap.size w (w.alloc (.cells #[.int .i64 (max a b), .int .i64 (min a b)] 40)) := (Below.refl _ _).alloc (Nat.le_refl _) _
  obtain ⟨x0, x1, xf, xl⟩ := BR.two
  rw [prR_A, prR_B]
  go_enter Tryz.func76, Tryz.ntmps76
  go_wp2
  refine bodyPost_ret (v := .agg #[.int .i64 (max a b), .int .i64 (min a b)]) (by simp [results, Tryz.results76, go_sem, x0, x1]) rfl ⟨rfl, hb⟩
end Go.Proofs.YtknkbhmgdddjkaaGreat
