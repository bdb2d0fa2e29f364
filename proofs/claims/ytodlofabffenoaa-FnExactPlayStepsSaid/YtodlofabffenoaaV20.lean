/- Texts of a proof, laid together. -/
import Derived.Test.YtodlofabffenoaaV19
import Derived.Lib.MinMax
import Derived.Test.YtodlofabffenoaaV04
import Derived.Test.YtodlofabffenoaaV01
import Derived.Laws.StructEq
import Derived.IntWalk
import Derived.Deep.QuietTactic
import Derived.Test.YtodlofabffenoaaV17
namespace Go.Proofs.Ytodlofabffenoaa
open Go.ChangeShapes Go.WideShapes Go.ChangeAt Go.RowKit
set_option linter.unusedVariables false
set_option linter.unusedSimpArgs false
set_option maxRecDepth 4000
def OrdersGot (os : List (List Int)) (w : World) (e : Ending) (w' : World) : Prop :=
  ∃ g, e = .returned (.slice (some ⟨g, 0, none⟩) os.length os.length) ∧ (∀ j o, os[j]? = some o → ∃ gj, w'.cell? ⟨g, j, none⟩ = some (.slice (some ⟨gj, 0, none⟩) o.length o.length) ∧ Row w' gj o) ∧ Below w.heap.size w w'
theorem Row.of_blk {w : World} {g : Nat} {vs : Array Value} {xs : List Int} (h : Blk w g vs 2) (e : vs.toList = ints xs) : Row w g xs := by
  have hl : vs.size = xs.length := by rw [← Array.length_toList, e]; simp [ints]
  exact ⟨vs, h, by omega, by rw [e]; exact List.take_of_length_le (by simp [ints])⟩
set_option maxHeartbeats 1000000 in
theorem l05Orders_any (ra rb : Int) (w : World) :
    Calls Try.prog 20 #[.agg #[.int .i64 ra, .int .i64 rb]] w (OrdersGot (ordersP ra rb) w) := by
  have BR := Blk.new w #[.int .i64 ra, .int .i64 rb] 38
  have hb : Below w.heap.size w (w.alloc (.cells #[.int .i64 ra, .int .i64 rb] 38)) := (Below.refl _ _).alloc (Nat.le_refl _) _
  have hz : (w.alloc (.cells #[.int .i64 ra, .int .i64 rb] 38)).heap.size = w.heap.size + 1 := by simp
  obtain ⟨x0, x1, xf, xl⟩ := BR.two
  by_cases e : ra = rb
  · subst e
    have e1 : ordersP ra ra = [[ra, ra, ra, ra]] := by simp [ordersP]
    rw [e1]
    go_enter Try.func20, Try.ntmps20
    go_wp2
    refine bodyPost_ret (v := .slice (some ⟨w.heap.size + 1 + 1, 0, none⟩) 1 1) (by simp [results, Try.results20, go_sem]) rfl ?_
    generalize (w.alloc (.cells #[.int .i64 ra, .int .i64 ra] 38)) = v0 at *
    have B1 := Blk.new v0 #[.int .i64 ra, .int .i64 ra, .int .i64 ra, .int .i64 ra] 2
    have B2 := Blk.new (v0.alloc (.cells #[.int .i64 ra, .int .i64 ra, .int .i64 ra, .int .i64 ra] 2)) #[.slice (some ⟨w.heap.size + 1, 0, none⟩) 4 4] 24
    rw [World.size_alloc, hz] at B2
    rw [hz] at B1
    refine ⟨_, rfl, fun j o hj => ?_, (hb.alloc hb.size _).alloc (Nat.le_trans hb.size (by simp)) _⟩
    cases j with
    | zero =>
      simp at hj
      subst hj
      exact ⟨w.heap.size + 1, by simpa using B2.cell 0, Row.of_blk (B1.alloc _) rfl⟩
    | succ j => simp at hj
  · have f0 : (ra == rb) = false := by rw [beq_eq_false_iff_ne]; exact e
    have e1 : ordersP ra rb = [[ra, rb], [rb, ra]] := by simp [ordersP, e]
    rw [e1]
    go_enter Try.func20, Try.ntmps20
    go_wp2
    refine bodyPost_ret (v := .slice (some ⟨w.heap.size + 1 + 1 + 1, 0, none⟩) 2 2) (by simp [results, Try.results20, go_sem]) rfl ?_
    generalize (w.alloc (.cells #[.int .i64 ra, .int .i64 rb] 38)) = v0 at *
    have B1 := Blk.new v0 #[.int .i64 ra, .int .i64 rb] 2
    have B2 := Blk.new (v0.alloc (.cells #[.int .i64 ra, .int .i64 rb] 2)) #[.int .i64 rb, .int .i64 ra] 2
    have B3 := Blk.new ((v0.alloc (.cells #[.int .i64 ra, .int .i64 rb] 2)).alloc (.cells #[.int .i64 rb, .int .i64 ra] 2)) #[.slice (some ⟨w.heap.size + 1, 0, none⟩) 2 2, .slice (some ⟨w.heap.size + 1 + 1, 0, none⟩) 2 2] 24
    rw [World.size_alloc, World.size_alloc, hz] at B3
    rw [World.size_alloc, hz] at B2
    rw [hz] at B1
    refine ⟨_, rfl, fun j o hj => ?_, ((hb.alloc hb.size _).alloc (Nat.le_trans hb.size (by simp)) _).alloc (Nat.le_trans hb.size (by simp; omega)) _⟩
    rcases (by omega : j = 0 ∨ j = 1 ∨ 2 ≤ j) with rfl | rfl | h2
    · simp at hj
      subst hj
      exact ⟨w.heap.size + 1, by simpa using B3.cell 0, Row.of_blk ((B1.alloc _).alloc _) rfl⟩
    · simp at hj
      subst hj
      exact ⟨w.heap.size + 1 + 1, by simpa using B3.cell 1, Row.of_blk (B2.alloc _) rfl⟩
    · obtain ⟨j, rfl⟩ := Nat.exists_eq_add_of_le h2
      rw [Nat.add_comm] at hj
      simp at hj
theorem ordersP_mem {ra rb s : Int} {j : Nat} {o : List Int} (ha : inB ra 1 s = true) (hb : inB rb 1 s = true) (h : (ordersP ra rb)[j]? = some o) : o.length ≤ 4 ∧ ∀ d ∈ o, inB d 1 s = true := by
  have hm := List.mem_of_getElem? h
  unfold ordersP at hm
  split at hm
  · simp at hm
    subst hm
    exact ⟨by simp, fun d hd => by simp at hd; rw [hd]; exact ha⟩
  · simp at hm
    rcases hm with rfl | rfl
    · exact ⟨by simp, fun d hd => by simp at hd; rcases hd with rfl | rfl <;> assumption⟩
    · exact ⟨by simp, fun d hd => by simp at hd; rcases hd with rfl | rfl <;> assumption⟩
theorem ordersP_length (ra rb : Int) : (ordersP ra rb).length ≤ 2 := by
  unfold ordersP
  split <;> simp
def usedTo (P : Nat) (h : Int) (xs ys : List Int) (os : List (List Int)) (k : Nat) : Nat := ((os.take k).map (fun o => longN P h o (startP xs ys))).foldl max 0
theorem usedTo_succ (P : Nat) (h : Int) (xs ys : List Int) (os : List (List Int)) (k : Nat) (o : List Int) (ho : os[k]? = some o) : usedTo P h xs ys os (k + 1) = max (usedTo P h xs ys os k) (longN P h o (startP xs ys)) := by
  unfold usedTo
  rw [List.take_add_one, ho]
  simp
theorem usedTo_all (P : Nat) (h : Int) (xs ys : List Int) (ra rb : Int) : usedTo P h xs ys (ordersP ra rb) (ordersP ra rb).length = usedP P h xs ys ra rb := by
  unfold usedTo usedP
  rw [List.take_length]
theorem usedTo_le (P : Nat) (h : Int) (xs ys : List Int) (ra rb : Int) (k : Nat) : usedTo P h xs ys (ordersP ra rb) k ≤ 4 := by
  have h1 : ∀ (l : List Nat) (m : Nat), m ≤ 4 → (∀ x ∈ l, x ≤ 4) → l.foldl max m ≤ 4 := by
    intro l
    induction l with
    | nil => intro m hm _; exact hm
    | cons a l ih => intro m hm hl; exact ih _ (by have := hl a (by simp); omega) (fun x hx => hl x (by simp [hx]))
  refine h1 _ 0 (by omega) (fun x hx => ?_)
  obtain ⟨o, ho, rfl⟩ := List.mem_map.1 hx
  have hm := List.mem_of_mem_take ho
  have hl : o.length ≤ 4 := by
    unfold ordersP at hm
    split at hm
    · simp at hm; subst hm; simp
    · simp at hm; rcases hm with rfl | rfl <;> simp
  exact Nat.le_trans (longN_le P h o _) hl
set_option maxRecDepth 8000 in
set_option maxHeartbeats 1000000 in
theorem l05Used_any (P : Nat) (c h s ra rb : Int) (a1 a2 : Option Addr) (n1 n2 c1 c2 : Nat) (xs ys : List Int) (w : World) (h1 : xs.length = n1) (h2 : ys.length = n2) (r1 : IRow w a1 xs) (r2 : IRow w a2 ys) (g : isB (P : Int) c h s xs ys = true) (ha : inB ra 1 s = true) (hbb : inB rb 1 s = true) :
    Calls Try.prog 19 #[.agg #[.int .i64 (P : Int), .int .i64 c, .int .i64 h, .int .i64 s], .agg #[.slice a1 n1 c1, .slice a2 n2 c2], .agg #[.int .i64 ra, .int .i64 rb]] w fun e w' => e = .returned (.int .i64 ((usedP P h xs ys ra rb : Nat) : Int)) ∧ Below w.heap.size w w' := by
  obtain ⟨BV, BB, BR, hb, hz⟩ := three_new w #[.int .i64 (P : Int), .int .i64 c, .int .i64 h, .int .i64 s] #[.slice a1 n1 c1, .slice a2 n2 c2] #[.int .i64 ra, .int .i64 rb] 35 32 38
  have hz1 : w.heap.size + 1 + 1 + 1 ≤ (((w.alloc (.cells #[.int .i64 (P : Int), .int .i64 c, .int .i64 h, .int .i64 s] 35)).alloc (.cells #[.slice a1 n1 c1, .slice a2 n2 c2] 32)).alloc (.cells #[.int .i64 ra, .int .i64 rb] 38)).heap.size := by rw [hz]; omega
  clear hz
  replace r1 := r1.below hb
  replace r2 := r2.below hb
  have HG := Lib.hid g
  have HOM := Lib.hid (fun j o ho => ordersP_mem (j := j) (o := o) ha hbb ho)
  have HOL := ordersP_length ra rb
  have hall := usedTo_all P h xs ys ra rb
  have hule := usedTo_le P h xs ys ra rb
  have HUS := Lib.hid (fun k o ho => usedTo_succ P h xs ys (ordersP ra rb) k o ho)
  have hor := fun W => l05Orders_any ra rb W
  obtain ⟨OS, hOS⟩ : ∃ z, ordersP ra rb = z := ⟨_, rfl⟩
  rw [hOS] at hor HOM HOL hall hule HUS
  obtain ⟨U, hU⟩ : ∃ z, usedP P h xs ys ra rb = z := ⟨_, rfl⟩
  rw [hU] at hall ⊢
  have HALL := Lib.hid hall
  have HULE := Lib.hid hule
  have HOR := Lib.hid hor
  clear hOS hU hall hule hor g ha hbb
  obtain ⟨x0, x1, x2, x3, xf, xl⟩ := BV.four
  obtain ⟨y0, y1, yf, yl⟩ := BB.two
  obtain ⟨z0, z1, zf, zl⟩ := BR.two
  go_enter Try.func19, Try.ntmps19
  go_wp2_with fail
  clear x0 x1 x2 x3 xf xl y0 y1 yf yl z0 z1 zf zl
  generalize (((w.alloc (.cells #[.int .i64 (P : Int), .int .i64 c, .int .i64 h, .int .i64 s] 35)).alloc (.cells #[.slice a1 n1 c1, .slice a2 n2 c2] 32)).alloc (.cells #[.int .i64 ra, .int .i64 rb] 38)) = v0 at *
  refine (HOR.out _).mono ?_
  rintro e w1 ⟨gO, rfl, hcells, hb1⟩
  have HC := Lib.hid hcells
  clear hcells
  go_wp2_with fail
  go_loopg [7, 9, 10, 11, 12] OS.length (fun m q7 q9 q10 q11 q12 wr => ∃ i : Nat, i ≤ OS.length ∧ m = OS.length - i ∧ q9 = .int .i64 i ∧ q7 = .int .i64 ((usedTo P h xs ys OS i : Nat) : Int) ∧ Below w1.heap.size w1 wr)
  case atStart => exact ⟨0, by omega, by omega, rfl, by simp [usedTo], Below.refl _ _⟩
  case round =>
    obtain ⟨i, hi, hm, rfl, rfl, hbq⟩ := hrel
    have hbel := chain hb1 hbq
    have hul := HULE.out i
    by_cases hlt : i < OS.length
    · have hlt' : (i : Int) < (OS.length : Int) := by omega
      have hi0 : (0 : Int) ≤ (i : Int) := by omega
      obtain ⟨od, hod⟩ : ∃ o, OS[i]? = some o := ⟨_, List.getElem?_eq_getElem hlt⟩
      obtain ⟨gj, hcj, hRj⟩ := HC.out i od hod
      obtain ⟨ho4, hodd⟩ := HOM.out i od hod
      have hus := HUS.out i od hod
      have hNle := longN_le P h od (startP xs ys)
      have hlg := fun W (hW : Below wr.heap.size wr W) => l05Longest_any P c h s a1 a2 (some ⟨gj, 0, none⟩) n1 n2 od.length c1 c2 od.length xs ys od W h1 h2 rfl ho4 (r1.below (chain hbel hW)) (r2.below (chain hbel hW)) (hRj.below (chain hbq hW)).irow HG.out hodd
      obtain ⟨NN, hNN⟩ : ∃ z, longN P h od (startP xs ys) = z := ⟨_, rfl⟩
      obtain ⟨FF, hFF⟩ : ∃ z, fineP P h od (startP xs ys) = z := ⟨_, rfl⟩
      obtain ⟨UU, hUU⟩ : ∃ z, usedTo P h xs ys OS i = z := ⟨_, rfl⟩
      rw [hNN, hFF] at hlg
      rw [hNN, hUU] at hus
      rw [hNN] at hNle
      rw [hUU] at hul ⊢
      have HLG := Lib.hid hlg
      have HUS2 := Lib.hid hus
      obtain ⟨MM, hMM⟩ : ∃ z : Int, max (UU : Int) (NN : Int) = z := ⟨_, rfl⟩
      have hmx : MM = ((max UU NN : Nat) : Int) := by omega
      have HMX := Lib.hid hmx
      clear hmx
      clear hlg hus hNN hFF hUU hRj hodd hod
      obtain ⟨x0, x1, x2, x3, xf, xl⟩ := (BV.below hbel).four
      obtain ⟨y0, y1, yf, yl⟩ := (BB.below hbel).two
      go_wp2_with fail
      clear x0 x1 x2 x3 xf xl y0 y1 yf yl
      refine wp_region_held_drew (S := fun w' => w'.cell? ⟨w.heap.size, 0, none⟩ = some (.int .i64 (P : Int)) ∧ w'.cell? ⟨w.heap.size, 1, none⟩ = some (.int .i64 c) ∧ w'.cell? ⟨w.heap.size, 2, none⟩ = some (.int .i64 h) ∧ w'.cell? ⟨w.heap.size, 3, none⟩ = some (.int .i64 s) ∧ w'.cell? ⟨w.heap.size + 1, 0, none⟩ = some (.slice a1 n1 c1) ∧ w'.cell? ⟨w.heap.size + 1, 1, none⟩ = some (.slice a2 n2 c2) ∧ w'.cell? ⟨gO, i, none⟩ = some (.slice (some ⟨gj, 0, none⟩) od.length od.length)) (by kernel_rfl) ⟨(BV.below (chain hbel (Below.refl _ _).drew)).four.1, (BV.below (chain hbel (Below.refl _ _).drew)).four.2.1, (BV.below (chain hbel (Below.refl _ _).drew)).four.2.2.1, (BV.below (chain hbel (Below.refl _ _).drew)).four.2.2.2.1, (BB.below (chain hbel (Below.refl _ _).drew)).two.1, (BB.below (chain hbel (Below.refl _ _).drew)).two.2.1, CellIs.below hcj (chain hbq (Below.refl _ _).drew)⟩ (fun hHeld => ?_)
      refine wpAnyH_take (i := 0) (oi := ⟨some 22, _, _, _, _, _⟩) (v := ?_) rfl (by kernel_rfl) (by kernel_rfl) (by kernel_rfl) (fun _ _ _ h => h) (Or.inl ⟨by rfl, ?_⟩) (by assumption) ?_
      rotate_left
      · intro w hSw; (try dsimp only at hSw); go_simp; (try (with_reducible rfl))
      try simp only [Act.put, List.setIfInBounds_toArray, List.set_cons_zero, List.set_cons_succ]
      refine wpAnyH_take (i := 1) (oi := ⟨some 23, _, _, _, _, _⟩) (v := ?_) rfl (by kernel_rfl) (by kernel_rfl) (by kernel_rfl) (fun _ _ _ h => h) (Or.inl ⟨by rfl, ?_⟩) (by assumption) ?_
      rotate_left
      · intro w hSw; (try dsimp only at hSw); go_simp; (try (with_reducible rfl))
      try simp only [Act.put, List.setIfInBounds_toArray, List.set_cons_zero, List.set_cons_succ]
      refine wpAnyH_take (i := 2) (oi := ⟨some 24, _, _, _, _, _⟩) (v := ?_) rfl (by kernel_rfl) (by kernel_rfl) (by kernel_rfl) (fun _ _ _ h => h) (Or.inl ⟨by rfl, ?_⟩) (by assumption) ?_
      rotate_left
      · intro w hSw; (try dsimp only at hSw); go_simp; (try (with_reducible rfl))
      try simp only [Act.put, List.setIfInBounds_toArray, List.set_cons_zero, List.set_cons_succ]
      refine wpAnyH_take (i := 3) (oi := ⟨some 25, _, _, _, _, _⟩) (v := ?_) rfl (by kernel_rfl) (by kernel_rfl) (by kernel_rfl) (fun _ _ _ h => h) (Or.inl ⟨by rfl, ?_⟩) (by assumption) ?_
      rotate_left
      · intro w hSw; (try dsimp only at hSw); go_simp; (try (with_reducible rfl))
      try simp only [Act.put, List.setIfInBounds_toArray, List.set_cons_zero, List.set_cons_succ]
      refine wpAnyH_take (i := 4) (oi := ⟨some 26, _, _, _, _, _⟩) (v := ?_) rfl (by kernel_rfl) (by kernel_rfl) (by kernel_rfl) (fun _ _ _ h => h) (Or.inl ⟨by rfl, ?_⟩) (by assumption) ?_
      rotate_left
      · intro w hSw; (try dsimp only at hSw); go_simp; (try (with_reducible rfl))
      try simp only [Act.put, List.setIfInBounds_toArray, List.set_cons_zero, List.set_cons_succ]
      refine wpAnyH_take (i := 5) (oi := ⟨some 27, _, _, _, _, _⟩) (v := ?_) rfl (by kernel_rfl) (by kernel_rfl) (by kernel_rfl) (fun _ _ _ h => h) (Or.inl ⟨by rfl, ?_⟩) (by assumption) ?_
      rotate_left
      · intro w hSw; (try dsimp only at hSw); go_simp; (try (with_reducible rfl))
      try simp only [Act.put, List.setIfInBounds_toArray, List.set_cons_zero, List.set_cons_succ]
      refine wpAnyH_ready (rs := [6]) (by kernel_rfl) (by simp) ?_
      refine AllReadyH.cons (o := ⟨some 28, _, _, _, _, _⟩) rfl (fun K hK => ?_) AllReadyH.nil
      go_simp
      refine (HLG.out _ (Below.refl _ _).drew).mono ?_
      rintro e w5 ⟨aL, kL, LL, rfl, -, -, -, -, hb5⟩
      have hb5 := from_drew hb5
      (try go_wp2_with fail)
      refine hK.out _ _ ⟨(BV.below (chain hbel hb5)).four.1, (BV.below (chain hbel hb5)).four.2.1, (BV.below (chain hbel hb5)).four.2.2.1, (BV.below (chain hbel hb5)).four.2.2.2.1, (BB.below (chain hbel hb5)).two.1, (BB.below (chain hbel hb5)).two.2.1, CellIs.below hcj (chain hbq hb5)⟩ (fun hHeld => ?_)
      clear hK K
      try simp only [Act.put, List.setIfInBounds_toArray, List.set_cons_zero, List.set_cons_succ]
      refine wpAnyH_take (i := 7) (oi := ⟨some 21, _, _, _, _, _⟩) (v := ?_) rfl (by kernel_rfl) (by kernel_rfl) (by kernel_rfl) (fun _ _ _ h => h) (Or.inl ⟨by rfl, ?_⟩) (by assumption) ?_
      rotate_left
      · intro w hSw; (try dsimp only at hSw); go_simp; (try (with_reducible rfl))
      try simp only [Act.put, List.setIfInBounds_toArray, List.set_cons_zero, List.set_cons_succ]
      refine wpAnyH_take (i := 8) (oi := ⟨some 29, _, _, _, _, _⟩) (v := ?_) rfl (by kernel_rfl) (by kernel_rfl) (by kernel_rfl) (fun _ _ _ h => h) (Or.inl ⟨by rfl, ?_⟩) (by assumption) ?_
      rotate_left
      · intro w hSw; (try dsimp only at hSw); go_simp; (try (with_reducible rfl))
      try simp only [Act.put, List.setIfInBounds_toArray, List.set_cons_zero, List.set_cons_succ]
      refine wpAnyH_take (i := 9) (oi := ⟨some 30, _, _, _, _, _⟩) (v := ?_) rfl (by kernel_rfl) (by kernel_rfl) (by kernel_rfl) (fun _ _ _ h => h) (Or.inl ⟨by rfl, ?_⟩) (by assumption) ?_
      rotate_left
      · intro w hSw; (try dsimp only at hSw); go_simp; (try (with_reducible rfl))
      try simp only [Act.put, List.setIfInBounds_toArray, List.set_cons_zero, List.set_cons_succ]
      refine wpAnyH_take (i := 10) (oi := ⟨some 31, _, _, _, _, _⟩) (v := ?_) rfl (by kernel_rfl) (by kernel_rfl) (by kernel_rfl) (fun _ _ _ h => h) (Or.inl ⟨by rfl, ?_⟩) (by assumption) ?_
      rotate_left
      · intro w hSw; (try dsimp only at hSw); go_simp; (try (with_reducible rfl))
      try simp only [Act.put, List.setIfInBounds_toArray, List.set_cons_zero, List.set_cons_succ]
      refine wpAnyH_take (i := 11) (oi := ⟨some 10, _, _, _, _, _⟩) (v := ?_) rfl (by kernel_rfl) (by kernel_rfl) (by kernel_rfl) (fun _ _ _ h => h) (Or.inl ⟨by rfl, ?_⟩) (by assumption) ?_
      rotate_left
      · intro w hSw; (try dsimp only at hSw); go_simp; (try (with_reducible rfl))
      try simp only [Act.put, List.setIfInBounds_toArray, List.set_cons_zero, List.set_cons_succ]
      refine wpAnyH_take (i := 12) (oi := ⟨some 11, _, _, _, _, _⟩) (v := ?_) rfl (by kernel_rfl) (by kernel_rfl) (by kernel_rfl) (fun _ _ _ h => h) (Or.inl ⟨by rfl, ?_⟩) (by assumption) ?_
      rotate_left
      · intro w hSw; (try dsimp only at hSw); go_simp; (try (with_reducible rfl))
      try simp only [Act.put, List.setIfInBounds_toArray, List.set_cons_zero, List.set_cons_succ]
      refine wpAnyH_take (i := 13) (oi := ⟨some 12, _, _, _, _, _⟩) (v := ?_) rfl (by kernel_rfl) (by kernel_rfl) (by kernel_rfl) (fun _ _ _ h => h) (Or.inl ⟨by rfl, ?_⟩) (by assumption) ?_
      rotate_left
      · intro w hSw; (try dsimp only at hSw); go_simp; (try (with_reducible rfl))
      try simp only [Act.put, List.setIfInBounds_toArray, List.set_cons_zero, List.set_cons_succ]
      refine wpAnyH_done (by kernel_rfl) ?_ _
      clear hHeld
      go_wp2
      go_roundg (OS.length - (i + 1))
      case measure => omega
      case rel => exact ⟨i + 1, by omega, rfl, by go_num, by rw [HUS2.out, HMX.out], chain hbq hb5⟩
    · obtain rfl : i = OS.length := by omega
      rw [HALL.out]
      clear hul
      go_wp2
      go_ret
      exact ⟨rfl, chain hb hbel⟩
abbrev Rl := Int × Int
def rlC (r : Rl) : List Value := [.int .i64 r.1, .int .i64 r.2]
def rlsC : List Rl → List Value
  | [] => []
  | s :: l => rlC s ++ rlsC l
theorem rlsC_at : ∀ (l : List Rl) (k : Nat) (s : Rl), l[k]? = some s → ∀ j, j < 2 → (rlsC l)[k * 2 + j]? = (rlC s)[j]?
  | [], k, s, h, j, hj => by simp at h
  | x :: l, 0, s, h, j, hj => by
    simp at h
    subst h
    rw [rlsC, List.getElem?_append_left (by simp [rlC]; omega), Nat.zero_mul, Nat.zero_add]
  | x :: l, k + 1, s, h, j, hj => by
    rw [rlsC, List.getElem?_append_right (by simp [rlC]; omega)]
    have := rlsC_at l k s (by simpa using h) j hj
    rw [← this]
    congr 1
    simp [rlC]
    omega
abbrev RRow (w : World) (g : Nat) (l : List Rl) : Prop := VRow w g (rlsC l) 38
theorem RRow.two {w : World} {g : Nat} {l : List Rl} (h : RRow w g l) (k : Nat) (s : Rl) (hk : l[k]? = some s) : w.cell? ⟨g, k * 2, none⟩ = some (.int .i64 s.1) ∧ w.cell? ⟨g, k * 2 + 1, none⟩ = some (.int .i64 s.2) :=
  ⟨h.cell _ _ (by have := rlsC_at l k s hk 0 (by omega); simpa [rlC] using this), h.cell _ _ (by have := rlsC_at l k s hk 1 (by omega); simpa [rlC] using this)⟩
def ORl (lo hi : Nat) (w : World) (a : Option Addr) (l : List Rl) : Prop := (a = none ∧ l = []) ∨ ∃ g, a = some ⟨g, 0, none⟩ ∧ lo ≤ g ∧ g < hi ∧ RRow w g l
theorem ORl.below {lo hi : Nat} {w w' : World} {a : Option Addr} {l : List Rl} (h : ORl lo hi w a l) (hb : Below w.heap.size w w') : ORl lo hi w' a l := by
  rcases h with h | ⟨g, e, h1, h2, r⟩
  · exact .inl h
  · exact .inr ⟨g, e, h1, h2, r.below hb⟩
theorem ORl.drew {lo hi : Nat} {w : World} {a : Option Addr} {l : List Rl} (h : ORl lo hi w a l) : ORl lo hi w.drew a l := h
theorem ORl.alloc {lo hi : Nat} {w : World} {a : Option Addr} {l : List Rl} (h : ORl lo hi w a l) (o : Obj) : ORl lo hi (w.alloc o) a l := h.below ((Below.refl _ _).alloc (Nat.le_refl _) o)
theorem ORl.mono {lo hi lo' hi' : Nat} {w : World} {a : Option Addr} {l : List Rl} (h : ORl lo hi w a l) (h1 : lo' ≤ lo) (h2 : hi ≤ hi') : ORl lo' hi' w a l := by
  rcases h with h | ⟨g, e, q1, q2, r⟩
  · exact .inl h
  · exact .inr ⟨g, e, by omega, by omega, r⟩
theorem ORl.same {lo hi lo2 hi2 : Nat} {w w' : World} {a : Option Addr} {l : List Rl} (h : ORl lo2 hi2 w a l) (hs : Same lo hi w w') (hd : hi2 ≤ lo ∨ hi ≤ lo2) : ORl lo2 hi2 w' a l := by
  rcases h with h | ⟨g, e, q1, q2, r⟩
  · exact .inl h
  · exact .inr ⟨g, e, q1, q2, r.same hs (by omega)⟩
theorem ORl.row {lo hi : Nat} {w : World} {a : Option Addr} {l : List Rl} (h : ORl lo hi w a l) {k : Nat} (hk : k < l.length) : ∃ g, a = some ⟨g, 0, none⟩ ∧ RRow w g l := by
  rcases h with ⟨_, rfl⟩ | ⟨g, e, q1, q2, r⟩
  · simp at hk
  · exact ⟨g, e, r⟩
def OwnR (w : World) (base : Nat) (v : Value) (l : List Rl) : Prop := w.ownsRow base 38 2 v l.length (rlsC l)
theorem OwnR.form {w : World} {base : Nat} {v : Value} {l : List Rl} (h : OwnR w base v l) : ∃ a k, v = .slice a l.length k := by
  rcases h.2 with ⟨h1, h2⟩ | ⟨g, cap, cur, h1, _⟩
  · exact ⟨none, 0, by rw [h1, h2]⟩
  · exact ⟨some ⟨g, 0, none⟩, cap, h1⟩
theorem OwnR.alloc {w : World} {base : Nat} {v : Value} {l : List Rl} (h : OwnR w base v l) (o : Obj) : OwnR (w.alloc o) base v l := World.ownsRow.alloc h o
theorem OwnR.start (w : World) : OwnR (w.alloc (.cells #[] 38)) w.heap.size (.slice (some ⟨w.heap.size, 0, none⟩) 0 0) [] :=
  ⟨rfl, .inr ⟨w.heap.size, 0, #[], rfl, Nat.le_refl _, Blk.new w #[] _, Nat.le_refl _, by unfold maxLen; omega, rfl, rfl⟩⟩
theorem OwnR.nil (w : World) (base : Nat) : OwnR w base (.slice none 0 0) [] := World.ownsRow_nil w base _ _
end Go.Proofs.Ytodlofabffenoaa
namespace Go.Proofs.Ytodlofabffenoaa
set_option maxRecDepth 20000
set_option linter.unusedVariables false
def prR (a b : Int) : Rl := (max a b, min a b)
theorem prR_A (a b : Int) : (prR a b).1 = max a b := rfl
theorem prR_B (a b : Int) : (prR a b).2 = min a b := rfl
end Go.Proofs.Ytodlofabffenoaa
namespace Go.Proofs.Ytodlofabffenoaa
open Go.ChangeShapes Go.WideShapes Go.ChangeAt Go.RowKit
set_option linter.unusedVariables false
set_option linter.unusedSimpArgs false
set_option maxRecDepth 4000
theorem isDouble_any (ra rb : Int) (w : World) :
    Calls Try.prog 64 #[.agg #[.int .i64 ra, .int .i64 rb]] w fun e w' => e = .returned (.bool (decide (ra = rb))) ∧ Below w.heap.size w w' := by
  have hb : Below w.heap.size w (w.alloc (.cells #[.int .i64 ra, .int .i64 rb] 38)) := (Below.refl _ _).alloc (Nat.le_refl _) _
  obtain ⟨x0, x1, xf, xl⟩ := (Blk.new w #[.int .i64 ra, .int .i64 rb] 38).two
  by_cases e : ra = rb
  · subst e
    rw [decide_eq_true rfl]
    go_enter Try.func64, Try.ntmps64
    go_wp2
    go_ret
    exact ⟨rfl, hb⟩
  · have f0 : (ra == rb) = false := by rw [beq_eq_false_iff_ne]; exact e
    have f1 : (rb == ra) = false := by rw [beq_eq_false_iff_ne]; exact fun q => e q.symm
    rw [decide_eq_false e]
    go_enter Try.func64, Try.ntmps64
    go_wp2
    go_ret
    exact ⟨rfl, hb⟩
theorem rollOfFaces_any (a b : Int) (w : World) :
    Calls Try.prog 63 #[.int .i64 a, .int .i64 b] w fun e w' => e = .returned (.agg #[.int .i64 (prR a b).1, .int .i64 (prR a b).2]) ∧ Below w.heap.size w w' := by
  have BR := Blk.new w #[.int .i64 (max a b), .int .i64 (min a b)] 38
  have hb : Below w.heap.size w (w.alloc (.cells #[.int .i64 (max a b), .int .i64 (min a b)] 38)) := (Below.refl _ _).alloc (Nat.le_refl _) _
  obtain ⟨x0, x1, xf, xl⟩ := BR.two
  rw [prR_A, prR_B]
  go_enter Try.func63, Try.ntmps63
  go_wp2
  refine bodyPost_ret (v := .agg #[.int .i64 (max a b), .int .i64 (min a b)]) (by simp [results, Try.results63, go_sem, x0, x1]) rfl ⟨rfl, hb⟩
set_option maxHeartbeats 1000000 in
theorem implOrders_any (ra rb : Int) (w : World) :
    Calls Try.prog 43 #[.agg #[.int .i64 ra, .int .i64 rb]] w (OrdersGot (ordersP ra rb) w) := by
  have hd := fun W => isDouble_any ra rb W
  by_cases e : ra = rb
  · rw [decide_eq_true e] at hd
    subst e
    have e1 : ordersP ra ra = [[ra, ra, ra, ra]] := by simp [ordersP]
    rw [e1]
    clear e1
    have HD := Lib.hid hd
    clear hd
    have BR := Blk.new w #[.int .i64 ra, .int .i64 ra] 38
    have hb : Below w.heap.size w (w.alloc (.cells #[.int .i64 ra, .int .i64 ra] 38)) := (Below.refl _ _).alloc (Nat.le_refl _) _
    obtain ⟨x0, x1, xf, xl⟩ := BR.two
    go_enter Try.func43, Try.ntmps43
    go_wp2_with fail
    clear x0 x1 xf xl
    refine (HD.out _).mono ?_
    rintro e w1 ⟨rfl, hb1⟩
    obtain ⟨x0, x1, xf, xl⟩ := (BR.below hb1).two
    replace hb := chain hb hb1
    clear hb1 BR HD
    go_wp2
    refine bodyPost_ret (v := .slice (some ⟨w1.heap.size + 1, 0, none⟩) 1 1) (by simp [results, Try.results43, go_sem]) rfl ?_
    have B1 := Blk.new w1 #[.int .i64 ra, .int .i64 ra, .int .i64 ra, .int .i64 ra] 2
    have B2 := Blk.new (w1.alloc (.cells #[.int .i64 ra, .int .i64 ra, .int .i64 ra, .int .i64 ra] 2)) #[.slice (some ⟨w1.heap.size, 0, none⟩) 4 4] 24
    rw [World.size_alloc] at B2
    refine ⟨_, rfl, fun j o hj => ?_, (hb.alloc hb.size _).alloc (Nat.le_trans hb.size (by simp)) _⟩
    cases j with
    | zero =>
      simp at hj
      subst hj
      exact ⟨w1.heap.size, by first | (simp; done) | simpa using B2.cell 0, Row.of_blk (B1.alloc _) rfl⟩
    | succ j => simp at hj
  · rw [decide_eq_false e] at hd
    have e1 : ordersP ra rb = [[ra, rb], [rb, ra]] := by simp [ordersP, e]
    rw [e1]
    clear e1 e
    have HD := Lib.hid hd
    clear hd
    have BR := Blk.new w #[.int .i64 ra, .int .i64 rb] 38
    have hb : Below w.heap.size w (w.alloc (.cells #[.int .i64 ra, .int .i64 rb] 38)) := (Below.refl _ _).alloc (Nat.le_refl _) _
    obtain ⟨x0, x1, xf, xl⟩ := BR.two
    go_enter Try.func43, Try.ntmps43
    go_wp2_with fail
    clear x0 x1 xf xl
    refine (HD.out _).mono ?_
    rintro e w1 ⟨rfl, hb1⟩
    obtain ⟨x0, x1, xf, xl⟩ := (BR.below hb1).two
    replace hb := chain hb hb1
    clear hb1 BR HD
    go_wp2
    refine bodyPost_ret (v := .slice (some ⟨w1.heap.size + 1 + 1, 0, none⟩) 2 2) (by simp [results, Try.results43, go_sem]) rfl ?_
    have B1 := Blk.new w1 #[.int .i64 ra, .int .i64 rb] 2
    have B2 := Blk.new (w1.alloc (.cells #[.int .i64 ra, .int .i64 rb] 2)) #[.int .i64 rb, .int .i64 ra] 2
    have B3 := Blk.new ((w1.alloc (.cells #[.int .i64 ra, .int .i64 rb] 2)).alloc (.cells #[.int .i64 rb, .int .i64 ra] 2)) #[.slice (some ⟨w1.heap.size, 0, none⟩) 2 2, .slice (some ⟨w1.heap.size + 1, 0, none⟩) 2 2] 24
    rw [World.size_alloc, World.size_alloc] at B3
    rw [World.size_alloc] at B2
    refine ⟨_, rfl, fun j o hj => ?_, ((hb.alloc hb.size _).alloc (Nat.le_trans hb.size (by simp)) _).alloc (Nat.le_trans hb.size (by simp; omega)) _⟩
    rcases (by omega : j = 0 ∨ j = 1 ∨ 2 ≤ j) with rfl | rfl | h2
    · simp at hj
      subst hj
      exact ⟨w1.heap.size, by simpa using B3.cell 0, Row.of_blk ((B1.alloc _).alloc _) rfl⟩
    · simp at hj
      subst hj
      exact ⟨w1.heap.size + 1, by simpa using B3.cell 1, Row.of_blk (B2.alloc _) rfl⟩
    · obtain ⟨j, rfl⟩ := Nat.exists_eq_add_of_le h2
      rw [Nat.add_comm] at hj
      simp at hj
def DisL (x y : LI) : Prop := ∀ p ∈ x.2.2.2, ∀ q ∈ p.2.2, ∀ p' ∈ y.2.2.2, ∀ q' ∈ p'.2.2, Dis q q'
def LissGot (P : Nat) (xs ys : List Int) (OS : List (List Int)) (c h s : Int) (w : World) (e : Ending) (w' : World) : Prop :=
  ∃ g k L, e = .returned (.slice (some ⟨g, 0, none⟩) L.length k) ∧ w.heap.size ≤ g ∧ g < w'.heap.size ∧ VRow w' g (L.flatMap liC) 65 ∧ LisAll w.heap.size w'.heap.size w' L ∧ L.map (fun x => x.1.2) = OS ∧
    (∀ x ∈ L, x.2.2.2.map (fun y => y.2.2.map (·.2)) = levels P h x.1.2 (startP xs ys) ∧ (∀ y ∈ x.2.2.2, Fine (P : Int) c h s (y.2.2.map (·.2)) ∧ y.2.2.Pairwise Dis)) ∧ L.Pairwise DisL ∧ Below w.heap.size w w'
theorem LisAll.snoc {lo hi : Nat} {w : World} {l : List LI} {x : LI} (h : LisAll lo hi w l) (hx : LiAt lo hi w x) : LisAll lo hi w (l ++ [x]) := fun y hy => by
  rcases List.mem_append.1 hy with hy | hy
  · exact h y hy
  · simp at hy; subst hy; exact hx
theorem OwnI.at {w : World} {base : Nat} {v : Value} {l : List LI} (h : OwnI w base v l) (h0 : 0 < l.length) : ∃ g k, v = .slice (some ⟨g, 0, none⟩) l.length k ∧ base ≤ g ∧ VRow w g (l.flatMap liC) 65 := by
  obtain ⟨hl, ⟨_, h2⟩ | ⟨g, cap, cur, hv, hb, hh, hc, hm, hs, ht⟩⟩ := h
  · omega
  · refine ⟨g, cap, hv, hb, cur, hh, ?_, ?_⟩
    · rw [hl, hs]; exact Nat.mul_le_mul_right _ hc
    · rw [hl]; exact ht
theorem liC_at : ∀ (l : List LI) (k : Nat) (s : LI), l[k]? = some s → ∀ j, j < 2 → (l.flatMap liC)[k * 2 + j]? = (liC s)[j]?
  | [], k, s, h, j, hj => by simp at h
  | x :: l, 0, s, h, j, hj => by
    simp at h
    subst h
    rw [List.flatMap_cons, List.getElem?_append_left (by simp [liC]; omega), Nat.zero_mul, Nat.zero_add]
  | x :: l, k + 1, s, h, j, hj => by
    rw [List.flatMap_cons, List.getElem?_append_right (by simp [liC]; omega)]
    have := liC_at l k s (by simpa using h) j hj
    rw [← this]
    congr 1
    simp [liC]
    omega
theorem liRow {w : World} {g : Nat} {l : List LI} (h : VRow w g (l.flatMap liC) 65) (k : Nat) (s : LI) (hk : l[k]? = some s) :
    w.cell? ⟨g, k * 2, none⟩ = some (.slice (some ⟨s.1.1, 0, none⟩) s.1.2.length s.1.2.length) ∧ w.cell? ⟨g, k * 2 + 1, none⟩ = some (.slice (some ⟨s.2.1, 0, none⟩) s.2.2.2.length s.2.2.1) :=
  ⟨h.cell _ _ (by have := liC_at l k s hk 0 (by omega); simpa [liC] using this), h.cell _ _ (by have := liC_at l k s hk 1 (by omega); simpa [liC] using this)⟩
set_option maxRecDepth 100000 in
set_option maxHeartbeats 4000000 in
theorem listingsOf_any (P : Nat) (c h s ra rb : Int) (a1 a2 : Option Addr) (n1 n2 c1 c2 : Nat) (xs ys : List Int) (w : World) (h1 : xs.length = n1) (h2 : ys.length = n2) (r1 : IRow w a1 xs) (r2 : IRow w a2 ys) (g : isB (P : Int) c h s xs ys = true) (ha : inB ra 1 s = true) (hbb : inB rb 1 s = true) :
    Calls Try.prog 26 #[.agg #[.int .i64 (P : Int), .int .i64 c, .int .i64 h, .int .i64 s], .agg #[.slice a1 n1 c1, .slice a2 n2 c2], .agg #[.int .i64 ra, .int .i64 rb]] w (LissGot P xs ys (ordersP ra rb) c h s w) := by
  obtain ⟨BV, BB, BR, hb, hz⟩ := three_new w #[.int .i64 (P : Int), .int .i64 c, .int .i64 h, .int .i64 s] #[.slice a1 n1 c1, .slice a2 n2 c2] #[.int .i64 ra, .int .i64 rb] 35 32 38
  have hz1 : w.heap.size + 1 + 1 + 1 ≤ (((w.alloc (.cells #[.int .i64 (P : Int), .int .i64 c, .int .i64 h, .int .i64 s] 35)).alloc (.cells #[.slice a1 n1 c1, .slice a2 n2 c2] 32)).alloc (.cells #[.int .i64 ra, .int .i64 rb] 38)).heap.size := by rw [hz]; omega
  clear hz
  replace r1 := r1.below hb
  replace r2 := r2.below hb
  have HG := Lib.hid g
  have HOM := Lib.hid (fun j o ho => ordersP_mem (j := j) (o := o) ha hbb ho)
  have HOL := ordersP_length ra rb
  have hor := fun W => implOrders_any ra rb W
  have hO0 : 0 < (ordersP ra rb).length := by unfold ordersP; split <;> simp
  obtain ⟨OS, hOS⟩ : ∃ z, ordersP ra rb = z := ⟨_, rfl⟩
  rw [hOS] at hor HOM HOL hO0 ⊢
  have HOR := Lib.hid hor
  clear hOS hor g ha hbb
  obtain ⟨x0, x1, x2, x3, xf, xl⟩ := BV.four
  obtain ⟨y0, y1, yf, yl⟩ := BB.two
  obtain ⟨z0, z1, zf, zl⟩ := BR.two
  go_enter Try.func26, Try.ntmps26
  go_wp2_with fail
  clear x0 x1 x2 x3 xf xl y0 y1 yf yl z0 z1 zf zl
  generalize (((w.alloc (.cells #[.int .i64 (P : Int), .int .i64 c, .int .i64 h, .int .i64 s] 35)).alloc (.cells #[.slice a1 n1 c1, .slice a2 n2 c2] 32)).alloc (.cells #[.int .i64 ra, .int .i64 rb] 38)) = v0 at *
  refine (HOR.out _).mono ?_
  rintro e w1 ⟨gO, rfl, hcells, hb1⟩
  have HC := Lib.hid hcells
  clear hcells
  go_wp2_with fail
  go_loopg [7, 9, 13] OS.length (fun m q7 q9 q13 wr => ∃ (k : Nat) (L : List LI), k ≤ OS.length ∧ m = OS.length - k ∧ q13 = .int .i64 k ∧ OwnI wr w1.heap.size q7 L ∧ LisAll w1.heap.size wr.heap.size wr L ∧ L.map (fun x => x.1.2) = OS.take k ∧ (∀ x ∈ L, x.2.2.2.map (fun y => y.2.2.map (·.2)) = levels P h x.1.2 (startP xs ys) ∧ (∀ y ∈ x.2.2.2, Fine (P : Int) c h s (y.2.2.map (·.2)) ∧ y.2.2.Pairwise Dis)) ∧ L.Pairwise DisL ∧ Below w1.heap.size w1 wr)
  case atStart => exact ⟨0, [], by omega, by omega, rfl, OwnE.nil _ _, fun x hx => by simp at hx, by simp, fun x hx => by simp at hx, List.Pairwise.nil, Below.refl _ _⟩
  case round =>
    obtain ⟨k, L, hk, hm, rfl, hO, hL, hT, hQ, hDL, hbq⟩ := hrel
    have hbel := chain hb1 hbq
    by_cases hlt : k < OS.length
    · have hlt' : (k : Int) < (OS.length : Int) := by omega
      have hk0 : (0 : Int) ≤ (k : Int) := by omega
      obtain ⟨od, hod⟩ : ∃ o, OS[k]? = some o := ⟨_, List.getElem?_eq_getElem hlt⟩
      obtain ⟨gj, hcj, hRj⟩ := HC.out k od hod
      obtain ⟨ho4, hodd⟩ := HOM.out k od hod
      have hlo := listingOf_any P c h s a1 a2 n1 n2 c1 c2 gj xs ys od wr h1 h2 (r1.below hbel) (r2.below hbel) HG.out (hRj.below hbq) ho4 hodd
      have HLO := Lib.hid hlo
      have HT := Lib.hid hT
      have HQ := Lib.hid hQ
      have HOD := Lib.hid hod
      have hLl : L.length = k := by have := congrArg List.length hT; rw [List.length_map, List.length_take] at this; omega
      have hLl2 : L.length ≤ 1048576 := by omega
      clear hlo hT hQ hod hLl hodd
      have hcj2 := CellIs.below hcj hbq
      unfold CellIs at hcj2
      obtain ⟨x0, x1, x2, x3, xf, xl⟩ := (BV.below hbel).four
      obtain ⟨y0, y1, yf, yl⟩ := (BB.below hbel).two
      go_wp2_with fail
      clear x0 x1 x2 x3 xf xl y0 y1 yf yl hcj2
      refine (HLO.out).mono ?_
      rintro e wA ⟨gL, kL, ls, rfl, hAt, hlv, hfi, hbA⟩
      clear HLO
      have hX : ∀ x ∈ L, DisL x ((gj, od), (gL, kL, ls)) := fun x hx p hp q hq p' hp' q' hq' a ha b hb' => by have h1 := (((hL x hx).2.2.2.2 p hp).2 q hq).adr a ha; have h2 := ((hAt.2.2.2.2 p' hp').2 q' hq').adr b hb'; omega
      have HX := Lib.hid (List.pairwise_append.2 ⟨hDL, List.pairwise_singleton DisL _, fun a ha b hb' => by simp at hb'; subst hb'; exact hX a ha⟩ : (L ++ [((gj, od), (gL, kL, ls))]).Pairwise DisL)
      clear hX hDL
      replace hO := hO.below hbA
      replace hL := (hL.below hbA).mono (Nat.le_refl _) hbA.size
      have hsA := hbA.size
      have hv := (chain hbq hbA).size
      replace hAt := hAt.mono hbq.size (Nat.le_refl _)
      have HLV := Lib.hid hlv
      have HFI := Lib.hid hfi
      clear hlv hfi
      go_wp2_with (at_builtin; go_loud (refine wp_pushLi rfl (.tmp 17) (.tmp 22) rfl w1.heap.size _ L rfl hO ((gj, od), (gL, kL, ls)) rfl rfl hLl2 hv ?_; intro v9 wC hO2 hbC hfr))
      go_roundg (OS.length - (k + 1))
      case measure => omega
      case rel =>
        have hsC := hbC.size
        refine ⟨k + 1, L ++ [((gj, od), (gL, kL, ls))], by omega, rfl, by go_num, hO2, ?_, ?_, ?_, HX.out, (chain hbq hbA).trans hbC⟩
        · exact (hL.frameT hsC (by decide) (by decide) (by decide) hfr).snoc (hAt.frameT hsC (by decide) (by decide) (by decide) hfr)
        · rw [List.map_append, HT.out, List.take_add_one, HOD.out]
          rfl
        · intro x hx
          rcases List.mem_append.1 hx with hx | hx
          · exact HQ.out x hx
          · simp at hx
            subst hx
            exact ⟨HLV.out, HFI.out⟩
    · obtain rfl : k = OS.length := by omega
      rw [List.take_length] at hT
      have hLl : 0 < L.length := by have := congrArg List.length hT; rw [List.length_map] at this; omega
      obtain ⟨g, kg, rfl, hg, hV⟩ := hO.at hLl
      have HT := Lib.hid hT
      have HQ := Lib.hid hQ
      have HDL := Lib.hid hDL
      clear hO hT hQ hLl hDL
      go_wp2
      go_ret
      exact ⟨g, kg, L, rfl, Nat.le_trans (hb.trans (hb1.mono hb.size)).size hg, hV.lt, hV, hL.mono (hb.trans (hb1.mono hb.size)).size (Nat.le_refl _), HT.out, HQ.out, HDL.out, hb.trans (hbel.mono hb.size)⟩
def usedL (L : List LI) : Nat := (L.map (fun x => x.2.2.2.length - 1)).foldl max 0
def usedLTo (L : List LI) (k : Nat) : Nat := usedL (L.take k)
theorem usedLTo_succ (L : List LI) (k : Nat) (x : LI) (hx : L[k]? = some x) : usedLTo L (k + 1) = max (usedLTo L k) (x.2.2.2.length - 1) := by
  unfold usedLTo usedL
  rw [List.take_add_one, hx]
  simp
theorem used1_any (x : LI) (w : World) (h0 : 0 < x.2.2.2.length) (h1 : x.2.2.2.length ≤ 1000) :
    Calls Try.prog 28 #[liV x] w fun e w' => e = .returned (.int .i64 ((x.2.2.2.length - 1 : Nat) : Int)) ∧ Below w.heap.size w w' := by
  obtain ⟨⟨go, o⟩, gL, k, ls⟩ := x
  dsimp only at h0 h1 ⊢
  obtain ⟨n, hn⟩ : ∃ n, ls.length = n := ⟨_, rfl⟩
  rw [hn] at h0 h1 ⊢
  have BX := Blk.new w #[.slice (some ⟨go, 0, none⟩) o.length o.length, .slice (some ⟨gL, 0, none⟩) n k] 65
  have hb : Below w.heap.size w (w.alloc (.cells #[.slice (some ⟨go, 0, none⟩) o.length o.length, .slice (some ⟨gL, 0, none⟩) n k] 65)) := (Below.refl _ _).alloc (Nat.le_refl _) _
  obtain ⟨x0, x1, xf, xl⟩ := BX.two
  have wz : IntKind.i64.wrap ((n : Int) - 1) = ((n - 1 : Nat) : Int) := by unfold IntKind.wrap; simp [IntKind.bits, IntKind.signed]; omega
  go_enter Try.func28, Try.ntmps28
  go_wp2
  go_ret
  exact ⟨by first | rfl | (rw [wz]), hb⟩
set_option maxRecDepth 100000 in
set_option maxHeartbeats 2000000 in
theorem usedAll_any (g k : Nat) (L : List LI) (w : World) (hV : VRow w g (L.flatMap liC) 65) (h0 : ∀ x ∈ L, 0 < x.2.2.2.length ∧ x.2.2.2.length ≤ 1000) (hL : L.length ≤ 1000) (hU : usedL L ≤ 1000) (hle : ∀ i, usedLTo L i ≤ 1000) :
    Calls Try.prog 45 #[.slice (some ⟨g, 0, none⟩) L.length k] w fun e w' => e = .returned (.int .i64 ((usedL L : Nat) : Int)) ∧ Below w.heap.size w w' := by
  have hall : usedLTo L L.length = usedL L := by unfold usedLTo; rw [List.take_length]
  obtain ⟨U, hUU⟩ : ∃ z, usedL L = z := ⟨_, rfl⟩
  rw [hUU] at hall hU ⊢
  have HALL := Lib.hid hall
  have HLE := Lib.hid hle
  have H0 := Lib.hid h0
  have HUS := Lib.hid (fun k x (hx : L[k]? = some x) => usedLTo_succ L k x hx)
  clear hUU hall hle h0
  go_enter Try.func45, Try.ntmps45
  go_wp2_with fail
  go_loopg [3, 5, 8] L.length (fun m q3 q5 q8 wr => ∃ i : Nat, i ≤ L.length ∧ m = L.length - i ∧ q8 = .int .i64 i ∧ q3 = .int .i64 ((usedLTo L i : Nat) : Int) ∧ Below w.heap.size w wr)
  case atStart => exact ⟨0, by omega, by omega, rfl, by simp [usedLTo, usedL], Below.refl _ _⟩
  case round =>
    obtain ⟨i, hi, hm, rfl, rfl, hbq⟩ := hrel
    have hul := HLE.out i
    by_cases hlt : i < L.length
    · have hlt' : (i : Int) < (L.length : Int) := by omega
      have hi0 : (0 : Int) ≤ (i : Int) := by omega
      obtain ⟨x, hx⟩ : ∃ x, L[i]? = some x := ⟨_, List.getElem?_eq_getElem hlt⟩
      obtain ⟨k0, k1⟩ := H0.out x (List.mem_of_getElem? hx)
      have hus := HUS.out i x hx
      obtain ⟨c0, c1⟩ := liRow (hV.below hbq) i x hx
      have hu1 := fun W => used1_any x W k0 k1
      obtain ⟨NN, hNN⟩ : ∃ z, x.2.2.2.length - 1 = z := ⟨_, rfl⟩
      obtain ⟨UU, hUU⟩ : ∃ z, usedLTo L i = z := ⟨_, rfl⟩
      rw [hNN] at hu1
      rw [hNN, hUU] at hus
      rw [hUU] at hul ⊢
      have hNle : NN ≤ 1000 := by omega
      have HU1 := Lib.hid hu1
      have HUS2 := Lib.hid hus
      obtain ⟨MM, hMM⟩ : ∃ z : Int, max (UU : Int) (NN : Int) = z := ⟨_, rfl⟩
      have hmx : MM = ((max UU NN : Nat) : Int) := by omega
      have HMX := Lib.hid hmx
      clear hmx hu1 hus hNN hUU hx k0 k1
      have BX := Blk.new wr #[.slice (some ⟨x.1.1, 0, none⟩) x.1.2.length x.1.2.length, .slice (some ⟨x.2.1, 0, none⟩) x.2.2.2.length x.2.2.1] 65
      have hbx : Below wr.heap.size wr (wr.alloc (.cells #[.slice (some ⟨x.1.1, 0, none⟩) x.1.2.length x.1.2.length, .slice (some ⟨x.2.1, 0, none⟩) x.2.2.2.length x.2.2.1] 65)) := (Below.refl _ _).alloc (Nat.le_refl _) _
      obtain ⟨y0, y1, yf, yl⟩ := BX.two
      have ofl : (i : Int) * 2 = ((i * 2 : Nat) : Int) := by omega
      go_wp2_with fail
      clear y0 y1 yf yl c0 c1 BX
      refine (HU1.out _).mono ?_
      rintro e wA ⟨rfl, hbA⟩
      replace hbA := chain hbx hbA
      clear hbx HU1
      go_wp2
      go_roundg (L.length - (i + 1))
      case measure => omega
      case rel => exact ⟨i + 1, by omega, rfl, by go_num, by rw [HUS2.out, HMX.out], chain hbq hbA⟩
    · obtain rfl : i = L.length := by omega
      rw [HALL.out]
      clear hul
      go_wp2
      go_ret
      exact ⟨rfl, hbq⟩
end Go.Proofs.Ytodlofabffenoaa
