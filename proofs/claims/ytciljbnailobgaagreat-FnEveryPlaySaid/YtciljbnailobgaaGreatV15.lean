/- Texts of a proof, laid together. -/
import Derived.Test.YtciljbnailobgaaGreatV02
import Derived.Test.YtciljbnailobgaaGreatV01
import Derived.Laws.StructEq
import Derived.Lib.MinMax
import Derived.IntWalk
import Derived.Deep.QuietTactic
import Derived.Test.YtciljbnailobgaaGreatV14
import Derived.Test.YtciljbnailobgaaGreatV12
import Derived.Test.YtciljbnailobgaaGreatV05
import Derived.Test.YtciljbnailobgaaGreatV03
namespace Go.Proofs.YtciljbnailobgaaGreat
open Go.ChangeShapes Go.WideShapes Go.ChangeAt Go.RowKit
set_option linter.unusedVariables false
set_option linter.unusedSimpArgs false
set_option maxRecDepth 4000
abbrev Rl := Int × Int
def rlC (r : Rl) : List Value := [.int .i64 r.1, .int .i64 r.2]
def rlsC : List Rl → List Value
  | [] => []
  | s :: l => rlC s ++ rlsC l
theorem rlsC_at : ∀ (l : List Rl) (k : Nat) (s : Rl), l[k]? = some s → ∀ j, j < 2 → (rlsC l)[k * 2 + j]? = (rlC s)[j]?
  | [], k, s, h, j, hj => by simp at h
  | x :: l, 0, s, h, j, hj => by
    simp at h
    subst h
    rw [rlsC, List.getElem?_append_left (by simp [rlC]; omega), Nat.zero_mul, Nat.zero_add]
  | x :: l, k + 1, s, h, j, hj => by
    rw [rlsC, List.getElem?_append_right (by simp [rlC]; omega)]
    have := rlsC_at l k s (by simpa using h) j hj
    rw [← this]
    congr 1
    simp [rlC]
    omega
abbrev RRow (w : World) (g : Nat) (l : List Rl) : Prop := VRow w g (rlsC l) 30
theorem RRow.two {w : World} {g : Nat} {l : List Rl} (h : RRow w g l) (k : Nat) (s : Rl) (hk : l[k]? = some s) : w.cell? ⟨g, k * 2, none⟩ = some (.int .i64 s.1) ∧ w.cell? ⟨g, k * 2 + 1, none⟩ = some (.int .i64 s.2) :=
  ⟨h.cell _ _ (by have := rlsC_at l k s hk 0 (by omega); simpa [rlC] using this), h.cell _ _ (by have := rlsC_at l k s hk 1 (by omega); simpa [rlC] using this)⟩
def ORl (lo hi : Nat) (w : World) (a : Option Addr) (l : List Rl) : Prop := (a = none ∧ l = []) ∨ ∃ g, a = some ⟨g, 0, none⟩ ∧ lo ≤ g ∧ g < hi ∧ RRow w g l
theorem ORl.below {lo hi : Nat} {w w' : World} {a : Option Addr} {l : List Rl} (h : ORl lo hi w a l) (hb : Below w.heap.size w w') : ORl lo hi w' a l := by
  rcases h with h | ⟨g, e, h1, h2, r⟩
  · exact .inl h
  · exact .inr ⟨g, e, h1, h2, r.below hb⟩
theorem ORl.drew {lo hi : Nat} {w : World} {a : Option Addr} {l : List Rl} (h : ORl lo hi w a l) : ORl lo hi w.drew a l := h
theorem ORl.alloc {lo hi : Nat} {w : World} {a : Option Addr} {l : List Rl} (h : ORl lo hi w a l) (o : Obj) : ORl lo hi (w.alloc o) a l := h.below ((Below.refl _ _).alloc (Nat.le_refl _) o)
theorem ORl.mono {lo hi lo' hi' : Nat} {w : World} {a : Option Addr} {l : List Rl} (h : ORl lo hi w a l) (h1 : lo' ≤ lo) (h2 : hi ≤ hi') : ORl lo' hi' w a l := by
  rcases h with h | ⟨g, e, q1, q2, r⟩
  · exact .inl h
  · exact .inr ⟨g, e, by omega, by omega, r⟩
theorem ORl.same {lo hi lo2 hi2 : Nat} {w w' : World} {a : Option Addr} {l : List Rl} (h : ORl lo2 hi2 w a l) (hs : Same lo hi w w') (hd : hi2 ≤ lo ∨ hi ≤ lo2) : ORl lo2 hi2 w' a l := by
  rcases h with h | ⟨g, e, q1, q2, r⟩
  · exact .inl h
  · exact .inr ⟨g, e, q1, q2, r.same hs (by omega)⟩
theorem ORl.row {lo hi : Nat} {w : World} {a : Option Addr} {l : List Rl} (h : ORl lo hi w a l) {k : Nat} (hk : k < l.length) : ∃ g, a = some ⟨g, 0, none⟩ ∧ RRow w g l := by
  rcases h with ⟨_, rfl⟩ | ⟨g, e, q1, q2, r⟩
  · simp at hk
  · exact ⟨g, e, r⟩
def OwnR (w : World) (base : Nat) (v : Value) (l : List Rl) : Prop := w.ownsRow base 30 2 v l.length (rlsC l)
theorem OwnR.form {w : World} {base : Nat} {v : Value} {l : List Rl} (h : OwnR w base v l) : ∃ a k, v = .slice a l.length k := by
  rcases h.2 with ⟨h1, h2⟩ | ⟨g, cap, cur, h1, _⟩
  · exact ⟨none, 0, by rw [h1, h2]⟩
  · exact ⟨some ⟨g, 0, none⟩, cap, h1⟩
theorem OwnR.alloc {w : World} {base : Nat} {v : Value} {l : List Rl} (h : OwnR w base v l) (o : Obj) : OwnR (w.alloc o) base v l := World.ownsRow.alloc h o
theorem OwnR.start (w : World) : OwnR (w.alloc (.cells #[] 30)) w.heap.size (.slice (some ⟨w.heap.size, 0, none⟩) 0 0) [] :=
  ⟨rfl, .inr ⟨w.heap.size, 0, #[], rfl, Nat.le_refl _, Blk.new w #[] _, Nat.le_refl _, by unfold maxLen; omega, rfl, rfl⟩⟩
theorem OwnR.nil (w : World) (base : Nat) : OwnR w base (.slice none 0 0) [] := World.ownsRow_nil w base _ _
end Go.Proofs.YtciljbnailobgaaGreat
namespace Go.Proofs.YtciljbnailobgaaGreat
set_option maxRecDepth 20000
set_option linter.unusedVariables false
def prR (a b : Int) : Rl := (max a b, min a b)
theorem prR_A (a b : Int) : (prR a b).1 = max a b := rfl
theorem prR_B (a b : Int) : (prR a b).2 = min a b := rfl
end Go.Proofs.YtciljbnailobgaaGreat
namespace Go.Proofs.YtciljbnailobgaaGreat
open Go.ChangeShapes Go.WideShapes Go.ChangeAt Go.RowKit
set_option linter.unusedVariables false
set_option linter.unusedSimpArgs false
set_option maxRecDepth 4000
theorem isDouble_any (ra rb : Int) (w : World) :
    Calls Tryz.prog 86 #[.agg #[.int .i64 ra, .int .i64 rb]] w fun e w' => e = .returned (.bool (decide (ra = rb))) ∧ Below w.heap.size w w' := by
  have hb : Below w.heap.size w (w.alloc (.cells #[.int .i64 ra, .int .i64 rb] 30)) := (Below.refl _ _).alloc (Nat.le_refl _) _
  obtain ⟨x0, x1, xf, xl⟩ := (Blk.new w #[.int .i64 ra, .int .i64 rb] 30).two
  by_cases e : ra = rb
  · subst e
    rw [decide_eq_true rfl]
    go_enter Tryz.func86, Tryz.ntmps86
    go_wp2
    go_ret
    exact ⟨rfl, hb⟩
  · have f0 : (ra == rb) = false := by rw [beq_eq_false_iff_ne]; exact e
    have f1 : (rb == ra) = false := by rw [beq_eq_false_iff_ne]; exact fun q => e q.symm
    rw [decide_eq_false e]
    go_enter Tryz.func86, Tryz.ntmps86
    go_wp2
    go_ret
    exact ⟨rfl, hb⟩
theorem rollOfFaces_any (a b : Int) (w : World) :
    Calls Tryz.prog 79 #[.int .i64 a, .int .i64 b] w fun e w' => e = .returned (.agg #[.int .i64 (prR a b).1, .int .i64 (prR a b).2]) ∧ Below w.heap.size w w' := by
  have BR := Blk.new w #[.int .i64 (max a b), .int .i64 (min a b)] 30
  have hb : Below w.heap.size w (w.alloc (.cells #[.int .i64 (max a b), .int .i64 (min a b)] 30)) := (Below.refl _ _).alloc (Nat.le_refl _) _
  obtain ⟨x0, x1, xf, xl⟩ := BR.two
  rw [prR_A, prR_B]
  go_enter Tryz.func79, Tryz.ntmps79
  go_wp2
  refine bodyPost_ret (v := .agg #[.int .i64 (max a b), .int .i64 (min a b)]) (by simp [results, Tryz.results79, go_sem, x0, x1]) rfl ⟨rfl, hb⟩
theorem l07Pair_any (a b : Int) (w : World) :
    Calls Tryz.prog 71 #[.int .i64 a, .int .i64 b] w fun e w' => e = .returned (.agg #[.int .i64 (prR a b).1, .int .i64 (prR a b).2]) ∧ Below w.heap.size w w' := by
  have BR := Blk.new w #[.int .i64 (max a b), .int .i64 (min a b)] 30
  have hb : Below w.heap.size w (w.alloc (.cells #[.int .i64 (max a b), .int .i64 (min a b)] 30)) := (Below.refl _ _).alloc (Nat.le_refl _) _
  obtain ⟨x0, x1, xf, xl⟩ := BR.two
  rw [prR_A, prR_B]
  go_enter Tryz.func71, Tryz.ntmps71
  go_wp2
  refine bodyPost_ret (v := .agg #[.int .i64 (max a b), .int .i64 (min a b)]) (by simp [results, Tryz.results71, go_sem, x0, x1]) rfl ⟨rfl, hb⟩
set_option maxHeartbeats 1000000 in
theorem implOrders_any (ra rb : Int) (w : World) :
    Calls Tryz.prog 55 #[.agg #[.int .i64 ra, .int .i64 rb]] w (OrdersGot (ordersP ra rb) w) := by
  have hd := fun W => isDouble_any ra rb W
  by_cases e : ra = rb
  · rw [decide_eq_true e] at hd
    subst e
    have e1 : ordersP ra ra = [[ra, ra, ra, ra]] := by simp [ordersP]
    rw [e1]
    clear e1
    have HD := Lib.hid hd
    clear hd
    have BR := Blk.new w #[.int .i64 ra, .int .i64 ra] 30
    have hb : Below w.heap.size w (w.alloc (.cells #[.int .i64 ra, .int .i64 ra] 30)) := (Below.refl _ _).alloc (Nat.le_refl _) _
    obtain ⟨x0, x1, xf, xl⟩ := BR.two
    go_enter Tryz.func55, Tryz.ntmps55
    go_wp2_with fail
    clear x0 x1 xf xl
    refine (HD.out _).mono ?_
    rintro e w1 ⟨rfl, hb1⟩
    obtain ⟨x0, x1, xf, xl⟩ := (BR.below hb1).two
    replace hb := chain hb hb1
    clear hb1 BR HD
    go_wp2
    refine bodyPost_ret (v := .slice (some ⟨w1.heap.size + 1, 0, none⟩) 1 1) (by simp [results, Tryz.results55, go_sem]) rfl ?_
    have B1 := Blk.new w1 #[.int .i64 ra, .int .i64 ra, .int .i64 ra, .int .i64 ra] 2
    have B2 := Blk.new (w1.alloc (.cells #[.int .i64 ra, .int .i64 ra, .int .i64 ra, .int .i64 ra] 2)) #[.slice (some ⟨w1.heap.size, 0, none⟩) 4 4] 26
    rw [World.size_alloc] at B2
    refine ⟨_, rfl, fun j o hj => ?_, (hb.alloc hb.size _).alloc (Nat.le_trans hb.size (by simp)) _⟩
    cases j with
    | zero =>
      simp at hj
      subst hj
      exact ⟨w1.heap.size, by first | (simp; done) | simpa using B2.cell 0, Row.of_blk (B1.alloc _) rfl⟩
    | succ j => simp at hj
  · rw [decide_eq_false e] at hd
    have e1 : ordersP ra rb = [[ra, rb], [rb, ra]] := by simp [ordersP, e]
    rw [e1]
    clear e1 e
    have HD := Lib.hid hd
    clear hd
    have BR := Blk.new w #[.int .i64 ra, .int .i64 rb] 30
    have hb : Below w.heap.size w (w.alloc (.cells #[.int .i64 ra, .int .i64 rb] 30)) := (Below.refl _ _).alloc (Nat.le_refl _) _
    obtain ⟨x0, x1, xf, xl⟩ := BR.two
    go_enter Tryz.func55, Tryz.ntmps55
    go_wp2_with fail
    clear x0 x1 xf xl
    refine (HD.out _).mono ?_
    rintro e w1 ⟨rfl, hb1⟩
    obtain ⟨x0, x1, xf, xl⟩ := (BR.below hb1).two
    replace hb := chain hb hb1
    clear hb1 BR HD
    go_wp2
    refine bodyPost_ret (v := .slice (some ⟨w1.heap.size + 1 + 1, 0, none⟩) 2 2) (by simp [results, Tryz.results55, go_sem]) rfl ?_
    have B1 := Blk.new w1 #[.int .i64 ra, .int .i64 rb] 2
    have B2 := Blk.new (w1.alloc (.cells #[.int .i64 ra, .int .i64 rb] 2)) #[.int .i64 rb, .int .i64 ra] 2
    have B3 := Blk.new ((w1.alloc (.cells #[.int .i64 ra, .int .i64 rb] 2)).alloc (.cells #[.int .i64 rb, .int .i64 ra] 2)) #[.slice (some ⟨w1.heap.size, 0, none⟩) 2 2, .slice (some ⟨w1.heap.size + 1, 0, none⟩) 2 2] 26
    rw [World.size_alloc, World.size_alloc] at B3
    rw [World.size_alloc] at B2
    refine ⟨_, rfl, fun j o hj => ?_, ((hb.alloc hb.size _).alloc (Nat.le_trans hb.size (by simp)) _).alloc (Nat.le_trans hb.size (by simp; omega)) _⟩
    rcases (by omega : j = 0 ∨ j = 1 ∨ 2 ≤ j) with rfl | rfl | h2
    · simp at hj
      subst hj
      exact ⟨w1.heap.size, by simpa using B3.cell 0, Row.of_blk ((B1.alloc _).alloc _) rfl⟩
    · simp at hj
      subst hj
      exact ⟨w1.heap.size + 1, by simpa using B3.cell 1, Row.of_blk (B2.alloc _) rfl⟩
    · obtain ⟨j, rfl⟩ := Nat.exists_eq_add_of_le h2
      rw [Nat.add_comm] at hj
      simp at hj
def DisL (x y : LI) : Prop := ∀ p ∈ x.2.2.2, ∀ q ∈ p.2.2, ∀ p' ∈ y.2.2.2, ∀ q' ∈ p'.2.2, Dis q q'
def LissGot (P : Nat) (xs ys : List Int) (OS : List (List Int)) (c h s : Int) (w : World) (e : Ending) (w' : World) : Prop :=
  ∃ g k L, e = .returned (.slice (some ⟨g, 0, none⟩) L.length k) ∧ w.heap.size ≤ g ∧ g < w'.heap.size ∧ VRow w' g (L.flatMap liC) 70 ∧ LisAll w.heap.size w'.heap.size w' L ∧ L.map (fun x => x.1.2) = OS ∧
    (∀ x ∈ L, x.2.2.2.map (fun y => y.2.2.map (·.2)) = levels P h x.1.2 (startP xs ys) ∧ (∀ y ∈ x.2.2.2, Fine (P : Int) c h s (y.2.2.map (·.2)) ∧ y.2.2.Pairwise Dis)) ∧ L.Pairwise DisL ∧ Below w.heap.size w w'
theorem LisAll.snoc {lo hi : Nat} {w : World} {l : List LI} {x : LI} (h : LisAll lo hi w l) (hx : LiAt lo hi w x) : LisAll lo hi w (l ++ [x]) := fun y hy => by
  rcases List.mem_append.1 hy with hy | hy
  · exact h y hy
  · simp at hy; subst hy; exact hx
theorem OwnI.at {w : World} {base : Nat} {v : Value} {l : List LI} (h : OwnI w base v l) (h0 : 0 < l.length) : ∃ g k, v = .slice (some ⟨g, 0, none⟩) l.length k ∧ base ≤ g ∧ VRow w g (l.flatMap liC) 70 := by
  obtain ⟨hl, ⟨_, h2⟩ | ⟨g, cap, cur, hv, hb, hh, hc, hm, hs, ht⟩⟩ := h
  · omega
  · refine ⟨g, cap, hv, hb, cur, hh, ?_, ?_⟩
    · rw [hl, hs]; exact Nat.mul_le_mul_right _ hc
    · rw [hl]; exact ht
theorem liC_at : ∀ (l : List LI) (k : Nat) (s : LI), l[k]? = some s → ∀ j, j < 2 → (l.flatMap liC)[k * 2 + j]? = (liC s)[j]?
  | [], k, s, h, j, hj => by simp at h
  | x :: l, 0, s, h, j, hj => by
    simp at h
    subst h
    rw [List.flatMap_cons, List.getElem?_append_left (by simp [liC]; omega), Nat.zero_mul, Nat.zero_add]
  | x :: l, k + 1, s, h, j, hj => by
    rw [List.flatMap_cons, List.getElem?_append_right (by simp [liC]; omega)]
    have := liC_at l k s (by simpa using h) j hj
    rw [← this]
    congr 1
    simp [liC]
    omega
theorem liRow {w : World} {g : Nat} {l : List LI} (h : VRow w g (l.flatMap liC) 70) (k : Nat) (s : LI) (hk : l[k]? = some s) :
    w.cell? ⟨g, k * 2, none⟩ = some (.slice (some ⟨s.1.1, 0, none⟩) s.1.2.length s.1.2.length) ∧ w.cell? ⟨g, k * 2 + 1, none⟩ = some (.slice (some ⟨s.2.1, 0, none⟩) s.2.2.2.length s.2.2.1) :=
  ⟨h.cell _ _ (by have := liC_at l k s hk 0 (by omega); simpa [liC] using this), h.cell _ _ (by have := liC_at l k s hk 1 (by omega); simpa [liC] using this)⟩
set_option maxRecDepth 100000 in
set_option maxHeartbeats 4000000 in
theorem listingsOf_any (P : Nat) (c h s ra rb : Int) (a1 a2 : Option Addr) (n1 n2 c1 c2 : Nat) (xs ys : List Int) (w : World) (h1 : xs.length = n1) (h2 : ys.length = n2) (r1 : IRow w a1 xs) (r2 : IRow w a2 ys) (g : isB (P : Int) c h s xs ys = true) (ha : inB ra 1 s = true) (hbb : inB rb 1 s = true) :
    Calls Tryz.prog 26 #[.agg #[.int .i64 (P : Int), .int .i64 c, .int .i64 h, .int .i64 s], .agg #[.slice a1 n1 c1, .slice a2 n2 c2], .agg #[.int .i64 ra, .int .i64 rb]] w (LissGot P xs ys (ordersP ra rb) c h s w) := by
  obtain ⟨BV, BB, BR, hb, hz⟩ := three_new w #[.int .i64 (P : Int), .int .i64 c, .int .i64 h, .int .i64 s] #[.slice a1 n1 c1, .slice a2 n2 c2] #[.int .i64 ra, .int .i64 rb] 25 28 30
  have hz1 : w.heap.size + 1 + 1 + 1 ≤ (((w.alloc (.cells #[.int .i64 (P : Int), .int .i64 c, .int .i64 h, .int .i64 s] 25)).alloc (.cells #[.slice a1 n1 c1, .slice a2 n2 c2] 28)).alloc (.cells #[.int .i64 ra, .int .i64 rb] 30)).heap.size := by rw [hz]; omega
  clear hz
  replace r1 := r1.below hb
  replace r2 := r2.below hb
  have HG := Lib.hid g
  have HOM := Lib.hid (fun j o ho => ordersP_mem (j := j) (o := o) ha hbb ho)
  have HOL := ordersP_length ra rb
  have hor := fun W => implOrders_any ra rb W
  have hO0 : 0 < (ordersP ra rb).length := by unfold ordersP; split <;> simp
  obtain ⟨OS, hOS⟩ : ∃ z, ordersP ra rb = z := ⟨_, rfl⟩
  rw [hOS] at hor HOM HOL hO0 ⊢
  have HOR := Lib.hid hor
  clear hOS hor g ha hbb
  obtain ⟨x0, x1, x2, x3, xf, xl⟩ := BV.four
  obtain ⟨y0, y1, yf, yl⟩ := BB.two
  obtain ⟨z0, z1, zf, zl⟩ := BR.two
  go_enter Tryz.func26, Tryz.ntmps26
  go_wp2_with fail
  clear x0 x1 x2 x3 xf xl y0 y1 yf yl z0 z1 zf zl
  generalize (((w.alloc (.cells #[.int .i64 (P : Int), .int .i64 c, .int .i64 h, .int .i64 s] 25)).alloc (.cells #[.slice a1 n1 c1, .slice a2 n2 c2] 28)).alloc (.cells #[.int .i64 ra, .int .i64 rb] 30)) = v0 at *
  refine (HOR.out _).mono ?_
  rintro e w1 ⟨gO, rfl, hcells, hb1⟩
  have HC := Lib.hid hcells
  clear hcells
  go_wp2_with fail
  go_loopg [7, 9, 13] OS.length (fun m q7 q9 q13 wr => ∃ (k : Nat) (L : List LI), k ≤ OS.length ∧ m = OS.length - k ∧ q13 = .int .i64 k ∧ OwnI wr w1.heap.size q7 L ∧ LisAll w1.heap.size wr.heap.size wr L ∧ L.map (fun x => x.1.2) = OS.take k ∧ (∀ x ∈ L, x.2.2.2.map (fun y => y.2.2.map (·.2)) = levels P h x.1.2 (startP xs ys) ∧ (∀ y ∈ x.2.2.2, Fine (P : Int) c h s (y.2.2.map (·.2)) ∧ y.2.2.Pairwise Dis)) ∧ L.Pairwise DisL ∧ Below w1.heap.size w1 wr)
  case atStart => exact ⟨0, [], by omega, by omega, rfl, OwnE.nil _ _, fun x hx => by simp at hx, by simp, fun x hx => by simp at hx, List.Pairwise.nil, Below.refl _ _⟩
  case round =>
    obtain ⟨k, L, hk, hm, rfl, hO, hL, hT, hQ, hDL, hbq⟩ := hrel
    have hbel := chain hb1 hbq
    by_cases hlt : k < OS.length
    · have hlt' : (k : Int) < (OS.length : Int) := by omega
      have hk0 : (0 : Int) ≤ (k : Int) := by omega
      obtain ⟨od, hod⟩ : ∃ o, OS[k]? = some o := ⟨_, List.getElem?_eq_getElem hlt⟩
      obtain ⟨gj, hcj, hRj⟩ := HC.out k od hod
      obtain ⟨ho4, hodd⟩ := HOM.out k od hod
      have hlo := listingOf_any P c h s a1 a2 n1 n2 c1 c2 gj xs ys od wr h1 h2 (r1.below hbel) (r2.below hbel) HG.out (hRj.below hbq) ho4 hodd
      have HLO := Lib.hid hlo
      have HT := Lib.hid hT
      have HQ := Lib.hid hQ
      have HOD := Lib.hid hod
      have hLl : L.length = k := by have := congrArg List.length hT; rw [List.length_map, List.length_take] at this; omega
      have hLl2 : L.length ≤ 1048576 := by omega
      clear hlo hT hQ hod hLl hodd
      have hcj2 := CellIs.below hcj hbq
      unfold CellIs at hcj2
      obtain ⟨x0, x1, x2, x3, xf, xl⟩ := (BV.below hbel).four
      obtain ⟨y0, y1, yf, yl⟩ := (BB.below hbel).two
      go_wp2_with fail
      clear x0 x1 x2 x3 xf xl y0 y1 yf yl hcj2
      refine (HLO.out).mono ?_
      rintro e wA ⟨gL, kL, ls, rfl, hAt, hlv, hfi, hbA⟩
      clear HLO
      have hX : ∀ x ∈ L, DisL x ((gj, od), (gL, kL, ls)) := fun x hx p hp q hq p' hp' q' hq' a ha b hb' => by have h1 := (((hL x hx).2.2.2.2 p hp).2 q hq).adr a ha; have h2 := ((hAt.2.2.2.2 p' hp').2 q' hq').adr b hb'; omega
      have HX := Lib.hid (List.pairwise_append.2 ⟨hDL, List.pairwise_singleton DisL _, fun a ha b hb' => by simp at hb'; subst hb'; exact hX a ha⟩ : (L ++ [((gj, od), (gL, kL, ls))]).Pairwise DisL)
      clear hX hDL
      replace hO := hO.below hbA
      replace hL := (hL.below hbA).mono (Nat.le_refl _) hbA.size
      have hsA := hbA.size
      have hv := (chain hbq hbA).size
      replace hAt := hAt.mono hbq.size (Nat.le_refl _)
      have HLV := Lib.hid hlv
      have HFI := Lib.hid hfi
      clear hlv hfi
      go_wp2_with (at_builtin; go_loud (refine wp_pushLi rfl (.tmp 17) (.tmp 22) rfl w1.heap.size _ L rfl hO ((gj, od), (gL, kL, ls)) rfl rfl hLl2 hv ?_; intro v9 wC hO2 hbC hfr))
      go_roundg (OS.length - (k + 1))
      case measure => omega
      case rel =>
        have hsC := hbC.size
        refine ⟨k + 1, L ++ [((gj, od), (gL, kL, ls))], by omega, rfl, by go_num, hO2, ?_, ?_, ?_, HX.out, (chain hbq hbA).trans hbC⟩
        · exact (hL.frameT hsC (by decide) (by decide) (by decide) hfr).snoc (hAt.frameT hsC (by decide) (by decide) (by decide) hfr)
        · rw [List.map_append, HT.out, List.take_add_one, HOD.out]
          rfl
        · intro x hx
          rcases List.mem_append.1 hx with hx | hx
          · exact HQ.out x hx
          · simp at hx
            subst hx
            exact ⟨HLV.out, HFI.out⟩
    · obtain rfl : k = OS.length := by omega
      rw [List.take_length] at hT
      have hLl : 0 < L.length := by have := congrArg List.length hT; rw [List.length_map] at this; omega
      obtain ⟨g, kg, rfl, hg, hV⟩ := hO.at hLl
      have HT := Lib.hid hT
      have HQ := Lib.hid hQ
      have HDL := Lib.hid hDL
      clear hO hT hQ hLl hDL
      go_wp2
      go_ret
      exact ⟨g, kg, L, rfl, Nat.le_trans (hb.trans (hb1.mono hb.size)).size hg, hV.lt, hV, hL.mono (hb.trans (hb1.mono hb.size)).size (Nat.le_refl _), HT.out, HQ.out, HDL.out, hb.trans (hbel.mono hb.size)⟩
def usedL (L : List LI) : Nat := (L.map (fun x => x.2.2.2.length - 1)).foldl max 0
def usedLTo (L : List LI) (k : Nat) : Nat := usedL (L.take k)
theorem usedLTo_succ (L : List LI) (k : Nat) (x : LI) (hx : L[k]? = some x) : usedLTo L (k + 1) = max (usedLTo L k) (x.2.2.2.length - 1) := by
  unfold usedLTo usedL
  rw [List.take_add_one, hx]
  simp
theorem used1_any (x : LI) (w : World) (h0 : 0 < x.2.2.2.length) (h1 : x.2.2.2.length ≤ 1000) :
    Calls Tryz.prog 29 #[liV x] w fun e w' => e = .returned (.int .i64 ((x.2.2.2.length - 1 : Nat) : Int)) ∧ Below w.heap.size w w' := by
  obtain ⟨⟨go, o⟩, gL, k, ls⟩ := x
  dsimp only at h0 h1 ⊢
  obtain ⟨n, hn⟩ : ∃ n, ls.length = n := ⟨_, rfl⟩
  rw [hn] at h0 h1 ⊢
  have BX := Blk.new w #[.slice (some ⟨go, 0, none⟩) o.length o.length, .slice (some ⟨gL, 0, none⟩) n k] 70
  have hb : Below w.heap.size w (w.alloc (.cells #[.slice (some ⟨go, 0, none⟩) o.length o.length, .slice (some ⟨gL, 0, none⟩) n k] 70)) := (Below.refl _ _).alloc (Nat.le_refl _) _
  obtain ⟨x0, x1, xf, xl⟩ := BX.two
  have wz : IntKind.i64.wrap ((n : Int) - 1) = ((n - 1 : Nat) : Int) := by unfold IntKind.wrap; simp [IntKind.bits, IntKind.signed]; omega
  go_enter Tryz.func29, Tryz.ntmps29
  go_wp2
  go_ret
  exact ⟨by first | rfl | (rw [wz]), hb⟩
set_option maxRecDepth 100000 in
set_option maxHeartbeats 2000000 in
theorem usedAll_any (g k : Nat) (L : List LI) (w : World) (hV : VRow w g (L.flatMap liC) 70) (h0 : ∀ x ∈ L, 0 < x.2.2.2.length ∧ x.2.2.2.length ≤ 1000) (hL : L.length ≤ 1000) (hU : usedL L ≤ 1000) (hle : ∀ i, usedLTo L i ≤ 1000) :
    Calls Tryz.prog 27 #[.slice (some ⟨g, 0, none⟩) L.length k] w fun e w' => e = .returned (.int .i64 ((usedL L : Nat) : Int)) ∧ Below w.heap.size w w' := by
  have hall : usedLTo L L.length = usedL L := by unfold usedLTo; rw [List.take_length]
  obtain ⟨U, hUU⟩ : ∃ z, usedL L = z := ⟨_, rfl⟩
  rw [hUU] at hall hU ⊢
  have HALL := Lib.hid hall
  have HLE := Lib.hid hle
  have H0 := Lib.hid h0
  have HUS := Lib.hid (fun k x (hx : L[k]? = some x) => usedLTo_succ L k x hx)
  clear hUU hall hle h0
  go_enter Tryz.func27, Tryz.ntmps27
  go_wp2_with fail
  go_loopg [3, 5, 8] L.length (fun m q3 q5 q8 wr => ∃ i : Nat, i ≤ L.length ∧ m = L.length - i ∧ q8 = .int .i64 i ∧ q3 = .int .i64 ((usedLTo L i : Nat) : Int) ∧ Below w.heap.size w wr)
  case atStart => exact ⟨0, by omega, by omega, rfl, by simp [usedLTo, usedL], Below.refl _ _⟩
  case round =>
    obtain ⟨i, hi, hm, rfl, rfl, hbq⟩ := hrel
    have hul := HLE.out i
    by_cases hlt : i < L.length
    · have hlt' : (i : Int) < (L.length : Int) := by omega
      have hi0 : (0 : Int) ≤ (i : Int) := by omega
      obtain ⟨x, hx⟩ : ∃ x, L[i]? = some x := ⟨_, List.getElem?_eq_getElem hlt⟩
      obtain ⟨k0, k1⟩ := H0.out x (List.mem_of_getElem? hx)
      have hus := HUS.out i x hx
      obtain ⟨c0, c1⟩ := liRow (hV.below hbq) i x hx
      have hu1 := fun W => used1_any x W k0 k1
      obtain ⟨NN, hNN⟩ : ∃ z, x.2.2.2.length - 1 = z := ⟨_, rfl⟩
      obtain ⟨UU, hUU⟩ : ∃ z, usedLTo L i = z := ⟨_, rfl⟩
      rw [hNN] at hu1
      rw [hNN, hUU] at hus
      rw [hUU] at hul ⊢
      have hNle : NN ≤ 1000 := by omega
      have HU1 := Lib.hid hu1
      have HUS2 := Lib.hid hus
      obtain ⟨MM, hMM⟩ : ∃ z : Int, max (UU : Int) (NN : Int) = z := ⟨_, rfl⟩
      have hmx : MM = ((max UU NN : Nat) : Int) := by omega
      have HMX := Lib.hid hmx
      clear hmx hu1 hus hNN hUU hx k0 k1
      have BX := Blk.new wr #[.slice (some ⟨x.1.1, 0, none⟩) x.1.2.length x.1.2.length, .slice (some ⟨x.2.1, 0, none⟩) x.2.2.2.length x.2.2.1] 70
      have hbx : Below wr.heap.size wr (wr.alloc (.cells #[.slice (some ⟨x.1.1, 0, none⟩) x.1.2.length x.1.2.length, .slice (some ⟨x.2.1, 0, none⟩) x.2.2.2.length x.2.2.1] 70)) := (Below.refl _ _).alloc (Nat.le_refl _) _
      obtain ⟨y0, y1, yf, yl⟩ := BX.two
      have ofl : (i : Int) * 2 = ((i * 2 : Nat) : Int) := by omega
      go_wp2_with fail
      clear y0 y1 yf yl c0 c1 BX
      refine (HU1.out _).mono ?_
      rintro e wA ⟨rfl, hbA⟩
      replace hbA := chain hbx hbA
      clear hbx HU1
      go_wp2
      go_roundg (L.length - (i + 1))
      case measure => omega
      case rel => exact ⟨i + 1, by omega, rfl, by go_num, by rw [HUS2.out, HMX.out], chain hbq hbA⟩
    · obtain rfl : i = L.length := by omega
      rw [HALL.out]
      clear hul
      go_wp2
      go_ret
      exact ⟨rfl, hbq⟩
def rlB (s ra rb : Int) : Bool := inB ra 1 s && (inB rb 1 s && decide (rb ≤ ra))
theorem rlB_in (s ra rb : Int) : rlB s ra rb = (inB ra 1 s && inB rb 1 ra) := by
  unfold rlB inB
  rw [Bool.eq_iff_iff]
  simp only [Bool.and_eq_true, decide_eq_true_eq]
  omega
set_option maxRecDepth 8000 in
set_option maxHeartbeats 1000000 in
theorem hasRoll_any (p c h s ra rb : Int) (w : World) :
    Calls Tryz.prog 48 #[.agg #[.int .i64 p, .int .i64 c, .int .i64 h, .int .i64 s], .agg #[.int .i64 ra, .int .i64 rb]] w fun e w' => e = .returned (.bool (rlB s ra rb)) ∧ Below w.heap.size w w' := by
  obtain ⟨BV, BR, hb, hz⟩ := two_new w #[.int .i64 p, .int .i64 c, .int .i64 h, .int .i64 s] #[.int .i64 ra, .int .i64 rb] 25 30
  obtain ⟨x0, x1, x2, x3, xf, xl⟩ := BV.four
  obtain ⟨z0, z1, zf, zl⟩ := BR.two
  have hA := fun W => hasDie_any p c h s ra W
  have hB := fun W => hasDie_any p c h s rb W
  have hC := fun W => rollOfFaces_any ra rb W
  unfold rlB
  obtain ⟨A, hAe⟩ : ∃ z, inB ra 1 s = z := ⟨_, rfl⟩
  obtain ⟨B, hBe⟩ : ∃ z, inB rb 1 s = z := ⟨_, rfl⟩
  rw [hAe] at hA
  rw [hBe] at hB
  rw [hAe, hBe]
  clear hAe hBe
  have HA := Lib.hid hA
  have HB := Lib.hid hB
  clear hA hB
  cases A with
  | false =>
    rw [Bool.false_and]
    clear hC
    go_enter Tryz.func48, Tryz.ntmps48
    go_wp2_with fail
    clear x0 x1 x2 x3 xf xl z0 z1 zf zl
    generalize ((w.alloc (.cells #[.int .i64 p, .int .i64 c, .int .i64 h, .int .i64 s] 25)).alloc (.cells #[.int .i64 ra, .int .i64 rb] 30)) = v0 at *
    have hd_ : v0.drew.heap.size = v0.heap.size := rfl
    replace BV := BV.drew
    replace BR := BR.drew
    replace hb := hb.drew
    refine wp_region_held_drew (S := fun w' => w'.cell? ⟨w.heap.size, 0, none⟩ = some (.int .i64 p) ∧ w'.cell? ⟨w.heap.size, 1, none⟩ = some (.int .i64 c) ∧ w'.cell? ⟨w.heap.size, 2, none⟩ = some (.int .i64 h) ∧ w'.cell? ⟨w.heap.size, 3, none⟩ = some (.int .i64 s) ∧ w'.cell? ⟨(w.heap.size + 1), 0, none⟩ = some (.int .i64 ra) ∧ w'.cell? ⟨(w.heap.size + 1), 1, none⟩ = some (.int .i64 rb)) (by kernel_rfl) ⟨BV.four.1, BV.four.2.1, BV.four.2.2.1, BV.four.2.2.2.1, BR.two.1, BR.two.2.1⟩ (fun hHeld => ?_)
    clear hHeld
    generalize v0.drew = vd at *
    have hHeld : vd.cell? ⟨w.heap.size, 0, none⟩ = some (.int .i64 p) ∧ vd.cell? ⟨w.heap.size, 1, none⟩ = some (.int .i64 c) ∧ vd.cell? ⟨w.heap.size, 2, none⟩ = some (.int .i64 h) ∧ vd.cell? ⟨w.heap.size, 3, none⟩ = some (.int .i64 s) ∧ vd.cell? ⟨(w.heap.size + 1), 0, none⟩ = some (.int .i64 ra) ∧ vd.cell? ⟨(w.heap.size + 1), 1, none⟩ = some (.int .i64 rb) := ⟨BV.four.1, BV.four.2.1, BV.four.2.2.1, BV.four.2.2.2.1, BR.two.1, BR.two.2.1⟩
    refine tk 0 5 ?_
    refine tk 1 6 ?_
    refine tk 2 7 ?_
    refine rdk 3 8 fun K hK => ?_
    go_simp
    refine (HA.out _).mono ?_
    rintro e w2 ⟨rfl, hb2⟩
    replace BV := BV.below hb2
    replace BR := BR.below hb2
    replace hb := chain hb hb2
    clear hb2
    (try go_wp2_with fail)
    refine hko hK (Blk.f4 BV (Blk.l2 BR)) fun hHeld => ?_
    clear hK K
    refine tk 4 9 ?_
    refine tkv 5 10 ?_
    refine tkv 6 11 ?_
    refine tkv 7 12 ?_
    refine tkv 8 13 ?_
    refine tk 9 14 ?_
    refine tk 10 15 ?_
    refine tkv 11 16 ?_
    refine tkv 12 17 ?_
    refine tkv 13 18 ?_
    refine tkv 14 19 ?_
    refine tkv 15 20 ?_
    refine tkv 16 21 ?_
    refine tkv 17 22 ?_
    refine tk 18 23 ?_
    refine tk 19 4 ?_
    refine wpAnyH_done (by kernel_rfl) ?_ _
    clear hHeld
    go_wp2_with fail
    go_ret
    exact ⟨rfl, hb⟩
  | true =>
    rw [Bool.true_and]
    cases B with
    | false =>
      rw [Bool.false_and]
      clear hC
      go_enter Tryz.func48, Tryz.ntmps48
      go_wp2_with fail
      clear x0 x1 x2 x3 xf xl z0 z1 zf zl
      generalize ((w.alloc (.cells #[.int .i64 p, .int .i64 c, .int .i64 h, .int .i64 s] 25)).alloc (.cells #[.int .i64 ra, .int .i64 rb] 30)) = v0 at *
      have hd_ : v0.drew.heap.size = v0.heap.size := rfl
      replace BV := BV.drew
      replace BR := BR.drew
      replace hb := hb.drew
      refine wp_region_held_drew (S := fun w' => w'.cell? ⟨w.heap.size, 0, none⟩ = some (.int .i64 p) ∧ w'.cell? ⟨w.heap.size, 1, none⟩ = some (.int .i64 c) ∧ w'.cell? ⟨w.heap.size, 2, none⟩ = some (.int .i64 h) ∧ w'.cell? ⟨w.heap.size, 3, none⟩ = some (.int .i64 s) ∧ w'.cell? ⟨(w.heap.size + 1), 0, none⟩ = some (.int .i64 ra) ∧ w'.cell? ⟨(w.heap.size + 1), 1, none⟩ = some (.int .i64 rb)) (by kernel_rfl) ⟨BV.four.1, BV.four.2.1, BV.four.2.2.1, BV.four.2.2.2.1, BR.two.1, BR.two.2.1⟩ (fun hHeld => ?_)
      clear hHeld
      generalize v0.drew = vd at *
      have hHeld : vd.cell? ⟨w.heap.size, 0, none⟩ = some (.int .i64 p) ∧ vd.cell? ⟨w.heap.size, 1, none⟩ = some (.int .i64 c) ∧ vd.cell? ⟨w.heap.size, 2, none⟩ = some (.int .i64 h) ∧ vd.cell? ⟨w.heap.size, 3, none⟩ = some (.int .i64 s) ∧ vd.cell? ⟨(w.heap.size + 1), 0, none⟩ = some (.int .i64 ra) ∧ vd.cell? ⟨(w.heap.size + 1), 1, none⟩ = some (.int .i64 rb) := ⟨BV.four.1, BV.four.2.1, BV.four.2.2.1, BV.four.2.2.2.1, BR.two.1, BR.two.2.1⟩
      refine tk 0 5 ?_
      refine tk 1 6 ?_
      refine tk 2 7 ?_
      refine rdk 3 8 fun K hK => ?_
      go_simp
      refine (HA.out _).mono ?_
      rintro e w2 ⟨rfl, hb2⟩
      replace BV := BV.below hb2
      replace BR := BR.below hb2
      replace hb := chain hb hb2
      clear hb2
      (try go_wp2_with fail)
      refine hko hK (Blk.f4 BV (Blk.l2 BR)) fun hHeld => ?_
      clear hK K
      refine tk 4 9 ?_
      refine tk 5 10 ?_
      refine tk 6 11 ?_
      refine tk 7 12 ?_
      refine rdk 8 13 fun K hK => ?_
      go_simp
      refine (HB.out _).mono ?_
      rintro e w3 ⟨rfl, hb3⟩
      replace BV := BV.below hb3
      replace BR := BR.below hb3
      replace hb := chain hb hb3
      clear hb3
      (try go_wp2_with fail)
      refine hko hK (Blk.f4 BV (Blk.l2 BR)) fun hHeld => ?_
      clear hK K
      refine tk 9 14 ?_
      refine tk 10 15 ?_
      refine tkv 11 16 ?_
      refine tkv 12 17 ?_
      refine tkv 13 18 ?_
      refine tkv 14 19 ?_
      refine tkv 15 20 ?_
      refine tkv 16 21 ?_
      refine tkv 17 22 ?_
      refine tk 18 23 ?_
      refine tk 19 4 ?_
      refine wpAnyH_done (by kernel_rfl) ?_ _
      clear hHeld
      go_wp2_with fail
      go_ret
      exact ⟨rfl, hb⟩
    | true =>
      rw [Bool.true_and]
      by_cases q : rb ≤ ra
      · rw [decide_eq_true q]
        rw [show (prR ra rb).1 = ra by rw [prR_A]; omega, show (prR ra rb).2 = rb by rw [prR_B]; omega] at hC
        have HC := Lib.hid hC
        clear hC q
        go_enter Tryz.func48, Tryz.ntmps48
        go_wp2_with fail
        clear x0 x1 x2 x3 xf xl z0 z1 zf zl
        generalize ((w.alloc (.cells #[.int .i64 p, .int .i64 c, .int .i64 h, .int .i64 s] 25)).alloc (.cells #[.int .i64 ra, .int .i64 rb] 30)) = v0 at *
        have hd_ : v0.drew.heap.size = v0.heap.size := rfl
        replace BV := BV.drew
        replace BR := BR.drew
        replace hb := hb.drew
        refine wp_region_held_drew (S := fun w' => w'.cell? ⟨w.heap.size, 0, none⟩ = some (.int .i64 p) ∧ w'.cell? ⟨w.heap.size, 1, none⟩ = some (.int .i64 c) ∧ w'.cell? ⟨w.heap.size, 2, none⟩ = some (.int .i64 h) ∧ w'.cell? ⟨w.heap.size, 3, none⟩ = some (.int .i64 s) ∧ w'.cell? ⟨(w.heap.size + 1), 0, none⟩ = some (.int .i64 ra) ∧ w'.cell? ⟨(w.heap.size + 1), 1, none⟩ = some (.int .i64 rb)) (by kernel_rfl) ⟨BV.four.1, BV.four.2.1, BV.four.2.2.1, BV.four.2.2.2.1, BR.two.1, BR.two.2.1⟩ (fun hHeld => ?_)
        clear hHeld
        generalize v0.drew = vd at *
        have hHeld : vd.cell? ⟨w.heap.size, 0, none⟩ = some (.int .i64 p) ∧ vd.cell? ⟨w.heap.size, 1, none⟩ = some (.int .i64 c) ∧ vd.cell? ⟨w.heap.size, 2, none⟩ = some (.int .i64 h) ∧ vd.cell? ⟨w.heap.size, 3, none⟩ = some (.int .i64 s) ∧ vd.cell? ⟨(w.heap.size + 1), 0, none⟩ = some (.int .i64 ra) ∧ vd.cell? ⟨(w.heap.size + 1), 1, none⟩ = some (.int .i64 rb) := ⟨BV.four.1, BV.four.2.1, BV.four.2.2.1, BV.four.2.2.2.1, BR.two.1, BR.two.2.1⟩
        refine tk 0 5 ?_
        refine tk 1 6 ?_
        refine tk 2 7 ?_
        refine rdk 3 8 fun K hK => ?_
        go_simp
        refine (HA.out _).mono ?_
        rintro e w2 ⟨rfl, hb2⟩
        replace BV := BV.below hb2
        replace BR := BR.below hb2
        replace hb := chain hb hb2
        clear hb2
        (try go_wp2_with fail)
        refine hko hK (Blk.f4 BV (Blk.l2 BR)) fun hHeld => ?_
        clear hK K
        refine tk 4 9 ?_
        refine tk 5 10 ?_
        refine tk 6 11 ?_
        refine tk 7 12 ?_
        refine rdk 8 13 fun K hK => ?_
        go_simp
        refine (HB.out _).mono ?_
        rintro e w3 ⟨rfl, hb3⟩
        replace BV := BV.below hb3
        replace BR := BR.below hb3
        replace hb := chain hb hb3
        clear hb3
        (try go_wp2_with fail)
        refine hko hK (Blk.f4 BV (Blk.l2 BR)) fun hHeld => ?_
        clear hK K
        refine tk 9 14 ?_
        refine tk 10 15 ?_
        refine tk 11 16 ?_
        refine tk 12 17 ?_
        refine tk 13 18 ?_
        refine tk 14 19 ?_
        refine tk 15 20 ?_
        refine rdk 16 21 fun K hK => ?_
        go_simp
        refine (HC.out _).mono ?_
        rintro e w4 ⟨rfl, hb4⟩
        replace BV := BV.below hb4
        replace BR := BR.below hb4
        replace hb := chain hb hb4
        clear hb4
        (try go_wp2_with fail)
        refine hko hK (Blk.f4 BV (Blk.l2 BR)) fun hHeld => ?_
        clear hK K
        refine tk 17 22 ?_
        refine tk 18 23 ?_
        refine tk 19 4 ?_
        refine wpAnyH_done (by kernel_rfl) ?_ _
        clear hHeld
        go_wp2_with fail
        go_ret
        exact ⟨rfl, hb⟩
      · rw [decide_eq_false q]
        rw [show (prR ra rb).1 = rb by rw [prR_A]; omega, show (prR ra rb).2 = ra by rw [prR_B]; omega] at hC
        have HC := Lib.hid hC
        have f0 : (ra == rb) = false := by rw [beq_eq_false_iff_ne]; omega
        clear hC q
        go_enter Tryz.func48, Tryz.ntmps48
        go_wp2_with fail
        clear x0 x1 x2 x3 xf xl z0 z1 zf zl
        generalize ((w.alloc (.cells #[.int .i64 p, .int .i64 c, .int .i64 h, .int .i64 s] 25)).alloc (.cells #[.int .i64 ra, .int .i64 rb] 30)) = v0 at *
        have hd_ : v0.drew.heap.size = v0.heap.size := rfl
        replace BV := BV.drew
        replace BR := BR.drew
        replace hb := hb.drew
        refine wp_region_held_drew (S := fun w' => w'.cell? ⟨w.heap.size, 0, none⟩ = some (.int .i64 p) ∧ w'.cell? ⟨w.heap.size, 1, none⟩ = some (.int .i64 c) ∧ w'.cell? ⟨w.heap.size, 2, none⟩ = some (.int .i64 h) ∧ w'.cell? ⟨w.heap.size, 3, none⟩ = some (.int .i64 s) ∧ w'.cell? ⟨(w.heap.size + 1), 0, none⟩ = some (.int .i64 ra) ∧ w'.cell? ⟨(w.heap.size + 1), 1, none⟩ = some (.int .i64 rb)) (by kernel_rfl) ⟨BV.four.1, BV.four.2.1, BV.four.2.2.1, BV.four.2.2.2.1, BR.two.1, BR.two.2.1⟩ (fun hHeld => ?_)
        clear hHeld
        generalize v0.drew = vd at *
        have hHeld : vd.cell? ⟨w.heap.size, 0, none⟩ = some (.int .i64 p) ∧ vd.cell? ⟨w.heap.size, 1, none⟩ = some (.int .i64 c) ∧ vd.cell? ⟨w.heap.size, 2, none⟩ = some (.int .i64 h) ∧ vd.cell? ⟨w.heap.size, 3, none⟩ = some (.int .i64 s) ∧ vd.cell? ⟨(w.heap.size + 1), 0, none⟩ = some (.int .i64 ra) ∧ vd.cell? ⟨(w.heap.size + 1), 1, none⟩ = some (.int .i64 rb) := ⟨BV.four.1, BV.four.2.1, BV.four.2.2.1, BV.four.2.2.2.1, BR.two.1, BR.two.2.1⟩
        refine tk 0 5 ?_
        refine tk 1 6 ?_
        refine tk 2 7 ?_
        refine rdk 3 8 fun K hK => ?_
        go_simp
        refine (HA.out _).mono ?_
        rintro e w2 ⟨rfl, hb2⟩
        replace BV := BV.below hb2
        replace BR := BR.below hb2
        replace hb := chain hb hb2
        clear hb2
        (try go_wp2_with fail)
        refine hko hK (Blk.f4 BV (Blk.l2 BR)) fun hHeld => ?_
        clear hK K
        refine tk 4 9 ?_
        refine tk 5 10 ?_
        refine tk 6 11 ?_
        refine tk 7 12 ?_
        refine rdk 8 13 fun K hK => ?_
        go_simp
        refine (HB.out _).mono ?_
        rintro e w3 ⟨rfl, hb3⟩
        replace BV := BV.below hb3
        replace BR := BR.below hb3
        replace hb := chain hb hb3
        clear hb3
        (try go_wp2_with fail)
        refine hko hK (Blk.f4 BV (Blk.l2 BR)) fun hHeld => ?_
        clear hK K
        refine tk 9 14 ?_
        refine tk 10 15 ?_
        refine tk 11 16 ?_
        refine tk 12 17 ?_
        refine tk 13 18 ?_
        refine tk 14 19 ?_
        refine tk 15 20 ?_
        refine rdk 16 21 fun K hK => ?_
        go_simp
        refine (HC.out _).mono ?_
        rintro e w4 ⟨rfl, hb4⟩
        replace BV := BV.below hb4
        replace BR := BR.below hb4
        replace hb := chain hb hb4
        clear hb4
        (try go_wp2_with fail)
        refine hko hK (Blk.f4 BV (Blk.l2 BR)) fun hHeld => ?_
        clear hK K
        refine tk 17 22 ?_
        refine tk 18 23 ?_
        refine tk 19 4 ?_
        refine wpAnyH_done (by kernel_rfl) ?_ _
        clear hHeld
        go_wp2_with fail
        go_ret
        exact ⟨rfl, hb⟩
set_option maxRecDepth 8000 in
set_option maxHeartbeats 1000000 in
theorem isRoll_any (p c h s ra rb : Int) (w : World) (g : vB p c h s = true) :
    Calls Tryz.prog 52 #[.agg #[.int .i64 p, .int .i64 c, .int .i64 h, .int .i64 s], .agg #[.int .i64 ra, .int .i64 rb]] w fun e w' => e = .returned (.bool (rlB s ra rb)) ∧ Below w.heap.size w w' := by
  obtain ⟨BV, BR, hb, hz⟩ := two_new w #[.int .i64 p, .int .i64 c, .int .i64 h, .int .i64 s] #[.int .i64 ra, .int .i64 rb] 25 30
  clear hz
  obtain ⟨x0, x1, x2, x3, xf, xl⟩ := BV.four
  obtain ⟨z0, z1, zf, zl⟩ := BR.two
  have hV := fun W => specIsVariant_any p c h s W
  rw [g] at hV
  have hA := fun W => l01In_any ra 1 s W
  have hB := fun W => l01In_any rb 1 ra W
  rw [rlB_in]
  obtain ⟨A, hAe⟩ : ∃ z, inB ra 1 s = z := ⟨_, rfl⟩
  obtain ⟨B, hBe⟩ : ∃ z, inB rb 1 ra = z := ⟨_, rfl⟩
  rw [hAe] at hA
  rw [hBe] at hB
  rw [hAe, hBe]
  clear hAe hBe g
  have HV := Lib.hid hV
  have HA := Lib.hid hA
  have HB := Lib.hid hB
  clear hA hB hV
  cases A with
  | false =>
    rw [Bool.false_and]
    go_enter Tryz.func52, Tryz.ntmps52
    go_wp2_with (first | (go_at_call 62; refine (HV.out _).mono ?_; rintro e w1 ⟨rfl, hb1⟩; obtain ⟨x0, x1, x2, x3, xf, xl⟩ := (BV.below hb1).four; obtain ⟨z0, z1, zf, zl⟩ := (BR.below hb1).two) | (go_at_call 37; refine (HA.out _).mono ?_; clear HA; rintro e w2 ⟨rfl, rfl⟩))
    go_ret
    exact ⟨rfl, chain hb hb1⟩
  | true =>
    rw [Bool.true_and]
    go_enter Tryz.func52, Tryz.ntmps52
    go_wp2_with (first | (go_at_call 62; refine (HV.out _).mono ?_; rintro e w1 ⟨rfl, hb1⟩; obtain ⟨x0, x1, x2, x3, xf, xl⟩ := (BV.below hb1).four; obtain ⟨z0, z1, zf, zl⟩ := (BR.below hb1).two) | (go_at_call 37; refine (HA.out _).mono ?_; clear HA; rintro e w2 ⟨rfl, rfl⟩) | (go_at_call 37; refine (HB.out _).mono ?_; clear HB; rintro e w3 ⟨rfl, rfl⟩))
    go_ret
    exact ⟨rfl, chain hb hb1⟩
end Go.Proofs.YtciljbnailobgaaGreat
