/- Texts of a proof, laid together. -/
import Derived.Test.YtciljbnailobgaaGreatV15
import Derived.Test.YtciljbnailobgaaGreatV11
import Derived.Test.YtciljbnailobgaaGreatV10
import Derived.Shelf.Abstract
import Derived.Shelf.RegionOpen
import Derived.WalkKit
import Derived.OwnWalkIn
import Derived.TacticsInMore
import Derived.LoopNIn
import Derived.LoopIn
namespace Go.Proofs.YtciljbnailobgaaGreat
open Go.ChangeShapes Go.WideShapes Go.ChangeAt Go.RowKit
set_option linter.unusedVariables false
set_option linter.unusedSimpArgs false
set_option maxRecDepth 4000
def codeB (p c h s : Int) (xs ys : List Int) (ra rb : Int) : Int := if isB p c h s xs ys = true then (if rlB s ra rb = true then 0 else 2) else 1
theorem isB_v {p c h s : Int} {xs ys : List Int} (g : isB p c h s xs ys = true) : vB p c h s = true := by
  unfold isB at g
  rw [Bool.and_eq_true] at g
  exact g.1
set_option maxRecDepth 8000 in
set_option maxHeartbeats 1000000 in
theorem rollCode_any (ra rb : Int) (p c h s : Int) (a1 a2 : Option Addr) (n1 n2 c1 c2 : Nat) (xs ys : List Int) (w : World) (h1 : xs.length = n1) (h2 : ys.length = n2) (l1 : n1 ≤ 1048576) (l2 : n2 ≤ 1048576) (r1 : IRow w a1 xs) (r2 : IRow w a2 ys) :
    Calls Tryz.prog 22 #[.agg #[.int .i64 p, .int .i64 c, .int .i64 h, .int .i64 s], .agg #[.slice a1 n1 c1, .slice a2 n2 c2], .agg #[.int .i64 ra, .int .i64 rb]] w fun e w' => e = .returned (.int .i64 (codeB p c h s xs ys ra rb)) ∧ Below w.heap.size w w' := by
  obtain ⟨BV, BB, BR, hb, hz⟩ := three_new w #[.int .i64 p, .int .i64 c, .int .i64 h, .int .i64 s] #[.slice a1 n1 c1, .slice a2 n2 c2] #[.int .i64 ra, .int .i64 rb] 25 28 30
  clear hz
  obtain ⟨x0, x1, x2, x3, xf, xl⟩ := BV.four
  obtain ⟨y0, y1, yf, yl⟩ := BB.two
  obtain ⟨z0, z1, zf, zl⟩ := BR.two
  unfold codeB
  have hB := fun W (q1 : IRow W a1 xs) (q2 : IRow W a2 ys) => isBoard_any p c h s a1 a2 n1 n2 c1 c2 xs ys W h1 h2 l1 l2 q1 q2
  by_cases g : isB p c h s xs ys = true
  · rw [if_pos g]
    rw [g] at hB
    have HB := Lib.hid hB
    clear hB
    have hR := fun W => hasRoll_any p c h s ra rb W
    clear g
    cases e : rlB s ra rb with
    | true =>
      rw [e] at hR
      have HR := Lib.hid hR
      clear hR e
      rw [if_pos rfl]
      go_enter Tryz.func22, Tryz.ntmps22
      go_wp2_with (first | (go_at_call 47; refine (HB.out _ (r1.below hb) (r2.below hb)).mono ?_; rintro e w1 ⟨rfl, hb1⟩; obtain ⟨x0, x1, x2, x3, xf, xl⟩ := (BV.below hb1).four; obtain ⟨y0, y1, yf, yl⟩ := (BB.below hb1).two; obtain ⟨z0, z1, zf, zl⟩ := (BR.below hb1).two) | (go_at_call 48; refine (HR.out _).mono ?_; rintro e w2 ⟨rfl, hb2⟩))
      go_ret
      exact ⟨rfl, chain (chain hb hb1) hb2⟩
    | false =>
      rw [e] at hR
      have HR := Lib.hid hR
      clear hR e
      rw [if_neg (by simp)]
      go_enter Tryz.func22, Tryz.ntmps22
      go_wp2_with (first | (go_at_call 47; refine (HB.out _ (r1.below hb) (r2.below hb)).mono ?_; rintro e w1 ⟨rfl, hb1⟩; obtain ⟨x0, x1, x2, x3, xf, xl⟩ := (BV.below hb1).four; obtain ⟨y0, y1, yf, yl⟩ := (BB.below hb1).two; obtain ⟨z0, z1, zf, zl⟩ := (BR.below hb1).two) | (go_at_call 48; refine (HR.out _).mono ?_; rintro e w2 ⟨rfl, hb2⟩))
      go_ret
      exact ⟨rfl, chain (chain hb hb1) hb2⟩
  · rw [if_neg g]
    replace g : isB p c h s xs ys = false := by simpa using g
    rw [g] at hB
    have HB := Lib.hid hB
    clear hB g
    go_enter Tryz.func22, Tryz.ntmps22
    go_wp2_with (first | (go_at_call 47; refine (HB.out _ (r1.below hb) (r2.below hb)).mono ?_; rintro e w1 ⟨rfl, hb1⟩; obtain ⟨x0, x1, x2, x3, xf, xl⟩ := (BV.below hb1).four; obtain ⟨y0, y1, yf, yl⟩ := (BB.below hb1).two; obtain ⟨z0, z1, zf, zl⟩ := (BR.below hb1).two))
    go_ret
    exact ⟨rfl, chain hb hb1⟩
set_option maxRecDepth 8000 in
set_option maxHeartbeats 1000000 in
theorem l05Code_any (ra rb : Int) (p c h s : Int) (a1 a2 : Option Addr) (n1 n2 c1 c2 : Nat) (xs ys : List Int) (w : World) (h1 : xs.length = n1) (h2 : ys.length = n2) (l1 : n1 ≤ 1048576) (l2 : n2 ≤ 1048576) (r1 : IRow w a1 xs) (r2 : IRow w a2 ys) :
    Calls Tryz.prog 24 #[.agg #[.int .i64 p, .int .i64 c, .int .i64 h, .int .i64 s], .agg #[.slice a1 n1 c1, .slice a2 n2 c2], .agg #[.int .i64 ra, .int .i64 rb]] w fun e w' => e = .returned (.int .i64 (codeB p c h s xs ys ra rb)) ∧ Below w.heap.size w w' := by
  obtain ⟨BV, BB, BR, hb, hz⟩ := three_new w #[.int .i64 p, .int .i64 c, .int .i64 h, .int .i64 s] #[.slice a1 n1 c1, .slice a2 n2 c2] #[.int .i64 ra, .int .i64 rb] 25 28 30
  clear hz
  obtain ⟨x0, x1, x2, x3, xf, xl⟩ := BV.four
  obtain ⟨y0, y1, yf, yl⟩ := BB.two
  obtain ⟨z0, z1, zf, zl⟩ := BR.two
  unfold codeB
  have hB := fun W (q1 : IRow W a1 xs) (q2 : IRow W a2 ys) => specIsBoard_any p c h s a1 a2 n1 n2 c1 c2 xs ys W h1 h2 l1 l2 q1 q2
  by_cases g : isB p c h s xs ys = true
  · rw [if_pos g]
    rw [g] at hB
    have HB := Lib.hid hB
    clear hB
    have hR := fun W => isRoll_any p c h s ra rb W (isB_v g)
    clear g
    cases e : rlB s ra rb with
    | true =>
      rw [e] at hR
      have HR := Lib.hid hR
      clear hR e
      rw [if_pos rfl]
      go_enter Tryz.func24, Tryz.ntmps24
      go_wp2_with (first | (go_at_call 36; refine (HB.out _ (r1.below hb) (r2.below hb)).mono ?_; rintro e w1 ⟨rfl, hb1⟩; obtain ⟨x0, x1, x2, x3, xf, xl⟩ := (BV.below hb1).four; obtain ⟨y0, y1, yf, yl⟩ := (BB.below hb1).two; obtain ⟨z0, z1, zf, zl⟩ := (BR.below hb1).two) | (go_at_call 52; refine (HR.out _).mono ?_; rintro e w2 ⟨rfl, hb2⟩))
      go_ret
      exact ⟨rfl, chain (chain hb hb1) hb2⟩
    | false =>
      rw [e] at hR
      have HR := Lib.hid hR
      clear hR e
      rw [if_neg (by simp)]
      go_enter Tryz.func24, Tryz.ntmps24
      go_wp2_with (first | (go_at_call 36; refine (HB.out _ (r1.below hb) (r2.below hb)).mono ?_; rintro e w1 ⟨rfl, hb1⟩; obtain ⟨x0, x1, x2, x3, xf, xl⟩ := (BV.below hb1).four; obtain ⟨y0, y1, yf, yl⟩ := (BB.below hb1).two; obtain ⟨z0, z1, zf, zl⟩ := (BR.below hb1).two) | (go_at_call 52; refine (HR.out _).mono ?_; rintro e w2 ⟨rfl, hb2⟩))
      go_ret
      exact ⟨rfl, chain (chain hb hb1) hb2⟩
  · rw [if_neg g]
    replace g : isB p c h s xs ys = false := by simpa using g
    rw [g] at hB
    have HB := Lib.hid hB
    clear hB g
    go_enter Tryz.func24, Tryz.ntmps24
    go_wp2_with (first | (go_at_call 36; refine (HB.out _ (r1.below hb) (r2.below hb)).mono ?_; rintro e w1 ⟨rfl, hb1⟩; obtain ⟨x0, x1, x2, x3, xf, xl⟩ := (BV.below hb1).four; obtain ⟨y0, y1, yf, yl⟩ := (BB.below hb1).two; obtain ⟨z0, z1, zf, zl⟩ := (BR.below hb1).two))
    go_ret
    exact ⟨rfl, chain hb hb1⟩
def duV (p c h s : Int) (xs ys : List Int) (ra rb : Int) : Value := if isB p c h s xs ys = true then (if rlB s ra rb = true then .tuple #[.int .i64 ((usedP p.toNat h xs ys ra rb : Nat) : Int), .int .i64 0] else .tuple #[.int .i64 0, .int .i64 2]) else .tuple #[.int .i64 0, .int .i64 1]
theorem rlB_two {s ra rb : Int} (g : rlB s ra rb = true) : inB ra 1 s = true ∧ inB rb 1 s = true := by
  unfold rlB at g
  rw [Bool.and_eq_true, Bool.and_eq_true] at g
  exact ⟨g.1, g.2.1⟩
theorem usedL_levels (P : Nat) (h : Int) (xs ys : List Int) (OS : List (List Int)) (L : List LI) (hT : L.map (fun x => x.1.2) = OS) (hQ : ∀ x ∈ L, x.2.2.2.map (fun y => y.2.2.map (·.2)) = levels P h x.1.2 (startP xs ys)) :
    usedL L = (OS.map (fun o => longN P h o (startP xs ys))).foldl max 0 := by
  unfold usedL
  rw [← hT, List.map_map]
  congr 1
  refine List.map_congr_left fun x hx => ?_
  have := congrArg List.length (hQ x hx)
  rw [List.length_map, levels_length] at this
  show x.2.2.2.length - 1 = longN P h x.1.2 (startP xs ys)
  omega
theorem used_of {P : Nat} {h ra rb : Int} {xs ys : List Int} (g k : Nat) (L : List LI) (w : World) (hV : VRow w g (L.flatMap liC) 70) (hT : L.map (fun x => x.1.2) = ordersP ra rb) {F : LI → Prop} (hQ : ∀ x ∈ L, x.2.2.2.map (fun y => y.2.2.map (·.2)) = levels P h x.1.2 (startP xs ys) ∧ F x) :
    Calls Tryz.prog 27 #[.slice (some ⟨g, 0, none⟩) L.length k] w fun e w' => e = .returned (.int .i64 ((usedP P h xs ys ra rb : Nat) : Int)) ∧ Below w.heap.size w w' := by
  have hu : usedL L = usedP P h xs ys ra rb := usedL_levels P h xs ys _ L hT (fun x hx => (hQ x hx).1)
  have hlen : ∀ x ∈ L, x.2.2.2.length = longN P h x.1.2 (startP xs ys) + 1 := fun x hx => by
    have := congrArg List.length (hQ x hx).1
    rwa [List.length_map, levels_length] at this
  have ho4 : ∀ x ∈ L, x.1.2.length ≤ 4 := fun x hx => by
    have hm : x.1.2 ∈ ordersP ra rb := by rw [← hT]; exact List.mem_map.2 ⟨x, hx, rfl⟩
    unfold ordersP at hm
    split at hm
    · simp at hm; rw [hm]; simp
    · simp at hm; rcases hm with h | h <;> rw [h] <;> simp
  have hL2 : L.length ≤ 2 := by
    have := congrArg List.length hT
    rw [List.length_map] at this
    rw [this]
    exact ordersP_length ra rb
  have hto : ∀ i, usedLTo L i = usedTo P h xs ys (ordersP ra rb) i := fun i => by
    unfold usedLTo usedTo
    refine usedL_levels P h xs ys _ _ ?_ (fun x hx => (hQ x (List.mem_of_mem_take hx)).1)
    rw [← hT, List.map_take]
  have hle := usedTo_le P h xs ys ra rb
  rw [← hu]
  refine usedAll_any g k L w hV (fun x hx => ?_) (by omega) ?_ (fun i => ?_)
  · have h1 := hlen x hx
    have h2 := longN_le P h x.1.2 (startP xs ys)
    have h3 := ho4 x hx
    omega
  · have := hle (ordersP ra rb).length
    rw [usedTo_all] at this
    omega
  · rw [hto]
    have := hle i
    omega
set_option maxRecDepth 8000 in
set_option maxHeartbeats 1000000 in
theorem implDiceUsed_any (ra rb : Int) (p c h s : Int) (a1 a2 : Option Addr) (n1 n2 c1 c2 : Nat) (xs ys : List Int) (w : World) (h1 : xs.length = n1) (h2 : ys.length = n2) (l1 : n1 ≤ 1048576) (l2 : n2 ≤ 1048576) (r1 : IRow w a1 xs) (r2 : IRow w a2 ys) :
    Calls Tryz.prog 9 #[.agg #[.int .i64 p, .int .i64 c, .int .i64 h, .int .i64 s], .agg #[.slice a1 n1 c1, .slice a2 n2 c2], .agg #[.int .i64 ra, .int .i64 rb]] w fun e w' => e = .returned (duV p c h s xs ys ra rb) ∧ Below w.heap.size w w' := by
  have hC := fun W (q1 : IRow W a1 xs) (q2 : IRow W a2 ys) => rollCode_any ra rb p c h s a1 a2 n1 n2 c1 c2 xs ys W h1 h2 l1 l2 q1 q2
  unfold codeB at hC
  unfold duV
  by_cases g : isB p c h s xs ys = true
  · rw [if_pos g]
    rw [if_pos g] at hC
    obtain ⟨p0, p1, k0, k1, k2, k3, N1, N2, hx, hy, s0, s1, s2, s3⟩ := isB_parts g
    clear hx hy
    obtain ⟨P, rfl⟩ := Int.eq_ofNat_of_zero_le (by omega : 0 ≤ p)
    rw [show ((P : Int)).toNat = P by simp]
    obtain ⟨BV, BB, BR, hb, hz⟩ := three_new w #[.int .i64 (P : Int), .int .i64 c, .int .i64 h, .int .i64 s] #[.slice a1 n1 c1, .slice a2 n2 c2] #[.int .i64 ra, .int .i64 rb] 25 28 30
    clear hz
    obtain ⟨x0, x1, x2, x3, xf, xl⟩ := BV.four
    obtain ⟨y0, y1, yf, yl⟩ := BB.two
    obtain ⟨z0, z1, zf, zl⟩ := BR.two
    by_cases e : rlB s ra rb = true
    · rw [if_pos e] at hC
      rw [if_pos e]
      obtain ⟨e1, e2⟩ := rlB_two e
      have hU := fun W (q1 : IRow W a1 xs) (q2 : IRow W a2 ys) => listingsOf_any P c h s ra rb a1 a2 n1 n2 c1 c2 xs ys W h1 h2 q1 q2 g e1 e2
      have HU := Lib.hid hU
      have HC := Lib.hid hC
      clear hU hC e e1 e2 g
      go_enter Tryz.func9, Tryz.ntmps9
      go_wp2_with (first | (go_at_call 22; refine (HC.out _ (r1.below hb) (r2.below hb)).mono ?_; clear HC; rintro e w1 ⟨rfl, hb1⟩; obtain ⟨x0, x1, x2, x3, xf, xl⟩ := (BV.below hb1).four; obtain ⟨y0, y1, yf, yl⟩ := (BB.below hb1).two; obtain ⟨z0, z1, zf, zl⟩ := (BR.below hb1).two) | (go_at_call 26; refine (HU.out _ (r1.below (chain hb hb1)) (r2.below (chain hb hb1))).mono ?_; rintro e w2 ⟨gL, kL, L, rfl, -, -, hV, -, hT, hQ, -, hb2⟩; have HT := Lib.hid hT; have HQ := Lib.hid hQ; clear hT hQ) | (go_at_call 27; refine (used_of gL kL L w2 hV HT.out HQ.out).mono ?_; rintro e w3 ⟨rfl, hb3⟩))
      go_ret2
      exact ⟨rfl, chain (chain (chain hb hb1) hb2) hb3⟩
    · rw [if_neg e] at hC
      rw [if_neg e]
      have HC := Lib.hid hC
      clear hC e g
      go_enter Tryz.func9, Tryz.ntmps9
      go_wp2_with (first | (go_at_call 22; refine (HC.out _ (r1.below hb) (r2.below hb)).mono ?_; clear HC; rintro e w1 ⟨rfl, hb1⟩; obtain ⟨x0, x1, x2, x3, xf, xl⟩ := (BV.below hb1).four; obtain ⟨y0, y1, yf, yl⟩ := (BB.below hb1).two; obtain ⟨z0, z1, zf, zl⟩ := (BR.below hb1).two))
      go_ret2
      exact ⟨rfl, chain hb hb1⟩
  · rw [if_neg g]
    rw [if_neg g] at hC
    have HC := Lib.hid hC
    clear hC g
    obtain ⟨BV, BB, BR, hb, hz⟩ := three_new w #[.int .i64 p, .int .i64 c, .int .i64 h, .int .i64 s] #[.slice a1 n1 c1, .slice a2 n2 c2] #[.int .i64 ra, .int .i64 rb] 25 28 30
    clear hz
    obtain ⟨x0, x1, x2, x3, xf, xl⟩ := BV.four
    obtain ⟨y0, y1, yf, yl⟩ := BB.two
    obtain ⟨z0, z1, zf, zl⟩ := BR.two
    go_enter Tryz.func9, Tryz.ntmps9
    go_wp2_with (first | (go_at_call 22; refine (HC.out _ (r1.below hb) (r2.below hb)).mono ?_; clear HC; rintro e w1 ⟨rfl, hb1⟩; obtain ⟨x0, x1, x2, x3, xf, xl⟩ := (BV.below hb1).four; obtain ⟨y0, y1, yf, yl⟩ := (BB.below hb1).two; obtain ⟨z0, z1, zf, zl⟩ := (BR.below hb1).two))
    go_ret2
    exact ⟨rfl, chain hb hb1⟩
def keepL (U : Nat) (L : List LI) : List LI := L.filter (fun x => x.2.2.2.length - 1 == U)
def legalL (L : List LI) : List LI := if usedL L = 1 then (keepL (usedL L) L).take 1 else keepL (usedL L) L
theorem keepL_succ (U : Nat) (L : List LI) (k : Nat) (x : LI) (hx : L[k]? = some x) : keepL U (L.take (k + 1)) = keepL U (L.take k) ++ (if x.2.2.2.length - 1 = U then [x] else []) := by
  unfold keepL
  rw [List.take_add_one, hx, List.filter_append]
  congr 1
  by_cases e : x.2.2.2.length - 1 = U
  · simp [e]
  · simp [e]
theorem max_in : ∀ (l : List Nat) (m : Nat), l.foldl max m = m ∨ l.foldl max m ∈ l
  | [], m => .inl rfl
  | a :: l, m => by
    rcases max_in l (max m a) with h | h
    · rw [List.foldl_cons, h]
      rcases Nat.le_total m a with e | e
      · rw [Nat.max_eq_right e]; exact .inr (by simp)
      · rw [Nat.max_eq_left e]; exact .inl rfl
    · rw [List.foldl_cons]
      exact .inr (List.mem_cons_of_mem _ h)
theorem keepL_ne (L : List LI) (h0 : 0 < L.length) : 0 < (keepL (usedL L) L).length := by
  have hm : usedL L = 0 ∨ usedL L ∈ L.map (fun x => x.2.2.2.length - 1) := max_in _ 0
  have hx : ∃ x ∈ L, x.2.2.2.length - 1 = usedL L := by
    rcases hm with h | h
    · obtain ⟨x, hx⟩ := List.exists_mem_of_length_pos h0
      refine ⟨x, hx, ?_⟩
      have hle : ∀ (l : List Nat) (m : Nat), m ≤ l.foldl max m ∧ ∀ y ∈ l, y ≤ l.foldl max m := by
        intro l
        induction l with
        | nil => intro m; simp
        | cons a l ih =>
          intro m
          obtain ⟨i1, i2⟩ := ih (max m a)
          rw [List.foldl_cons]
          refine ⟨by omega, fun y hy => ?_⟩
          rcases List.mem_cons.1 hy with rfl | hy
          · omega
          · exact i2 y hy
      have := (hle (L.map (fun x => x.2.2.2.length - 1)) 0).2 _ (List.mem_map.2 ⟨x, hx, rfl⟩)
      have h' : (L.map (fun x => x.2.2.2.length - 1)).foldl max 0 = 0 := h
      rw [h'] at this
      omega
    · obtain ⟨x, hx, e⟩ := List.mem_map.1 h
      exact ⟨x, hx, e⟩
  obtain ⟨x, hx, e⟩ := hx
  exact List.length_pos_of_mem (List.mem_filter.2 ⟨hx, by simp [e]⟩)
theorem keepL_mem {U : Nat} {L : List LI} {x : LI} (h : x ∈ keepL U L) : x ∈ L ∧ x.2.2.2.length - 1 = U := by
  obtain ⟨h1, h2⟩ := List.mem_filter.1 h
  exact ⟨h1, by simpa using h2⟩
theorem keepL_le (U : Nat) (L : List LI) : (keepL U L).length ≤ L.length := List.length_filter_le _ _
theorem legalL_mem {L : List LI} {x : LI} (h : x ∈ legalL L) : x ∈ L ∧ x.2.2.2.length - 1 = usedL L := by
  unfold legalL at h
  split at h
  · exact keepL_mem (List.mem_of_mem_take h)
  · exact keepL_mem h
theorem legalL_le (L : List LI) : (legalL L).length ≤ L.length := by
  unfold legalL
  have := keepL_le (usedL L) L
  split
  · rw [List.length_take]; omega
  · exact this
theorem VRow.pre {w : World} {g : Nat} {vs us : List Value} {t : TypeId} (h : VRow w g (vs ++ us) t) : VRow w g vs t := by
  obtain ⟨cur, hB, h1, h2⟩ := h
  rw [List.length_append] at h1 h2
  refine ⟨cur, hB, by omega, ?_⟩
  have := congrArg (List.take vs.length) h2
  rw [List.take_take, Nat.min_eq_left (by omega), List.take_left'] at this
  · exact this
  · rfl
theorem VRow.take1 {w : World} {g : Nat} {F : List LI} {t : TypeId} (h : VRow w g (F.flatMap liC) t) : VRow w g ((F.take 1).flatMap liC) t := by
  have e : F.flatMap liC = (F.take 1).flatMap liC ++ (F.drop 1).flatMap liC := by rw [← List.flatMap_append, List.take_append_drop]
  rw [e] at h
  exact h.pre
theorem OwnE.room {α : Type} {enc : α → List Value} {T : TypeId} {sz : Nat} {w : World} {base : Nat} {g n k : Nat} {l : List α} (h : OwnE enc T sz w base (.slice (some ⟨g, 0, none⟩) n k) l) : l.length ≤ k := by
  obtain ⟨hl, ⟨h1, h2⟩ | ⟨g', cap, cur, hv, hb, hh, hc, hm, hs, ht⟩⟩ := h
  · simp at h1
  · simp at hv
    omega
def LegGot (L : List LI) (w : World) (e : Ending) (w' : World) : Prop :=
  ∃ g k, e = .returned (.slice (some ⟨g, 0, none⟩) (legalL L).length k) ∧ w.heap.size ≤ g ∧ VRow w' g ((legalL L).flatMap liC) 70 ∧ Below w.heap.size w w'
set_option maxRecDepth 100000 in
set_option maxHeartbeats 4000000 in
theorem legal_any (g k : Nat) (L : List LI) (w : World) (hV : VRow w g (L.flatMap liC) 70) (h0 : ∀ x ∈ L, 0 < x.2.2.2.length ∧ x.2.2.2.length ≤ 1000) (hL : L.length ≤ 1000) (hU : usedL L ≤ 1000) (hle : ∀ i, usedLTo L i ≤ 1000) (hL0 : 0 < L.length) :
    Calls Tryz.prog 28 #[.slice (some ⟨g, 0, none⟩) L.length k] w (LegGot L w) := by
  have hua := usedAll_any g k L w hV h0 hL hU hle
  have hne := keepL_ne L hL0
  have hleg : legalL L = if usedL L = 1 then (keepL (usedL L) L).take 1 else keepL (usedL L) L := rfl
  obtain ⟨R, hR⟩ : ∃ z, legalL L = z := ⟨_, rfl⟩
  unfold LegGot
  rw [hR] at hleg ⊢
  obtain ⟨U, hUU⟩ : ∃ z, usedL L = z := ⟨_, rfl⟩
  rw [hUU] at hua hne hleg hU
  have HUA := Lib.hid hua
  have HNE := Lib.hid hne
  have HLEG := Lib.hid hleg
  have H0 := Lib.hid h0
  have HKS := Lib.hid (fun k x (hx : L[k]? = some x) => keepL_succ U L k x hx)
  have HKL := Lib.hid (keepL_le U)
  clear hua hne hleg h0 hR hUU hle
  go_enter Tryz.func28, Tryz.ntmps28
  go_wp2_with fail
  refine (HUA.out).mono ?_
  rintro e w1 ⟨rfl, hb1⟩
  clear HUA
  have hV1 := hV.below hb1
  clear hV
  go_wp2_with fail
  go_loopg [4, 6, 11] L.length (fun m q4 q6 q11 wr => ∃ (i : Nat) (F : List LI), i ≤ L.length ∧ m = L.length - i ∧ q11 = .int .i64 i ∧ F = keepL U (L.take i) ∧ OwnI wr w1.heap.size q4 F ∧ Below w1.heap.size w1 wr)
  case atStart => exact ⟨0, [], by omega, by omega, rfl, by simp [keepL], OwnE.nil _ _, Below.refl _ _⟩
  case round =>
    obtain ⟨i, F, hi, hm, rfl, hF, hO, hbq⟩ := hrel
    have hFl : F.length ≤ 1000 := by rw [hF]; have := HKL.out (L.take i); rw [List.length_take] at this; omega
    by_cases hlt : i < L.length
    · have hlt' : (i : Int) < (L.length : Int) := by omega
      have hi0 : (0 : Int) ≤ (i : Int) := by omega
      obtain ⟨x, hx⟩ : ∃ x, L[i]? = some x := ⟨_, List.getElem?_eq_getElem hlt⟩
      obtain ⟨k0, k1⟩ := H0.out x (List.mem_of_getElem? hx)
      have hks := HKS.out i x hx
      rw [← hF] at hks
      obtain ⟨c0, c1⟩ := liRow (hV1.below hbq) i x hx
      have hu1 := fun W => used1_any x W k0 k1
      obtain ⟨NN, hNN⟩ : ∃ z, x.2.2.2.length - 1 = z := ⟨_, rfl⟩
      rw [hNN] at hu1 hks
      have HU1 := Lib.hid hu1
      have HKS2 := Lib.hid hks
      clear hu1 hks hNN hx k0 k1 hF
      by_cases eN : NN = U
      · have f0 : ((NN : Int) == (U : Int)) = true := by rw [beq_iff_eq]; omega
        have BX := Blk.new wr #[.slice (some ⟨x.1.1, 0, none⟩) x.1.2.length x.1.2.length, .slice (some ⟨x.2.1, 0, none⟩) x.2.2.2.length x.2.2.1] 70
        have hbx : Below wr.heap.size wr (wr.alloc (.cells #[.slice (some ⟨x.1.1, 0, none⟩) x.1.2.length x.1.2.length, .slice (some ⟨x.2.1, 0, none⟩) x.2.2.2.length x.2.2.1] 70)) := (Below.refl _ _).alloc (Nat.le_refl _) _
        obtain ⟨y0, y1, yf, yl⟩ := BX.two
        go_wp2_with fail
        clear y0 y1 yf yl c0 c1
        refine (HU1.out _).mono ?_
        rintro e wA ⟨rfl, hbA⟩
        replace BX := BX.below hbA
        replace hbA := chain hbx hbA
        clear hbx HU1
        obtain ⟨y0, y1, yf, yl⟩ := BX.two
        replace hO := hO.below hbA
        have hsA := hbA.size
        have hsv := (chain hbq hbA).size
        go_wp2_with (at_builtin; go_loud (refine wp_pushLi rfl (.tmp 19) (.tmp 21) rfl w1.heap.size _ F rfl hO x rfl rfl (by omega) hsv ?_; intro v9 wC hO2 hbC hfr))
        go_roundg (L.length - (i + 1))
        case measure => omega
        case rel => exact ⟨i + 1, F ++ [x], by omega, rfl, by go_num, by rw [HKS2.out, if_pos eN], hO2, (chain hbq hbA).trans hbC⟩
      · have f0 : ((NN : Int) == (U : Int)) = false := by rw [beq_eq_false_iff_ne]; omega
        have BX := Blk.new wr #[.slice (some ⟨x.1.1, 0, none⟩) x.1.2.length x.1.2.length, .slice (some ⟨x.2.1, 0, none⟩) x.2.2.2.length x.2.2.1] 70
        have hbx : Below wr.heap.size wr (wr.alloc (.cells #[.slice (some ⟨x.1.1, 0, none⟩) x.1.2.length x.1.2.length, .slice (some ⟨x.2.1, 0, none⟩) x.2.2.2.length x.2.2.1] 70)) := (Below.refl _ _).alloc (Nat.le_refl _) _
        obtain ⟨y0, y1, yf, yl⟩ := BX.two
        go_wp2_with fail
        clear y0 y1 yf yl c0 c1
        refine (HU1.out _).mono ?_
        rintro e wA ⟨rfl, hbA⟩
        replace BX := BX.below hbA
        replace hbA := chain hbx hbA
        clear hbx HU1
        obtain ⟨y0, y1, yf, yl⟩ := BX.two
        replace hO := hO.below hbA
        have hsA := hbA.size
        have hsv := (chain hbq hbA).size
        go_wp2
        go_roundg (L.length - (i + 1))
        case measure => omega
        case rel => exact ⟨i + 1, F, by omega, rfl, by go_num, by rw [HKS2.out, if_neg eN, List.append_nil], hO, chain hbq hbA⟩
    · obtain rfl : i = L.length := by omega
      rw [List.take_length] at hF
      have hF0 : 0 < F.length := by rw [hF]; exact HNE.out
      have hleg := HLEG.out
      rw [← hF] at hleg
      clear hF
      obtain ⟨gF, kF, rfl, hgF, hVF⟩ := hO.at hF0
      have hcap : F.length ≤ kF := OwnE.room hO
      clear hO
      by_cases e1 : U = 1
      · have f1 : ((U : Int) == 1) = true := by rw [beq_iff_eq]; omega
        rw [if_pos e1] at hleg
        have hR1 : R.length = 1 := by rw [hleg, List.length_take]; omega
        have HR1 := Lib.hid hR1
        have HLG := Lib.hid hleg
        have hk1 : (1 : Int) ≤ (kF : Int) := by omega
        have hk2 : 1 ≤ kF := by omega
        clear hleg hR1
        go_wp2
        go_ret
        exact ⟨gF, kF, by rw [HR1.out]; rfl, Nat.le_trans hb1.size hgF, by rw [HLG.out]; exact hVF.take1, hb1.trans (hbq.mono hb1.size)⟩
      · have f1 : ((U : Int) == 1) = false := by rw [beq_eq_false_iff_ne]; omega
        rw [if_neg e1] at hleg
        have HLG := Lib.hid hleg
        clear hleg
        go_wp2
        go_ret
        exact ⟨gF, kF, by rw [HLG.out]; rfl, Nat.le_trans hb1.size hgF, by rw [HLG.out]; exact hVF, hb1.trans (hbq.mono hb1.size)⟩
end Go.Proofs.YtciljbnailobgaaGreat
namespace Go.Proofs.YtciljbnailobgaaGreat
open Go.ChangeShapes Go.WideShapes Go.ChangeAt Go.RowKit
attribute [local go_sem] Oper.semAt_some
set_option linter.unusedVariables false
set_option linter.unusedSimpArgs false
set_option maxRecDepth 4000
theorem values_any (la : Option Addr) (ln lc : Nat) (w : World) :
    Calls Tryz.prog 84 #[.slice la ln lc] w fun e w' => e = .returned (.func (.func 103) #[] #[.pointer (some ⟨w.heap.size, 0, none⟩)]) ∧ Blk w' w.heap.size #[.slice la ln lc] 33 ∧ Below w.heap.size w w' ∧ w'.heap.size = w.heap.size + 1 := by
  have B1 := Blk.new w #[.slice la ln lc] 33
  have hb : Below w.heap.size w (w.alloc (.cells #[.slice la ln lc] 33)) := (Below.refl _ _).alloc (Nat.le_refl _) _
  have hz : (w.alloc (.cells #[.slice la ln lc] 33)).heap.size = w.heap.size + 1 := by simp
  go_enter Tryz.func84, Tryz.ntmps84
  go_wp2
  go_ret
  exact ⟨rfl, B1, hb, hz⟩
theorem values1_enter (args : Array Value) (w : World) : (callFunc 103 args).run Tryz.prog w = .ok (.enter 103 args) w := by
  obtain ⟨fn, hf, hn, cc, hc⟩ : ∃ fn, Tryz.prog.funcs[(103 : FuncId)]? = some fn ∧ (fn.name == "runtime.NumGoroutine") = false ∧ ∃ cc, fn.body = some cc := ⟨_, Tryz.func103, by kernel_rfl, _, rfl⟩
  have h1 : ¬ fn.name = "runtime.NumGoroutine" := by simpa using hn
  simp [callFunc, hf, h1, hc]
set_option maxRecDepth 100000 in
set_option maxHeartbeats 4000000 in
theorem values1_good (P : Nat) (c h s : Int) (Bl : Nat) (la : Option Addr) (lc lo hi K : Nat) (l : List PP) (w : World) (hBl : Blk w Bl #[.slice la l.length lc] 33) (hO : OPl lo hi w la l) (hA : PAll lo hi w l) (hhi : hi ≤ w.heap.size)
    (hF : Fine (P : Int) c h s (l.map (·.2))) (hK : ∀ x ∈ l, x.2.1.length ≤ K) (hl : l.length ≤ 1000000) (hD : l.Pairwise Dis) :
    SeqGood 103 #[.pointer (some ⟨Bl, 0, none⟩)] (fun x : PP => #[plV x]) (GoodP (P : Int) c h s lo K) Dis w.heap.size (fun xs => xs = l) l.length w := by
  intro n yl foot J W hW hJ hf hJf hY h0
  refine callsIn_of_wp Tryz.func103 rfl trivial ?_ rfl
  simp only [Tryz.ntmps103, List.size_toArray, List.length_cons, List.length_nil, Nat.reduceAdd, Nat.reduceSub, Array.replicate_succ, Array.replicate_zero, List.push_toArray, List.append_toArray, List.nil_append, List.cons_append]
  have BL := hBl.below hW
  have l0 := BL.one.1
  gi_wp2
  gi_loopw [4, 7] (fun q4 i wr => ∃ k : Nat, k ≤ l.length ∧ i = .int .i64 k ∧ J (l.take k) wr ∧ Below w.heap.size w wr ∧ W.heap.size ≤ wr.heap.size) (fun _ i _ => l.length - (intOf i).toNat)
  case atStart => exact ⟨0, Nat.zero_le _, rfl, by simpa using h0, hW, Nat.le_refl _⟩
  case round =>
    clear BL l0 h0
    obtain ⟨k, hk, rfl, hJs, hb, hWs⟩ := hrel
    by_cases hlt : k < l.length
    · obtain ⟨x, hx⟩ : ∃ x, l[k]? = some x := ⟨_, List.getElem?_eq_getElem hlt⟩
      have hxm : x ∈ l := List.mem_of_getElem? hx
      obtain ⟨gl, rfl, hrow⟩ := hO.row hlt
      have hrow2 := hrow.below hb
      obtain ⟨c0, c1, c2⟩ := PRow.three hrow2 k x hx
      have hat := (hA x hxm).below hb
      have gx := hF x.2 (List.mem_map.2 ⟨x, hxm, rfl⟩)
      have hlx := hK x hxm
      have hlt' : (k : Int) < (l.length : Int) := by omega
      have hk0 : (0 : Int) ≤ (k : Int) := by omega
      have hal : Below wr.heap.size wr (wr.alloc (.cells #[pl0 x, pl1 x, pl2 x] 44)) := (Below.refl _ _).alloc (Nat.le_refl _) _
      have B6 := Blk.new wr #[pl0 x, pl1 x, pl2 x] 44
      obtain ⟨b0, b1, b2, bf, bl⟩ := B6.tri
      have hsA := hal.size
      have hJ2 := hJ _ _ _ hJs hal
      have hbW := chain hb hal
      have hgood : GoodP (P : Int) c h s lo K x (wr.alloc (.cells #[pl0 x, pl1 x, pl2 x] 44)) := ⟨(hat.below hal).mono (Nat.le_refl _) (by have := hbW.size; omega), gx, hlx⟩
      have hdis : ∀ z ∈ l.take k, Dis z x := fun z hz => by
        have h1 : (l.take (k + 1)).Pairwise Dis := hD.sublist (List.take_sublist _ _)
        rw [List.take_add_one, hx] at h1
        exact (List.pairwise_append.1 h1).2.2 z hz x (by simp)
      obtain ⟨fn, tmps, assign, body, hyy, hR⟩ := hY (l.take k) x _ hJ2 hgood hdis (by rw [List.length_take]; omega) (by omega)
      have htk : l.take k ++ [x] = l.take (k + 1) := by rw [List.take_add_one, hx]; rfl
      rw [htk] at hR
      clear hdis hat gx hrow hrow2 hgood htk hJ2 hJs
      gi_wp2
      refine hR.mono ?_
      rintro e Y ⟨rfl, hJY, hbY, hKp⟩
      have hsY := hKp.size
      gi_wp2
      go_roundw
      case rel => exact ⟨k + 1, by omega, by simp, hJY, hbW.trans hbY, by omega⟩
      case measure => simp [intOf]; omega
    · obtain rfl : k = l.length := by omega
      have hlt' : ¬ (l.length : Int) < (l.length : Int) := by omega
      rw [List.take_length] at hJs
      gi_wp2
      go_end0
      exact ⟨⟨_, rfl⟩, hJs⟩
end Go.Proofs.YtciljbnailobgaaGreat
namespace Go.Proofs.YtciljbnailobgaaGreat
open Go.ChangeShapes Go.WideShapes Go.ChangeAt Go.RowKit
set_option linter.unusedVariables false
set_option linter.unusedSimpArgs false
set_option maxRecDepth 4000
def firstE {α : Type} (pr : α → Bool) : List α → Int
  | [] => -1
  | s :: l => if pr s = true then 0 else if firstE pr l < 0 then -1 else firstE pr l + 1
theorem firstE_low {α : Type} (pr : α → Bool) : ∀ l, -1 ≤ firstE pr l ∧ firstE pr l < l.length
  | [] => by simp [firstE]
  | s :: l => by
    have := firstE_low pr l
    rw [firstE, List.length_cons]
    split
    · omega
    · split <;> omega
theorem firstE_at {α : Type} (pr : α → Bool) : ∀ (l : List α) (k : Nat) (t : α), (∀ j s, j < k → l[j]? = some s → pr s = false) → l[k]? = some t → pr t = true → firstE pr l = (k : Int)
  | [], k, t, _, h, _ => by simp at h
  | s :: l, 0, t, _, h, hp => by
    simp at h
    subst h
    rw [firstE, if_pos hp]
    rfl
  | s :: l, k + 1, t, ha, h, hp => by
    have h0 := ha 0 s (by omega) (by simp)
    have ih := firstE_at pr l k t (fun j x hj hx => ha (j + 1) x (by omega) (by simpa using hx)) (by simpa using h) hp
    rw [firstE, if_neg (by simp [h0]), ih, if_neg (by omega)]
    omega
theorem firstE_none {α : Type} (pr : α → Bool) : ∀ (l : List α), (∀ j s, j < l.length → l[j]? = some s → pr s = false) → firstE pr l = -1
  | [], _ => rfl
  | s :: l, ha => by
    have h0 := ha 0 s (by simp) (by simp)
    have ih := firstE_none pr l (fun j x hj hx => ha (j + 1) x (by simpa using hj) (by simpa using hx))
    rw [firstE, if_neg (by simp [h0]), ih]
    rfl
theorem firstE_any {α : Type} (pr : α → Bool) : ∀ l, decide (0 ≤ firstE pr l) = l.any pr
  | [] => rfl
  | s :: l => by
    have ih := firstE_any pr l
    have hl := (firstE_low pr l).1
    rw [firstE, List.any_cons]
    by_cases h : pr s = true
    · rw [if_pos h, h]
      rfl
    · rw [if_neg h, ← ih, show pr s = false by simpa using h, Bool.false_or]
      by_cases h2 : firstE pr l < 0
      · rw [if_pos h2, decide_eq_false (by omega), decide_eq_false (by omega)]
      · rw [if_neg h2, decide_eq_true (by omega), decide_eq_true (by omega)]
theorem lvC_at : ∀ (l : List LV) (k : Nat) (s : LV), l[k]? = some s → (l.flatMap lvC)[k]? = some (lvV s)
  | [], k, s, h => by simp at h
  | x :: l, 0, s, h => by
    simp at h
    subst h
    rfl
  | x :: l, k + 1, s, h => by
    rw [List.flatMap_cons]
    show ((lvV x) :: l.flatMap lvC)[k + 1]? = _
    rw [List.getElem?_cons_succ]
    exact lvC_at l k s (by simpa using h)
theorem lvRow {w : World} {g : Nat} {l : List LV} (h : VRow w g (l.flatMap lvC) 33) (k : Nat) (s : LV) (hk : l[k]? = some s) : w.cell? ⟨g, k, none⟩ = some (lvV s) := h.cell _ _ (lvC_at l k s hk)
set_option maxRecDepth 8000 in
set_option maxHeartbeats 2000000 in
theorem indexL_any (g : Nat) (cap : Nat) (l : List LV) (pf : Nat) (lb : Array Value) (pr : LV → Bool) (w : World) (hle : l.length ≤ 1000) (h1 : VRow w g (l.flatMap lvC) 33) (he : ∀ (args : Array Value) (w2 : World), (callFunc pf args).run Tryz.prog w2 = .ok (.enter pf args) w2) (hp : ∀ W, Below w.heap.size w W → ∀ s ∈ l, Calls Tryz.prog pf (#[lvV s] ++ lb) W fun e w2 => e = .returned (.bool (pr s)) ∧ Below W.heap.size W w2) :
    Calls Tryz.prog 101 #[.slice (some ⟨g, 0, none⟩) l.length cap, .func (.func pf) #[] lb] w fun e w' => e = .returned (.int .i64 (firstE pr l)) ∧ Below w.heap.size w w' := by
  have HP := Lib.hid hp
  have h2 := firstE_at pr l
  have h3 := firstE_none pr l
  obtain ⟨R, hR⟩ : ∃ R, firstE pr l = R := ⟨_, rfl⟩
  rw [hR] at h2 h3 ⊢
  have H2 := Lib.hid h2
  have H3 := Lib.hid h3
  clear hR h2 h3 hp
  go_enter Tryz.func101, Tryz.ntmps101
  go_wp2
  go_loopg [8] l.length (fun m i wr => ∃ k : Nat, k ≤ l.length ∧ m = l.length - k ∧ i = .int .i64 k ∧ (∀ j s, j < k → l[j]? = some s → pr s = false) ∧ Below w.heap.size w wr)
  case atStart => exact ⟨0, by omega, by omega, rfl, fun j s hj => by omega, Below.refl _ _⟩
  case round =>
    obtain ⟨k, hk, hm, rfl, hall, hbel⟩ := hrel
    have HA := Lib.hid hall
    clear hall
    by_cases hlt : k < l.length
    · have hlt' : (k : Int) < (l.length : Int) := by omega
      have hk0 : (0 : Int) ≤ (k : Int) := by omega
      obtain ⟨t, ht⟩ : ∃ t, l[k]? = some t := ⟨_, List.getElem?_eq_getElem hlt⟩
      have u0 := lvRow (h1.below hbel) k t ht
      have hpt := HP.out wr hbel t (List.mem_of_getElem? ht)
      have HT := Lib.hid ht
      clear h1 ht
      cases hpr : pr t with
      | true =>
        rw [hpr] at hpt
        have hRk : R = (k : Int) := H2.out k _ HA.out HT.out hpr
        subst hRk
        have HC := Lib.hid hpt
        clear hpt hpr
        go_wp2_with (go_at_fn pf; refine HC.out.mono ?_; rintro e w5 ⟨rfl, hb5⟩)
        go_ret
        exact ⟨rfl, chain hbel hb5⟩
      | false =>
        rw [hpr] at hpt
        have HC := Lib.hid hpt
        have HPR := Lib.hid hpr
        clear hpt hpr
        go_wp2_with (go_at_fn pf; refine HC.out.mono ?_; rintro e w5 ⟨rfl, hb5⟩)
        go_roundg (l.length - (k + 1))
        case measure => omega
        case rel =>
          refine ⟨k + 1, by omega, rfl, by go_num, fun j s hj hs => ?_, chain hbel hb5⟩
          by_cases hjk : j = k
          · subst hjk
            rw [HT.out] at hs
            simp only [Option.some.injEq] at hs
            rw [← hs]
            exact HPR.out
          · exact HA.out j s (by omega) hs
    · obtain rfl : k = l.length := by omega
      have hRk : R = -1 := H3.out HA.out
      subst hRk
      go_wp2
      go_ret
      exact ⟨rfl, hbel⟩
set_option maxHeartbeats 1000000 in
theorem containsL_any (g : Nat) (cap : Nat) (l : List LV) (pf : Nat) (lb : Array Value) (pr : LV → Bool) (w : World) (hle : l.length ≤ 1000) (h1 : VRow w g (l.flatMap lvC) 33) (he : ∀ (args : Array Value) (w2 : World), (callFunc pf args).run Tryz.prog w2 = .ok (.enter pf args) w2) (hp : ∀ W, Below w.heap.size w W → ∀ s ∈ l, Calls Tryz.prog pf (#[lvV s] ++ lb) W fun e w2 => e = .returned (.bool (pr s)) ∧ Below W.heap.size W w2) :
    Calls Tryz.prog 81 #[.slice (some ⟨g, 0, none⟩) l.length cap, .func (.func pf) #[] lb] w fun e w' => e = .returned (.bool (l.any pr)) ∧ Below w.heap.size w w' := by
  have hi0 := indexL_any g cap l pf lb pr w hle h1 he hp
  have hq := firstE_any pr l
  obtain ⟨R, hR⟩ : ∃ R, firstE pr l = R := ⟨_, rfl⟩
  rw [hR] at hi0 hq
  rw [← hq]
  have HI := Lib.hid hi0
  clear hi0 hR hq he hp h1
  go_enter Tryz.func81, Tryz.ntmps81
  go_wp2_with (go_at_call 101; refine HI.out.mono ?_; rintro e w5 ⟨rfl, hb5⟩)
  go_ret
  exact ⟨rfl, hb5⟩
set_option maxRecDepth 8000 in
set_option maxHeartbeats 2000000 in
theorem indexI_any (g : Nat) (cap : Nat) (l : List LI) (pf : Nat) (lb : Array Value) (pr : LI → Bool) (w : World) (hle : l.length ≤ 1000) (h1 : VRow w g (l.flatMap liC) 70) (he : ∀ (args : Array Value) (w2 : World), (callFunc pf args).run Tryz.prog w2 = .ok (.enter pf args) w2) (hp : ∀ W, Below w.heap.size w W → ∀ s ∈ l, Calls Tryz.prog pf (#[liV s] ++ lb) W fun e w2 => e = .returned (.bool (pr s)) ∧ Below W.heap.size W w2) :
    Calls Tryz.prog 80 #[.slice (some ⟨g, 0, none⟩) l.length cap, .func (.func pf) #[] lb] w fun e w' => e = .returned (.int .i64 (firstE pr l)) ∧ Below w.heap.size w w' := by
  have HP := Lib.hid hp
  have h2 := firstE_at pr l
  have h3 := firstE_none pr l
  obtain ⟨R, hR⟩ : ∃ R, firstE pr l = R := ⟨_, rfl⟩
  rw [hR] at h2 h3 ⊢
  have H2 := Lib.hid h2
  have H3 := Lib.hid h3
  clear hR h2 h3 hp
  go_enter Tryz.func80, Tryz.ntmps80
  go_wp2
  go_loopg [8] l.length (fun m i wr => ∃ k : Nat, k ≤ l.length ∧ m = l.length - k ∧ i = .int .i64 k ∧ (∀ j s, j < k → l[j]? = some s → pr s = false) ∧ Below w.heap.size w wr)
  case atStart => exact ⟨0, by omega, by omega, rfl, fun j s hj => by omega, Below.refl _ _⟩
  case round =>
    obtain ⟨k, hk, hm, rfl, hall, hbel⟩ := hrel
    have HA := Lib.hid hall
    clear hall
    by_cases hlt : k < l.length
    · have hlt' : (k : Int) < (l.length : Int) := by omega
      have hk0 : (0 : Int) ≤ (k : Int) := by omega
      obtain ⟨t, ht⟩ : ∃ t, l[k]? = some t := ⟨_, List.getElem?_eq_getElem hlt⟩
      obtain ⟨u0, u1⟩ := liRow (h1.below hbel) k t ht
      have hpt := HP.out wr hbel t (List.mem_of_getElem? ht)
      have HT := Lib.hid ht
      clear h1 ht
      cases hpr : pr t with
      | true =>
        rw [hpr] at hpt
        have hRk : R = (k : Int) := H2.out k _ HA.out HT.out hpr
        subst hRk
        have HC := Lib.hid hpt
        clear hpt hpr
        go_wp2_with (go_at_fn pf; refine HC.out.mono ?_; rintro e w5 ⟨rfl, hb5⟩)
        go_ret
        exact ⟨rfl, chain hbel hb5⟩
      | false =>
        rw [hpr] at hpt
        have HC := Lib.hid hpt
        have HPR := Lib.hid hpr
        clear hpt hpr
        go_wp2_with (go_at_fn pf; refine HC.out.mono ?_; rintro e w5 ⟨rfl, hb5⟩)
        go_roundg (l.length - (k + 1))
        case measure => omega
        case rel =>
          refine ⟨k + 1, by omega, rfl, by go_num, fun j s hj hs => ?_, chain hbel hb5⟩
          by_cases hjk : j = k
          · subst hjk
            rw [HT.out] at hs
            simp only [Option.some.injEq] at hs
            rw [← hs]
            exact HPR.out
          · exact HA.out j s (by omega) hs
    · obtain rfl : k = l.length := by omega
      have hRk : R = -1 := H3.out HA.out
      subst hRk
      go_wp2
      go_ret
      exact ⟨rfl, hbel⟩
set_option maxHeartbeats 1000000 in
theorem containsI_any (g : Nat) (cap : Nat) (l : List LI) (pf : Nat) (lb : Array Value) (pr : LI → Bool) (w : World) (hle : l.length ≤ 1000) (h1 : VRow w g (l.flatMap liC) 70) (he : ∀ (args : Array Value) (w2 : World), (callFunc pf args).run Tryz.prog w2 = .ok (.enter pf args) w2) (hp : ∀ W, Below w.heap.size w W → ∀ s ∈ l, Calls Tryz.prog pf (#[liV s] ++ lb) W fun e w2 => e = .returned (.bool (pr s)) ∧ Below W.heap.size W w2) :
    Calls Tryz.prog 49 #[.slice (some ⟨g, 0, none⟩) l.length cap, .func (.func pf) #[] lb] w fun e w' => e = .returned (.bool (l.any pr)) ∧ Below w.heap.size w w' := by
  have hi0 := indexI_any g cap l pf lb pr w hle h1 he hp
  have hq := firstE_any pr l
  obtain ⟨R, hR⟩ : ∃ R, firstE pr l = R := ⟨_, rfl⟩
  rw [hR] at hi0 hq
  rw [← hq]
  have HI := Lib.hid hi0
  clear hi0 hR hq he hp h1
  go_enter Tryz.func49, Tryz.ntmps49
  go_wp2_with (go_at_call 80; refine HI.out.mono ?_; rintro e w5 ⟨rfl, hb5⟩)
  go_ret
  exact ⟨rfl, hb5⟩
set_option maxRecDepth 8000 in
set_option maxHeartbeats 2000000 in
theorem indexP_any (lo hi : Nat) (a : Option Addr) (cap : Nat) (l : List PP) (pf : Nat) (lb : Array Value) (pr : PP → Bool) (w : World) (hle : l.length ≤ 1000000) (h1 : OPl lo hi w a l) (he : ∀ (args : Array Value) (w2 : World), (callFunc pf args).run Tryz.prog w2 = .ok (.enter pf args) w2) (hp : ∀ W, Below w.heap.size w W → ∀ s ∈ l, Calls Tryz.prog pf (#[plV s] ++ lb) W fun e w2 => e = .returned (.bool (pr s)) ∧ Below W.heap.size W w2) :
    Calls Tryz.prog 32 #[.slice a l.length cap, .func (.func pf) #[] lb] w fun e w' => e = .returned (.int .i64 (firstE pr l)) ∧ Below w.heap.size w w' := by
  have HP := Lib.hid hp
  have h2 := firstE_at pr l
  have h3 := firstE_none pr l
  obtain ⟨R, hR⟩ : ∃ R, firstE pr l = R := ⟨_, rfl⟩
  rw [hR] at h2 h3 ⊢
  have H2 := Lib.hid h2
  have H3 := Lib.hid h3
  clear hR h2 h3 hp
  go_enter Tryz.func32, Tryz.ntmps32
  go_wp2
  go_loopg [8] l.length (fun m i wr => ∃ k : Nat, k ≤ l.length ∧ m = l.length - k ∧ i = .int .i64 k ∧ (∀ j s, j < k → l[j]? = some s → pr s = false) ∧ Below w.heap.size w wr)
  case atStart => exact ⟨0, by omega, by omega, rfl, fun j s hj => by omega, Below.refl _ _⟩
  case round =>
    obtain ⟨k, hk, hm, rfl, hall, hbel⟩ := hrel
    have HA := Lib.hid hall
    clear hall
    by_cases hlt : k < l.length
    · have hlt' : (k : Int) < (l.length : Int) := by omega
      have hk0 : (0 : Int) ≤ (k : Int) := by omega
      obtain ⟨t, ht⟩ : ∃ t, l[k]? = some t := ⟨_, List.getElem?_eq_getElem hlt⟩
      obtain ⟨g1, rfl, R1⟩ := (h1.below hbel).row hlt
      obtain ⟨u0, u1, u2⟩ := R1.three k t ht
      have hpt := HP.out wr hbel t (List.mem_of_getElem? ht)
      have HT := Lib.hid ht
      clear h1 ht
      cases hpr : pr t with
      | true =>
        rw [hpr] at hpt
        have hRk : R = (k : Int) := H2.out k _ HA.out HT.out hpr
        subst hRk
        have HC := Lib.hid hpt
        clear hpt hpr
        go_wp2_with (go_at_fn pf; refine HC.out.mono ?_; rintro e w5 ⟨rfl, hb5⟩)
        go_ret
        exact ⟨rfl, chain hbel hb5⟩
      | false =>
        rw [hpr] at hpt
        have HC := Lib.hid hpt
        have HPR := Lib.hid hpr
        clear hpt hpr
        go_wp2_with (go_at_fn pf; refine HC.out.mono ?_; rintro e w5 ⟨rfl, hb5⟩)
        go_roundg (l.length - (k + 1))
        case measure => omega
        case rel =>
          refine ⟨k + 1, by omega, rfl, by go_num, fun j s hj hs => ?_, chain hbel hb5⟩
          by_cases hjk : j = k
          · subst hjk
            rw [HT.out] at hs
            simp only [Option.some.injEq] at hs
            rw [← hs]
            exact HPR.out
          · exact HA.out j s (by omega) hs
    · obtain rfl : k = l.length := by omega
      have hRk : R = -1 := H3.out HA.out
      subst hRk
      go_wp2
      go_ret
      exact ⟨rfl, hbel⟩
def crowdB (x : LI) : Bool := x.2.2.2.any (fun y => decide (3000 < y.2.2.length))
theorem crowded1_any (a : Option Addr) (n k : Nat) (w : World) (hn : n ≤ 1000000) :
    Calls Tryz.prog 82 #[.slice a n k] w fun e w' => e = .returned (.bool (decide (3000 < n))) ∧ Below w.heap.size w w' := by
  have e1 : decide (3000 < n) = decide ((3000 : Int) < (n : Int)) := by rw [Bool.eq_iff_iff, decide_eq_true_eq, decide_eq_true_eq]; omega
  rw [e1]
  clear e1
  go_enter Tryz.func82, Tryz.ntmps82
  go_wp2
  go_ret
  exact ⟨rfl, Below.refl _ _⟩
theorem crowded1_enter (args : Array Value) (w : World) : (callFunc 82 args).run Tryz.prog w = .ok (.enter 82 args) w := by
  obtain ⟨fn, hf, hn, cc, hc⟩ : ∃ fn, Tryz.prog.funcs[(82 : FuncId)]? = some fn ∧ (fn.name == "runtime.NumGoroutine") = false ∧ ∃ cc, fn.body = some cc := ⟨_, Tryz.func82, by kernel_rfl, _, rfl⟩
  have h1 : ¬ fn.name = "runtime.NumGoroutine" := by simpa using hn
  simp [callFunc, hf, h1, hc]
set_option maxRecDepth 8000 in
theorem isCrowded_any (x : LI) (w : World) (hV : VRow w x.2.1 (x.2.2.2.flatMap lvC) 33) (hl : x.2.2.2.length ≤ 1000) (hm : ∀ y ∈ x.2.2.2, y.2.2.length ≤ 1000000) :
    Calls Tryz.prog 50 #[liV x] w fun e w' => e = .returned (.bool (crowdB x)) ∧ Below w.heap.size w w' := by
  obtain ⟨⟨go, o⟩, gL, k, ls⟩ := x
  dsimp only at hV hl hm ⊢
  have BX := Blk.new w #[.slice (some ⟨go, 0, none⟩) o.length o.length, .slice (some ⟨gL, 0, none⟩) ls.length k] 70
  have hb : Below w.heap.size w (w.alloc (.cells #[.slice (some ⟨go, 0, none⟩) o.length o.length, .slice (some ⟨gL, 0, none⟩) ls.length k] 70)) := (Below.refl _ _).alloc (Nat.le_refl _) _
  have hc := fun W (hW : Below w.heap.size w W) => containsL_any gL k ls 82 #[] (fun y => decide (3000 < y.2.2.length)) W hl (hV.below hW) crowded1_enter (fun W' _ y hy => crowded1_any y.1 y.2.2.length y.2.1 W' (hm y hy))
  have HC := Lib.hid hc
  clear hc hV hm
  obtain ⟨x0, x1, xf, xl⟩ := BX.two
  obtain ⟨R, hR⟩ : ∃ R, crowdB ((go, o), gL, k, ls) = R := ⟨_, rfl⟩
  have HR := Lib.hid (show ls.any (fun y => decide (3000 < y.2.2.length)) = R from hR)
  rw [hR]
  clear hR
  go_enter Tryz.func50, Tryz.ntmps50
  go_wp2_with (go_at_call 81; refine (HC.out _ hb).mono ?_; rw [HR.out]; rintro e w5 ⟨rfl, hb5⟩)
  go_ret
  exact ⟨rfl, chain hb hb5⟩
theorem isCrowded_enter (args : Array Value) (w : World) : (callFunc 50 args).run Tryz.prog w = .ok (.enter 50 args) w := by
  obtain ⟨fn, hf, hn, cc, hc⟩ : ∃ fn, Tryz.prog.funcs[(50 : FuncId)]? = some fn ∧ (fn.name == "runtime.NumGoroutine") = false ∧ ∃ cc, fn.body = some cc := ⟨_, Tryz.func50, by kernel_rfl, _, rfl⟩
  have h1 : ¬ fn.name = "runtime.NumGoroutine" := by simpa using hn
  simp [callFunc, hf, h1, hc]
end Go.Proofs.YtciljbnailobgaaGreat
