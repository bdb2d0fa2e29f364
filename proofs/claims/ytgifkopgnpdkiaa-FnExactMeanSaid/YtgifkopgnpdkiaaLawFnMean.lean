/- The mean of equal values is the value, and the mean lies between the smallest and the greatest value: for every code the law of chapter 9 returns true and its argument reads behind the call as it read before. No conditions. -/
import Derived.Test.YtgifkopgnpdkiaaDraw09d
import Derived.Test.Ytgifkopgnpdkiaa09z
import Derived.Test.YtgifkopgnpdkiaaM09d
import Derived.Test.Ytgifkopgnpdkiaa09za
import Derived.Test.Ytgifkopgnpdkiaa09zd
import Derived.Test.Ytgifkopgnpdkiaa09w
import Derived.Test.YtgifkopgnpdkiaaExL
import Derived.Test.YtgifkopgnpdkiaaRows
import Derived.ChangeOld
namespace Go.Proofs.Ytgifkopgnpdkiaa
open Go.ChangeMaps (open_string shut_string)
open Go.ChangeShapes Go.WideShapes Go.ChangeAt Go.RowKit
set_option linter.unusedVariables false
set_option linter.unusedSimpArgs false

theorem code_of_ints {w : World} {x : Addr} {len : Nat} {zs : List Int} (hl : len ≤ zs.length) (_hz : True) (hcell : ∀ i, i < zs.length → w.cell? (x.add i) = some (.int .u8 (zs.getD i 0))) (hwz : ∀ n ∈ zs, (Lit.int .u8 n).wf = true) : CodeIn w.heap.size w (some x) len := by
  intro i hi
  obtain ⟨b, o, spot⟩ := x
  have hc := hcell i (by omega)
  have hspot : spot = none := by
    have hc0 := hcell 0 (by omega)
    simpa [Addr.add] using World.cell?_spot hc0
  subst hspot
  rw [show (⟨b, o, none⟩ : Addr).add i = ⟨b, o + i, none⟩ from by unfold Addr.add; split <;> simp_all] at hc
  have hm : zs.getD i 0 ∈ zs := by
    have : i < zs.length := by omega
    simp [List.getD, this]
  have hw := hwz _ hm
  have hr : 0 ≤ zs.getD i 0 ∧ zs.getD i 0 ≤ 255 := by simpa [Lit.wf, IntKind.min, IntKind.max, IntKind.signed, IntKind.bits] using hw
  exact ⟨b, o, zs.getD i 0, rfl, World.block_lt_of_cell? w _ hc, hc, hr.1, hr.2⟩
theorem bigR_any (a : Option Addr) (len cap : Nat) (w : World) :
    Calls Try.prog 33 #[.slice a len cap] w fun e w' => e = .returned (.bool (decide (4096 < (len : Int)))) ∧ w = w' := by
  go_enter Try.func33, Try.ntmps33
  go_wp2
  go_ret
  exact ⟨rfl, rfl⟩
section
set_option maxRecDepth 20000
theorem rdX_val {S D G : Nat} {N n d : Int} (h : rdX S N D = some (n, d)) (hG : D ≤ G) : n * ((scN S (G - d.toNat) : Nat) : Int) = N * ((scN S (G - D) : Nat) : Int) ∧ d.toNat ≤ D := by
  obtain ⟨k, rfl, h1, h2, h3, -⟩ := rdX_of h
  rw [Int.toNat_natCast, h3, Int.mul_assoc, ← scN_cast, show D - k + (G - D) = G - k by omega]
  exact ⟨rfl, h1⟩
theorem adO_val {S G i j : Nat} {a b n d : Int} (h : adO S a i b j = some (n, d)) (hij : i ≤ j) (hG : j ≤ G) : n * ((scN S (G - d.toNat) : Nat) : Int) = a * ((scN S (G - i) : Nat) : Int) + b * ((scN S (G - j) : Nat) : Int) ∧ d.toNat ≤ G := by
  unfold adO at h
  split at h
  · cases h
  · obtain ⟨e, hd⟩ := rdX_val h hG
    refine ⟨?_, by omega⟩
    rw [e, Int.add_mul, Int.mul_assoc, ← scN_cast, show j - i + (G - j) = G - i by omega]
theorem adX_val {S G i j : Nat} {a b n d : Int} (h : adX S a i b j = some (n, d)) (hi : i ≤ G) (hj : j ≤ G) : n * ((scN S (G - d.toNat) : Nat) : Int) = a * ((scN S (G - i) : Nat) : Int) + b * ((scN S (G - j) : Nat) : Int) ∧ d.toNat ≤ G := by
  by_cases c : i ≤ j
  · rw [adX_le c] at h
    exact adO_val h c hj
  · rw [adX_gt c] at h
    obtain ⟨e, hd⟩ := adO_val h (by omega) hi
    exact ⟨by omega, hd⟩
/-- The weighted sum of the values at one scale. -/
def sumW (S G : Nat) : List (Rl × Rl) → Int
  | [] => 0
  | q :: l => wgt q.1 * (q.2.1 * ((scN S (G - q.2.2.toNat) : Nat) : Int)) + sumW S G l
theorem mnSum_val {S G : Nat} : ∀ (l : List (Rl × Rl)) (a : Int) (d : Nat) (n e : Int), mnSum S l a d = some (n, e) → d ≤ G → (∀ q ∈ l, q.2.2.toNat ≤ G) →
    n * ((scN S (G - e.toNat) : Nat) : Int) = a * ((scN S (G - d) : Nat) : Int) + sumW S G l ∧ e.toNat ≤ G
  | [], a, d, n, e, h, hd, hl => by
    simp only [mnSum, Option.some.injEq, Prod.mk.injEq] at h
    obtain ⟨rfl, rfl⟩ := h
    rw [Int.toNat_natCast, sumW]
    exact ⟨by omega, hd⟩
  | q :: l, a, d, n, e, h, hd, hl => by
    unfold mnSum at h
    cases h1 : rdX S (q.2.1 * wgt q.1) q.2.2.toNat with
    | none => rw [h1] at h; cases h
    | some y =>
      obtain ⟨yn, yd⟩ := y
      rw [h1] at h
      dsimp only at h
      cases h2 : adX S a d yn yd.toNat with
      | none => rw [h2] at h; cases h
      | some z =>
        obtain ⟨zn, zd⟩ := z
        rw [h2] at h
        dsimp only at h
        have hq := hl q (by simp)
        obtain ⟨e1, k1⟩ := rdX_val h1 hq
        obtain ⟨e2, k2⟩ := adX_val h2 hd (show yd.toNat ≤ G by omega)
        obtain ⟨e3, k3⟩ := mnSum_val l zn zd.toNat n e h k2 (fun x hx => hl x (by simp [hx]))
        refine ⟨?_, k3⟩
        rw [e3, e2, e1, sumW, Int.mul_comm q.2.1 (wgt q.1), Int.mul_assoc]
        omega
/-- The sum of the weights. -/
def wSum : List Rl → Int
  | [] => 0
  | r :: l => wgt r + wSum l
theorem wSum_append : ∀ l m : List Rl, wSum (l ++ m) = wSum l + wSum m
  | [], m => by simp [wSum]
  | r :: l, m => by rw [List.cons_append, wSum, wSum_append l m, wSum]; omega
theorem wSum_row (a : Nat) : ∀ j, j ≤ a + 1 → wSum ((List.range j).map fun (j : Nat) => ((a : Int) + 1, (j : Int) + 1)) = if j = a + 1 then 2 * (a : Int) + 1 else 2 * (j : Int)
  | 0, h => by rw [if_neg (by omega)]; rfl
  | j + 1, h => by
    rw [List.range_succ, List.map_append, wSum_append, wSum_row a j (by omega), if_neg (by omega)]
    simp only [List.map_cons, List.map_nil, wSum, wgt]
    by_cases c : j = a
    · subst c
      rw [if_pos rfl, if_pos rfl]
      omega
    · rw [if_neg (by omega), if_neg (by omega)]
      omega
theorem wSum_rolls : ∀ S, wSum (rollsTo S) = ((S * S : Nat) : Int)
  | 0 => rfl
  | a + 1 => by
    rw [rollsTo, wSum_append, wSum_rolls a, wSum_row a (a + 1) (Nat.le_refl _), if_pos rfl]
    have e : (a + 1) * (a + 1) = a * a + (2 * a + 1) := by rw [Nat.add_mul, Nat.mul_add]; omega
    rw [e]
    omega
theorem sumW_less {S G : Nat} {M : Int} : ∀ (R X : List Rl), X.length = R.length → (∀ x ∈ X, x.1 * ((scN S (G - x.2.toNat) : Nat) : Int) < M) → sumW S G (R.zip X) + (R.length : Int) ≤ wSum R * M
  | [], [], h, hx => by simp [sumW, wSum]
  | [], x :: X, h, hx => by simp at h
  | r :: R, [], h, hx => by simp at h
  | r :: R, x :: X, h, hx => by
    have ih := sumW_less R X (by simpa using h) (fun y hy => hx y (by simp [hy]))
    have hx0 := hx x (by simp)
    rw [List.zip_cons_cons, sumW, wSum, Int.add_mul, List.length_cons]
    dsimp only
    obtain ⟨v, hv⟩ : ∃ v, x.1 * ((scN S (G - x.2.toNat) : Nat) : Int) = v := ⟨_, rfl⟩
    rw [hv] at hx0 ⊢
    rcases (by have := wgt_in r; omega : wgt r = 1 ∨ wgt r = 2) with e | e <;> rw [e] <;> omega
theorem sumW_more {S G : Nat} {M : Int} : ∀ (R X : List Rl), X.length = R.length → (∀ x ∈ X, M < x.1 * ((scN S (G - x.2.toNat) : Nat) : Int)) → wSum R * M + (R.length : Int) ≤ sumW S G (R.zip X)
  | [], [], h, hx => by simp [sumW, wSum]
  | [], x :: X, h, hx => by simp at h
  | r :: R, [], h, hx => by simp at h
  | r :: R, x :: X, h, hx => by
    have ih := sumW_more R X (by simpa using h) (fun y hy => hx y (by simp [hy]))
    have hx0 := hx x (by simp)
    rw [List.zip_cons_cons, sumW, wSum, Int.add_mul, List.length_cons]
    dsimp only
    obtain ⟨v, hv⟩ : ∃ v, x.1 * ((scN S (G - x.2.toNat) : Nat) : Int) = v := ⟨_, rfl⟩
    rw [hv] at hx0 ⊢
    rcases (by have := wgt_in r; omega : wgt r = 1 ∨ wgt r = 2) with e | e <;> rw [e] <;> omega
theorem mnX_val {S : Nat} (hS : 1 ≤ S ∧ S ≤ 6) {X : List Rl} (hlen : X.length = (rollsTo S).length) (hX : ∀ x ∈ X, xvB S x.1 x.2 = true) {m f : Int} (h : mnX S ((rollsTo S).zip X) = some (m, f)) :
    xvB S m f = true ∧ sumW S 61 ((rollsTo S).zip X) = wSum (rollsTo S) * (m * ((scN S (61 - f.toNat) : Nat) : Int)) := by
  have hn := nn_range hS
  have hl : ∀ q ∈ (rollsTo S).zip X, q.2.2.toNat ≤ 60 := fun q hq => by
    have := hX _ (List.of_mem_zip hq).2
    obtain ⟨q1, q2, -⟩ := xvB_parts this
    omega
  unfold mnX at h
  cases hs : mnSum S ((rollsTo S).zip X) 0 0 with
  | none => rw [hs] at h; cases h
  | some a =>
    obtain ⟨n, e⟩ := a
    rw [hs] at h
    dsimp only at h
    obtain ⟨-, k0⟩ := mnSum_val (G := 60) _ 0 0 n e hs (by omega) hl
    obtain ⟨e1, k1⟩ := mnSum_val (G := 61) _ 0 0 n e hs (by omega) (fun q hq => by have := hl q hq; omega)
    obtain ⟨e2, k2⟩ := rdX_val (G := 61) h (by omega)
    refine ⟨xvB_of h, ?_⟩
    rw [Int.zero_mul, Int.zero_add] at e1
    rw [← e1, e2, wSum_rolls, show 61 - e.toNat = 61 - (e.toNat + 1) + 1 by omega, scN_succ, Int.natCast_mul]
    rw [← Int.mul_assoc, Int.mul_comm]
theorem sg3_pos {a b : Int} (h : 0 < sg3 a b) : b < a := by
  unfold sg3 at h
  split at h
  · omega
  · split at h
    · assumption
    · omega
theorem sg3_neg {a b : Int} (h : sg3 a b < 0) : a < b := by
  unfold sg3 at h
  split at h
  · assumption
  · split at h <;> omega
theorem sg3_scale {a b C : Int} (hC : 0 < C) : sg3 (a * C) (b * C) = sg3 a b := by
  unfold sg3
  rcases Int.lt_trichotomy a b with h | h | h
  · rw [if_pos (Int.mul_lt_mul_of_pos_right h hC), if_pos h]
  · subst h; simp
  · have := Int.mul_lt_mul_of_pos_right h hC
    rw [if_neg (by omega), if_pos this, if_neg (by omega), if_pos h]
theorem cmV_val {S : Nat} (hS : 1 ≤ S ∧ S ≤ 6) {a b : Int} {i j : Int} (ha : xvB S a i = true) (hb : xvB S b j = true) : cmV S a i b j = sg3 (a * ((scN S (61 - i.toNat) : Nat) : Int)) (b * ((scN S (61 - j.toNat) : Nat) : Int)) := by
  have hn := nn_range hS
  obtain ⟨a1, a2, -⟩ := xvB_parts ha
  obtain ⟨b1, b2, -⟩ := xvB_parts hb
  obtain ⟨i, rfl⟩ := Int.eq_ofNat_of_zero_le a1
  obtain ⟨j, rfl⟩ := Int.eq_ofNat_of_zero_le b1
  rw [Int.toNat_natCast, Int.toNat_natCast, cmV_at hS.1 (M := max i j) rfl]
  have hp := scN_pos hS.1 (61 - max i j)
  rw [show 61 - i = max i j - i + (61 - max i j) by omega, show 61 - j = max i j - j + (61 - max i j) by omega, scN_cast, scN_cast, ← Int.mul_assoc, ← Int.mul_assoc, sg3_scale (by omega)]
theorem rolls_some {S : Nat} (hS : 1 ≤ S) : 1 ≤ (rollsTo S).length := by
  obtain ⟨a, rfl⟩ : ∃ a, S = a + 1 := ⟨S - 1, by omega⟩
  rw [rollsTo, List.length_append, List.length_map, List.length_range]
  omega
theorem mean_not_above {S : Nat} (hS : 1 ≤ S ∧ S ≤ 6) {X : List Rl} (hlen : X.length = (rollsTo S).length) (hX : ∀ x ∈ X, xvB S x.1 x.2 = true) {m f : Int} (h : mnX S ((rollsTo S).zip X) = some (m, f)) : ¬ ∀ x ∈ X, 0 < cmV S m f x.1 x.2 := by
  intro q
  obtain ⟨hm, e⟩ := mnX_val hS hlen hX h
  have hl := sumW_less (S := S) (G := 61) (M := m * ((scN S (61 - f.toNat) : Nat) : Int)) (rollsTo S) X hlen (fun x hx => sg3_pos (by rw [← cmV_val hS hm (hX x hx)]; exact q x hx))
  have := rolls_some hS.1
  omega
theorem mean_not_below {S : Nat} (hS : 1 ≤ S ∧ S ≤ 6) {X : List Rl} (hlen : X.length = (rollsTo S).length) (hX : ∀ x ∈ X, xvB S x.1 x.2 = true) {m f : Int} (h : mnX S ((rollsTo S).zip X) = some (m, f)) : ¬ ∀ x ∈ X, cmV S m f x.1 x.2 < 0 := by
  intro q
  obtain ⟨hm, e⟩ := mnX_val hS hlen hX h
  have hl := sumW_more (S := S) (G := 61) (M := m * ((scN S (61 - f.toNat) : Nat) : Int)) (rollsTo S) X hlen (fun x hx => sg3_neg (by rw [← cmV_val hS hm (hX x hx)]; exact q x hx))
  have := rolls_some hS.1
  omega
theorem rdX_flat {S : Nat} (hS : 1 ≤ S ∧ S ≤ 6) {N : Int} (h : N.natAbs ≤ 1000000000000000000) : rdX S N 0 = some (N, 0) := by
  have hn := nn_range hS
  unfold rdX
  rw [show rdN (S * S) N.natAbs 0 = (N.natAbs, 0) from rfl]
  dsimp only
  rw [if_pos ⟨by omega, h⟩]
  congr 2
  unfold sgI
  split <;> omega
theorem mnSum_sevens {S : Nat} (hS : 1 ≤ S ∧ S ≤ 6) : ∀ (R : List Rl) (a : Int), 0 ≤ a → a + 14 * (R.length : Int) ≤ 1000000 → mnSum S (R.zip (List.replicate R.length ((7, 0) : Rl))) a 0 = some (a + 7 * wSum R, 0)
  | [], a, h0, h1 => by simp [mnSum, wSum]
  | r :: R, a, h0, h1 => by
    rw [List.length_cons] at h1
    have hw := wgt_in r
    rw [List.length_cons, List.replicate_succ, List.zip_cons_cons, mnSum_cons]
    dsimp only
    rw [show ((0 : Int)).toNat = 0 from rfl, rdX_flat hS (by omega)]
    dsimp only
    rw [show ((0 : Int)).toNat = 0 from rfl, adX_le (Nat.le_refl 0)]
    unfold adO
    rw [Nat.sub_self, scN_zero, show a * ((1 : Nat) : Int) = a by omega, if_neg (by omega), rdX_flat hS (by omega)]
    dsimp only
    rw [show ((0 : Int)).toNat = 0 from rfl, mnSum_sevens hS R (a + 7 * wgt r) (by omega) (by omega), wSum]
    congr 2
    omega
theorem mean_sevens {S : Nat} (hS : 1 ≤ S ∧ S ≤ 6) : mnX S ((rollsTo S).zip (List.replicate (rollsTo S).length ((7, 0) : Rl))) = some (7, 0) := by
  have hn := nn_range hS
  have hb := base_range hS
  have hle := rollsTo_length S
  have hv : xvB S 7 0 = true := by unfold xvB; rw [decide_eq_true_eq]; exact ⟨by omega, by omega, by omega, by omega, .inl rfl⟩
  unfold mnX
  rw [mnSum_sevens hS _ 0 (by omega) (by omega), wSum_rolls]
  dsimp only
  have := rdX_valid (S := S) (D := 1) (k := 0) (n := 7) hS (by omega) hv
  rw [show scN S (1 - 0) = S * S by simp [scN]] at this
  rw [show ((0 : Int)).toNat + 1 = 1 from rfl, Int.zero_add]
  exact this
end
theorem mnV_zero {p c h s r1 r2 : Int} {X : List Rl} (e : mnV p c h s X = (r1, r2, 0)) : ∃ S : Nat, s = (S : Int) ∧ (1 ≤ S ∧ S ≤ 6) ∧ vB p c h s = true ∧ X.length = (rollsTo S).length ∧ (∀ x ∈ X, xvB S x.1 x.2 = true) ∧ mnX S ((rollsTo S).zip X) = some (r1, r2) := by
  unfold mnV at e
  by_cases h0 : sfC p c h s X = 0
  · obtain ⟨g, hall⟩ := sfC_zero h0
    obtain ⟨S, rfl, hS⟩ := vB_side g
    rw [if_pos h0] at e
    simp only [Int.toNat_natCast] at e hall
    by_cases hl : X.length = (rollsTo S).length
    · rw [if_pos hl] at e
      cases hm : mnX S ((rollsTo S).zip X) with
      | none => rw [hm] at e; simp [xo3] at e
      | some z =>
        rw [hm] at e
        simp only [xo3, Prod.mk.injEq, and_true] at e
        refine ⟨S, rfl, hS, g, hl, hall, ?_⟩
        obtain ⟨z1, z2⟩ := z
        rw [← e.1, ← e.2]
        exact hm
    · rw [if_neg hl] at e
      simp at e
  · rw [if_neg h0] at e
    simp only [Prod.mk.injEq] at e
    exact absurd e.2.2 h0
theorem mnV_sevens {p c h : Int} {S : Nat} (hS : 1 ≤ S ∧ S ≤ 6) (g : vB p c h (S : Int) = true) {n : Nat} (hn : n = (rollsTo S).length) : mnV p c h (S : Int) (List.replicate n (7, 0)) = (7, 0, 0) := by
  have hv : xvB S 7 0 = true := xvB_zero hS (by decide)
  have h0 : sfC p c h (S : Int) (List.replicate n (7, 0)) = 0 := by
    unfold sfC
    rw [if_pos g, if_pos]
    rw [List.all_eq_true]
    intro x hx
    rw [(List.mem_replicate.1 hx).2, Int.toNat_natCast]
    exact hv
  unfold mnV
  rw [if_pos h0, Int.toNat_natCast, List.length_replicate, if_pos hn, hn, mean_sevens hS]
  rfl
set_option maxRecDepth 8000 in
set_option maxHeartbeats 1000000 in
theorem fnExactMean_walk (a : Option Addr) (len cap : Nat) (w : World) (hcode : CodeIn w.heap.size w a len) :
    Calls Try.prog 12 #[.slice a len cap] w fun e w' => e = .returned (.bool true) ∧ Below w.heap.size w w' := by
  by_cases hbig : 4096 < len
  · have f0 : decide (4096 < (len : Int)) = true := by simp; omega
    go_enter Try.func12, Try.ntmps12
    go_wp2_with fail
    refine (bigR_any _ _ _ _).mono ?_
    rintro e w1 ⟨rfl, rfl⟩
    go_wp2
    go_ret
    exact ⟨rfl, Below.refl _ _⟩
  · have f0 : decide (4096 < (len : Int)) = false := by simp; omega
    go_enter Try.func12, Try.ntmps12
    go_wp2_with fail
    refine (bigR_any _ _ _ _).mono ?_
    rintro e w0 ⟨rfl, rfl⟩
    go_wp2_with fail
    refine (drawMean9_any w.heap.size a len cap w (Nat.le_refl _) (by omega) hcode).mono ?_
    rintro e w1 ⟨p, c, h, s, va, kv, X, rfl, hXl, hr, HO, hb⟩
    clear hbig f0 hcode
    have BV := Blk.new w1 #[.int .i64 p, .int .i64 c, .int .i64 h, .int .i64 s] 27
    replace HO := HO.alloc (.cells #[.int .i64 p, .int .i64 c, .int .i64 h, .int .i64 s] 27)
    replace hb := chain_alloc hb (.cells #[.int .i64 p, .int .i64 c, .int .i64 h, .int .i64 s] 27)
    have hI := fun W q => implMeanExact_any p c h s va kv X W (by omega) q hr
    have hS := fun W q => specMeanExact_any p c h s va kv X W (by omega) q hr
    obtain ⟨⟨r1, r2, r3⟩, hT⟩ : ∃ T, mnV p c h s X = T := ⟨_, rfl⟩
    rw [hT] at hI hS
    dsimp only [xoV] at hI hS
    by_cases c3 : r3 = 0
    · subst c3
      obtain ⟨S, rfl, hSS, hvB, hlen, hall, hmx⟩ := mnV_zero hT
      obtain ⟨hval, -⟩ := mnX_val hSS hlen hall hmx
      have hna := mean_not_above hSS hlen hall hmx
      have hnb := mean_not_below hSS hlen hall hmx
      have hn61 := nn_range hSS
      have h7 := fun (a7 : Option Addr) (k7 : Nat) W q => implMeanExact_any p c h (S : Int) a7 k7 (List.replicate X.length (7, 0)) W (by rw [List.length_replicate]; omega) q (by intro r hr7; rw [(List.mem_replicate.1 hr7).2]; dsimp only; omega)
      rw [mnV_sevens hSS hvB hlen, List.length_replicate] at h7
      dsimp only [xoV] at h7
      have hcmp : ∀ xn xd : Int, (xn, xd) ∈ X → ∀ W, Calls Try.prog 25 #[.agg #[.int .i64 p, .int .i64 c, .int .i64 h, .int .i64 (S : Int)], .agg #[.int .i64 r1, .int .i64 r2], .agg #[.int .i64 xn, .int .i64 xd]] W fun e w' => e = .returned (.tuple #[.int .i64 (cmV S r1 r2 xn xd), .int .i64 0]) ∧ Below W.heap.size W w' := by
        intro xn xd hx W
        have h1 := xvB_parts hval
        have h2 := hall _ hx
        have h3 := implCompareExact_any p c h (S : Int) r1 r2 xn xd (by omega) (hr _ hx) W
        have h4 : ceV p c h (S : Int) r1 r2 xn xd = (cmV S r1 r2 xn xd, 0) := by
          unfold ceV
          rw [sfC_two hvB, hval, h2, if_pos (by rfl), Int.toNat_natCast]
        rw [h4] at h3
        exact h3
      have HI := Lib.hid hI
      have HSP := Lib.hid hS
      have H7 := Lib.hid h7
      have HCM := Lib.hid hcmp
      have HNA := Lib.hid hna
      have HNB := Lib.hid hnb
      clear hI hS h7 hcmp hna hnb hT hlen hall hmx hval hvB hr hn61
      obtain ⟨x0, x1, x2, x3, xf, xl⟩ := BV.four
      go_wp2_with (first | (go_at_call 31; refine (HI.out _ HO).mono ?_; clear HI; rintro e u1 ⟨rfl, h1⟩; have B5 := Blk.new u1 #[.int .i64 r1, .int .i64 r2] 29; replace BV := (BV.below h1).alloc (.cells #[.int .i64 r1, .int .i64 r2] 29); replace HO := (HO.below h1).alloc (.cells #[.int .i64 r1, .int .i64 r2] 29); replace hb := chain_alloc (chain hb h1) (.cells #[.int .i64 r1, .int .i64 r2] 29); clear h1; obtain ⟨x0, x1, x2, x3, xf, xl⟩ := BV.four; obtain ⟨y0, y1, yf, yl⟩ := B5.two) | (go_at_call 29; refine (HSP.out _ HO).mono ?_; clear HSP; rintro e u2 ⟨rfl, h2⟩; have B7 := Blk.new u2 #[.int .i64 r1, .int .i64 r2] 29; replace BV := (BV.below h2).alloc (.cells #[.int .i64 r1, .int .i64 r2] 29); replace B5 := (B5.below h2).alloc (.cells #[.int .i64 r1, .int .i64 r2] 29); replace HO := (HO.below h2).alloc (.cells #[.int .i64 r1, .int .i64 r2] 29); replace hb := chain_alloc (chain hb h2) (.cells #[.int .i64 r1, .int .i64 r2] 29); clear h2; obtain ⟨x0, x1, x2, x3, xf, xl⟩ := BV.four; obtain ⟨y0, y1, yf, yl⟩ := B5.two; obtain ⟨z0, z1, zf, zl⟩ := B7.two))
      clear x0 x1 x2 x3 xf xl y0 y1 yf yl z0 z1 zf zl B7
      have hz2 : (u2.alloc (.cells #[.int .i64 r1, .int .i64 r2] 29)).heap.size = u2.heap.size + 1 := by simp
      generalize u2.alloc (.cells #[.int .i64 r1, .int .i64 r2] 29) = v2 at *
      have HZ2 := Lib.hid hz2
      have BV0 := Lib.hid BV
      have B50 := Lib.hid B5
      clear hz2 BV B5
      generalize u1.heap.size = g5 at *
      go_loopg [9, 10, 11, 12] X.length (fun mm q9 q10 q11 q12 wr => ∃ (j : Nat) (ab bl : Bool), j ≤ X.length ∧ mm = X.length - j ∧ q12 = .int .i64 (j : Int) ∧ q10 = .bool ab ∧ q11 = .bool bl ∧ Hid (ab = (X.take j).all fun x => decide (0 < cmV S r1 r2 x.1 x.2)) ∧ Hid (bl = (X.take j).all fun x => decide (cmV S r1 r2 x.1 x.2 < 0)) ∧ OwnX wr v2.heap.size q9 (List.replicate j (7, 0)) ∧ Below v2.heap.size v2 wr)
      case atStart => exact ⟨0, true, true, by omega, by omega, rfl, rfl, rfl, Lib.hid (by simp), Lib.hid (by simp), by have q := OwnX.start v2; rw [HZ2.out] at q ⊢; exact q, (Below.refl _ _).alloc (Nat.le_refl _) _⟩
      case round =>
        obtain ⟨j, ab, bl, hj, hm, rfl, rfl, rfl, HAb, HBb, hO, hbx⟩ := hrel
        by_cases hlt : j < X.length
        · have hlt' : (j : Int) < (X.length : Int) := by omega
          have hk0 : (0 : Int) ≤ (j : Int) := by omega
          obtain ⟨ga, rfl, RX0⟩ := HO.row hlt
          obtain ⟨⟨xn, xd⟩, hs⟩ : ∃ s, X[j]? = some s := ⟨_, List.getElem?_eq_getElem hlt⟩
          have hc := HCM.out xn xd (List.mem_of_getElem? hs)
          have hA2 : ∀ F : Rl → Bool, (X.take (j + 1)).all F = ((X.take j).all F && F (xn, xd)) := fun F => by rw [List.take_add_one, hs, List.all_append]; simp
          have ha2 := hA2 fun x => decide (0 < cmV S r1 r2 x.1 x.2)
          have hb2 := hA2 fun x => decide (cmV S r1 r2 x.1 x.2 < 0)
          dsimp only at ha2 hb2
          obtain ⟨cm, hcm⟩ : ∃ z, cmV S r1 r2 xn xd = z := ⟨_, rfl⟩
          rw [hcm] at hc ha2 hb2
          have HA2 := Lib.hid ha2
          have HB2 := Lib.hid hb2
          have HC := Lib.hid hc
          have HS1 := Lib.hid hs
          have HRP := Lib.hid (show List.replicate j ((7, 0) : Rl) ++ [(7, 0)] = List.replicate (j + 1) (7, 0) by rw [List.replicate_succ'])
          have hLl : (List.replicate j ((7, 0) : Rl)).length ≤ 1048576 := by rw [List.length_replicate]; omega
          have hsz := hbx.size
          clear hc hA2 ha2 hb2 hs hcm
          go_wp2_with (at_builtin; go_loud (refine wp_pushX rfl _ _ rfl v2.heap.size _ (List.replicate j (7, 0)) rfl hO (7, 0) rfl (by simp) hLl hsz ?_; intro vL w9 hO2 hb9))
          replace hbx := hbx.trans hb9
          have BV := BV0.out.below hbx
          have B5 := B50.out.below hbx
          have RX := VRow.below RX0 hbx
          clear hO hb9 hLl hsz RX0
          refine wp_region_held_drew (S := fun w' => w'.cell? ⟨ga, j * 2, none⟩ = some (.int .i64 xn) ∧ w'.cell? ⟨ga, j * 2 + 1, none⟩ = some (.int .i64 xd) ∧ w'.cell? ⟨g5, 0, none⟩ = some (.int .i64 r1) ∧ w'.cell? ⟨g5, 1, none⟩ = some (.int .i64 r2) ∧ w'.cell? ⟨w1.heap.size, 0, none⟩ = some (.int .i64 p) ∧ w'.cell? ⟨w1.heap.size, 1, none⟩ = some (.int .i64 c) ∧ w'.cell? ⟨w1.heap.size, 2, none⟩ = some (.int .i64 h) ∧ w'.cell? ⟨w1.heap.size, 3, none⟩ = some (.int .i64 (S : Int))) (by kernel_rfl) ⟨(XRow.two RX.drew j _ HS1.out).1, (XRow.two RX.drew j _ HS1.out).2, B5.drew.two.1, B5.drew.two.2.1, BV.drew.four.1, BV.drew.four.2.1, BV.drew.four.2.2.1, BV.drew.four.2.2.2.1⟩ (fun hHeld => ?_)
          clear hHeld
          replace BV := BV.drew
          replace B5 := B5.drew
          replace RX := RX.drew
          replace hbx := hbx.drew
          replace hO2 := hO2.by (w' := w9.drew) (fun i h1 h2 => rfl)
          generalize w9.drew = vd at *
          have hHeld : vd.cell? ⟨ga, j * 2, none⟩ = some (.int .i64 xn) ∧ vd.cell? ⟨ga, j * 2 + 1, none⟩ = some (.int .i64 xd) ∧ vd.cell? ⟨g5, 0, none⟩ = some (.int .i64 r1) ∧ vd.cell? ⟨g5, 1, none⟩ = some (.int .i64 r2) ∧ vd.cell? ⟨w1.heap.size, 0, none⟩ = some (.int .i64 p) ∧ vd.cell? ⟨w1.heap.size, 1, none⟩ = some (.int .i64 c) ∧ vd.cell? ⟨w1.heap.size, 2, none⟩ = some (.int .i64 h) ∧ vd.cell? ⟨w1.heap.size, 3, none⟩ = some (.int .i64 (S : Int)) := ⟨(XRow.two RX j _ HS1.out).1, (XRow.two RX j _ HS1.out).2, B5.two.1, B5.two.2.1, BV.four.1, BV.four.2.1, BV.four.2.2.1, BV.four.2.2.2.1⟩
          refine wpAnyH_take (i := 0) (oi := { dst := some 58, op := _, type := _, pos := _, after := _, guard := _ }) (v := ?_) rfl (by kernel_rfl) (by kernel_rfl) (by kernel_rfl) (fun _ _ _ h => h) (Or.inl ⟨by rfl, ?_⟩) (by assumption) ?_
          rotate_left
          · intro w hSw
            (try dsimp only at hSw)
            go_simp
            (try (with_reducible rfl))
          try simp only [Act.put, List.setIfInBounds_toArray, List.set_cons_zero, List.set_cons_succ]
          refine wpAnyH_take (i := 1) (oi := { dst := some 59, op := _, type := _, pos := _, after := _, guard := _ }) (v := ?_) rfl (by kernel_rfl) (by kernel_rfl) (by kernel_rfl) (fun _ _ _ h => h) (Or.inl ⟨by rfl, ?_⟩) (by assumption) ?_
          rotate_left
          · intro w hSw
            (try dsimp only at hSw)
            go_simp
            (try (with_reducible rfl))
          try simp only [Act.put, List.setIfInBounds_toArray, List.set_cons_zero, List.set_cons_succ]
          refine wpAnyH_take (i := 2) (oi := { dst := some 60, op := _, type := _, pos := _, after := _, guard := _ }) (v := ?_) rfl (by kernel_rfl) (by kernel_rfl) (by kernel_rfl) (fun _ _ _ h => h) (Or.inl ⟨by rfl, ?_⟩) (by assumption) ?_
          rotate_left
          · intro w hSw
            (try dsimp only at hSw)
            go_simp
            (try (with_reducible rfl))
          try simp only [Act.put, List.setIfInBounds_toArray, List.set_cons_zero, List.set_cons_succ]
          refine wpAnyH_take (i := 3) (oi := { dst := some 61, op := _, type := _, pos := _, after := _, guard := _ }) (v := ?_) rfl (by kernel_rfl) (by kernel_rfl) (by kernel_rfl) (fun _ _ _ h => h) (Or.inl ⟨by rfl, ?_⟩) (by assumption) ?_
          rotate_left
          · intro w hSw
            (try dsimp only at hSw)
            go_simp
            (try (with_reducible rfl))
          try simp only [Act.put, List.setIfInBounds_toArray, List.set_cons_zero, List.set_cons_succ]
          refine wpAnyH_take (i := 4) (oi := { dst := some 62, op := _, type := _, pos := _, after := _, guard := _ }) (v := ?_) rfl (by kernel_rfl) (by kernel_rfl) (by kernel_rfl) (fun _ _ _ h => h) (Or.inl ⟨by rfl, ?_⟩) (by assumption) ?_
          rotate_left
          · intro w hSw
            (try dsimp only at hSw)
            go_simp
            (try (with_reducible rfl))
          try simp only [Act.put, List.setIfInBounds_toArray, List.set_cons_zero, List.set_cons_succ]
          refine wpAnyH_take (i := 5) (oi := { dst := some 63, op := _, type := _, pos := _, after := _, guard := _ }) (v := ?_) rfl (by kernel_rfl) (by kernel_rfl) (by kernel_rfl) (fun _ _ _ h => h) (Or.inl ⟨by rfl, ?_⟩) (by assumption) ?_
          rotate_left
          · intro w hSw
            (try dsimp only at hSw)
            go_simp
            (try (with_reducible rfl))
          try simp only [Act.put, List.setIfInBounds_toArray, List.set_cons_zero, List.set_cons_succ]
          refine wpAnyH_ready (rs := [6]) (by kernel_rfl) (by simp) ?_
          refine AllReadyH.cons (o := { dst := some 64, op := _, type := _, pos := _, after := _, guard := _ }) rfl (fun K hK => ?_) AllReadyH.nil
          go_simp
          refine (HC.out _).mono ?_
          rintro e w5 ⟨rfl, hb5⟩
          replace BV := BV.below hb5
          replace B5 := B5.below hb5
          replace RX := RX.below hb5
          replace hO2 := hO2.by (fun i h1 h2 => hb5.block i h2)
          replace hbx := chain hbx hb5
          clear hb5
          (try go_wp2_with fail)
          refine hK.out _ _ ⟨(XRow.two RX j _ HS1.out).1, (XRow.two RX j _ HS1.out).2, B5.two.1, B5.two.2.1, BV.four.1, BV.four.2.1, BV.four.2.2.1, BV.four.2.2.2.1⟩ (fun hHeld => ?_)
          clear hK K
          try simp only [Act.put, List.setIfInBounds_toArray, List.set_cons_zero, List.set_cons_succ]
          refine wpAnyH_take (i := 7) (oi := { dst := some 57, op := _, type := _, pos := _, after := _, guard := _ }) (v := ?_) rfl (by kernel_rfl) (by kernel_rfl) (by kernel_rfl) (fun _ _ _ h => h) (Or.inl ⟨by rfl, ?_⟩) (by assumption) ?_
          rotate_left
          · intro w hSw
            (try dsimp only at hSw)
            go_simp
            (try (with_reducible rfl))
          try simp only [Act.put, List.setIfInBounds_toArray, List.set_cons_zero, List.set_cons_succ]
          refine wpAnyH_take (i := 8) (oi := { dst := some 65, op := _, type := _, pos := _, after := _, guard := _ }) (v := ?_) rfl (by kernel_rfl) (by kernel_rfl) (by kernel_rfl) (fun _ _ _ h => h) (Or.inl ⟨by rfl, ?_⟩) (by assumption) ?_
          rotate_left
          · intro w hSw
            (try dsimp only at hSw)
            go_simp
            (try (with_reducible rfl))
          try simp only [Act.put, List.setIfInBounds_toArray, List.set_cons_zero, List.set_cons_succ]
          refine wpAnyH_take (i := 9) (oi := { dst := some 66, op := _, type := _, pos := _, after := _, guard := _ }) (v := ?_) rfl (by kernel_rfl) (by kernel_rfl) (by kernel_rfl) (fun _ _ _ h => h) (Or.inl ⟨by rfl, ?_⟩) (by assumption) ?_
          rotate_left
          · intro w hSw
            (try dsimp only at hSw)
            go_simp
            (try (with_reducible rfl))
          try simp only [Act.put, List.setIfInBounds_toArray, List.set_cons_zero, List.set_cons_succ]
          refine wpAnyH_take (i := 10) (oi := { dst := some 13, op := _, type := _, pos := _, after := _, guard := _ }) (v := ?_) rfl (by kernel_rfl) (by kernel_rfl) (by kernel_rfl) (fun _ _ _ h => h) (Or.inl ⟨by rfl, ?_⟩) (by assumption) ?_
          rotate_left
          · intro w hSw
            (try dsimp only at hSw)
            go_simp
            (try (with_reducible rfl))
          try simp only [Act.put, List.setIfInBounds_toArray, List.set_cons_zero, List.set_cons_succ]
          refine wpAnyH_take (i := 11) (oi := { dst := some 14, op := _, type := _, pos := _, after := _, guard := _ }) (v := ?_) rfl (by kernel_rfl) (by kernel_rfl) (by kernel_rfl) (fun _ _ _ h => h) (Or.inl ⟨by rfl, ?_⟩) (by assumption) ?_
          rotate_left
          · intro w hSw
            (try dsimp only at hSw)
            go_simp
            (try (with_reducible rfl))
          try simp only [Act.put, List.setIfInBounds_toArray, List.set_cons_zero, List.set_cons_succ]
          refine wpAnyH_done (by kernel_rfl) ?_ _
          clear hHeld
          have hcm : cm < 0 ∨ cm = 0 ∨ 0 < cm := by omega
          rcases hcm with ck | ck | ck
          · have ck2 : ¬ 0 < cm := by omega
            have D1 := Lib.hid (show decide (0 < cm) = false by simp; omega)
            have D2 := Lib.hid (show decide (cm < 0) = true by simp; omega)
            cases ab <;> cases bl <;> go_wp2_with fail
            all_goals
              go_roundg (X.length - (j + 1))
              case measure => omega
              case rel => exact ⟨j + 1, _, _, by omega, rfl, by go_num, rfl, rfl, Lib.hid (by rw [HA2.out, ← HAb.out, D1.out]; rfl), Lib.hid (by rw [HB2.out, ← HBb.out, D2.out]; rfl), HRP.out ▸ hO2, hbx⟩
          · subst ck
            have D1 := Lib.hid (show decide (0 < (0 : Int)) = false by rfl)
            have D2 := Lib.hid (show decide ((0 : Int) < 0) = false by rfl)
            cases ab <;> cases bl <;> go_wp2_with fail
            all_goals
              go_roundg (X.length - (j + 1))
              case measure => omega
              case rel => exact ⟨j + 1, _, _, by omega, rfl, by go_num, rfl, rfl, Lib.hid (by rw [HA2.out, ← HAb.out, D1.out]; rfl), Lib.hid (by rw [HB2.out, ← HBb.out, D2.out]; rfl), HRP.out ▸ hO2, hbx⟩
          · have ck2 : ¬ cm < 0 := by omega
            have D1 := Lib.hid (show decide (0 < cm) = true by simp; omega)
            have D2 := Lib.hid (show decide (cm < 0) = false by simp; omega)
            cases ab <;> cases bl <;> go_wp2_with fail
            all_goals
              go_roundg (X.length - (j + 1))
              case measure => omega
              case rel => exact ⟨j + 1, _, _, by omega, rfl, by go_num, rfl, rfl, Lib.hid (by rw [HA2.out, ← HAb.out, D1.out]; rfl), Lib.hid (by rw [HB2.out, ← HBb.out, D2.out]; rfl), HRP.out ▸ hO2, hbx⟩
        · obtain rfl : j = X.length := by omega
          obtain rfl : ab = false := by
            cases ab
            · rfl
            · exfalso
              have q := HAb.out
              rw [List.take_length] at q
              exact HNA.out (fun x hx => by simpa using List.all_eq_true.1 q.symm x hx)
          obtain rfl : bl = false := by
            cases bl
            · rfl
            · exfalso
              have q := HBb.out
              rw [List.take_length] at q
              exact HNB.out (fun x hx => by simpa using List.all_eq_true.1 q.symm x hx)
          obtain ⟨a2, k2, hq⟩ := hO.form
          rw [List.length_replicate] at hq
          subst hq
          have HOX := hO.ox
          have BV := BV0.out.below hbx
          clear hO
          obtain ⟨x0, x1, x2, x3, xf, xl⟩ := BV.four
          go_wp2_with (go_at_call 31; refine (H7.out _ _ _ HOX).mono ?_; clear H7; rintro e u5 ⟨rfl, h5⟩; have B15 := Blk.new u5 #[.int .i64 7, .int .i64 0] 29; replace hbx := chain_alloc (chain hbx h5) (.cells #[.int .i64 7, .int .i64 0] 29); clear h5; obtain ⟨q0, q1, qf, ql⟩ := B15.two)
          go_ret
          exact ⟨rfl, hb.trans (hbx.mono hb.size)⟩
    · have fa : (r3 == 0) = false := by rw [beq_eq_false_iff_ne]; exact c3
      have fa2 : (r3 != 0) = true := by rw [bne, fa]; rfl
      have HI := Lib.hid hI
      have HSP := Lib.hid hS
      clear hI hS hT hr
      obtain ⟨x0, x1, x2, x3, xf, xl⟩ := BV.four
      go_wp2_with (first | (go_at_call 31; refine (HI.out _ HO).mono ?_; clear HI; rintro e u1 ⟨rfl, h1⟩; have B5 := Blk.new u1 #[.int .i64 r1, .int .i64 r2] 29; replace BV := (BV.below h1).alloc (.cells #[.int .i64 r1, .int .i64 r2] 29); replace HO := (HO.below h1).alloc (.cells #[.int .i64 r1, .int .i64 r2] 29); replace hb := chain_alloc (chain hb h1) (.cells #[.int .i64 r1, .int .i64 r2] 29); clear h1; obtain ⟨x0, x1, x2, x3, xf, xl⟩ := BV.four; obtain ⟨y0, y1, yf, yl⟩ := B5.two) | (go_at_call 29; refine (HSP.out _ HO).mono ?_; clear HSP; rintro e u2 ⟨rfl, h2⟩; have B7 := Blk.new u2 #[.int .i64 r1, .int .i64 r2] 29; replace BV := (BV.below h2).alloc (.cells #[.int .i64 r1, .int .i64 r2] 29); replace B5 := (B5.below h2).alloc (.cells #[.int .i64 r1, .int .i64 r2] 29); replace HO := (HO.below h2).alloc (.cells #[.int .i64 r1, .int .i64 r2] 29); replace hb := chain_alloc (chain hb h2) (.cells #[.int .i64 r1, .int .i64 r2] 29); clear h2; obtain ⟨x0, x1, x2, x3, xf, xl⟩ := BV.four; obtain ⟨y0, y1, yf, yl⟩ := B5.two; obtain ⟨z0, z1, zf, zl⟩ := B7.two))
      go_ret
      exact ⟨rfl, hb⟩
set_option maxRecDepth 100000 in
theorem fnExactMean_lifted (os : Os) (started : os.Started) (H : Type) (enc : TypeId × Value → H) :
    ReturnsInHanded {} Try.checked os 12 .any (Rows.fnExactMeanSpec.pre6 enc Try.prog Try.f12 Rows.fnExactMeanRow.domain false) (Rows.fnExactMeanSpec.post enc Try.prog Try.f12 false true false false) := by
  refine returnsInHanded_of_change (C := Try.checked) own started (by kernel_rfl) Try.func12
    (ChangeSpec.witness6 (enc := enc) (C := Try.checked) false ⟨#[], #[.slice none 0 0], []⟩ 8 (by kernel_rfl) (by kernel_rfl) (by kernel_rfl) (by kernel_rfl)) ?_
  intro W base args ds gs before hval0 hW hcnd _
  have hval : ∀ (j : Nat) t v, Try.f12.params[j]? = some t → args[j]? = some v → Value.okWide Try.prog W .any base t v := hval0
  have hW' := hW
  obtain ⟨p, q, hA0, hV, rfl, hfz, hnd⟩ := hW
  have hA : DataW.TrodAll enc Try.prog W 0 (fun _ => true) true Try.f12.params.toList args.toList ds p := hA0
  rw [Try.params12] at hA hval
  obtain ⟨v0, vs0, d0, ds0, p0, q0, hargs, rfl, rfl, h0, r0⟩ := trodAll_cons hA
  obtain ⟨rfl, rfl, rfl⟩ := trodAll_nil r0
  obtain rfl : args = #[v0] := by cases args; simp_all
  obtain ⟨rfl, rfl⟩ := trodVars_none hV
  have k0 := h0
  have lt0 : ∀ x ∈ p0, x.block < W.heap.size := by obtain ⟨m, hm⟩ := k0; exact DataW.trod_lt m _ _ _ hm
  obtain ⟨sa_0, sl_0, sc_0, rfl⟩ := okWide_slice Try.underlying50 (hval 0 50 v0 rfl rfl)
  have hcode_0 : CodeIn W.heap.size W sa_0 sl_0 := by
    obtain ⟨fuel, hf⟩ := h0
    rcases open_ints Try.underlying50 Try.underlying5 (by kernel_rfl) hf with ⟨hcs, _⟩ | ⟨x, l, c, zs, hcs, _, hl, hm, hz, _, hcell, hwz⟩
    · simp [Value.cells] at hcs
      obtain ⟨rfl, rfl, rfl⟩ := hcs
      intro i hi
      omega
    · simp [Value.cells] at hcs
      obtain ⟨rfl, rfl, rfl⟩ := hcs
      exact code_of_ints (by have hz2 := hz; simp at hz2; omega) trivial hcell hwz
  clear hA0 hval0
  refine (fnExactMean_walk sa_0 sl_0 sc_0 W hcode_0).mono fun e W' ⟨he, bel⟩ => ?_
  subst he
  exact ⟨_, rfl, _, _, _, [], _, [], hW', trodAll_mk1 (shut_bool Try.underlying4 _), (trodAll_cons_mk (Below.trod laidOut (by kernel_rfl) (of_decide_eq_true (by kernel_rfl)) k0 bel lt0) trodAll_mk0), rfl, bel.frame _, fun h => by cases h⟩
theorem fnExactMean_holds : Rows.FnExactMeanSaid :=
  OpenClaim.holds_of_wide 12 Try.f12 rfl rfl rfl rfl rfl rfl rfl ⟨rfl, rfl, rfl, rfl, rfl⟩ rfl rfl rfl rfl rfl (by kernel_rfl) Try.func12 (by kernel_rfl)
    (of_decide_eq_true (by kernel_rfl)) (by unfold Func.isWrapper; first | (rw [if_pos (by decide +kernel)]; kernel_rfl) | (rw [if_neg (by decide +kernel)]; exact ⟨rfl, rfl⟩))
    (fun os started H enc _ => fnExactMean_lifted os started H enc)
end Go.Proofs.Ytgifkopgnpdkiaa
