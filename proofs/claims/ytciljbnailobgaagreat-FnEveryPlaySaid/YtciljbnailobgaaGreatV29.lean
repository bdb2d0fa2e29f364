/- Texts of a proof, laid together. -/
import Derived.Test.YtciljbnailobgaaGreatV28
import Derived.Test.YtciljbnailobgaaGreatV26
import Derived.Test.YtciljbnailobgaaGreatV22
namespace Go.Proofs.YtciljbnailobgaaGreat
open Go.ChangeShapes Go.WideShapes Go.ChangeAt Go.RowKit
set_option linter.unusedVariables false
structure Fol (P : Nat) (c h s : Int) (xs ys O : List Int) (j : Nat) (ts : List Stp) (X Y : List Int) : Prop where
  len : ts.length = j
  fol : folN P h s (O.take j) ts (xs, ys) = some (X, Y)
  brd : isB (P : Int) c h s X Y = true
theorem Fol.zero {P : Nat} {c h s : Int} {xs ys O : List Int} (g : isB (P : Int) c h s xs ys = true) : Fol P c h s xs ys O 0 [] xs ys := ⟨rfl, folN_nil _ _ _ _ _, g⟩
theorem Fol.next {P : Nat} {c h s d : Int} {xs ys O X Y : List Int} {j : Nat} {ts : List Stp} {ta tb td : Int} {tq : Bool} (f : Fol P c h s xs ys O j ts X Y) (hd : O[j]? = some d) (hdB : inB d 1 s = true) (ht : (ta, tb, td, tq) ∈ legL P h X Y d) :
    Fol P c h s xs ys O (j + 1) (ts ++ [(ta, tb, td, tq)]) (mvX X ta tb 1) (mvY P Y tb tq 1) := by
  have hl := legL_leg f.brd hdB ht
  have hj : j < O.length := (List.getElem?_eq_some_iff.1 hd).1
  refine ⟨by simp [f.len], ?_, (step_facts f.brd hl).1⟩
  have e : O.take (j + 1) = O.take j ++ [d] := by rw [List.take_add_one, hd]; rfl
  rw [e]
  exact folN_snoc P h s (O.take j) ts (xs, ys) (X, Y) d (ta, tb, td, tq) (by rw [f.len, List.length_take]; omega) f.fol (legL_die ht) hl
theorem Fol.all {P : Nat} {c h s : Int} {xs ys O X Y : List Int} {j : Nat} {ts : List Stp} (f : Fol P c h s xs ys O j ts X Y) : folN P h s O ts (xs, ys) = some (X, Y) := by
  have := folN_more P h s (O.take j) (O.drop j) ts (xs, ys) (X, Y) f.fol
  rwa [List.take_append_drop] at this
theorem Fol.used {P : Nat} {c h s ra rb : Int} {xs ys O X Y : List Int} {j : Nat} {ts : List Stp} (f : Fol P c h s xs ys O j ts X Y) (ho : O ∈ ordersP ra rb) : j ≤ usedP P h xs ys ra rb := by
  have h1 := folN_used f.all
  have h2 := longN_used P h xs ys ra rb O ho
  have := f.len
  omega
theorem findP_nonneg {q : Ply} {l : List Ply} (hd : Dist l) (hq : q ∈ l) : ¬ findP q.2 l 0 < 0 := by
  obtain ⟨k, hk⟩ := List.getElem?_of_mem hq
  rw [findP_at l 0 k q hd hk]
  omega
theorem Fol.found {P : Nat} {c h s ra rb : Int} {xs ys O X Y : List Int} {j : Nat} {ts : List Stp} (f : Fol P c h s xs ys O j ts X Y) (ho : O ∈ ordersP ra rb) (kc : codeB (P : Int) c h s xs ys ra rb = 0) (hU : j = usedP P h xs ys ra rb)
    (hx : ¬ (usedP P h xs ys ra rb = 1 ∧ ra ≠ rb ∧ O ≠ [ra, rb] ∧ 0 < (legL P h xs ys ra).length)) :
    ∃ F1 F2 : Int, fpV (P : Int) c h s xs ys ra rb X Y = .tuple #[.int .i64 F1, .int .i64 F2] ∧ (F2 = 0 ∨ F2 = 3) := by
  have h1 := folN_used f.all
  have h2 := longN_used P h xs ys ra rb O ho
  have h3 := f.len
  obtain ⟨q, hq, hr⟩ := every_play (legalO_mem ho (by omega) hx) f.all (by omega)
  unfold fpV
  by_cases k0 : apC (P : Int) c h s xs ys ra rb = 0
  · have hok : allOk P h xs ys ra rb = true := by
      unfold apC at k0
      rw [if_pos kc] at k0
      by_cases e : allOk P h xs ys ra rb = true
      · exact e
      · rw [show ((P : Nat) : Int).toNat = P from rfl, if_neg e] at k0; cases k0
    have hL : apL (P : Int) c h s xs ys ra rb = allP P h xs ys ra rb := by
      unfold apL
      rw [if_pos kc, show ((P : Nat) : Int).toNat = P from rfl, if_pos hok]
    rw [if_pos k0, hL, ← hr, if_neg (findP_nonneg (allP_dist P h xs ys ra rb) hq)]
    exact ⟨_, _, rfl, .inl rfl⟩
  · rw [if_neg k0]
    refine ⟨_, _, rfl, .inr ?_⟩
    unfold apC at k0 ⊢
    rw [if_pos kc] at k0 ⊢
    by_cases e : allOk P h xs ys ra rb = true
    · rw [show ((P : Nat) : Int).toNat = P from rfl, if_pos e] at k0; exact absurd rfl k0
    · rw [show ((P : Nat) : Int).toNat = P from rfl, if_neg e]
theorem order_mem (ra rb r : Int) : (if ra = rb then [ra, ra, ra, ra] else if r = 0 then [rb, ra] else [ra, rb]) ∈ ordersP ra rb := by
  unfold ordersP
  split
  · simp
  · split <;> simp
theorem order_first {ra rb d : Int} {O : List Int} (ho : O ∈ ordersP ra rb) (hd : O[0]? = some d) (hne : ra ≠ rb) : O ≠ [ra, rb] → d ≠ ra := by
  intro h
  unfold ordersP at ho
  rw [if_neg hne] at ho
  simp only [List.mem_cons, List.not_mem_nil, or_false] at ho
  rcases ho with rfl | rfl
  · exact absurd rfl h
  · simp at hd
    rw [← hd]
    exact fun e => hne e.symm
theorem order_len {ra rb : Int} {O : List Int} (ho : O ∈ ordersP ra rb) : 2 ≤ O.length ∧ O.length ≤ 4 := by
  unfold ordersP at ho
  split at ho
  · simp only [List.mem_cons, List.not_mem_nil, or_false] at ho
    subst ho
    simp
  · simp only [List.mem_cons, List.not_mem_nil, or_false] at ho
    rcases ho with rfl | rfl <;> simp
theorem order_dice {ra rb s : Int} {O : List Int} (ho : O ∈ ordersP ra rb) (ga : inB ra 1 s = true) (gb : inB rb 1 s = true) : ∀ d ∈ O, inB d 1 s = true := by
  unfold ordersP at ho
  split at ho
  · simp only [List.mem_cons, List.not_mem_nil, or_false] at ho
    subst ho
    intro d hd
    simp only [List.mem_cons, List.not_mem_nil, or_false, or_self] at hd
    rw [hd]; exact ga
  · simp only [List.mem_cons, List.not_mem_nil, or_false] at ho
    rcases ho with rfl | rfl <;> (intro d hd; simp only [List.mem_cons, List.not_mem_nil, or_false] at hd; rcases hd with rfl | rfl <;> assumption)
theorem OBd.rows {lo hi : Nat} {w : World} {a1 a2 : Option Addr} {xs ys : List Int} (h : OBd lo hi w a1 a2 xs ys) (hx : xs ≠ []) : ∃ g1 g2, a1 = some ⟨g1, 0, none⟩ ∧ a2 = some ⟨g2, 0, none⟩ ∧ lo ≤ g1 ∧ lo ≤ g2 ∧ Row w g1 xs ∧ Row w g2 ys := by
  rcases h with ⟨-, -, e, -⟩ | ⟨g1, g2, e1, e2, -, l1, -, l2, -, r1, r2⟩
  · exact absurd e hx
  · exact ⟨g1, g2, e1, e2, l1, l2, r1, r2⟩
theorem grown_far {w w1 : World} {g g8 o : Nat} {v : Value} (h : w.grownBy w1 (some g)) (h8 : w.heap.size ≤ g8) : w.grownBy (w1.setCell ⟨g8, o, none⟩ v) (some g) := by
  have hb := Below.setCell (Below.refl g8 w1) (p := ⟨g8, o, none⟩) (Nat.le_refl _) v
  refine ⟨hb.os.trans h.os, hb.tape.trans h.tape, hb.output.trans h.output, Nat.le_trans h.size hb.size, fun i hi hr => ?_⟩
  rw [Below.heap_setCell w1 ⟨g8, o, none⟩ v i (fun e => by have : i = g8 := e; omega)]
  exact h.block i hi hr
end Go.Proofs.YtciljbnailobgaaGreat
namespace Go.Proofs.YtciljbnailobgaaGreat
open Go.ChangeShapes Go.WideShapes Go.ChangeAt Go.RowKit
set_option linter.unusedVariables false
set_option linter.unusedSimpArgs false
set_option maxRecDepth 4000
set_option maxRecDepth 8000 in
set_option maxHeartbeats 1000000 in
theorem below_det (B g : Nat) (a : Option Addr) (len cap i : Nat) (h n : Int) (w0 : World) (hB : B ≤ g) (hlen : len ≤ 1048576) (hn : 1 ≤ n) (hc : CodeIn B w0 a len) :
    ∃ (r : Int) (i2 : Nat) (h2 : Int), 0 ≤ r ∧ r < n ∧ ∀ w, Below B w0 w → Blk w g #[.slice a len cap, .int .i64 (i : Int), .int .u64 h] 75 →
      Calls Tryz.prog 14 #[.pointer (some ⟨g, 0, none⟩), .int .i64 n] w fun e w' => e = .returned (.int .i64 r) ∧ w.grownBy w' (some g) ∧ Blk w' g #[.slice a len cap, .int .i64 (i2 : Int), .int .u64 h2] 75 ∧ Below g w w' := by
  have hm := mask_in (IntKind.u64.wrap (IntKind.u64.wrap (h * 6364136223846793005) + 1442695040888963407)) (by rw [IntKind.wrap_u64]; omega) (by rw [IntKind.wrap_u64]; omega)
  obtain ⟨hh, hHH⟩ : ∃ y, IntKind.u64.wrap (IntKind.u64.wrap (h * 6364136223846793005) + 1442695040888963407) = y := ⟨_, rfl⟩
  rw [hHH] at hm
  obtain ⟨x, hX⟩ : ∃ y, wrap64 (bits BinOp.and IntKind.u64 (hh / 8589934592) 16777215) = y := ⟨_, rfl⟩
  rw [hX] at hm
  have HHH := Lib.hid hHH
  have HX := Lib.hid hX
  clear hHH hX
  by_cases hi : i < len
  · obtain ⟨b, oo, z, rfl, hbB, hz0, z0, z1⟩ := hc i hi
    have hi' : (i : Int) < (len : Int) := by omega
    have hi0 : (0 : Int) ≤ (i : Int) := by omega
    have hi6 : (i : Int) ≤ 1048576 := by omega
    refine ⟨(x + z) % n, i + 1, hh, Int.emod_nonneg _ (by omega), Int.emod_lt_of_pos _ (by omega), fun w hW hD => ?_⟩
    have M := hD.set (i := 2) (.int .u64 (IntKind.u64.wrap (IntKind.u64.wrap (h * 6364136223846793005) + 1442695040888963407)))
    simp only [List.setIfInBounds_toArray, List.set_cons_zero, List.set_cons_succ] at M
    obtain ⟨x0, x1, x2, xf, xl⟩ := hD.tri
    have hb := (Below.refl g w).setCell (p := ⟨g, 2, none⟩) (Nat.le_refl _) (.int .u64 (IntKind.u64.wrap (IntKind.u64.wrap (h * 6364136223846793005) + 1442695040888963407)))
    have hG : w.grownBy (w.setCell ⟨g, 2, none⟩ (.int .u64 (IntKind.u64.wrap (IntKind.u64.wrap (h * 6364136223846793005) + 1442695040888963407)))) (some g) := grown_set (grown_refl w _)
    have hz : (w.setCell ⟨g, 2, none⟩ (.int .u64 (IntKind.u64.wrap (IntKind.u64.wrap (h * 6364136223846793005) + 1442695040888963407)))).cell? ⟨b, oo + i, none⟩ = some (.int .u8 z) := ((hb.mono hB).cell (p := ⟨b, oo + i, none⟩) hbB).trans (((hW).cell (p := ⟨b, oo + i, none⟩) hbB).trans hz0)
    go_enter Tryz.func14, Tryz.ntmps14
    go_upto_region 3 with (fail)
    clear x0 x1 x2 xf xl hD
    simp only [HHH.out, HX.out] at M hb hG hz ⊢
    generalize (w.setCell ⟨g, 2, none⟩ (.int .u64 hh)) = w1 at *
    obtain ⟨x0, x1, x2, xf, xl⟩ := M.tri
    go_region
    all_goals go_wp2_with fail
    all_goals go_region
    all_goals go_wp2
    go_ret
    have M3 := M.set (i := 1) (.int .i64 ((i + 1 : Nat) : Int))
    simp only [List.setIfInBounds_toArray, List.set_cons_zero, List.set_cons_succ] at M3
    exact ⟨rfl, grown_drewN (grown_set hG) 2, (M3.drew).drew, (hb.setCell (p := ⟨g, 1, none⟩) (Nat.le_refl _) _).drew.drew⟩
  · have hi' : ¬ (i : Int) < (len : Int) := by omega
    refine ⟨x % n, i, hh, Int.emod_nonneg _ (by omega), Int.emod_lt_of_pos _ (by omega), fun w hW hD => ?_⟩
    have M := hD.set (i := 2) (.int .u64 (IntKind.u64.wrap (IntKind.u64.wrap (h * 6364136223846793005) + 1442695040888963407)))
    simp only [List.setIfInBounds_toArray, List.set_cons_zero, List.set_cons_succ] at M
    obtain ⟨x0, x1, x2, xf, xl⟩ := hD.tri
    have hb := (Below.refl g w).setCell (p := ⟨g, 2, none⟩) (Nat.le_refl _) (.int .u64 (IntKind.u64.wrap (IntKind.u64.wrap (h * 6364136223846793005) + 1442695040888963407)))
    have hG : w.grownBy (w.setCell ⟨g, 2, none⟩ (.int .u64 (IntKind.u64.wrap (IntKind.u64.wrap (h * 6364136223846793005) + 1442695040888963407)))) (some g) := grown_set (grown_refl w _)
    go_enter Tryz.func14, Tryz.ntmps14
    go_upto_region 3 with (fail)
    clear x0 x1 x2 xf xl hD
    simp only [HHH.out, HX.out] at M hb hG ⊢
    generalize (w.setCell ⟨g, 2, none⟩ (.int .u64 hh)) = w1 at *
    obtain ⟨x0, x1, x2, xf, xl⟩ := M.tri
    go_region
    all_goals go_wp2
    go_ret
    exact ⟨rfl, grown_drewN hG 1, M.drew, hb.drew⟩
end Go.Proofs.YtciljbnailobgaaGreat
