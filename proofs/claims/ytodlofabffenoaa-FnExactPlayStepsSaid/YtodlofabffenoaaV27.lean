/- The exact law of chapter 5 on the board behind steps holds: for every input the law returns true and its arguments read behind the call as they read before. No conditions. -/
import Derived.Test.YtodlofabffenoaaV25
import Derived.Test.YtodlofabffenoaaV26
import Derived.Test.YtodlofabffenoaaV04
import Derived.ChangeOld
namespace Go.Proofs.Ytodlofabffenoaa
open Go.ChangeMaps (open_string shut_string)
open Go.ChangeShapes Go.WideShapes Go.ChangeAt Go.RowKit
set_option linter.unusedVariables false
set_option linter.unusedSimpArgs false
set_option maxRecDepth 4000
theorem toRoll_br (a b : Int) (w : World) :
    Calls Try.prog 9 #[.agg #[.int .i64 a, .int .i64 b]] w fun e w' => e = .returned (.agg #[.int .i64 a, .int .i64 b]) ∧ Below w.heap.size w w' := by
  go_enter Try.func9, Try.ntmps9
  go_wp2
  refine bodyPost_ret (v := .agg #[.int .i64 a, .int .i64 b]) (by simp [results, Try.results9, go_sem]) rfl ⟨rfl, ?_⟩
  first
    | exact (((Below.refl _ _).alloc (Nat.le_refl _) _).alloc (by simp) _).alloc (by simp; omega) _
    | exact ((Below.refl _ _).alloc (Nat.le_refl _) _).alloc (by simp) _
theorem toStepS_o (a : Option Addr) (n cap : Nat) (l : List Stp) (w : World) (hn : l.length = n) (hle : n ≤ 1048576) (hr : SIn w a l) :
    Calls Try.prog 10 #[.slice a n cap] w fun e w' => ∃ g, e = .returned (.slice (some ⟨g, 0, none⟩) l.length l.length) ∧ OSt w.heap.size w'.heap.size w' (some ⟨g, 0, none⟩) l ∧ Below w.heap.size w w' := by
  refine (toStepS_any a n cap l w hn hle hr).mono ?_
  rintro e w' ⟨g, rfl, h1, h2, R, hb⟩
  exact ⟨g, rfl, .inr ⟨g, rfl, h1, h2, R⟩, hb⟩
theorem below2s {wS W : World} {B : Nat} {u0 u1 v0 v1 : Value} {t : TypeId} (_ : Blk W B #[u0, u1] t) (h : Below wS.heap.size wS W) (hB : wS.heap.size ≤ B) : Below wS.heap.size wS ((W.setCell ⟨B, 0, none⟩ v0).setCell ⟨B, 1, none⟩ v1) :=
  (h.setCell (p := ⟨B, 0, none⟩) hB _).setCell (p := ⟨B, 1, none⟩) hB _
theorem ost_row {lo hi : Nat} {w : World} {b : Option Addr} {l : List Stp} (q : OSt lo hi w b l) : 0 < l.length → ∃ gt, b = some ⟨gt, 0, none⟩ ∧ SRow w gt l := by
  rcases q with ⟨-, rfl⟩ | ⟨g, e, -, -, r⟩
  · intro h; simp at h
  · exact fun _ => ⟨g, e, r⟩
theorem folN_len (P : Nat) (h s : Int) : ∀ (o : List Int) (ts : List Stp) (b r : List Int × List Int), folN P h s o ts b = some r → r.1.length = b.1.length ∧ r.2.length = b.2.length
  | o, [], b, r, e => by
    have e' : some b = some r := by cases o <;> exact e
    cases e'
    exact ⟨rfl, rfl⟩
  | [], t :: ts, b, r, e => by simp [folN] at e
  | o :: os, t :: ts, b, r, e => by
    rw [folN] at e
    split at e
    · have q := folN_len P h s os ts _ r e
      rw [mvX_length, mvY_length] at q
      exact q
    · simp at e
theorem firstF_len (P : Nat) (h s : Int) (xs ys : List Int) (ts : List Stp) (r : List Int × List Int) : ∀ OS : List (List Int), firstF P h s xs ys ts OS = some r → r.1.length = xs.length ∧ r.2.length = ys.length
  | [], e => by simp [firstF] at e
  | o :: OS, e => by
    rw [firstF] at e
    split at e
    · rename_i r' hq
      cases e
      exact folN_len P h s o ts _ _ hq
    · exact firstF_len P h s xs ys ts r OS e
theorem fnExactPlaySteps_both (p c h s : Int) (xs ys : List Int) (ra rb : Int) (l : List Stp) (l1 : xs.length ≤ 1048576) (l2 : ys.length ≤ 1048576) (hle3 : l.length ≤ 1048576) : ∃ (X Y : List Int) (r : Int), X.length ≤ 1048576 ∧ Y.length ≤ 1048576 ∧ (∀ (a1 a2 : Option Addr) (n1 n2 c1 c2 lo hi : Nat) (b : Option Addr) (k : Nat) (w : World), xs.length = n1 → ys.length = n2 → n1 ≤ 1048576 → n2 ≤ 1048576 → IRow w a1 xs → IRow w a2 ys → OSt lo hi w b l → Calls Try.prog 6 #[.agg #[.int .i64 p, .int .i64 c, .int .i64 h, .int .i64 s], .agg #[.slice a1 n1 c1, .slice a2 n2 c2], .agg #[.int .i64 ra, .int .i64 rb], .slice b l.length k] w (BoardGotN X Y r w)) ∧ (∀ (a1 a2 : Option Addr) (n1 n2 c1 c2 lo hi : Nat) (b : Option Addr) (k : Nat) (w : World), xs.length = n1 → ys.length = n2 → n1 ≤ 1048576 → n2 ≤ 1048576 → IRow w a1 xs → IRow w a2 ys → OSt lo hi w b l → Calls Try.prog 11 #[.agg #[.int .i64 p, .int .i64 c, .int .i64 h, .int .i64 s], .agg #[.slice a1 n1 c1, .slice a2 n2 c2], .agg #[.int .i64 ra, .int .i64 rb], .slice b l.length k] w (BoardGotN X Y r w)) := by
  cases hr : psR p c h s xs ys ra rb l with
  | none =>
    refine ⟨[], [], psK p c h s xs ys ra rb, by simp, by simp, fun a1 a2 n1 n2 c1 c2 lo hi b k w h1 h2 q1 q2 r1 r2 q => (specPlaySteps_any p c h s a1 a2 n1 n2 c1 c2 xs ys ra rb b l.length k l w h1 h2 q1 q2 r1 r2 rfl hle3 (ost_row q)).mono ?_, fun a1 a2 n1 n2 c1 c2 lo hi b k w h1 h2 q1 q2 r1 r2 q => (implPlaySteps_any p c h s a1 a2 n1 n2 c1 c2 xs ys ra rb b l.length k l w h1 h2 q1 q2 r1 r2 rfl hle3 (ost_row q)).mono ?_⟩
    · exact fun e w' t => by
        rw [hr] at t
        obtain ⟨rfl, hb⟩ := t
        exact ⟨none, none, 0, 0, rfl, .inl ⟨rfl, rfl, rfl, rfl⟩, hb⟩
    · exact fun e w' t => by
        rw [hr] at t
        obtain ⟨rfl, hb⟩ := t
        exact ⟨none, none, 0, 0, rfl, .inl ⟨rfl, rfl, rfl, rfl⟩, hb⟩
  | some b0 =>
    have hl : b0.1.length = xs.length ∧ b0.2.length = ys.length := by
      unfold psR psO at hr
      split at hr
      · split at hr
        · exact firstF_len _ _ _ _ _ _ _ _ hr
        · cases hr
      · cases hr
    refine ⟨b0.1, b0.2, 0, by omega, by omega, fun a1 a2 n1 n2 c1 c2 lo hi b k w h1 h2 q1 q2 r1 r2 q => (specPlaySteps_any p c h s a1 a2 n1 n2 c1 c2 xs ys ra rb b l.length k l w h1 h2 q1 q2 r1 r2 rfl hle3 (ost_row q)).mono ?_, fun a1 a2 n1 n2 c1 c2 lo hi b k w h1 h2 q1 q2 r1 r2 q => (implPlaySteps_any p c h s a1 a2 n1 n2 c1 c2 xs ys ra rb b l.length k l w h1 h2 q1 q2 r1 r2 rfl hle3 (ost_row q)).mono ?_⟩
    · exact fun e w' t => by
        rw [hr] at t
        obtain ⟨g1, g2, k1, k2, rfl, e1, e2, hne, R1, R2, hb⟩ := t
        exact ⟨some ⟨g1, 0, none⟩, some ⟨g2, 0, none⟩, _, _, rfl, .inr ⟨g1, g2, rfl, rfl, hne, e1, R1.lt, e2, R2.lt, R1, R2⟩, hb⟩
    · exact fun e w' t => by
        rw [hr] at t
        obtain ⟨g1, g2, rfl, e1, e2, hne, R1, R2, hb⟩ := t
        exact ⟨some ⟨g1, 0, none⟩, some ⟨g2, 0, none⟩, _, _, rfl, .inr ⟨g1, g2, rfl, rfl, hne, e1, R1.lt, e2, R2.lt, R1, R2⟩, hb⟩
set_option maxRecDepth 8000 in
set_option maxHeartbeats 4000000 in
theorem fnExactPlaySteps_walk (p c h s : Int) (a1 a2 : Option Addr) (n1 n2 c1 c2 : Nat) (xs ys : List Int) (ra rb : Int) (sa : Option Addr) (n cap : Nat) (l : List Stp) (w : World) (h1 : xs.length = n1) (h2 : ys.length = n2) (m1 : n1 ≤ 9223372036854775807) (m2 : n2 ≤ 9223372036854775807) (r1 : IRow w a1 xs) (r2 : IRow w a2 ys)
    (hn : l.length = n) (hm : n ≤ 9223372036854775807) (hr : SIn w sa l) :
    Calls Try.prog 3 #[.agg #[.int .i64 p, .int .i64 c, .int .i64 h, .int .i64 s], .agg #[.slice a1 n1 c1, .slice a2 n2 c2], .agg #[.int .i64 ra, .int .i64 rb], .slice sa n cap] w fun e w' => e = .returned (.bool true) ∧ Below w.heap.size w w' := by
  subst hn
  obtain ⟨BV, BB, BS, hb, hz⟩ := three_new w #[.int .i64 p, .int .i64 c, .int .i64 h, .int .i64 s] #[.slice a1 n1 c1, .slice a2 n2 c2] #[.int .i64 ra, .int .i64 rb] 23 26 28
  have hz0 : w.heap.size + 1 + 1 < (((w.alloc (.cells #[.int .i64 p, .int .i64 c, .int .i64 h, .int .i64 s] 23)).alloc (.cells #[.slice a1 n1 c1, .slice a2 n2 c2] 26)).alloc (.cells #[.int .i64 ra, .int .i64 rb] 28)).heap.size := by rw [hz]; omega
  clear hz
  have hsz := fun w => szBoard_any a1 a2 n1 n2 c1 c2 1048576 w (by omega) (by omega) m1 m2
  obtain ⟨y0, y1, yf, yl⟩ := BB.two
  by_cases hneg : szAfter 1048576 n1 n2 = -1
  · rw [hneg] at hsz
    have HZ := Lib.hid hsz
    clear hsz hneg
    go_enter Try.func3, Try.ntmps3
    go_wp2_with fail
    generalize (((w.alloc (.cells #[.int .i64 p, .int .i64 c, .int .i64 h, .int .i64 s] 23)).alloc (.cells #[.slice a1 n1 c1, .slice a2 n2 c2] 26)).alloc (.cells #[.int .i64 ra, .int .i64 rb] 28)) = v0 at *
    refine (HZ.out _).mono ?_
    rintro e w1 ⟨rfl, hb1⟩
    go_wp2
    go_ret
    exact ⟨rfl, hb.trans (hb1.mono (by omega))⟩
  · have hle : (n1 : Int) + n2 ≤ 1048576 := by
      unfold szAfter at hneg
      split at hneg
      · exact absurd rfl hneg
      · split at hneg
        · exact absurd rfl hneg
        · omega
    obtain ⟨z, hzz⟩ : ∃ z, szAfter 1048576 n1 n2 = z := ⟨_, rfl⟩
    have hzv : z = 1048576 - n1 - n2 := by
      rw [← hzz]
      unfold szAfter
      rw [if_neg (by omega), if_neg (by omega)]
    have hzp : 0 ≤ z := by omega
    have hzl : z ≤ 1048576 := by omega
    rw [hzz] at hsz
    have HZ := Lib.hid hsz
    clear hsz hneg hzz hzv
    have hsd := fun W => szStepS_any sa l.length cap z W hzp (by omega) hm
    by_cases hneg2 : z - (l.length : Int) < 0
    · rw [if_pos hneg2] at hsd
      have HZ2 := Lib.hid hsd
      clear hsd hneg2
      go_enter Try.func3, Try.ntmps3
      go_wp2_with fail
      clear y0 y1 yf yl
      generalize (((w.alloc (.cells #[.int .i64 p, .int .i64 c, .int .i64 h, .int .i64 s] 23)).alloc (.cells #[.slice a1 n1 c1, .slice a2 n2 c2] 26)).alloc (.cells #[.int .i64 ra, .int .i64 rb] 28)) = v0 at *
      refine (HZ.out _).mono ?_
      rintro e w1 ⟨rfl, hb1⟩
      go_wp2_with fail
      refine (HZ2.out _).mono ?_
      rintro e w2 ⟨rfl, rfl⟩
      go_wp2
      go_ret
      exact ⟨rfl, hb.trans (hb1.mono (by omega))⟩
    · rw [if_neg hneg2] at hsd
      have hle3 : l.length ≤ 1048576 := by omega
      obtain ⟨z2, hzz2⟩ : ∃ z2, z - (l.length : Int) = z2 := ⟨_, rfl⟩
      have hzp2 : 0 ≤ z2 := by omega
      rw [hzz2] at hsd
      have HZ2 := Lib.hid hsd
      clear hsd hneg2 hzz2
      have l1 : n1 ≤ 1048576 := by omega
      have l2 : n2 ≤ 1048576 := by omega
      subst h1 h2
      obtain ⟨X, Y, r, lX, lY, hsp, him⟩ := fnExactPlaySteps_both p c h s xs ys ra rb l l1 l2 hle3
      have HSP := Lib.hid hsp
      have HIM := Lib.hid him
      clear hsp him
      go_enter Try.func3, Try.ntmps3
      go_wp2_with fail
      clear y0 y1 yf yl
      generalize (((w.alloc (.cells #[.int .i64 p, .int .i64 c, .int .i64 h, .int .i64 s] 23)).alloc (.cells #[.slice a1 xs.length c1, .slice a2 ys.length c2] 26)).alloc (.cells #[.int .i64 ra, .int .i64 rb] 28)) = v0 at *
      refine (HZ.out _).mono ?_
      rintro e w0 ⟨rfl, hb1⟩
      go_wp2_with fail
      refine (HZ2.out _).mono ?_
      rintro e wz ⟨rfl, rfl⟩
      replace BV := BV.below hb1
      replace BB := BB.below hb1
      replace BS := BS.below hb1
      have hlt0 : w.heap.size + 1 + 1 < w0.heap.size := BS.lt
      replace hb := hb.trans (hb1.mono (by omega))
      clear hb1 hz0 HZ HZ2
      obtain ⟨q0_BV, q1_BV, q2_BV, q3_BV, qf_BV, ql_BV⟩ := BV.four
      obtain ⟨q0_BB, q1_BB, qf_BB, ql_BB⟩ := BB.two
      obtain ⟨q0_BS, q1_BS, qf_BS, ql_BS⟩ := BS.two
      go_wp2_with fail
      clear q0_BV q1_BV q2_BV q3_BV qf_BV ql_BV
      clear q0_BB q1_BB qf_BB ql_BB
      clear q0_BS q1_BS qf_BS ql_BS
      obtain ⟨J, hJ⟩ : ∃ J : Act → Act → World → Prop, J = fun a a' w' => ∃ B d1 d2 k1 k2 lo hi g1 g2 gs, a' = ((((((((((((((a.put (some 32) (.agg #[.int .i64 p, .int .i64 c, .int .i64 h, .int .i64 s])).put (some 33) (.agg #[.int .i64 p, .int .i64 c, .int .i64 h, .int .i64 s])).put (some 34) (.agg #[.slice a1 xs.length c1, .slice a2 ys.length c2])).put (some 35) (.agg #[.slice (some ⟨g1, 0, none⟩) xs.length xs.length, .slice (some ⟨g2, 0, none⟩) ys.length ys.length])).put (some 36) (.agg #[.int .i64 ra, .int .i64 rb])).put (some 37) (.agg #[.int .i64 ra, .int .i64 rb])).put (some 38) (.slice sa l.length cap)).put (some 39) (.slice (some ⟨gs, 0, none⟩) l.length l.length)).put (some 40) (.tuple #[.agg #[.slice d1 X.length k1, .slice d2 Y.length k2], .int .i64 r])).put (some 31) (.tuple #[.agg #[.slice d1 X.length k1, .slice d2 Y.length k2], .int .i64 r])).put (some 41) (.agg #[.slice d1 X.length k1, .slice d2 Y.length k2])).put (some 42) (.int .i64 r)).put (some 11) (.int .i64 r)).put (some 10) (.pointer (some ⟨B, 0, none⟩))) ∧ VarB w0.heap.size w' B d1 d2 X.length Y.length k1 k2 lo hi X Y ∧ Below w0.heap.size w0 w' := ⟨_, rfl⟩
      have HJ := Lib.hid hJ
      clear hJ
      refine wp_region_join J ?_ ?_
      · skip
        refine wp_region_held_drew (S := fun w' => w'.cell? ⟨w.heap.size, 0, none⟩ = some (.int .i64 p) ∧ w'.cell? ⟨w.heap.size, 1, none⟩ = some (.int .i64 c) ∧ w'.cell? ⟨w.heap.size, 2, none⟩ = some (.int .i64 h) ∧ w'.cell? ⟨w.heap.size, 3, none⟩ = some (.int .i64 s) ∧ w'.cell? ⟨(w.heap.size + 1), 0, none⟩ = some (.slice a1 xs.length c1) ∧ w'.cell? ⟨(w.heap.size + 1), 1, none⟩ = some (.slice a2 ys.length c2) ∧ w'.cell? ⟨(w.heap.size + 1 + 1), 0, none⟩ = some (.int .i64 ra) ∧ w'.cell? ⟨(w.heap.size + 1 + 1), 1, none⟩ = some (.int .i64 rb)) (by kernel_rfl) ⟨(BV.below (Below.refl _ _).drew).four.1, (BV.below (Below.refl _ _).drew).four.2.1, (BV.below (Below.refl _ _).drew).four.2.2.1, (BV.below (Below.refl _ _).drew).four.2.2.2.1, (BB.below (Below.refl _ _).drew).two.1, (BB.below (Below.refl _ _).drew).two.2.1, (BS.below (Below.refl _ _).drew).two.1, (BS.below (Below.refl _ _).drew).two.2.1⟩ (fun hHeld => ?_)
        clear hHeld
        have hbS : Below w0.heap.size w0 w0.drew := (Below.refl _ _).drew
        have hzd := hbS.size
        generalize w0.drew = vd at *
        have hHeld := (show vd.cell? ⟨w.heap.size, 0, none⟩ = some (.int .i64 p) ∧ vd.cell? ⟨w.heap.size, 1, none⟩ = some (.int .i64 c) ∧ vd.cell? ⟨w.heap.size, 2, none⟩ = some (.int .i64 h) ∧ vd.cell? ⟨w.heap.size, 3, none⟩ = some (.int .i64 s) ∧ vd.cell? ⟨(w.heap.size + 1), 0, none⟩ = some (.slice a1 xs.length c1) ∧ vd.cell? ⟨(w.heap.size + 1), 1, none⟩ = some (.slice a2 ys.length c2) ∧ vd.cell? ⟨(w.heap.size + 1 + 1), 0, none⟩ = some (.int .i64 ra) ∧ vd.cell? ⟨(w.heap.size + 1 + 1), 1, none⟩ = some (.int .i64 rb) from ⟨(BV.below hbS).four.1, (BV.below hbS).four.2.1, (BV.below hbS).four.2.2.1, (BV.below hbS).four.2.2.2.1, (BB.below hbS).two.1, (BB.below hbS).two.2.1, (BS.below hbS).two.1, (BS.below hbS).two.2.1⟩)
        refine wpAnyH_take (i := 0) (oi := ⟨some 32, _, _, _, _, _⟩) (v := ?_) rfl (by kernel_rfl) (by kernel_rfl) (by kernel_rfl) (fun _ _ _ h => absurd h.1 (by simp)) (Or.inl ⟨by rfl, ?_⟩) (by assumption) ?_
        rotate_left
        · intro w hSw; (try dsimp only at hSw); go_simp; (try (with_reducible rfl))
        try simp only [Act.put, List.setIfInBounds_toArray, List.set_cons_zero, List.set_cons_succ]
        refine wpAnyH_take (i := 2) (oi := ⟨some 34, _, _, _, _, _⟩) (v := ?_) rfl (by kernel_rfl) (by kernel_rfl) (by kernel_rfl) (fun _ _ _ h => absurd h.1 (by simp)) (Or.inl ⟨by rfl, ?_⟩) (by assumption) ?_
        rotate_left
        · intro w hSw; (try dsimp only at hSw); go_simp; (try (with_reducible rfl))
        try simp only [Act.put, List.setIfInBounds_toArray, List.set_cons_zero, List.set_cons_succ]
        refine wpAnyH_take (i := 4) (oi := ⟨some 36, _, _, _, _, _⟩) (v := ?_) rfl (by kernel_rfl) (by kernel_rfl) (by kernel_rfl) (fun _ _ _ h => absurd h.1 (by simp)) (Or.inl ⟨by rfl, ?_⟩) (by assumption) ?_
        rotate_left
        · intro w hSw; (try dsimp only at hSw); go_simp; (try (with_reducible rfl))
        try simp only [Act.put, List.setIfInBounds_toArray, List.set_cons_zero, List.set_cons_succ]
        refine wpAnyH_take (i := 6) (oi := ⟨some 38, _, _, _, _, _⟩) (v := ?_) rfl (by kernel_rfl) (by kernel_rfl) (by kernel_rfl) (fun _ _ _ h => absurd h.1 (by simp)) (Or.inl ⟨by rfl, ?_⟩) (by assumption) ?_
        rotate_left
        · intro w hSw; (try dsimp only at hSw); go_simp; (try (with_reducible rfl))
        try simp only [Act.put, List.setIfInBounds_toArray, List.set_cons_zero, List.set_cons_succ]
        refine wpAnyH_ready (rs := [1, 12]) (by kernel_rfl) (by simp) ?_
        refine AllReadyH.cons (o := ⟨some 33, _, _, _, _, _⟩) rfl (fun K hK => ?_) (AllReadyH.cons (o := ⟨some 10, _, _, _, _, _⟩) rfl (fun K hK => ?_) AllReadyH.nil)
        · go_simp
          refine (toVariant_any _ _ _ _ _).mono ?_
          rintro e wt0 ⟨rfl, hbt0⟩
          have hz_hbt0 := hbt0.size
          replace hbS := chain hbS hbt0
          clear hbt0
          (try go_wp2_with fail)
          refine hK.out _ _ ⟨(BV.below hbS).four.1, (BV.below hbS).four.2.1, (BV.below hbS).four.2.2.1, (BV.below hbS).four.2.2.2.1, (BB.below hbS).two.1, (BB.below hbS).two.2.1, (BS.below hbS).two.1, (BS.below hbS).two.2.1⟩ (fun hHeld => ?_)
          clear hK K
          try simp only [Act.put, List.setIfInBounds_toArray, List.set_cons_zero, List.set_cons_succ]
          refine wpAnyH_ready (rs := [3, 12]) (by kernel_rfl) (by simp) ?_
          refine AllReadyH.cons (o := ⟨some 35, _, _, _, _, _⟩) rfl (fun K hK => ?_) (AllReadyH.cons (o := ⟨some 10, _, _, _, _, _⟩) rfl (fun K hK => ?_) AllReadyH.nil)
          · go_simp
            refine (toBoard_any a1 a2 _ _ c1 c2 xs ys _ rfl rfl l1 l2 (r1.below (chain hb hbS)) (r2.below (chain hb hbS))).mono ?_
            rintro e wt1 ⟨g1, g2, rfl, gg1, gg2, R1, R2, hbt1⟩
            have hz_hbt1 := hbt1.size
            replace hbS := chain hbS hbt1
            clear hbt1
            (try go_wp2_with fail)
            refine hK.out _ _ ⟨(BV.below hbS).four.1, (BV.below hbS).four.2.1, (BV.below hbS).four.2.2.1, (BV.below hbS).four.2.2.2.1, (BB.below hbS).two.1, (BB.below hbS).two.2.1, (BS.below hbS).two.1, (BS.below hbS).two.2.1⟩ (fun hHeld => ?_)
            clear hK K
            try simp only [Act.put, List.setIfInBounds_toArray, List.set_cons_zero, List.set_cons_succ]
            refine wpAnyH_ready (rs := [5, 12]) (by kernel_rfl) (by simp) ?_
            refine AllReadyH.cons (o := ⟨some 37, _, _, _, _, _⟩) rfl (fun K hK => ?_) (AllReadyH.cons (o := ⟨some 10, _, _, _, _, _⟩) rfl (fun K hK => ?_) AllReadyH.nil)
            · go_simp
              refine (toRoll_br ra rb _).mono ?_
              rintro e wt2 ⟨rfl, hbt2⟩
              replace R1 := R1.below hbt2
              replace R2 := R2.below hbt2
              have hz_hbt2 := hbt2.size
              replace hbS := chain hbS hbt2
              clear hbt2
              (try go_wp2_with fail)
              refine hK.out _ _ ⟨(BV.below hbS).four.1, (BV.below hbS).four.2.1, (BV.below hbS).four.2.2.1, (BV.below hbS).four.2.2.2.1, (BB.below hbS).two.1, (BB.below hbS).two.2.1, (BS.below hbS).two.1, (BS.below hbS).two.2.1⟩ (fun hHeld => ?_)
              clear hK K
              try simp only [Act.put, List.setIfInBounds_toArray, List.set_cons_zero, List.set_cons_succ]
              refine wpAnyH_ready (rs := [7, 12]) (by kernel_rfl) (by simp) ?_
              refine AllReadyH.cons (o := ⟨some 39, _, _, _, _, _⟩) rfl (fun K hK => ?_) (AllReadyH.cons (o := ⟨some 10, _, _, _, _, _⟩) rfl (fun K hK => ?_) AllReadyH.nil)
              · go_simp
                refine (toStepS_o sa _ cap l _ rfl hle3 (hr.below (chain hb hbS))).mono ?_
                rintro e wt3 ⟨gs, rfl, OS_, hbt3⟩
                replace R1 := R1.below hbt3
                replace R2 := R2.below hbt3
                have hz_hbt3 := hbt3.size
                replace hbS := chain hbS hbt3
                clear hbt3
                (try go_wp2_with fail)
                refine hK.out _ _ ⟨(BV.below hbS).four.1, (BV.below hbS).four.2.1, (BV.below hbS).four.2.2.1, (BV.below hbS).four.2.2.2.1, (BB.below hbS).two.1, (BB.below hbS).two.2.1, (BS.below hbS).two.1, (BS.below hbS).two.2.1⟩ (fun hHeld => ?_)
                clear hK K
                try simp only [Act.put, List.setIfInBounds_toArray, List.set_cons_zero, List.set_cons_succ]
                refine wpAnyH_ready (rs := [8, 12]) (by kernel_rfl) (by simp) ?_
                refine AllReadyH.cons (o := ⟨some 40, _, _, _, _, _⟩) rfl (fun K hK => ?_) (AllReadyH.cons (o := ⟨some 10, _, _, _, _, _⟩) rfl (fun K hK => ?_) AllReadyH.nil)
                · go_simp
                  refine (HSP.out _ _ _ _ _ _ _ _ _ _ _ rfl rfl l1 l2 R1.irow R2.irow OS_).mono ?_
                  rintro e wt4 ⟨d1, d2, k1, k2, rfl, hO, hbt4⟩
                  replace R1 := R1.below hbt4
                  replace R2 := R2.below hbt4
                  replace OS_ := OS_.below hbt4
                  have hz_hbt4 := hbt4.size
                  replace hbS := chain hbS hbt4
                  clear hbt4
                  (try go_wp2_with fail)
                  refine hK.out _ _ ⟨(BV.below hbS).four.1, (BV.below hbS).four.2.1, (BV.below hbS).four.2.2.1, (BV.below hbS).four.2.2.2.1, (BB.below hbS).two.1, (BB.below hbS).two.2.1, (BS.below hbS).two.1, (BS.below hbS).two.2.1⟩ (fun hHeld => ?_)
                  clear hK K
                  try simp only [Act.put, List.setIfInBounds_toArray, List.set_cons_zero, List.set_cons_succ]
                  refine wpAnyH_take (i := 9) (oi := ⟨some 31, _, _, _, _, _⟩) (v := ?_) rfl (by kernel_rfl) (by kernel_rfl) (by kernel_rfl) (fun _ _ _ h => absurd h.1 (by simp)) (Or.inl ⟨by rfl, ?_⟩) (by assumption) ?_
                  rotate_left
                  · intro w hSw; (try dsimp only at hSw); go_simp; (try (with_reducible rfl))
                  try simp only [Act.put, List.setIfInBounds_toArray, List.set_cons_zero, List.set_cons_succ]
                  refine wpAnyH_take (i := 10) (oi := ⟨some 41, _, _, _, _, _⟩) (v := ?_) rfl (by kernel_rfl) (by kernel_rfl) (by kernel_rfl) (fun _ _ _ h => absurd h.1 (by simp)) (Or.inl ⟨by rfl, ?_⟩) (by assumption) ?_
                  rotate_left
                  · intro w hSw; (try dsimp only at hSw); go_simp; (try (with_reducible rfl))
                  try simp only [Act.put, List.setIfInBounds_toArray, List.set_cons_zero, List.set_cons_succ]
                  refine wpAnyH_take (i := 11) (oi := ⟨some 42, _, _, _, _, _⟩) (v := ?_) rfl (by kernel_rfl) (by kernel_rfl) (by kernel_rfl) (fun _ _ _ h => absurd h.1 (by simp)) (Or.inl ⟨by rfl, ?_⟩) (by assumption) ?_
                  rotate_left
                  · intro w hSw; (try dsimp only at hSw); go_simp; (try (with_reducible rfl))
                  try simp only [Act.put, List.setIfInBounds_toArray, List.set_cons_zero, List.set_cons_succ]
                  refine wpAnyH_ready (rs := [12]) (by kernel_rfl) (by simp) ?_
                  refine AllReadyH.cons (o := ⟨some 10, _, _, _, _, _⟩) rfl (fun K hK => ?_) AllReadyH.nil
                  go_simp
                  refine hK.out _ _ ⟨(BV.below (hbS.alloc hbS.size _)).four.1, (BV.below (hbS.alloc hbS.size _)).four.2.1, (BV.below (hbS.alloc hbS.size _)).four.2.2.1, (BV.below (hbS.alloc hbS.size _)).four.2.2.2.1, (BB.below (hbS.alloc hbS.size _)).two.1, (BB.below (hbS.alloc hbS.size _)).two.2.1, (BS.below (hbS.alloc hbS.size _)).two.1, (BS.below (hbS.alloc hbS.size _)).two.2.1⟩ (fun hHeld => ?_)
                  clear hK K
                  try simp only [Act.put, List.setIfInBounds_toArray, List.set_cons_zero, List.set_cons_succ]
                  have BA := Blk.new wt4 #[.slice none 0 0, .slice none 0 0] 32
                  have hal : Below wt4.heap.size wt4 (wt4.alloc (.cells #[.slice none 0 0, .slice none 0 0] 32)) := (Below.refl _ _).alloc (Nat.le_refl _) _
                  have hlN : wt4.heap.size + 1 ≤ (wt4.alloc (.cells #[.slice none 0 0, .slice none 0 0] 32)).heap.size ∧ (wt4.alloc (.cells #[.slice none 0 0, .slice none 0 0] 32)).heap.size ≤ wt4.heap.size + 1 := by simp
                  have hzS := hbS.size
                  replace R1 := R1.below hal
                  replace R2 := R2.below hal
                  replace OS_ := OS_.below hal
                  replace hO := hO.below hal
                  replace hbS := chain hbS hal
                  clear hal
                  generalize wt4.alloc (.cells #[.slice none 0 0, .slice none 0 0] 32) = wN at *
                  refine wpAnyH_ready (rs := [13]) (by kernel_rfl) (by simp) ?_
                  refine AllReadyH.cons (o := ⟨none, _, _, _, _, _⟩) rfl (fun K hK => ?_) AllReadyH.nil
                  have q0 := BA.two.1
                  have q1 := BA.two.2.1
                  have qf := BA.two.2.2.1
                  have ql := BA.two.2.2.2
                  go_simp
                  (try go_wp2_with fail)
                  refine hK.out _ _ ⟨(BV.below (below2s BA hbS (by omega))).four.1, (BV.below (below2s BA hbS (by omega))).four.2.1, (BV.below (below2s BA hbS (by omega))).four.2.2.1, (BV.below (below2s BA hbS (by omega))).four.2.2.2.1, (BB.below (below2s BA hbS (by omega))).two.1, (BB.below (below2s BA hbS (by omega))).two.2.1, (BS.below (below2s BA hbS (by omega))).two.1, (BS.below (below2s BA hbS (by omega))).two.2.1⟩ (fun hHeld => ?_)
                  clear hK K
                  try simp only [Act.put, List.setIfInBounds_toArray, List.set_cons_zero, List.set_cons_succ]
                  refine wpAnyH_take (i := 14) (oi := ⟨some 11, _, _, _, _, _⟩) (v := ?_) rfl (by kernel_rfl) (by kernel_rfl) (by kernel_rfl) (fun _ _ _ h => absurd h.1 (by simp)) (Or.inl ⟨by rfl, ?_⟩) (by assumption) ?_
                  rotate_left
                  · intro w hSw; (try dsimp only at hSw); go_simp; (try (with_reducible rfl))
                  try simp only [Act.put, List.setIfInBounds_toArray, List.set_cons_zero, List.set_cons_succ]
                  refine wpAnyH_done (by kernel_rfl) ?_ _
                  rw [HJ.out]
                  refine ⟨rfl, _, d1, d2, k1, k2, _, _, g1, g2, gs, ?_, VarB.stored BA hO ?_ ?_ ?_ ?_, below2s BA hbS (by omega)⟩
                  · simp only [Act.put, List.setIfInBounds_toArray, List.set_cons_zero, List.set_cons_succ]
                  all_goals (first | omega | (simp; omega))
                · go_simp
                  refine hK.out _ _ ⟨(BV.below (hbS.alloc hbS.size _)).four.1, (BV.below (hbS.alloc hbS.size _)).four.2.1, (BV.below (hbS.alloc hbS.size _)).four.2.2.1, (BV.below (hbS.alloc hbS.size _)).four.2.2.2.1, (BB.below (hbS.alloc hbS.size _)).two.1, (BB.below (hbS.alloc hbS.size _)).two.2.1, (BS.below (hbS.alloc hbS.size _)).two.1, (BS.below (hbS.alloc hbS.size _)).two.2.1⟩ (fun hHeld => ?_)
                  clear hK K
                  try simp only [Act.put, List.setIfInBounds_toArray, List.set_cons_zero, List.set_cons_succ]
                  have BA := Blk.new wt3 #[.slice none 0 0, .slice none 0 0] 32
                  have hal : Below wt3.heap.size wt3 (wt3.alloc (.cells #[.slice none 0 0, .slice none 0 0] 32)) := (Below.refl _ _).alloc (Nat.le_refl _) _
                  have hlN : wt3.heap.size + 1 ≤ (wt3.alloc (.cells #[.slice none 0 0, .slice none 0 0] 32)).heap.size ∧ (wt3.alloc (.cells #[.slice none 0 0, .slice none 0 0] 32)).heap.size ≤ wt3.heap.size + 1 := by simp
                  have hzS := hbS.size
                  replace R1 := R1.below hal
                  replace R2 := R2.below hal
                  replace OS_ := OS_.below hal
                  replace hbS := chain hbS hal
                  clear hal
                  generalize wt3.alloc (.cells #[.slice none 0 0, .slice none 0 0] 32) = wN at *
                  refine wpAnyH_ready (rs := [8]) (by kernel_rfl) (by simp) ?_
                  refine AllReadyH.cons (o := ⟨some 40, _, _, _, _, _⟩) rfl (fun K hK => ?_) AllReadyH.nil
                  go_simp
                  refine (HSP.out _ _ _ _ _ _ _ _ _ _ _ rfl rfl l1 l2 R1.irow R2.irow OS_).mono ?_
                  rintro e wt4 ⟨d1, d2, k1, k2, rfl, hO, hbt4⟩
                  replace R1 := R1.below hbt4
                  replace R2 := R2.below hbt4
                  replace OS_ := OS_.below hbt4
                  replace BA := BA.below hbt4
                  have hz_hbt4 := hbt4.size
                  replace hbS := chain hbS hbt4
                  clear hbt4
                  (try go_wp2_with fail)
                  refine hK.out _ _ ⟨(BV.below hbS).four.1, (BV.below hbS).four.2.1, (BV.below hbS).four.2.2.1, (BV.below hbS).four.2.2.2.1, (BB.below hbS).two.1, (BB.below hbS).two.2.1, (BS.below hbS).two.1, (BS.below hbS).two.2.1⟩ (fun hHeld => ?_)
                  clear hK K
                  try simp only [Act.put, List.setIfInBounds_toArray, List.set_cons_zero, List.set_cons_succ]
                  refine wpAnyH_take (i := 9) (oi := ⟨some 31, _, _, _, _, _⟩) (v := ?_) rfl (by kernel_rfl) (by kernel_rfl) (by kernel_rfl) (fun _ _ _ h => absurd h.1 (by simp)) (Or.inl ⟨by rfl, ?_⟩) (by assumption) ?_
                  rotate_left
                  · intro w hSw; (try dsimp only at hSw); go_simp; (try (with_reducible rfl))
                  try simp only [Act.put, List.setIfInBounds_toArray, List.set_cons_zero, List.set_cons_succ]
                  refine wpAnyH_take (i := 10) (oi := ⟨some 41, _, _, _, _, _⟩) (v := ?_) rfl (by kernel_rfl) (by kernel_rfl) (by kernel_rfl) (fun _ _ _ h => absurd h.1 (by simp)) (Or.inl ⟨by rfl, ?_⟩) (by assumption) ?_
                  rotate_left
                  · intro w hSw; (try dsimp only at hSw); go_simp; (try (with_reducible rfl))
                  try simp only [Act.put, List.setIfInBounds_toArray, List.set_cons_zero, List.set_cons_succ]
                  refine wpAnyH_take (i := 11) (oi := ⟨some 42, _, _, _, _, _⟩) (v := ?_) rfl (by kernel_rfl) (by kernel_rfl) (by kernel_rfl) (fun _ _ _ h => absurd h.1 (by simp)) (Or.inl ⟨by rfl, ?_⟩) (by assumption) ?_
                  rotate_left
                  · intro w hSw; (try dsimp only at hSw); go_simp; (try (with_reducible rfl))
                  try simp only [Act.put, List.setIfInBounds_toArray, List.set_cons_zero, List.set_cons_succ]
                  refine wpAnyH_ready (rs := [13]) (by kernel_rfl) (by simp) ?_
                  refine AllReadyH.cons (o := ⟨none, _, _, _, _, _⟩) rfl (fun K hK => ?_) AllReadyH.nil
                  have q0 := BA.two.1
                  have q1 := BA.two.2.1
                  have qf := BA.two.2.2.1
                  have ql := BA.two.2.2.2
                  go_simp
                  (try go_wp2_with fail)
                  refine hK.out _ _ ⟨(BV.below (below2s BA hbS (by omega))).four.1, (BV.below (below2s BA hbS (by omega))).four.2.1, (BV.below (below2s BA hbS (by omega))).four.2.2.1, (BV.below (below2s BA hbS (by omega))).four.2.2.2.1, (BB.below (below2s BA hbS (by omega))).two.1, (BB.below (below2s BA hbS (by omega))).two.2.1, (BS.below (below2s BA hbS (by omega))).two.1, (BS.below (below2s BA hbS (by omega))).two.2.1⟩ (fun hHeld => ?_)
                  clear hK K
                  try simp only [Act.put, List.setIfInBounds_toArray, List.set_cons_zero, List.set_cons_succ]
                  refine wpAnyH_take (i := 14) (oi := ⟨some 11, _, _, _, _, _⟩) (v := ?_) rfl (by kernel_rfl) (by kernel_rfl) (by kernel_rfl) (fun _ _ _ h => absurd h.1 (by simp)) (Or.inl ⟨by rfl, ?_⟩) (by assumption) ?_
                  rotate_left
                  · intro w hSw; (try dsimp only at hSw); go_simp; (try (with_reducible rfl))
                  try simp only [Act.put, List.setIfInBounds_toArray, List.set_cons_zero, List.set_cons_succ]
                  refine wpAnyH_done (by kernel_rfl) ?_ _
                  rw [HJ.out]
                  refine ⟨rfl, _, d1, d2, k1, k2, _, _, g1, g2, gs, ?_, VarB.stored BA hO ?_ ?_ ?_ ?_, below2s BA hbS (by omega)⟩
                  · simp only [Act.put, List.setIfInBounds_toArray, List.set_cons_zero, List.set_cons_succ]
                  all_goals (first | omega | (simp; omega))
              · go_simp
                refine hK.out _ _ ⟨(BV.below (hbS.alloc hbS.size _)).four.1, (BV.below (hbS.alloc hbS.size _)).four.2.1, (BV.below (hbS.alloc hbS.size _)).four.2.2.1, (BV.below (hbS.alloc hbS.size _)).four.2.2.2.1, (BB.below (hbS.alloc hbS.size _)).two.1, (BB.below (hbS.alloc hbS.size _)).two.2.1, (BS.below (hbS.alloc hbS.size _)).two.1, (BS.below (hbS.alloc hbS.size _)).two.2.1⟩ (fun hHeld => ?_)
                clear hK K
                try simp only [Act.put, List.setIfInBounds_toArray, List.set_cons_zero, List.set_cons_succ]
                have BA := Blk.new wt2 #[.slice none 0 0, .slice none 0 0] 32
                have hal : Below wt2.heap.size wt2 (wt2.alloc (.cells #[.slice none 0 0, .slice none 0 0] 32)) := (Below.refl _ _).alloc (Nat.le_refl _) _
                have hlN : wt2.heap.size + 1 ≤ (wt2.alloc (.cells #[.slice none 0 0, .slice none 0 0] 32)).heap.size ∧ (wt2.alloc (.cells #[.slice none 0 0, .slice none 0 0] 32)).heap.size ≤ wt2.heap.size + 1 := by simp
                have hzS := hbS.size
                replace R1 := R1.below hal
                replace R2 := R2.below hal
                replace hbS := chain hbS hal
                clear hal
                generalize wt2.alloc (.cells #[.slice none 0 0, .slice none 0 0] 32) = wN at *
                refine wpAnyH_ready (rs := [7]) (by kernel_rfl) (by simp) ?_
                refine AllReadyH.cons (o := ⟨some 39, _, _, _, _, _⟩) rfl (fun K hK => ?_) AllReadyH.nil
                go_simp
                refine (toStepS_o sa _ cap l _ rfl hle3 (hr.below (chain hb hbS))).mono ?_
                rintro e wt3 ⟨gs, rfl, OS_, hbt3⟩
                replace R1 := R1.below hbt3
                replace R2 := R2.below hbt3
                replace BA := BA.below hbt3
                have hz_hbt3 := hbt3.size
                replace hbS := chain hbS hbt3
                clear hbt3
                (try go_wp2_with fail)
                refine hK.out _ _ ⟨(BV.below hbS).four.1, (BV.below hbS).four.2.1, (BV.below hbS).four.2.2.1, (BV.below hbS).four.2.2.2.1, (BB.below hbS).two.1, (BB.below hbS).two.2.1, (BS.below hbS).two.1, (BS.below hbS).two.2.1⟩ (fun hHeld => ?_)
                clear hK K
                try simp only [Act.put, List.setIfInBounds_toArray, List.set_cons_zero, List.set_cons_succ]
                refine wpAnyH_ready (rs := [8]) (by kernel_rfl) (by simp) ?_
                refine AllReadyH.cons (o := ⟨some 40, _, _, _, _, _⟩) rfl (fun K hK => ?_) AllReadyH.nil
                go_simp
                refine (HSP.out _ _ _ _ _ _ _ _ _ _ _ rfl rfl l1 l2 R1.irow R2.irow OS_).mono ?_
                rintro e wt4 ⟨d1, d2, k1, k2, rfl, hO, hbt4⟩
                replace R1 := R1.below hbt4
                replace R2 := R2.below hbt4
                replace OS_ := OS_.below hbt4
                replace BA := BA.below hbt4
                have hz_hbt4 := hbt4.size
                replace hbS := chain hbS hbt4
                clear hbt4
                (try go_wp2_with fail)
                refine hK.out _ _ ⟨(BV.below hbS).four.1, (BV.below hbS).four.2.1, (BV.below hbS).four.2.2.1, (BV.below hbS).four.2.2.2.1, (BB.below hbS).two.1, (BB.below hbS).two.2.1, (BS.below hbS).two.1, (BS.below hbS).two.2.1⟩ (fun hHeld => ?_)
                clear hK K
                try simp only [Act.put, List.setIfInBounds_toArray, List.set_cons_zero, List.set_cons_succ]
                refine wpAnyH_take (i := 9) (oi := ⟨some 31, _, _, _, _, _⟩) (v := ?_) rfl (by kernel_rfl) (by kernel_rfl) (by kernel_rfl) (fun _ _ _ h => absurd h.1 (by simp)) (Or.inl ⟨by rfl, ?_⟩) (by assumption) ?_
                rotate_left
                · intro w hSw; (try dsimp only at hSw); go_simp; (try (with_reducible rfl))
                try simp only [Act.put, List.setIfInBounds_toArray, List.set_cons_zero, List.set_cons_succ]
                refine wpAnyH_take (i := 10) (oi := ⟨some 41, _, _, _, _, _⟩) (v := ?_) rfl (by kernel_rfl) (by kernel_rfl) (by kernel_rfl) (fun _ _ _ h => absurd h.1 (by simp)) (Or.inl ⟨by rfl, ?_⟩) (by assumption) ?_
                rotate_left
                · intro w hSw; (try dsimp only at hSw); go_simp; (try (with_reducible rfl))
                try simp only [Act.put, List.setIfInBounds_toArray, List.set_cons_zero, List.set_cons_succ]
                refine wpAnyH_take (i := 11) (oi := ⟨some 42, _, _, _, _, _⟩) (v := ?_) rfl (by kernel_rfl) (by kernel_rfl) (by kernel_rfl) (fun _ _ _ h => absurd h.1 (by simp)) (Or.inl ⟨by rfl, ?_⟩) (by assumption) ?_
                rotate_left
                · intro w hSw; (try dsimp only at hSw); go_simp; (try (with_reducible rfl))
                try simp only [Act.put, List.setIfInBounds_toArray, List.set_cons_zero, List.set_cons_succ]
                refine wpAnyH_ready (rs := [13]) (by kernel_rfl) (by simp) ?_
                refine AllReadyH.cons (o := ⟨none, _, _, _, _, _⟩) rfl (fun K hK => ?_) AllReadyH.nil
                have q0 := BA.two.1
                have q1 := BA.two.2.1
                have qf := BA.two.2.2.1
                have ql := BA.two.2.2.2
                go_simp
                (try go_wp2_with fail)
                refine hK.out _ _ ⟨(BV.below (below2s BA hbS (by omega))).four.1, (BV.below (below2s BA hbS (by omega))).four.2.1, (BV.below (below2s BA hbS (by omega))).four.2.2.1, (BV.below (below2s BA hbS (by omega))).four.2.2.2.1, (BB.below (below2s BA hbS (by omega))).two.1, (BB.below (below2s BA hbS (by omega))).two.2.1, (BS.below (below2s BA hbS (by omega))).two.1, (BS.below (below2s BA hbS (by omega))).two.2.1⟩ (fun hHeld => ?_)
                clear hK K
                try simp only [Act.put, List.setIfInBounds_toArray, List.set_cons_zero, List.set_cons_succ]
                refine wpAnyH_take (i := 14) (oi := ⟨some 11, _, _, _, _, _⟩) (v := ?_) rfl (by kernel_rfl) (by kernel_rfl) (by kernel_rfl) (fun _ _ _ h => absurd h.1 (by simp)) (Or.inl ⟨by rfl, ?_⟩) (by assumption) ?_
                rotate_left
                · intro w hSw; (try dsimp only at hSw); go_simp; (try (with_reducible rfl))
                try simp only [Act.put, List.setIfInBounds_toArray, List.set_cons_zero, List.set_cons_succ]
                refine wpAnyH_done (by kernel_rfl) ?_ _
                rw [HJ.out]
                refine ⟨rfl, _, d1, d2, k1, k2, _, _, g1, g2, gs, ?_, VarB.stored BA hO ?_ ?_ ?_ ?_, below2s BA hbS (by omega)⟩
                · simp only [Act.put, List.setIfInBounds_toArray, List.set_cons_zero, List.set_cons_succ]
                all_goals (first | omega | (simp; omega))
            · go_simp
              refine hK.out _ _ ⟨(BV.below (hbS.alloc hbS.size _)).four.1, (BV.below (hbS.alloc hbS.size _)).four.2.1, (BV.below (hbS.alloc hbS.size _)).four.2.2.1, (BV.below (hbS.alloc hbS.size _)).four.2.2.2.1, (BB.below (hbS.alloc hbS.size _)).two.1, (BB.below (hbS.alloc hbS.size _)).two.2.1, (BS.below (hbS.alloc hbS.size _)).two.1, (BS.below (hbS.alloc hbS.size _)).two.2.1⟩ (fun hHeld => ?_)
              clear hK K
              try simp only [Act.put, List.setIfInBounds_toArray, List.set_cons_zero, List.set_cons_succ]
              have BA := Blk.new wt1 #[.slice none 0 0, .slice none 0 0] 32
              have hal : Below wt1.heap.size wt1 (wt1.alloc (.cells #[.slice none 0 0, .slice none 0 0] 32)) := (Below.refl _ _).alloc (Nat.le_refl _) _
              have hlN : wt1.heap.size + 1 ≤ (wt1.alloc (.cells #[.slice none 0 0, .slice none 0 0] 32)).heap.size ∧ (wt1.alloc (.cells #[.slice none 0 0, .slice none 0 0] 32)).heap.size ≤ wt1.heap.size + 1 := by simp
              have hzS := hbS.size
              replace R1 := R1.below hal
              replace R2 := R2.below hal
              replace hbS := chain hbS hal
              clear hal
              generalize wt1.alloc (.cells #[.slice none 0 0, .slice none 0 0] 32) = wN at *
              refine wpAnyH_ready (rs := [5]) (by kernel_rfl) (by simp) ?_
              refine AllReadyH.cons (o := ⟨some 37, _, _, _, _, _⟩) rfl (fun K hK => ?_) AllReadyH.nil
              go_simp
              refine (toRoll_br ra rb _).mono ?_
              rintro e wt2 ⟨rfl, hbt2⟩
              replace R1 := R1.below hbt2
              replace R2 := R2.below hbt2
              replace BA := BA.below hbt2
              have hz_hbt2 := hbt2.size
              replace hbS := chain hbS hbt2
              clear hbt2
              (try go_wp2_with fail)
              refine hK.out _ _ ⟨(BV.below hbS).four.1, (BV.below hbS).four.2.1, (BV.below hbS).four.2.2.1, (BV.below hbS).four.2.2.2.1, (BB.below hbS).two.1, (BB.below hbS).two.2.1, (BS.below hbS).two.1, (BS.below hbS).two.2.1⟩ (fun hHeld => ?_)
              clear hK K
              try simp only [Act.put, List.setIfInBounds_toArray, List.set_cons_zero, List.set_cons_succ]
              refine wpAnyH_ready (rs := [7]) (by kernel_rfl) (by simp) ?_
              refine AllReadyH.cons (o := ⟨some 39, _, _, _, _, _⟩) rfl (fun K hK => ?_) AllReadyH.nil
              go_simp
              refine (toStepS_o sa _ cap l _ rfl hle3 (hr.below (chain hb hbS))).mono ?_
              rintro e wt3 ⟨gs, rfl, OS_, hbt3⟩
              replace R1 := R1.below hbt3
              replace R2 := R2.below hbt3
              replace BA := BA.below hbt3
              have hz_hbt3 := hbt3.size
              replace hbS := chain hbS hbt3
              clear hbt3
              (try go_wp2_with fail)
              refine hK.out _ _ ⟨(BV.below hbS).four.1, (BV.below hbS).four.2.1, (BV.below hbS).four.2.2.1, (BV.below hbS).four.2.2.2.1, (BB.below hbS).two.1, (BB.below hbS).two.2.1, (BS.below hbS).two.1, (BS.below hbS).two.2.1⟩ (fun hHeld => ?_)
              clear hK K
              try simp only [Act.put, List.setIfInBounds_toArray, List.set_cons_zero, List.set_cons_succ]
              refine wpAnyH_ready (rs := [8]) (by kernel_rfl) (by simp) ?_
              refine AllReadyH.cons (o := ⟨some 40, _, _, _, _, _⟩) rfl (fun K hK => ?_) AllReadyH.nil
              go_simp
              refine (HSP.out _ _ _ _ _ _ _ _ _ _ _ rfl rfl l1 l2 R1.irow R2.irow OS_).mono ?_
              rintro e wt4 ⟨d1, d2, k1, k2, rfl, hO, hbt4⟩
              replace R1 := R1.below hbt4
              replace R2 := R2.below hbt4
              replace OS_ := OS_.below hbt4
              replace BA := BA.below hbt4
              have hz_hbt4 := hbt4.size
              replace hbS := chain hbS hbt4
              clear hbt4
              (try go_wp2_with fail)
              refine hK.out _ _ ⟨(BV.below hbS).four.1, (BV.below hbS).four.2.1, (BV.below hbS).four.2.2.1, (BV.below hbS).four.2.2.2.1, (BB.below hbS).two.1, (BB.below hbS).two.2.1, (BS.below hbS).two.1, (BS.below hbS).two.2.1⟩ (fun hHeld => ?_)
              clear hK K
              try simp only [Act.put, List.setIfInBounds_toArray, List.set_cons_zero, List.set_cons_succ]
              refine wpAnyH_take (i := 9) (oi := ⟨some 31, _, _, _, _, _⟩) (v := ?_) rfl (by kernel_rfl) (by kernel_rfl) (by kernel_rfl) (fun _ _ _ h => absurd h.1 (by simp)) (Or.inl ⟨by rfl, ?_⟩) (by assumption) ?_
              rotate_left
              · intro w hSw; (try dsimp only at hSw); go_simp; (try (with_reducible rfl))
              try simp only [Act.put, List.setIfInBounds_toArray, List.set_cons_zero, List.set_cons_succ]
              refine wpAnyH_take (i := 10) (oi := ⟨some 41, _, _, _, _, _⟩) (v := ?_) rfl (by kernel_rfl) (by kernel_rfl) (by kernel_rfl) (fun _ _ _ h => absurd h.1 (by simp)) (Or.inl ⟨by rfl, ?_⟩) (by assumption) ?_
              rotate_left
              · intro w hSw; (try dsimp only at hSw); go_simp; (try (with_reducible rfl))
              try simp only [Act.put, List.setIfInBounds_toArray, List.set_cons_zero, List.set_cons_succ]
              refine wpAnyH_take (i := 11) (oi := ⟨some 42, _, _, _, _, _⟩) (v := ?_) rfl (by kernel_rfl) (by kernel_rfl) (by kernel_rfl) (fun _ _ _ h => absurd h.1 (by simp)) (Or.inl ⟨by rfl, ?_⟩) (by assumption) ?_
              rotate_left
              · intro w hSw; (try dsimp only at hSw); go_simp; (try (with_reducible rfl))
              try simp only [Act.put, List.setIfInBounds_toArray, List.set_cons_zero, List.set_cons_succ]
              refine wpAnyH_ready (rs := [13]) (by kernel_rfl) (by simp) ?_
              refine AllReadyH.cons (o := ⟨none, _, _, _, _, _⟩) rfl (fun K hK => ?_) AllReadyH.nil
              have q0 := BA.two.1
              have q1 := BA.two.2.1
              have qf := BA.two.2.2.1
              have ql := BA.two.2.2.2
              go_simp
              (try go_wp2_with fail)
              refine hK.out _ _ ⟨(BV.below (below2s BA hbS (by omega))).four.1, (BV.below (below2s BA hbS (by omega))).four.2.1, (BV.below (below2s BA hbS (by omega))).four.2.2.1, (BV.below (below2s BA hbS (by omega))).four.2.2.2.1, (BB.below (below2s BA hbS (by omega))).two.1, (BB.below (below2s BA hbS (by omega))).two.2.1, (BS.below (below2s BA hbS (by omega))).two.1, (BS.below (below2s BA hbS (by omega))).two.2.1⟩ (fun hHeld => ?_)
              clear hK K
              try simp only [Act.put, List.setIfInBounds_toArray, List.set_cons_zero, List.set_cons_succ]
              refine wpAnyH_take (i := 14) (oi := ⟨some 11, _, _, _, _, _⟩) (v := ?_) rfl (by kernel_rfl) (by kernel_rfl) (by kernel_rfl) (fun _ _ _ h => absurd h.1 (by simp)) (Or.inl ⟨by rfl, ?_⟩) (by assumption) ?_
              rotate_left
              · intro w hSw; (try dsimp only at hSw); go_simp; (try (with_reducible rfl))
              try simp only [Act.put, List.setIfInBounds_toArray, List.set_cons_zero, List.set_cons_succ]
              refine wpAnyH_done (by kernel_rfl) ?_ _
              rw [HJ.out]
              refine ⟨rfl, _, d1, d2, k1, k2, _, _, g1, g2, gs, ?_, VarB.stored BA hO ?_ ?_ ?_ ?_, below2s BA hbS (by omega)⟩
              · simp only [Act.put, List.setIfInBounds_toArray, List.set_cons_zero, List.set_cons_succ]
              all_goals (first | omega | (simp; omega))
          · go_simp
            refine hK.out _ _ ⟨(BV.below (hbS.alloc hbS.size _)).four.1, (BV.below (hbS.alloc hbS.size _)).four.2.1, (BV.below (hbS.alloc hbS.size _)).four.2.2.1, (BV.below (hbS.alloc hbS.size _)).four.2.2.2.1, (BB.below (hbS.alloc hbS.size _)).two.1, (BB.below (hbS.alloc hbS.size _)).two.2.1, (BS.below (hbS.alloc hbS.size _)).two.1, (BS.below (hbS.alloc hbS.size _)).two.2.1⟩ (fun hHeld => ?_)
            clear hK K
            try simp only [Act.put, List.setIfInBounds_toArray, List.set_cons_zero, List.set_cons_succ]
            have BA := Blk.new wt0 #[.slice none 0 0, .slice none 0 0] 32
            have hal : Below wt0.heap.size wt0 (wt0.alloc (.cells #[.slice none 0 0, .slice none 0 0] 32)) := (Below.refl _ _).alloc (Nat.le_refl _) _
            have hlN : wt0.heap.size + 1 ≤ (wt0.alloc (.cells #[.slice none 0 0, .slice none 0 0] 32)).heap.size ∧ (wt0.alloc (.cells #[.slice none 0 0, .slice none 0 0] 32)).heap.size ≤ wt0.heap.size + 1 := by simp
            have hzS := hbS.size
            replace hbS := chain hbS hal
            clear hal
            generalize wt0.alloc (.cells #[.slice none 0 0, .slice none 0 0] 32) = wN at *
            refine wpAnyH_ready (rs := [3]) (by kernel_rfl) (by simp) ?_
            refine AllReadyH.cons (o := ⟨some 35, _, _, _, _, _⟩) rfl (fun K hK => ?_) AllReadyH.nil
            go_simp
            refine (toBoard_any a1 a2 _ _ c1 c2 xs ys _ rfl rfl l1 l2 (r1.below (chain hb hbS)) (r2.below (chain hb hbS))).mono ?_
            rintro e wt1 ⟨g1, g2, rfl, gg1, gg2, R1, R2, hbt1⟩
            replace BA := BA.below hbt1
            have hz_hbt1 := hbt1.size
            replace hbS := chain hbS hbt1
            clear hbt1
            (try go_wp2_with fail)
            refine hK.out _ _ ⟨(BV.below hbS).four.1, (BV.below hbS).four.2.1, (BV.below hbS).four.2.2.1, (BV.below hbS).four.2.2.2.1, (BB.below hbS).two.1, (BB.below hbS).two.2.1, (BS.below hbS).two.1, (BS.below hbS).two.2.1⟩ (fun hHeld => ?_)
            clear hK K
            try simp only [Act.put, List.setIfInBounds_toArray, List.set_cons_zero, List.set_cons_succ]
            refine wpAnyH_ready (rs := [5]) (by kernel_rfl) (by simp) ?_
            refine AllReadyH.cons (o := ⟨some 37, _, _, _, _, _⟩) rfl (fun K hK => ?_) AllReadyH.nil
            go_simp
            refine (toRoll_br ra rb _).mono ?_
            rintro e wt2 ⟨rfl, hbt2⟩
            replace R1 := R1.below hbt2
            replace R2 := R2.below hbt2
            replace BA := BA.below hbt2
            have hz_hbt2 := hbt2.size
            replace hbS := chain hbS hbt2
            clear hbt2
            (try go_wp2_with fail)
            refine hK.out _ _ ⟨(BV.below hbS).four.1, (BV.below hbS).four.2.1, (BV.below hbS).four.2.2.1, (BV.below hbS).four.2.2.2.1, (BB.below hbS).two.1, (BB.below hbS).two.2.1, (BS.below hbS).two.1, (BS.below hbS).two.2.1⟩ (fun hHeld => ?_)
            clear hK K
            try simp only [Act.put, List.setIfInBounds_toArray, List.set_cons_zero, List.set_cons_succ]
            refine wpAnyH_ready (rs := [7]) (by kernel_rfl) (by simp) ?_
            refine AllReadyH.cons (o := ⟨some 39, _, _, _, _, _⟩) rfl (fun K hK => ?_) AllReadyH.nil
            go_simp
            refine (toStepS_o sa _ cap l _ rfl hle3 (hr.below (chain hb hbS))).mono ?_
            rintro e wt3 ⟨gs, rfl, OS_, hbt3⟩
            replace R1 := R1.below hbt3
            replace R2 := R2.below hbt3
            replace BA := BA.below hbt3
            have hz_hbt3 := hbt3.size
            replace hbS := chain hbS hbt3
            clear hbt3
            (try go_wp2_with fail)
            refine hK.out _ _ ⟨(BV.below hbS).four.1, (BV.below hbS).four.2.1, (BV.below hbS).four.2.2.1, (BV.below hbS).four.2.2.2.1, (BB.below hbS).two.1, (BB.below hbS).two.2.1, (BS.below hbS).two.1, (BS.below hbS).two.2.1⟩ (fun hHeld => ?_)
            clear hK K
            try simp only [Act.put, List.setIfInBounds_toArray, List.set_cons_zero, List.set_cons_succ]
            refine wpAnyH_ready (rs := [8]) (by kernel_rfl) (by simp) ?_
            refine AllReadyH.cons (o := ⟨some 40, _, _, _, _, _⟩) rfl (fun K hK => ?_) AllReadyH.nil
            go_simp
            refine (HSP.out _ _ _ _ _ _ _ _ _ _ _ rfl rfl l1 l2 R1.irow R2.irow OS_).mono ?_
            rintro e wt4 ⟨d1, d2, k1, k2, rfl, hO, hbt4⟩
            replace R1 := R1.below hbt4
            replace R2 := R2.below hbt4
            replace OS_ := OS_.below hbt4
            replace BA := BA.below hbt4
            have hz_hbt4 := hbt4.size
            replace hbS := chain hbS hbt4
            clear hbt4
            (try go_wp2_with fail)
            refine hK.out _ _ ⟨(BV.below hbS).four.1, (BV.below hbS).four.2.1, (BV.below hbS).four.2.2.1, (BV.below hbS).four.2.2.2.1, (BB.below hbS).two.1, (BB.below hbS).two.2.1, (BS.below hbS).two.1, (BS.below hbS).two.2.1⟩ (fun hHeld => ?_)
            clear hK K
            try simp only [Act.put, List.setIfInBounds_toArray, List.set_cons_zero, List.set_cons_succ]
            refine wpAnyH_take (i := 9) (oi := ⟨some 31, _, _, _, _, _⟩) (v := ?_) rfl (by kernel_rfl) (by kernel_rfl) (by kernel_rfl) (fun _ _ _ h => absurd h.1 (by simp)) (Or.inl ⟨by rfl, ?_⟩) (by assumption) ?_
            rotate_left
            · intro w hSw; (try dsimp only at hSw); go_simp; (try (with_reducible rfl))
            try simp only [Act.put, List.setIfInBounds_toArray, List.set_cons_zero, List.set_cons_succ]
            refine wpAnyH_take (i := 10) (oi := ⟨some 41, _, _, _, _, _⟩) (v := ?_) rfl (by kernel_rfl) (by kernel_rfl) (by kernel_rfl) (fun _ _ _ h => absurd h.1 (by simp)) (Or.inl ⟨by rfl, ?_⟩) (by assumption) ?_
            rotate_left
            · intro w hSw; (try dsimp only at hSw); go_simp; (try (with_reducible rfl))
            try simp only [Act.put, List.setIfInBounds_toArray, List.set_cons_zero, List.set_cons_succ]
            refine wpAnyH_take (i := 11) (oi := ⟨some 42, _, _, _, _, _⟩) (v := ?_) rfl (by kernel_rfl) (by kernel_rfl) (by kernel_rfl) (fun _ _ _ h => absurd h.1 (by simp)) (Or.inl ⟨by rfl, ?_⟩) (by assumption) ?_
            rotate_left
            · intro w hSw; (try dsimp only at hSw); go_simp; (try (with_reducible rfl))
            try simp only [Act.put, List.setIfInBounds_toArray, List.set_cons_zero, List.set_cons_succ]
            refine wpAnyH_ready (rs := [13]) (by kernel_rfl) (by simp) ?_
            refine AllReadyH.cons (o := ⟨none, _, _, _, _, _⟩) rfl (fun K hK => ?_) AllReadyH.nil
            have q0 := BA.two.1
            have q1 := BA.two.2.1
            have qf := BA.two.2.2.1
            have ql := BA.two.2.2.2
            go_simp
            (try go_wp2_with fail)
            refine hK.out _ _ ⟨(BV.below (below2s BA hbS (by omega))).four.1, (BV.below (below2s BA hbS (by omega))).four.2.1, (BV.below (below2s BA hbS (by omega))).four.2.2.1, (BV.below (below2s BA hbS (by omega))).four.2.2.2.1, (BB.below (below2s BA hbS (by omega))).two.1, (BB.below (below2s BA hbS (by omega))).two.2.1, (BS.below (below2s BA hbS (by omega))).two.1, (BS.below (below2s BA hbS (by omega))).two.2.1⟩ (fun hHeld => ?_)
            clear hK K
            try simp only [Act.put, List.setIfInBounds_toArray, List.set_cons_zero, List.set_cons_succ]
            refine wpAnyH_take (i := 14) (oi := ⟨some 11, _, _, _, _, _⟩) (v := ?_) rfl (by kernel_rfl) (by kernel_rfl) (by kernel_rfl) (fun _ _ _ h => absurd h.1 (by simp)) (Or.inl ⟨by rfl, ?_⟩) (by assumption) ?_
            rotate_left
            · intro w hSw; (try dsimp only at hSw); go_simp; (try (with_reducible rfl))
            try simp only [Act.put, List.setIfInBounds_toArray, List.set_cons_zero, List.set_cons_succ]
            refine wpAnyH_done (by kernel_rfl) ?_ _
            rw [HJ.out]
            refine ⟨rfl, _, d1, d2, k1, k2, _, _, g1, g2, gs, ?_, VarB.stored BA hO ?_ ?_ ?_ ?_, below2s BA hbS (by omega)⟩
            · simp only [Act.put, List.setIfInBounds_toArray, List.set_cons_zero, List.set_cons_succ]
            all_goals (first | omega | (simp; omega))
        · go_simp
          refine hK.out _ _ ⟨(BV.below (hbS.alloc hbS.size _)).four.1, (BV.below (hbS.alloc hbS.size _)).four.2.1, (BV.below (hbS.alloc hbS.size _)).four.2.2.1, (BV.below (hbS.alloc hbS.size _)).four.2.2.2.1, (BB.below (hbS.alloc hbS.size _)).two.1, (BB.below (hbS.alloc hbS.size _)).two.2.1, (BS.below (hbS.alloc hbS.size _)).two.1, (BS.below (hbS.alloc hbS.size _)).two.2.1⟩ (fun hHeld => ?_)
          clear hK K
          try simp only [Act.put, List.setIfInBounds_toArray, List.set_cons_zero, List.set_cons_succ]
          have BA := Blk.new vd #[.slice none 0 0, .slice none 0 0] 32
          have hal : Below vd.heap.size vd (vd.alloc (.cells #[.slice none 0 0, .slice none 0 0] 32)) := (Below.refl _ _).alloc (Nat.le_refl _) _
          have hlN : vd.heap.size + 1 ≤ (vd.alloc (.cells #[.slice none 0 0, .slice none 0 0] 32)).heap.size ∧ (vd.alloc (.cells #[.slice none 0 0, .slice none 0 0] 32)).heap.size ≤ vd.heap.size + 1 := by simp
          have hzS := hbS.size
          replace hbS := chain hbS hal
          clear hal
          generalize vd.alloc (.cells #[.slice none 0 0, .slice none 0 0] 32) = wN at *
          refine wpAnyH_ready (rs := [1]) (by kernel_rfl) (by simp) ?_
          refine AllReadyH.cons (o := ⟨some 33, _, _, _, _, _⟩) rfl (fun K hK => ?_) AllReadyH.nil
          go_simp
          refine (toVariant_any _ _ _ _ _).mono ?_
          rintro e wt0 ⟨rfl, hbt0⟩
          replace BA := BA.below hbt0
          have hz_hbt0 := hbt0.size
          replace hbS := chain hbS hbt0
          clear hbt0
          (try go_wp2_with fail)
          refine hK.out _ _ ⟨(BV.below hbS).four.1, (BV.below hbS).four.2.1, (BV.below hbS).four.2.2.1, (BV.below hbS).four.2.2.2.1, (BB.below hbS).two.1, (BB.below hbS).two.2.1, (BS.below hbS).two.1, (BS.below hbS).two.2.1⟩ (fun hHeld => ?_)
          clear hK K
          try simp only [Act.put, List.setIfInBounds_toArray, List.set_cons_zero, List.set_cons_succ]
          refine wpAnyH_ready (rs := [3]) (by kernel_rfl) (by simp) ?_
          refine AllReadyH.cons (o := ⟨some 35, _, _, _, _, _⟩) rfl (fun K hK => ?_) AllReadyH.nil
          go_simp
          refine (toBoard_any a1 a2 _ _ c1 c2 xs ys _ rfl rfl l1 l2 (r1.below (chain hb hbS)) (r2.below (chain hb hbS))).mono ?_
          rintro e wt1 ⟨g1, g2, rfl, gg1, gg2, R1, R2, hbt1⟩
          replace BA := BA.below hbt1
          have hz_hbt1 := hbt1.size
          replace hbS := chain hbS hbt1
          clear hbt1
          (try go_wp2_with fail)
          refine hK.out _ _ ⟨(BV.below hbS).four.1, (BV.below hbS).four.2.1, (BV.below hbS).four.2.2.1, (BV.below hbS).four.2.2.2.1, (BB.below hbS).two.1, (BB.below hbS).two.2.1, (BS.below hbS).two.1, (BS.below hbS).two.2.1⟩ (fun hHeld => ?_)
          clear hK K
          try simp only [Act.put, List.setIfInBounds_toArray, List.set_cons_zero, List.set_cons_succ]
          refine wpAnyH_ready (rs := [5]) (by kernel_rfl) (by simp) ?_
          refine AllReadyH.cons (o := ⟨some 37, _, _, _, _, _⟩) rfl (fun K hK => ?_) AllReadyH.nil
          go_simp
          refine (toRoll_br ra rb _).mono ?_
          rintro e wt2 ⟨rfl, hbt2⟩
          replace R1 := R1.below hbt2
          replace R2 := R2.below hbt2
          replace BA := BA.below hbt2
          have hz_hbt2 := hbt2.size
          replace hbS := chain hbS hbt2
          clear hbt2
          (try go_wp2_with fail)
          refine hK.out _ _ ⟨(BV.below hbS).four.1, (BV.below hbS).four.2.1, (BV.below hbS).four.2.2.1, (BV.below hbS).four.2.2.2.1, (BB.below hbS).two.1, (BB.below hbS).two.2.1, (BS.below hbS).two.1, (BS.below hbS).two.2.1⟩ (fun hHeld => ?_)
          clear hK K
          try simp only [Act.put, List.setIfInBounds_toArray, List.set_cons_zero, List.set_cons_succ]
          refine wpAnyH_ready (rs := [7]) (by kernel_rfl) (by simp) ?_
          refine AllReadyH.cons (o := ⟨some 39, _, _, _, _, _⟩) rfl (fun K hK => ?_) AllReadyH.nil
          go_simp
          refine (toStepS_o sa _ cap l _ rfl hle3 (hr.below (chain hb hbS))).mono ?_
          rintro e wt3 ⟨gs, rfl, OS_, hbt3⟩
          replace R1 := R1.below hbt3
          replace R2 := R2.below hbt3
          replace BA := BA.below hbt3
          have hz_hbt3 := hbt3.size
          replace hbS := chain hbS hbt3
          clear hbt3
          (try go_wp2_with fail)
          refine hK.out _ _ ⟨(BV.below hbS).four.1, (BV.below hbS).four.2.1, (BV.below hbS).four.2.2.1, (BV.below hbS).four.2.2.2.1, (BB.below hbS).two.1, (BB.below hbS).two.2.1, (BS.below hbS).two.1, (BS.below hbS).two.2.1⟩ (fun hHeld => ?_)
          clear hK K
          try simp only [Act.put, List.setIfInBounds_toArray, List.set_cons_zero, List.set_cons_succ]
          refine wpAnyH_ready (rs := [8]) (by kernel_rfl) (by simp) ?_
          refine AllReadyH.cons (o := ⟨some 40, _, _, _, _, _⟩) rfl (fun K hK => ?_) AllReadyH.nil
          go_simp
          refine (HSP.out _ _ _ _ _ _ _ _ _ _ _ rfl rfl l1 l2 R1.irow R2.irow OS_).mono ?_
          rintro e wt4 ⟨d1, d2, k1, k2, rfl, hO, hbt4⟩
          replace R1 := R1.below hbt4
          replace R2 := R2.below hbt4
          replace OS_ := OS_.below hbt4
          replace BA := BA.below hbt4
          have hz_hbt4 := hbt4.size
          replace hbS := chain hbS hbt4
          clear hbt4
          (try go_wp2_with fail)
          refine hK.out _ _ ⟨(BV.below hbS).four.1, (BV.below hbS).four.2.1, (BV.below hbS).four.2.2.1, (BV.below hbS).four.2.2.2.1, (BB.below hbS).two.1, (BB.below hbS).two.2.1, (BS.below hbS).two.1, (BS.below hbS).two.2.1⟩ (fun hHeld => ?_)
          clear hK K
          try simp only [Act.put, List.setIfInBounds_toArray, List.set_cons_zero, List.set_cons_succ]
          refine wpAnyH_take (i := 9) (oi := ⟨some 31, _, _, _, _, _⟩) (v := ?_) rfl (by kernel_rfl) (by kernel_rfl) (by kernel_rfl) (fun _ _ _ h => absurd h.1 (by simp)) (Or.inl ⟨by rfl, ?_⟩) (by assumption) ?_
          rotate_left
          · intro w hSw; (try dsimp only at hSw); go_simp; (try (with_reducible rfl))
          try simp only [Act.put, List.setIfInBounds_toArray, List.set_cons_zero, List.set_cons_succ]
          refine wpAnyH_take (i := 10) (oi := ⟨some 41, _, _, _, _, _⟩) (v := ?_) rfl (by kernel_rfl) (by kernel_rfl) (by kernel_rfl) (fun _ _ _ h => absurd h.1 (by simp)) (Or.inl ⟨by rfl, ?_⟩) (by assumption) ?_
          rotate_left
          · intro w hSw; (try dsimp only at hSw); go_simp; (try (with_reducible rfl))
          try simp only [Act.put, List.setIfInBounds_toArray, List.set_cons_zero, List.set_cons_succ]
          refine wpAnyH_take (i := 11) (oi := ⟨some 42, _, _, _, _, _⟩) (v := ?_) rfl (by kernel_rfl) (by kernel_rfl) (by kernel_rfl) (fun _ _ _ h => absurd h.1 (by simp)) (Or.inl ⟨by rfl, ?_⟩) (by assumption) ?_
          rotate_left
          · intro w hSw; (try dsimp only at hSw); go_simp; (try (with_reducible rfl))
          try simp only [Act.put, List.setIfInBounds_toArray, List.set_cons_zero, List.set_cons_succ]
          refine wpAnyH_ready (rs := [13]) (by kernel_rfl) (by simp) ?_
          refine AllReadyH.cons (o := ⟨none, _, _, _, _, _⟩) rfl (fun K hK => ?_) AllReadyH.nil
          have q0 := BA.two.1
          have q1 := BA.two.2.1
          have qf := BA.two.2.2.1
          have ql := BA.two.2.2.2
          go_simp
          (try go_wp2_with fail)
          refine hK.out _ _ ⟨(BV.below (below2s BA hbS (by omega))).four.1, (BV.below (below2s BA hbS (by omega))).four.2.1, (BV.below (below2s BA hbS (by omega))).four.2.2.1, (BV.below (below2s BA hbS (by omega))).four.2.2.2.1, (BB.below (below2s BA hbS (by omega))).two.1, (BB.below (below2s BA hbS (by omega))).two.2.1, (BS.below (below2s BA hbS (by omega))).two.1, (BS.below (below2s BA hbS (by omega))).two.2.1⟩ (fun hHeld => ?_)
          clear hK K
          try simp only [Act.put, List.setIfInBounds_toArray, List.set_cons_zero, List.set_cons_succ]
          refine wpAnyH_take (i := 14) (oi := ⟨some 11, _, _, _, _, _⟩) (v := ?_) rfl (by kernel_rfl) (by kernel_rfl) (by kernel_rfl) (fun _ _ _ h => absurd h.1 (by simp)) (Or.inl ⟨by rfl, ?_⟩) (by assumption) ?_
          rotate_left
          · intro w hSw; (try dsimp only at hSw); go_simp; (try (with_reducible rfl))
          try simp only [Act.put, List.setIfInBounds_toArray, List.set_cons_zero, List.set_cons_succ]
          refine wpAnyH_done (by kernel_rfl) ?_ _
          rw [HJ.out]
          refine ⟨rfl, _, d1, d2, k1, k2, _, _, g1, g2, gs, ?_, VarB.stored BA hO ?_ ?_ ?_ ?_, below2s BA hbS (by omega)⟩
          · simp only [Act.put, List.setIfInBounds_toArray, List.set_cons_zero, List.set_cons_succ]
          all_goals (first | omega | (simp; omega))
      · intro a' w1 hj
        rw [HJ.out] at hj
        clear HJ
        obtain ⟨BV0, d1V0, d2V0, k1V0, k2V0, loV0, hiV0, g1V0, g2V0, gsV0, rfl, V0, hbS⟩ := hj
        try simp only [Act.put, List.setIfInBounds_toArray, List.set_cons_zero, List.set_cons_succ]
        replace BV := BV.below hbS
        replace BB := BB.below hbS
        replace BS := BS.below hbS
        have hz1 := hbS.size
        replace hb := chain hb hbS
        clear hbS
        have e1V0 := V0.2.2.1
        have e2V0 := V0.2.2.2.1
        have e3V0 := V0.2.2.2.2.1
        have e4V0 := V0.2.2.2.2.2
        have e5V0 := V0.1.lt
        obtain ⟨q0_BV, q1_BV, q2_BV, q3_BV, qf_BV, ql_BV⟩ := BV.four
        obtain ⟨q0_BB, q1_BB, qf_BB, ql_BB⟩ := BB.two
        obtain ⟨q0_BS, q1_BS, qf_BS, ql_BS⟩ := BS.two
        obtain ⟨q0_V0_1, q1_V0_1, qf_V0_1, ql_V0_1⟩ := V0.1.two
        go_wp2_with fail
        clear q0_BV q1_BV q2_BV q3_BV qf_BV ql_BV
        clear q0_BB q1_BB qf_BB ql_BB
        clear q0_BS q1_BS qf_BS ql_BS
        clear q0_V0_1 q1_V0_1 qf_V0_1 ql_V0_1
        refine (toBoard_any a1 a2 _ _ c1 c2 xs ys _ rfl rfl l1 l2 (r1.below hb) (r2.below hb)).mono ?_
        rintro e w2 ⟨b1, b2, rfl, gb1, gb2, R1, R2, hb2⟩
        replace BV := BV.below hb2
        replace BB := BB.below hb2
        replace BS := BS.below hb2
        replace V0 := V0.below hb2
        have hz2 := hb2.size
        replace hb := chain hb hb2
        clear hb2
        have OX : OBd w1.heap.size w2.heap.size w2 (some ⟨b1, 0, none⟩) (some ⟨b2, 0, none⟩) xs ys := .inr ⟨b1, b2, rfl, rfl, by omega, gb1, R1.lt, by omega, R2.lt, R1, R2⟩
        clear R1 R2 gb1 gb2
        have BX := Blk.new w2 #[.slice (some ⟨b1, 0, none⟩) xs.length xs.length, .slice (some ⟨b2, 0, none⟩) ys.length ys.length] 32
        have hal3 : Below w2.heap.size w2 (w2.alloc (.cells #[.slice (some ⟨b1, 0, none⟩) xs.length xs.length, .slice (some ⟨b2, 0, none⟩) ys.length ys.length] 32)) := (Below.refl _ _).alloc (Nat.le_refl _) _
        have hz3 : (w2.alloc (.cells #[.slice (some ⟨b1, 0, none⟩) xs.length xs.length, .slice (some ⟨b2, 0, none⟩) ys.length ys.length] 32)).heap.size = w2.heap.size + 1 := by simp
        replace BV := BV.below hal3
        replace BB := BB.below hal3
        replace BS := BS.below hal3
        replace V0 := V0.below hal3
        replace OX := OX.below hal3
        replace hb := chain hb hal3
        clear hal3
        obtain ⟨q0_BV, q1_BV, q2_BV, q3_BV, qf_BV, ql_BV⟩ := BV.four
        obtain ⟨q0_BB, q1_BB, qf_BB, ql_BB⟩ := BB.two
        obtain ⟨q0_BS, q1_BS, qf_BS, ql_BS⟩ := BS.two
        obtain ⟨q0_V0_1, q1_V0_1, qf_V0_1, ql_V0_1⟩ := V0.1.two
        obtain ⟨q0_BX, q1_BX, qf_BX, ql_BX⟩ := BX.two
        go_wp2_with fail
        clear q0_BV q1_BV q2_BV q3_BV qf_BV ql_BV
        clear q0_BB q1_BB qf_BB ql_BB
        clear q0_BS q1_BS qf_BS ql_BS
        clear q0_V0_1 q1_V0_1 qf_V0_1 ql_V0_1
        clear q0_BX q1_BX qf_BX ql_BX
        generalize (w2.alloc (.cells #[.slice (some ⟨b1, 0, none⟩) xs.length xs.length, .slice (some ⟨b2, 0, none⟩) ys.length ys.length] 32)) = w3 at *
        obtain ⟨q0_BV, q1_BV, q2_BV, q3_BV, qf_BV, ql_BV⟩ := BV.four
        obtain ⟨q0_BB, q1_BB, qf_BB, ql_BB⟩ := BB.two
        obtain ⟨q0_BS, q1_BS, qf_BS, ql_BS⟩ := BS.two
        obtain ⟨q0_V0_1, q1_V0_1, qf_V0_1, ql_V0_1⟩ := V0.1.two
        obtain ⟨q0_BX, q1_BX, qf_BX, ql_BX⟩ := BX.two
        go_wp2_with fail
        clear q0_BV q1_BV q2_BV q3_BV qf_BV ql_BV
        clear q0_BB q1_BB qf_BB ql_BB
        clear q0_BS q1_BS qf_BS ql_BS
        clear q0_V0_1 q1_V0_1 qf_V0_1 ql_V0_1
        clear q0_BX q1_BX qf_BX ql_BX
        refine (toStepS_o sa _ cap l _ rfl hle3 (hr.below hb)).mono ?_
        rintro e w4 ⟨bs, rfl, OT, hb4⟩
        replace BV := BV.below hb4
        replace BB := BB.below hb4
        replace BS := BS.below hb4
        replace V0 := V0.below hb4
        replace OX := OX.below hb4
        replace BX := BX.below hb4
        have hz4 := hb4.size
        replace hb := chain hb hb4
        clear hb4
        obtain ⟨q0_BV, q1_BV, q2_BV, q3_BV, qf_BV, ql_BV⟩ := BV.four
        obtain ⟨q0_BB, q1_BB, qf_BB, ql_BB⟩ := BB.two
        obtain ⟨q0_BS, q1_BS, qf_BS, ql_BS⟩ := BS.two
        obtain ⟨q0_V0_1, q1_V0_1, qf_V0_1, ql_V0_1⟩ := V0.1.two
        obtain ⟨q0_BX, q1_BX, qf_BX, ql_BX⟩ := BX.two
        go_wp2_with fail
        clear q0_BV q1_BV q2_BV q3_BV qf_BV ql_BV
        clear q0_BB q1_BB qf_BB ql_BB
        clear q0_BS q1_BS qf_BS ql_BS
        clear q0_V0_1 q1_V0_1 qf_V0_1 ql_V0_1
        clear q0_BX q1_BX qf_BX ql_BX
        obtain ⟨J, hJ⟩ : ∃ J : Act → Act → World → Prop, J = fun a a' w' => ∃ B d1 d2 k1 k2 lo hi, a' = ((((((((((((a.put (some 48) (.agg #[.int .i64 p, .int .i64 c, .int .i64 h, .int .i64 s])).put (some 49) (.agg #[.int .i64 p, .int .i64 c, .int .i64 h, .int .i64 s])).put (some 50) (.agg #[.slice (some ⟨b1, 0, none⟩) xs.length xs.length, .slice (some ⟨b2, 0, none⟩) ys.length ys.length])).put (some 51) (.agg #[.int .i64 ra, .int .i64 rb])).put (some 52) (.agg #[.int .i64 ra, .int .i64 rb])).put (some 53) (.slice (some ⟨bs, 0, none⟩) l.length l.length)).put (some 54) (.tuple #[.agg #[.slice d1 X.length k1, .slice d2 Y.length k2], .int .i64 r])).put (some 47) (.tuple #[.agg #[.slice d1 X.length k1, .slice d2 Y.length k2], .int .i64 r])).put (some 55) (.agg #[.slice d1 X.length k1, .slice d2 Y.length k2])).put (some 56) (.int .i64 r)).put (some 15) (.int .i64 r)).put (some 14) (.pointer (some ⟨B, 0, none⟩))) ∧ VarB w4.heap.size w' B d1 d2 X.length Y.length k1 k2 lo hi X Y ∧ Below w4.heap.size w4 w' := ⟨_, rfl⟩
        have HJ := Lib.hid hJ
        clear hJ
        refine wp_region_join J ?_ ?_
        · skip
          refine wp_region_held_drew (S := fun w' => w'.cell? ⟨w.heap.size, 0, none⟩ = some (.int .i64 p) ∧ w'.cell? ⟨w.heap.size, 1, none⟩ = some (.int .i64 c) ∧ w'.cell? ⟨w.heap.size, 2, none⟩ = some (.int .i64 h) ∧ w'.cell? ⟨w.heap.size, 3, none⟩ = some (.int .i64 s) ∧ w'.cell? ⟨(w.heap.size + 1), 0, none⟩ = some (.slice a1 xs.length c1) ∧ w'.cell? ⟨(w.heap.size + 1), 1, none⟩ = some (.slice a2 ys.length c2) ∧ w'.cell? ⟨(w.heap.size + 1 + 1), 0, none⟩ = some (.int .i64 ra) ∧ w'.cell? ⟨(w.heap.size + 1 + 1), 1, none⟩ = some (.int .i64 rb) ∧ w'.cell? ⟨BV0, 0, none⟩ = some (.slice d1V0 X.length k1V0) ∧ w'.cell? ⟨BV0, 1, none⟩ = some (.slice d2V0 Y.length k2V0) ∧ w'.cell? ⟨w2.heap.size, 0, none⟩ = some (.slice (some ⟨b1, 0, none⟩) xs.length xs.length) ∧ w'.cell? ⟨w2.heap.size, 1, none⟩ = some (.slice (some ⟨b2, 0, none⟩) ys.length ys.length)) (by kernel_rfl) ⟨(BV.below (Below.refl _ _).drew).four.1, (BV.below (Below.refl _ _).drew).four.2.1, (BV.below (Below.refl _ _).drew).four.2.2.1, (BV.below (Below.refl _ _).drew).four.2.2.2.1, (BB.below (Below.refl _ _).drew).two.1, (BB.below (Below.refl _ _).drew).two.2.1, (BS.below (Below.refl _ _).drew).two.1, (BS.below (Below.refl _ _).drew).two.2.1, (V0.below (Below.refl _ _).drew).1.two.1, (V0.below (Below.refl _ _).drew).1.two.2.1, (BX.below (Below.refl _ _).drew).two.1, (BX.below (Below.refl _ _).drew).two.2.1⟩ (fun hHeld => ?_)
          clear hHeld
          have hbS : Below w4.heap.size w4 w4.drew := (Below.refl _ _).drew
          have hzd := hbS.size
          generalize w4.drew = vd at *
          have hHeld := (show vd.cell? ⟨w.heap.size, 0, none⟩ = some (.int .i64 p) ∧ vd.cell? ⟨w.heap.size, 1, none⟩ = some (.int .i64 c) ∧ vd.cell? ⟨w.heap.size, 2, none⟩ = some (.int .i64 h) ∧ vd.cell? ⟨w.heap.size, 3, none⟩ = some (.int .i64 s) ∧ vd.cell? ⟨(w.heap.size + 1), 0, none⟩ = some (.slice a1 xs.length c1) ∧ vd.cell? ⟨(w.heap.size + 1), 1, none⟩ = some (.slice a2 ys.length c2) ∧ vd.cell? ⟨(w.heap.size + 1 + 1), 0, none⟩ = some (.int .i64 ra) ∧ vd.cell? ⟨(w.heap.size + 1 + 1), 1, none⟩ = some (.int .i64 rb) ∧ vd.cell? ⟨BV0, 0, none⟩ = some (.slice d1V0 X.length k1V0) ∧ vd.cell? ⟨BV0, 1, none⟩ = some (.slice d2V0 Y.length k2V0) ∧ vd.cell? ⟨w2.heap.size, 0, none⟩ = some (.slice (some ⟨b1, 0, none⟩) xs.length xs.length) ∧ vd.cell? ⟨w2.heap.size, 1, none⟩ = some (.slice (some ⟨b2, 0, none⟩) ys.length ys.length) from ⟨(BV.below hbS).four.1, (BV.below hbS).four.2.1, (BV.below hbS).four.2.2.1, (BV.below hbS).four.2.2.2.1, (BB.below hbS).two.1, (BB.below hbS).two.2.1, (BS.below hbS).two.1, (BS.below hbS).two.2.1, (V0.below hbS).1.two.1, (V0.below hbS).1.two.2.1, (BX.below hbS).two.1, (BX.below hbS).two.2.1⟩)
          refine wpAnyH_take (i := 0) (oi := ⟨some 48, _, _, _, _, _⟩) (v := ?_) rfl (by kernel_rfl) (by kernel_rfl) (by kernel_rfl) (fun _ _ _ h => absurd h.1 (by simp)) (Or.inl ⟨by rfl, ?_⟩) (by assumption) ?_
          rotate_left
          · intro w hSw; (try dsimp only at hSw); go_simp; (try (with_reducible rfl))
          try simp only [Act.put, List.setIfInBounds_toArray, List.set_cons_zero, List.set_cons_succ]
          refine wpAnyH_take (i := 2) (oi := ⟨some 50, _, _, _, _, _⟩) (v := ?_) rfl (by kernel_rfl) (by kernel_rfl) (by kernel_rfl) (fun _ _ _ h => absurd h.1 (by simp)) (Or.inl ⟨by rfl, ?_⟩) (by assumption) ?_
          rotate_left
          · intro w hSw; (try dsimp only at hSw); go_simp; (try (with_reducible rfl))
          try simp only [Act.put, List.setIfInBounds_toArray, List.set_cons_zero, List.set_cons_succ]
          refine wpAnyH_take (i := 3) (oi := ⟨some 51, _, _, _, _, _⟩) (v := ?_) rfl (by kernel_rfl) (by kernel_rfl) (by kernel_rfl) (fun _ _ _ h => absurd h.1 (by simp)) (Or.inl ⟨by rfl, ?_⟩) (by assumption) ?_
          rotate_left
          · intro w hSw; (try dsimp only at hSw); go_simp; (try (with_reducible rfl))
          try simp only [Act.put, List.setIfInBounds_toArray, List.set_cons_zero, List.set_cons_succ]
          refine wpAnyH_take (i := 5) (oi := ⟨some 53, _, _, _, _, _⟩) (v := ?_) rfl (by kernel_rfl) (by kernel_rfl) (by kernel_rfl) (fun _ _ _ h => absurd h.1 (by simp)) (Or.inl ⟨by rfl, ?_⟩) (by assumption) ?_
          rotate_left
          · intro w hSw; (try dsimp only at hSw); go_simp; (try (with_reducible rfl))
          try simp only [Act.put, List.setIfInBounds_toArray, List.set_cons_zero, List.set_cons_succ]
          refine wpAnyH_ready (rs := [1, 10]) (by kernel_rfl) (by simp) ?_
          refine AllReadyH.cons (o := ⟨some 49, _, _, _, _, _⟩) rfl (fun K hK => ?_) (AllReadyH.cons (o := ⟨some 14, _, _, _, _, _⟩) rfl (fun K hK => ?_) AllReadyH.nil)
          · go_simp
            refine (toVariant_any _ _ _ _ _).mono ?_
            rintro e wt0 ⟨rfl, hbt0⟩
            have hz_hbt0 := hbt0.size
            replace hbS := chain hbS hbt0
            clear hbt0
            (try go_wp2_with fail)
            refine hK.out _ _ ⟨(BV.below hbS).four.1, (BV.below hbS).four.2.1, (BV.below hbS).four.2.2.1, (BV.below hbS).four.2.2.2.1, (BB.below hbS).two.1, (BB.below hbS).two.2.1, (BS.below hbS).two.1, (BS.below hbS).two.2.1, (V0.below hbS).1.two.1, (V0.below hbS).1.two.2.1, (BX.below hbS).two.1, (BX.below hbS).two.2.1⟩ (fun hHeld => ?_)
            clear hK K
            try simp only [Act.put, List.setIfInBounds_toArray, List.set_cons_zero, List.set_cons_succ]
            refine wpAnyH_ready (rs := [4, 10]) (by kernel_rfl) (by simp) ?_
            refine AllReadyH.cons (o := ⟨some 52, _, _, _, _, _⟩) rfl (fun K hK => ?_) (AllReadyH.cons (o := ⟨some 14, _, _, _, _, _⟩) rfl (fun K hK => ?_) AllReadyH.nil)
            · go_simp
              refine (toRoll_br ra rb _).mono ?_
              rintro e wt1 ⟨rfl, hbt1⟩
              have hz_hbt1 := hbt1.size
              replace hbS := chain hbS hbt1
              clear hbt1
              (try go_wp2_with fail)
              refine hK.out _ _ ⟨(BV.below hbS).four.1, (BV.below hbS).four.2.1, (BV.below hbS).four.2.2.1, (BV.below hbS).four.2.2.2.1, (BB.below hbS).two.1, (BB.below hbS).two.2.1, (BS.below hbS).two.1, (BS.below hbS).two.2.1, (V0.below hbS).1.two.1, (V0.below hbS).1.two.2.1, (BX.below hbS).two.1, (BX.below hbS).two.2.1⟩ (fun hHeld => ?_)
              clear hK K
              try simp only [Act.put, List.setIfInBounds_toArray, List.set_cons_zero, List.set_cons_succ]
              refine wpAnyH_ready (rs := [6, 10]) (by kernel_rfl) (by simp) ?_
              refine AllReadyH.cons (o := ⟨some 54, _, _, _, _, _⟩) rfl (fun K hK => ?_) (AllReadyH.cons (o := ⟨some 14, _, _, _, _, _⟩) rfl (fun K hK => ?_) AllReadyH.nil)
              · go_simp
                refine (HIM.out _ _ _ _ _ _ _ _ _ _ _ rfl rfl l1 l2 (OX.below hbS).irow1 (OX.below hbS).irow2 (OT.below hbS)).mono ?_
                rintro e wt2 ⟨d1, d2, k1, k2, rfl, hO, hbt2⟩
                have hz_hbt2 := hbt2.size
                replace hbS := chain hbS hbt2
                clear hbt2
                (try go_wp2_with fail)
                refine hK.out _ _ ⟨(BV.below hbS).four.1, (BV.below hbS).four.2.1, (BV.below hbS).four.2.2.1, (BV.below hbS).four.2.2.2.1, (BB.below hbS).two.1, (BB.below hbS).two.2.1, (BS.below hbS).two.1, (BS.below hbS).two.2.1, (V0.below hbS).1.two.1, (V0.below hbS).1.two.2.1, (BX.below hbS).two.1, (BX.below hbS).two.2.1⟩ (fun hHeld => ?_)
                clear hK K
                try simp only [Act.put, List.setIfInBounds_toArray, List.set_cons_zero, List.set_cons_succ]
                refine wpAnyH_take (i := 7) (oi := ⟨some 47, _, _, _, _, _⟩) (v := ?_) rfl (by kernel_rfl) (by kernel_rfl) (by kernel_rfl) (fun _ _ _ h => absurd h.1 (by simp)) (Or.inl ⟨by rfl, ?_⟩) (by assumption) ?_
                rotate_left
                · intro w hSw; (try dsimp only at hSw); go_simp; (try (with_reducible rfl))
                try simp only [Act.put, List.setIfInBounds_toArray, List.set_cons_zero, List.set_cons_succ]
                refine wpAnyH_take (i := 8) (oi := ⟨some 55, _, _, _, _, _⟩) (v := ?_) rfl (by kernel_rfl) (by kernel_rfl) (by kernel_rfl) (fun _ _ _ h => absurd h.1 (by simp)) (Or.inl ⟨by rfl, ?_⟩) (by assumption) ?_
                rotate_left
                · intro w hSw; (try dsimp only at hSw); go_simp; (try (with_reducible rfl))
                try simp only [Act.put, List.setIfInBounds_toArray, List.set_cons_zero, List.set_cons_succ]
                refine wpAnyH_take (i := 9) (oi := ⟨some 56, _, _, _, _, _⟩) (v := ?_) rfl (by kernel_rfl) (by kernel_rfl) (by kernel_rfl) (fun _ _ _ h => absurd h.1 (by simp)) (Or.inl ⟨by rfl, ?_⟩) (by assumption) ?_
                rotate_left
                · intro w hSw; (try dsimp only at hSw); go_simp; (try (with_reducible rfl))
                try simp only [Act.put, List.setIfInBounds_toArray, List.set_cons_zero, List.set_cons_succ]
                refine wpAnyH_ready (rs := [10]) (by kernel_rfl) (by simp) ?_
                refine AllReadyH.cons (o := ⟨some 14, _, _, _, _, _⟩) rfl (fun K hK => ?_) AllReadyH.nil
                go_simp
                refine hK.out _ _ ⟨(BV.below (hbS.alloc hbS.size _)).four.1, (BV.below (hbS.alloc hbS.size _)).four.2.1, (BV.below (hbS.alloc hbS.size _)).four.2.2.1, (BV.below (hbS.alloc hbS.size _)).four.2.2.2.1, (BB.below (hbS.alloc hbS.size _)).two.1, (BB.below (hbS.alloc hbS.size _)).two.2.1, (BS.below (hbS.alloc hbS.size _)).two.1, (BS.below (hbS.alloc hbS.size _)).two.2.1, (V0.below (hbS.alloc hbS.size _)).1.two.1, (V0.below (hbS.alloc hbS.size _)).1.two.2.1, (BX.below (hbS.alloc hbS.size _)).two.1, (BX.below (hbS.alloc hbS.size _)).two.2.1⟩ (fun hHeld => ?_)
                clear hK K
                try simp only [Act.put, List.setIfInBounds_toArray, List.set_cons_zero, List.set_cons_succ]
                have BA := Blk.new wt2 #[.slice none 0 0, .slice none 0 0] 32
                have hal : Below wt2.heap.size wt2 (wt2.alloc (.cells #[.slice none 0 0, .slice none 0 0] 32)) := (Below.refl _ _).alloc (Nat.le_refl _) _
                have hlN : wt2.heap.size + 1 ≤ (wt2.alloc (.cells #[.slice none 0 0, .slice none 0 0] 32)).heap.size ∧ (wt2.alloc (.cells #[.slice none 0 0, .slice none 0 0] 32)).heap.size ≤ wt2.heap.size + 1 := by simp
                have hzS := hbS.size
                replace hO := hO.below hal
                replace hbS := chain hbS hal
                clear hal
                generalize wt2.alloc (.cells #[.slice none 0 0, .slice none 0 0] 32) = wN at *
                refine wpAnyH_ready (rs := [11]) (by kernel_rfl) (by simp) ?_
                refine AllReadyH.cons (o := ⟨none, _, _, _, _, _⟩) rfl (fun K hK => ?_) AllReadyH.nil
                have q0 := BA.two.1
                have q1 := BA.two.2.1
                have qf := BA.two.2.2.1
                have ql := BA.two.2.2.2
                go_simp
                (try go_wp2_with fail)
                refine hK.out _ _ ⟨(BV.below (below2s BA hbS (by omega))).four.1, (BV.below (below2s BA hbS (by omega))).four.2.1, (BV.below (below2s BA hbS (by omega))).four.2.2.1, (BV.below (below2s BA hbS (by omega))).four.2.2.2.1, (BB.below (below2s BA hbS (by omega))).two.1, (BB.below (below2s BA hbS (by omega))).two.2.1, (BS.below (below2s BA hbS (by omega))).two.1, (BS.below (below2s BA hbS (by omega))).two.2.1, (V0.below (below2s BA hbS (by omega))).1.two.1, (V0.below (below2s BA hbS (by omega))).1.two.2.1, (BX.below (below2s BA hbS (by omega))).two.1, (BX.below (below2s BA hbS (by omega))).two.2.1⟩ (fun hHeld => ?_)
                clear hK K
                try simp only [Act.put, List.setIfInBounds_toArray, List.set_cons_zero, List.set_cons_succ]
                refine wpAnyH_take (i := 12) (oi := ⟨some 15, _, _, _, _, _⟩) (v := ?_) rfl (by kernel_rfl) (by kernel_rfl) (by kernel_rfl) (fun _ _ _ h => absurd h.1 (by simp)) (Or.inl ⟨by rfl, ?_⟩) (by assumption) ?_
                rotate_left
                · intro w hSw; (try dsimp only at hSw); go_simp; (try (with_reducible rfl))
                try simp only [Act.put, List.setIfInBounds_toArray, List.set_cons_zero, List.set_cons_succ]
                refine wpAnyH_done (by kernel_rfl) ?_ _
                rw [HJ.out]
                refine ⟨rfl, _, d1, d2, k1, k2, _, _, ?_, VarB.stored BA hO ?_ ?_ ?_ ?_, below2s BA hbS (by omega)⟩
                · simp only [Act.put, List.setIfInBounds_toArray, List.set_cons_zero, List.set_cons_succ]
                all_goals (first | omega | (simp; omega))
              · go_simp
                refine hK.out _ _ ⟨(BV.below (hbS.alloc hbS.size _)).four.1, (BV.below (hbS.alloc hbS.size _)).four.2.1, (BV.below (hbS.alloc hbS.size _)).four.2.2.1, (BV.below (hbS.alloc hbS.size _)).four.2.2.2.1, (BB.below (hbS.alloc hbS.size _)).two.1, (BB.below (hbS.alloc hbS.size _)).two.2.1, (BS.below (hbS.alloc hbS.size _)).two.1, (BS.below (hbS.alloc hbS.size _)).two.2.1, (V0.below (hbS.alloc hbS.size _)).1.two.1, (V0.below (hbS.alloc hbS.size _)).1.two.2.1, (BX.below (hbS.alloc hbS.size _)).two.1, (BX.below (hbS.alloc hbS.size _)).two.2.1⟩ (fun hHeld => ?_)
                clear hK K
                try simp only [Act.put, List.setIfInBounds_toArray, List.set_cons_zero, List.set_cons_succ]
                have BA := Blk.new wt1 #[.slice none 0 0, .slice none 0 0] 32
                have hal : Below wt1.heap.size wt1 (wt1.alloc (.cells #[.slice none 0 0, .slice none 0 0] 32)) := (Below.refl _ _).alloc (Nat.le_refl _) _
                have hlN : wt1.heap.size + 1 ≤ (wt1.alloc (.cells #[.slice none 0 0, .slice none 0 0] 32)).heap.size ∧ (wt1.alloc (.cells #[.slice none 0 0, .slice none 0 0] 32)).heap.size ≤ wt1.heap.size + 1 := by simp
                have hzS := hbS.size
                replace hbS := chain hbS hal
                clear hal
                generalize wt1.alloc (.cells #[.slice none 0 0, .slice none 0 0] 32) = wN at *
                refine wpAnyH_ready (rs := [6]) (by kernel_rfl) (by simp) ?_
                refine AllReadyH.cons (o := ⟨some 54, _, _, _, _, _⟩) rfl (fun K hK => ?_) AllReadyH.nil
                go_simp
                refine (HIM.out _ _ _ _ _ _ _ _ _ _ _ rfl rfl l1 l2 (OX.below hbS).irow1 (OX.below hbS).irow2 (OT.below hbS)).mono ?_
                rintro e wt2 ⟨d1, d2, k1, k2, rfl, hO, hbt2⟩
                replace BA := BA.below hbt2
                have hz_hbt2 := hbt2.size
                replace hbS := chain hbS hbt2
                clear hbt2
                (try go_wp2_with fail)
                refine hK.out _ _ ⟨(BV.below hbS).four.1, (BV.below hbS).four.2.1, (BV.below hbS).four.2.2.1, (BV.below hbS).four.2.2.2.1, (BB.below hbS).two.1, (BB.below hbS).two.2.1, (BS.below hbS).two.1, (BS.below hbS).two.2.1, (V0.below hbS).1.two.1, (V0.below hbS).1.two.2.1, (BX.below hbS).two.1, (BX.below hbS).two.2.1⟩ (fun hHeld => ?_)
                clear hK K
                try simp only [Act.put, List.setIfInBounds_toArray, List.set_cons_zero, List.set_cons_succ]
                refine wpAnyH_take (i := 7) (oi := ⟨some 47, _, _, _, _, _⟩) (v := ?_) rfl (by kernel_rfl) (by kernel_rfl) (by kernel_rfl) (fun _ _ _ h => absurd h.1 (by simp)) (Or.inl ⟨by rfl, ?_⟩) (by assumption) ?_
                rotate_left
                · intro w hSw; (try dsimp only at hSw); go_simp; (try (with_reducible rfl))
                try simp only [Act.put, List.setIfInBounds_toArray, List.set_cons_zero, List.set_cons_succ]
                refine wpAnyH_take (i := 8) (oi := ⟨some 55, _, _, _, _, _⟩) (v := ?_) rfl (by kernel_rfl) (by kernel_rfl) (by kernel_rfl) (fun _ _ _ h => absurd h.1 (by simp)) (Or.inl ⟨by rfl, ?_⟩) (by assumption) ?_
                rotate_left
                · intro w hSw; (try dsimp only at hSw); go_simp; (try (with_reducible rfl))
                try simp only [Act.put, List.setIfInBounds_toArray, List.set_cons_zero, List.set_cons_succ]
                refine wpAnyH_take (i := 9) (oi := ⟨some 56, _, _, _, _, _⟩) (v := ?_) rfl (by kernel_rfl) (by kernel_rfl) (by kernel_rfl) (fun _ _ _ h => absurd h.1 (by simp)) (Or.inl ⟨by rfl, ?_⟩) (by assumption) ?_
                rotate_left
                · intro w hSw; (try dsimp only at hSw); go_simp; (try (with_reducible rfl))
                try simp only [Act.put, List.setIfInBounds_toArray, List.set_cons_zero, List.set_cons_succ]
                refine wpAnyH_ready (rs := [11]) (by kernel_rfl) (by simp) ?_
                refine AllReadyH.cons (o := ⟨none, _, _, _, _, _⟩) rfl (fun K hK => ?_) AllReadyH.nil
                have q0 := BA.two.1
                have q1 := BA.two.2.1
                have qf := BA.two.2.2.1
                have ql := BA.two.2.2.2
                go_simp
                (try go_wp2_with fail)
                refine hK.out _ _ ⟨(BV.below (below2s BA hbS (by omega))).four.1, (BV.below (below2s BA hbS (by omega))).four.2.1, (BV.below (below2s BA hbS (by omega))).four.2.2.1, (BV.below (below2s BA hbS (by omega))).four.2.2.2.1, (BB.below (below2s BA hbS (by omega))).two.1, (BB.below (below2s BA hbS (by omega))).two.2.1, (BS.below (below2s BA hbS (by omega))).two.1, (BS.below (below2s BA hbS (by omega))).two.2.1, (V0.below (below2s BA hbS (by omega))).1.two.1, (V0.below (below2s BA hbS (by omega))).1.two.2.1, (BX.below (below2s BA hbS (by omega))).two.1, (BX.below (below2s BA hbS (by omega))).two.2.1⟩ (fun hHeld => ?_)
                clear hK K
                try simp only [Act.put, List.setIfInBounds_toArray, List.set_cons_zero, List.set_cons_succ]
                refine wpAnyH_take (i := 12) (oi := ⟨some 15, _, _, _, _, _⟩) (v := ?_) rfl (by kernel_rfl) (by kernel_rfl) (by kernel_rfl) (fun _ _ _ h => absurd h.1 (by simp)) (Or.inl ⟨by rfl, ?_⟩) (by assumption) ?_
                rotate_left
                · intro w hSw; (try dsimp only at hSw); go_simp; (try (with_reducible rfl))
                try simp only [Act.put, List.setIfInBounds_toArray, List.set_cons_zero, List.set_cons_succ]
                refine wpAnyH_done (by kernel_rfl) ?_ _
                rw [HJ.out]
                refine ⟨rfl, _, d1, d2, k1, k2, _, _, ?_, VarB.stored BA hO ?_ ?_ ?_ ?_, below2s BA hbS (by omega)⟩
                · simp only [Act.put, List.setIfInBounds_toArray, List.set_cons_zero, List.set_cons_succ]
                all_goals (first | omega | (simp; omega))
            · go_simp
              refine hK.out _ _ ⟨(BV.below (hbS.alloc hbS.size _)).four.1, (BV.below (hbS.alloc hbS.size _)).four.2.1, (BV.below (hbS.alloc hbS.size _)).four.2.2.1, (BV.below (hbS.alloc hbS.size _)).four.2.2.2.1, (BB.below (hbS.alloc hbS.size _)).two.1, (BB.below (hbS.alloc hbS.size _)).two.2.1, (BS.below (hbS.alloc hbS.size _)).two.1, (BS.below (hbS.alloc hbS.size _)).two.2.1, (V0.below (hbS.alloc hbS.size _)).1.two.1, (V0.below (hbS.alloc hbS.size _)).1.two.2.1, (BX.below (hbS.alloc hbS.size _)).two.1, (BX.below (hbS.alloc hbS.size _)).two.2.1⟩ (fun hHeld => ?_)
              clear hK K
              try simp only [Act.put, List.setIfInBounds_toArray, List.set_cons_zero, List.set_cons_succ]
              have BA := Blk.new wt0 #[.slice none 0 0, .slice none 0 0] 32
              have hal : Below wt0.heap.size wt0 (wt0.alloc (.cells #[.slice none 0 0, .slice none 0 0] 32)) := (Below.refl _ _).alloc (Nat.le_refl _) _
              have hlN : wt0.heap.size + 1 ≤ (wt0.alloc (.cells #[.slice none 0 0, .slice none 0 0] 32)).heap.size ∧ (wt0.alloc (.cells #[.slice none 0 0, .slice none 0 0] 32)).heap.size ≤ wt0.heap.size + 1 := by simp
              have hzS := hbS.size
              replace hbS := chain hbS hal
              clear hal
              generalize wt0.alloc (.cells #[.slice none 0 0, .slice none 0 0] 32) = wN at *
              refine wpAnyH_ready (rs := [4]) (by kernel_rfl) (by simp) ?_
              refine AllReadyH.cons (o := ⟨some 52, _, _, _, _, _⟩) rfl (fun K hK => ?_) AllReadyH.nil
              go_simp
              refine (toRoll_br ra rb _).mono ?_
              rintro e wt1 ⟨rfl, hbt1⟩
              replace BA := BA.below hbt1
              have hz_hbt1 := hbt1.size
              replace hbS := chain hbS hbt1
              clear hbt1
              (try go_wp2_with fail)
              refine hK.out _ _ ⟨(BV.below hbS).four.1, (BV.below hbS).four.2.1, (BV.below hbS).four.2.2.1, (BV.below hbS).four.2.2.2.1, (BB.below hbS).two.1, (BB.below hbS).two.2.1, (BS.below hbS).two.1, (BS.below hbS).two.2.1, (V0.below hbS).1.two.1, (V0.below hbS).1.two.2.1, (BX.below hbS).two.1, (BX.below hbS).two.2.1⟩ (fun hHeld => ?_)
              clear hK K
              try simp only [Act.put, List.setIfInBounds_toArray, List.set_cons_zero, List.set_cons_succ]
              refine wpAnyH_ready (rs := [6]) (by kernel_rfl) (by simp) ?_
              refine AllReadyH.cons (o := ⟨some 54, _, _, _, _, _⟩) rfl (fun K hK => ?_) AllReadyH.nil
              go_simp
              refine (HIM.out _ _ _ _ _ _ _ _ _ _ _ rfl rfl l1 l2 (OX.below hbS).irow1 (OX.below hbS).irow2 (OT.below hbS)).mono ?_
              rintro e wt2 ⟨d1, d2, k1, k2, rfl, hO, hbt2⟩
              replace BA := BA.below hbt2
              have hz_hbt2 := hbt2.size
              replace hbS := chain hbS hbt2
              clear hbt2
              (try go_wp2_with fail)
              refine hK.out _ _ ⟨(BV.below hbS).four.1, (BV.below hbS).four.2.1, (BV.below hbS).four.2.2.1, (BV.below hbS).four.2.2.2.1, (BB.below hbS).two.1, (BB.below hbS).two.2.1, (BS.below hbS).two.1, (BS.below hbS).two.2.1, (V0.below hbS).1.two.1, (V0.below hbS).1.two.2.1, (BX.below hbS).two.1, (BX.below hbS).two.2.1⟩ (fun hHeld => ?_)
              clear hK K
              try simp only [Act.put, List.setIfInBounds_toArray, List.set_cons_zero, List.set_cons_succ]
              refine wpAnyH_take (i := 7) (oi := ⟨some 47, _, _, _, _, _⟩) (v := ?_) rfl (by kernel_rfl) (by kernel_rfl) (by kernel_rfl) (fun _ _ _ h => absurd h.1 (by simp)) (Or.inl ⟨by rfl, ?_⟩) (by assumption) ?_
              rotate_left
              · intro w hSw; (try dsimp only at hSw); go_simp; (try (with_reducible rfl))
              try simp only [Act.put, List.setIfInBounds_toArray, List.set_cons_zero, List.set_cons_succ]
              refine wpAnyH_take (i := 8) (oi := ⟨some 55, _, _, _, _, _⟩) (v := ?_) rfl (by kernel_rfl) (by kernel_rfl) (by kernel_rfl) (fun _ _ _ h => absurd h.1 (by simp)) (Or.inl ⟨by rfl, ?_⟩) (by assumption) ?_
              rotate_left
              · intro w hSw; (try dsimp only at hSw); go_simp; (try (with_reducible rfl))
              try simp only [Act.put, List.setIfInBounds_toArray, List.set_cons_zero, List.set_cons_succ]
              refine wpAnyH_take (i := 9) (oi := ⟨some 56, _, _, _, _, _⟩) (v := ?_) rfl (by kernel_rfl) (by kernel_rfl) (by kernel_rfl) (fun _ _ _ h => absurd h.1 (by simp)) (Or.inl ⟨by rfl, ?_⟩) (by assumption) ?_
              rotate_left
              · intro w hSw; (try dsimp only at hSw); go_simp; (try (with_reducible rfl))
              try simp only [Act.put, List.setIfInBounds_toArray, List.set_cons_zero, List.set_cons_succ]
              refine wpAnyH_ready (rs := [11]) (by kernel_rfl) (by simp) ?_
              refine AllReadyH.cons (o := ⟨none, _, _, _, _, _⟩) rfl (fun K hK => ?_) AllReadyH.nil
              have q0 := BA.two.1
              have q1 := BA.two.2.1
              have qf := BA.two.2.2.1
              have ql := BA.two.2.2.2
              go_simp
              (try go_wp2_with fail)
              refine hK.out _ _ ⟨(BV.below (below2s BA hbS (by omega))).four.1, (BV.below (below2s BA hbS (by omega))).four.2.1, (BV.below (below2s BA hbS (by omega))).four.2.2.1, (BV.below (below2s BA hbS (by omega))).four.2.2.2.1, (BB.below (below2s BA hbS (by omega))).two.1, (BB.below (below2s BA hbS (by omega))).two.2.1, (BS.below (below2s BA hbS (by omega))).two.1, (BS.below (below2s BA hbS (by omega))).two.2.1, (V0.below (below2s BA hbS (by omega))).1.two.1, (V0.below (below2s BA hbS (by omega))).1.two.2.1, (BX.below (below2s BA hbS (by omega))).two.1, (BX.below (below2s BA hbS (by omega))).two.2.1⟩ (fun hHeld => ?_)
              clear hK K
              try simp only [Act.put, List.setIfInBounds_toArray, List.set_cons_zero, List.set_cons_succ]
              refine wpAnyH_take (i := 12) (oi := ⟨some 15, _, _, _, _, _⟩) (v := ?_) rfl (by kernel_rfl) (by kernel_rfl) (by kernel_rfl) (fun _ _ _ h => absurd h.1 (by simp)) (Or.inl ⟨by rfl, ?_⟩) (by assumption) ?_
              rotate_left
              · intro w hSw; (try dsimp only at hSw); go_simp; (try (with_reducible rfl))
              try simp only [Act.put, List.setIfInBounds_toArray, List.set_cons_zero, List.set_cons_succ]
              refine wpAnyH_done (by kernel_rfl) ?_ _
              rw [HJ.out]
              refine ⟨rfl, _, d1, d2, k1, k2, _, _, ?_, VarB.stored BA hO ?_ ?_ ?_ ?_, below2s BA hbS (by omega)⟩
              · simp only [Act.put, List.setIfInBounds_toArray, List.set_cons_zero, List.set_cons_succ]
              all_goals (first | omega | (simp; omega))
          · go_simp
            refine hK.out _ _ ⟨(BV.below (hbS.alloc hbS.size _)).four.1, (BV.below (hbS.alloc hbS.size _)).four.2.1, (BV.below (hbS.alloc hbS.size _)).four.2.2.1, (BV.below (hbS.alloc hbS.size _)).four.2.2.2.1, (BB.below (hbS.alloc hbS.size _)).two.1, (BB.below (hbS.alloc hbS.size _)).two.2.1, (BS.below (hbS.alloc hbS.size _)).two.1, (BS.below (hbS.alloc hbS.size _)).two.2.1, (V0.below (hbS.alloc hbS.size _)).1.two.1, (V0.below (hbS.alloc hbS.size _)).1.two.2.1, (BX.below (hbS.alloc hbS.size _)).two.1, (BX.below (hbS.alloc hbS.size _)).two.2.1⟩ (fun hHeld => ?_)
            clear hK K
            try simp only [Act.put, List.setIfInBounds_toArray, List.set_cons_zero, List.set_cons_succ]
            have BA := Blk.new vd #[.slice none 0 0, .slice none 0 0] 32
            have hal : Below vd.heap.size vd (vd.alloc (.cells #[.slice none 0 0, .slice none 0 0] 32)) := (Below.refl _ _).alloc (Nat.le_refl _) _
            have hlN : vd.heap.size + 1 ≤ (vd.alloc (.cells #[.slice none 0 0, .slice none 0 0] 32)).heap.size ∧ (vd.alloc (.cells #[.slice none 0 0, .slice none 0 0] 32)).heap.size ≤ vd.heap.size + 1 := by simp
            have hzS := hbS.size
            replace hbS := chain hbS hal
            clear hal
            generalize vd.alloc (.cells #[.slice none 0 0, .slice none 0 0] 32) = wN at *
            refine wpAnyH_ready (rs := [1]) (by kernel_rfl) (by simp) ?_
            refine AllReadyH.cons (o := ⟨some 49, _, _, _, _, _⟩) rfl (fun K hK => ?_) AllReadyH.nil
            go_simp
            refine (toVariant_any _ _ _ _ _).mono ?_
            rintro e wt0 ⟨rfl, hbt0⟩
            replace BA := BA.below hbt0
            have hz_hbt0 := hbt0.size
            replace hbS := chain hbS hbt0
            clear hbt0
            (try go_wp2_with fail)
            refine hK.out _ _ ⟨(BV.below hbS).four.1, (BV.below hbS).four.2.1, (BV.below hbS).four.2.2.1, (BV.below hbS).four.2.2.2.1, (BB.below hbS).two.1, (BB.below hbS).two.2.1, (BS.below hbS).two.1, (BS.below hbS).two.2.1, (V0.below hbS).1.two.1, (V0.below hbS).1.two.2.1, (BX.below hbS).two.1, (BX.below hbS).two.2.1⟩ (fun hHeld => ?_)
            clear hK K
            try simp only [Act.put, List.setIfInBounds_toArray, List.set_cons_zero, List.set_cons_succ]
            refine wpAnyH_ready (rs := [4]) (by kernel_rfl) (by simp) ?_
            refine AllReadyH.cons (o := ⟨some 52, _, _, _, _, _⟩) rfl (fun K hK => ?_) AllReadyH.nil
            go_simp
            refine (toRoll_br ra rb _).mono ?_
            rintro e wt1 ⟨rfl, hbt1⟩
            replace BA := BA.below hbt1
            have hz_hbt1 := hbt1.size
            replace hbS := chain hbS hbt1
            clear hbt1
            (try go_wp2_with fail)
            refine hK.out _ _ ⟨(BV.below hbS).four.1, (BV.below hbS).four.2.1, (BV.below hbS).four.2.2.1, (BV.below hbS).four.2.2.2.1, (BB.below hbS).two.1, (BB.below hbS).two.2.1, (BS.below hbS).two.1, (BS.below hbS).two.2.1, (V0.below hbS).1.two.1, (V0.below hbS).1.two.2.1, (BX.below hbS).two.1, (BX.below hbS).two.2.1⟩ (fun hHeld => ?_)
            clear hK K
            try simp only [Act.put, List.setIfInBounds_toArray, List.set_cons_zero, List.set_cons_succ]
            refine wpAnyH_ready (rs := [6]) (by kernel_rfl) (by simp) ?_
            refine AllReadyH.cons (o := ⟨some 54, _, _, _, _, _⟩) rfl (fun K hK => ?_) AllReadyH.nil
            go_simp
            refine (HIM.out _ _ _ _ _ _ _ _ _ _ _ rfl rfl l1 l2 (OX.below hbS).irow1 (OX.below hbS).irow2 (OT.below hbS)).mono ?_
            rintro e wt2 ⟨d1, d2, k1, k2, rfl, hO, hbt2⟩
            replace BA := BA.below hbt2
            have hz_hbt2 := hbt2.size
            replace hbS := chain hbS hbt2
            clear hbt2
            (try go_wp2_with fail)
            refine hK.out _ _ ⟨(BV.below hbS).four.1, (BV.below hbS).four.2.1, (BV.below hbS).four.2.2.1, (BV.below hbS).four.2.2.2.1, (BB.below hbS).two.1, (BB.below hbS).two.2.1, (BS.below hbS).two.1, (BS.below hbS).two.2.1, (V0.below hbS).1.two.1, (V0.below hbS).1.two.2.1, (BX.below hbS).two.1, (BX.below hbS).two.2.1⟩ (fun hHeld => ?_)
            clear hK K
            try simp only [Act.put, List.setIfInBounds_toArray, List.set_cons_zero, List.set_cons_succ]
            refine wpAnyH_take (i := 7) (oi := ⟨some 47, _, _, _, _, _⟩) (v := ?_) rfl (by kernel_rfl) (by kernel_rfl) (by kernel_rfl) (fun _ _ _ h => absurd h.1 (by simp)) (Or.inl ⟨by rfl, ?_⟩) (by assumption) ?_
            rotate_left
            · intro w hSw; (try dsimp only at hSw); go_simp; (try (with_reducible rfl))
            try simp only [Act.put, List.setIfInBounds_toArray, List.set_cons_zero, List.set_cons_succ]
            refine wpAnyH_take (i := 8) (oi := ⟨some 55, _, _, _, _, _⟩) (v := ?_) rfl (by kernel_rfl) (by kernel_rfl) (by kernel_rfl) (fun _ _ _ h => absurd h.1 (by simp)) (Or.inl ⟨by rfl, ?_⟩) (by assumption) ?_
            rotate_left
            · intro w hSw; (try dsimp only at hSw); go_simp; (try (with_reducible rfl))
            try simp only [Act.put, List.setIfInBounds_toArray, List.set_cons_zero, List.set_cons_succ]
            refine wpAnyH_take (i := 9) (oi := ⟨some 56, _, _, _, _, _⟩) (v := ?_) rfl (by kernel_rfl) (by kernel_rfl) (by kernel_rfl) (fun _ _ _ h => absurd h.1 (by simp)) (Or.inl ⟨by rfl, ?_⟩) (by assumption) ?_
            rotate_left
            · intro w hSw; (try dsimp only at hSw); go_simp; (try (with_reducible rfl))
            try simp only [Act.put, List.setIfInBounds_toArray, List.set_cons_zero, List.set_cons_succ]
            refine wpAnyH_ready (rs := [11]) (by kernel_rfl) (by simp) ?_
            refine AllReadyH.cons (o := ⟨none, _, _, _, _, _⟩) rfl (fun K hK => ?_) AllReadyH.nil
            have q0 := BA.two.1
            have q1 := BA.two.2.1
            have qf := BA.two.2.2.1
            have ql := BA.two.2.2.2
            go_simp
            (try go_wp2_with fail)
            refine hK.out _ _ ⟨(BV.below (below2s BA hbS (by omega))).four.1, (BV.below (below2s BA hbS (by omega))).four.2.1, (BV.below (below2s BA hbS (by omega))).four.2.2.1, (BV.below (below2s BA hbS (by omega))).four.2.2.2.1, (BB.below (below2s BA hbS (by omega))).two.1, (BB.below (below2s BA hbS (by omega))).two.2.1, (BS.below (below2s BA hbS (by omega))).two.1, (BS.below (below2s BA hbS (by omega))).two.2.1, (V0.below (below2s BA hbS (by omega))).1.two.1, (V0.below (below2s BA hbS (by omega))).1.two.2.1, (BX.below (below2s BA hbS (by omega))).two.1, (BX.below (below2s BA hbS (by omega))).two.2.1⟩ (fun hHeld => ?_)
            clear hK K
            try simp only [Act.put, List.setIfInBounds_toArray, List.set_cons_zero, List.set_cons_succ]
            refine wpAnyH_take (i := 12) (oi := ⟨some 15, _, _, _, _, _⟩) (v := ?_) rfl (by kernel_rfl) (by kernel_rfl) (by kernel_rfl) (fun _ _ _ h => absurd h.1 (by simp)) (Or.inl ⟨by rfl, ?_⟩) (by assumption) ?_
            rotate_left
            · intro w hSw; (try dsimp only at hSw); go_simp; (try (with_reducible rfl))
            try simp only [Act.put, List.setIfInBounds_toArray, List.set_cons_zero, List.set_cons_succ]
            refine wpAnyH_done (by kernel_rfl) ?_ _
            rw [HJ.out]
            refine ⟨rfl, _, d1, d2, k1, k2, _, _, ?_, VarB.stored BA hO ?_ ?_ ?_ ?_, below2s BA hbS (by omega)⟩
            · simp only [Act.put, List.setIfInBounds_toArray, List.set_cons_zero, List.set_cons_succ]
            all_goals (first | omega | (simp; omega))
        · intro a' w5 hj
          rw [HJ.out] at hj
          clear HJ
          obtain ⟨BV1, d1V1, d2V1, k1V1, k2V1, loV1, hiV1, rfl, V1, hbS⟩ := hj
          try simp only [Act.put, List.setIfInBounds_toArray, List.set_cons_zero, List.set_cons_succ]
          replace BV := BV.below hbS
          replace BB := BB.below hbS
          replace BS := BS.below hbS
          replace V0 := V0.below hbS
          replace OX := OX.below hbS
          replace BX := BX.below hbS
          replace OT := OT.below hbS
          have hz5 := hbS.size
          replace hb := chain hb hbS
          clear hbS
          have e1V1 := V1.2.2.1
          have e2V1 := V1.2.2.2.1
          have e3V1 := V1.2.2.2.2.1
          have e4V1 := V1.2.2.2.2.2
          have e5V1 := V1.1.lt
          obtain ⟨q0_BV, q1_BV, q2_BV, q3_BV, qf_BV, ql_BV⟩ := BV.four
          obtain ⟨q0_BB, q1_BB, qf_BB, ql_BB⟩ := BB.two
          obtain ⟨q0_BS, q1_BS, qf_BS, ql_BS⟩ := BS.two
          obtain ⟨q0_V0_1, q1_V0_1, qf_V0_1, ql_V0_1⟩ := V0.1.two
          obtain ⟨q0_BX, q1_BX, qf_BX, ql_BX⟩ := BX.two
          obtain ⟨q0_V1_1, q1_V1_1, qf_V1_1, ql_V1_1⟩ := V1.1.two
          go_wp2_with fail
          clear q0_BV q1_BV q2_BV q3_BV qf_BV ql_BV
          clear q0_BB q1_BB qf_BB ql_BB
          clear q0_BS q1_BS qf_BS ql_BS
          clear q0_V0_1 q1_V0_1 qf_V0_1 ql_V0_1
          clear q0_BX q1_BX qf_BX ql_BX
          clear q0_V1_1 q1_V1_1 qf_V1_1 ql_V1_1
          refine (eqBoard_same _ _ _ _ _ _ _ _ _ _ X Y _ rfl rfl lX lY V1.2.1.irow1 V1.2.1.irow2 V0.2.1.irow1 V0.2.1.irow2).mono ?_
          rintro e w6 ⟨rfl, hb6⟩
          replace BV := BV.below hb6
          replace BB := BB.below hb6
          replace BS := BS.below hb6
          replace V0 := V0.below hb6
          replace OX := OX.below hb6
          replace BX := BX.below hb6
          replace OT := OT.below hb6
          replace V1 := V1.below hb6
          have hz6 := hb6.size
          replace hb := chain hb hb6
          clear hb6
          obtain ⟨q0_BV, q1_BV, q2_BV, q3_BV, qf_BV, ql_BV⟩ := BV.four
          obtain ⟨q0_BB, q1_BB, qf_BB, ql_BB⟩ := BB.two
          obtain ⟨q0_BS, q1_BS, qf_BS, ql_BS⟩ := BS.two
          obtain ⟨q0_V0_1, q1_V0_1, qf_V0_1, ql_V0_1⟩ := V0.1.two
          obtain ⟨q0_BX, q1_BX, qf_BX, ql_BX⟩ := BX.two
          obtain ⟨q0_V1_1, q1_V1_1, qf_V1_1, ql_V1_1⟩ := V1.1.two
          go_wp2_with fail
          clear q0_BV q1_BV q2_BV q3_BV qf_BV ql_BV
          clear q0_BB q1_BB qf_BB ql_BB
          clear q0_BS q1_BS qf_BS ql_BS
          clear q0_V0_1 q1_V0_1 qf_V0_1 ql_V0_1
          clear q0_BX q1_BX qf_BX ql_BX
          clear q0_V1_1 q1_V1_1 qf_V1_1 ql_V1_1
          have hd7 : w6.drew.heap.size = w6.heap.size := rfl
          replace BV := BV.drew
          replace BB := BB.drew
          replace BS := BS.drew
          replace V0 := V0.drew
          replace OX := OX.drew
          replace BX := BX.drew
          replace OT := OT.drew
          replace V1 := V1.drew
          replace hb := hb.drew
          refine wp_region_held_drew (S := fun w' => w'.cell? ⟨w.heap.size, 0, none⟩ = some (.int .i64 p) ∧ w'.cell? ⟨w.heap.size, 1, none⟩ = some (.int .i64 c) ∧ w'.cell? ⟨w.heap.size, 2, none⟩ = some (.int .i64 h) ∧ w'.cell? ⟨w.heap.size, 3, none⟩ = some (.int .i64 s) ∧ w'.cell? ⟨(w.heap.size + 1), 0, none⟩ = some (.slice a1 xs.length c1) ∧ w'.cell? ⟨(w.heap.size + 1), 1, none⟩ = some (.slice a2 ys.length c2) ∧ w'.cell? ⟨(w.heap.size + 1 + 1), 0, none⟩ = some (.int .i64 ra) ∧ w'.cell? ⟨(w.heap.size + 1 + 1), 1, none⟩ = some (.int .i64 rb) ∧ w'.cell? ⟨BV0, 0, none⟩ = some (.slice d1V0 X.length k1V0) ∧ w'.cell? ⟨BV0, 1, none⟩ = some (.slice d2V0 Y.length k2V0) ∧ w'.cell? ⟨w2.heap.size, 0, none⟩ = some (.slice (some ⟨b1, 0, none⟩) xs.length xs.length) ∧ w'.cell? ⟨w2.heap.size, 1, none⟩ = some (.slice (some ⟨b2, 0, none⟩) ys.length ys.length) ∧ w'.cell? ⟨BV1, 0, none⟩ = some (.slice d1V1 X.length k1V1) ∧ w'.cell? ⟨BV1, 1, none⟩ = some (.slice d2V1 Y.length k2V1)) (by kernel_rfl) ⟨BV.four.1, BV.four.2.1, BV.four.2.2.1, BV.four.2.2.2.1, BB.two.1, BB.two.2.1, BS.two.1, BS.two.2.1, V0.1.two.1, V0.1.two.2.1, BX.two.1, BX.two.2.1, V1.1.two.1, V1.1.two.2.1⟩ (fun hHeld => ?_)
          clear hHeld
          generalize w6.drew = vd7 at *
          have hHeld : vd7.cell? ⟨w.heap.size, 0, none⟩ = some (.int .i64 p) ∧ vd7.cell? ⟨w.heap.size, 1, none⟩ = some (.int .i64 c) ∧ vd7.cell? ⟨w.heap.size, 2, none⟩ = some (.int .i64 h) ∧ vd7.cell? ⟨w.heap.size, 3, none⟩ = some (.int .i64 s) ∧ vd7.cell? ⟨(w.heap.size + 1), 0, none⟩ = some (.slice a1 xs.length c1) ∧ vd7.cell? ⟨(w.heap.size + 1), 1, none⟩ = some (.slice a2 ys.length c2) ∧ vd7.cell? ⟨(w.heap.size + 1 + 1), 0, none⟩ = some (.int .i64 ra) ∧ vd7.cell? ⟨(w.heap.size + 1 + 1), 1, none⟩ = some (.int .i64 rb) ∧ vd7.cell? ⟨BV0, 0, none⟩ = some (.slice d1V0 X.length k1V0) ∧ vd7.cell? ⟨BV0, 1, none⟩ = some (.slice d2V0 Y.length k2V0) ∧ vd7.cell? ⟨w2.heap.size, 0, none⟩ = some (.slice (some ⟨b1, 0, none⟩) xs.length xs.length) ∧ vd7.cell? ⟨w2.heap.size, 1, none⟩ = some (.slice (some ⟨b2, 0, none⟩) ys.length ys.length) ∧ vd7.cell? ⟨BV1, 0, none⟩ = some (.slice d1V1 X.length k1V1) ∧ vd7.cell? ⟨BV1, 1, none⟩ = some (.slice d2V1 Y.length k2V1) := ⟨BV.four.1, BV.four.2.1, BV.four.2.2.1, BV.four.2.2.2.1, BB.two.1, BB.two.2.1, BS.two.1, BS.two.2.1, V0.1.two.1, V0.1.two.2.1, BX.two.1, BX.two.2.1, V1.1.two.1, V1.1.two.2.1⟩
          refine wpAnyH_take (i := 0) (oi := ⟨some 66, _, _, _, _, _⟩) (v := ?_) rfl (by kernel_rfl) (by kernel_rfl) (by kernel_rfl) (fun _ _ _ h => h) (Or.inl ⟨by rfl, ?_⟩) (by assumption) ?_
          rotate_left
          · intro w hSw; (try dsimp only at hSw); go_simp; (try (with_reducible rfl))
          try simp only [Act.put, List.setIfInBounds_toArray, List.set_cons_zero, List.set_cons_succ]
          refine wpAnyH_take (i := 1) (oi := ⟨some 67, _, _, _, _, _⟩) (v := ?_) rfl (by kernel_rfl) (by kernel_rfl) (by kernel_rfl) (fun _ _ _ h => h) (Or.inl ⟨by rfl, ?_⟩) (by assumption) ?_
          rotate_left
          · intro w hSw; (try dsimp only at hSw); go_simp; (try (with_reducible rfl))
          try simp only [Act.put, List.setIfInBounds_toArray, List.set_cons_zero, List.set_cons_succ]
          refine wpAnyH_ready (rs := [2]) (by kernel_rfl) (by simp) ?_
          refine AllReadyH.cons (o := ⟨some 68, _, _, _, _, _⟩) rfl (fun K hK => ?_) AllReadyH.nil
          go_simp
          refine (toBoard_any a1 a2 _ _ c1 c2 xs ys _ rfl rfl l1 l2 (r1.below hb) (r2.below hb)).mono ?_
          rintro e w8 ⟨g1, g2, rfl, gg1, gg2, R1, R2, hb8⟩
          replace BV := BV.below hb8
          replace BB := BB.below hb8
          replace BS := BS.below hb8
          replace V0 := V0.below hb8
          replace OX := OX.below hb8
          replace BX := BX.below hb8
          replace OT := OT.below hb8
          replace V1 := V1.below hb8
          have hz8 := hb8.size
          replace hb := chain hb hb8
          clear hb8
          (try go_wp2_with fail)
          refine hK.out _ _ ⟨BV.four.1, BV.four.2.1, BV.four.2.2.1, BV.four.2.2.2.1, BB.two.1, BB.two.2.1, BS.two.1, BS.two.2.1, V0.1.two.1, V0.1.two.2.1, BX.two.1, BX.two.2.1, V1.1.two.1, V1.1.two.2.1⟩ (fun hHeld => ?_)
          clear hK K
          try simp only [Act.put, List.setIfInBounds_toArray, List.set_cons_zero, List.set_cons_succ]
          refine wpAnyH_ready (rs := [3]) (by kernel_rfl) (by simp) ?_
          refine AllReadyH.cons (o := ⟨some 69, _, _, _, _, _⟩) rfl (fun K hK => ?_) AllReadyH.nil
          go_simp
          refine (eqBoard_same _ _ _ _ _ _ _ _ _ _ xs ys _ rfl rfl l1 l2 OX.irow1 OX.irow2 R1.irow R2.irow).mono ?_
          rintro e w9 ⟨rfl, hb9⟩
          replace BV := BV.below hb9
          replace BB := BB.below hb9
          replace BS := BS.below hb9
          replace V0 := V0.below hb9
          replace OX := OX.below hb9
          replace BX := BX.below hb9
          replace OT := OT.below hb9
          replace V1 := V1.below hb9
          replace R1 := R1.below hb9
          replace R2 := R2.below hb9
          have hz9 := hb9.size
          replace hb := chain hb hb9
          clear hb9
          (try go_wp2_with fail)
          refine hK.out _ _ ⟨BV.four.1, BV.four.2.1, BV.four.2.2.1, BV.four.2.2.2.1, BB.two.1, BB.two.2.1, BS.two.1, BS.two.2.1, V0.1.two.1, V0.1.two.2.1, BX.two.1, BX.two.2.1, V1.1.two.1, V1.1.two.2.1⟩ (fun hHeld => ?_)
          clear hK K
          try simp only [Act.put, List.setIfInBounds_toArray, List.set_cons_zero, List.set_cons_succ]
          refine wpAnyH_take (i := 4) (oi := ⟨some 70, _, _, _, _, _⟩) (v := ?_) rfl (by kernel_rfl) (by kernel_rfl) (by kernel_rfl) (fun _ _ _ h => h) (Or.inl ⟨by rfl, ?_⟩) (by assumption) ?_
          rotate_left
          · intro w hSw; (try dsimp only at hSw); go_simp; (try (with_reducible rfl))
          try simp only [Act.put, List.setIfInBounds_toArray, List.set_cons_zero, List.set_cons_succ]
          refine wpAnyH_done (by kernel_rfl) ?_ _
          clear hHeld
          clear R1 R2 gg1 gg2
          obtain ⟨q0_BV, q1_BV, q2_BV, q3_BV, qf_BV, ql_BV⟩ := BV.four
          obtain ⟨q0_BB, q1_BB, qf_BB, ql_BB⟩ := BB.two
          obtain ⟨q0_BS, q1_BS, qf_BS, ql_BS⟩ := BS.two
          obtain ⟨q0_V0_1, q1_V0_1, qf_V0_1, ql_V0_1⟩ := V0.1.two
          obtain ⟨q0_BX, q1_BX, qf_BX, ql_BX⟩ := BX.two
          obtain ⟨q0_V1_1, q1_V1_1, qf_V1_1, ql_V1_1⟩ := V1.1.two
          go_wp2_with fail
          clear q0_BV q1_BV q2_BV q3_BV qf_BV ql_BV
          clear q0_BB q1_BB qf_BB ql_BB
          clear q0_BS q1_BS qf_BS ql_BS
          clear q0_V0_1 q1_V0_1 qf_V0_1 ql_V0_1
          clear q0_BX q1_BX qf_BX ql_BX
          clear q0_V1_1 q1_V1_1 qf_V1_1 ql_V1_1
          refine (toStepS_o sa _ cap l _ rfl hle3 (hr.below hb)).mono ?_
          rintro e w10 ⟨es, rfl, OE, hb10⟩
          replace BV := BV.below hb10
          replace BB := BB.below hb10
          replace BS := BS.below hb10
          replace V0 := V0.below hb10
          replace OX := OX.below hb10
          replace BX := BX.below hb10
          replace OT := OT.below hb10
          replace V1 := V1.below hb10
          have hz10 := hb10.size
          replace hb := chain hb hb10
          clear hb10
          obtain ⟨q0_BV, q1_BV, q2_BV, q3_BV, qf_BV, ql_BV⟩ := BV.four
          obtain ⟨q0_BB, q1_BB, qf_BB, ql_BB⟩ := BB.two
          obtain ⟨q0_BS, q1_BS, qf_BS, ql_BS⟩ := BS.two
          obtain ⟨q0_V0_1, q1_V0_1, qf_V0_1, ql_V0_1⟩ := V0.1.two
          obtain ⟨q0_BX, q1_BX, qf_BX, ql_BX⟩ := BX.two
          obtain ⟨q0_V1_1, q1_V1_1, qf_V1_1, ql_V1_1⟩ := V1.1.two
          go_wp2_with fail
          clear q0_BV q1_BV q2_BV q3_BV qf_BV ql_BV
          clear q0_BB q1_BB qf_BB ql_BB
          clear q0_BS q1_BS qf_BS ql_BS
          clear q0_V0_1 q1_V0_1 qf_V0_1 ql_V0_1
          clear q0_BX q1_BX qf_BX ql_BX
          clear q0_V1_1 q1_V1_1 qf_V1_1 ql_V1_1
          refine (eqStepS_same _ _ _ _ _ _ l.length _ _ l _ rfl hle3 OT OE).mono ?_
          rintro e w11 ⟨rfl, hb11⟩
          replace BV := BV.below hb11
          replace BB := BB.below hb11
          replace BS := BS.below hb11
          replace V0 := V0.below hb11
          replace OX := OX.below hb11
          replace BX := BX.below hb11
          replace OT := OT.below hb11
          replace V1 := V1.below hb11
          replace OE := OE.below hb11
          have hz11 := hb11.size
          replace hb := chain hb hb11
          clear hb11
          clear OE
          obtain ⟨q0_BV, q1_BV, q2_BV, q3_BV, qf_BV, ql_BV⟩ := BV.four
          obtain ⟨q0_BB, q1_BB, qf_BB, ql_BB⟩ := BB.two
          obtain ⟨q0_BS, q1_BS, qf_BS, ql_BS⟩ := BS.two
          obtain ⟨q0_V0_1, q1_V0_1, qf_V0_1, ql_V0_1⟩ := V0.1.two
          obtain ⟨q0_BX, q1_BX, qf_BX, ql_BX⟩ := BX.two
          obtain ⟨q0_V1_1, q1_V1_1, qf_V1_1, ql_V1_1⟩ := V1.1.two
          go_wp2_with fail
          clear q0_BV q1_BV q2_BV q3_BV qf_BV ql_BV
          clear q0_BB q1_BB qf_BB ql_BB
          clear q0_BS q1_BS qf_BS ql_BS
          clear q0_V0_1 q1_V0_1 qf_V0_1 ql_V0_1
          clear q0_BX q1_BX qf_BX ql_BX
          clear q0_V1_1 q1_V1_1 qf_V1_1 ql_V1_1
          refine (markBoard_own _ _ _ _ _ _ _ _ xs ys 1 _ rfl rfl l1 l2 (by omega) (by omega) OX).mono ?_
          rintro e w12 ⟨rfl, OX, hs12⟩
          replace BV := BV.same hs12 (by omega)
          replace BB := BB.same hs12 (by omega)
          replace BS := BS.same hs12 (by omega)
          replace V0 := V0.same hs12 (by omega) (by omega)
          replace BX := BX.same hs12 (by omega)
          replace OT := OT.same hs12 (by omega)
          replace V1 := V1.same hs12 (by omega) (by omega)
          have hz12 := hs12.size
          replace hb := below_same hb hs12 (by omega) (by omega)
          clear hs12
          clear OX
          obtain ⟨q0_BV, q1_BV, q2_BV, q3_BV, qf_BV, ql_BV⟩ := BV.four
          obtain ⟨q0_BB, q1_BB, qf_BB, ql_BB⟩ := BB.two
          obtain ⟨q0_BS, q1_BS, qf_BS, ql_BS⟩ := BS.two
          obtain ⟨q0_V0_1, q1_V0_1, qf_V0_1, ql_V0_1⟩ := V0.1.two
          obtain ⟨q0_BX, q1_BX, qf_BX, ql_BX⟩ := BX.two
          obtain ⟨q0_V1_1, q1_V1_1, qf_V1_1, ql_V1_1⟩ := V1.1.two
          go_wp2_with fail
          clear q0_BV q1_BV q2_BV q3_BV qf_BV ql_BV
          clear q0_BB q1_BB qf_BB ql_BB
          clear q0_BS q1_BS qf_BS ql_BS
          clear q0_V0_1 q1_V0_1 qf_V0_1 ql_V0_1
          clear q0_BX q1_BX qf_BX ql_BX
          clear q0_V1_1 q1_V1_1 qf_V1_1 ql_V1_1
          refine (markSt_own _ _ _ l.length _ l _ _ rfl hle3 (by omega) (by omega) OT).mono ?_
          rintro e w13 ⟨rfl, OT, hs13⟩
          replace BV := BV.same hs13 (by omega)
          replace BB := BB.same hs13 (by omega)
          replace BS := BS.same hs13 (by omega)
          replace V0 := V0.same hs13 (by omega) (by omega)
          replace BX := BX.same hs13 (by omega)
          replace V1 := V1.same hs13 (by omega) (by omega)
          have hz13 := hs13.size
          replace hb := below_same hb hs13 (by omega) (by omega)
          clear hs13
          clear OT
          have hk0 : ¬ ((1 : Int) + (xs.length : Int) + (ys.length : Int) + 4 * (l.length : Int) < 0) := by omega
          have hq0 : ¬ ((1 : Int) + (X.length : Int) + (Y.length : Int) < 0) := by omega
          obtain ⟨q0_BV, q1_BV, q2_BV, q3_BV, qf_BV, ql_BV⟩ := BV.four
          obtain ⟨q0_BB, q1_BB, qf_BB, ql_BB⟩ := BB.two
          obtain ⟨q0_BS, q1_BS, qf_BS, ql_BS⟩ := BS.two
          obtain ⟨q0_V0_1, q1_V0_1, qf_V0_1, ql_V0_1⟩ := V0.1.two
          obtain ⟨q0_BX, q1_BX, qf_BX, ql_BX⟩ := BX.two
          obtain ⟨q0_V1_1, q1_V1_1, qf_V1_1, ql_V1_1⟩ := V1.1.two
          go_wp2_with fail
          clear q0_BV q1_BV q2_BV q3_BV qf_BV ql_BV
          clear q0_BB q1_BB qf_BB ql_BB
          clear q0_BS q1_BS qf_BS ql_BS
          clear q0_V0_1 q1_V0_1 qf_V0_1 ql_V0_1
          clear q0_BX q1_BX qf_BX ql_BX
          clear q0_V1_1 q1_V1_1 qf_V1_1 ql_V1_1
          refine (eqBoard_same _ _ _ _ _ _ _ _ _ _ X Y _ rfl rfl lX lY V1.2.1.irow1 V1.2.1.irow2 V0.2.1.irow1 V0.2.1.irow2).mono ?_
          rintro e w14 ⟨rfl, hb14⟩
          replace BV := BV.below hb14
          replace BB := BB.below hb14
          replace BS := BS.below hb14
          replace V0 := V0.below hb14
          replace BX := BX.below hb14
          replace V1 := V1.below hb14
          have hz14 := hb14.size
          replace hb := chain hb hb14
          clear hb14
          obtain ⟨q0_BV, q1_BV, q2_BV, q3_BV, qf_BV, ql_BV⟩ := BV.four
          obtain ⟨q0_BB, q1_BB, qf_BB, ql_BB⟩ := BB.two
          obtain ⟨q0_BS, q1_BS, qf_BS, ql_BS⟩ := BS.two
          obtain ⟨q0_V0_1, q1_V0_1, qf_V0_1, ql_V0_1⟩ := V0.1.two
          obtain ⟨q0_BX, q1_BX, qf_BX, ql_BX⟩ := BX.two
          obtain ⟨q0_V1_1, q1_V1_1, qf_V1_1, ql_V1_1⟩ := V1.1.two
          go_wp2_with fail
          clear q0_BV q1_BV q2_BV q3_BV qf_BV ql_BV
          clear q0_BB q1_BB qf_BB ql_BB
          clear q0_BS q1_BS qf_BS ql_BS
          clear q0_V0_1 q1_V0_1 qf_V0_1 ql_V0_1
          clear q0_BX q1_BX qf_BX ql_BX
          clear q0_V1_1 q1_V1_1 qf_V1_1 ql_V1_1
          refine (markBoard_own _ _ _ _ _ _ _ _ X Y 1 _ rfl rfl lX lY (by omega) (by omega) V1.2.1).mono ?_
          rintro e w15 ⟨rfl, hOm, hs15⟩
          replace BV := BV.same hs15 (by omega)
          replace BB := BB.same hs15 (by omega)
          replace BS := BS.same hs15 (by omega)
          replace V0 := V0.same hs15 (by omega) (by omega)
          replace BX := BX.same hs15 (by omega)
          replace V1 := V1.marked hs15 hOm
          clear hOm
          have hz15 := hs15.size
          replace hb := below_same hb hs15 (by omega) (by omega)
          clear hs15
          obtain ⟨q0_BV, q1_BV, q2_BV, q3_BV, qf_BV, ql_BV⟩ := BV.four
          obtain ⟨q0_BB, q1_BB, qf_BB, ql_BB⟩ := BB.two
          obtain ⟨q0_BS, q1_BS, qf_BS, ql_BS⟩ := BS.two
          obtain ⟨q0_V0_1, q1_V0_1, qf_V0_1, ql_V0_1⟩ := V0.1.two
          obtain ⟨q0_BX, q1_BX, qf_BX, ql_BX⟩ := BX.two
          obtain ⟨q0_V1_1, q1_V1_1, qf_V1_1, ql_V1_1⟩ := V1.1.two
          go_wp2_with fail
          clear q0_BV q1_BV q2_BV q3_BV qf_BV ql_BV
          clear q0_BB q1_BB qf_BB ql_BB
          clear q0_BS q1_BS qf_BS ql_BS
          clear q0_V0_1 q1_V0_1 qf_V0_1 ql_V0_1
          clear q0_BX q1_BX qf_BX ql_BX
          clear q0_V1_1 q1_V1_1 qf_V1_1 ql_V1_1
          refine (heldBoard_any _ _ X.length Y.length _ _ 1 _ lX lY (by omega) (by omega) V1.2.1.irow1 V1.2.1.irow2).mono ?_
          rintro e w16 ⟨rfl, hb16⟩
          replace BV := BV.below hb16
          replace BB := BB.below hb16
          replace BS := BS.below hb16
          replace V0 := V0.below hb16
          replace BX := BX.below hb16
          replace V1 := V1.below hb16
          have hz16 := hb16.size
          replace hb := chain hb hb16
          clear hb16
          obtain ⟨q0_BV, q1_BV, q2_BV, q3_BV, qf_BV, ql_BV⟩ := BV.four
          obtain ⟨q0_BB, q1_BB, qf_BB, ql_BB⟩ := BB.two
          obtain ⟨q0_BS, q1_BS, qf_BS, ql_BS⟩ := BS.two
          obtain ⟨q0_V0_1, q1_V0_1, qf_V0_1, ql_V0_1⟩ := V0.1.two
          obtain ⟨q0_BX, q1_BX, qf_BX, ql_BX⟩ := BX.two
          obtain ⟨q0_V1_1, q1_V1_1, qf_V1_1, ql_V1_1⟩ := V1.1.two
          go_wp2_with fail
          clear q0_BV q1_BV q2_BV q3_BV qf_BV ql_BV
          clear q0_BB q1_BB qf_BB ql_BB
          clear q0_BS q1_BS qf_BS ql_BS
          clear q0_V0_1 q1_V0_1 qf_V0_1 ql_V0_1
          clear q0_BX q1_BX qf_BX ql_BX
          clear q0_V1_1 q1_V1_1 qf_V1_1 ql_V1_1
          obtain ⟨J, hJ⟩ : ∃ J : Act → Act → World → Prop, J = fun a a' w' => ∃ B d1 d2 k1 k2 lo hi g1 g2 gs, a' = ((((((((((((((a.put (some 107) (.agg #[.int .i64 p, .int .i64 c, .int .i64 h, .int .i64 s])).put (some 108) (.agg #[.int .i64 p, .int .i64 c, .int .i64 h, .int .i64 s])).put (some 109) (.agg #[.slice a1 xs.length c1, .slice a2 ys.length c2])).put (some 110) (.agg #[.slice (some ⟨g1, 0, none⟩) xs.length xs.length, .slice (some ⟨g2, 0, none⟩) ys.length ys.length])).put (some 111) (.agg #[.int .i64 ra, .int .i64 rb])).put (some 112) (.agg #[.int .i64 ra, .int .i64 rb])).put (some 113) (.slice sa l.length cap)).put (some 114) (.slice (some ⟨gs, 0, none⟩) l.length l.length)).put (some 115) (.tuple #[.agg #[.slice d1 X.length k1, .slice d2 Y.length k2], .int .i64 r])).put (some 106) (.tuple #[.agg #[.slice d1 X.length k1, .slice d2 Y.length k2], .int .i64 r])).put (some 116) (.agg #[.slice d1 X.length k1, .slice d2 Y.length k2])).put (some 117) (.int .i64 r)).put (some 20) (.int .i64 r)).put (some 19) (.pointer (some ⟨B, 0, none⟩))) ∧ VarB w16.heap.size w' B d1 d2 X.length Y.length k1 k2 lo hi X Y ∧ Below w16.heap.size w16 w' := ⟨_, rfl⟩
          have HJ := Lib.hid hJ
          clear hJ
          refine wp_region_join J ?_ ?_
          · skip
            refine wp_region_held_drew (S := fun w' => w'.cell? ⟨w.heap.size, 0, none⟩ = some (.int .i64 p) ∧ w'.cell? ⟨w.heap.size, 1, none⟩ = some (.int .i64 c) ∧ w'.cell? ⟨w.heap.size, 2, none⟩ = some (.int .i64 h) ∧ w'.cell? ⟨w.heap.size, 3, none⟩ = some (.int .i64 s) ∧ w'.cell? ⟨(w.heap.size + 1), 0, none⟩ = some (.slice a1 xs.length c1) ∧ w'.cell? ⟨(w.heap.size + 1), 1, none⟩ = some (.slice a2 ys.length c2) ∧ w'.cell? ⟨(w.heap.size + 1 + 1), 0, none⟩ = some (.int .i64 ra) ∧ w'.cell? ⟨(w.heap.size + 1 + 1), 1, none⟩ = some (.int .i64 rb) ∧ w'.cell? ⟨BV0, 0, none⟩ = some (.slice d1V0 X.length k1V0) ∧ w'.cell? ⟨BV0, 1, none⟩ = some (.slice d2V0 Y.length k2V0) ∧ w'.cell? ⟨w2.heap.size, 0, none⟩ = some (.slice (some ⟨b1, 0, none⟩) xs.length xs.length) ∧ w'.cell? ⟨w2.heap.size, 1, none⟩ = some (.slice (some ⟨b2, 0, none⟩) ys.length ys.length) ∧ w'.cell? ⟨BV1, 0, none⟩ = some (.slice d1V1 X.length k1V1) ∧ w'.cell? ⟨BV1, 1, none⟩ = some (.slice d2V1 Y.length k2V1)) (by kernel_rfl) ⟨(BV.below (Below.refl _ _).drew).four.1, (BV.below (Below.refl _ _).drew).four.2.1, (BV.below (Below.refl _ _).drew).four.2.2.1, (BV.below (Below.refl _ _).drew).four.2.2.2.1, (BB.below (Below.refl _ _).drew).two.1, (BB.below (Below.refl _ _).drew).two.2.1, (BS.below (Below.refl _ _).drew).two.1, (BS.below (Below.refl _ _).drew).two.2.1, (V0.below (Below.refl _ _).drew).1.two.1, (V0.below (Below.refl _ _).drew).1.two.2.1, (BX.below (Below.refl _ _).drew).two.1, (BX.below (Below.refl _ _).drew).two.2.1, (V1.below (Below.refl _ _).drew).1.two.1, (V1.below (Below.refl _ _).drew).1.two.2.1⟩ (fun hHeld => ?_)
            clear hHeld
            have hbS : Below w16.heap.size w16 w16.drew := (Below.refl _ _).drew
            have hzd := hbS.size
            generalize w16.drew = vd at *
            have hHeld := (show vd.cell? ⟨w.heap.size, 0, none⟩ = some (.int .i64 p) ∧ vd.cell? ⟨w.heap.size, 1, none⟩ = some (.int .i64 c) ∧ vd.cell? ⟨w.heap.size, 2, none⟩ = some (.int .i64 h) ∧ vd.cell? ⟨w.heap.size, 3, none⟩ = some (.int .i64 s) ∧ vd.cell? ⟨(w.heap.size + 1), 0, none⟩ = some (.slice a1 xs.length c1) ∧ vd.cell? ⟨(w.heap.size + 1), 1, none⟩ = some (.slice a2 ys.length c2) ∧ vd.cell? ⟨(w.heap.size + 1 + 1), 0, none⟩ = some (.int .i64 ra) ∧ vd.cell? ⟨(w.heap.size + 1 + 1), 1, none⟩ = some (.int .i64 rb) ∧ vd.cell? ⟨BV0, 0, none⟩ = some (.slice d1V0 X.length k1V0) ∧ vd.cell? ⟨BV0, 1, none⟩ = some (.slice d2V0 Y.length k2V0) ∧ vd.cell? ⟨w2.heap.size, 0, none⟩ = some (.slice (some ⟨b1, 0, none⟩) xs.length xs.length) ∧ vd.cell? ⟨w2.heap.size, 1, none⟩ = some (.slice (some ⟨b2, 0, none⟩) ys.length ys.length) ∧ vd.cell? ⟨BV1, 0, none⟩ = some (.slice d1V1 X.length k1V1) ∧ vd.cell? ⟨BV1, 1, none⟩ = some (.slice d2V1 Y.length k2V1) from ⟨(BV.below hbS).four.1, (BV.below hbS).four.2.1, (BV.below hbS).four.2.2.1, (BV.below hbS).four.2.2.2.1, (BB.below hbS).two.1, (BB.below hbS).two.2.1, (BS.below hbS).two.1, (BS.below hbS).two.2.1, (V0.below hbS).1.two.1, (V0.below hbS).1.two.2.1, (BX.below hbS).two.1, (BX.below hbS).two.2.1, (V1.below hbS).1.two.1, (V1.below hbS).1.two.2.1⟩)
            refine wpAnyH_take (i := 0) (oi := ⟨some 107, _, _, _, _, _⟩) (v := ?_) rfl (by kernel_rfl) (by kernel_rfl) (by kernel_rfl) (fun _ _ _ h => absurd h.1 (by simp)) (Or.inl ⟨by rfl, ?_⟩) (by assumption) ?_
            rotate_left
            · intro w hSw; (try dsimp only at hSw); go_simp; (try (with_reducible rfl))
            try simp only [Act.put, List.setIfInBounds_toArray, List.set_cons_zero, List.set_cons_succ]
            refine wpAnyH_take (i := 2) (oi := ⟨some 109, _, _, _, _, _⟩) (v := ?_) rfl (by kernel_rfl) (by kernel_rfl) (by kernel_rfl) (fun _ _ _ h => absurd h.1 (by simp)) (Or.inl ⟨by rfl, ?_⟩) (by assumption) ?_
            rotate_left
            · intro w hSw; (try dsimp only at hSw); go_simp; (try (with_reducible rfl))
            try simp only [Act.put, List.setIfInBounds_toArray, List.set_cons_zero, List.set_cons_succ]
            refine wpAnyH_take (i := 4) (oi := ⟨some 111, _, _, _, _, _⟩) (v := ?_) rfl (by kernel_rfl) (by kernel_rfl) (by kernel_rfl) (fun _ _ _ h => absurd h.1 (by simp)) (Or.inl ⟨by rfl, ?_⟩) (by assumption) ?_
            rotate_left
            · intro w hSw; (try dsimp only at hSw); go_simp; (try (with_reducible rfl))
            try simp only [Act.put, List.setIfInBounds_toArray, List.set_cons_zero, List.set_cons_succ]
            refine wpAnyH_take (i := 6) (oi := ⟨some 113, _, _, _, _, _⟩) (v := ?_) rfl (by kernel_rfl) (by kernel_rfl) (by kernel_rfl) (fun _ _ _ h => absurd h.1 (by simp)) (Or.inl ⟨by rfl, ?_⟩) (by assumption) ?_
            rotate_left
            · intro w hSw; (try dsimp only at hSw); go_simp; (try (with_reducible rfl))
            try simp only [Act.put, List.setIfInBounds_toArray, List.set_cons_zero, List.set_cons_succ]
            refine wpAnyH_ready (rs := [1, 12]) (by kernel_rfl) (by simp) ?_
            refine AllReadyH.cons (o := ⟨some 108, _, _, _, _, _⟩) rfl (fun K hK => ?_) (AllReadyH.cons (o := ⟨some 19, _, _, _, _, _⟩) rfl (fun K hK => ?_) AllReadyH.nil)
            · go_simp
              refine (toVariant_any _ _ _ _ _).mono ?_
              rintro e wt0 ⟨rfl, hbt0⟩
              have hz_hbt0 := hbt0.size
              replace hbS := chain hbS hbt0
              clear hbt0
              (try go_wp2_with fail)
              refine hK.out _ _ ⟨(BV.below hbS).four.1, (BV.below hbS).four.2.1, (BV.below hbS).four.2.2.1, (BV.below hbS).four.2.2.2.1, (BB.below hbS).two.1, (BB.below hbS).two.2.1, (BS.below hbS).two.1, (BS.below hbS).two.2.1, (V0.below hbS).1.two.1, (V0.below hbS).1.two.2.1, (BX.below hbS).two.1, (BX.below hbS).two.2.1, (V1.below hbS).1.two.1, (V1.below hbS).1.two.2.1⟩ (fun hHeld => ?_)
              clear hK K
              try simp only [Act.put, List.setIfInBounds_toArray, List.set_cons_zero, List.set_cons_succ]
              refine wpAnyH_ready (rs := [3, 12]) (by kernel_rfl) (by simp) ?_
              refine AllReadyH.cons (o := ⟨some 110, _, _, _, _, _⟩) rfl (fun K hK => ?_) (AllReadyH.cons (o := ⟨some 19, _, _, _, _, _⟩) rfl (fun K hK => ?_) AllReadyH.nil)
              · go_simp
                refine (toBoard_any a1 a2 _ _ c1 c2 xs ys _ rfl rfl l1 l2 (r1.below (chain hb hbS)) (r2.below (chain hb hbS))).mono ?_
                rintro e wt1 ⟨g1, g2, rfl, gg1, gg2, R1, R2, hbt1⟩
                have hz_hbt1 := hbt1.size
                replace hbS := chain hbS hbt1
                clear hbt1
                (try go_wp2_with fail)
                refine hK.out _ _ ⟨(BV.below hbS).four.1, (BV.below hbS).four.2.1, (BV.below hbS).four.2.2.1, (BV.below hbS).four.2.2.2.1, (BB.below hbS).two.1, (BB.below hbS).two.2.1, (BS.below hbS).two.1, (BS.below hbS).two.2.1, (V0.below hbS).1.two.1, (V0.below hbS).1.two.2.1, (BX.below hbS).two.1, (BX.below hbS).two.2.1, (V1.below hbS).1.two.1, (V1.below hbS).1.two.2.1⟩ (fun hHeld => ?_)
                clear hK K
                try simp only [Act.put, List.setIfInBounds_toArray, List.set_cons_zero, List.set_cons_succ]
                refine wpAnyH_ready (rs := [5, 12]) (by kernel_rfl) (by simp) ?_
                refine AllReadyH.cons (o := ⟨some 112, _, _, _, _, _⟩) rfl (fun K hK => ?_) (AllReadyH.cons (o := ⟨some 19, _, _, _, _, _⟩) rfl (fun K hK => ?_) AllReadyH.nil)
                · go_simp
                  refine (toRoll_br ra rb _).mono ?_
                  rintro e wt2 ⟨rfl, hbt2⟩
                  replace R1 := R1.below hbt2
                  replace R2 := R2.below hbt2
                  have hz_hbt2 := hbt2.size
                  replace hbS := chain hbS hbt2
                  clear hbt2
                  (try go_wp2_with fail)
                  refine hK.out _ _ ⟨(BV.below hbS).four.1, (BV.below hbS).four.2.1, (BV.below hbS).four.2.2.1, (BV.below hbS).four.2.2.2.1, (BB.below hbS).two.1, (BB.below hbS).two.2.1, (BS.below hbS).two.1, (BS.below hbS).two.2.1, (V0.below hbS).1.two.1, (V0.below hbS).1.two.2.1, (BX.below hbS).two.1, (BX.below hbS).two.2.1, (V1.below hbS).1.two.1, (V1.below hbS).1.two.2.1⟩ (fun hHeld => ?_)
                  clear hK K
                  try simp only [Act.put, List.setIfInBounds_toArray, List.set_cons_zero, List.set_cons_succ]
                  refine wpAnyH_ready (rs := [7, 12]) (by kernel_rfl) (by simp) ?_
                  refine AllReadyH.cons (o := ⟨some 114, _, _, _, _, _⟩) rfl (fun K hK => ?_) (AllReadyH.cons (o := ⟨some 19, _, _, _, _, _⟩) rfl (fun K hK => ?_) AllReadyH.nil)
                  · go_simp
                    refine (toStepS_o sa _ cap l _ rfl hle3 (hr.below (chain hb hbS))).mono ?_
                    rintro e wt3 ⟨gs, rfl, OS_, hbt3⟩
                    replace R1 := R1.below hbt3
                    replace R2 := R2.below hbt3
                    have hz_hbt3 := hbt3.size
                    replace hbS := chain hbS hbt3
                    clear hbt3
                    (try go_wp2_with fail)
                    refine hK.out _ _ ⟨(BV.below hbS).four.1, (BV.below hbS).four.2.1, (BV.below hbS).four.2.2.1, (BV.below hbS).four.2.2.2.1, (BB.below hbS).two.1, (BB.below hbS).two.2.1, (BS.below hbS).two.1, (BS.below hbS).two.2.1, (V0.below hbS).1.two.1, (V0.below hbS).1.two.2.1, (BX.below hbS).two.1, (BX.below hbS).two.2.1, (V1.below hbS).1.two.1, (V1.below hbS).1.two.2.1⟩ (fun hHeld => ?_)
                    clear hK K
                    try simp only [Act.put, List.setIfInBounds_toArray, List.set_cons_zero, List.set_cons_succ]
                    refine wpAnyH_ready (rs := [8, 12]) (by kernel_rfl) (by simp) ?_
                    refine AllReadyH.cons (o := ⟨some 115, _, _, _, _, _⟩) rfl (fun K hK => ?_) (AllReadyH.cons (o := ⟨some 19, _, _, _, _, _⟩) rfl (fun K hK => ?_) AllReadyH.nil)
                    · go_simp
                      refine (HIM.out _ _ _ _ _ _ _ _ _ _ _ rfl rfl l1 l2 R1.irow R2.irow OS_).mono ?_
                      rintro e wt4 ⟨d1, d2, k1, k2, rfl, hO, hbt4⟩
                      replace R1 := R1.below hbt4
                      replace R2 := R2.below hbt4
                      replace OS_ := OS_.below hbt4
                      have hz_hbt4 := hbt4.size
                      replace hbS := chain hbS hbt4
                      clear hbt4
                      (try go_wp2_with fail)
                      refine hK.out _ _ ⟨(BV.below hbS).four.1, (BV.below hbS).four.2.1, (BV.below hbS).four.2.2.1, (BV.below hbS).four.2.2.2.1, (BB.below hbS).two.1, (BB.below hbS).two.2.1, (BS.below hbS).two.1, (BS.below hbS).two.2.1, (V0.below hbS).1.two.1, (V0.below hbS).1.two.2.1, (BX.below hbS).two.1, (BX.below hbS).two.2.1, (V1.below hbS).1.two.1, (V1.below hbS).1.two.2.1⟩ (fun hHeld => ?_)
                      clear hK K
                      try simp only [Act.put, List.setIfInBounds_toArray, List.set_cons_zero, List.set_cons_succ]
                      refine wpAnyH_take (i := 9) (oi := ⟨some 106, _, _, _, _, _⟩) (v := ?_) rfl (by kernel_rfl) (by kernel_rfl) (by kernel_rfl) (fun _ _ _ h => absurd h.1 (by simp)) (Or.inl ⟨by rfl, ?_⟩) (by assumption) ?_
                      rotate_left
                      · intro w hSw; (try dsimp only at hSw); go_simp; (try (with_reducible rfl))
                      try simp only [Act.put, List.setIfInBounds_toArray, List.set_cons_zero, List.set_cons_succ]
                      refine wpAnyH_take (i := 10) (oi := ⟨some 116, _, _, _, _, _⟩) (v := ?_) rfl (by kernel_rfl) (by kernel_rfl) (by kernel_rfl) (fun _ _ _ h => absurd h.1 (by simp)) (Or.inl ⟨by rfl, ?_⟩) (by assumption) ?_
                      rotate_left
                      · intro w hSw; (try dsimp only at hSw); go_simp; (try (with_reducible rfl))
                      try simp only [Act.put, List.setIfInBounds_toArray, List.set_cons_zero, List.set_cons_succ]
                      refine wpAnyH_take (i := 11) (oi := ⟨some 117, _, _, _, _, _⟩) (v := ?_) rfl (by kernel_rfl) (by kernel_rfl) (by kernel_rfl) (fun _ _ _ h => absurd h.1 (by simp)) (Or.inl ⟨by rfl, ?_⟩) (by assumption) ?_
                      rotate_left
                      · intro w hSw; (try dsimp only at hSw); go_simp; (try (with_reducible rfl))
                      try simp only [Act.put, List.setIfInBounds_toArray, List.set_cons_zero, List.set_cons_succ]
                      refine wpAnyH_ready (rs := [12]) (by kernel_rfl) (by simp) ?_
                      refine AllReadyH.cons (o := ⟨some 19, _, _, _, _, _⟩) rfl (fun K hK => ?_) AllReadyH.nil
                      go_simp
                      refine hK.out _ _ ⟨(BV.below (hbS.alloc hbS.size _)).four.1, (BV.below (hbS.alloc hbS.size _)).four.2.1, (BV.below (hbS.alloc hbS.size _)).four.2.2.1, (BV.below (hbS.alloc hbS.size _)).four.2.2.2.1, (BB.below (hbS.alloc hbS.size _)).two.1, (BB.below (hbS.alloc hbS.size _)).two.2.1, (BS.below (hbS.alloc hbS.size _)).two.1, (BS.below (hbS.alloc hbS.size _)).two.2.1, (V0.below (hbS.alloc hbS.size _)).1.two.1, (V0.below (hbS.alloc hbS.size _)).1.two.2.1, (BX.below (hbS.alloc hbS.size _)).two.1, (BX.below (hbS.alloc hbS.size _)).two.2.1, (V1.below (hbS.alloc hbS.size _)).1.two.1, (V1.below (hbS.alloc hbS.size _)).1.two.2.1⟩ (fun hHeld => ?_)
                      clear hK K
                      try simp only [Act.put, List.setIfInBounds_toArray, List.set_cons_zero, List.set_cons_succ]
                      have BA := Blk.new wt4 #[.slice none 0 0, .slice none 0 0] 32
                      have hal : Below wt4.heap.size wt4 (wt4.alloc (.cells #[.slice none 0 0, .slice none 0 0] 32)) := (Below.refl _ _).alloc (Nat.le_refl _) _
                      have hlN : wt4.heap.size + 1 ≤ (wt4.alloc (.cells #[.slice none 0 0, .slice none 0 0] 32)).heap.size ∧ (wt4.alloc (.cells #[.slice none 0 0, .slice none 0 0] 32)).heap.size ≤ wt4.heap.size + 1 := by simp
                      have hzS := hbS.size
                      replace R1 := R1.below hal
                      replace R2 := R2.below hal
                      replace OS_ := OS_.below hal
                      replace hO := hO.below hal
                      replace hbS := chain hbS hal
                      clear hal
                      generalize wt4.alloc (.cells #[.slice none 0 0, .slice none 0 0] 32) = wN at *
                      refine wpAnyH_ready (rs := [13]) (by kernel_rfl) (by simp) ?_
                      refine AllReadyH.cons (o := ⟨none, _, _, _, _, _⟩) rfl (fun K hK => ?_) AllReadyH.nil
                      have q0 := BA.two.1
                      have q1 := BA.two.2.1
                      have qf := BA.two.2.2.1
                      have ql := BA.two.2.2.2
                      go_simp
                      (try go_wp2_with fail)
                      refine hK.out _ _ ⟨(BV.below (below2s BA hbS (by omega))).four.1, (BV.below (below2s BA hbS (by omega))).four.2.1, (BV.below (below2s BA hbS (by omega))).four.2.2.1, (BV.below (below2s BA hbS (by omega))).four.2.2.2.1, (BB.below (below2s BA hbS (by omega))).two.1, (BB.below (below2s BA hbS (by omega))).two.2.1, (BS.below (below2s BA hbS (by omega))).two.1, (BS.below (below2s BA hbS (by omega))).two.2.1, (V0.below (below2s BA hbS (by omega))).1.two.1, (V0.below (below2s BA hbS (by omega))).1.two.2.1, (BX.below (below2s BA hbS (by omega))).two.1, (BX.below (below2s BA hbS (by omega))).two.2.1, (V1.below (below2s BA hbS (by omega))).1.two.1, (V1.below (below2s BA hbS (by omega))).1.two.2.1⟩ (fun hHeld => ?_)
                      clear hK K
                      try simp only [Act.put, List.setIfInBounds_toArray, List.set_cons_zero, List.set_cons_succ]
                      refine wpAnyH_take (i := 14) (oi := ⟨some 20, _, _, _, _, _⟩) (v := ?_) rfl (by kernel_rfl) (by kernel_rfl) (by kernel_rfl) (fun _ _ _ h => absurd h.1 (by simp)) (Or.inl ⟨by rfl, ?_⟩) (by assumption) ?_
                      rotate_left
                      · intro w hSw; (try dsimp only at hSw); go_simp; (try (with_reducible rfl))
                      try simp only [Act.put, List.setIfInBounds_toArray, List.set_cons_zero, List.set_cons_succ]
                      refine wpAnyH_done (by kernel_rfl) ?_ _
                      rw [HJ.out]
                      refine ⟨rfl, _, d1, d2, k1, k2, _, _, g1, g2, gs, ?_, VarB.stored BA hO ?_ ?_ ?_ ?_, below2s BA hbS (by omega)⟩
                      · simp only [Act.put, List.setIfInBounds_toArray, List.set_cons_zero, List.set_cons_succ]
                      all_goals (first | omega | (simp; omega))
                    · go_simp
                      refine hK.out _ _ ⟨(BV.below (hbS.alloc hbS.size _)).four.1, (BV.below (hbS.alloc hbS.size _)).four.2.1, (BV.below (hbS.alloc hbS.size _)).four.2.2.1, (BV.below (hbS.alloc hbS.size _)).four.2.2.2.1, (BB.below (hbS.alloc hbS.size _)).two.1, (BB.below (hbS.alloc hbS.size _)).two.2.1, (BS.below (hbS.alloc hbS.size _)).two.1, (BS.below (hbS.alloc hbS.size _)).two.2.1, (V0.below (hbS.alloc hbS.size _)).1.two.1, (V0.below (hbS.alloc hbS.size _)).1.two.2.1, (BX.below (hbS.alloc hbS.size _)).two.1, (BX.below (hbS.alloc hbS.size _)).two.2.1, (V1.below (hbS.alloc hbS.size _)).1.two.1, (V1.below (hbS.alloc hbS.size _)).1.two.2.1⟩ (fun hHeld => ?_)
                      clear hK K
                      try simp only [Act.put, List.setIfInBounds_toArray, List.set_cons_zero, List.set_cons_succ]
                      have BA := Blk.new wt3 #[.slice none 0 0, .slice none 0 0] 32
                      have hal : Below wt3.heap.size wt3 (wt3.alloc (.cells #[.slice none 0 0, .slice none 0 0] 32)) := (Below.refl _ _).alloc (Nat.le_refl _) _
                      have hlN : wt3.heap.size + 1 ≤ (wt3.alloc (.cells #[.slice none 0 0, .slice none 0 0] 32)).heap.size ∧ (wt3.alloc (.cells #[.slice none 0 0, .slice none 0 0] 32)).heap.size ≤ wt3.heap.size + 1 := by simp
                      have hzS := hbS.size
                      replace R1 := R1.below hal
                      replace R2 := R2.below hal
                      replace OS_ := OS_.below hal
                      replace hbS := chain hbS hal
                      clear hal
                      generalize wt3.alloc (.cells #[.slice none 0 0, .slice none 0 0] 32) = wN at *
                      refine wpAnyH_ready (rs := [8]) (by kernel_rfl) (by simp) ?_
                      refine AllReadyH.cons (o := ⟨some 115, _, _, _, _, _⟩) rfl (fun K hK => ?_) AllReadyH.nil
                      go_simp
                      refine (HIM.out _ _ _ _ _ _ _ _ _ _ _ rfl rfl l1 l2 R1.irow R2.irow OS_).mono ?_
                      rintro e wt4 ⟨d1, d2, k1, k2, rfl, hO, hbt4⟩
                      replace R1 := R1.below hbt4
                      replace R2 := R2.below hbt4
                      replace OS_ := OS_.below hbt4
                      replace BA := BA.below hbt4
                      have hz_hbt4 := hbt4.size
                      replace hbS := chain hbS hbt4
                      clear hbt4
                      (try go_wp2_with fail)
                      refine hK.out _ _ ⟨(BV.below hbS).four.1, (BV.below hbS).four.2.1, (BV.below hbS).four.2.2.1, (BV.below hbS).four.2.2.2.1, (BB.below hbS).two.1, (BB.below hbS).two.2.1, (BS.below hbS).two.1, (BS.below hbS).two.2.1, (V0.below hbS).1.two.1, (V0.below hbS).1.two.2.1, (BX.below hbS).two.1, (BX.below hbS).two.2.1, (V1.below hbS).1.two.1, (V1.below hbS).1.two.2.1⟩ (fun hHeld => ?_)
                      clear hK K
                      try simp only [Act.put, List.setIfInBounds_toArray, List.set_cons_zero, List.set_cons_succ]
                      refine wpAnyH_take (i := 9) (oi := ⟨some 106, _, _, _, _, _⟩) (v := ?_) rfl (by kernel_rfl) (by kernel_rfl) (by kernel_rfl) (fun _ _ _ h => absurd h.1 (by simp)) (Or.inl ⟨by rfl, ?_⟩) (by assumption) ?_
                      rotate_left
                      · intro w hSw; (try dsimp only at hSw); go_simp; (try (with_reducible rfl))
                      try simp only [Act.put, List.setIfInBounds_toArray, List.set_cons_zero, List.set_cons_succ]
                      refine wpAnyH_take (i := 10) (oi := ⟨some 116, _, _, _, _, _⟩) (v := ?_) rfl (by kernel_rfl) (by kernel_rfl) (by kernel_rfl) (fun _ _ _ h => absurd h.1 (by simp)) (Or.inl ⟨by rfl, ?_⟩) (by assumption) ?_
                      rotate_left
                      · intro w hSw; (try dsimp only at hSw); go_simp; (try (with_reducible rfl))
                      try simp only [Act.put, List.setIfInBounds_toArray, List.set_cons_zero, List.set_cons_succ]
                      refine wpAnyH_take (i := 11) (oi := ⟨some 117, _, _, _, _, _⟩) (v := ?_) rfl (by kernel_rfl) (by kernel_rfl) (by kernel_rfl) (fun _ _ _ h => absurd h.1 (by simp)) (Or.inl ⟨by rfl, ?_⟩) (by assumption) ?_
                      rotate_left
                      · intro w hSw; (try dsimp only at hSw); go_simp; (try (with_reducible rfl))
                      try simp only [Act.put, List.setIfInBounds_toArray, List.set_cons_zero, List.set_cons_succ]
                      refine wpAnyH_ready (rs := [13]) (by kernel_rfl) (by simp) ?_
                      refine AllReadyH.cons (o := ⟨none, _, _, _, _, _⟩) rfl (fun K hK => ?_) AllReadyH.nil
                      have q0 := BA.two.1
                      have q1 := BA.two.2.1
                      have qf := BA.two.2.2.1
                      have ql := BA.two.2.2.2
                      go_simp
                      (try go_wp2_with fail)
                      refine hK.out _ _ ⟨(BV.below (below2s BA hbS (by omega))).four.1, (BV.below (below2s BA hbS (by omega))).four.2.1, (BV.below (below2s BA hbS (by omega))).four.2.2.1, (BV.below (below2s BA hbS (by omega))).four.2.2.2.1, (BB.below (below2s BA hbS (by omega))).two.1, (BB.below (below2s BA hbS (by omega))).two.2.1, (BS.below (below2s BA hbS (by omega))).two.1, (BS.below (below2s BA hbS (by omega))).two.2.1, (V0.below (below2s BA hbS (by omega))).1.two.1, (V0.below (below2s BA hbS (by omega))).1.two.2.1, (BX.below (below2s BA hbS (by omega))).two.1, (BX.below (below2s BA hbS (by omega))).two.2.1, (V1.below (below2s BA hbS (by omega))).1.two.1, (V1.below (below2s BA hbS (by omega))).1.two.2.1⟩ (fun hHeld => ?_)
                      clear hK K
                      try simp only [Act.put, List.setIfInBounds_toArray, List.set_cons_zero, List.set_cons_succ]
                      refine wpAnyH_take (i := 14) (oi := ⟨some 20, _, _, _, _, _⟩) (v := ?_) rfl (by kernel_rfl) (by kernel_rfl) (by kernel_rfl) (fun _ _ _ h => absurd h.1 (by simp)) (Or.inl ⟨by rfl, ?_⟩) (by assumption) ?_
                      rotate_left
                      · intro w hSw; (try dsimp only at hSw); go_simp; (try (with_reducible rfl))
                      try simp only [Act.put, List.setIfInBounds_toArray, List.set_cons_zero, List.set_cons_succ]
                      refine wpAnyH_done (by kernel_rfl) ?_ _
                      rw [HJ.out]
                      refine ⟨rfl, _, d1, d2, k1, k2, _, _, g1, g2, gs, ?_, VarB.stored BA hO ?_ ?_ ?_ ?_, below2s BA hbS (by omega)⟩
                      · simp only [Act.put, List.setIfInBounds_toArray, List.set_cons_zero, List.set_cons_succ]
                      all_goals (first | omega | (simp; omega))
                  · go_simp
                    refine hK.out _ _ ⟨(BV.below (hbS.alloc hbS.size _)).four.1, (BV.below (hbS.alloc hbS.size _)).four.2.1, (BV.below (hbS.alloc hbS.size _)).four.2.2.1, (BV.below (hbS.alloc hbS.size _)).four.2.2.2.1, (BB.below (hbS.alloc hbS.size _)).two.1, (BB.below (hbS.alloc hbS.size _)).two.2.1, (BS.below (hbS.alloc hbS.size _)).two.1, (BS.below (hbS.alloc hbS.size _)).two.2.1, (V0.below (hbS.alloc hbS.size _)).1.two.1, (V0.below (hbS.alloc hbS.size _)).1.two.2.1, (BX.below (hbS.alloc hbS.size _)).two.1, (BX.below (hbS.alloc hbS.size _)).two.2.1, (V1.below (hbS.alloc hbS.size _)).1.two.1, (V1.below (hbS.alloc hbS.size _)).1.two.2.1⟩ (fun hHeld => ?_)
                    clear hK K
                    try simp only [Act.put, List.setIfInBounds_toArray, List.set_cons_zero, List.set_cons_succ]
                    have BA := Blk.new wt2 #[.slice none 0 0, .slice none 0 0] 32
                    have hal : Below wt2.heap.size wt2 (wt2.alloc (.cells #[.slice none 0 0, .slice none 0 0] 32)) := (Below.refl _ _).alloc (Nat.le_refl _) _
                    have hlN : wt2.heap.size + 1 ≤ (wt2.alloc (.cells #[.slice none 0 0, .slice none 0 0] 32)).heap.size ∧ (wt2.alloc (.cells #[.slice none 0 0, .slice none 0 0] 32)).heap.size ≤ wt2.heap.size + 1 := by simp
                    have hzS := hbS.size
                    replace R1 := R1.below hal
                    replace R2 := R2.below hal
                    replace hbS := chain hbS hal
                    clear hal
                    generalize wt2.alloc (.cells #[.slice none 0 0, .slice none 0 0] 32) = wN at *
                    refine wpAnyH_ready (rs := [7]) (by kernel_rfl) (by simp) ?_
                    refine AllReadyH.cons (o := ⟨some 114, _, _, _, _, _⟩) rfl (fun K hK => ?_) AllReadyH.nil
                    go_simp
                    refine (toStepS_o sa _ cap l _ rfl hle3 (hr.below (chain hb hbS))).mono ?_
                    rintro e wt3 ⟨gs, rfl, OS_, hbt3⟩
                    replace R1 := R1.below hbt3
                    replace R2 := R2.below hbt3
                    replace BA := BA.below hbt3
                    have hz_hbt3 := hbt3.size
                    replace hbS := chain hbS hbt3
                    clear hbt3
                    (try go_wp2_with fail)
                    refine hK.out _ _ ⟨(BV.below hbS).four.1, (BV.below hbS).four.2.1, (BV.below hbS).four.2.2.1, (BV.below hbS).four.2.2.2.1, (BB.below hbS).two.1, (BB.below hbS).two.2.1, (BS.below hbS).two.1, (BS.below hbS).two.2.1, (V0.below hbS).1.two.1, (V0.below hbS).1.two.2.1, (BX.below hbS).two.1, (BX.below hbS).two.2.1, (V1.below hbS).1.two.1, (V1.below hbS).1.two.2.1⟩ (fun hHeld => ?_)
                    clear hK K
                    try simp only [Act.put, List.setIfInBounds_toArray, List.set_cons_zero, List.set_cons_succ]
                    refine wpAnyH_ready (rs := [8]) (by kernel_rfl) (by simp) ?_
                    refine AllReadyH.cons (o := ⟨some 115, _, _, _, _, _⟩) rfl (fun K hK => ?_) AllReadyH.nil
                    go_simp
                    refine (HIM.out _ _ _ _ _ _ _ _ _ _ _ rfl rfl l1 l2 R1.irow R2.irow OS_).mono ?_
                    rintro e wt4 ⟨d1, d2, k1, k2, rfl, hO, hbt4⟩
                    replace R1 := R1.below hbt4
                    replace R2 := R2.below hbt4
                    replace OS_ := OS_.below hbt4
                    replace BA := BA.below hbt4
                    have hz_hbt4 := hbt4.size
                    replace hbS := chain hbS hbt4
                    clear hbt4
                    (try go_wp2_with fail)
                    refine hK.out _ _ ⟨(BV.below hbS).four.1, (BV.below hbS).four.2.1, (BV.below hbS).four.2.2.1, (BV.below hbS).four.2.2.2.1, (BB.below hbS).two.1, (BB.below hbS).two.2.1, (BS.below hbS).two.1, (BS.below hbS).two.2.1, (V0.below hbS).1.two.1, (V0.below hbS).1.two.2.1, (BX.below hbS).two.1, (BX.below hbS).two.2.1, (V1.below hbS).1.two.1, (V1.below hbS).1.two.2.1⟩ (fun hHeld => ?_)
                    clear hK K
                    try simp only [Act.put, List.setIfInBounds_toArray, List.set_cons_zero, List.set_cons_succ]
                    refine wpAnyH_take (i := 9) (oi := ⟨some 106, _, _, _, _, _⟩) (v := ?_) rfl (by kernel_rfl) (by kernel_rfl) (by kernel_rfl) (fun _ _ _ h => absurd h.1 (by simp)) (Or.inl ⟨by rfl, ?_⟩) (by assumption) ?_
                    rotate_left
                    · intro w hSw; (try dsimp only at hSw); go_simp; (try (with_reducible rfl))
                    try simp only [Act.put, List.setIfInBounds_toArray, List.set_cons_zero, List.set_cons_succ]
                    refine wpAnyH_take (i := 10) (oi := ⟨some 116, _, _, _, _, _⟩) (v := ?_) rfl (by kernel_rfl) (by kernel_rfl) (by kernel_rfl) (fun _ _ _ h => absurd h.1 (by simp)) (Or.inl ⟨by rfl, ?_⟩) (by assumption) ?_
                    rotate_left
                    · intro w hSw; (try dsimp only at hSw); go_simp; (try (with_reducible rfl))
                    try simp only [Act.put, List.setIfInBounds_toArray, List.set_cons_zero, List.set_cons_succ]
                    refine wpAnyH_take (i := 11) (oi := ⟨some 117, _, _, _, _, _⟩) (v := ?_) rfl (by kernel_rfl) (by kernel_rfl) (by kernel_rfl) (fun _ _ _ h => absurd h.1 (by simp)) (Or.inl ⟨by rfl, ?_⟩) (by assumption) ?_
                    rotate_left
                    · intro w hSw; (try dsimp only at hSw); go_simp; (try (with_reducible rfl))
                    try simp only [Act.put, List.setIfInBounds_toArray, List.set_cons_zero, List.set_cons_succ]
                    refine wpAnyH_ready (rs := [13]) (by kernel_rfl) (by simp) ?_
                    refine AllReadyH.cons (o := ⟨none, _, _, _, _, _⟩) rfl (fun K hK => ?_) AllReadyH.nil
                    have q0 := BA.two.1
                    have q1 := BA.two.2.1
                    have qf := BA.two.2.2.1
                    have ql := BA.two.2.2.2
                    go_simp
                    (try go_wp2_with fail)
                    refine hK.out _ _ ⟨(BV.below (below2s BA hbS (by omega))).four.1, (BV.below (below2s BA hbS (by omega))).four.2.1, (BV.below (below2s BA hbS (by omega))).four.2.2.1, (BV.below (below2s BA hbS (by omega))).four.2.2.2.1, (BB.below (below2s BA hbS (by omega))).two.1, (BB.below (below2s BA hbS (by omega))).two.2.1, (BS.below (below2s BA hbS (by omega))).two.1, (BS.below (below2s BA hbS (by omega))).two.2.1, (V0.below (below2s BA hbS (by omega))).1.two.1, (V0.below (below2s BA hbS (by omega))).1.two.2.1, (BX.below (below2s BA hbS (by omega))).two.1, (BX.below (below2s BA hbS (by omega))).two.2.1, (V1.below (below2s BA hbS (by omega))).1.two.1, (V1.below (below2s BA hbS (by omega))).1.two.2.1⟩ (fun hHeld => ?_)
                    clear hK K
                    try simp only [Act.put, List.setIfInBounds_toArray, List.set_cons_zero, List.set_cons_succ]
                    refine wpAnyH_take (i := 14) (oi := ⟨some 20, _, _, _, _, _⟩) (v := ?_) rfl (by kernel_rfl) (by kernel_rfl) (by kernel_rfl) (fun _ _ _ h => absurd h.1 (by simp)) (Or.inl ⟨by rfl, ?_⟩) (by assumption) ?_
                    rotate_left
                    · intro w hSw; (try dsimp only at hSw); go_simp; (try (with_reducible rfl))
                    try simp only [Act.put, List.setIfInBounds_toArray, List.set_cons_zero, List.set_cons_succ]
                    refine wpAnyH_done (by kernel_rfl) ?_ _
                    rw [HJ.out]
                    refine ⟨rfl, _, d1, d2, k1, k2, _, _, g1, g2, gs, ?_, VarB.stored BA hO ?_ ?_ ?_ ?_, below2s BA hbS (by omega)⟩
                    · simp only [Act.put, List.setIfInBounds_toArray, List.set_cons_zero, List.set_cons_succ]
                    all_goals (first | omega | (simp; omega))
                · go_simp
                  refine hK.out _ _ ⟨(BV.below (hbS.alloc hbS.size _)).four.1, (BV.below (hbS.alloc hbS.size _)).four.2.1, (BV.below (hbS.alloc hbS.size _)).four.2.2.1, (BV.below (hbS.alloc hbS.size _)).four.2.2.2.1, (BB.below (hbS.alloc hbS.size _)).two.1, (BB.below (hbS.alloc hbS.size _)).two.2.1, (BS.below (hbS.alloc hbS.size _)).two.1, (BS.below (hbS.alloc hbS.size _)).two.2.1, (V0.below (hbS.alloc hbS.size _)).1.two.1, (V0.below (hbS.alloc hbS.size _)).1.two.2.1, (BX.below (hbS.alloc hbS.size _)).two.1, (BX.below (hbS.alloc hbS.size _)).two.2.1, (V1.below (hbS.alloc hbS.size _)).1.two.1, (V1.below (hbS.alloc hbS.size _)).1.two.2.1⟩ (fun hHeld => ?_)
                  clear hK K
                  try simp only [Act.put, List.setIfInBounds_toArray, List.set_cons_zero, List.set_cons_succ]
                  have BA := Blk.new wt1 #[.slice none 0 0, .slice none 0 0] 32
                  have hal : Below wt1.heap.size wt1 (wt1.alloc (.cells #[.slice none 0 0, .slice none 0 0] 32)) := (Below.refl _ _).alloc (Nat.le_refl _) _
                  have hlN : wt1.heap.size + 1 ≤ (wt1.alloc (.cells #[.slice none 0 0, .slice none 0 0] 32)).heap.size ∧ (wt1.alloc (.cells #[.slice none 0 0, .slice none 0 0] 32)).heap.size ≤ wt1.heap.size + 1 := by simp
                  have hzS := hbS.size
                  replace R1 := R1.below hal
                  replace R2 := R2.below hal
                  replace hbS := chain hbS hal
                  clear hal
                  generalize wt1.alloc (.cells #[.slice none 0 0, .slice none 0 0] 32) = wN at *
                  refine wpAnyH_ready (rs := [5]) (by kernel_rfl) (by simp) ?_
                  refine AllReadyH.cons (o := ⟨some 112, _, _, _, _, _⟩) rfl (fun K hK => ?_) AllReadyH.nil
                  go_simp
                  refine (toRoll_br ra rb _).mono ?_
                  rintro e wt2 ⟨rfl, hbt2⟩
                  replace R1 := R1.below hbt2
                  replace R2 := R2.below hbt2
                  replace BA := BA.below hbt2
                  have hz_hbt2 := hbt2.size
                  replace hbS := chain hbS hbt2
                  clear hbt2
                  (try go_wp2_with fail)
                  refine hK.out _ _ ⟨(BV.below hbS).four.1, (BV.below hbS).four.2.1, (BV.below hbS).four.2.2.1, (BV.below hbS).four.2.2.2.1, (BB.below hbS).two.1, (BB.below hbS).two.2.1, (BS.below hbS).two.1, (BS.below hbS).two.2.1, (V0.below hbS).1.two.1, (V0.below hbS).1.two.2.1, (BX.below hbS).two.1, (BX.below hbS).two.2.1, (V1.below hbS).1.two.1, (V1.below hbS).1.two.2.1⟩ (fun hHeld => ?_)
                  clear hK K
                  try simp only [Act.put, List.setIfInBounds_toArray, List.set_cons_zero, List.set_cons_succ]
                  refine wpAnyH_ready (rs := [7]) (by kernel_rfl) (by simp) ?_
                  refine AllReadyH.cons (o := ⟨some 114, _, _, _, _, _⟩) rfl (fun K hK => ?_) AllReadyH.nil
                  go_simp
                  refine (toStepS_o sa _ cap l _ rfl hle3 (hr.below (chain hb hbS))).mono ?_
                  rintro e wt3 ⟨gs, rfl, OS_, hbt3⟩
                  replace R1 := R1.below hbt3
                  replace R2 := R2.below hbt3
                  replace BA := BA.below hbt3
                  have hz_hbt3 := hbt3.size
                  replace hbS := chain hbS hbt3
                  clear hbt3
                  (try go_wp2_with fail)
                  refine hK.out _ _ ⟨(BV.below hbS).four.1, (BV.below hbS).four.2.1, (BV.below hbS).four.2.2.1, (BV.below hbS).four.2.2.2.1, (BB.below hbS).two.1, (BB.below hbS).two.2.1, (BS.below hbS).two.1, (BS.below hbS).two.2.1, (V0.below hbS).1.two.1, (V0.below hbS).1.two.2.1, (BX.below hbS).two.1, (BX.below hbS).two.2.1, (V1.below hbS).1.two.1, (V1.below hbS).1.two.2.1⟩ (fun hHeld => ?_)
                  clear hK K
                  try simp only [Act.put, List.setIfInBounds_toArray, List.set_cons_zero, List.set_cons_succ]
                  refine wpAnyH_ready (rs := [8]) (by kernel_rfl) (by simp) ?_
                  refine AllReadyH.cons (o := ⟨some 115, _, _, _, _, _⟩) rfl (fun K hK => ?_) AllReadyH.nil
                  go_simp
                  refine (HIM.out _ _ _ _ _ _ _ _ _ _ _ rfl rfl l1 l2 R1.irow R2.irow OS_).mono ?_
                  rintro e wt4 ⟨d1, d2, k1, k2, rfl, hO, hbt4⟩
                  replace R1 := R1.below hbt4
                  replace R2 := R2.below hbt4
                  replace OS_ := OS_.below hbt4
                  replace BA := BA.below hbt4
                  have hz_hbt4 := hbt4.size
                  replace hbS := chain hbS hbt4
                  clear hbt4
                  (try go_wp2_with fail)
                  refine hK.out _ _ ⟨(BV.below hbS).four.1, (BV.below hbS).four.2.1, (BV.below hbS).four.2.2.1, (BV.below hbS).four.2.2.2.1, (BB.below hbS).two.1, (BB.below hbS).two.2.1, (BS.below hbS).two.1, (BS.below hbS).two.2.1, (V0.below hbS).1.two.1, (V0.below hbS).1.two.2.1, (BX.below hbS).two.1, (BX.below hbS).two.2.1, (V1.below hbS).1.two.1, (V1.below hbS).1.two.2.1⟩ (fun hHeld => ?_)
                  clear hK K
                  try simp only [Act.put, List.setIfInBounds_toArray, List.set_cons_zero, List.set_cons_succ]
                  refine wpAnyH_take (i := 9) (oi := ⟨some 106, _, _, _, _, _⟩) (v := ?_) rfl (by kernel_rfl) (by kernel_rfl) (by kernel_rfl) (fun _ _ _ h => absurd h.1 (by simp)) (Or.inl ⟨by rfl, ?_⟩) (by assumption) ?_
                  rotate_left
                  · intro w hSw; (try dsimp only at hSw); go_simp; (try (with_reducible rfl))
                  try simp only [Act.put, List.setIfInBounds_toArray, List.set_cons_zero, List.set_cons_succ]
                  refine wpAnyH_take (i := 10) (oi := ⟨some 116, _, _, _, _, _⟩) (v := ?_) rfl (by kernel_rfl) (by kernel_rfl) (by kernel_rfl) (fun _ _ _ h => absurd h.1 (by simp)) (Or.inl ⟨by rfl, ?_⟩) (by assumption) ?_
                  rotate_left
                  · intro w hSw; (try dsimp only at hSw); go_simp; (try (with_reducible rfl))
                  try simp only [Act.put, List.setIfInBounds_toArray, List.set_cons_zero, List.set_cons_succ]
                  refine wpAnyH_take (i := 11) (oi := ⟨some 117, _, _, _, _, _⟩) (v := ?_) rfl (by kernel_rfl) (by kernel_rfl) (by kernel_rfl) (fun _ _ _ h => absurd h.1 (by simp)) (Or.inl ⟨by rfl, ?_⟩) (by assumption) ?_
                  rotate_left
                  · intro w hSw; (try dsimp only at hSw); go_simp; (try (with_reducible rfl))
                  try simp only [Act.put, List.setIfInBounds_toArray, List.set_cons_zero, List.set_cons_succ]
                  refine wpAnyH_ready (rs := [13]) (by kernel_rfl) (by simp) ?_
                  refine AllReadyH.cons (o := ⟨none, _, _, _, _, _⟩) rfl (fun K hK => ?_) AllReadyH.nil
                  have q0 := BA.two.1
                  have q1 := BA.two.2.1
                  have qf := BA.two.2.2.1
                  have ql := BA.two.2.2.2
                  go_simp
                  (try go_wp2_with fail)
                  refine hK.out _ _ ⟨(BV.below (below2s BA hbS (by omega))).four.1, (BV.below (below2s BA hbS (by omega))).four.2.1, (BV.below (below2s BA hbS (by omega))).four.2.2.1, (BV.below (below2s BA hbS (by omega))).four.2.2.2.1, (BB.below (below2s BA hbS (by omega))).two.1, (BB.below (below2s BA hbS (by omega))).two.2.1, (BS.below (below2s BA hbS (by omega))).two.1, (BS.below (below2s BA hbS (by omega))).two.2.1, (V0.below (below2s BA hbS (by omega))).1.two.1, (V0.below (below2s BA hbS (by omega))).1.two.2.1, (BX.below (below2s BA hbS (by omega))).two.1, (BX.below (below2s BA hbS (by omega))).two.2.1, (V1.below (below2s BA hbS (by omega))).1.two.1, (V1.below (below2s BA hbS (by omega))).1.two.2.1⟩ (fun hHeld => ?_)
                  clear hK K
                  try simp only [Act.put, List.setIfInBounds_toArray, List.set_cons_zero, List.set_cons_succ]
                  refine wpAnyH_take (i := 14) (oi := ⟨some 20, _, _, _, _, _⟩) (v := ?_) rfl (by kernel_rfl) (by kernel_rfl) (by kernel_rfl) (fun _ _ _ h => absurd h.1 (by simp)) (Or.inl ⟨by rfl, ?_⟩) (by assumption) ?_
                  rotate_left
                  · intro w hSw; (try dsimp only at hSw); go_simp; (try (with_reducible rfl))
                  try simp only [Act.put, List.setIfInBounds_toArray, List.set_cons_zero, List.set_cons_succ]
                  refine wpAnyH_done (by kernel_rfl) ?_ _
                  rw [HJ.out]
                  refine ⟨rfl, _, d1, d2, k1, k2, _, _, g1, g2, gs, ?_, VarB.stored BA hO ?_ ?_ ?_ ?_, below2s BA hbS (by omega)⟩
                  · simp only [Act.put, List.setIfInBounds_toArray, List.set_cons_zero, List.set_cons_succ]
                  all_goals (first | omega | (simp; omega))
              · go_simp
                refine hK.out _ _ ⟨(BV.below (hbS.alloc hbS.size _)).four.1, (BV.below (hbS.alloc hbS.size _)).four.2.1, (BV.below (hbS.alloc hbS.size _)).four.2.2.1, (BV.below (hbS.alloc hbS.size _)).four.2.2.2.1, (BB.below (hbS.alloc hbS.size _)).two.1, (BB.below (hbS.alloc hbS.size _)).two.2.1, (BS.below (hbS.alloc hbS.size _)).two.1, (BS.below (hbS.alloc hbS.size _)).two.2.1, (V0.below (hbS.alloc hbS.size _)).1.two.1, (V0.below (hbS.alloc hbS.size _)).1.two.2.1, (BX.below (hbS.alloc hbS.size _)).two.1, (BX.below (hbS.alloc hbS.size _)).two.2.1, (V1.below (hbS.alloc hbS.size _)).1.two.1, (V1.below (hbS.alloc hbS.size _)).1.two.2.1⟩ (fun hHeld => ?_)
                clear hK K
                try simp only [Act.put, List.setIfInBounds_toArray, List.set_cons_zero, List.set_cons_succ]
                have BA := Blk.new wt0 #[.slice none 0 0, .slice none 0 0] 32
                have hal : Below wt0.heap.size wt0 (wt0.alloc (.cells #[.slice none 0 0, .slice none 0 0] 32)) := (Below.refl _ _).alloc (Nat.le_refl _) _
                have hlN : wt0.heap.size + 1 ≤ (wt0.alloc (.cells #[.slice none 0 0, .slice none 0 0] 32)).heap.size ∧ (wt0.alloc (.cells #[.slice none 0 0, .slice none 0 0] 32)).heap.size ≤ wt0.heap.size + 1 := by simp
                have hzS := hbS.size
                replace hbS := chain hbS hal
                clear hal
                generalize wt0.alloc (.cells #[.slice none 0 0, .slice none 0 0] 32) = wN at *
                refine wpAnyH_ready (rs := [3]) (by kernel_rfl) (by simp) ?_
                refine AllReadyH.cons (o := ⟨some 110, _, _, _, _, _⟩) rfl (fun K hK => ?_) AllReadyH.nil
                go_simp
                refine (toBoard_any a1 a2 _ _ c1 c2 xs ys _ rfl rfl l1 l2 (r1.below (chain hb hbS)) (r2.below (chain hb hbS))).mono ?_
                rintro e wt1 ⟨g1, g2, rfl, gg1, gg2, R1, R2, hbt1⟩
                replace BA := BA.below hbt1
                have hz_hbt1 := hbt1.size
                replace hbS := chain hbS hbt1
                clear hbt1
                (try go_wp2_with fail)
                refine hK.out _ _ ⟨(BV.below hbS).four.1, (BV.below hbS).four.2.1, (BV.below hbS).four.2.2.1, (BV.below hbS).four.2.2.2.1, (BB.below hbS).two.1, (BB.below hbS).two.2.1, (BS.below hbS).two.1, (BS.below hbS).two.2.1, (V0.below hbS).1.two.1, (V0.below hbS).1.two.2.1, (BX.below hbS).two.1, (BX.below hbS).two.2.1, (V1.below hbS).1.two.1, (V1.below hbS).1.two.2.1⟩ (fun hHeld => ?_)
                clear hK K
                try simp only [Act.put, List.setIfInBounds_toArray, List.set_cons_zero, List.set_cons_succ]
                refine wpAnyH_ready (rs := [5]) (by kernel_rfl) (by simp) ?_
                refine AllReadyH.cons (o := ⟨some 112, _, _, _, _, _⟩) rfl (fun K hK => ?_) AllReadyH.nil
                go_simp
                refine (toRoll_br ra rb _).mono ?_
                rintro e wt2 ⟨rfl, hbt2⟩
                replace R1 := R1.below hbt2
                replace R2 := R2.below hbt2
                replace BA := BA.below hbt2
                have hz_hbt2 := hbt2.size
                replace hbS := chain hbS hbt2
                clear hbt2
                (try go_wp2_with fail)
                refine hK.out _ _ ⟨(BV.below hbS).four.1, (BV.below hbS).four.2.1, (BV.below hbS).four.2.2.1, (BV.below hbS).four.2.2.2.1, (BB.below hbS).two.1, (BB.below hbS).two.2.1, (BS.below hbS).two.1, (BS.below hbS).two.2.1, (V0.below hbS).1.two.1, (V0.below hbS).1.two.2.1, (BX.below hbS).two.1, (BX.below hbS).two.2.1, (V1.below hbS).1.two.1, (V1.below hbS).1.two.2.1⟩ (fun hHeld => ?_)
                clear hK K
                try simp only [Act.put, List.setIfInBounds_toArray, List.set_cons_zero, List.set_cons_succ]
                refine wpAnyH_ready (rs := [7]) (by kernel_rfl) (by simp) ?_
                refine AllReadyH.cons (o := ⟨some 114, _, _, _, _, _⟩) rfl (fun K hK => ?_) AllReadyH.nil
                go_simp
                refine (toStepS_o sa _ cap l _ rfl hle3 (hr.below (chain hb hbS))).mono ?_
                rintro e wt3 ⟨gs, rfl, OS_, hbt3⟩
                replace R1 := R1.below hbt3
                replace R2 := R2.below hbt3
                replace BA := BA.below hbt3
                have hz_hbt3 := hbt3.size
                replace hbS := chain hbS hbt3
                clear hbt3
                (try go_wp2_with fail)
                refine hK.out _ _ ⟨(BV.below hbS).four.1, (BV.below hbS).four.2.1, (BV.below hbS).four.2.2.1, (BV.below hbS).four.2.2.2.1, (BB.below hbS).two.1, (BB.below hbS).two.2.1, (BS.below hbS).two.1, (BS.below hbS).two.2.1, (V0.below hbS).1.two.1, (V0.below hbS).1.two.2.1, (BX.below hbS).two.1, (BX.below hbS).two.2.1, (V1.below hbS).1.two.1, (V1.below hbS).1.two.2.1⟩ (fun hHeld => ?_)
                clear hK K
                try simp only [Act.put, List.setIfInBounds_toArray, List.set_cons_zero, List.set_cons_succ]
                refine wpAnyH_ready (rs := [8]) (by kernel_rfl) (by simp) ?_
                refine AllReadyH.cons (o := ⟨some 115, _, _, _, _, _⟩) rfl (fun K hK => ?_) AllReadyH.nil
                go_simp
                refine (HIM.out _ _ _ _ _ _ _ _ _ _ _ rfl rfl l1 l2 R1.irow R2.irow OS_).mono ?_
                rintro e wt4 ⟨d1, d2, k1, k2, rfl, hO, hbt4⟩
                replace R1 := R1.below hbt4
                replace R2 := R2.below hbt4
                replace OS_ := OS_.below hbt4
                replace BA := BA.below hbt4
                have hz_hbt4 := hbt4.size
                replace hbS := chain hbS hbt4
                clear hbt4
                (try go_wp2_with fail)
                refine hK.out _ _ ⟨(BV.below hbS).four.1, (BV.below hbS).four.2.1, (BV.below hbS).four.2.2.1, (BV.below hbS).four.2.2.2.1, (BB.below hbS).two.1, (BB.below hbS).two.2.1, (BS.below hbS).two.1, (BS.below hbS).two.2.1, (V0.below hbS).1.two.1, (V0.below hbS).1.two.2.1, (BX.below hbS).two.1, (BX.below hbS).two.2.1, (V1.below hbS).1.two.1, (V1.below hbS).1.two.2.1⟩ (fun hHeld => ?_)
                clear hK K
                try simp only [Act.put, List.setIfInBounds_toArray, List.set_cons_zero, List.set_cons_succ]
                refine wpAnyH_take (i := 9) (oi := ⟨some 106, _, _, _, _, _⟩) (v := ?_) rfl (by kernel_rfl) (by kernel_rfl) (by kernel_rfl) (fun _ _ _ h => absurd h.1 (by simp)) (Or.inl ⟨by rfl, ?_⟩) (by assumption) ?_
                rotate_left
                · intro w hSw; (try dsimp only at hSw); go_simp; (try (with_reducible rfl))
                try simp only [Act.put, List.setIfInBounds_toArray, List.set_cons_zero, List.set_cons_succ]
                refine wpAnyH_take (i := 10) (oi := ⟨some 116, _, _, _, _, _⟩) (v := ?_) rfl (by kernel_rfl) (by kernel_rfl) (by kernel_rfl) (fun _ _ _ h => absurd h.1 (by simp)) (Or.inl ⟨by rfl, ?_⟩) (by assumption) ?_
                rotate_left
                · intro w hSw; (try dsimp only at hSw); go_simp; (try (with_reducible rfl))
                try simp only [Act.put, List.setIfInBounds_toArray, List.set_cons_zero, List.set_cons_succ]
                refine wpAnyH_take (i := 11) (oi := ⟨some 117, _, _, _, _, _⟩) (v := ?_) rfl (by kernel_rfl) (by kernel_rfl) (by kernel_rfl) (fun _ _ _ h => absurd h.1 (by simp)) (Or.inl ⟨by rfl, ?_⟩) (by assumption) ?_
                rotate_left
                · intro w hSw; (try dsimp only at hSw); go_simp; (try (with_reducible rfl))
                try simp only [Act.put, List.setIfInBounds_toArray, List.set_cons_zero, List.set_cons_succ]
                refine wpAnyH_ready (rs := [13]) (by kernel_rfl) (by simp) ?_
                refine AllReadyH.cons (o := ⟨none, _, _, _, _, _⟩) rfl (fun K hK => ?_) AllReadyH.nil
                have q0 := BA.two.1
                have q1 := BA.two.2.1
                have qf := BA.two.2.2.1
                have ql := BA.two.2.2.2
                go_simp
                (try go_wp2_with fail)
                refine hK.out _ _ ⟨(BV.below (below2s BA hbS (by omega))).four.1, (BV.below (below2s BA hbS (by omega))).four.2.1, (BV.below (below2s BA hbS (by omega))).four.2.2.1, (BV.below (below2s BA hbS (by omega))).four.2.2.2.1, (BB.below (below2s BA hbS (by omega))).two.1, (BB.below (below2s BA hbS (by omega))).two.2.1, (BS.below (below2s BA hbS (by omega))).two.1, (BS.below (below2s BA hbS (by omega))).two.2.1, (V0.below (below2s BA hbS (by omega))).1.two.1, (V0.below (below2s BA hbS (by omega))).1.two.2.1, (BX.below (below2s BA hbS (by omega))).two.1, (BX.below (below2s BA hbS (by omega))).two.2.1, (V1.below (below2s BA hbS (by omega))).1.two.1, (V1.below (below2s BA hbS (by omega))).1.two.2.1⟩ (fun hHeld => ?_)
                clear hK K
                try simp only [Act.put, List.setIfInBounds_toArray, List.set_cons_zero, List.set_cons_succ]
                refine wpAnyH_take (i := 14) (oi := ⟨some 20, _, _, _, _, _⟩) (v := ?_) rfl (by kernel_rfl) (by kernel_rfl) (by kernel_rfl) (fun _ _ _ h => absurd h.1 (by simp)) (Or.inl ⟨by rfl, ?_⟩) (by assumption) ?_
                rotate_left
                · intro w hSw; (try dsimp only at hSw); go_simp; (try (with_reducible rfl))
                try simp only [Act.put, List.setIfInBounds_toArray, List.set_cons_zero, List.set_cons_succ]
                refine wpAnyH_done (by kernel_rfl) ?_ _
                rw [HJ.out]
                refine ⟨rfl, _, d1, d2, k1, k2, _, _, g1, g2, gs, ?_, VarB.stored BA hO ?_ ?_ ?_ ?_, below2s BA hbS (by omega)⟩
                · simp only [Act.put, List.setIfInBounds_toArray, List.set_cons_zero, List.set_cons_succ]
                all_goals (first | omega | (simp; omega))
            · go_simp
              refine hK.out _ _ ⟨(BV.below (hbS.alloc hbS.size _)).four.1, (BV.below (hbS.alloc hbS.size _)).four.2.1, (BV.below (hbS.alloc hbS.size _)).four.2.2.1, (BV.below (hbS.alloc hbS.size _)).four.2.2.2.1, (BB.below (hbS.alloc hbS.size _)).two.1, (BB.below (hbS.alloc hbS.size _)).two.2.1, (BS.below (hbS.alloc hbS.size _)).two.1, (BS.below (hbS.alloc hbS.size _)).two.2.1, (V0.below (hbS.alloc hbS.size _)).1.two.1, (V0.below (hbS.alloc hbS.size _)).1.two.2.1, (BX.below (hbS.alloc hbS.size _)).two.1, (BX.below (hbS.alloc hbS.size _)).two.2.1, (V1.below (hbS.alloc hbS.size _)).1.two.1, (V1.below (hbS.alloc hbS.size _)).1.two.2.1⟩ (fun hHeld => ?_)
              clear hK K
              try simp only [Act.put, List.setIfInBounds_toArray, List.set_cons_zero, List.set_cons_succ]
              have BA := Blk.new vd #[.slice none 0 0, .slice none 0 0] 32
              have hal : Below vd.heap.size vd (vd.alloc (.cells #[.slice none 0 0, .slice none 0 0] 32)) := (Below.refl _ _).alloc (Nat.le_refl _) _
              have hlN : vd.heap.size + 1 ≤ (vd.alloc (.cells #[.slice none 0 0, .slice none 0 0] 32)).heap.size ∧ (vd.alloc (.cells #[.slice none 0 0, .slice none 0 0] 32)).heap.size ≤ vd.heap.size + 1 := by simp
              have hzS := hbS.size
              replace hbS := chain hbS hal
              clear hal
              generalize vd.alloc (.cells #[.slice none 0 0, .slice none 0 0] 32) = wN at *
              refine wpAnyH_ready (rs := [1]) (by kernel_rfl) (by simp) ?_
              refine AllReadyH.cons (o := ⟨some 108, _, _, _, _, _⟩) rfl (fun K hK => ?_) AllReadyH.nil
              go_simp
              refine (toVariant_any _ _ _ _ _).mono ?_
              rintro e wt0 ⟨rfl, hbt0⟩
              replace BA := BA.below hbt0
              have hz_hbt0 := hbt0.size
              replace hbS := chain hbS hbt0
              clear hbt0
              (try go_wp2_with fail)
              refine hK.out _ _ ⟨(BV.below hbS).four.1, (BV.below hbS).four.2.1, (BV.below hbS).four.2.2.1, (BV.below hbS).four.2.2.2.1, (BB.below hbS).two.1, (BB.below hbS).two.2.1, (BS.below hbS).two.1, (BS.below hbS).two.2.1, (V0.below hbS).1.two.1, (V0.below hbS).1.two.2.1, (BX.below hbS).two.1, (BX.below hbS).two.2.1, (V1.below hbS).1.two.1, (V1.below hbS).1.two.2.1⟩ (fun hHeld => ?_)
              clear hK K
              try simp only [Act.put, List.setIfInBounds_toArray, List.set_cons_zero, List.set_cons_succ]
              refine wpAnyH_ready (rs := [3]) (by kernel_rfl) (by simp) ?_
              refine AllReadyH.cons (o := ⟨some 110, _, _, _, _, _⟩) rfl (fun K hK => ?_) AllReadyH.nil
              go_simp
              refine (toBoard_any a1 a2 _ _ c1 c2 xs ys _ rfl rfl l1 l2 (r1.below (chain hb hbS)) (r2.below (chain hb hbS))).mono ?_
              rintro e wt1 ⟨g1, g2, rfl, gg1, gg2, R1, R2, hbt1⟩
              replace BA := BA.below hbt1
              have hz_hbt1 := hbt1.size
              replace hbS := chain hbS hbt1
              clear hbt1
              (try go_wp2_with fail)
              refine hK.out _ _ ⟨(BV.below hbS).four.1, (BV.below hbS).four.2.1, (BV.below hbS).four.2.2.1, (BV.below hbS).four.2.2.2.1, (BB.below hbS).two.1, (BB.below hbS).two.2.1, (BS.below hbS).two.1, (BS.below hbS).two.2.1, (V0.below hbS).1.two.1, (V0.below hbS).1.two.2.1, (BX.below hbS).two.1, (BX.below hbS).two.2.1, (V1.below hbS).1.two.1, (V1.below hbS).1.two.2.1⟩ (fun hHeld => ?_)
              clear hK K
              try simp only [Act.put, List.setIfInBounds_toArray, List.set_cons_zero, List.set_cons_succ]
              refine wpAnyH_ready (rs := [5]) (by kernel_rfl) (by simp) ?_
              refine AllReadyH.cons (o := ⟨some 112, _, _, _, _, _⟩) rfl (fun K hK => ?_) AllReadyH.nil
              go_simp
              refine (toRoll_br ra rb _).mono ?_
              rintro e wt2 ⟨rfl, hbt2⟩
              replace R1 := R1.below hbt2
              replace R2 := R2.below hbt2
              replace BA := BA.below hbt2
              have hz_hbt2 := hbt2.size
              replace hbS := chain hbS hbt2
              clear hbt2
              (try go_wp2_with fail)
              refine hK.out _ _ ⟨(BV.below hbS).four.1, (BV.below hbS).four.2.1, (BV.below hbS).four.2.2.1, (BV.below hbS).four.2.2.2.1, (BB.below hbS).two.1, (BB.below hbS).two.2.1, (BS.below hbS).two.1, (BS.below hbS).two.2.1, (V0.below hbS).1.two.1, (V0.below hbS).1.two.2.1, (BX.below hbS).two.1, (BX.below hbS).two.2.1, (V1.below hbS).1.two.1, (V1.below hbS).1.two.2.1⟩ (fun hHeld => ?_)
              clear hK K
              try simp only [Act.put, List.setIfInBounds_toArray, List.set_cons_zero, List.set_cons_succ]
              refine wpAnyH_ready (rs := [7]) (by kernel_rfl) (by simp) ?_
              refine AllReadyH.cons (o := ⟨some 114, _, _, _, _, _⟩) rfl (fun K hK => ?_) AllReadyH.nil
              go_simp
              refine (toStepS_o sa _ cap l _ rfl hle3 (hr.below (chain hb hbS))).mono ?_
              rintro e wt3 ⟨gs, rfl, OS_, hbt3⟩
              replace R1 := R1.below hbt3
              replace R2 := R2.below hbt3
              replace BA := BA.below hbt3
              have hz_hbt3 := hbt3.size
              replace hbS := chain hbS hbt3
              clear hbt3
              (try go_wp2_with fail)
              refine hK.out _ _ ⟨(BV.below hbS).four.1, (BV.below hbS).four.2.1, (BV.below hbS).four.2.2.1, (BV.below hbS).four.2.2.2.1, (BB.below hbS).two.1, (BB.below hbS).two.2.1, (BS.below hbS).two.1, (BS.below hbS).two.2.1, (V0.below hbS).1.two.1, (V0.below hbS).1.two.2.1, (BX.below hbS).two.1, (BX.below hbS).two.2.1, (V1.below hbS).1.two.1, (V1.below hbS).1.two.2.1⟩ (fun hHeld => ?_)
              clear hK K
              try simp only [Act.put, List.setIfInBounds_toArray, List.set_cons_zero, List.set_cons_succ]
              refine wpAnyH_ready (rs := [8]) (by kernel_rfl) (by simp) ?_
              refine AllReadyH.cons (o := ⟨some 115, _, _, _, _, _⟩) rfl (fun K hK => ?_) AllReadyH.nil
              go_simp
              refine (HIM.out _ _ _ _ _ _ _ _ _ _ _ rfl rfl l1 l2 R1.irow R2.irow OS_).mono ?_
              rintro e wt4 ⟨d1, d2, k1, k2, rfl, hO, hbt4⟩
              replace R1 := R1.below hbt4
              replace R2 := R2.below hbt4
              replace OS_ := OS_.below hbt4
              replace BA := BA.below hbt4
              have hz_hbt4 := hbt4.size
              replace hbS := chain hbS hbt4
              clear hbt4
              (try go_wp2_with fail)
              refine hK.out _ _ ⟨(BV.below hbS).four.1, (BV.below hbS).four.2.1, (BV.below hbS).four.2.2.1, (BV.below hbS).four.2.2.2.1, (BB.below hbS).two.1, (BB.below hbS).two.2.1, (BS.below hbS).two.1, (BS.below hbS).two.2.1, (V0.below hbS).1.two.1, (V0.below hbS).1.two.2.1, (BX.below hbS).two.1, (BX.below hbS).two.2.1, (V1.below hbS).1.two.1, (V1.below hbS).1.two.2.1⟩ (fun hHeld => ?_)
              clear hK K
              try simp only [Act.put, List.setIfInBounds_toArray, List.set_cons_zero, List.set_cons_succ]
              refine wpAnyH_take (i := 9) (oi := ⟨some 106, _, _, _, _, _⟩) (v := ?_) rfl (by kernel_rfl) (by kernel_rfl) (by kernel_rfl) (fun _ _ _ h => absurd h.1 (by simp)) (Or.inl ⟨by rfl, ?_⟩) (by assumption) ?_
              rotate_left
              · intro w hSw; (try dsimp only at hSw); go_simp; (try (with_reducible rfl))
              try simp only [Act.put, List.setIfInBounds_toArray, List.set_cons_zero, List.set_cons_succ]
              refine wpAnyH_take (i := 10) (oi := ⟨some 116, _, _, _, _, _⟩) (v := ?_) rfl (by kernel_rfl) (by kernel_rfl) (by kernel_rfl) (fun _ _ _ h => absurd h.1 (by simp)) (Or.inl ⟨by rfl, ?_⟩) (by assumption) ?_
              rotate_left
              · intro w hSw; (try dsimp only at hSw); go_simp; (try (with_reducible rfl))
              try simp only [Act.put, List.setIfInBounds_toArray, List.set_cons_zero, List.set_cons_succ]
              refine wpAnyH_take (i := 11) (oi := ⟨some 117, _, _, _, _, _⟩) (v := ?_) rfl (by kernel_rfl) (by kernel_rfl) (by kernel_rfl) (fun _ _ _ h => absurd h.1 (by simp)) (Or.inl ⟨by rfl, ?_⟩) (by assumption) ?_
              rotate_left
              · intro w hSw; (try dsimp only at hSw); go_simp; (try (with_reducible rfl))
              try simp only [Act.put, List.setIfInBounds_toArray, List.set_cons_zero, List.set_cons_succ]
              refine wpAnyH_ready (rs := [13]) (by kernel_rfl) (by simp) ?_
              refine AllReadyH.cons (o := ⟨none, _, _, _, _, _⟩) rfl (fun K hK => ?_) AllReadyH.nil
              have q0 := BA.two.1
              have q1 := BA.two.2.1
              have qf := BA.two.2.2.1
              have ql := BA.two.2.2.2
              go_simp
              (try go_wp2_with fail)
              refine hK.out _ _ ⟨(BV.below (below2s BA hbS (by omega))).four.1, (BV.below (below2s BA hbS (by omega))).four.2.1, (BV.below (below2s BA hbS (by omega))).four.2.2.1, (BV.below (below2s BA hbS (by omega))).four.2.2.2.1, (BB.below (below2s BA hbS (by omega))).two.1, (BB.below (below2s BA hbS (by omega))).two.2.1, (BS.below (below2s BA hbS (by omega))).two.1, (BS.below (below2s BA hbS (by omega))).two.2.1, (V0.below (below2s BA hbS (by omega))).1.two.1, (V0.below (below2s BA hbS (by omega))).1.two.2.1, (BX.below (below2s BA hbS (by omega))).two.1, (BX.below (below2s BA hbS (by omega))).two.2.1, (V1.below (below2s BA hbS (by omega))).1.two.1, (V1.below (below2s BA hbS (by omega))).1.two.2.1⟩ (fun hHeld => ?_)
              clear hK K
              try simp only [Act.put, List.setIfInBounds_toArray, List.set_cons_zero, List.set_cons_succ]
              refine wpAnyH_take (i := 14) (oi := ⟨some 20, _, _, _, _, _⟩) (v := ?_) rfl (by kernel_rfl) (by kernel_rfl) (by kernel_rfl) (fun _ _ _ h => absurd h.1 (by simp)) (Or.inl ⟨by rfl, ?_⟩) (by assumption) ?_
              rotate_left
              · intro w hSw; (try dsimp only at hSw); go_simp; (try (with_reducible rfl))
              try simp only [Act.put, List.setIfInBounds_toArray, List.set_cons_zero, List.set_cons_succ]
              refine wpAnyH_done (by kernel_rfl) ?_ _
              rw [HJ.out]
              refine ⟨rfl, _, d1, d2, k1, k2, _, _, g1, g2, gs, ?_, VarB.stored BA hO ?_ ?_ ?_ ?_, below2s BA hbS (by omega)⟩
              · simp only [Act.put, List.setIfInBounds_toArray, List.set_cons_zero, List.set_cons_succ]
              all_goals (first | omega | (simp; omega))
          · intro a' w17 hj
            rw [HJ.out] at hj
            clear HJ
            obtain ⟨BV2, d1V2, d2V2, k1V2, k2V2, loV2, hiV2, g1V2, g2V2, gsV2, rfl, V2, hbS⟩ := hj
            try simp only [Act.put, List.setIfInBounds_toArray, List.set_cons_zero, List.set_cons_succ]
            replace BV := BV.below hbS
            replace BB := BB.below hbS
            replace BS := BS.below hbS
            replace V0 := V0.below hbS
            replace BX := BX.below hbS
            replace V1 := V1.below hbS
            have hz17 := hbS.size
            replace hb := chain hb hbS
            clear hbS
            have e1V2 := V2.2.2.1
            have e2V2 := V2.2.2.2.1
            have e3V2 := V2.2.2.2.2.1
            have e4V2 := V2.2.2.2.2.2
            have e5V2 := V2.1.lt
            obtain ⟨q0_BV, q1_BV, q2_BV, q3_BV, qf_BV, ql_BV⟩ := BV.four
            obtain ⟨q0_BB, q1_BB, qf_BB, ql_BB⟩ := BB.two
            obtain ⟨q0_BS, q1_BS, qf_BS, ql_BS⟩ := BS.two
            obtain ⟨q0_V0_1, q1_V0_1, qf_V0_1, ql_V0_1⟩ := V0.1.two
            obtain ⟨q0_BX, q1_BX, qf_BX, ql_BX⟩ := BX.two
            obtain ⟨q0_V1_1, q1_V1_1, qf_V1_1, ql_V1_1⟩ := V1.1.two
            obtain ⟨q0_V2_1, q1_V2_1, qf_V2_1, ql_V2_1⟩ := V2.1.two
            go_wp2_with fail
            clear q0_BV q1_BV q2_BV q3_BV qf_BV ql_BV
            clear q0_BB q1_BB qf_BB ql_BB
            clear q0_BS q1_BS qf_BS ql_BS
            clear q0_V0_1 q1_V0_1 qf_V0_1 ql_V0_1
            clear q0_BX q1_BX qf_BX ql_BX
            clear q0_V1_1 q1_V1_1 qf_V1_1 ql_V1_1
            clear q0_V2_1 q1_V2_1 qf_V2_1 ql_V2_1
            refine (eqBoard_same _ _ _ _ _ _ _ _ _ _ X Y _ rfl rfl lX lY V2.2.1.irow1 V2.2.1.irow2 V0.2.1.irow1 V0.2.1.irow2).mono ?_
            rintro e w18 ⟨rfl, hb18⟩
            replace BV := BV.below hb18
            replace BB := BB.below hb18
            replace BS := BS.below hb18
            replace V0 := V0.below hb18
            replace BX := BX.below hb18
            replace V1 := V1.below hb18
            replace V2 := V2.below hb18
            have hz18 := hb18.size
            replace hb := chain hb hb18
            clear hb18
            obtain ⟨q0_BV, q1_BV, q2_BV, q3_BV, qf_BV, ql_BV⟩ := BV.four
            obtain ⟨q0_BB, q1_BB, qf_BB, ql_BB⟩ := BB.two
            obtain ⟨q0_BS, q1_BS, qf_BS, ql_BS⟩ := BS.two
            obtain ⟨q0_V0_1, q1_V0_1, qf_V0_1, ql_V0_1⟩ := V0.1.two
            obtain ⟨q0_BX, q1_BX, qf_BX, ql_BX⟩ := BX.two
            obtain ⟨q0_V1_1, q1_V1_1, qf_V1_1, ql_V1_1⟩ := V1.1.two
            obtain ⟨q0_V2_1, q1_V2_1, qf_V2_1, ql_V2_1⟩ := V2.1.two
            go_wp2_with fail
            clear q0_BV q1_BV q2_BV q3_BV qf_BV ql_BV
            clear q0_BB q1_BB qf_BB ql_BB
            clear q0_BS q1_BS qf_BS ql_BS
            clear q0_V0_1 q1_V0_1 qf_V0_1 ql_V0_1
            clear q0_BX q1_BX qf_BX ql_BX
            clear q0_V1_1 q1_V1_1 qf_V1_1 ql_V1_1
            clear q0_V2_1 q1_V2_1 qf_V2_1 ql_V2_1
            refine (heldBoard_any _ _ X.length Y.length _ _ 1 _ lX lY (by omega) (by omega) V1.2.1.irow1 V1.2.1.irow2).mono ?_
            rintro e w19 ⟨rfl, hb19⟩
            replace BV := BV.below hb19
            replace BB := BB.below hb19
            replace BS := BS.below hb19
            replace V0 := V0.below hb19
            replace BX := BX.below hb19
            replace V1 := V1.below hb19
            replace V2 := V2.below hb19
            have hz19 := hb19.size
            replace hb := chain hb hb19
            clear hb19
            obtain ⟨q0_BV, q1_BV, q2_BV, q3_BV, qf_BV, ql_BV⟩ := BV.four
            obtain ⟨q0_BB, q1_BB, qf_BB, ql_BB⟩ := BB.two
            obtain ⟨q0_BS, q1_BS, qf_BS, ql_BS⟩ := BS.two
            obtain ⟨q0_V0_1, q1_V0_1, qf_V0_1, ql_V0_1⟩ := V0.1.two
            obtain ⟨q0_BX, q1_BX, qf_BX, ql_BX⟩ := BX.two
            obtain ⟨q0_V1_1, q1_V1_1, qf_V1_1, ql_V1_1⟩ := V1.1.two
            obtain ⟨q0_V2_1, q1_V2_1, qf_V2_1, ql_V2_1⟩ := V2.1.two
            go_wp2_with fail
            go_ret
            exact ⟨rfl, hb⟩
set_option maxRecDepth 100000 in
theorem fnExactPlaySteps_lifted (os : Os) (started : os.Started) (H : Type) (enc : TypeId × Value → H) :
    ReturnsInHanded {} Try.checked os 3 .any (Rows.fnExactPlayStepsSpec.pre6 enc Try.prog Try.f3 Rows.fnExactPlayStepsRow.domain false) (Rows.fnExactPlayStepsSpec.post enc Try.prog Try.f3 false true false false) := by
  refine returnsInHanded_of_change (C := Try.checked) own started (by kernel_rfl) Try.func3
    (ChangeSpec.witness6 (enc := enc) (C := Try.checked) false ⟨#[], #[.agg #[.int .i64 0, .int .i64 0, .int .i64 0, .int .i64 0], .agg #[.slice none 0 0, .slice none 0 0], .agg #[.int .i64 0, .int .i64 0], .slice none 0 0], []⟩ 8 (by kernel_rfl) (by kernel_rfl) (by kernel_rfl) (by kernel_rfl)) ?_
  intro W base args ds gs before hval0 hW hcnd _
  have hval : ∀ (j : Nat) t v, Try.f3.params[j]? = some t → args[j]? = some v → Value.okWide Try.prog W .any base t v := hval0
  have hW' := hW
  obtain ⟨p, q, hA0, hV, rfl, hfz, hnd⟩ := hW
  have hA : DataW.TrodAll enc Try.prog W 0 (fun _ => true) true Try.f3.params.toList args.toList ds p := hA0
  rw [Try.params3] at hA hval
  obtain ⟨v0, vs0, d0, ds0, p0, q0, hargs, rfl, rfl, h0, r0⟩ := trodAll_cons hA
  obtain ⟨v1, vs1, d1, ds1, p1, q1, rfl, rfl, rfl, h1, r1⟩ := trodAll_cons r0
  obtain ⟨v2, vs2, d2, ds2, p2, q2, rfl, rfl, rfl, h2, r2⟩ := trodAll_cons r1
  obtain ⟨v3, vs3, d3, ds3, p3, q3, rfl, rfl, rfl, h3, r3⟩ := trodAll_cons r2
  obtain ⟨rfl, rfl, rfl⟩ := trodAll_nil r3
  obtain rfl : args = #[v0, v1, v2, v3] := by cases args; simp_all
  obtain ⟨rfl, rfl⟩ := trodVars_none hV
  have k0 := h0
  have lt0 : ∀ x ∈ p0, x.block < W.heap.size := by obtain ⟨m, hm⟩ := k0; exact DataW.trod_lt m _ _ _ hm
  have k1 := h1
  have lt1 : ∀ x ∈ p1, x.block < W.heap.size := by obtain ⟨m, hm⟩ := k1; exact DataW.trod_lt m _ _ _ hm
  have k2 := h2
  have lt2 : ∀ x ∈ p2, x.block < W.heap.size := by obtain ⟨m, hm⟩ := k2; exact DataW.trod_lt m _ _ _ hm
  have k3 := h3
  have lt3 : ∀ x ∈ p3, x.block < W.heap.size := by obtain ⟨m, hm⟩ := k3; exact DataW.trod_lt m _ _ _ hm
  obtain ⟨x0_0, x1_0, x2_0, x3_0, y0_0, y1_0, y2_0, y3_0, m_0, rfl, _, _, hy0_0, hy1_0, hy2_0, hy3_0⟩ := Joins.open_agg4 Try.underlying23 (by kernel_rfl) (show Try.prog.cellsOf 23 = 4 by kernel_rfl) (hval 0 23 v0 rfl rfl) h0
  obtain ⟨a0_0, e0_0, _, wa0_0⟩ := DataW.trod_int Try.underlying2 hy0_0
  obtain ⟨a1_0, e1_0, _, wa1_0⟩ := DataW.trod_int Try.underlying2 hy1_0
  obtain ⟨a2_0, e2_0, _, wa2_0⟩ := DataW.trod_int Try.underlying2 hy2_0
  obtain ⟨a3_0, e3_0, _, wa3_0⟩ := DataW.trod_int Try.underlying2 hy3_0
  simp at e0_0 e1_0 e2_0 e3_0
  subst e0_0 e1_0 e2_0 e3_0
  obtain ⟨x0_1, x1_1, y0_1, y1_1, m_1, rfl, _, _, hy0_1, hy1_1⟩ := Joins.open_agg2 Try.underlying26 (by kernel_rfl) (show Try.prog.cellsOf 26 = 2 by kernel_rfl) (hval 1 26 v1 rfl rfl) h1
  obtain ⟨ra_1, rn_1, rc_1, rx_1, rfl, rl_1, rm_1, rr_1, rw_1⟩ := open_row hy0_1
  obtain ⟨sa_1, sn_1, sc_1, sx_1, rfl, sl_1, sm_1, sr_1, sw_1⟩ := open_row hy1_1
  obtain ⟨x0_2, x1_2, y0_2, y1_2, m_2, rfl, _, _, hy0_2, hy1_2⟩ := Joins.open_agg2 Try.underlying28 (by kernel_rfl) (show Try.prog.cellsOf 28 = 2 by kernel_rfl) (hval 2 28 v2 rfl rfl) h2
  obtain ⟨a0_2, e0_2, _, wa0_2⟩ := DataW.trod_int Try.underlying2 hy0_2
  obtain ⟨a1_2, e1_2, _, wa1_2⟩ := DataW.trod_int Try.underlying2 hy1_2
  simp at e0_2 e1_2
  subst e0_2 e1_2
  obtain ⟨sa_3, sl_3, sc_3, rfl⟩ := okWide_slice Try.underlying29 (hval 3 29 v3 rfl rfl)
  obtain ⟨ra_3, rn_3, rc_3, rx_3, hv_3, rl_3, rm_3, rr_3⟩ : ∃ (a : Option Addr) (n cap : Nat) (l : List Stp), Value.slice sa_3 sl_3 sc_3 = .slice a n cap ∧ l.length = n ∧ n ≤ 9223372036854775807 ∧ SIn W a l := by
    obtain ⟨fuel, hf⟩ := h3
    exact open_steps hf
  simp only [Value.slice.injEq] at hv_3
  obtain ⟨rfl, rfl, rfl⟩ := hv_3
  clear hA0 hval0
  refine (fnExactPlaySteps_walk a0_0 a1_0 a2_0 a3_0 ra_1 sa_1 rn_1 sn_1 rc_1 sc_1 rx_1 sx_1 a0_2 a1_2 sa_3 sl_3 sc_3 rx_3 W rl_1 sl_1 rm_1 sm_1 rr_1 sr_1 rl_3 rm_3 rr_3).mono fun e W' ⟨he, bel⟩ => ?_
  subst he
  exact ⟨_, rfl, _, _, _, [], _, [], hW', trodAll_mk1 (shut_bool Try.underlying4 _), (trodAll_cons_mk (Below.trod laidOut (by kernel_rfl) (of_decide_eq_true (by kernel_rfl)) k0 bel lt0) (trodAll_cons_mk (Below.trod laidOut (by kernel_rfl) (of_decide_eq_true (by kernel_rfl)) k1 bel lt1) (trodAll_cons_mk (Below.trod laidOut (by kernel_rfl) (of_decide_eq_true (by kernel_rfl)) k2 bel lt2) (trodAll_cons_mk (Below.trod laidOut (by kernel_rfl) (of_decide_eq_true (by kernel_rfl)) k3 bel lt3) trodAll_mk0)))), rfl, bel.frame _, fun h => by cases h⟩
theorem fnExactPlaySteps_holds : Rows.FnExactPlayStepsSaid :=
  OpenClaim.holds_of_wide 3 Try.f3 rfl rfl rfl rfl rfl rfl rfl ⟨rfl, rfl, rfl, rfl, rfl⟩ rfl rfl rfl rfl rfl (by kernel_rfl) Try.func3 (by kernel_rfl)
    (of_decide_eq_true (by kernel_rfl)) (by unfold Func.isWrapper; first | (rw [if_pos (by decide +kernel)]; kernel_rfl) | (rw [if_neg (by decide +kernel)]; exact ⟨rfl, rfl⟩))
    (fun os started H enc _ => fnExactPlaySteps_lifted os started H enc)
end Go.Proofs.Ytodlofabffenoaa
