/- Texts of a proof, laid together: Contracts of the program and of its model on single rolls, faces and seeds. Contracts of the weight of the rolls that cannot be used, of the program and of its model. -/
import Derived.Test.YtokjkcnjmfbfiaaY01
import Derived.Test.YtokjkcnjmfbfiaaY15
import Derived.Laws.StructEq
import Derived.Lib.MinMax
import Derived.IntWalk
import Derived.Deep.QuietTactic
namespace Go.Proofs.Ytokjkcnjmfbfiaa
open Go.ChangeShapes Go.WideShapes Go.ChangeAt Go.RowKit
set_option linter.unusedVariables false
set_option linter.unusedSimpArgs false
set_option maxRecDepth 4000

theorem isDouble_any (ra rb : Int) (w : World) :
    Calls Try.prog 127 #[.agg #[.int .i64 ra, .int .i64 rb]] w fun e w' => e = .returned (.bool (decide (ra = rb))) ∧ Below w.heap.size w w' := by
  have hb : Below w.heap.size w (w.alloc (.cells #[.int .i64 ra, .int .i64 rb] 36)) := (Below.refl _ _).alloc (Nat.le_refl _) _
  obtain ⟨x0, x1, xf, xl⟩ := (Blk.new w #[.int .i64 ra, .int .i64 rb] 36).two
  by_cases e : ra = rb
  · subst e
    rw [decide_eq_true rfl]
    go_enter Try.func127, Try.ntmps127
    go_wp2
    go_ret
    exact ⟨rfl, hb⟩
  · have f0 : (ra == rb) = false := by rw [beq_eq_false_iff_ne]; exact e
    have f1 : (rb == ra) = false := by rw [beq_eq_false_iff_ne]; exact fun q => e q.symm
    rw [decide_eq_false e]
    go_enter Try.func127, Try.ntmps127
    go_wp2
    go_ret
    exact ⟨rfl, hb⟩
theorem implWeight_any (ra rb : Int) (w : World) :
    Calls Try.prog 82 #[.agg #[.int .i64 ra, .int .i64 rb]] w fun e w' => e = .returned (.int .i64 (if ra = rb then 1 else 2)) ∧ Below w.heap.size w w' := by
  have hb : Below w.heap.size w (w.alloc (.cells #[.int .i64 ra, .int .i64 rb] 36)) := (Below.refl _ _).alloc (Nat.le_refl _) _
  obtain ⟨x0, x1, xf, xl⟩ := (Blk.new w #[.int .i64 ra, .int .i64 rb] 36).two
  have hd := fun W => isDouble_any ra rb W
  by_cases e : ra = rb
  · rw [decide_eq_true e] at hd
    rw [if_pos e]
    have HD := Lib.hid hd
    clear hd e
    go_enter Try.func82, Try.ntmps82
    go_wp2_with (go_at_call 127; refine (HD.out _).mono ?_; rintro e w1 ⟨rfl, hb1⟩)
    go_ret
    exact ⟨rfl, chain hb hb1⟩
  · rw [decide_eq_false e] at hd
    rw [if_neg e]
    have HD := Lib.hid hd
    clear hd e
    go_enter Try.func82, Try.ntmps82
    go_wp2_with (go_at_call 127; refine (HD.out _).mono ?_; rintro e w1 ⟨rfl, hb1⟩)
    go_ret
    exact ⟨rfl, chain hb hb1⟩
theorem rollOfFaces_any (a b : Int) (w : World) :
    Calls Try.prog 142 #[.int .i64 a, .int .i64 b] w fun e w' => e = .returned (.agg #[.int .i64 (prR a b).1, .int .i64 (prR a b).2]) ∧ Below w.heap.size w w' := by
  have BR := Blk.new w #[.int .i64 (max a b), .int .i64 (min a b)] 36
  have hb : Below w.heap.size w (w.alloc (.cells #[.int .i64 (max a b), .int .i64 (min a b)] 36)) := (Below.refl _ _).alloc (Nat.le_refl _) _
  obtain ⟨x0, x1, xf, xl⟩ := BR.two
  rw [prR_A, prR_B]
  go_enter Try.func142, Try.ntmps142
  go_wp2
  refine bodyPost_ret (v := .agg #[.int .i64 (max a b), .int .i64 (min a b)]) (by simp [results, Try.results142, go_sem, x0, x1]) rfl ⟨rfl, hb⟩
theorem l07Pair_any (a b : Int) (w : World) :
    Calls Try.prog 139 #[.int .i64 a, .int .i64 b] w fun e w' => e = .returned (.agg #[.int .i64 (prR a b).1, .int .i64 (prR a b).2]) ∧ Below w.heap.size w w' := by
  have BR := Blk.new w #[.int .i64 (max a b), .int .i64 (min a b)] 36
  have hb : Below w.heap.size w (w.alloc (.cells #[.int .i64 (max a b), .int .i64 (min a b)] 36)) := (Below.refl _ _).alloc (Nat.le_refl _) _
  obtain ⟨x0, x1, xf, xl⟩ := BR.two
  rw [prR_A, prR_B]
  go_enter Try.func139, Try.ntmps139
  go_wp2
  refine bodyPost_ret (v := .agg #[.int .i64 (max a b), .int .i64 (min a b)]) (by simp [results, Try.results139, go_sem, x0, x1]) rfl ⟨rfl, hb⟩
end Go.Proofs.Ytokjkcnjmfbfiaa
namespace Go.Proofs.Ytokjkcnjmfbfiaa
open Go.ChangeShapes Go.WideShapes Go.ChangeAt Go.RowKit
set_option linter.unusedVariables false
set_option linter.unusedSimpArgs false
set_option maxRecDepth 4000

set_option maxRecDepth 8000 in
set_option maxHeartbeats 2000000 in
theorem specDancing_any (p c h s : Int) (a1 a2 : Option Addr) (n1 n2 c1 c2 : Nat) (xs ys : List Int) (w : World) (h1 : xs.length = n1) (h2 : ys.length = n2) (l1 : n1 ≤ 1048576) (l2 : n2 ≤ 1048576) (r1 : IRow w a1 xs) (r2 : IRow w a2 ys) :
    Calls Try.prog 37 #[.agg #[.int .i64 p, .int .i64 c, .int .i64 h, .int .i64 s], .agg #[.slice a1 n1 c1, .slice a2 n2 c2]] w fun e w' => e = .returned (if isB p c h s xs ys = true then .tuple #[.int .i64 (dwI p h s xs ys), .int .i64 0] else .tuple #[.int .i64 0, .int .i64 1]) ∧ Below w.heap.size w w' := by
  by_cases g : isB p c h s xs ys = true
  · rw [if_pos g]
    obtain ⟨p0, p1, k0, k1, k2, k3, N1, N2, hx, hy, s0, s1, s2, s3⟩ := isB_parts g
    have hs6 := isB_sides g
    obtain ⟨P, rfl⟩ := Int.eq_ofNat_of_zero_le (by omega : 0 ≤ p)
    obtain ⟨S, rfl⟩ := Int.eq_ofNat_of_zero_le (by omega : 0 ≤ s)
    have hib := fun W (q1 : IRow W a1 xs) (q2 : IRow W a2 ys) => specIsBoard_any (P : Int) c h (S : Int) a1 a2 n1 n2 c1 c2 xs ys W h1 h2 l1 l2 q1 q2
    rw [g] at hib
    have hRl := rollsTo_length S
    have hRm := rollsTo_mem S
    have hS2 : S * S ≤ 6 * 6 := Nat.mul_le_mul (by omega) (by omega)
    have hdw : dwI (P : Int) h (S : Int) xs ys = dwTo P h xs ys (rollsTo S) (rollsTo S).length := by unfold dwI; rw [show ((P : Int)).toNat = P by simp, show ((S : Int)).toNat = S by simp]
    have hrl := fun W => l07All_any (P : Int) c h S W (by omega)
    rw [hdw]
    have hsu := fun k r hr => dwTo_succ P h xs ys (rollsTo S) k r hr
    have hbd := fun k => dwTo_bound P h xs ys (rollsTo S) k
    obtain ⟨RL, hRL⟩ : ∃ z, rollsTo S = z := ⟨_, rfl⟩
    rw [hRL] at hRl hRm hrl hsu hbd ⊢
    have hR36 : RL.length ≤ 36 := by omega
    have HG := Lib.hid g
    have HIB := Lib.hid hib
    have HRM := Lib.hid hRm
    have HRLc := Lib.hid hrl
    have HSU := Lib.hid hsu
    have HBD := Lib.hid hbd
    clear g hib hRm hrl hsu hbd hRL hdw hRl hS2 hx hy
    obtain ⟨BV, BB, hb, hz⟩ := two_new w #[.int .i64 (P : Int), .int .i64 c, .int .i64 h, .int .i64 (S : Int)] #[.slice a1 n1 c1, .slice a2 n2 c2] 32 34
    have hz1 : w.heap.size + 1 + 1 ≤ ((w.alloc (.cells #[.int .i64 (P : Int), .int .i64 c, .int .i64 h, .int .i64 (S : Int)] 32)).alloc (.cells #[.slice a1 n1 c1, .slice a2 n2 c2] 34)).heap.size := by rw [hz]; omega
    clear hz
    replace r1 := r1.below hb
    replace r2 := r2.below hb
    obtain ⟨x0, x1, x2, x3, xf, xl⟩ := BV.four
    obtain ⟨y0, y1, yf, yl⟩ := BB.two
    go_enter Try.func37, Try.ntmps37
    go_wp2_with fail
    generalize ((w.alloc (.cells #[.int .i64 (P : Int), .int .i64 c, .int .i64 h, .int .i64 (S : Int)] 32)).alloc (.cells #[.slice a1 n1 c1, .slice a2 n2 c2] 34)) = v0 at *
    refine (HIB.out _ r1 r2).mono ?_
    rintro e w1 ⟨rfl, hb1⟩
    clear x0 x1 x2 x3 xf xl y0 y1 yf yl
    obtain ⟨x0, x1, x2, x3, xf, xl⟩ := (BV.below hb1).four
    obtain ⟨y0, y1, yf, yl⟩ := (BB.below hb1).two
    go_wp2_with fail
    refine (HRLc.out _).mono ?_
    rintro e w2 ⟨aR, kR, rfl, hR, hb2⟩
    have hbl := chain hb1 hb2
    clear hb1 hb2
    clear x0 x1 x2 x3 xf xl y0 y1 yf yl
    go_wp2_with fail
    go_loopg [6, 8] RL.length (fun m q6 q8 wr => ∃ i : Nat, i ≤ RL.length ∧ m = RL.length - i ∧ q8 = .int .i64 i ∧ q6 = .int .i64 (dwTo P h xs ys RL i) ∧ Below w2.heap.size w2 wr)
    case atStart => exact ⟨0, by omega, by omega, rfl, rfl, Below.refl _ _⟩
    case round =>
      obtain ⟨i, hi, hm, rfl, rfl, hbq⟩ := hrel
      by_cases hlt : i < RL.length
      · have hlt' : (i : Int) < (RL.length : Int) := by omega
        have hi0 : (0 : Int) ≤ (i : Int) := by omega
        have hbel := chain hbl hbq
        obtain ⟨r, hr⟩ : ∃ r, RL[i]? = some r := ⟨_, List.getElem?_eq_getElem hlt⟩
        have hrm := HRM.out r (List.mem_of_getElem? hr)
        have hsu := HSU.out i r hr
        have hbd := HBD.out i
        obtain ⟨gR, rfl, RR⟩ := (hR.below hbq).row hlt
        obtain ⟨u0, u1⟩ := RR.two i r hr
        obtain ⟨ra, rb⟩ := r
        dsimp only at hrm hsu u0 u1
        have hra : 1 ≤ ra ∧ ra ≤ 6 := by omega
        have hrb : 1 ≤ rb ∧ rb ≤ 6 := by omega
        obtain ⟨DK, hDK⟩ : ∃ z, dwTo P h xs ys RL i = z := ⟨_, rfl⟩
        rw [hDK] at hsu hbd ⊢
        have hbd0 := hbd.1
        have hbd1 : DK ≤ 72 := by omega
        clear hDK hbd RR hr
        have hus := fun W (hW : Below wr.heap.size wr W) => l05Used_any P c h (S : Int) ra rb a1 a2 n1 n2 c1 c2 xs ys W h1 h2 (r1.below (chain hbel hW)) (r2.below (chain hbel hW)) HG.out (by simp [inB]; omega) (by simp [inB]; omega)
        have huz := used_zero P h xs ys ra rb
        obtain ⟨U, hU⟩ : ∃ z, usedP P h xs ys ra rb = z := ⟨_, rfl⟩
        rw [hU] at hus huz
        clear hU
        cases hD : dncB P h xs ys ra rb with
        | true =>
          obtain rfl : U = 0 := huz.2 hD
          rw [hD, if_pos rfl] at hsu
          have hus2 : ∀ W (hW : Below wr.heap.size wr W), Calls Try.prog 63 #[.agg #[.int .i64 (P : Int), .int .i64 c, .int .i64 h, .int .i64 (S : Int)], .agg #[.slice a1 n1 c1, .slice a2 n2 c2], .agg #[.int .i64 ra, .int .i64 rb]] W fun e w' => e = .returned (.int .i64 0) ∧ Below W.heap.size W w' := hus
          have HUS := Lib.hid hus2
          have HSU2 := Lib.hid hsu
          clear hus hus2 huz hsu hD
          obtain ⟨WT, hWT⟩ : ∃ z : Int, (if ra = rb then 1 else 2) = z := ⟨_, rfl⟩
          have hwt : 1 ≤ WT ∧ WT ≤ 2 := by rw [← hWT]; split <;> omega
          have hwt0 := hwt.1
          have hwt1 := hwt.2
          have HWT := Lib.hid hWT
          clear hwt hWT
          obtain ⟨x0, x1, x2, x3, xf, xl⟩ := (BV.below hbel).four
          obtain ⟨y0, y1, yf, yl⟩ := (BB.below hbel).two
          go_wp2_with fail
          clear x0 x1 x2 x3 xf xl y0 y1 yf yl
          refine wp_region_held_drew (S := fun w' => w'.cell? ⟨w.heap.size, 0, none⟩ = some (.int .i64 (P : Int)) ∧ w'.cell? ⟨w.heap.size, 1, none⟩ = some (.int .i64 c) ∧ w'.cell? ⟨w.heap.size, 2, none⟩ = some (.int .i64 h) ∧ w'.cell? ⟨w.heap.size, 3, none⟩ = some (.int .i64 (S : Int)) ∧ w'.cell? ⟨w.heap.size + 1, 0, none⟩ = some (.slice a1 n1 c1) ∧ w'.cell? ⟨w.heap.size + 1, 1, none⟩ = some (.slice a2 n2 c2) ∧ w'.cell? ⟨gR, i * 2, none⟩ = some (.int .i64 ra) ∧ w'.cell? ⟨gR, i * 2 + 1, none⟩ = some (.int .i64 rb)) (by kernel_rfl) ⟨(BV.below (chain hbel (Below.refl _ _).drew)).four.1, (BV.below (chain hbel (Below.refl _ _).drew)).four.2.1, (BV.below (chain hbel (Below.refl _ _).drew)).four.2.2.1, (BV.below (chain hbel (Below.refl _ _).drew)).four.2.2.2.1, (BB.below (chain hbel (Below.refl _ _).drew)).two.1, (BB.below (chain hbel (Below.refl _ _).drew)).two.2.1, CellIs.below u0 (Below.refl _ _).drew, CellIs.below u1 (Below.refl _ _).drew⟩ (fun hHeld => ?_)
          refine wpAnyH_take (i := 0) (oi := { dst := some 21, op := _, type := _, pos := _, after := _, guard := _ }) (v := ?_) rfl (by kernel_rfl) (by kernel_rfl) (by kernel_rfl) (fun _ _ _ h => h) (Or.inl ⟨by rfl, ?_⟩) (by assumption) ?_
          rotate_left
          · intro w hSw
            (try dsimp only at hSw)
            go_simp
            (try (with_reducible rfl))
          try simp only [Act.put, List.setIfInBounds_toArray, List.set_cons_zero, List.set_cons_succ]
          refine wpAnyH_take (i := 1) (oi := { dst := some 22, op := _, type := _, pos := _, after := _, guard := _ }) (v := ?_) rfl (by kernel_rfl) (by kernel_rfl) (by kernel_rfl) (fun _ _ _ h => h) (Or.inl ⟨by rfl, ?_⟩) (by assumption) ?_
          rotate_left
          · intro w hSw
            (try dsimp only at hSw)
            go_simp
            (try (with_reducible rfl))
          try simp only [Act.put, List.setIfInBounds_toArray, List.set_cons_zero, List.set_cons_succ]
          refine wpAnyH_take (i := 2) (oi := { dst := some 23, op := _, type := _, pos := _, after := _, guard := _ }) (v := ?_) rfl (by kernel_rfl) (by kernel_rfl) (by kernel_rfl) (fun _ _ _ h => h) (Or.inl ⟨by rfl, ?_⟩) (by assumption) ?_
          rotate_left
          · intro w hSw
            (try dsimp only at hSw)
            go_simp
            (try (with_reducible rfl))
          try simp only [Act.put, List.setIfInBounds_toArray, List.set_cons_zero, List.set_cons_succ]
          refine wpAnyH_take (i := 3) (oi := { dst := some 24, op := _, type := _, pos := _, after := _, guard := _ }) (v := ?_) rfl (by kernel_rfl) (by kernel_rfl) (by kernel_rfl) (fun _ _ _ h => h) (Or.inl ⟨by rfl, ?_⟩) (by assumption) ?_
          rotate_left
          · intro w hSw
            (try dsimp only at hSw)
            go_simp
            (try (with_reducible rfl))
          try simp only [Act.put, List.setIfInBounds_toArray, List.set_cons_zero, List.set_cons_succ]
          refine wpAnyH_take (i := 4) (oi := { dst := some 25, op := _, type := _, pos := _, after := _, guard := _ }) (v := ?_) rfl (by kernel_rfl) (by kernel_rfl) (by kernel_rfl) (fun _ _ _ h => h) (Or.inl ⟨by rfl, ?_⟩) (by assumption) ?_
          rotate_left
          · intro w hSw
            (try dsimp only at hSw)
            go_simp
            (try (with_reducible rfl))
          try simp only [Act.put, List.setIfInBounds_toArray, List.set_cons_zero, List.set_cons_succ]
          refine wpAnyH_take (i := 5) (oi := { dst := some 26, op := _, type := _, pos := _, after := _, guard := _ }) (v := ?_) rfl (by kernel_rfl) (by kernel_rfl) (by kernel_rfl) (fun _ _ _ h => h) (Or.inl ⟨by rfl, ?_⟩) (by assumption) ?_
          rotate_left
          · intro w hSw
            (try dsimp only at hSw)
            go_simp
            (try (with_reducible rfl))
          try simp only [Act.put, List.setIfInBounds_toArray, List.set_cons_zero, List.set_cons_succ]
          refine wpAnyH_ready (rs := [6]) (by kernel_rfl) (by simp) ?_
          refine AllReadyH.cons (o := { dst := some 27, op := _, type := _, pos := _, after := _, guard := _ }) rfl (fun K hK => ?_) AllReadyH.nil
          go_simp
          refine (HUS.out _ (Below.refl _ _).drew).mono ?_
          rintro e w5 ⟨rfl, hb5⟩
          have hb5 := from_drew hb5
          (try go_wp2_with fail)
          refine hK.out _ _ ⟨(BV.below (chain hbel hb5)).four.1, (BV.below (chain hbel hb5)).four.2.1, (BV.below (chain hbel hb5)).four.2.2.1, (BV.below (chain hbel hb5)).four.2.2.2.1, (BB.below (chain hbel hb5)).two.1, (BB.below (chain hbel hb5)).two.2.1, CellIs.below u0 hb5, CellIs.below u1 hb5⟩ (fun hHeld => ?_)
          clear hK K
          try simp only [Act.put, List.setIfInBounds_toArray, List.set_cons_zero, List.set_cons_succ]
          refine wpAnyH_take (i := 7) (oi := { dst := some 28, op := _, type := _, pos := _, after := _, guard := _ }) (v := ?_) rfl (by kernel_rfl) (by kernel_rfl) (by kernel_rfl) (fun _ _ _ h => h) (Or.inl ⟨by rfl, ?_⟩) (by assumption) ?_
          rotate_left
          · intro w hSw
            (try dsimp only at hSw)
            go_simp
            (try (with_reducible rfl))
          try simp only [Act.put, List.setIfInBounds_toArray, List.set_cons_zero, List.set_cons_succ]
          refine wpAnyH_done (by kernel_rfl) ?_ _
          clear hHeld
          have hw5 := l07Weight_any ra rb w5
          rw [HWT.out] at hw5
          have v0c := CellIs.below u0 hb5
          have v1c := CellIs.below u1 hb5
          unfold CellIs at v0c v1c
          go_wp2_with fail
          refine hw5.mono ?_
          rintro e w6 ⟨rfl, hb6⟩
          clear v0c v1c hw5
          go_wp2
          go_roundg (RL.length - (i + 1))
          case measure => omega
          case rel => exact ⟨i + 1, by omega, rfl, by go_num, by rw [HSU2.out, HWT.out], chain hbq (chain hb5 hb6)⟩
        | false =>
          have hU0 : U ≠ 0 := by intro e; rw [huz.1 e] at hD; simp at hD
          have hf : ((U : Int) == 0) = false := by rw [beq_eq_false_iff_ne]; omega
          rw [hD, if_neg (by simp), Int.add_zero] at hsu
          have HUS := Lib.hid hus
          have HSU2 := Lib.hid hsu
          clear hus huz hsu hD hU0
          obtain ⟨x0, x1, x2, x3, xf, xl⟩ := (BV.below hbel).four
          obtain ⟨y0, y1, yf, yl⟩ := (BB.below hbel).two
          go_wp2_with fail
          clear x0 x1 x2 x3 xf xl y0 y1 yf yl
          refine wp_region_held_drew (S := fun w' => w'.cell? ⟨w.heap.size, 0, none⟩ = some (.int .i64 (P : Int)) ∧ w'.cell? ⟨w.heap.size, 1, none⟩ = some (.int .i64 c) ∧ w'.cell? ⟨w.heap.size, 2, none⟩ = some (.int .i64 h) ∧ w'.cell? ⟨w.heap.size, 3, none⟩ = some (.int .i64 (S : Int)) ∧ w'.cell? ⟨w.heap.size + 1, 0, none⟩ = some (.slice a1 n1 c1) ∧ w'.cell? ⟨w.heap.size + 1, 1, none⟩ = some (.slice a2 n2 c2) ∧ w'.cell? ⟨gR, i * 2, none⟩ = some (.int .i64 ra) ∧ w'.cell? ⟨gR, i * 2 + 1, none⟩ = some (.int .i64 rb)) (by kernel_rfl) ⟨(BV.below (chain hbel (Below.refl _ _).drew)).four.1, (BV.below (chain hbel (Below.refl _ _).drew)).four.2.1, (BV.below (chain hbel (Below.refl _ _).drew)).four.2.2.1, (BV.below (chain hbel (Below.refl _ _).drew)).four.2.2.2.1, (BB.below (chain hbel (Below.refl _ _).drew)).two.1, (BB.below (chain hbel (Below.refl _ _).drew)).two.2.1, CellIs.below u0 (Below.refl _ _).drew, CellIs.below u1 (Below.refl _ _).drew⟩ (fun hHeld => ?_)
          refine wpAnyH_take (i := 0) (oi := { dst := some 21, op := _, type := _, pos := _, after := _, guard := _ }) (v := ?_) rfl (by kernel_rfl) (by kernel_rfl) (by kernel_rfl) (fun _ _ _ h => h) (Or.inl ⟨by rfl, ?_⟩) (by assumption) ?_
          rotate_left
          · intro w hSw
            (try dsimp only at hSw)
            go_simp
            (try (with_reducible rfl))
          try simp only [Act.put, List.setIfInBounds_toArray, List.set_cons_zero, List.set_cons_succ]
          refine wpAnyH_take (i := 1) (oi := { dst := some 22, op := _, type := _, pos := _, after := _, guard := _ }) (v := ?_) rfl (by kernel_rfl) (by kernel_rfl) (by kernel_rfl) (fun _ _ _ h => h) (Or.inl ⟨by rfl, ?_⟩) (by assumption) ?_
          rotate_left
          · intro w hSw
            (try dsimp only at hSw)
            go_simp
            (try (with_reducible rfl))
          try simp only [Act.put, List.setIfInBounds_toArray, List.set_cons_zero, List.set_cons_succ]
          refine wpAnyH_take (i := 2) (oi := { dst := some 23, op := _, type := _, pos := _, after := _, guard := _ }) (v := ?_) rfl (by kernel_rfl) (by kernel_rfl) (by kernel_rfl) (fun _ _ _ h => h) (Or.inl ⟨by rfl, ?_⟩) (by assumption) ?_
          rotate_left
          · intro w hSw
            (try dsimp only at hSw)
            go_simp
            (try (with_reducible rfl))
          try simp only [Act.put, List.setIfInBounds_toArray, List.set_cons_zero, List.set_cons_succ]
          refine wpAnyH_take (i := 3) (oi := { dst := some 24, op := _, type := _, pos := _, after := _, guard := _ }) (v := ?_) rfl (by kernel_rfl) (by kernel_rfl) (by kernel_rfl) (fun _ _ _ h => h) (Or.inl ⟨by rfl, ?_⟩) (by assumption) ?_
          rotate_left
          · intro w hSw
            (try dsimp only at hSw)
            go_simp
            (try (with_reducible rfl))
          try simp only [Act.put, List.setIfInBounds_toArray, List.set_cons_zero, List.set_cons_succ]
          refine wpAnyH_take (i := 4) (oi := { dst := some 25, op := _, type := _, pos := _, after := _, guard := _ }) (v := ?_) rfl (by kernel_rfl) (by kernel_rfl) (by kernel_rfl) (fun _ _ _ h => h) (Or.inl ⟨by rfl, ?_⟩) (by assumption) ?_
          rotate_left
          · intro w hSw
            (try dsimp only at hSw)
            go_simp
            (try (with_reducible rfl))
          try simp only [Act.put, List.setIfInBounds_toArray, List.set_cons_zero, List.set_cons_succ]
          refine wpAnyH_take (i := 5) (oi := { dst := some 26, op := _, type := _, pos := _, after := _, guard := _ }) (v := ?_) rfl (by kernel_rfl) (by kernel_rfl) (by kernel_rfl) (fun _ _ _ h => h) (Or.inl ⟨by rfl, ?_⟩) (by assumption) ?_
          rotate_left
          · intro w hSw
            (try dsimp only at hSw)
            go_simp
            (try (with_reducible rfl))
          try simp only [Act.put, List.setIfInBounds_toArray, List.set_cons_zero, List.set_cons_succ]
          refine wpAnyH_ready (rs := [6]) (by kernel_rfl) (by simp) ?_
          refine AllReadyH.cons (o := { dst := some 27, op := _, type := _, pos := _, after := _, guard := _ }) rfl (fun K hK => ?_) AllReadyH.nil
          go_simp
          refine (HUS.out _ (Below.refl _ _).drew).mono ?_
          rintro e w5 ⟨rfl, hb5⟩
          have hb5 := from_drew hb5
          (try go_wp2_with fail)
          refine hK.out _ _ ⟨(BV.below (chain hbel hb5)).four.1, (BV.below (chain hbel hb5)).four.2.1, (BV.below (chain hbel hb5)).four.2.2.1, (BV.below (chain hbel hb5)).four.2.2.2.1, (BB.below (chain hbel hb5)).two.1, (BB.below (chain hbel hb5)).two.2.1, CellIs.below u0 hb5, CellIs.below u1 hb5⟩ (fun hHeld => ?_)
          clear hK K
          try simp only [Act.put, List.setIfInBounds_toArray, List.set_cons_zero, List.set_cons_succ]
          refine wpAnyH_take (i := 7) (oi := { dst := some 28, op := _, type := _, pos := _, after := _, guard := _ }) (v := ?_) rfl (by kernel_rfl) (by kernel_rfl) (by kernel_rfl) (fun _ _ _ h => h) (Or.inl ⟨by rfl, ?_⟩) (by assumption) ?_
          rotate_left
          · intro w hSw
            (try dsimp only at hSw)
            go_simp
            (try (with_reducible rfl))
          try simp only [Act.put, List.setIfInBounds_toArray, List.set_cons_zero, List.set_cons_succ]
          refine wpAnyH_done (by kernel_rfl) ?_ _
          clear hHeld
          go_wp2
          go_roundg (RL.length - (i + 1))
          case measure => omega
          case rel => exact ⟨i + 1, by omega, rfl, by go_num, by rw [HSU2.out], chain hbq hb5⟩
      · obtain rfl : i = RL.length := by omega
        go_wp2
        go_ret2
        exact ⟨rfl, chain hb (chain hbl hbq)⟩
  · rw [if_neg g]
    replace g : isB p c h s xs ys = false := by simpa using g
    obtain ⟨BV, BB, hb, hz⟩ := two_new w #[.int .i64 p, .int .i64 c, .int .i64 h, .int .i64 s] #[.slice a1 n1 c1, .slice a2 n2 c2] 32 34
    have hz1 : w.heap.size + 1 < ((w.alloc (.cells #[.int .i64 p, .int .i64 c, .int .i64 h, .int .i64 s] 32)).alloc (.cells #[.slice a1 n1 c1, .slice a2 n2 c2] 34)).heap.size := by rw [hz]; omega
    clear hz
    obtain ⟨x0, x1, x2, x3, xf, xl⟩ := BV.four
    obtain ⟨y0, y1, yf, yl⟩ := BB.two
    have hB := fun W (q1 : IRow W a1 xs) (q2 : IRow W a2 ys) => specIsBoard_any p c h s a1 a2 n1 n2 c1 c2 xs ys W h1 h2 l1 l2 q1 q2
    simp only [g] at hB
    have HB := Lib.hid hB
    clear hB
    go_enter Try.func37, Try.ntmps37
    go_wp2_with (go_at_call 76; refine (HB.out _ (r1.below hb) (r2.below hb)).mono ?_; rintro e w1 ⟨rfl, hb1⟩; obtain ⟨x0, x1, x2, x3, xf, xl⟩ := (BV.below hb1).four; obtain ⟨y0, y1, yf, yl⟩ := (BB.below hb1).two)
    go_ret2
    exact ⟨rfl, chain hb hb1⟩
set_option maxRecDepth 8000 in
set_option maxHeartbeats 2000000 in
theorem dancing_any (p c h s : Int) (a1 a2 : Option Addr) (n1 n2 c1 c2 : Nat) (xs ys : List Int) (w : World) (h1 : xs.length = n1) (h2 : ys.length = n2) (l1 : n1 ≤ 1048576) (l2 : n2 ≤ 1048576) (r1 : IRow w a1 xs) (r2 : IRow w a2 ys) :
    Calls Try.prog 38 #[.agg #[.int .i64 p, .int .i64 c, .int .i64 h, .int .i64 s], .agg #[.slice a1 n1 c1, .slice a2 n2 c2]] w fun e w' => e = .returned (if isB p c h s xs ys = true then .tuple #[.int .i64 (dwI p h s xs ys), .int .i64 0] else .tuple #[.int .i64 0, .int .i64 1]) ∧ Below w.heap.size w w' := by
  by_cases g : isB p c h s xs ys = true
  · rw [if_pos g]
    obtain ⟨p0, p1, k0, k1, k2, k3, N1, N2, hx, hy, s0, s1, s2, s3⟩ := isB_parts g
    have hs6 := isB_sides g
    obtain ⟨P, rfl⟩ := Int.eq_ofNat_of_zero_le (by omega : 0 ≤ p)
    obtain ⟨S, rfl⟩ := Int.eq_ofNat_of_zero_le (by omega : 0 ≤ s)
    have hib := fun W (q1 : IRow W a1 xs) (q2 : IRow W a2 ys) => isBoard_any (P : Int) c h (S : Int) a1 a2 n1 n2 c1 c2 xs ys W h1 h2 l1 l2 q1 q2
    rw [g] at hib
    have hRl := rollsTo_length S
    have hRm := rollsTo_mem S
    have hS2 : S * S ≤ 6 * 6 := Nat.mul_le_mul (by omega) (by omega)
    have hdw : dwI (P : Int) h (S : Int) xs ys = dwTo P h xs ys (rollsTo S) (rollsTo S).length := by unfold dwI; rw [show ((P : Int)).toNat = P by simp, show ((S : Int)).toNat = S by simp]
    have hrl := fun W => implRolls_any (P : Int) c h S W (by omega)
    rw [hdw]
    have hsu := fun k r hr => dwTo_succ P h xs ys (rollsTo S) k r hr
    have hbd := fun k => dwTo_bound P h xs ys (rollsTo S) k
    obtain ⟨RL, hRL⟩ : ∃ z, rollsTo S = z := ⟨_, rfl⟩
    rw [hRL] at hRl hRm hrl hsu hbd ⊢
    have hR36 : RL.length ≤ 36 := by omega
    have HG := Lib.hid g
    have HIB := Lib.hid hib
    have HRM := Lib.hid hRm
    have HRLc := Lib.hid hrl
    have HSU := Lib.hid hsu
    have HBD := Lib.hid hbd
    clear g hib hRm hrl hsu hbd hRL hdw hRl hS2 hx hy
    obtain ⟨BV, BB, hb, hz⟩ := two_new w #[.int .i64 (P : Int), .int .i64 c, .int .i64 h, .int .i64 (S : Int)] #[.slice a1 n1 c1, .slice a2 n2 c2] 32 34
    have hz1 : w.heap.size + 1 + 1 ≤ ((w.alloc (.cells #[.int .i64 (P : Int), .int .i64 c, .int .i64 h, .int .i64 (S : Int)] 32)).alloc (.cells #[.slice a1 n1 c1, .slice a2 n2 c2] 34)).heap.size := by rw [hz]; omega
    clear hz
    replace r1 := r1.below hb
    replace r2 := r2.below hb
    obtain ⟨x0, x1, x2, x3, xf, xl⟩ := BV.four
    obtain ⟨y0, y1, yf, yl⟩ := BB.two
    go_enter Try.func38, Try.ntmps38
    go_wp2_with fail
    generalize ((w.alloc (.cells #[.int .i64 (P : Int), .int .i64 c, .int .i64 h, .int .i64 (S : Int)] 32)).alloc (.cells #[.slice a1 n1 c1, .slice a2 n2 c2] 34)) = v0 at *
    refine (HIB.out _ r1 r2).mono ?_
    rintro e w1 ⟨rfl, hb1⟩
    clear x0 x1 x2 x3 xf xl y0 y1 yf yl
    obtain ⟨x0, x1, x2, x3, xf, xl⟩ := (BV.below hb1).four
    obtain ⟨y0, y1, yf, yl⟩ := (BB.below hb1).two
    go_wp2_with fail
    refine (HRLc.out _).mono ?_
    rintro e w2 ⟨aR, kR, rfl, hR, hb2⟩
    have hbl := chain hb1 hb2
    clear hb1 hb2
    clear x0 x1 x2 x3 xf xl y0 y1 yf yl
    go_wp2_with fail
    go_loopg [6, 8, 16] RL.length (fun m q6 q8 q16 wr => ∃ i : Nat, i ≤ RL.length ∧ m = RL.length - i ∧ q16 = .int .i64 i ∧ q6 = .int .i64 (dwTo P h xs ys RL i) ∧ Below w2.heap.size w2 wr)
    case atStart => exact ⟨0, by omega, by omega, rfl, rfl, Below.refl _ _⟩
    case round =>
      obtain ⟨i, hi, hm, rfl, rfl, hbq⟩ := hrel
      by_cases hlt : i < RL.length
      · have hlt' : (i : Int) < (RL.length : Int) := by omega
        have hi0 : (0 : Int) ≤ (i : Int) := by omega
        have hbel := chain hbl hbq
        obtain ⟨r, hr⟩ : ∃ r, RL[i]? = some r := ⟨_, List.getElem?_eq_getElem hlt⟩
        have hrm := HRM.out r (List.mem_of_getElem? hr)
        have hsu := HSU.out i r hr
        have hbd := HBD.out i
        obtain ⟨gR, rfl, RR⟩ := (hR.below hbq).row hlt
        obtain ⟨u0, u1⟩ := RR.two i r hr
        obtain ⟨ra, rb⟩ := r
        dsimp only at hrm hsu u0 u1
        have hra : 1 ≤ ra ∧ ra ≤ 6 := by omega
        have hrb : 1 ≤ rb ∧ rb ≤ 6 := by omega
        obtain ⟨DK, hDK⟩ : ∃ z, dwTo P h xs ys RL i = z := ⟨_, rfl⟩
        rw [hDK] at hsu hbd ⊢
        have hbd0 := hbd.1
        have hbd1 : DK ≤ 72 := by omega
        clear hDK hbd RR hr
        have hdn := fun W (hW : Below wr.heap.size wr W) => dances_any P c h (S : Int) ra rb a1 a2 n1 n2 c1 c2 xs ys W h1 h2 (r1.below (chain hbel hW)) (r2.below (chain hbel hW)) HG.out hra hrb
        have hal := (Below.refl wr.heap.size wr).alloc (Nat.le_refl _) (.cells #[.int .i64 ra, .int .i64 rb] 36)
        have BR := Blk.new wr #[.int .i64 ra, .int .i64 rb] 36
        cases hD : dncB P h xs ys ra rb with
        | true =>
          rw [hD] at hdn
          rw [hD, if_pos rfl] at hsu
          have HDN := Lib.hid hdn
          have HSU2 := Lib.hid hsu
          clear hdn hsu hD
          obtain ⟨WT, hWT⟩ : ∃ z : Int, (if ra = rb then 1 else 2) = z := ⟨_, rfl⟩
          have hwt : 1 ≤ WT ∧ WT ≤ 2 := by rw [← hWT]; split <;> omega
          have hwt0 := hwt.1
          have hwt1 := hwt.2
          have HWT := Lib.hid hWT
          clear hwt hWT
          obtain ⟨x0, x1, x2, x3, xf, xl⟩ := (BV.below (chain hbel hal)).four
          obtain ⟨y0, y1, yf, yl⟩ := (BB.below (chain hbel hal)).two
          obtain ⟨z0, z1, zf, zl⟩ := BR.two
          go_wp2_with fail
          clear x0 x1 x2 x3 xf xl y0 y1 yf yl
          clear z0 z1 zf zl
          refine (HDN.out _ hal).mono ?_
          rintro e w5 ⟨rfl, hb5⟩
          have hw5 := implWeight_any ra rb w5
          rw [HWT.out] at hw5
          obtain ⟨z0, z1, zf, zl⟩ := (BR.below hb5).two
          go_wp2_with fail
          refine hw5.mono ?_
          rintro e w6 ⟨rfl, hb6⟩
          clear hw5 z0 z1 zf zl
          go_wp2
          go_roundg (RL.length - (i + 1))
          case measure => omega
          case rel => exact ⟨i + 1, by omega, rfl, by go_num, by rw [HSU2.out, HWT.out], chain hbq (chain hal (chain hb5 hb6))⟩
        | false =>
          rw [hD] at hdn
          rw [hD, if_neg (by simp), Int.add_zero] at hsu
          have HDN := Lib.hid hdn
          have HSU2 := Lib.hid hsu
          clear hdn hsu hD
          obtain ⟨x0, x1, x2, x3, xf, xl⟩ := (BV.below (chain hbel hal)).four
          obtain ⟨y0, y1, yf, yl⟩ := (BB.below (chain hbel hal)).two
          obtain ⟨z0, z1, zf, zl⟩ := BR.two
          go_wp2_with fail
          clear x0 x1 x2 x3 xf xl y0 y1 yf yl
          clear z0 z1 zf zl
          refine (HDN.out _ hal).mono ?_
          rintro e w5 ⟨rfl, hb5⟩
          go_wp2
          go_roundg (RL.length - (i + 1))
          case measure => omega
          case rel => exact ⟨i + 1, by omega, rfl, by go_num, by rw [HSU2.out], chain hbq (chain hal hb5)⟩
      · obtain rfl : i = RL.length := by omega
        go_wp2
        go_ret2
        exact ⟨rfl, chain hb (chain hbl hbq)⟩
  · rw [if_neg g]
    replace g : isB p c h s xs ys = false := by simpa using g
    obtain ⟨BV, BB, hb, hz⟩ := two_new w #[.int .i64 p, .int .i64 c, .int .i64 h, .int .i64 s] #[.slice a1 n1 c1, .slice a2 n2 c2] 32 34
    have hz1 : w.heap.size + 1 < ((w.alloc (.cells #[.int .i64 p, .int .i64 c, .int .i64 h, .int .i64 s] 32)).alloc (.cells #[.slice a1 n1 c1, .slice a2 n2 c2] 34)).heap.size := by rw [hz]; omega
    clear hz
    obtain ⟨x0, x1, x2, x3, xf, xl⟩ := BV.four
    obtain ⟨y0, y1, yf, yl⟩ := BB.two
    have hB := fun W (q1 : IRow W a1 xs) (q2 : IRow W a2 ys) => isBoard_any p c h s a1 a2 n1 n2 c1 c2 xs ys W h1 h2 l1 l2 q1 q2
    simp only [g] at hB
    have HB := Lib.hid hB
    clear hB
    go_enter Try.func38, Try.ntmps38
    go_wp2_with (go_at_call 78; refine (HB.out _ (r1.below hb) (r2.below hb)).mono ?_; rintro e w1 ⟨rfl, hb1⟩; obtain ⟨x0, x1, x2, x3, xf, xl⟩ := (BV.below hb1).four; obtain ⟨y0, y1, yf, yl⟩ := (BB.below hb1).two)
    go_ret2
    exact ⟨rfl, chain hb hb1⟩
end Go.Proofs.Ytokjkcnjmfbfiaa
