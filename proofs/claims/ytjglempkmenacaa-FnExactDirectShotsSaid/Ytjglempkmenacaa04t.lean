/- Contract of the model's list of dice that hit a blot. -/
import Derived.Test.Ytjglempkmenacaa04r
import Derived.Test.Ytjglempkmenacaa04s
import Derived.Test.YtjglempkmenacaaSwapS
import Derived.Test.YtjglempkmenacaaVarB
namespace Go.Proofs.Ytjglempkmenacaa
open Go.ChangeShapes Go.WideShapes Go.ChangeAt Go.RowKit
set_option linter.unusedVariables false
set_option linter.unusedSimpArgs false
set_option maxRecDepth 4000

theorem stepI_hit {P : Nat} {h : Int} {A B : List Int} {k : Nat} {d : Int} {t : Stp} (e : stepI P h A B k d = some t) : t.2.2.2 = (decide (t.2.1 ≠ -1) && decide (0 < B.getD (P - 1 - t.2.1.toNat) 0)) := by
  unfold stepI at e
  split at e
  · simp at e
  · split at e
    · simp only [Option.some.injEq] at e
      rw [← e]
    · simp at e
theorem legTo_mem {P : Nat} {h : Int} {A B : List Int} {d : Int} {t : Stp} : ∀ n, t ∈ legTo P h A B d n → ∃ k, stepI P h A B k d = some t
  | 0, h => by simp [legTo] at h
  | n + 1, h => by
    rw [legTo, List.mem_append] at h
    rcases h with h | h
    · exact ⟨n, by simpa using h⟩
    · exact legTo_mem n h
theorem hit_any (P : Nat) (h : Int) (xs ys : List Int) (i d : Int) (gb : blotB P xs i = true) : (hitL (legL P h ys xs d)).any (fun t => t.2.1 == (P : Int) - 1 - i) = (legL P h ys xs d).any (fun t => t.2.1 == (P : Int) - 1 - i) := by
  simp only [blotB, Bool.and_eq_true, decide_eq_true_eq] at gb
  obtain ⟨g1, g2, g3⟩ := gb
  rw [hitL_eq, List.any_filter, Bool.eq_iff_iff, List.any_eq_true, List.any_eq_true]
  refine ⟨fun ⟨t, ht, hq⟩ => ⟨t, ht, by simp only [Bool.and_eq_true] at hq; exact hq.2⟩, fun ⟨t, ht, hq⟩ => ⟨t, ht, ?_⟩⟩
  have hq2 : t.2.1 = (P : Int) - 1 - i := by simpa using hq
  rw [hq, Bool.and_true]
  have hm : t ∈ legTo P h ys xs d (P + 1) := by
    unfold legL at ht
    split at ht
    · simp at ht
    · exact ht
  obtain ⟨k, hk⟩ := legTo_mem _ hm
  rw [stepI_hit hk, hq2, show P - 1 - ((P : Int) - 1 - i).toNat = i.toNat by omega, g3]
  simp
  omega
/-- One number appended: only the slice's own block changes. -/
theorem wp_pushS {ops : Array Oper} {rest : List Oper} {o : Oper} {a : Act} {Q : Exit → Act → World → Prop} (hgd : o.guard = none) (s x : Operand)
    (ho : o.op = .call { callee := .builtin .append, args := #[s, x], argTypes := #[26, 26] })
    (base gq : Nat) (v : Value) (xs : List Int) (hs : a.eval s = v) {w0 : World} (hown : Own w0 base v xs) (hv : v.ownBlock = some gq) (u : Int)
    (hx : a.eval x = .slice (some ⟨w0.heap.size, 0, none⟩) 1 1) (hl : xs.length ≤ 1048576) (hbase : base ≤ w0.heap.size)
    (h : ∀ g cap w', Own w' base (.slice (some ⟨g, 0, none⟩) (xs.length + 1) cap) (xs ++ [u]) → Same gq (gq + 1) w0 w' → (g = gq ∨ w0.heap.size ≤ g) → g < w'.heap.size → wpList Try.prog ops Q rest (a.put o.dst (.slice (some ⟨g, 0, none⟩) (xs.length + 1) cap)) w') : wpList Try.prog ops Q (o :: rest) a (w0.alloc (.cells #[.int .i64 u] 2)) := by
  obtain ⟨i0, hi, hz0, hz1, hz2⟩ := info_parts infoI64
  refine wpList_append_lies _ hgd s x 26 ho base 2 i0 (.int .i64 0) 1 8 Try.underlying26 hi hz0 hz1 hz2 rfl (by decide) v xs.length (ints xs) hs (World.ownsRow.alloc hown _) ⟨w0.heap.size, 0, none⟩ 1 1 [.int .i64 u] hx rfl
    (World.news_of_block (cs := #[.int .i64 u]) (Blk.new w0 #[.int .i64 u] 2)) (fun y hy => by simp at hy; subst hy; rfl) (by omega) (by unfold maxLen; omega) (by omega) (by simp; omega) (w0.heap.size + 1) (by simp) ?_
  intro g cap w' hown' hgrow hw hglt
  rw [hv] at hgrow hw
  refine h g cap w' ?_ ⟨hgrow.os, hgrow.tape, hgrow.output, by have := hgrow.size; simp at this; omega, fun i hi hne => ?_⟩ ?_ hglt
  · show w'.ownsRow base 2 1 _ (xs ++ [u]).length (ints (xs ++ [u]))
    rw [show (xs ++ [u]).length = xs.length + 1 by simp, show ints (xs ++ [u]) = ints xs ++ [.int .i64 u] by simp [ints]]
    exact hown'
  · rw [hgrow.block i (by simp; omega) (fun e => by simp only [Option.some.injEq] at e; omega), Below.heap_alloc _ _ _ hi]
  · rcases hw with hw | hw
    · simp only [Option.some.injEq] at hw
      exact .inl hw.symm
    · exact .inr (by omega)
set_option maxRecDepth 8000 in
set_option maxHeartbeats 2000000 in
theorem specDirectShots_any (i : Int) (p c h s : Int) (a1 a2 : Option Addr) (n1 n2 c1 c2 : Nat) (xs ys : List Int) (w : World) (h1 : xs.length = n1) (h2 : ys.length = n2) (l1 : n1 ≤ 1048576) (l2 : n2 ≤ 1048576) (r1 : IRow w a1 xs) (r2 : IRow w a2 ys) :
    Calls Try.prog 30 #[.agg #[.int .i64 p, .int .i64 c, .int .i64 h, .int .i64 s], .agg #[.slice a1 n1 c1, .slice a2 n2 c2], .int .i64 i] w (SliceGot2 (dsL p c h s xs ys i) (dsR p c h s xs ys i) w) := by
  obtain ⟨BV, BB, hb, hz⟩ := two_new w #[.int .i64 p, .int .i64 c, .int .i64 h, .int .i64 s] #[.slice a1 n1 c1, .slice a2 n2 c2] 25 28
  have hz1 : w.heap.size + 1 < ((w.alloc (.cells #[.int .i64 p, .int .i64 c, .int .i64 h, .int .i64 s] 25)).alloc (.cells #[.slice a1 n1 c1, .slice a2 n2 c2] 28)).heap.size := by rw [hz]; omega
  clear hz
  obtain ⟨x0, x1, x2, x3, xf, xl⟩ := BV.four
  obtain ⟨y0, y1, yf, yl⟩ := BB.two
  unfold dsL dsR
  by_cases g : isB p c h s xs ys = true
  · rw [if_pos g, if_pos g]
    obtain ⟨p0, p1, k0, k1, k2, k3, N1, N2, hx, hy, s0, s1, s2, s3⟩ := isB_parts g
    obtain ⟨P, rfl⟩ := Int.eq_ofNat_of_zero_le (by omega : 0 ≤ p)
    rw [show (P : Int).toNat = P by simp]
    have hs6 := isB_sides g
    have hB := fun W (q1 : IRow W a1 xs) (q2 : IRow W a2 ys) => specIsBoard_any (P : Int) c h s a1 a2 n1 n2 c1 c2 xs ys W h1 h2 l1 l2 q1 q2
    simp only [g] at hB
    have HB := Lib.hid hB
    clear hB
    have hin := fun W => l01In_any i 0 ((P : Int) - 1) W
    have pP : (P : Int) ≤ 24 := p1
    cases gi : inB i 0 ((P : Int) - 1) with
    | false =>
      have gb : blotB P xs i = false := by
        have gi' : ¬ (0 ≤ i ∧ i ≤ (P : Int) - 1) := by simpa [inB] using gi
        unfold blotB
        by_cases h0 : 0 ≤ i
        · rw [decide_eq_false (show ¬ i < (P : Int) by omega)]
          simp
        · rw [decide_eq_false h0, Bool.false_and]
      rw [gb, if_neg (by simp), if_neg (by simp)]
      rw [gi] at hin
      have HI := Lib.hid hin
      clear hin gi
      go_enter Try.func30, Try.ntmps30
      go_wp2_with (first | (go_at_call 21; refine (HB.out _ (r1.below hb) (r2.below hb)).mono ?_; rintro e w1 ⟨rfl, hb1⟩; obtain ⟨x0, x1, x2, x3, xf, xl⟩ := (BV.below hb1).four; obtain ⟨y0, y1, yf, yl⟩ := (BB.below hb1).two) | (go_at_call 71; refine (HI.out _).mono ?_; rintro e w2 ⟨rfl, rfl⟩))
      refine bodyPost_ret (v := .tuple #[.slice (some ⟨w1.heap.size, 0, none⟩) 0 0, .int .i64 4]) (by simp [results, Try.results30, go_sem]) rfl ?_
      exact ⟨_, _, rfl, OSl.new _ _ (chain hb hb1).size, (chain hb hb1).alloc (chain hb hb1).size _⟩
    | true =>
      rw [gi] at hin
      have HI := Lib.hid hin
      have gi' : 0 ≤ i ∧ i ≤ (P : Int) - 1 := by simpa [inB] using gi
      clear hin gi
      obtain ⟨ii, rfl⟩ := Int.eq_ofNat_of_zero_le gi'.1
      have hii : ii < P := by omega
      have hin1 : ii < n1 := by omega
      have hinI : (ii : Int) < (n1 : Int) := by omega
      have ebl : blotB P xs (ii : Int) = decide (xs.getD ii 0 = 1) := by
        unfold blotB
        rw [decide_eq_true (show (0 : Int) ≤ (ii : Int) by omega), decide_eq_true (show (ii : Int) < (P : Int) by omega)]
        simp
      have hci : ∀ W, Below w.heap.size w W → ∃ b ob, a1 = some ⟨b, ob, none⟩ ∧ W.cell? ⟨b, ob + ii, none⟩ = some (.int .i64 (xs.getD ii 0)) := fun W hW => by
        obtain ⟨b, ob, e, hc⟩ := r1.below hW ii (by omega)
        exact ⟨b, ob, e, hc⟩
      obtain ⟨b, ob, ha1, -⟩ := hci w (Below.refl _ _)
      have hck : ∀ W, Below w.heap.size w W → W.cell? ⟨b, ob + ii, none⟩ = some (.int .i64 (xs.getD ii 0)) := fun W hW => by
        obtain ⟨b', ob', e, hc⟩ := hci W hW
        rw [ha1] at e
        simp at e
        obtain ⟨rfl, rfl⟩ := e
        exact hc
      clear hci
      subst ha1
      by_cases gb : xs.getD ii 0 = 1
      · rw [decide_eq_true gb] at ebl
        rw [ebl, if_pos rfl, if_pos rfl]
        rw [gb] at hck
        obtain ⟨S, rfl⟩ := Int.eq_ofNat_of_zero_le (by omega : 0 ≤ s)
        rw [show (S : Int).toNat = S by simp]
        obtain ⟨D, hD⟩ : ∃ D, shotB P h xs ys (ii : Int) = D := ⟨_, rfl⟩
        rw [hD]
        have hDd : ∀ d, (hitL (legL P h ys xs d)).any (fun t => t.2.1 == (P : Int) - 1 - (ii : Int)) = D d := fun d => by rw [hit_any P h xs ys (ii : Int) d ebl, ← hD]; rfl
        obtain ⟨L, hL⟩ : ∃ L, dicesTo D S = L := ⟨_, rfl⟩
        rw [hL]
        have HL := Lib.hid hL
        have HDD := Lib.hid hDd
        have hdl := dicesTo_length D
        have HDL := Lib.hid hdl
        have hsw := fun W (hW : Below w.heap.size w W) => l02Swap_any (some ⟨b, ob, none⟩) a2 n1 n2 c1 c2 xs ys W h1 h2 (by omega) (by omega) l1 l2 (r1.below hW) (r2.below hW)
        have HSW := Lib.hid hsw
        have HCK := Lib.hid hck
        have T0 : ∃ T : Nat, P - 1 - ii = T := ⟨_, rfl⟩
        obtain ⟨T, hT⟩ := T0
        have eT : (P : Int) - 1 - (ii : Int) = (T : Int) := by omega
        have wz : IntKind.i64.wrap (IntKind.i64.wrap ((P : Int) - 1) - (ii : Int)) = (T : Int) := by rw [IntWalk.i64_in ((P : Int) - 1) (by omega), eT]; exact IntWalk.i64_in _ (by omega)
        clear hL hD hDd hdl hsw hck gb ebl hT
        go_enter Try.func30, Try.ntmps30
        go_wp2_with (first | (go_at_call 21; refine (HB.out _ (r1.below hb) (r2.below hb)).mono ?_; rintro e w1 ⟨rfl, hb1⟩; obtain ⟨x0, x1, x2, x3, xf, xl⟩ := (BV.below hb1).four; obtain ⟨y0, y1, yf, yl⟩ := (BB.below hb1).two; have ck := HCK.out w1 (chain hb hb1)) | (go_at_call 71; refine (HI.out _).mono ?_; rintro e w2 ⟨rfl, rfl⟩) | (go_at_call 80; refine (HSW.out _ ((chain hb hb1).alloc (chain hb hb1).size _)).mono ?_; rintro e w5 ⟨d1, d2, e1, e2, rfl, O9, hb5⟩))
        have hO0 := Own.start w1
        have hszA : (w1.alloc (.cells #[] 2)).heap.size = w1.heap.size + 1 := by simp
        have hO := (hO0.kept hb5).alloc (.cells #[.slice d1 n2 e1, .slice d2 n1 e2] 28)
        have hsz5 := hb5.size
        have V9 : VarB 0 (w5.alloc (.cells #[.slice d1 n2 e1, .slice d2 n1 e2] 28)) w5.heap.size d1 d2 n2 n1 e1 e2 (w1.alloc (.cells #[] 2)).heap.size w5.heap.size ys xs :=
          ⟨Blk.new _ _ _, O9.alloc _, .inr (Nat.le_refl _), Nat.zero_le _, by simp, Nat.zero_le _⟩
        have hbA : Below w.heap.size w (w1.alloc (.cells #[] 2)) := (chain hb hb1).alloc (chain hb hb1).size _
        have hb15 : Below w1.heap.size w1 w5 := from_alloc hb5
        have hbw0 : Below w.heap.size w (w5.alloc (.cells #[.slice d1 n2 e1, .slice d2 n1 e2] 28)) := (chain (chain hb hb1) hb15).alloc (chain (chain hb hb1) hb15).size _
        have BV0 := ((BV.below hb1).below hb15).alloc (.cells #[.slice d1 n2 e1, .slice d2 n1 e2] 28)
        have hw1 := (BV.below hb1).lt
        rw [hszA] at V9 hsz5
        clear x0 x1 x2 x3 xf xl y0 y1 yf yl HB hz1 hb1 hb5 hb15 hbA O9 HSW HCK HI hO0 hszA BV BB hb r1 r2
        have hsv : w5.heap.size < (w5.alloc (.cells #[.slice d1 n2 e1, .slice d2 n1 e2] 28)).heap.size := by simp
        generalize (w5.alloc (.cells #[.slice d1 n2 e1, .slice d2 n1 e2] 28)) = v0 at *
        go_loopg [8, 10] S (fun m q z wr => ∃ (k gq cq : Nat), k ≤ S ∧ m = S - k ∧ z = .int .i64 ((k : Int) + 1) ∧ Value.slice (some ⟨gq, 0, none⟩) (dicesTo D k).length cq = q ∧ Own wr w1.heap.size (.slice (some ⟨gq, 0, none⟩) (dicesTo D k).length cq) (dicesTo D k) ∧ VarB 0 wr w5.heap.size d1 d2 n2 n1 e1 e2 (w1.heap.size + 1) w5.heap.size ys xs ∧ (gq + 1 ≤ w1.heap.size + 1 ∨ w5.heap.size + 1 ≤ gq) ∧ w.heap.size < gq ∧ Blk wr w.heap.size #[.int .i64 (P : Int), .int .i64 c, .int .i64 h, .int .i64 (S : Int)] 25 ∧ Below w.heap.size w wr ∧ w5.heap.size < wr.heap.size)
        case atStart => exact ⟨0, w1.heap.size, 0, by omega, by omega, by go_num, rfl, hO, V9, .inl (by omega), hw1, BV0, hbw0, hsv⟩
        case round =>
          obtain ⟨k, gq, cq, hk, hm, rfl, rfl, hO, V9, hgq, hwg, BV, hbw, hsvr⟩ := hrel
          obtain ⟨x0, x1, x2, x3, xf, xl⟩ := BV.four
          obtain ⟨y0, y1, yf, yl⟩ := V9.1.two
          by_cases hlt : k < S
          · have hlt' : (k : Int) + 1 ≤ (S : Int) := by omega
            have hk6 : (k : Int) ≤ 6 := by omega
            have hdk : (dicesTo D k).length ≤ 1048576 := by have := HDL.out k; omega
            have hst : dicesTo D (k + 1) = dicesTo D k ++ (if D ((k : Int) + 1) = true then [(k : Int) + 1] else []) := rfl
            have hlh := l04Hits_any P c h (S : Int) d1 d2 n2 n1 e1 e2 ys xs wr h2 h1 (by omega) (by omega) (by omega) (by omega) (by omega) (by omega) hy hx V9.2.1.irow1 V9.2.1.irow2 ((k : Int) + 1) (by omega) (by omega)
            have hcd := HDD.out ((k : Int) + 1)
            have hll := Nat.le_trans (hitL_length (legL P h ys xs ((k : Int) + 1))) (legL_length P h ys xs ((k : Int) + 1))
            obtain ⟨LL, hLL⟩ : ∃ LL, hitL (legL P h ys xs ((k : Int) + 1)) = LL := ⟨_, rfl⟩
            rw [hLL] at hlh hcd hll
            rw [eT] at hcd
            have HLH := Lib.hid hlh
            have HCD := Lib.hid hcd
            have HST := Lib.hid hst
            clear hlh hLL hcd hst
            go_wp2_with (go_at_call 81; refine HLH.out.mono ?_; rintro e w6 ⟨aH, kH, rfl, OH, hb6⟩)
            clear HLH x0 x1 x2 x3 xf xl y0 y1 yf yl
            have hw1r : w1.heap.size ≤ wr.heap.size := by omega
            go_loopg [8, 12] LL.length (fun m2 q2 z wi => ∃ j : Nat, j ≤ LL.length ∧ m2 = LL.length - j ∧ z = .int .i64 (j : Int) ∧ q2 = Value.slice (some ⟨gq, 0, none⟩) (dicesTo D k).length cq ∧ (∀ jj t, jj < j → LL[jj]? = some t → (t.2.1 == (T : Int)) = false) ∧ Below wr.heap.size wr wi ∧ Below w6.heap.size w6 wi)
            case atStart => exact ⟨0, by omega, by omega, rfl, rfl, fun jj t hj => by omega, hb6, Below.refl _ _⟩
            case round =>
              obtain ⟨j, hj, hmm, rfl, rfl, hall, hbi, hb6i⟩ := hrel
              have HA := Lib.hid hall
              clear hall
              have hszi := hbi.size
              by_cases hltj : j < LL.length
              · have hltj' : (j : Int) < (LL.length : Int) := by omega
                have hj0 : (0 : Int) ≤ (j : Int) := by omega
                obtain ⟨gH, rfl, RH⟩ := (OH.below hb6i).row hltj
                obtain ⟨t, ht⟩ : ∃ t, LL[j]? = some t := ⟨_, List.getElem?_eq_getElem hltj⟩
                obtain ⟨u0, u1, u2, u3⟩ := RH.four j t ht
                have HT := Lib.hid ht
                have hany := fun (hq : (t.2.1 == (T : Int)) = true) => (List.any_eq_true.2 ⟨t, List.mem_of_getElem? ht, hq⟩ : LL.any (fun t => t.2.1 == (T : Int)) = true)
                obtain ⟨ta, tb, tc, td⟩ := t
                dsimp only at u0 u1 u2 u3 hany
                obtain ⟨x0, x1, x2, x3, xf, xl⟩ := (BV.below hbi).four
                clear RH ht
                cases hq : (tb == (T : Int)) with
                | true =>
                  have hDt : D ((k : Int) + 1) = true := by rw [← HCD.out]; exact hany hq
                  have hst := HST.out
                  rw [if_pos hDt] at hst
                  have HST2 := Lib.hid hst
                  clear hst hDt hany HA
                  go_wp2_with fail
                  go_quiet (fail)
                  go_wp2_with (at_builtin; go_loud (refine wp_pushS rfl (.tmp 63) (.tmp 65) rfl w1.heap.size gq _ (dicesTo D k) rfl (hO.below (below_drewN hbi _)) rfl ((k : Int) + 1) rfl hdk (Nat.le_trans hw1r (below_drewN hbi _).size) ?_; intro g' cap' w7 hO7 hS7 hg7 hl7))
                  go_roundg (S - (k + 1))
                  case measure => omega
                  case rel =>
                    obtain ⟨nd, hS7', hg7'⟩ : ∃ nd, Same gq (gq + 1) (wr.drewN nd) w7 ∧ (g' = gq ∨ (wr.drewN nd).heap.size ≤ g') := ⟨_, hS7, hg7⟩
                    have hnb := below_drewN hbi nd
                    refine ⟨k + 1, g', cap', by omega, rfl, by go_num, by rw [HST2.out]; simp, by rw [HST2.out]; simpa using hO7, ((V9.below hnb).same hS7' (by omega) (by omega)), ?_, ?_, (BV.below hnb).same hS7' (by omega), below_same (chain hbw hnb) hS7' (by omega) (by have := (chain hbw hnb).size; omega), ?_⟩
                    · have := hnb.size
                      omega
                    · have := hnb.size
                      have := hbw.size
                      omega
                    · have := hnb.size
                      have := hS7'.size
                      omega
                | false =>
                  clear hany
                  go_wp2_with fail
                  go_quiet (fail)
                  go_wp2
                  go_roundg (LL.length - (j + 1))
                  case measure => omega
                  case rel =>
                    refine ⟨j + 1, by omega, rfl, by go_num, rfl, fun jj t hjj ht => ?_, below_drewN hbi _, below_drewN hb6i _⟩
                    by_cases hjk : jj = j
                    · subst hjk
                      rw [HT.out] at ht
                      simp only [Option.some.injEq] at ht
                      rw [← ht]
                      exact hq
                    · exact HA.out jj t (by omega) ht
              · obtain rfl : j = LL.length := by omega
                have hDf : D ((k : Int) + 1) = false := by
                  rw [← HCD.out, List.any_eq_false]
                  intro t ht
                  obtain ⟨jj, hjj, he⟩ := List.mem_iff_getElem.1 ht
                  have := HA.out jj t hjj (by rw [List.getElem?_eq_getElem hjj, he])
                  simpa using this
                have hst := HST.out
                rw [if_neg (by simp [hDf]), List.append_nil] at hst
                have HST2 := Lib.hid hst
                clear hst hDf HA
                go_wp2
                go_roundg (S - (k + 1))
                case measure => omega
                case rel => exact ⟨k + 1, gq, cq, by omega, rfl, by go_num, by rw [HST2.out], by rw [HST2.out]; exact hO.below hbi, V9.below hbi, hgq, hwg, BV.below hbi, chain hbw hbi, by omega⟩
          · obtain rfl : k = S := by omega
            have hos := hO.osl
            have hE := HL.out
            rw [hE] at hos
            have hEl : (dicesTo D k).length = L.length := by rw [hE]
            rw [hEl]
            clear hE hEl hO
            go_wp2
            refine bodyPost_ret (v := .tuple #[.slice (some ⟨gq, 0, none⟩) L.length cq, .int .i64 0]) (by simp [results, Try.results30, go_sem]) rfl ?_
            exact ⟨_, _, rfl, hos.mono (by omega) (Nat.le_refl _), hbw⟩
      · rw [decide_eq_false gb] at ebl
        rw [ebl, if_neg (by simp), if_neg (by simp)]
        obtain ⟨u, hu⟩ : ∃ u, xs.getD ii 0 = u := ⟨_, rfl⟩
        rw [hu] at hck gb
        have eu : (u != 1) = true := by simpa using gb
        have HCK := Lib.hid hck
        clear hck hu ebl
        go_enter Try.func30, Try.ntmps30
        go_wp2_with (first | (go_at_call 21; refine (HB.out _ (r1.below hb) (r2.below hb)).mono ?_; rintro e w1 ⟨rfl, hb1⟩; obtain ⟨x0, x1, x2, x3, xf, xl⟩ := (BV.below hb1).four; obtain ⟨y0, y1, yf, yl⟩ := (BB.below hb1).two; have ck := HCK.out w1 (chain hb hb1)) | (go_at_call 71; refine (HI.out _).mono ?_; rintro e w2 ⟨rfl, rfl⟩))
        refine bodyPost_ret (v := .tuple #[.slice (some ⟨w1.heap.size, 0, none⟩) 0 0, .int .i64 4]) (by simp [results, Try.results30, go_sem]) rfl ?_
        exact ⟨_, _, rfl, OSl.new _ _ (chain hb hb1).size, (chain hb hb1).alloc (chain hb hb1).size _⟩
  · rw [if_neg g, if_neg g]
    replace g : isB p c h s xs ys = false := by simpa using g
    have hB := fun W (q1 : IRow W a1 xs) (q2 : IRow W a2 ys) => specIsBoard_any p c h s a1 a2 n1 n2 c1 c2 xs ys W h1 h2 l1 l2 q1 q2
    simp only [g] at hB
    have HB := Lib.hid hB
    clear hB
    go_enter Try.func30, Try.ntmps30
    go_wp2_with (go_at_call 21; refine (HB.out _ (r1.below hb) (r2.below hb)).mono ?_; rintro e w1 ⟨rfl, hb1⟩; obtain ⟨x0, x1, x2, x3, xf, xl⟩ := (BV.below hb1).four; obtain ⟨y0, y1, yf, yl⟩ := (BB.below hb1).two)
    refine bodyPost_ret (v := .tuple #[.slice (some ⟨w1.heap.size, 0, none⟩) 0 0, .int .i64 1]) (by simp [results, Try.results30, go_sem]) rfl ?_
    exact ⟨_, _, rfl, OSl.new _ _ (chain hb hb1).size, (chain hb hb1).alloc (chain hb hb1).size _⟩
end Go.Proofs.Ytjglempkmenacaa
