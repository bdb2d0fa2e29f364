/- Contract of chapter 9: the model's reading of an exact number. -/
import Derived.Test.YtjbcbcoaoplllaaDoor09zf
import Derived.Test.YtjbcbcoaoplllaaDoor10n
namespace Go.Proofs.YtjbcbcoaoplllaaDoor
open Go.ChangeShapes Go.WideShapes Go.ChangeAt Go.RowKit
set_option linter.unusedVariables false
set_option linter.unusedSimpArgs false

/-- The number that has a text, and whether there is one. -/
noncomputable def rxV (p c h s : Int) (t : List UInt8) : (Int × Int) × Bool :=
  open Classical in if q : ∃ r : Int × Int, exB p c h s r.1 r.2 = true ∧ xtL s.toNat r.1 r.2 = t then (Classical.choose q, true) else ((0, 0), false)
theorem rx_yes {p c h s n d : Int} {t : List UInt8} (g : exB p c h s n d = true) (e : xtL s.toNat n d = t) : rxV p c h s t = ((n, d), true) := by
  have q : ∃ r : Int × Int, exB p c h s r.1 r.2 = true ∧ xtL s.toNat r.1 r.2 = t := ⟨(n, d), g, e⟩
  unfold rxV
  rw [dif_pos q]
  have hc := Classical.choose_spec q
  obtain ⟨h1, h2⟩ := xt_inj hc.1 g (hc.2.trans e.symm)
  exact congrArg (fun z => (z, true)) (Prod.ext h1 h2)
theorem rx_no {p c h s : Int} {t : List UInt8} (hn : ∀ n d, exB p c h s n d = true → xtL s.toNat n d ≠ t) : rxV p c h s t = ((0, 0), false) := by
  unfold rxV
  rw [dif_neg]
  rintro ⟨r, g, e⟩
  exact hn _ _ g e
theorem itoa_ne (n : Int) : Lib.itoa n ≠ [] := by
  unfold Lib.itoa
  split
  · simp
  · exact dec_ne _
theorem xt_facts {p c h s n d : Int} (g : exB p c h s n d = true) : 0 < (xtL s.toNat n d).length ∧ (xtL s.toNat n d).length ≤ 50 := by
  obtain ⟨-, q1, q2, q3, q4, -, q6, q7⟩ := ex_range g
  have h1 := itoa_len (n := n) (by omega) (by omega)
  have h3 : 0 < (Lib.itoa n).length := List.length_pos_iff.2 (itoa_ne n)
  unfold xtL
  split
  · omega
  · have k := scN_in (S := s.toNat) (k := d.toNat) ⟨q6, q7⟩ (by omega)
    have h2 := itoa_len (n := ((scN s.toNat d.toNat : Nat) : Int)) (by omega) (by omega)
    simp only [List.length_append, List.length_cons, List.length_nil]
    omega
theorem ex_v {p c h s n d : Int} (g : exB p c h s n d = true) : vB p c h s = true := (ex_range g).1
theorem byte_at (t : ByteArray) (k : Nat) (h : k < t.size) : t.data.toList[k]? = some t[k] := by
  rw [List.getElem?_eq_getElem (by simpa using h)]; rfl
set_option maxRecDepth 8000 in
set_option maxHeartbeats 2000000 in
theorem specReadExact_any (p c h s : Int) (t : ByteArray) (w : World) (ht : t.size ≤ 1048576) :
    Calls Tryd.prog 25 #[.agg #[.int .i64 p, .int .i64 c, .int .i64 h, .int .i64 s], .string t] w fun e w' => e = .returned (.tuple #[.agg #[.int .i64 (rxV p c h s t.data.toList).1.1, .int .i64 (rxV p c h s t.data.toList).1.2], .bool (rxV p c h s t.data.toList).2]) ∧ Below w.heap.size w w' := by
  obtain ⟨BV, R0, hb, hz⟩ := two_new w #[.int .i64 p, .int .i64 c, .int .i64 h, .int .i64 s] #[.int .i64 0, .int .i64 0] 26 43
  have hV := fun W => specIsVariant_any p c h s W
  have hlen : t.data.toList.length = t.size := rfl
  have hno := rx_no (p := p) (c := c) (h := h) (s := s) (t := t.data.toList)
  obtain ⟨x0, x1, x2, x3, xf, xl⟩ := BV.four
  obtain ⟨y0, y1, yf, yl⟩ := R0.two
  cases hv : vB p c h s with
  | false =>
    have hr := hno (fun n d g e => by have := ex_v g; rw [hv] at this; exact absurd this (by decide))
    rw [hr]
    rw [hv] at hV
    have HV := Lib.hid hV
    clear hV hno hr
    go_enter Tryd.func25, Tryd.ntmps25
    go_wp2_with (first | (go_at_call 42; refine (HV.out _).mono ?_; clear HV; rintro e w1 ⟨rfl, hb1⟩; clear x0 x1 x2 x3 xf xl y0 y1 yf yl; replace BV := BV.below hb1; replace R0 := R0.below hb1; replace hb := chain hb hb1; clear hb1; obtain ⟨x0, x1, x2, x3, xf, xl⟩ := BV.four; obtain ⟨y0, y1, yf, yl⟩ := R0.two))
    have BRn := R0.set2 (.int .i64 0) (.int .i64 0)
    obtain ⟨t0, t1, tf, tl⟩ := BRn.two
    refine bodyPost_ret (v := .tuple #[.agg #[.int .i64 0, .int .i64 0], .bool false]) (by simp [results, Tryd.results25, go_sem, t0, t1]) rfl ?_
    exact ⟨rfl, (hb.setCell (p := ⟨w.heap.size + 1, 0, none⟩) (by simp) _).setCell (p := ⟨w.heap.size + 1, 1, none⟩) (by simp) _⟩
  | true =>
    rw [hv] at hV
    have HV := Lib.hid hV
    clear hV
    by_cases h0 : t.size = 0
    · have hnil : t.data.toList = [] := List.eq_nil_of_length_eq_zero (by omega)
      have ht1 : t = ⟨#[]⟩ := by
        apply ByteArray.ext
        apply Array.toList_inj.1
        exact hnil
      have hr := hno (fun n d g e => by have := (xt_facts g).1; rw [e, hnil] at this; simp at this)
      rw [hr]
      clear hno hr
      subst ht1
      go_enter Tryd.func25, Tryd.ntmps25
      go_wp2_with (first | (go_at_call 42; refine (HV.out _).mono ?_; clear HV; rintro e w1 ⟨rfl, hb1⟩; clear x0 x1 x2 x3 xf xl y0 y1 yf yl; replace BV := BV.below hb1; replace R0 := R0.below hb1; replace hb := chain hb hb1; clear hb1; obtain ⟨x0, x1, x2, x3, xf, xl⟩ := BV.four; obtain ⟨y0, y1, yf, yl⟩ := R0.two))
      have BRn := R0.set2 (.int .i64 0) (.int .i64 0)
      obtain ⟨t0, t1, tf, tl⟩ := BRn.two
      refine bodyPost_ret (v := .tuple #[.agg #[.int .i64 0, .int .i64 0], .bool false]) (by simp [results, Tryd.results25, go_sem, t0, t1]) rfl ?_
      exact ⟨rfl, (hb.setCell (p := ⟨w.heap.size + 1, 0, none⟩) (by simp) _).setCell (p := ⟨w.heap.size + 1, 1, none⟩) (by simp) _⟩
    · have hne0 : (t.toList == []) = false := by
        rw [beq_eq_false_iff_ne, ByteArray.toList_eq]
        intro q
        rw [q] at hlen
        exact h0 hlen.symm
      have hne1 : ¬ t = ⟨#[]⟩ := by
        rintro rfl
        exact h0 rfl
      by_cases h50 : 50 < t.size
      · have h50' : (50 : Int) < (t.size : Int) := by omega
        have hr := hno (fun n d g e => by have := (xt_facts g).2; rw [e] at this; omega)
        rw [hr]
        clear hno hr
        go_enter Tryd.func25, Tryd.ntmps25
        go_wp2_with (first | (go_at_call 42; refine (HV.out _).mono ?_; clear HV; rintro e w1 ⟨rfl, hb1⟩; clear x0 x1 x2 x3 xf xl y0 y1 yf yl; replace BV := BV.below hb1; replace R0 := R0.below hb1; replace hb := chain hb hb1; clear hb1; obtain ⟨x0, x1, x2, x3, xf, xl⟩ := BV.four; obtain ⟨y0, y1, yf, yl⟩ := R0.two))
        have BRn := R0.set2 (.int .i64 0) (.int .i64 0)
        obtain ⟨t0, t1, tf, tl⟩ := BRn.two
        refine bodyPost_ret (v := .tuple #[.agg #[.int .i64 0, .int .i64 0], .bool false]) (by simp [results, Tryd.results25, go_sem, t0, t1]) rfl ?_
        exact ⟨rfl, (hb.setCell (p := ⟨w.heap.size + 1, 0, none⟩) (by simp) _).setCell (p := ⟨w.heap.size + 1, 1, none⟩) (by simp) _⟩
      · have h50' : ¬ (50 : Int) < (t.size : Int) := by omega
        have hyes := fun n d => rx_yes (p := p) (c := c) (h := h) (s := s) (n := n) (d := d) (t := t.data.toList)
        obtain ⟨T, hT⟩ : ∃ T, t.data.toList = T := ⟨_, rfl⟩
        rw [hT] at hno hyes hlen ⊢
        obtain ⟨RX, hRX⟩ : ∃ RX, rxV p c h s T = RX := ⟨_, rfl⟩
        rw [hRX] at hno hyes ⊢
        have HNO := Lib.hid hno
        have HYES := Lib.hid hyes
        have HTL := Lib.hid hT
        clear hno hyes hRX hT
        go_enter Tryd.func25, Tryd.ntmps25
        go_wp2_with (first | (go_at_call 42; refine (HV.out _).mono ?_; clear HV; rintro e w1 ⟨rfl, hb1⟩; clear x0 x1 x2 x3 xf xl y0 y1 yf yl; replace BV := BV.below hb1; replace R0 := R0.below hb1; replace hb := chain hb hb1; clear hb1; obtain ⟨x0, x1, x2, x3, xf, xl⟩ := BV.four; obtain ⟨y0, y1, yf, yl⟩ := R0.two))
        clear x0 x1 x2 x3 xf xl y0 y1 yf yl
        go_loopg [6, 7] t.size (fun m q6 q7 wr => w1 = wr ∧ ∃ k : Nat, k ≤ t.size ∧ m = t.size - k ∧ q7 = .int .i64 k ∧ q6 = .int .i64 (atV T k))
        case atStart => exact ⟨rfl, 0, by omega, by omega, rfl, by rw [atV, hlen]⟩
        case round =>
          obtain ⟨rfl, k, hk, hm, rfl, rfl⟩ := hrel
          by_cases hlt : k < t.size
          · have hlt' : (k : Int) < (t.size : Int) := by omega
            have hk0 : (0 : Int) ≤ (k : Int) := by omega
            have hbt := byte_at t k hlt
            rw [HTL.out] at hbt
            by_cases hs : t[k].toNat = 47
            · have e1 : ((t[k].toNat : Int) == 47) = true := by rw [beq_iff_eq]; omega
              have ha : atV T (k + 1) = k := by rw [atV, hbt, if_pos (by rw [show t[k] = 47 from UInt8.toNat_inj.1 hs])]
              have HA := Lib.hid ha
              clear ha hbt
              go_wp2_with fail
              go_roundg (t.size - (k + 1))
              case measure => omega
              case rel => exact ⟨rfl, k + 1, by omega, rfl, by go_num, by rw [HA.out]⟩
            · have e1 : ((t[k].toNat : Int) == 47) = false := by rw [beq_eq_false_iff_ne]; omega
              have ha : atV T (k + 1) = atV T k := by rw [atV, hbt, if_neg (by simp only [Option.some.injEq]; intro q; rw [q] at hs; exact hs rfl)]
              have HA := Lib.hid ha
              clear ha hbt
              go_wp2_with fail
              go_roundg (t.size - (k + 1))
              case measure => omega
              case rel => exact ⟨rfl, k + 1, by omega, rfl, by go_num, by rw [HA.out]⟩
          · obtain rfl : k = t.size := by omega
            have hlt' : ¬ (t.size : Int) < (t.size : Int) := by omega
            have hal := atV_le T t.size (by omega)
            obtain ⟨A, hA⟩ : ∃ A, atV T t.size = A := ⟨_, rfl⟩
            rw [hA] at hal ⊢
            have hal2 : A ≤ t.size := by omega
            have hal3 : (A : Int) ≤ (t.size : Int) := by omega
            have hA0 : (0 : Int) ≤ (A : Int) := by omega
            have hxs : (t.extract 0 A).data.toList = T.take A := by
              rw [← HTL.out]
              simp [ByteArray.data_extract, List.extract_eq_take_drop]
            have hrd := fun W => l09Read_any (t.extract 0 A) W (by rw [ByteArray.size_extract]; omega)
            rw [hxs] at hrd
            obtain ⟨n, hn⟩ : ∃ n, rdV (T.take A) = n := ⟨_, rfl⟩
            rw [hn] at hrd
            have hun : ∀ n' d', exB p c h s n' d' = true → xtL s.toNat n' d' = T → n' = n ∧ 0 ≤ d' ∧ d' ≤ 60 ∧ etT p c h s n d' = T := by
              intro n' d' g e
              obtain ⟨-, q1, q2, q3, q4, -, q6, q7⟩ := ex_range g
              have h1 := at_text s.toNat n' d'
              rw [e, hlen, hA] at h1
              rw [h1, rdV_itoa q3 q4] at hn
              subst hn
              have hnn : nn s.toNat ≤ 61 := by unfold nn; split <;> omega
              exact ⟨rfl, q1, by omega, by rw [etT, if_pos g, e]⟩
            have het := fun (d : Int) (hd : 0 ≤ d ∧ d ≤ 60) W => specExactText_any p c h s n d (by omega) W
            have HRD := Lib.hid hrd
            have HUN := Lib.hid hun
            have HET := Lib.hid het
            clear hrd hun het hn hxs
            have hbs := BV.lt
            have hrs := R0.lt
            go_wp2_with (first | (go_at_call 38; refine (HRD.out _).mono ?_; rintro e wq ⟨rfl, rfl⟩))
            have BX := Blk.new w1 #[.int .i64 n, .int .i64 0] 43
            have hal_ : Below w1.heap.size w1 (w1.alloc (.cells #[.int .i64 n, .int .i64 0] 43)) := (Below.refl _ _).alloc (Nat.le_refl _) _
            replace BV := BV.below hal_
            replace R0 := R0.below hal_
            replace hb := chain hb hal_
            clear hal_
            obtain ⟨gx, hgx⟩ : ∃ gx, w1.heap.size = gx := ⟨_, rfl⟩
            (try rw [hgx])
            rw [hgx] at BX hbs hrs
            generalize (w1.alloc (.cells #[.int .i64 n, .int .i64 0] 43)) = w2 at *
            clear hgx HRD hm hlt hlt' hal hal2 hal3 hA0
            go_loopg [9] 61 (fun m q9 wr => ∃ (W : World) (k : Nat) (d0 : Int), W = wr ∧ k ≤ 61 ∧ m = 61 - k ∧ q9 = .int .i64 k ∧ Blk W w.heap.size #[.int .i64 p, .int .i64 c, .int .i64 h, .int .i64 s] 26 ∧ Blk W (w.heap.size + 1) #[.int .i64 0, .int .i64 0] 43 ∧ Blk W gx #[.int .i64 n, .int .i64 d0] 43 ∧ Below w.heap.size w W ∧ Hid (∀ d : Int, 0 ≤ d → d < k → etT p c h s n d ≠ T))
            case atStart => exact ⟨_, 0, 0, rfl, by omega, by omega, rfl, BV, R0, BX, hb, Lib.hid (fun d h1 h2 => by omega)⟩
            case round =>
              clear BV R0 BX hb
              obtain ⟨W, k, d0, hW, hk, hm, rfl, BV, R0, BX, hb, HALL⟩ := hrel
              subst hW
              by_cases hlt : k ≤ 60
              · have hlt' : (k : Int) ≤ 60 := by omega
                have het := HET.out (k : Int) ⟨by omega, hlt'⟩
                obtain ⟨z0, z1, zf, zl⟩ := BX.two
                have BV1 := BV.other (g := gx) (o := 1) (v := .int .i64 (k : Int)) (by omega)
                have R1 := R0.other (g := gx) (o := 1) (v := .int .i64 (k : Int)) (by omega)
                have BX1 := BX.set (i := 1) (.int .i64 (k : Int))
                simp only [List.setIfInBounds_toArray, List.set_cons_zero, List.set_cons_succ] at BX1
                have hb1 := hb.setCell (p := ⟨gx, 1, none⟩) (by simp only; omega) (.int .i64 (k : Int))
                obtain ⟨x0, x1, x2, x3, xf, xl⟩ := BV1.four
                obtain ⟨u0, u1, uf, ul⟩ := BX1.two
                obtain ⟨X, hX⟩ : ∃ X : ByteArray, ⟨(etT p c h s n (k : Int)).toArray⟩ = X := ⟨_, rfl⟩
                have hXl : X.data.toList = etT p c h s n (k : Int) := by rw [← hX]
                rw [hX] at het
                have HE := Lib.hid het
                clear het hX
                by_cases heq : etT p c h s n (k : Int) = T
                · have hXt : X = t := by
                    apply ByteArray.ext
                    apply Array.toList_inj.1
                    rw [hXl, heq, HTL.out]
                  have hex : exB p c h s n (k : Int) = true ∧ xtL s.toNat n (k : Int) = T := by
                    unfold etT at heq
                    by_cases g : exB p c h s n (k : Int) = true
                    · rw [if_pos g] at heq
                      exact ⟨g, heq⟩
                    · rw [if_neg g] at heq
                      rw [← heq] at hlen
                      exact absurd hlen.symm h0
                  have hrx := HYES.out n (k : Int) hex.1 hex.2
                  subst hXt
                  clear hXl heq hex
                  go_wp2_with (first | (go_at_call 22; refine (HE.out _).mono ?_; clear HE; rintro e w3 ⟨rfl, hb3⟩; clear x0 x1 x2 x3 xf xl u0 u1 uf ul; replace R1 := R1.below hb3; replace BX1 := BX1.below hb3; replace hb1 := chain hb1 hb3; obtain ⟨y0, y1, yf, yl⟩ := R1.two; obtain ⟨u0, u1, uf, ul⟩ := BX1.two))
                  have BRn := R1.set2 (.int .i64 n) (.int .i64 (k : Int))
                  obtain ⟨t0, t1, tf, tl⟩ := BRn.two
                  refine bodyPost_ret (v := .tuple #[.agg #[.int .i64 n, .int .i64 (k : Int)], .bool true]) (by simp [results, Tryd.results25, go_sem, t0, t1]) rfl ?_
                  exact ⟨by rw [hrx], (hb1.setCell (p := ⟨w.heap.size + 1, 0, none⟩) (by simp) _).setCell (p := ⟨w.heap.size + 1, 1, none⟩) (by simp) _⟩
                · have hne0 : X.data.toList ≠ t.data.toList := by
                    rw [hXl, HTL.out]
                    exact heq
                  have hne : (X.toList == t.toList) = false := by
                    rw [beq_eq_false_iff_ne, ByteArray.toList_eq, ByteArray.toList_eq]
                    exact hne0
                  have hne3 : ¬ X = t := by
                    rintro rfl
                    exact hne0 rfl
                  have HQ : Hid (∀ d : Int, 0 ≤ d → d < ((k + 1 : Nat) : Int) → etT p c h s n d ≠ T) := Lib.hid (fun d h1 h2 => by
                    by_cases e : d = k
                    · rw [e]
                      exact heq
                    · exact HALL.out d h1 (by omega))
                  clear hXl heq hne0
                  go_wp2_with (first | (go_at_call 22; refine (HE.out _).mono ?_; clear HE; rintro e w3 ⟨rfl, hb3⟩; clear x0 x1 x2 x3 xf xl u0 u1 uf ul; replace BV1 := BV1.below hb3; replace R1 := R1.below hb3; replace BX1 := BX1.below hb3; replace hb1 := chain hb1 hb3))
                  go_roundg (61 - (k + 1))
                  case measure => omega
                  case rel => exact ⟨_, k + 1, (k : Int), rfl, by omega, rfl, by go_num, BV1, R1, BX1, hb1, HQ⟩
              · obtain rfl : k = 61 := by omega
                have hlt' : ¬ (((61 : Nat) : Int) ≤ 60) := by omega
                have hrx := HNO.out (fun n' d' g e => by
                  obtain ⟨-, q1, q2, q3⟩ := HUN.out n' d' g e
                  exact HALL.out d' q1 (by omega) q3)
                obtain ⟨y0, y1, yf, yl⟩ := R0.two
                go_wp2_with fail
                have BRn := R0.set2 (.int .i64 0) (.int .i64 0)
                obtain ⟨t0, t1, tf, tl⟩ := BRn.two
                refine bodyPost_ret (v := .tuple #[.agg #[.int .i64 0, .int .i64 0], .bool false]) (by simp [results, Tryd.results25, go_sem, t0, t1]) rfl ?_
                exact ⟨by first | rfl | rw [hrx], (hb.setCell (p := ⟨w.heap.size + 1, 0, none⟩) (by simp) _).setCell (p := ⟨w.heap.size + 1, 1, none⟩) (by simp) _⟩
end Go.Proofs.YtjbcbcoaoplllaaDoor
