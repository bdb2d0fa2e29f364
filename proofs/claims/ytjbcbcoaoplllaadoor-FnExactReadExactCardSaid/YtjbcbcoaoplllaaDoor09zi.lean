/- Contract of chapter 9: the program's reading of an exact number out of the map of scales. -/
import Derived.Test.YtjbcbcoaoplllaaDoor09zg
import Derived.Test.YtjbcbcoaoplllaaDoor09zh
import Derived.Test.YtjbcbcoaoplllaaDoor10o
import Derived.Maps.RangeWalk
namespace Go.Proofs.YtjbcbcoaoplllaaDoor
open Go.ChangeShapes Go.WideShapes Go.ChangeAt Go.RowKit
set_option linter.unusedVariables false
set_option linter.unusedSimpArgs false

theorem rg_below {w w' : World} {b r n cnt : Nat} {S : Nat} {left : Lit → Bool} (h : w.ranges Tryd.prog 2 (plainElem (H := Unit) Tryd.prog 2) b r n (scD S n) left cnt) (hb : Below w.heap.size w w') : w'.ranges Tryd.prog 2 (plainElem (H := Unit) Tryd.prog 2) b r n (scD S n) left cnt :=
  h.kept (row := none) ⟨hb.os, hb.tape, hb.output, hb.size, fun k hk _ => hb.block k hk⟩ (by simp) (by simp)
theorem below_grownR {w W w1 : World} {B r : Nat} (hb : Below B w W) (hg : W.grownBy w1 (some r)) (hr : B ≤ r) (hB : B ≤ W.heap.size) : Below B w w1 :=
  ⟨hg.os.trans hb.os, hg.tape.trans hb.tape, hg.output.trans hb.output, Nat.le_trans hb.size hg.size, fun i hi => (hg.block i (by omega) (by simp; omega)).trans (hb.block i hi)⟩
set_option maxRecDepth 8000 in
set_option maxHeartbeats 2000000 in
theorem scRead_any (p c h : Int) (b S : Nat) (hv : vB p c h (S : Int) = true) (hS : 1 ≤ S ∧ S ≤ 6) (t : ByteArray) (w : World) (HS : ScM w b S (nn S)) (ht : t.size ≤ 1048576) (ht10 : T10 w) (hM : MaxCell w) (hE1 : ErrC w 0) (hE2 : ErrC w 1) :
    Calls Tryd.prog 47 #[.map (some b), .string t] w fun e w' => e = .returned (.tuple #[.agg #[.int .i64 (rxV p c h S t.data.toList).1.1, .int .i64 (rxV p c h S t.data.toList).1.2], .bool (rxV p c h S t.data.toList).2]) ∧ Below w.heap.size w w' := by
  have R0 := Blk.new w #[.int .i64 0, .int .i64 0] 43
  have hb : Below w.heap.size w (w.alloc (.cells #[.int .i64 0, .int .i64 0] 43)) := (Below.refl _ _).alloc (Nat.le_refl _) _
  have hbl : b < w.heap.size := HS.lt
  obtain ⟨mm, hmm⟩ := hM.below hb
  have hcut := Tryd.strings_Cut t ⟨#[47]⟩ mm (w.alloc (.cells #[.int .i64 0, .int .i64 0] 43)) (by omega) hmm
  have hc47 : (⟨#[47]⟩ : ByteArray).data.toList = [47] := rfl
  rw [hc47] at hcut
  obtain ⟨D, hD⟩ : ∃ D, (Lib.cut t.data.toList [47]).1 = D := ⟨_, rfl⟩
  obtain ⟨q2, hq2⟩ : ∃ q, (Lib.cut t.data.toList [47]).2.1 = q := ⟨_, rfl⟩
  obtain ⟨q3, hq3⟩ : ∃ q, (Lib.cut t.data.toList [47]).2.2 = q := ⟨_, rfl⟩
  have hDl : D.length ≤ t.size := by
    rw [← hD]
    unfold Lib.cut
    split
    · dsimp only
      rw [List.length_take]
      exact Nat.min_le_right _ _
    · exact Nat.le_refl _
  rw [hD, hq2, hq3] at hcut
  obtain ⟨DB, hDB⟩ : ∃ DB : ByteArray, ⟨D.toArray⟩ = DB := ⟨_, rfl⟩
  have hDBl : DB.data.toList = D := by rw [← hDB]
  have hDBs : DB.size ≤ 1048576 := by
    show DB.data.toList.length ≤ _
    rw [hDBl]
    omega
  obtain ⟨Q2, hQ2⟩ : ∃ DB : ByteArray, ⟨q2.toArray⟩ = DB := ⟨_, rfl⟩
  rw [hDB, hQ2] at hcut
  have hpi := fun W (k1 : ErrC W 0) (k2 : ErrC W 1) => parse_any DB W hDBs k1 k2
  rw [hDBl] at hpi
  obtain ⟨N, hN⟩ : ∃ N, prV D = N := ⟨_, rfl⟩
  rw [hN] at hpi
  obtain ⟨T, hT⟩ : ∃ T, t.data.toList = T := ⟨_, rfl⟩
  rw [hT] at hD ⊢
  have hun : ∀ n' d', exB p c h S n' d' = true → xtL (S : Int).toNat n' d' = T → n' = N ∧ 0 ≤ d' ∧ d' < nn S ∧ xvB S N d' = true ∧ xtL S N d' = T := by
    intro n' d' g e
    obtain ⟨-, a1, a2, a3, a4, -, -, -⟩ := ex_range g
    have h1 := cut_text (S : Int).toNat n' d'
    rw [e, hD] at h1
    rw [h1, prV_itoa a3 a4] at hN
    subst hN
    rw [Int.toNat_natCast] at a2 e
    have g2 := g
    simp only [exB, Bool.and_eq_true, Int.toNat_natCast] at g2
    exact ⟨rfl, a1, a2, g2.2, e⟩
  have hno := rx_no (p := p) (c := c) (h := h) (s := (S : Int)) (t := T)
  have hyes := fun d => rx_yes (p := p) (c := c) (h := h) (s := (S : Int)) (n := N) (d := d) (t := T)
  obtain ⟨RX, hRX⟩ : ∃ RX, rxV p c h (S : Int) T = RX := ⟨_, rfl⟩
  rw [hRX] at hno hyes ⊢
  have HNO := Lib.hid hno
  have HYES := Lib.hid hyes
  have HUN := Lib.hid hun
  have HTL := Lib.hid hT
  have HCU := Lib.hid hcut
  have HPI := Lib.hid hpi
  clear hno hyes hun hT hcut hpi hN hRX hD hq2 hq3 hDB hDBl hDBs hQ2 hDl hc47 hmm
  go_enter Tryd.func47, Tryd.ntmps47
  go_wp2_with (first
    | (go_at_call 70; refine HCU.out.mono ?_; rintro e w1 ⟨rfl, nd, rfl⟩; replace R0 := R0.drewN nd; replace hb := below_drewN hb nd)
    | (go_at_call 40; refine (HPI.out _ (hE1.below hb) (hE2.below hb)).mono ?_; rintro e w2 ⟨E, rfl, hb2⟩; replace R0 := R0.below hb2; replace hb := chain hb hb2; have HS2 := HS.below hb)
    | (at_range; refine wpList_range_own _ rfl _ 70 rfl 2 2 scKey scMap _ b (nn S) _ rfl HS2 ?_; intro w0 hrg0 hg0 hs0))
  have hbw0 : Below w2.heap.size w2 w0 := ⟨hg0.os, hg0.tape, hg0.output, hg0.size, fun i hi => hg0.block i hi (by simp)⟩
  have hrl : w.heap.size < w2.heap.size := R0.lt
  replace R0 := R0.below hbw0
  replace hb := chain hb hbw0
  clear hbw0 hg0 HS2 HCU HPI hb2
  obtain ⟨r, hr⟩ : ∃ r, w2.heap.size = r := ⟨_, rfl⟩
  rw [hr] at hrg0 hrl ⊢
  clear hr hs0
  go_frame
  go_loopg [11] (Maps.size (scD S (nn S))) (fun m q11 wr => ∃ (W : World) (left : Lit → Bool), W = wr ∧ W.ranges Tryd.prog 2 (plainElem (H := Unit) Tryd.prog 2) b r (nn S) (scD S (nn S)) left m ∧ Blk W w.heap.size #[.int .i64 0, .int .i64 0] 43 ∧ Below w.heap.size w W ∧ Hid (∀ d : Int, 0 ≤ d → d < nn S → left (.int .i64 d) = false → ¬ (xvB S N d = true ∧ xtL S N d = T)))
  case atStart => exact ⟨_, _, rfl, hrg0, R0, hb, Lib.hid (fun d h1 h2 h3 => by rw [scD_has, decide_eq_true ⟨h1, h2⟩] at h3; cases h3)⟩
  case round =>
    clear hrg0 R0 hb
    obtain ⟨W, left, hW, hrg, R0, hb, HF⟩ := hrel
    subst hW
    obtain ⟨y0, y1, yf, yl⟩ := R0.two
    go_wp2_with (first | (at_next; refine wpList_next_ranges_ii _ rfl _ rfl 2 2 .i64 .i64 scKey Tryd.underlying2 Tryd.underlying2 b r (nn S) _ _ _ rfl hrg ?_ ?_))
    · intro _ hl0
      have hrx := HNO.out (fun n' d' g e => by
        obtain ⟨-, q1, q2, q3, q4⟩ := HUN.out n' d' g e
        exact HF.out d' q1 q2 (hl0 _) ⟨q3, q4⟩)
      go_wp2_with fail
      have BRn := R0.set2 (.int .i64 0) (.int .i64 0)
      obtain ⟨t0, t1, tf, tl⟩ := BRn.two
      refine bodyPost_ret (v := .tuple #[.agg #[.int .i64 0, .int .i64 0], .bool false]) (by simp [results, Tryd.results47, go_sem, t0, t1]) rfl ?_
      exact ⟨by first | rfl | rw [hrx], (hb.setCell (p := ⟨w.heap.size, 0, none⟩) (by simp) _).setCell (p := ⟨w.heap.size, 1, none⟩) (by simp) _⟩
    · intro x cc w1' cnt1 hwx hwc hlx hat hrg1 hltm hg1 hs1 hen
      have hxr : -9223372036854775808 ≤ x ∧ x ≤ 9223372036854775807 := by simpa [Lit.wf, IntKind.min, IntKind.max, IntKind.signed, IntKind.bits] using hwx
      clear y0 y1 yf yl
      replace hb := below_grownR hb hg1 (by omega) (Nat.le_of_lt R0.lt)
      replace R0 := R0.grown hg1 (by omega)
      have hh := fun W2 (q : ScM W2 b S (nn S)) => has_any b S hS N x hxr W2 q
      obtain ⟨V_, hV_⟩ : ∃ V_, xvB S N x = V_ := ⟨_, rfl⟩
      rw [hV_] at hh
      have HH := Lib.hid hh
      have BX := Blk.new w1' #[.int .i64 N, .int .i64 x] 43
      have hal : Below w1'.heap.size w1' (w1'.alloc (.cells #[.int .i64 N, .int .i64 x] 43)) := (Below.refl _ _).alloc (Nat.le_refl _) _
      obtain ⟨y0, y1, yf, yl⟩ := (R0.below hal).two
      obtain ⟨z0, z1, zf, zl⟩ := BX.two
      replace R0 := R0.below hal
      replace hb := chain hb hal
      replace hrg1 := rg_below hrg1 hal
      clear hal hh hwx hwc hat hrg hs1
      have hF : ¬ (xvB S N x = true ∧ xtL S N x = T) → Hid (∀ d : Int, 0 ≤ d → d < nn S → (left (.int .i64 d) && !(Lit.int .i64 d).sameKey (.int .i64 x)) = false → ¬ (xvB S N d = true ∧ xtL S N d = T)) := fun hn => Lib.hid (fun d h1 h2 h3 => by
        by_cases e : d = x
        · rw [e]
          exact hn
        · refine HF.out d h1 h2 ?_
          have hsk : (Lit.int .i64 d).sameKey (.int .i64 x) = false := by simpa [Lit.sameKey] using e
          simpa [hsk] using h3)
      cases V_ with
      | false =>
        have HQ := hF (by rw [hV_]; simp)
        clear hF hV_
        go_wp2_with (first | (go_at_call 69; refine (HH.out _ hrg1.owns).mono ?_; clear HH; rintro e w3 ⟨rfl, hb3⟩; clear y0 y1 yf yl z0 z1 zf zl; replace R0 := R0.below hb3; replace BX := BX.below hb3; replace hrg1 := rg_below hrg1 hb3; replace hb := chain hb hb3; clear hb3; obtain ⟨y0, y1, yf, yl⟩ := R0.two; obtain ⟨z0, z1, zf, zl⟩ := BX.two))
        go_roundg cnt1
        case measure => exact hltm
        case rel => exact ⟨_, _, rfl, hrg1, R0, hb, HQ⟩
      | true =>
        have htx := fun W2 (q : ScM W2 b S (nn S)) (k : T10 W2) => scText_any b S hS N x hV_ W2 q k
        obtain ⟨X, hX⟩ : ∃ X : ByteArray, ⟨(xtL S N x).toArray⟩ = X := ⟨_, rfl⟩
        have hXl : X.data.toList = xtL S N x := by rw [← hX]
        rw [hX] at htx
        have HT := Lib.hid htx
        clear htx hX
        by_cases heq : xtL S N x = T
        · have hXt : X = t := by
            apply ByteArray.ext
            apply Array.toList_inj.1
            rw [hXl, heq, HTL.out]
          have hrx := HYES.out x (by simp only [exB, Bool.and_eq_true, Int.toNat_natCast]; exact ⟨hv, hV_⟩) (by rw [Int.toNat_natCast]; exact heq)
          subst hXt
          clear hXl heq hF hV_
          go_wp2_with (first | (go_at_call 69; refine (HH.out _ hrg1.owns).mono ?_; clear HH; rintro e w3 ⟨rfl, hb3⟩; clear y0 y1 yf yl z0 z1 zf zl; replace R0 := R0.below hb3; replace BX := BX.below hb3; replace hrg1 := rg_below hrg1 hb3; replace hb := chain hb hb3; clear hb3; obtain ⟨y0, y1, yf, yl⟩ := R0.two; obtain ⟨z0, z1, zf, zl⟩ := BX.two) | (go_at_call 46; refine (HT.out _ hrg1.owns (ht10.below hb)).mono ?_; clear HT; rintro e w4 ⟨rfl, hb4⟩; clear y0 y1 yf yl z0 z1 zf zl; replace R0 := R0.below hb4; replace BX := BX.below hb4; replace hrg1 := rg_below hrg1 hb4; replace hb := chain hb hb4; clear hb4; obtain ⟨y0, y1, yf, yl⟩ := R0.two; obtain ⟨z0, z1, zf, zl⟩ := BX.two))
          have BRn := R0.set2 (.int .i64 N) (.int .i64 x)
          obtain ⟨t0, t1, tf, tl⟩ := BRn.two
          refine bodyPost_ret (v := .tuple #[.agg #[.int .i64 N, .int .i64 x], .bool true]) (by simp [results, Tryd.results47, go_sem, t0, t1]) rfl ?_
          exact ⟨by first | rfl | rw [hrx], (hb.setCell (p := ⟨w.heap.size, 0, none⟩) (by simp) _).setCell (p := ⟨w.heap.size, 1, none⟩) (by simp) _⟩
        · have hne0 : X.data.toList ≠ t.data.toList := by
            rw [hXl, HTL.out]
            exact heq
          have hne : (X.toList == t.toList) = false := by
            rw [beq_eq_false_iff_ne, ByteArray.toList_eq, ByteArray.toList_eq]
            exact hne0
          have hne3 : ¬ X = t := by
            rintro rfl
            exact hne0 rfl
          have HQ := hF (fun q => heq q.2)
          clear hXl heq hne0 hF hV_
          go_wp2_with (first | (go_at_call 69; refine (HH.out _ hrg1.owns).mono ?_; clear HH; rintro e w3 ⟨rfl, hb3⟩; clear y0 y1 yf yl z0 z1 zf zl; replace R0 := R0.below hb3; replace BX := BX.below hb3; replace hrg1 := rg_below hrg1 hb3; replace hb := chain hb hb3; clear hb3; obtain ⟨y0, y1, yf, yl⟩ := R0.two; obtain ⟨z0, z1, zf, zl⟩ := BX.two) | (go_at_call 46; refine (HT.out _ hrg1.owns (ht10.below hb)).mono ?_; clear HT; rintro e w4 ⟨rfl, hb4⟩; clear y0 y1 yf yl z0 z1 zf zl; replace R0 := R0.below hb4; replace BX := BX.below hb4; replace hrg1 := rg_below hrg1 hb4; replace hb := chain hb hb4; clear hb4; obtain ⟨y0, y1, yf, yl⟩ := R0.two; obtain ⟨z0, z1, zf, zl⟩ := BX.two))
          go_roundg cnt1
          case measure => exact hltm
          case rel => exact ⟨_, _, rfl, hrg1, R0, hb, HQ⟩
end Go.Proofs.YtjbcbcoaoplllaaDoor
