/- Contracts of chapter 13: the program's compressed block (an encoder writes the runs). -/
import Derived.Test.Ytgohipfaojiilaa13b
import Derived.Lib.MinMax
import Derived.Deep.QuietTactic
import Derived.Shelf.Abstract
namespace Go.Proofs.Ytgohipfaojiilaa
open Go.ChangeShapes Go.WideShapes Go.ChangeAt Go.RowKit
set_option linter.unusedVariables false
set_option linter.unusedSimpArgs false
set_option maxRecDepth 4000

theorem B8.Own.keptG {w w' : World} {base g : Nat} {v : Value} {l : List Int} (h : B8.Own w base v l) (hg : w.grownBy w' (some g)) (hb : g < base) : B8.Own w' base v l :=
  World.ownsRow.kept (row := some g) h hg (by
    cases hv : v.ownBlock with
    | none => exact .inl rfl
    | some k =>
      have := (World.ownsRow.lt h k hv).1
      exact .inr (by simp; omega))
theorem B8.Own.ne {w : World} {base g : Nat} {v : Value} {l : List Int} {cur : Array Value} {t : TypeId} (h : B8.Own w base v l) (hB : Blk w g cur t) (ht : t ≠ 5) : v.ownBlock ≠ some g := by
  intro e
  obtain ⟨_, ⟨h1, _⟩ | ⟨g', cap, cur', rfl, _, hh, _⟩⟩ := h
  · rw [h1] at e
    simp [Value.ownBlock] at e
  · simp [Value.ownBlock] at e
    subst e
    have hB' : w.heap[g']? = some (.cells cur t (0, 0)) := hB
    rw [hh] at hB'
    injection hB' with hB'
    injection hB' with _ h3
    exact ht h3.symm
/-- Blocks of other types are kept, but block E. -/
def KeepT (E : Nat) (w w' : World) : Prop := ∀ g cur t, Blk w g cur t → t ≠ 5 → g ≠ E → Blk w' g cur t
theorem KeepT.trans {E : Nat} {w1 w2 w3 : World} (h1 : KeepT E w1 w2) (h2 : KeepT E w2 w3) : KeepT E w1 w3 := fun g cur t a b c => h2 g cur t (h1 g cur t a b c) b c
theorem KeepT.of {E : Nat} {w w' : World} (h : Below w.heap.size w w') : KeepT E w w' := fun g cur t a _ _ => a.below h
theorem EncB.below {w w' : World} {E B : Nat} {out : List Int} (h : EncB w E B out) (hb : Below w.heap.size w w') : EncB w' E B out := by
  obtain ⟨v, h1, h2, hB, hO⟩ := h
  exact ⟨v, h1, Nat.le_trans h2 hb.size, hB.below hb, hO.kept hb⟩
theorem EncB.lt {w : World} {E B : Nat} {out : List Int} (h : EncB w E B out) : E < w.heap.size := by obtain ⟨v, _, _, hB, _⟩ := h; exact hB.lt
set_option maxRecDepth 8000 in
set_option maxHeartbeats 1000000 in
theorem write_any (E B g f m cap : Nat) (ys out : List Int) (w : World) (hm : ys.length = m) (hl : out.length + m ≤ 100000000) (hE : EncB w E B out) (hr : B8.IRow w (some ⟨g, f, none⟩) ys) :
    Calls Try.prog 48 #[.pointer (some ⟨E, 0, none⟩), .slice (some ⟨g, f, none⟩) m cap] w fun e w' => e = .returned (.tuple #[]) ∧ EncB w' E B (out ++ ys) ∧ KeepE E B w w' ∧ KeepT E w w' := by
  obtain ⟨v, hEB, hBs, BE, hO⟩ := hE
  obtain ⟨aV, kV, rfl⟩ := hO.form
  have hElt := BE.lt
  have hLN : (out ++ ys).length = out.length + m := by rw [List.length_append, hm]
  obtain ⟨x0, xf, xl⟩ := BE.one
  go_enter Try.func48, Try.ntmps48
  go_wp2_with (at_builtin; refine wp_pushAll8 rfl (.tmp 8) (.tmp 9) rfl B _ out rfl hO g f ys m cap rfl hm hr hl hBs ?_; intro v2 w2 hO2 hb2 hk2; obtain ⟨aW, kW, hv2⟩ := hO2.form; rw [hLN] at hv2; subst hv2; have BE2 : Blk w2 E #[.slice aV out.length kV] 76 := (hb2.block E hEB).trans BE; obtain ⟨y0, yf, yl⟩ := BE2.one; clear x0 xf)
  have hG : w2.grownBy (w2.setCell ⟨E, 0, none⟩ (.slice aW (out.length + m) kW)) (some E) := grown_set (show w2.grownBy w2 (some E) from ⟨rfl, rfl, rfl, Nat.le_refl _, fun _ _ _ => rfl⟩)
  exact ⟨rfl, .tuple #[], by simp [results, Try.results48, go_sem], rfl, ⟨_, hEB, Nat.le_trans hBs (Nat.le_trans hb2.size hG.size), by simpa using BE2.set (i := 0) (.slice aW (out.length + m) kW), hO2.keptG hG hEB⟩, (KeepE.ofB hb2).grown hG, fun g cur t a b c => (hG.block g (Nat.lt_of_lt_of_le a.lt hb2.size) (fun e => c (by cases e; rfl))).trans ((hk2 g a.lt (B8.Own.ne hO a b)).trans a)⟩
set_option maxRecDepth 8000 in
set_option maxHeartbeats 1000000 in
theorem writeRun_any (E B : Nat) (n c : Int) (out : List Int) (w : World) (h1 : 1 ≤ n ∧ n ≤ 255) (hl : out.length ≤ 90000000) (hE : EncB w E B out) :
    Calls Try.prog 50 #[.pointer (some ⟨E, 0, none⟩), .int .i64 n, .int .u8 c] w fun e w' => e = .returned (.tuple #[]) ∧ EncB w' E B (out ++ [n, c]) ∧ KeepE E B w w' ∧ KeepT E w w' := by
  have hElt := hE.lt
  have hb0 : Below w.heap.size w (w.alloc (.cells #[.int .u8 n, .int .u8 c] 5)) := (Below.refl _ _).alloc (Nat.le_refl _) _
  have hE2 := hE.below hb0
  have hR := B8.two_row w n c
  have HW := Lib.hid (write_any E B w.heap.size 0 2 2 [n, c] out _ rfl (by omega) hE2 hR)
  clear hE2 hR
  go_enter Try.func50, Try.ntmps50
  go_wp2_with fail
  refine HW.out.mono ?_
  rintro e w2 ⟨rfl, hE3, hb3, ht3⟩
  first | (go_wp2_with fail) | skip
  exact ⟨rfl, .tuple #[], by simp [results, Try.results50, go_sem], rfl, hE3, (KeepE.of hb0).trans hb3, (KeepT.of hb0).trans ht3⟩
theorem B8.IRow.drop {w : World} {b o : Nat} {ys : List Int} (h : B8.IRow w (some ⟨b, o, none⟩) ys) (n : Nat) : B8.IRow w (some ⟨b, o + n, none⟩) (ys.drop n) := fun i hi => by
  have hi2 : n + i < ys.length := by rw [List.length_drop] at hi; omega
  obtain ⟨b', o', e, hc⟩ := h (n + i) hi2
  cases e
  exact ⟨b, o + n, rfl, by rw [getD_drop0, Nat.add_assoc]; exact hc⟩
theorem rnL_stop (ys : List Int) (n : Nat) (h : n ≤ 255) (h2 : ¬ (n < ys.length ∧ n < 255)) : rnL ys (255 - n) n = n := by
  by_cases g : n = 255
  · subst g; rfl
  · rw [show 255 - n = (254 - n) + 1 by omega, rnL, if_neg (fun q => h2 ⟨q.1, by omega⟩)]
set_option maxRecDepth 8000 in
set_option maxHeartbeats 2000000 in
theorem eachRun_any (E B : Nat) (a : Option Addr) (n cap : Nat) (bs out : List Int) (w : World) (hn : bs.length = n) (hle : n ≤ 1048576) (hc : n ≤ cap) (hol : out.length ≤ 10000000) (h8 : Bys bs) (hE : EncB w E B out) (hr : B8.IRow w a bs) (hlow : ∀ b o, a = some ⟨b, o, none⟩ → 0 < bs.length → b < B ∧ b ≠ E) :
    Calls Try.prog 49 #[.slice a n cap, .func (.func 50) #[.pointer (some ⟨E, 0, none⟩)] #[]] w fun e w' => e = .returned (.tuple #[]) ∧ EncB w' E B (out ++ pk bs) ∧ KeepE E B w w' ∧ KeepT E w w' := by
  subst hn
  have hpl := pk_len _ bs rfl
  have HPL := Lib.hid hpl
  clear hpl
  have HWR := Lib.hid (fun (n c : Int) (D : List Int) (W : World) (q1 : 1 ≤ n ∧ n ≤ 255) (q2 : D.length ≤ 90000000) (q3 : EncB W E B D) => writeRun_any E B n c D W q1 q2 q3)
  go_enter Try.func49, Try.ntmps49
  go_wp2
  go_loopg [0] bs.length (fun m b wr => ∃ (k : Nat) (a' : Option Addr) (c' : Nat) (D ys : List Int), bs.drop k = ys ∧ k ≤ bs.length ∧ m = bs.length - k ∧ b = .slice a' ys.length c' ∧ ys.length ≤ c' ∧ B8.IRow wr a' ys ∧ (∀ b o, a' = some ⟨b, o, none⟩ → 0 < ys.length → b < B ∧ b ≠ E) ∧ EncB wr E B (out ++ D) ∧ D ++ pk ys = pk bs ∧ KeepE E B w wr ∧ KeepT E w wr)
  case atStart => exact ⟨0, a, cap, [], bs, by simp, by omega, by omega, rfl, hc, hr, hlow, by simpa using hE, by simp, KeepE.refl _ _ _, fun _ _ _ a _ _ => a⟩
  case round =>
    obtain ⟨k, a', c', D, ys, hys, hk, hm, rfl, hc', hr', hlow', hE', hD, hbel, htb⟩ := hrel
    have hyl : ys.length = bs.length - k := by rw [← hys, List.length_drop]
    have h8' : Bys ys := by rw [← hys]; exact bys_drop h8 k
    by_cases hlt : k < bs.length
    · have hne : ys ≠ [] := by intro e; rw [e] at hyl; simp at hyl; omega
      have hD2 := hD
      rw [pk_step ys hne] at hD2
      have hr1 := rnA_bnd ys
      have hr2 := rnA_len ys hne
      have hR0 : rnL ys (255 - 1) 1 = rnA ys := rfl
      obtain ⟨R, hR⟩ : ∃ R, rnA ys = R := ⟨_, rfl⟩
      rw [hR] at hD2 hr1 hr2 hR0
      have hDl : D.length ≤ 2097152 := by
        have h1 := congrArg List.length hD2
        simp only [List.length_append, List.length_cons] at h1
        have := HPL.out
        omega
      have HD2 := Lib.hid hD2
      have HYS := Lib.hid hys
      have HH8 := Lib.hid h8'
      have HLOW := Lib.hid hlow'
      have hyp : 0 < ys.length := by omega
      have hypI : (0 : Int) < (ys.length : Int) := by omega
      have hyle : (ys.length : Int) ≤ 1048576 := by omega
      have hyl2 : ys.length ≤ bs.length - k ∧ bs.length - k ≤ ys.length := by omega
      clear hD hD2 hys h8' hlow' hlow h8 hr hE hne hyl
      have HR := Lib.hid hR
      clear hR
      go_wp2_with fail
      go_loopg [4] 254 (fun m2 j wq => ∃ n : Nat, 1 ≤ n ∧ n ≤ ys.length ∧ n ≤ 255 ∧ m2 = 255 - n ∧ j = .int .i64 n ∧ rnL ys (255 - n) n = R ∧ Below wr.heap.size wr wq)
      case atStart => exact ⟨1, by omega, by omega, by omega, by omega, rfl, hR0, Below.refl _ _⟩
      case round =>
        obtain ⟨n, n1, n2, n3, hm2, rfl, hrn, hbq⟩ := hrel
        have hrq := hr'.below hbq
        have n1I : (1 : Int) ≤ (n : Int) := by omega
        have n3I : (n : Int) ≤ 255 := by omega
        have n2I : (n : Int) ≤ (ys.length : Int) := by omega
        obtain ⟨b, o, rfl, hc0⟩ := hrq 0 hyp
        obtain ⟨X, hX⟩ : ∃ X, ys.getD 0 0 = X := ⟨_, rfl⟩
        rw [Nat.add_zero, hX] at hc0
        have HX := Lib.hid hX
        by_cases c1 : n < ys.length ∧ n < 255
        · obtain ⟨_, _, e, hcn⟩ := hrq n c1.1
          cases e
          have c2 : (n : Int) < min (ys.length : Int) 255 := by omega
          have c3 : (n : Int) < (ys.length : Int) := by omega
          have c5 : (n : Int) < 255 := by omega
          obtain ⟨Y, hY⟩ : ∃ Y, ys.getD n 0 = Y := ⟨_, rfl⟩
          rw [hY] at hcn
          have hst : rnL ys (255 - n) n = if n < ys.length ∧ Y = X then rnL ys (255 - (n + 1)) (n + 1) else n := by
            rw [← hY, ← hX, show 255 - n = (255 - (n + 1)) + 1 by omega, rnL]
          rw [hst] at hrn
          clear hX hY hst
          by_cases c4 : Y = X
          · subst c4
            rw [if_pos ⟨c1.1, rfl⟩] at hrn
            have HRN := Lib.hid hrn
            clear hrn
            go_wp2_with fail
            go_quiet (fail)
            go_wp2
            go_roundg (255 - (n + 1))
            case measure => omega
            case rel => exact ⟨n + 1, by omega, by omega, by omega, rfl, by go_num, HRN.out, below_drewN hbq _⟩
          · rw [if_neg (fun h => c4 h.2)] at hrn
            subst hrn
            go_wp2_with fail
            go_quiet (fail)
            have hbv := below_drewN hbq nq
            clear hcn
            clear hbq hc0 hrq
            generalize wr.drewN nq = wv at *
            have hrv := hr'.below hbv
            obtain ⟨_, _, e, hc0⟩ := hrv 0 hyp
            cases e
            rw [Nat.add_zero, HX.out] at hc0
            have hEv := hE'.below hbv
            have HC := Lib.hid (HWR.out (n : Int) X (out ++ D) wv ⟨by omega, by omega⟩ (by rw [List.length_append]; omega) hEv)
            clear hEv
            have hdd : bs.drop (k + n) = ys.drop n := by rw [← HYS.out, List.drop_drop]
            have hlen : (bs.drop (k + n)).length = ys.length - n := by rw [hdd, List.length_drop]
            have HDD := Lib.hid hdd
            have HLEN := Lib.hid hlen
            clear hdd hlen
            have hn2 : ¬ c' = n := by omega
            go_wp2_with fail
            refine HC.out.mono ?_
            rintro e w5 ⟨rfl, hE5, hb5, ht5⟩
            (first | go_end0 | skip)
            have hr5 := hrv.keep HLOW.out hb5
            clear hc0 hrv hr'
            go_wp2_with fail
            go_roundg (bs.length - (k + n))
            case measure => omega
            case rel => exact ⟨k + n, some ⟨b, o + n, none⟩, c' - n, D ++ [(n : Int), X], bs.drop (k + n), rfl, by omega, rfl, by rw [HLEN.out], by rw [HLEN.out]; omega, by rw [HDD.out]; exact hr5.drop n, fun b2 o2 e2 _ => by cases e2; exact HLOW.out b o rfl hyp, by rw [← List.append_assoc]; exact hE5, by rw [← HD2.out, HDD.out, HX.out]; simp, hbel.trans ((KeepE.of hbv).trans hb5), htb.trans ((KeepT.of hbv).trans ht5)⟩
        · have hst := rnL_stop ys n n3 c1
          rw [hst] at hrn
          subst hrn
          have c2 : decide ((n : Int) < min (ys.length : Int) 255) = false := decide_eq_false (by omega)
          clear hst hX
          go_wp2_with fail
          go_quiet (fail)
          have hbv := below_drewN hbq nq
          clear hbq hc0 hrq
          generalize wr.drewN nq = wv at *
          have hrv := hr'.below hbv
          obtain ⟨_, _, e, hc0⟩ := hrv 0 hyp
          cases e
          rw [Nat.add_zero, HX.out] at hc0
          have hEv := hE'.below hbv
          have HC := Lib.hid (HWR.out (n : Int) X (out ++ D) wv ⟨by omega, by omega⟩ (by rw [List.length_append]; omega) hEv)
          clear hEv
          have hdd : bs.drop (k + n) = ys.drop n := by rw [← HYS.out, List.drop_drop]
          have hlen : (bs.drop (k + n)).length = ys.length - n := by rw [hdd, List.length_drop]
          have HDD := Lib.hid hdd
          have HLEN := Lib.hid hlen
          clear hdd hlen
          by_cases hnc : n < c'
          · have hn2 : ¬ c' = n := by omega
            go_wp2_with fail
            refine HC.out.mono ?_
            rintro e w5 ⟨rfl, hE5, hb5, ht5⟩
            (first | go_end0 | skip)
            have hr5 := hrv.keep HLOW.out hb5
            clear hc0 hrv hr'
            go_wp2_with fail
            go_roundg (bs.length - (k + n))
            case measure => omega
            case rel => exact ⟨k + n, some ⟨b, o + n, none⟩, c' - n, D ++ [(n : Int), X], bs.drop (k + n), rfl, by omega, rfl, by rw [HLEN.out], by rw [HLEN.out]; omega, by rw [HDD.out]; exact hr5.drop n, fun b2 o2 e2 _ => by cases e2; exact HLOW.out b o rfl hyp, by rw [← List.append_assoc]; exact hE5, by rw [← HD2.out, HDD.out, HX.out]; simp, hbel.trans ((KeepE.of hbv).trans hb5), htb.trans ((KeepT.of hbv).trans ht5)⟩
          · obtain rfl : n = c' := by omega
            go_wp2_with fail
            refine HC.out.mono ?_
            rintro e w5 ⟨rfl, hE5, hb5, ht5⟩
            (first | go_end0 | skip)
            have hr5 := hrv.keep HLOW.out hb5
            clear hc0 hrv hr'
            go_wp2_with fail
            go_roundg (bs.length - (k + n))
            case measure => omega
            case rel => exact ⟨k + n, some ⟨b, o, none⟩, 0, D ++ [(n : Int), X], bs.drop (k + n), rfl, by omega, rfl, by rw [HLEN.out, show ys.length - n = 0 by omega], by rw [HLEN.out]; omega, by rw [HDD.out]; exact fun i hi => by (rw [List.length_drop] at hi; omega), fun b2 o2 e2 _ => by cases e2; exact HLOW.out b o rfl hyp, by rw [← List.append_assoc]; exact hE5, by rw [← HD2.out, HDD.out, HX.out]; simp, hbel.trans ((KeepE.of hbv).trans hb5), htb.trans ((KeepT.of hbv).trans ht5)⟩
    · obtain rfl : k = bs.length := by omega
      have hys0 : ys = [] := List.eq_nil_of_length_eq_zero (by omega)
      subst hys0
      rw [pk_nil, List.append_nil] at hD
      subst hD
      clear hyl
      go_wp2_with fail
      exact ⟨rfl, .tuple #[], by simp [results, Try.results49, go_sem], rfl, hE', hbel, htb⟩
end Go.Proofs.Ytgohipfaojiilaa
