/- Contracts of chapter 3: counts in bits, copies and comparing of rows. -/
import Derived.Test.YtkddeoifdecniaaCibM
import Derived.Lib.SliceRun
import Derived.BigQuiet
import Derived.Deep.QuietTactic
namespace Go.Proofs.Ytkddeoifdecniaa
open Go.ChangeShapes Go.WideShapes Go.ChangeAt Go.RowKit
set_option linter.unusedVariables false
set_option linter.unusedSimpArgs false

theorem Own.rowCap {w : World} {base : Nat} {v : Value} {xs : List Int} (h : Own w base v xs) (h0 : 0 < xs.length) : ∃ g k, v = .slice (some ⟨g, 0, none⟩) xs.length k ∧ base ≤ g ∧ xs.length ≤ k ∧ k ≤ maxLen ∧ Row w g xs := by
  obtain ⟨g, k, hv, hg, r⟩ := h.row h0
  subst hv
  rcases h.2 with ⟨h1, h2⟩ | ⟨g', cap, cur, h1, _, _, h3, h4, _⟩
  · simp at h1
  · simp at h1
    obtain ⟨_, rfl⟩ := h1
    exact ⟨g, k, rfl, hg, h3, h4, r⟩
theorem Own.formCap {w : World} {base : Nat} {v : Value} {xs : List Int} (h : Own w base v xs) : ∃ a k, v = .slice a xs.length k ∧ xs.length ≤ k ∧ k ≤ maxLen := by
  rcases h.2 with ⟨h1, h2⟩ | ⟨g, cap, cur, h1, _, _, h3, h4, _⟩
  · exact ⟨none, 0, by rw [h1, h2], by omega, by unfold maxLen; omega⟩
  · exact ⟨some ⟨g, 0, none⟩, cap, h1, h3, h4⟩
set_option maxHeartbeats 1000000 in
theorem countsInBits_any (a : Option Addr) (n cap : Nat) (bs : List Int) (w : World) (hn : bs.length = n) (hle : n ≤ 1048000) (hr : IRow w a bs) :
    Calls Try.prog 105 #[.slice a n cap] w (OwnGot (cib 0 bs) w) := by
  subst hn
  obtain ⟨out, hout⟩ : ∃ out, cib 0 bs = out := ⟨_, rfl⟩
  rw [hout]
  have HOUT := Lib.hid hout
  clear hout
  go_enter Try.func105, Try.ntmps105
  go_wp2_with fail
  go_loopg [3, 4, 9] bs.length (fun m q o i wr => ∃ (k n : Nat) (D : List Int), k ≤ bs.length ∧ m = bs.length - k ∧ i = .int .i64 k ∧ o = .int .i64 n ∧ n ≤ k ∧ D.length ≤ k ∧ out = D ++ cib n (bs.drop k) ∧ Own wr w.heap.size q D ∧ Below w.heap.size w wr)
  case atStart => exact ⟨0, 0, [], by omega, by omega, rfl, rfl, by omega, by simp, by simpa using HOUT.out.symm, Own.nil _ _, Below.refl _ _⟩
  case round =>
    obtain ⟨k, n, D, hk, hm, rfl, rfl, hnk, hDk, hout, hO, hbel⟩ := hrel
    by_cases hlt : k < bs.length
    · have hlt' : (k : Int) < (bs.length : Int) := by omega
      have hk0 : (0 : Int) ≤ (k : Int) := by omega
      obtain ⟨b, o, rfl, hc⟩ := hr.below hbel k hlt
      have hst := (cib_step n bs k hlt).1
      obtain ⟨v, hv⟩ : ∃ v, bs.getD k 0 = v := ⟨_, rfl⟩
      rw [hv] at hc hst
      have hnb : (n : Int) ≤ 1048000 := by omega
      have hl : D.length ≤ 1048576 := by omega
      have hbz := hbel.size
      have HL := Lib.hid hl
      have HM := Lib.hid hm
      by_cases h1 : v = 1
      · rw [if_pos h1] at hst
        rw [hst] at hout
        have HO := Lib.hid hout
        have h1' : (v == 1) = true := by rw [beq_iff_eq]; exact h1
        clear hst hv hout hm hl h1
        go_wp2_with fail
        go_roundg (bs.length - (k + 1))
        case measure => have := HM.out; omega
        case rel => exact ⟨k + 1, n + 1, D, by omega, rfl, by go_num, by go_num, by omega, by omega, HO.out, hO, hbel⟩
      · rw [if_neg h1] at hst
        rw [hst] at hout
        have HO := Lib.hid hout
        have h1' : (v == 1) = false := by rw [beq_eq_false_iff_ne]; exact h1
        clear hst hv hout hm hl h1
        go_wp2_with (at_builtin; refine wp_push rfl (.tmp 17) (.tmp 19) rfl w.heap.size _ D rfl hO (n : Int) rfl HL.out hbz ?_; intro v2 w2 hO2 hb2)
        go_roundg (bs.length - (k + 1))
        case measure => have := HM.out; omega
        case rel => exact ⟨k + 1, 0, D ++ [(n : Int)], by omega, rfl, by go_num, rfl, by omega, by simp; omega, by rw [HO.out, List.append_assoc]; rfl, hO2, hbel.trans hb2⟩
    · obtain rfl : k = bs.length := by omega
      have hlt' : ¬ ((bs.length : Int) < (bs.length : Int)) := by omega
      have ho : out = D := by rw [hout]; simp [cib]
      subst ho
      clear hout
      go_wp2
      go_ret
      exact ⟨_, rfl, hO, hbel⟩
/-- Bits, as a bool. -/
def binB (bs : List Int) : Bool := bs.all fun b => decide (b = 0) || decide (b = 1)
theorem binB_iff {bs : List Int} : binB bs = true ↔ Bin bs := by simp [binB, Bin]
set_option maxHeartbeats 1000000 in
theorem hasOnlyBits_any (a : Option Addr) (n cap : Nat) (bs : List Int) (w : World) (hn : bs.length = n) (hle : n ≤ 1048576) (hr : IRow w a bs) :
    Calls Try.prog 81 #[.slice a n cap] w fun e w' => e = .returned (.bool (binB bs)) ∧ w = w' := by
  subst hn
  obtain ⟨R, hR⟩ : ∃ R, binB bs = R := ⟨_, rfl⟩
  rw [hR]
  have HR := Lib.hid hR
  clear hR
  go_enter Try.func81, Try.ntmps81
  go_wp2_with fail
  go_loopg [7] bs.length (fun m i wr => w = wr ∧ ∃ k : Nat, k ≤ bs.length ∧ m = bs.length - k ∧ i = .int .i64 k ∧ ∀ j, j < k → bs.getD j 0 = 0 ∨ bs.getD j 0 = 1)
  case atStart => exact ⟨rfl, 0, by omega, by omega, rfl, fun j hj => by omega⟩
  case round =>
    obtain ⟨rfl, k, hk, hm, rfl, hall⟩ := hrel
    have HA := Lib.hid hall
    clear hall
    by_cases hlt : k < bs.length
    · have hlt' : (k : Int) < (bs.length : Int) := by omega
      have hk0 : (0 : Int) ≤ (k : Int) := by omega
      obtain ⟨b, o, rfl, hc⟩ := hr k hlt
      obtain ⟨v, hv⟩ : ∃ v, bs.getD k 0 = v := ⟨_, rfl⟩
      rw [hv] at hc
      have HV := Lib.hid hv
      clear hv
      have next : v = 0 ∨ v = 1 → ∀ j, j < k + 1 → bs.getD j 0 = 0 ∨ bs.getD j 0 = 1 := fun hv j hj => by
        by_cases e : j = k
        · subst e; rw [HV.out]; exact hv
        · exact HA.out j (by omega)
      have HNX := Lib.hid next
      clear next
      by_cases h0 : v = 0
      · subst h0
        go_wp2_with fail
        go_roundg (bs.length - (k + 1))
        case measure => omega
        case rel => exact ⟨rfl, k + 1, by omega, rfl, by go_num, HNX.out (by simp)⟩
      · by_cases h1 : v = 1
        · subst h1
          go_wp2_with fail
          go_roundg (bs.length - (k + 1))
          case measure => omega
          case rel => exact ⟨rfl, k + 1, by omega, rfl, by go_num, HNX.out (by simp)⟩
        · have hno : R = false := by
            rw [← HR.out, binB, List.all_eq_false]
            exact ⟨v, HV.out ▸ getD_mem hlt, by simp [h0, h1]⟩
          subst hno
          have h0' : (v != 0) = true := by rw [bne_iff_ne]; exact h0
          have h1' : (v != 1) = true := by rw [bne_iff_ne]; exact h1
          clear h0 h1
          go_wp2_with fail
          go_ret
          exact ⟨rfl, rfl⟩
    · obtain rfl : k = bs.length := by omega
      have hlt' : ¬ ((bs.length : Int) < (bs.length : Int)) := by omega
      have hyes : R = true := by
        rw [← HR.out, binB_iff]
        intro x hx
        obtain ⟨j, hj, rfl⟩ := List.mem_iff_getElem.1 hx
        have := HA.out j hj
        rwa [show bs.getD j 0 = bs[j] by simp [hj]] at this
      subst hyes
      go_wp2
      go_ret
      exact ⟨rfl, rfl⟩
set_option maxRecDepth 8000 in
set_option maxHeartbeats 1000000 in
theorem clone_any (b o n cap : Nat) (xs : List Int) (w : World) (hn : xs.length = n) (h0 : 0 < n) (hle : n ≤ 1048576) (hr : IRow w (some ⟨b, o, none⟩) xs) :
    Calls Try.prog 106 #[.slice (some ⟨b, o, none⟩) n cap] w (RowGot xs w) := by
  obtain ⟨i0, hi, hz0, hz1, hz2⟩ := info_parts infoI64
  have hrow : ∀ (W : World), IRow W (some ⟨b, o, none⟩) xs → ∀ (j : Nat) (u : Value), (ints xs)[j]? = some u → W.cell? ((⟨b, o, none⟩ : Addr).add j) = some u := by
    intro W hW j u hj
    obtain ⟨hlt, rfl⟩ := List.getElem?_eq_some_iff.1 hj
    have hlt2 : j < xs.length := by simpa [ints] using hlt
    obtain ⟨b', o', e, hc⟩ := hW j hlt2
    simp at e
    obtain ⟨rfl, rfl⟩ := e
    rw [show (⟨b, o, none⟩ : Addr).add j = ⟨b, o + j, none⟩ from by unfold Addr.add; split <;> simp_all, hc]
    simp [ints, hlt2]
  have hint : (ints xs).length = n * 1 := by simp [ints, hn]
  have HRW := Lib.hid hrow
  have HIN := Lib.hid hint
  have HR := Lib.hid hr
  have HX := Lib.hid hn
  clear hrow hint hr hn
  have hnil : ∀ W : World, (binOp .eql 26 (.slice (some ⟨b, o, none⟩) n cap) (.slice none 0 0)).run Try.prog W = .ok (.bool false) W := fun W => Lib.run_eql_slice_nil W _ _ _ _ _ _ _ Try.underlying26
  go_enter Try.func106, Try.ntmps106
  go_wp2_with (at_builtin; (refine wpList_append_grows _ rfl (.tmp 5) (.tmp 6) 26 rfl 2 i0 (.int .i64 0) 1 8 Try.underlying26 hi hz0 hz1 hz2 rfl (by decide) _ 0 0 [] rfl (by simp) rfl (by simp) ⟨b, o, none⟩ n cap (ints xs) rfl HIN.out (HRW.out _ (HR.out.alloc _)) ints_one (by omega) (by unfold maxLen; omega) (by omega) ?_))
  intro v' w' hown hgrow
  have ho : Own w' (w.alloc (.cells #[] 2)).heap.size v' xs := by
    show w'.ownsRow _ _ 1 v' xs.length (ints xs)
    rw [HX.out]
    simpa using hown
  obtain ⟨g, k, rfl, hg, r⟩ := (ho.mono (show w.heap.size ≤ _ by simp)).row (by have := HX.out; omega)
  have hb : Below w.heap.size w w' := from_alloc ⟨hgrow.os, hgrow.tape, hgrow.output, hgrow.size, fun k hk => hgrow.block k hk (by simp)⟩
  clear hown hgrow ho
  go_wp2
  go_ret
  exact ⟨g, k, rfl, hg, r, hb⟩
set_option maxHeartbeats 1000000 in
theorem equal_any (a b : Option Addr) (n m c1 c2 : Nat) (xs ys : List Int) (w : World) (hn : xs.length = n) (hm : ys.length = m) (hle : n ≤ 1048576) (hle2 : m ≤ 1048576) (ha : IRow w a xs) (hb : IRow w b ys) :
    Calls Try.prog 82 #[.slice a n c1, .slice b m c2] w fun e w' => e = .returned (.bool (decide (xs = ys))) ∧ Below w.heap.size w w' := by
  subst hn hm
  obtain ⟨R, hR⟩ : ∃ R, decide (xs = ys) = R := ⟨_, rfl⟩
  rw [hR]
  have HR := Lib.hid hR
  clear hR
  by_cases hl : xs.length = ys.length
  · have hln : ((xs.length : Int) != (ys.length : Int)) = false := by rw [bne_eq_false_iff_eq]; omega
    have HLN := Lib.hid hl
    clear hl
    go_enter Try.func82, Try.ntmps82
    go_wp2_with fail
    go_loopg [13] xs.length (fun m i wr => ∃ k : Nat, k ≤ xs.length ∧ m = xs.length - k ∧ i = .int .i64 k ∧ (∀ j, j < k → xs.getD j 0 = ys.getD j 0) ∧ Below w.heap.size w wr)
    case atStart => exact ⟨0, by omega, by omega, rfl, fun j hj => by omega, Below.refl _ _⟩
    case round =>
      obtain ⟨k, hk, hm, rfl, hall, hbel⟩ := hrel
      have HA := Lib.hid hall
      have HM := Lib.hid hm
      clear hall hm
      by_cases hlt : k < xs.length
      · have hlt' : (k : Int) < (xs.length : Int) := by omega
        have hlt2 : (k : Int) < (ys.length : Int) := by have := HLN.out; omega
        have hk0 : (0 : Int) ≤ (k : Int) := by omega
        obtain ⟨b1, o1, rfl, hc1⟩ := ha.below hbel k hlt
        obtain ⟨b2, o2, rfl, hc2⟩ := hb.below hbel k (by omega)
        obtain ⟨u, hu⟩ : ∃ u, xs.getD k 0 = u := ⟨_, rfl⟩
        obtain ⟨v, hv⟩ : ∃ v, ys.getD k 0 = v := ⟨_, rfl⟩
        rw [hu] at hc1
        rw [hv] at hc2
        have HU := Lib.hid hu
        have HV := Lib.hid hv
        clear hu hv
        by_cases huv : u = v
        · subst huv
          go_wp2_with fail
          go_quiet (fail)
          go_wp2
          go_roundg (xs.length - (k + 1))
          case measure => have := HM.out; omega
          case rel =>
            refine ⟨k + 1, by omega, rfl, by go_num, fun j hj => ?_, below_drewN hbel _⟩
            by_cases e : j = k
            · subst e; rw [HU.out, HV.out]
            · exact HA.out j (by omega)
        · have hne : (u != v) = true := by rw [bne_iff_ne]; exact huv
          have hno : R = false := by
            rw [← HR.out, decide_eq_false_iff_not]
            intro e
            subst e
            exact huv (HU.out.symm.trans HV.out)
          subst hno
          clear huv
          go_wp2_with fail
          go_quiet (fail)
          go_wp2
          go_ret
          exact ⟨rfl, below_drewN hbel _⟩
      · obtain rfl : k = xs.length := by omega
        have hlt' : ¬ ((xs.length : Int) < (xs.length : Int)) := by omega
        have hyes : R = true := by
          rw [← HR.out, decide_eq_true_iff]
          apply List.ext_getElem HLN.out
          intro j h1 h2
          have := HA.out j h1
          rwa [show xs.getD j 0 = xs[j] by simp [h1], show ys.getD j 0 = ys[j] by simp [h2]] at this
        subst hyes
        go_wp2
        go_ret
        exact ⟨rfl, hbel⟩
  · have hln : ((xs.length : Int) != (ys.length : Int)) = true := by rw [bne_iff_ne]; omega
    have hno : R = false := by
      rw [← HR.out, decide_eq_false_iff_not]
      intro e
      exact hl (by rw [e])
    subst hno
    clear hl
    go_enter Try.func82, Try.ntmps82
    go_wp2_with fail
    go_ret
    exact ⟨rfl, Below.refl _ _⟩
end Go.Proofs.Ytkddeoifdecniaa
