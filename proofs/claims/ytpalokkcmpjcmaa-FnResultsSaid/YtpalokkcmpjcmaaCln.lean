/- Contracts of the library's copy and comparison of rows of numbers. -/
import Derived.Test.YtpalokkcmpjcmaaOwnS
import Derived.Test.YtpalokkcmpjcmaaL02a
import Derived.Lib.SliceRun
import Derived.BigQuiet
import Derived.Deep.QuietTactic
namespace Go.Proofs.Ytpalokkcmpjcmaa
open Go.ChangeShapes Go.WideShapes Go.ChangeAt Go.RowKit
set_option linter.unusedVariables false
set_option linter.unusedSimpArgs false
set_option maxRecDepth 4000

theorem ints_one {xs : List Int} : ∀ v ∈ ints xs, v.oneCell' = true := fun v hv => by
  obtain ⟨x, _, rfl⟩ := List.mem_map.1 hv
  rfl
/-- A row of the call's own has been made and is handed back. -/
def RowGot (xs : List Int) (w : World) (e : Ending) (w' : World) : Prop :=
  ∃ g k, e = .returned (.slice (some ⟨g, 0, none⟩) xs.length k) ∧ w.heap.size ≤ g ∧ Row w' g xs ∧ Below w.heap.size w w'
theorem Own.row {w : World} {base : Nat} {v : Value} {xs : List Int} (h : Own w base v xs) (h0 : 0 < xs.length) : ∃ g k, v = .slice (some ⟨g, 0, none⟩) xs.length k ∧ base ≤ g ∧ Row w g xs := by
  obtain ⟨a, k, rfl⟩ := h.form
  rcases h.osl with ⟨rfl, rfl⟩ | ⟨g, rfl, h1, h2, r⟩
  · simp at h0
  · exact ⟨g, k, rfl, h1, r⟩
set_option maxRecDepth 8000 in
set_option maxHeartbeats 1000000 in
theorem clone_any (b o n cap : Nat) (xs : List Int) (w : World) (hn : xs.length = n) (h0 : 0 < n) (hle : n ≤ 1048576) (hr : IRow w (some ⟨b, o, none⟩) xs) :
    Calls Try.prog 73 #[.slice (some ⟨b, o, none⟩) n cap] w (RowGot xs w) := by
  obtain ⟨i0, hi, hz0, hz1, hz2⟩ := info_parts infoI64
  have hrow : ∀ (W : World), IRow W (some ⟨b, o, none⟩) xs → ∀ (j : Nat) (u : Value), (ints xs)[j]? = some u → W.cell? ((⟨b, o, none⟩ : Addr).add j) = some u := by
    intro W hW j u hj
    obtain ⟨hlt, rfl⟩ := List.getElem?_eq_some_iff.1 hj
    have hlt2 : j < xs.length := by simpa [ints] using hlt
    obtain ⟨b', o', e, hc⟩ := hW j hlt2
    simp at e
    obtain ⟨rfl, rfl⟩ := e
    rw [show (⟨b, o, none⟩ : Addr).add j = ⟨b, o + j, none⟩ from by unfold Addr.add; split <;> simp_all, hc]
    simp [ints, hlt2]
  have hint : (ints xs).length = n * 1 := by simp [ints, hn]
  have HRW := Lib.hid hrow
  have HIN := Lib.hid hint
  have HR := Lib.hid hr
  have HX := Lib.hid hn
  clear hrow hint hr hn
  have hnil : ∀ W : World, (binOp .eql 26 (.slice (some ⟨b, o, none⟩) n cap) (.slice none 0 0)).run Try.prog W = .ok (.bool false) W := fun W => Lib.run_eql_slice_nil W _ _ _ _ _ _ _ Try.underlying26
  go_enter Try.func73, Try.ntmps73
  go_wp2_with (at_builtin; (refine wpList_append_grows _ rfl (.tmp 5) (.tmp 6) 26 rfl 2 i0 (.int .i64 0) 1 8 Try.underlying26 hi hz0 hz1 hz2 rfl (by decide) _ 0 0 [] rfl (by simp) rfl (by simp) ⟨b, o, none⟩ n cap (ints xs) rfl HIN.out (HRW.out _ (HR.out.alloc _)) ints_one (by omega) (by unfold maxLen; omega) (by omega) ?_))
  intro v' w' hown hgrow
  have ho : Own w' (w.alloc (.cells #[] 2)).heap.size v' xs := by
    show w'.ownsRow _ _ 1 v' xs.length (ints xs)
    rw [HX.out]
    simpa using hown
  obtain ⟨g, k, rfl, hg, r⟩ := (ho.mono (show w.heap.size ≤ _ by simp)).row (by have := HX.out; omega)
  have hb : Below w.heap.size w w' := from_alloc ⟨hgrow.os, hgrow.tape, hgrow.output, hgrow.size, fun k hk => hgrow.block k hk (by simp)⟩
  clear hown hgrow ho
  go_wp2
  go_ret
  exact ⟨g, k, rfl, hg, r, hb⟩
set_option maxHeartbeats 1000000 in
theorem equal_any (a b : Option Addr) (n m c1 c2 : Nat) (xs ys : List Int) (w : World) (hn : xs.length = n) (hm : ys.length = m) (hle : n ≤ 1048576) (hle2 : m ≤ 1048576) (ha : IRow w a xs) (hb : IRow w b ys) :
    Calls Try.prog 65 #[.slice a n c1, .slice b m c2] w fun e w' => e = .returned (.bool (decide (xs = ys))) ∧ Below w.heap.size w w' := by
  subst hn hm
  obtain ⟨R, hR⟩ : ∃ R, decide (xs = ys) = R := ⟨_, rfl⟩
  rw [hR]
  have HR := Lib.hid hR
  clear hR
  by_cases hl : xs.length = ys.length
  · have hln : ((xs.length : Int) != (ys.length : Int)) = false := by rw [bne_eq_false_iff_eq]; omega
    have HLN := Lib.hid hl
    clear hl
    go_enter Try.func65, Try.ntmps65
    go_wp2_with fail
    go_loopg [13] xs.length (fun m i wr => ∃ k : Nat, k ≤ xs.length ∧ m = xs.length - k ∧ i = .int .i64 k ∧ (∀ j, j < k → xs.getD j 0 = ys.getD j 0) ∧ Below w.heap.size w wr)
    case atStart => exact ⟨0, by omega, by omega, rfl, fun j hj => by omega, Below.refl _ _⟩
    case round =>
      obtain ⟨k, hk, hm, rfl, hall, hbel⟩ := hrel
      have HA := Lib.hid hall
      have HM := Lib.hid hm
      clear hall hm
      by_cases hlt : k < xs.length
      · have hlt' : (k : Int) < (xs.length : Int) := by omega
        have hlt2 : (k : Int) < (ys.length : Int) := by have := HLN.out; omega
        have hk0 : (0 : Int) ≤ (k : Int) := by omega
        obtain ⟨b1, o1, rfl, hc1⟩ := ha.below hbel k hlt
        obtain ⟨b2, o2, rfl, hc2⟩ := hb.below hbel k (by omega)
        obtain ⟨u, hu⟩ : ∃ u, xs.getD k 0 = u := ⟨_, rfl⟩
        obtain ⟨v, hv⟩ : ∃ v, ys.getD k 0 = v := ⟨_, rfl⟩
        rw [hu] at hc1
        rw [hv] at hc2
        have HU := Lib.hid hu
        have HV := Lib.hid hv
        clear hu hv
        by_cases huv : u = v
        · subst huv
          go_wp2_with fail
          go_quiet (fail)
          go_wp2
          go_roundg (xs.length - (k + 1))
          case measure => have := HM.out; omega
          case rel =>
            refine ⟨k + 1, by omega, rfl, by go_num, fun j hj => ?_, below_drewN hbel _⟩
            by_cases e : j = k
            · subst e; rw [HU.out, HV.out]
            · exact HA.out j (by omega)
        · have hne : (u != v) = true := by rw [bne_iff_ne]; exact huv
          have hno : R = false := by
            rw [← HR.out, decide_eq_false_iff_not]
            intro e
            subst e
            exact huv (HU.out.symm.trans HV.out)
          subst hno
          clear huv
          go_wp2_with fail
          go_quiet (fail)
          go_wp2
          go_ret
          exact ⟨rfl, below_drewN hbel _⟩
      · obtain rfl : k = xs.length := by omega
        have hlt' : ¬ ((xs.length : Int) < (xs.length : Int)) := by omega
        have hyes : R = true := by
          rw [← HR.out, decide_eq_true_iff]
          apply List.ext_getElem HLN.out
          intro j h1 h2
          have := HA.out j h1
          rwa [show xs.getD j 0 = xs[j] by simp [h1], show ys.getD j 0 = ys[j] by simp [h2]] at this
        subst hyes
        go_wp2
        go_ret
        exact ⟨rfl, hbel⟩
  · have hln : ((xs.length : Int) != (ys.length : Int)) = true := by rw [bne_iff_ne]; omega
    have hno : R = false := by
      rw [← HR.out, decide_eq_false_iff_not]
      intro e
      exact hl (by rw [e])
    subst hno
    clear hl
    go_enter Try.func65, Try.ntmps65
    go_wp2_with fail
    go_ret
    exact ⟨rfl, Below.refl _ _⟩
end Go.Proofs.Ytpalokkcmpjcmaa
