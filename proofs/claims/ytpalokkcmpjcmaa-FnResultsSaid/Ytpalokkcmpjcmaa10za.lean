/- Contracts of chapter 10: the model's order of positions and its insertion into a list. -/
import Derived.Test.Ytpalokkcmpjcmaa10s
import Derived.Test.Ytpalokkcmpjcmaa10x
namespace Go.Proofs.Ytpalokkcmpjcmaa
open Go.ChangeShapes Go.WideShapes Go.ChangeAt Go.RowKit
set_option linter.unusedVariables false
set_option linter.unusedSimpArgs false
set_option maxRecDepth 4000

set_option maxHeartbeats 1000000 in
theorem l10Before_any (a b : Option Addr) (n ca cb : Nat) (xs ys : List Int) (w : World) (hx : xs.length = n) (hy : ys.length = n) (hle : n ≤ 1048576) (ra : IRow w a xs) (rb : IRow w b ys) :
    Calls Try.prog 67 #[.slice a n ca, .slice b n cb] w fun e w' => e = .returned (.bool (ltP xs ys)) ∧ Below w.heap.size w w' := by
  obtain ⟨R, hR⟩ : ∃ R, ltP xs ys = R := ⟨_, rfl⟩
  rw [hR]
  have h0 : decide (lexC (xs.reverse.drop 0) (ys.reverse.drop 0) < 0) = R := hR
  have HX := Lib.hid hx
  have HY := Lib.hid hy
  have n0 : (n : Int) ≤ 1048576 := by omega
  clear hR hx hy
  go_enter Try.func67, Try.ntmps67
  go_wp2_with fail
  go_loopg [5] (n + 1) (fun m i wr => ∃ (W : World) (j : Nat), W = wr ∧ j ≤ n ∧ m = n + 1 - j ∧ i = .int .i64 ((n : Int) - 1 - j) ∧ decide (lexC (xs.reverse.drop j) (ys.reverse.drop j) < 0) = R ∧ Below w.heap.size w W)
  case atStart => exact ⟨w, 0, rfl, by omega, by omega, by go_num, h0, Below.refl _ _⟩
  case round =>
    clear h0
    obtain ⟨W, j, hW, hj, hm, rfl, hl, hb⟩ := hrel
    subst hW
    by_cases hlt : j < n
    · obtain ⟨I, hI⟩ : ∃ I, n - 1 - j = I := ⟨_, rfl⟩
      have ei : (n : Int) - 1 - (j : Int) = (I : Int) := by omega
      rw [rev_drop xs j n HX.out hlt, rev_drop ys j n HY.out hlt, lexC_cons, hI] at hl
      obtain ⟨b1, o1, rfl, hc1⟩ := (ra.below hb) I (by have := HX.out; omega)
      obtain ⟨b2, o2, rfl, hc2⟩ := (rb.below hb) I (by have := HY.out; omega)
      obtain ⟨x, hxe⟩ : ∃ x, xs.getD I 0 = x := ⟨_, rfl⟩
      obtain ⟨y, hye⟩ : ∃ y, ys.getD I 0 = y := ⟨_, rfl⟩
      rw [hxe, hye] at hl
      rw [hxe] at hc1
      rw [hye] at hc2
      rw [ei]
      have i0 : (0 : Int) ≤ (I : Int) := by omega
      have i1 : (I : Int) < (n : Int) := by omega
      have HI := Lib.hid ei
      clear hI hxe hye ei hj
      by_cases q : x = y
      · have f0 : (x != y) = false := by rw [q]; simp
        rw [if_neg (by omega), if_neg (by omega)] at hl
        have HL := Lib.hid hl
        clear hl q
        go_wp2_with fail
        go_quiet (fail)
        go_wp2
        go_roundg (n + 1 - (j + 1))
        case measure => omega
        case rel => exact ⟨_, j + 1, rfl, by omega, by omega, by (have := HI.out); go_num, HL.out, below_drewN hb _⟩
      · have f0 : (x != y) = true := by rw [bne_iff_ne]; exact q
        have hR : decide (x < y) = R := by
          rw [← hl]
          by_cases c1 : x < y
          · rw [if_pos c1]; simp [c1]
          · rw [if_neg c1, if_pos (by omega)]; simp [c1]
        have HR := Lib.hid hR
        clear hl q hR
        go_wp2_with fail
        go_quiet (fail)
        go_wp2_with fail
        go_quiet (fail)
        go_wp2
        go_ret
        exact ⟨by rw [← HR.out]; rfl, below_drewN (below_drewN hb _) _⟩
    · obtain rfl : j = n := by omega
      have hR : R = false := by
        rw [← hl, List.drop_eq_nil_of_le (by rw [List.length_reverse, HX.out]; exact Nat.le_refl _), List.drop_eq_nil_of_le (by rw [List.length_reverse, HY.out]; exact Nat.le_refl _)]
        rfl
      have hm1 : (j : Int) - 1 - (j : Int) = -1 := by omega
      rw [hm1]
      subst hR
      go_wp2
      go_ret
      exact ⟨rfl, hb⟩
/-- Positions whose slices have room for them. -/
def QCap (l : List PQ) : Prop := ∀ x ∈ l, x.2.2.length ≤ x.2.1
/-- A list of positions has been made or is handed back. -/
def RowsAt (lo : Nat) (L : List (List Int)) (w : World) (e : Ending) (w' : World) : Prop :=
  ∃ g k l, e = .returned (.slice (some ⟨g, 0, none⟩) l.length k) ∧ l.length ≤ k ∧ QRow w' g l ∧ nmQ l = L ∧ QAll lo w'.heap.size w' l ∧ QCap l ∧ Below w.heap.size w w'
theorem ownQ_start (w : World) : OwnQ (w.alloc (.cells #[] 26)) w.heap.size (.slice (some ⟨w.heap.size, 0, none⟩) 0 0) [] :=
  ⟨rfl, .inr ⟨w.heap.size, 0, #[], rfl, Nat.le_refl _, Blk.new w #[] _, Nat.le_refl _, by unfold maxLen; omega, rfl, rfl⟩⟩
theorem ownQ_some {w : World} {base : Nat} {v : Value} {l : List PQ} (h : OwnQ w base v l) (hl : 0 < l.length) : ∃ g k, v = .slice (some ⟨g, 0, none⟩) l.length k ∧ l.length ≤ k := by
  obtain ⟨_, ⟨h1, h2⟩ | ⟨g', cap, cur, hv, _, _, hc, _⟩⟩ := h
  · omega
  · exact ⟨g', cap, hv, hc⟩
theorem atP_here {l : List (List Int)} {p x : List Int} (e : l[atP l p]? = some x) : ltP x p = false := by
  induction l with
  | nil => simp at e
  | cons y l ih =>
    rw [atP] at e
    split at e
    · exact ih (by simpa using e)
    · rename_i q
      simp at e
      subst e
      simpa using q
set_option maxRecDepth 8000 in
set_option maxHeartbeats 2000000 in
theorem l10Put_any (lo g k n : Nat) (l : List PQ) (u : PQ) (w : World) (hk : l.length ≤ k) (hl : l.length < 1048576) (hn : n ≤ 1048576) (hQ : QRow w g l) (hA : QAll lo w.heap.size w l) (hU : QAt lo w.heap.size w u) (hln : ∀ x ∈ l, x.2.2.length = n) (hun : u.2.2.length = n) (hcl : QCap l) (hcu : u.2.2.length ≤ u.2.1) :
    Calls Try.prog 54 #[.slice (some ⟨g, 0, none⟩) l.length k, pqV u] w (RowsAt lo (putP (nmQ l) u.2.2) w) := by
  obtain ⟨gu, ku, us⟩ := u
  dsimp only at hU hun hcu
  subst hun
  obtain ⟨N, hN⟩ : ∃ N, l.length = N := ⟨_, rfl⟩
  obtain ⟨K, hK⟩ : ∃ K, atP (nmQ l) us = K := ⟨_, rfl⟩
  have hKN : K ≤ N := by
    have := atP_le (nmQ l) us
    rw [hK, List.length_map, hN] at this
    exact this
  have hput := putP_out (nmQ l) us
  rw [hK] at hput
  have hbef : ∀ j x, j < K → l[j]? = some x → ltP x.2.2 us = true := fun j x hj e => atP_before (nmQ l) us j x.2.2 (by rw [hK]; exact hj) (by rw [List.getElem?_map, e]; rfl)
  have hher : ∀ x, l[K]? = some x → ltP x.2.2 us = false := fun x e => atP_here (l := nmQ l) (p := us) (x := x.2.2) (by rw [hK, List.getElem?_map, e]; rfl)
  have hLB := fun (gx kx gy ky : Nat) (xs ys : List Int) (W : World) (h1 : xs.length = us.length) (h2 : ys.length = us.length) (rx : Row W gx xs) (ry : Row W gy ys) => l10Before_any (some ⟨gx, 0, none⟩) (some ⟨gy, 0, none⟩) us.length kx ky xs ys W h1 h2 hn rx.irow ry.irow
  obtain ⟨R, hR⟩ : ∃ R, putP (nmQ l) us = R := ⟨_, rfl⟩
  rw [hR] at hput
  show Calls Try.prog 54 #[.slice (some ⟨g, 0, none⟩) l.length k, .slice (some ⟨gu, 0, none⟩) us.length ku] w (RowsAt lo (putP (nmQ l) us) w)
  rw [hR]
  have HPUT := Lib.hid hput
  have HBEF := Lib.hid hbef
  have HHER := Lib.hid hher
  have HLB := Lib.hid hLB
  have HN := Lib.hid hN
  have HLN := Lib.hid hln
  have HCL := Lib.hid hcl
  have HCU := Lib.hid hcu
  have HA := Lib.hid hA
  have HU := Lib.hid hU
  have m0 : (N : Int) < 1048576 := by omega
  have m1 : (N : Int) ≤ (k : Int) := by omega
  have m2 : (K : Int) ≤ (N : Int) := by omega
  have m3 : (0 : Int) ≤ (K : Int) := by omega
  have m4 : (K : Int) ≤ (k : Int) := by omega
  rw [hN] at hk hl ⊢
  have hglt := hQ.lt
  clear hcl hcu hput hbef hher hLB hN hln hA hU hK hR
  have NEW : ∀ (W : World), Below w.heap.size w W → True := fun _ _ => trivial
  clear NEW
  go_enter Try.func54, Try.ntmps54
  go_wp2_with fail
  go_loopg [5] (K + 1) (fun mm iv wr => ∃ (W : World) (i : Nat), W = wr ∧ i ≤ K ∧ mm = K + 1 - i ∧ iv = .int .i64 i ∧ Below w.heap.size w W)
  case atStart => exact ⟨w, 0, rfl, by omega, by omega, by go_num, Below.refl _ _⟩
  case round =>
    obtain ⟨W, i, hW, hi, hmm, rfl, hb⟩ := hrel
    subst hW
    by_cases hlt : i < K
    · have hlt' : (i : Int) < (N : Int) := by omega
      have i0 : (0 : Int) ≤ (i : Int) := by omega
      obtain ⟨⟨gx, kx, xs⟩, hx⟩ : ∃ x, l[i]? = some x := ⟨_, List.getElem?_eq_getElem (by rw [HN.out]; omega)⟩
      have hxm := List.mem_of_getElem? hx
      have hc := QRow.at (hQ.below hb) i _ hx
      have he := fun (W' : World) (h : Below w.heap.size w W') => HLB.out gx kx gu ku xs us W' (HLN.out _ hxm) rfl ((HA.out _ hxm).2.2.below h) (HU.out.2.2.below h)
      rw [HBEF.out i _ hlt hx] at he
      unfold pqV at hc
      dsimp only at hc
      rw [show xs.length = us.length from HLN.out _ hxm] at hc
      have HE := Lib.hid he
      clear hx hxm he
      go_wp2_with (go_at_call 67; refine (HE.out _ hb).mono ?_; rintro e w5 ⟨rfl, hb5⟩)
      go_roundg (K + 1 - (i + 1))
      case measure => omega
      case rel => exact ⟨w5, i + 1, rfl, by omega, by omega, by go_num, chain hb hb5⟩
    · obtain rfl : i = K := by omega
      by_cases hKl : i < N
      · have hlt' : (i : Int) < (N : Int) := by omega
        obtain ⟨⟨gx, kx, xs⟩, hx⟩ : ∃ x, l[i]? = some x := ⟨_, List.getElem?_eq_getElem (by rw [HN.out]; omega)⟩
        have hxm := List.mem_of_getElem? hx
        have hc0 := fun (W' : World) (h : Below w.heap.size w W') => QRow.at (hQ.below h) i _ hx
        have he := fun (W' : World) (h : Below w.heap.size w W') => HLB.out gx kx gu ku xs us W' (HLN.out _ hxm) rfl ((HA.out _ hxm).2.2.below h) (HU.out.2.2.below h)
        have hf := fun (W' : World) (h : Below w.heap.size w W') => HLB.out gu ku gx kx us xs W' rfl (HLN.out _ hxm) (HU.out.2.2.below h) ((HA.out _ hxm).2.2.below h)
        rw [HHER.out _ hx] at he
        have hxl : xs.length = us.length := HLN.out _ hxm
        unfold pqV at hc0
        dsimp only at hc0
        rw [hxl] at hc0
        have HE := Lib.hid he
        have HC0 := Lib.hid hc0
        have hc := hc0 _ hb
        cases hB : ltP us xs with
        | false =>
          rw [hB] at hf
          have hres : R = nmQ l := by
            rw [HPUT.out, if_pos]
            exact ⟨xs, by rw [List.getElem?_map, hx]; rfl, hB⟩
          have HF := Lib.hid hf
          have HRS := Lib.hid hres
          clear hx hxm he hf hres hc0 hB hxl
          go_wp2_with (first | (go_at_call 67; refine (HE.out _ hb).mono ?_; clear HE; rintro e w5 ⟨rfl, hb5⟩; replace hb := chain hb hb5; clear hb5; have hc2 := HC0.out _ hb) | (go_at_call 67; refine (HF.out _ hb).mono ?_; rintro e w6 ⟨rfl, hb6⟩; replace hb := chain hb hb6))
          go_ret
          have hz := hb.size
          refine ⟨g, k, l, ?_, by rw [HN.out]; exact hk, hQ.below hb, HRS.out.symm, (HA.out.below hb).mono (Nat.le_refl _) (by omega), HCL.out, hb⟩
          rw [HN.out]
          rfl
        | true =>
          rw [hB] at hf
          have hres : R = (nmQ l).take i ++ us :: (nmQ l).drop i := by
            rw [HPUT.out, if_neg]
            rintro ⟨z, h1, h2⟩
            rw [List.getElem?_map, hx] at h1
            simp at h1
            subst h1
            rw [hB] at h2
            exact absurd h2 (by decide)
          have HF := Lib.hid hf
          have HRS := Lib.hid hres
          clear hx hxm he hf hres hc0 hB hxl
          go_wp2_with (first | (go_at_call 67; refine (HE.out _ hb).mono ?_; clear HE; rintro e w5 ⟨rfl, hb5⟩; replace hb := chain hb hb5; clear hb5; have hc2 := HC0.out _ hb) | (go_at_call 67; refine (HF.out _ hb).mono ?_; clear HF; rintro e w6 ⟨rfl, hb6⟩; replace hb := chain hb hb6; clear hb6) | (at_builtin; go_loud (refine wp_pushQs rfl (.tmp 35) (.tmp 38) rfl w.heap.size _ [] rfl ((ownQ_start _).mono hb.size) ⟨g, 0, none⟩ _ _ (l.take i) rfl (by rw [List.length_take, HN.out]; omega) (fun q y hy => QRow.newsT (hQ.below (hb.alloc hb.size (.cells #[] 26))) i q y hy) (by simp; omega) (by have := hb.size; simp; omega) ?_; intro v7 w7 hO7 hb7 hk7 hkk7; have hb8 := (hb.alloc hb.size (.cells #[] 26)).trans hb7; clear hb7 hk7 hkk7; rw [List.nil_append] at hO7)) | (at_builtin; go_loud (refine wp_pushQ rfl (.tmp 40) (.tmp 42) rfl w.heap.size _ (l.take i) rfl hO7 (gu, ku, us) rfl (by first | rfl | simp) (by rw [List.length_take]; omega) hb8.size ?_; intro v9 w9 hO9 hb9 hk9; have hbA := hb8.trans hb9; clear hb9 hk9)) | (at_builtin; go_loud (refine wp_pushQs rfl (.tmp 44) (.tmp 47) rfl w.heap.size _ (l.take i ++ [(gu, ku, us)]) rfl hO9 ⟨g, i, none⟩ _ _ (l.drop i) rfl (by rw [List.length_drop, HN.out]; try omega) (fun q y hy => QRow.news (hQ.below hbA) i q y hy) (by simp [HN.out]; omega) hbA.size ?_; intro vB wB hOB hbB hkB hkkB; have hbC := hbA.trans hbB; clear hbB hkB hkkB)))
          obtain ⟨gr, kr, rfl, hkr⟩ := ownQ_some hOB (by simp; omega)
          go_ret
          have hz := hbC.size
          have hmem : ∀ y ∈ l.take i ++ [(gu, ku, us)] ++ l.drop i, y ∈ l ∨ y = (gu, ku, us) := fun y hy => by
            rcases List.mem_append.1 hy with hy | hy
            · rcases List.mem_append.1 hy with hy | hy
              · exact .inl (List.mem_of_mem_take hy)
              · exact .inr (by simpa using hy)
            · exact .inl (List.mem_of_mem_drop hy)
          refine ⟨gr, kr, _, rfl, hkr, (OwnQ.row hOB).2.2.1, ?_, fun y hy => ?_, fun y hy => ?_, hbC⟩
          · rw [HRS.out, nmQ, List.map_append, List.map_append, List.map_take, List.map_drop, List.append_assoc]
            rfl
          · rcases hmem y hy with h | h
            · exact ((HA.out y h).below hbC).mono (Nat.le_refl _) (by omega)
            · subst h
              exact (HU.out.below hbC).mono (Nat.le_refl _) (by omega)
          · rcases hmem y hy with h | h
            · exact HCL.out y h
            · subst h
              exact HCU.out
      · have hnl : ¬ (i : Int) < (N : Int) := by omega
        have hres : R = (nmQ l).take i ++ us :: (nmQ l).drop i := by
          rw [HPUT.out, if_neg]
          rintro ⟨z, h1, h2⟩
          rw [List.getElem?_eq_none (by rw [List.length_map, HN.out]; omega)] at h1
          simp at h1
        have HRS := Lib.hid hres
        clear hres
        have hdn : l.drop i = [] := List.drop_eq_nil_of_le (by rw [HN.out]; omega)
        by_cases hik : i < k
        · have hik2 : (i : Int) < (k : Int) := by omega
          go_wp2_with (first | (at_builtin; go_loud (refine wp_pushQs rfl (.tmp 35) (.tmp 38) rfl w.heap.size _ [] rfl ((ownQ_start _).mono hb.size) ⟨g, 0, none⟩ _ _ (l.take i) rfl (by rw [List.length_take, HN.out]; omega) (fun q y hy => QRow.newsT (hQ.below (hb.alloc hb.size (.cells #[] 26))) i q y hy) (by simp; omega) (by have := hb.size; simp; omega) ?_; intro v7 w7 hO7 hb7 hk7 hkk7; have hb8 := (hb.alloc hb.size (.cells #[] 26)).trans hb7; clear hb7 hk7 hkk7; rw [List.nil_append] at hO7)) | (at_builtin; go_loud (refine wp_pushQ rfl (.tmp 40) (.tmp 42) rfl w.heap.size _ (l.take i) rfl hO7 (gu, ku, us) rfl (by first | rfl | simp) (by rw [List.length_take]; omega) hb8.size ?_; intro v9 w9 hO9 hb9 hk9; have hbA := hb8.trans hb9; clear hb9 hk9)) | (at_builtin; go_loud (refine wp_pushQs rfl (.tmp 44) (.tmp 47) rfl w.heap.size _ (l.take i ++ [(gu, ku, us)]) rfl hO9 _ _ _ (l.drop i) rfl (by rw [hdn, List.length_nil]; try omega) (fun q y hy => by rw [hdn] at hy; simp at hy) (by simp [HN.out]; omega) hbA.size ?_; intro vB wB hOB hbB hkB hkkB; have hbC := hbA.trans hbB; clear hbB hkB hkkB)))
          obtain ⟨gr, kr, rfl, hkr⟩ := ownQ_some hOB (by simp; omega)
          go_ret
          have hz := hbC.size
          have hmem : ∀ y ∈ l.take i ++ [(gu, ku, us)] ++ l.drop i, y ∈ l ∨ y = (gu, ku, us) := fun y hy => by
            rcases List.mem_append.1 hy with hy | hy
            · rcases List.mem_append.1 hy with hy | hy
              · exact .inl (List.mem_of_mem_take hy)
              · exact .inr (by simpa using hy)
            · exact .inl (List.mem_of_mem_drop hy)
          refine ⟨gr, kr, _, rfl, hkr, (OwnQ.row hOB).2.2.1, ?_, fun y hy => ?_, fun y hy => ?_, hbC⟩
          · rw [HRS.out, nmQ, List.map_append, List.map_append, List.map_take, List.map_drop, List.append_assoc]
            rfl
          · rcases hmem y hy with h | h
            · exact ((HA.out y h).below hbC).mono (Nat.le_refl _) (by omega)
            · subst h
              exact (HU.out.below hbC).mono (Nat.le_refl _) (by omega)
          · rcases hmem y hy with h | h
            · exact HCL.out y h
            · subst h
              exact HCU.out
        · obtain rfl : i = k := by omega
          go_wp2_with (first | (at_builtin; go_loud (refine wp_pushQs rfl (.tmp 35) (.tmp 38) rfl w.heap.size _ [] rfl ((ownQ_start _).mono hb.size) ⟨g, 0, none⟩ _ _ (l.take i) rfl (by rw [List.length_take, HN.out]; omega) (fun q y hy => QRow.newsT (hQ.below (hb.alloc hb.size (.cells #[] 26))) i q y hy) (by simp; omega) (by have := hb.size; simp; omega) ?_; intro v7 w7 hO7 hb7 hk7 hkk7; have hb8 := (hb.alloc hb.size (.cells #[] 26)).trans hb7; clear hb7 hk7 hkk7; rw [List.nil_append] at hO7)) | (at_builtin; go_loud (refine wp_pushQ rfl (.tmp 40) (.tmp 42) rfl w.heap.size _ (l.take i) rfl hO7 (gu, ku, us) rfl (by first | rfl | simp) (by rw [List.length_take]; omega) hb8.size ?_; intro v9 w9 hO9 hb9 hk9; have hbA := hb8.trans hb9; clear hb9 hk9)) | (at_builtin; go_loud (refine wp_pushQs rfl (.tmp 44) (.tmp 47) rfl w.heap.size _ (l.take i ++ [(gu, ku, us)]) rfl hO9 _ _ _ (l.drop i) rfl (by rw [hdn, List.length_nil]; try omega) (fun q y hy => by rw [hdn] at hy; simp at hy) (by simp [HN.out]; omega) hbA.size ?_; intro vB wB hOB hbB hkB hkkB; have hbC := hbA.trans hbB; clear hbB hkB hkkB)))
          obtain ⟨gr, kr, rfl, hkr⟩ := ownQ_some hOB (by simp; omega)
          go_ret
          have hz := hbC.size
          have hmem : ∀ y ∈ l.take i ++ [(gu, ku, us)] ++ l.drop i, y ∈ l ∨ y = (gu, ku, us) := fun y hy => by
            rcases List.mem_append.1 hy with hy | hy
            · rcases List.mem_append.1 hy with hy | hy
              · exact .inl (List.mem_of_mem_take hy)
              · exact .inr (by simpa using hy)
            · exact .inl (List.mem_of_mem_drop hy)
          refine ⟨gr, kr, _, rfl, hkr, (OwnQ.row hOB).2.2.1, ?_, fun y hy => ?_, fun y hy => ?_, hbC⟩
          · rw [HRS.out, nmQ, List.map_append, List.map_append, List.map_take, List.map_drop, List.append_assoc]
            rfl
          · rcases hmem y hy with h | h
            · exact ((HA.out y h).below hbC).mono (Nat.le_refl _) (by omega)
            · subst h
              exact (HU.out.below hbC).mono (Nat.le_refl _) (by omega)
          · rcases hmem y hy with h | h
            · exact HCL.out y h
            · subst h
              exact HCU.out
end Go.Proofs.Ytpalokkcmpjcmaa
