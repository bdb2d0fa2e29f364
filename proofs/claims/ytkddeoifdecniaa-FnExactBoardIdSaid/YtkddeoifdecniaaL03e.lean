/- Contracts of chapter 3: groups of bits, groups joined. -/
import Derived.Test.YtkddeoifdecniaaL03d
import Derived.Test.YtkddeoifdecniaaM02
namespace Go.Proofs.Ytkddeoifdecniaa
open Go.ChangeShapes Go.WideShapes Go.ChangeAt Go.RowKit
set_option linter.unusedVariables false
set_option linter.unusedSimpArgs false

/-- A row of the call's own has been made and is handed back. -/
def RowGot (xs : List Int) (w : World) (e : Ending) (w' : World) : Prop :=
  ∃ g k, e = .returned (.slice (some ⟨g, 0, none⟩) xs.length k) ∧ w.heap.size ≤ g ∧ Row w' g xs ∧ Below w.heap.size w w'
theorem Own.row {w : World} {base : Nat} {v : Value} {xs : List Int} (h : Own w base v xs) (h0 : 0 < xs.length) : ∃ g k, v = .slice (some ⟨g, 0, none⟩) xs.length k ∧ base ≤ g ∧ Row w g xs := by
  obtain ⟨a, k, rfl⟩ := h.form
  rcases h.osl with ⟨rfl, rfl⟩ | ⟨g, rfl, h1, h2, r⟩
  · simp at h0
  · exact ⟨g, k, rfl, h1, r⟩
set_option maxHeartbeats 1000000 in
theorem countGroup_any (m : Nat) (w : World) (hm : m ≤ 15) : Calls Try.prog 103 #[.int .i64 m] w (RowGot (grpL m) w) := by
  have hc : (w.alloc (.cells #[.int .i64 1] 2)).cell? ⟨w.heap.size, 0, none⟩ = some (.int .i64 1) := by
    rw [(Blk.new w #[.int .i64 1] 2).cell 0]
    rfl
  have hrep := repeat_any w.heap.size m 1 _ (by omega) hc
  have HR := Lib.hid hrep
  have hl : (List.replicate m (1 : Int)).length ≤ 1048576 := by simp; omega
  have HL := Lib.hid hl
  have hg1 : (grpL m).length = m + 1 := grpL_length m
  have HG := Lib.hid hg1
  clear hrep hc hl hg1
  go_enter Try.func103, Try.ntmps103
  go_wp2_with fail
  refine HR.out.mono ?_
  rintro e w1 ⟨g, rfl, hO, hb1⟩
  have hb := from_alloc hb1
  have hbz := hb.size
  clear hb1
  replace hO := hO.mono (show w.heap.size ≤ _ by simp)
  go_wp2_with (at_builtin; refine wp_push rfl _ _ rfl w.heap.size _ (List.replicate m 1) rfl hO 0 rfl HL.out hbz ?_; intro v2 w2 hO2 hb2)
  obtain ⟨g2, k2, rfl, hg2, hR2⟩ := hO2.row (by simp)
  go_ret
  exact ⟨g2, k2, rfl, hg2, hR2, hb.trans hb2⟩
/-- A block of slices of the call's own: the first k places hold rows. -/
def SPart (w : World) (G n : Nat) (ls : List (List Int)) (k : Nat) : Prop :=
  ∃ vs : Array Value, Blk w G vs 26 ∧ vs.size = n ∧ ∀ i, i < k → ∃ g c, vs[i]? = some (.slice (some ⟨g, 0, none⟩) (ls.getD i []).length c) ∧ g ≠ G ∧ Row w g (ls.getD i [])
theorem SPart.lt {w : World} {G n k : Nat} {ls : List (List Int)} (h : SPart w G n ls k) : G < w.heap.size := by obtain ⟨vs, hB, _⟩ := h; exact hB.lt
theorem SPart.free {w : World} {G n k : Nat} {ls : List (List Int)} (h : SPart w G n ls k) : ∀ i, w.frozen? ⟨G, i, none⟩ = false := by obtain ⟨vs, hB, _⟩ := h; exact fun i => hB.free i
theorem SPart.cell {w : World} {G n k i : Nat} {ls : List (List Int)} (h : SPart w G n ls k) (hi : i < n) : ∃ v, w.cell? ⟨G, i, none⟩ = some v := by
  obtain ⟨vs, hB, hs, _⟩ := h
  exact ⟨vs[i]'(by omega), by rw [hB.cell i]; simp [show i < vs.size by omega]⟩
theorem SPart.below {w w' : World} {G n k : Nat} {ls : List (List Int)} (h : SPart w G n ls k) (hb : Below w.heap.size w w') : SPart w' G n ls k := by
  obtain ⟨vs, hB, hs, h⟩ := h
  exact ⟨vs, hB.below hb, hs, fun i hi => by obtain ⟨g, c, e, hg, r⟩ := h i hi; exact ⟨g, c, e, hg, r.below hb⟩⟩
theorem SPart.drew {w : World} {G n k : Nat} {ls : List (List Int)} (h : SPart w G n ls k) : SPart w.drew G n ls k := h
theorem SPart.new (w : World) (n : Nat) (ls : List (List Int)) : SPart (w.alloc (.cells (madeCells #[.slice none 0 0] n) 26)) w.heap.size n ls 0 :=
  ⟨_, Blk.new w _ _, by
    have := congrArg List.length (toList_madeCells_one (.slice none 0 0) n)
    simpa using this, fun i hi => by omega⟩
theorem SPart.put {w : World} {G n k g c : Nat} {ls : List (List Int)} {l : List Int} (h : SPart w G n ls k) (hk : k < n) (hg : g ≠ G) (hl : ls.getD k [] = l) (hR : Row w g l) : SPart (w.setCell ⟨G, k, none⟩ (.slice (some ⟨g, 0, none⟩) l.length c)) G n ls (k + 1) := by
  obtain ⟨vs, hB, hs, h⟩ := h
  refine ⟨_, hB.set _, by simpa using hs, fun i hi => ?_⟩
  by_cases e : i = k
  · subst e
    exact ⟨g, c, by rw [hl]; simp [show i < vs.size by omega], hg, by rw [hl]; exact hR.other (by omega)⟩
  · obtain ⟨g', c', e', hg', r⟩ := h i (by omega)
    exact ⟨g', c', by rw [Array.getElem?_setIfInBounds_ne (by omega)]; exact e', hg', r.other (by omega)⟩
theorem SPart.two {w : World} {g1 g2 k1 k2 : Nat} {l1 l2 : List Int} (R1 : Row w g1 l1) (R2 : Row w g2 l2) : SPart (w.alloc (.cells #[.slice (some ⟨g1, 0, none⟩) l1.length k1, .slice (some ⟨g2, 0, none⟩) l2.length k2] 26)) w.heap.size 2 [l1, l2] 2 := by
  have h1 := R1.lt
  have h2 := R2.lt
  refine ⟨_, Blk.new w _ _, rfl, fun i hi => ?_⟩
  obtain rfl | rfl : i = 0 ∨ i = 1 := by omega
  · exact ⟨g1, k1, rfl, by omega, R1.alloc _⟩
  · exact ⟨g2, k2, rfl, by omega, R2.alloc _⟩
theorem List.getD_map' {α β : Type} {f : α → List β} {xs : List α} {k : Nat} {d : α} (h : k < xs.length) : (xs.map f).getD k [] = f (xs.getD k d) := by
  simp [List.getD, h]
theorem flatten_take (ls : List (List Int)) (k : Nat) (h : k < ls.length) : (ls.take (k + 1)).flatten = (ls.take k).flatten ++ ls.getD k [] := by
  rw [List.take_succ_eq_append_getElem h, List.flatten_append]
  simp [h]
theorem flatten_bound (ls : List (List Int)) (c : Nat) (h : ∀ l ∈ ls, l.length ≤ c) : ls.flatten.length ≤ ls.length * c := by
  induction ls with
  | nil => simp
  | cons l ls ih =>
    have h1 := h l (by simp)
    have h2 := ih (fun x hx => h x (by simp [hx]))
    simp only [List.flatten_cons, List.length_append, List.length_cons, Nat.add_mul]
    omega
set_option maxHeartbeats 1000000 in
theorem joinBits_any (G n cap : Nat) (ls : List (List Int)) (w : World) (hn : ls.length = n) (hle : n ≤ 1000) (hb : ∀ l ∈ ls, l.length ≤ 1000) (hS : SPart w G n ls n) :
    Calls Try.prog 101 #[.slice (some ⟨G, 0, none⟩) n cap] w (SliceGot ls.flatten w) := by
  subst hn
  have HB := Lib.hid hb
  clear hb
  obtain ⟨out, hout⟩ : ∃ out, ls.flatten = out := ⟨_, rfl⟩
  rw [hout]
  have HOUT := Lib.hid hout
  clear hout
  go_enter Try.func101, Try.ntmps101
  go_wp2_with fail
  go_loopg [3, 8] ls.length (fun m q i wr => ∃ k : Nat, k ≤ ls.length ∧ m = ls.length - k ∧ i = .int .i64 k ∧ Own wr w.heap.size q (ls.take k).flatten ∧ Below w.heap.size w wr)
  case atStart => exact ⟨0, by omega, by omega, rfl, by simpa using Own.nil w w.heap.size, Below.refl _ _⟩
  case round =>
    obtain ⟨k, hk, hm, rfl, hO, hbel⟩ := hrel
    by_cases hlt : k < ls.length
    · have hlt' : (k : Int) < (ls.length : Int) := by omega
      have hk0 : (0 : Int) ≤ (k : Int) := by omega
      have hS2 := hS.below hbel
      obtain ⟨vs, hB, hs, hall⟩ := hS2
      obtain ⟨g, c, e, hg, r⟩ := hall k hlt
      have hc : wr.cell? ⟨G, k, none⟩ = some (.slice (some ⟨g, 0, none⟩) (ls.getD k []).length c) := by rw [hB.cell k]; exact e
      obtain ⟨l, hl⟩ : ∃ l, ls.getD k [] = l := ⟨_, rfl⟩
      have hst := flatten_take ls k hlt
      rw [hl] at hc r hst
      have hmem : l ∈ ls := by rw [← hl]; simp [List.getD, hlt]
      have hbl := HB.out l hmem
      have hbt := flatten_bound (ls.take k) 1000 (fun l hl => HB.out l (List.mem_of_mem_take hl))
      have hlen : (ls.take k).flatten.length + l.length ≤ 1048576 := by
        have : (ls.take k).length ≤ 1000 := by simp; omega
        have h2 : (ls.take k).length * 1000 ≤ 1000 * 1000 := Nat.mul_le_mul_right _ this
        omega
      have HL := Lib.hid hlen
      have HM := Lib.hid hm
      have HST := Lib.hid hst
      have hbz := hbel.size
      clear hlen hm hst hl hbt hbl hmem hs hall e hB
      go_wp2_with (at_builtin; (refine wp_pushAll rfl (.tmp 12) (.tmp 13) rfl w.heap.size _ _ rfl hO g l _ c rfl rfl r HL.out hbz ?_; intro v2 w2 hO2 hb2))
      go_roundg (ls.length - (k + 1))
      case measure => have := HM.out; omega
      case rel => exact ⟨k + 1, by omega, rfl, by go_num, by rw [HST.out]; exact hO2, hbel.trans hb2⟩
    · obtain rfl : k = ls.length := by omega
      have hlt' : ¬ ((ls.length : Int) < (ls.length : Int)) := by omega
      rw [List.take_length, HOUT.out] at hO
      obtain ⟨ga, gk, rfl⟩ := hO.form
      go_wp2
      go_ret
      exact ⟨ga, gk, rfl, hO.osl, hbel⟩
theorem infoSl : (Try.prog.info? 26).map (fun i => (i.zero, i.size, i.bytes)) = some (some (.slice none 0 0), 1, 24) := by kernel_rfl
set_option maxHeartbeats 1000000 in
theorem bitsOfInts_any (a : Option Addr) (n cap : Nat) (xs : List Int) (f : Int → List Int) (w : World) (hn : xs.length = n) (hle : n ≤ 100) (hr : IRow w a xs)
    (hf : ∀ x ∈ xs, 0 < (f x).length ∧ (f x).length ≤ 1000 ∧ ∀ W : World, Calls Try.prog 103 #[.int .i64 x] W (RowGot (f x) W)) :
    Calls Try.prog 102 #[.slice a n cap, .func (.func 103) #[] #[]] w (SliceGot (xs.map f).flatten w) := by
  subst hn
  have hmk := run_make_row' (P := Try.prog) 104 26 (.slice none 0 0) 24 Try.underlying104 infoSl rfl .i64 .i64 xs.length (by omega) (by omega)
  have hjoin := fun W (h : SPart W w.heap.size xs.length (xs.map f) xs.length) => joinBits_any w.heap.size xs.length xs.length (xs.map f) W (by simp) (by omega) (fun l hl => by
    obtain ⟨x, hx, rfl⟩ := List.mem_map.1 hl
    exact (hf x hx).2.1) h
  obtain ⟨out, hout⟩ : ∃ out, (xs.map f).flatten = out := ⟨_, rfl⟩
  rw [hout] at hjoin ⊢
  have HJ := Lib.hid hjoin
  have HF := Lib.hid hf
  clear hjoin hf hout
  have hS0 := SPart.new w xs.length (xs.map f)
  have hb0 : Below w.heap.size w (w.alloc (.cells (madeCells #[.slice none 0 0] xs.length) 26)) := (Below.refl _ _).alloc (Nat.le_refl _) _
  have HMK := Lib.hid hmk
  go_enter Try.func102, Try.ntmps102
  go_wp2_with fail
  clear hmk HMK
  generalize w.alloc (.cells (madeCells #[.slice none 0 0] xs.length) 26) = v0 at *
  go_loopg [13] xs.length (fun m i wr => ∃ k : Nat, k ≤ xs.length ∧ m = xs.length - k ∧ i = .int .i64 k ∧ SPart wr w.heap.size xs.length (xs.map f) k ∧ Below w.heap.size w wr)
  case atStart => exact ⟨0, by omega, by omega, rfl, hS0, hb0⟩
  case round =>
    clear hS0 hb0
    obtain ⟨k, hk, hm, rfl, hS, hbel⟩ := hrel
    by_cases hlt : k < xs.length
    · have hlt' : (k : Int) < (xs.length : Int) := by omega
      have hk0 : (0 : Int) ≤ (k : Int) := by omega
      obtain ⟨b, o, rfl, hc⟩ := hr.below hbel k hlt
      obtain ⟨x, hx⟩ : ∃ x, xs.getD k 0 = x := ⟨_, rfl⟩
      have hmem : x ∈ xs := hx ▸ getD_mem hlt
      rw [hx] at hc
      have hG := (HF.out x hmem).2.2
      have HG := Lib.hid hG
      have HX := Lib.hid hx
      have HM := Lib.hid hm
      have hGl := hS.lt
      clear hG hx hmem hm
      go_wp2_with fail
      refine (HG.out _).mono ?_
      rintro e w1 ⟨g, c, rfl, hg, hR, hb1⟩
      replace hS := hS.below hb1
      have hgG : w.heap.size < g := by omega
      obtain ⟨old, hold⟩ := hS.cell hlt
      have hfr := hS.free
      go_wp2_with fail
      go_roundg (xs.length - (k + 1))
      case measure => have := HM.out; omega
      case rel => exact ⟨k + 1, by omega, rfl, by go_num, hS.put hlt (by omega) (by rw [List.getD_map' hlt, HX.out]) hR, (chain hbel hb1).setCell (Nat.le_refl _) _⟩
    · obtain rfl : k = xs.length := by omega
      have hlt' : ¬ ((xs.length : Int) < (xs.length : Int)) := by omega
      go_wp2_with fail
      refine (HJ.out _ hS).mono ?_
      rintro e w1 ⟨ga, gk, rfl, hO, hb1⟩
      go_wp2
      go_ret
      exact ⟨ga, gk, rfl, hO.mono hbel.size (Nat.le_refl _), chain hbel hb1⟩
end Go.Proofs.Ytkddeoifdecniaa
