/- Texts of a proof, laid together. -/
import Derived.Test.YtnlclmlnpkncoaaGreatW16
import Derived.Test.YtnlclmlnpkncoaaGreatW17
import Derived.Test.YtnlclmlnpkncoaaGreatW11
import Derived.Test.YtnlclmlnpkncoaaGreatW02
import Derived.Test.YtnlclmlnpkncoaaGreatW05
import Derived.Test.YtnlclmlnpkncoaaGreatW01
namespace Go.Proofs.YtnlclmlnpkncoaaGreat
open Go.ChangeShapes Go.WideShapes Go.ChangeAt Go.RowKit
set_option linter.unusedVariables false
set_option linter.unusedSimpArgs false
set_option maxRecDepth 4000
def PO (n : Nat) (q : List Int) : Prop := NN q ∧ q.length = n ∧ q.sum ≤ 15
theorem PO.all {n : Nat} {q : List Int} (h : PO n q) : ∀ x ∈ q, 0 ≤ x ∧ x ≤ 15 := fun x hx => by
  obtain ⟨j, hj, rfl⟩ := List.mem_iff_getElem.1 hx
  have := sum_ge h.1 j
  rw [List.getD_eq_getElem?_getD, List.getElem?_eq_getElem hj] at this
  have h2 := h.2.2
  exact ⟨h.1 _ hx, by simp at this; omega⟩
theorem PO.step {n : Nat} {q z : List Int} {d : Int} (h : PO n q) (hd : 1 ≤ d) (hz : z ∈ adL q d) : PO n z := by
  by_cases e : q.sum = 0
  · rw [adL_zero h.1 e, List.mem_singleton] at hz
    subst hz
    exact h
  · have hs := (adL_mem h.1 e z).1 hz
    have f := steps_facts h.1 hd hs
    obtain ⟨i, h1, h2, h3, rfl⟩ := (steps_mem h.1).1 hs
    refine ⟨f.1, f.2.1.trans h.2.1, ?_⟩
    rw [asL_sum h1 hd]
    have := h.2.2
    split <;> omega
theorem adL_len {p : List Int} {d : Int} {n : Nat} (h1 : 1 ≤ n) (hn : p.length = n) : (adL p d).length ≤ n := by
  have := adK_len p d p.length
  unfold adL
  split
  · simpa using h1
  · omega
theorem adL_ne {p : List Int} {d : Int} (h : NN p) : adL p d ≠ [] := fun e => by
  obtain ⟨q, hq⟩ := adL_some (d := d) h
  rw [e] at hq
  simp at hq
theorem putP_le : ∀ (l : List (List Int)) (p : List Int), (putP l p).length ≤ l.length + 1
  | [], p => by simp [putP]
  | x :: l, p => by
    have := putP_le l p
    rw [putP]
    split
    · simp only [List.length_cons]; omega
    · split <;> simp only [List.length_cons] <;> omega
theorem putAll_le : ∀ (m l : List (List Int)), (putAll l m).length ≤ l.length + m.length
  | [], l => by simp [putAll]
  | p :: m, l => by
    have h1 := putAll_le m (putP l p)
    have h2 := putP_le l p
    show (putAll (putP l p) m).length ≤ _
    simp only [List.length_cons]
    omega
theorem sdP_le (l : List (List Int)) : (sdP l).length ≤ l.length := by
  have := putAll_le l []
  simpa [sdP] using this
theorem sdP_ne {l : List (List Int)} {n : Nat} (h : ∀ x ∈ l, x.length = n) (hl : l ≠ []) : sdP l ≠ [] := fun e => by
  obtain ⟨x, l', rfl⟩ := List.exists_cons_of_ne_nil hl
  have := ((sdP_facts h).2.2 x).2 (by simp)
  rw [e] at this
  simp at this
abbrev IQ := Option Addr × Nat × List Int
abbrev iqV (x : IQ) : Value := .slice x.1 x.2.2.length x.2.1
abbrev toI (x : PQ) : IQ := (some ⟨x.1, 0, none⟩, x.2.1, x.2.2)
theorem toI_row (l : List PQ) : (l.map toI).map iqV = l.flatMap pqC := by
  rw [mapPQ, List.map_map]
  rfl
set_option maxHeartbeats 2000000 in
theorem afterOrder_any (a b : Option Addr) (n m cap kb : Nat) (xs ds : List Int) (w : World) (hn : xs.length = n) (h1 : 1 ≤ n) (hle : n ≤ 24) (hP : PO n xs) (hm : ds.length = m) (hm1 : 1 ≤ m) (hm4 : m ≤ 4) (hd : ∀ d ∈ ds, 1 ≤ d ∧ d ≤ 6) (hr : IRow w a xs) (hrd : IRow w b ds) :
    Calls Tryz.prog 70 #[.slice a n cap, .slice b m kb] w (RowsGot w.heap.size (aoL xs ds) w.heap.size w) := by
  subst hn
  have HM := Lib.hid hm
  have HD := Lib.hid hd
  have HP := Lib.hid hP
  have hAD := fun (ax : Option Addr) (kx : Nat) (ys : List Int) (d : Int) (W : World) (q : PO xs.length ys) (hd : 1 ≤ d ∧ d ≤ 6) (r : IRow W ax ys) => afterDie_any ax ys.length kx d ys W rfl (by rw [q.2.1]; exact h1) (by rw [q.2.1]; exact hle) hd q.all r
  have HAD := Lib.hid hAD
  clear hm hd hP hAD
  go_enter Tryz.func70, Tryz.ntmps70
  go_wp2_with fail
  have B0 := Blk.new w #[.slice a xs.length cap] 26
  have hb0 : Below w.heap.size w (w.alloc (.cells #[.slice a xs.length cap] 26)) := (Below.refl _ _).alloc (Nat.le_refl _) _
  generalize w.alloc (.cells #[.slice a xs.length cap] 26) = v0 at *
  go_loopg [5, 15] m (fun mm lv iv wr => ∃ (W : World) (i gL kL : Nat) (L : List IQ), W = wr ∧ i ≤ m ∧ mm = m - i ∧ iv = .int .i64 i ∧ lv = .slice (some ⟨gL, 0, none⟩) L.length kL ∧ VRow W gL (L.map iqV) 26 ∧ (∀ x ∈ L, IRow W x.1 x.2.2 ∧ PO xs.length x.2.2) ∧ (L.map fun x => x.2.2) = (ds.take i).foldl aoS [xs] ∧ L.length ≤ 24 ^ i ∧ 0 < L.length ∧ Below w.heap.size w W ∧ w.heap.size ≤ gL ∧ (0 < i → ∃ l : List PQ, L = l.map toI ∧ QAll w.heap.size W.heap.size W l ∧ QDis l))
  case atStart =>
    refine ⟨v0, 0, w.heap.size, 1, [(a, cap, xs)], rfl, by omega, by omega, by go_num, rfl, ⟨_, B0, by simp, rfl⟩, fun x hx => ?_, rfl, by simp, by simp, hb0, Nat.le_refl _, fun q => by omega⟩
    simp at hx
    subst hx
    exact ⟨hr.below hb0, HP.out⟩
  case round =>
    clear B0 hb0
    obtain ⟨wr, i, gL, kL, L, hW, hi, hmm, rfl, rfl, hL, hLs, hLv, hL24, hL0, hb, hgL, hl⟩ := hrel
    subst hW
    by_cases hlt : i < m
    · have hlt' : (i : Int) < (m : Int) := by omega
      have hi0 : (0 : Int) ≤ (i : Int) := by omega
      obtain ⟨b2, o2, rfl, hc⟩ := (hrd.below hb) i (by rw [HM.out]; exact hlt)
      have hdm := HD.out _ (getD_mem (xs := ds) (k := i) (by rw [HM.out]; exact hlt))
      have htk : ds.take (i + 1) = ds.take i ++ [ds.getD i 0] := take_snoc_int ds i (by rw [HM.out]; exact hlt)
      obtain ⟨d, hde⟩ : ∃ d, ds.getD i 0 = d := ⟨_, rfl⟩
      rw [hde] at hc hdm htk
      have hnext : (ds.take (i + 1)).foldl aoS [xs] = aoS (L.map fun x => x.2.2) d := by rw [htk, List.foldl_append, ← hLv]; rfl
      have hpow : 24 ^ i * 24 = 24 ^ (i + 1) := (Nat.pow_succ 24 i).symm
      have hpw : 24 ^ (i + 1) ≤ 331776 := Nat.pow_le_pow_right (by decide : 1 ≤ 24) (by omega : i + 1 ≤ 4)
      obtain ⟨P, hP⟩ : ∃ P, 24 ^ (i + 1) = P := ⟨_, rfl⟩
      obtain ⟨P0, hP0⟩ : ∃ P, 24 ^ i = P := ⟨_, rfl⟩
      rw [hP] at hpow hpw
      rw [hP0] at hpow hL24
      obtain ⟨N, hN⟩ : ∃ N, L.length = N := ⟨_, rfl⟩
      rw [hN] at hL24 hL0 ⊢
      have d0 := hdm.1
      have d1 := hdm.2
      have n0 : (N : Int) ≤ 331776 := by omega
      have HNX := Lib.hid hnext
      have HN := Lib.hid hN
      have HLS := Lib.hid hLs
      have HPW := Lib.hid hP
      have hBl := hL.lt
      clear hde htk hnext hLv hl hN hLs hdm hP hP0
      go_wp2_with fail
      go_loopg [8, 21] N (fun m2 lg jv wr2 => ∃ (W2 : World) (j : Nat) (l : List PQ), W2 = wr2 ∧ j ≤ N ∧ m2 = N - j ∧ jv = .int .i64 j ∧ OwnQ W2 wr.heap.size lg l ∧ nmQ l = ((L.take j).map fun x => x.2.2).flatMap (fun q => adL q d) ∧ l.length ≤ j * 24 ∧ (0 < j → 0 < l.length) ∧ QAll wr.heap.size W2.heap.size W2 l ∧ QDis l ∧ Below wr.heap.size wr W2)
      case atStart => exact ⟨wr, 0, [], rfl, by omega, by omega, by go_num, OwnE.nil _ _, rfl, by simp, fun q => by omega, QAll.nil _ _ _, QDis.nil, Below.refl _ _⟩
      case round =>
        obtain ⟨w2, j, l, hW2, hj, hm2, rfl, hO, hnm, hl24, hl0, hA, hDs, hb2⟩ := hrel
        subst hW2
        obtain ⟨aV, kV, rfl⟩ := hO.form
        by_cases hlt2 : j < N
        · have hlt2' : (j : Int) < (N : Int) := by omega
          have hj0 : (0 : Int) ≤ (j : Int) := by omega
          obtain ⟨⟨ax, kx, ys⟩, hx⟩ : ∃ x, L[j]? = some x := ⟨_, List.getElem?_eq_getElem (by rw [HN.out]; exact hlt2)⟩
          have hxm := List.mem_of_getElem? hx
          have hcx : w2.cell? ⟨gL, j, none⟩ = some (iqV (ax, kx, ys)) := (hL.below hb2).cell j _ (by rw [List.getElem?_map, hx]; rfl)
          obtain ⟨hrx, hpx⟩ := HLS.out _ hxm
          dsimp only at hrx hpx
          have hn2 : nmQ l ++ adL ys d = ((L.take (j + 1)).map fun x => x.2.2).flatMap (fun q => adL q d) := by
            rw [hnm, List.take_add_one, hx]
            simp
          have hal := adL_len (d := d) h1 hpx.2.1
          have hane := adL_ne (d := d) hpx.1
          have HC := Lib.hid (HAD.out ax kx ys d w2 hpx ⟨d0, d1⟩ (hrx.below hb2))
          have HN2 := Lib.hid hn2
          have hz2 := hb2.size
          clear hx hxm hrx hpx hn2 hnm
          go_wp2_with (first | (go_at_call 94; refine HC.out.mono ?_; rintro e w3 ⟨v3, l3, rfl, hO3, hnm3, hA3, hD3, hb3⟩; obtain ⟨g3, k3, rfl⟩ := OwnQ.some hO3 (List.length_pos_iff.2 (fun e => hane (by rw [← hnm3, e]; rfl))); obtain ⟨-, -, hQ3, -⟩ := OwnQ.row hO3; have hl3b : l3.length ≤ 24 := (by have := nm_len hnm3; omega); have hz3 := hb3.size; have hOb := hO.below hb3; have hAb := hA.below hb3) | (at_builtin; go_loud (refine wp_pushQs rfl (.tmp 25) (.tmp 28) rfl wr.heap.size _ l rfl hOb ⟨g3, 0, none⟩ l3.length k3 l3 rfl rfl (fun q y hy => hQ3.newsT l3.length q y (by rw [List.take_length]; exact hy)) (by omega) (by omega) ?_; intro v4 w4 hO4 hb4 hk4 hkk)))
          go_roundg (N - (j + 1))
          case measure => omega
          case rel =>
            have hz4 := hb4.size
            refine ⟨w4, j + 1, l ++ l3, rfl, by omega, rfl, by go_num, hO4, ?_, by rw [List.length_append]; omega, fun _ => by rw [List.length_append]; have : 0 < l3.length := List.length_pos_iff.2 (fun e => hane (by rw [← hnm3, e]; rfl)); omega, ((hAb.keepT hk4 (by omega)).mono (Nat.le_refl _) (Nat.le_refl _)).app ((hA3.keepT hk4 (by omega)).mono (by omega) (Nat.le_refl _)), hDs.app hD3 hA hA3 (Nat.le_refl _), (hb2.trans (hb3.mono (by omega))).trans hb4⟩
            rw [← HN2.out, ← hnm3]
            show List.map _ (l ++ l3) = _
            rw [List.map_append]
        · obtain rfl : j = N := by omega
          have hlp := hl0 (by omega)
          have hlen : ∀ x ∈ l, x.2.2.length = xs.length := fun x hx => by
            have hq : x.2.2 ∈ nmQ l := List.mem_map.2 ⟨x, hx, rfl⟩
            rw [hnm] at hq
            obtain ⟨q, h5, h6⟩ := List.mem_flatMap.1 hq
            obtain ⟨y, h7, rfl⟩ := List.mem_map.1 h5
            exact ((HLS.out y (List.mem_of_mem_take h7)).2.step d0 h6).2.1
          have hPO : ∀ z ∈ nmQ l, PO xs.length z := fun z hz => by
            rw [hnm] at hz
            obtain ⟨q, h5, h6⟩ := List.mem_flatMap.1 hz
            obtain ⟨y, h7, rfl⟩ := List.mem_map.1 h5
            exact (HLS.out y (List.mem_of_mem_take h7)).2.step d0 h6
          have hao : aoS (L.map fun x => x.2.2) d = sdP (nmQ l) := by
            rw [hnm, ← HN.out, List.take_length]
            rfl
          have hnl : ∀ z ∈ nmQ l, z.length = xs.length := fun z hz => (hPO z hz).2.1
          have hsf := sdP_facts hnl
          have hsl := sdP_le (nmQ l)
          have hsn := sdP_ne hnl (fun e => by have := congrArg List.length e; rw [List.length_map, List.length_nil] at this; omega)
          rw [List.length_map] at hsl
          have HC := Lib.hid (distinct_any wr.heap.size wr.heap.size xs.length _ l w2 hb2.size (by omega) hlp (by omega) hO hA hDs hlen)
          have HAO := Lib.hid hao
          have HPO := Lib.hid hPO
          have HSF := Lib.hid hsf
          have hz2 := hb2.size
          have hzw := hb.size
          clear hao hPO hsf hlen hnl hnm hA hDs
          go_wp2_with (go_at_call 71; refine HC.out.mono ?_; rintro e w3 ⟨g3, k3, l3, rfl, hg3, hQ3, hnm3, hA3, hD3, hb3⟩)
          go_roundg (m - (i + 1))
          case measure => omega
          case rel =>
            have hl3 := nm_len hnm3
            have hz3 := hb3.size
            refine ⟨w3, i + 1, g3, k3, l3.map toI, rfl, by omega, rfl, by go_num, by rw [List.length_map], ?_, fun x hx => ?_, ?_, ?_, ?_, hb.trans ((hb2.trans hb3).mono (by omega)), by omega, fun _ => ⟨l3, rfl, hA3.mono (by omega) (Nat.le_refl _), hD3⟩⟩
            · rw [toI_row]; exact hQ3
            · obtain ⟨y, hy, rfl⟩ := List.mem_map.1 hx
              refine ⟨(hA3 y hy).2.2.irow, HPO.out _ ((HSF.out.2.2 _).1 ?_)⟩
              rw [← hnm3]
              exact List.mem_map.2 ⟨y, hy, rfl⟩
            · rw [HNX.out, HAO.out, ← hnm3, List.map_map]
              rfl
            · rw [List.length_map, hl3, HPW.out]; omega
            · rw [List.length_map, hl3]; exact List.length_pos_iff.2 hsn
    · obtain rfl : i = m := by omega
      obtain ⟨l, rfl, hA, hDs⟩ := hl (by omega)
      have hfin : nmQ l = aoL xs ds := by
        have : (l.map toI).map (fun x => x.2.2) = nmQ l := by rw [List.map_map]; rfl
        rw [← this, hLv, ← HM.out, List.take_length]
        rfl
      have HF := Lib.hid hfin
      rw [toI_row] at hL
      rw [List.length_map]
      clear hfin hLv
      go_wp2
      go_ret
      exact ⟨gL, kL, l, rfl, hgL, hL, HF.out, hA, hDs, hb⟩
def ordersP (ra rb : Int) : List (List Int) := if ra = rb then [[ra, ra, ra, ra]] else [[ra, rb], [rb, ra]]
def OrdersGot (os : List (List Int)) (w : World) (e : Ending) (w' : World) : Prop :=
  ∃ g, e = .returned (.slice (some ⟨g, 0, none⟩) os.length os.length) ∧ (∀ j o, os[j]? = some o → ∃ gj, w'.cell? ⟨g, j, none⟩ = some (.slice (some ⟨gj, 0, none⟩) o.length o.length) ∧ Row w' gj o) ∧ Below w.heap.size w w'
theorem Row.of_blk {w : World} {g : Nat} {vs : Array Value} {xs : List Int} (h : Blk w g vs 2) (e : vs.toList = ints xs) : Row w g xs := by
  have hl : vs.size = xs.length := by rw [← Array.length_toList, e]; simp [ints]
  exact ⟨vs, h, by omega, by rw [e]; exact List.take_of_length_le (by simp [ints])⟩
set_option maxHeartbeats 1000000 in
theorem implOrders_any (ra rb : Int) (w : World) :
    Calls Tryz.prog 69 #[.agg #[.int .i64 ra, .int .i64 rb]] w (OrdersGot (ordersP ra rb) w) := by
  have hd := fun W => isDouble_any ra rb W
  by_cases e : ra = rb
  · rw [decide_eq_true e] at hd
    subst e
    have e1 : ordersP ra ra = [[ra, ra, ra, ra]] := by simp [ordersP]
    rw [e1]
    clear e1
    have HD := Lib.hid hd
    clear hd
    have BR := Blk.new w #[.int .i64 ra, .int .i64 ra] 39
    have hb : Below w.heap.size w (w.alloc (.cells #[.int .i64 ra, .int .i64 ra] 39)) := (Below.refl _ _).alloc (Nat.le_refl _) _
    obtain ⟨x0, x1, xf, xl⟩ := BR.two
    go_enter Tryz.func69, Tryz.ntmps69
    go_wp2_with fail
    clear x0 x1 xf xl
    refine (HD.out _).mono ?_
    rintro e w1 ⟨rfl, hb1⟩
    obtain ⟨x0, x1, xf, xl⟩ := (BR.below hb1).two
    replace hb := chain hb hb1
    clear hb1 BR HD
    go_wp2
    refine bodyPost_ret (v := .slice (some ⟨w1.heap.size + 1, 0, none⟩) 1 1) (by simp [results, Tryz.results69, go_sem]) rfl ?_
    have B1 := Blk.new w1 #[.int .i64 ra, .int .i64 ra, .int .i64 ra, .int .i64 ra] 2
    have B2 := Blk.new (w1.alloc (.cells #[.int .i64 ra, .int .i64 ra, .int .i64 ra, .int .i64 ra] 2)) #[.slice (some ⟨w1.heap.size, 0, none⟩) 4 4] 26
    rw [World.size_alloc] at B2
    refine ⟨_, rfl, fun j o hj => ?_, (hb.alloc hb.size _).alloc (Nat.le_trans hb.size (by simp)) _⟩
    cases j with
    | zero =>
      simp at hj
      subst hj
      exact ⟨w1.heap.size, by first | (simp; done) | simpa using B2.cell 0, Row.of_blk (B1.alloc _) rfl⟩
    | succ j => simp at hj
  · rw [decide_eq_false e] at hd
    have e1 : ordersP ra rb = [[ra, rb], [rb, ra]] := by simp [ordersP, e]
    rw [e1]
    clear e1 e
    have HD := Lib.hid hd
    clear hd
    have BR := Blk.new w #[.int .i64 ra, .int .i64 rb] 39
    have hb : Below w.heap.size w (w.alloc (.cells #[.int .i64 ra, .int .i64 rb] 39)) := (Below.refl _ _).alloc (Nat.le_refl _) _
    obtain ⟨x0, x1, xf, xl⟩ := BR.two
    go_enter Tryz.func69, Tryz.ntmps69
    go_wp2_with fail
    clear x0 x1 xf xl
    refine (HD.out _).mono ?_
    rintro e w1 ⟨rfl, hb1⟩
    obtain ⟨x0, x1, xf, xl⟩ := (BR.below hb1).two
    replace hb := chain hb hb1
    clear hb1 BR HD
    go_wp2
    refine bodyPost_ret (v := .slice (some ⟨w1.heap.size + 1 + 1, 0, none⟩) 2 2) (by simp [results, Tryz.results69, go_sem]) rfl ?_
    have B1 := Blk.new w1 #[.int .i64 ra, .int .i64 rb] 2
    have B2 := Blk.new (w1.alloc (.cells #[.int .i64 ra, .int .i64 rb] 2)) #[.int .i64 rb, .int .i64 ra] 2
    have B3 := Blk.new ((w1.alloc (.cells #[.int .i64 ra, .int .i64 rb] 2)).alloc (.cells #[.int .i64 rb, .int .i64 ra] 2)) #[.slice (some ⟨w1.heap.size, 0, none⟩) 2 2, .slice (some ⟨w1.heap.size + 1, 0, none⟩) 2 2] 26
    rw [World.size_alloc, World.size_alloc] at B3
    rw [World.size_alloc] at B2
    refine ⟨_, rfl, fun j o hj => ?_, ((hb.alloc hb.size _).alloc (Nat.le_trans hb.size (by simp)) _).alloc (Nat.le_trans hb.size (by simp; omega)) _⟩
    rcases (by omega : j = 0 ∨ j = 1 ∨ 2 ≤ j) with rfl | rfl | h2
    · simp at hj
      subst hj
      exact ⟨w1.heap.size, by simpa using B3.cell 0, Row.of_blk ((B1.alloc _).alloc _) rfl⟩
    · simp at hj
      subst hj
      exact ⟨w1.heap.size + 1, by simpa using B3.cell 1, Row.of_blk (B2.alloc _) rfl⟩
    · obtain ⟨j, rfl⟩ := Nat.exists_eq_add_of_le h2
      rw [Nat.add_comm] at hj
      simp at hj
theorem hasDie_any (p c h s d : Int) (w : World) :
    Calls Tryz.prog 91 #[.agg #[.int .i64 p, .int .i64 c, .int .i64 h, .int .i64 s], .int .i64 d] w fun e w' => e = .returned (.bool (inB d 1 s)) ∧ Below w.heap.size w w' := by
  have hb : Below w.heap.size w (w.alloc (.cells #[.int .i64 p, .int .i64 c, .int .i64 h, .int .i64 s] 25)) := (Below.refl _ _).alloc (Nat.le_refl _) _
  unfold inB
  rw [Bool.decide_and]
  by_cases g1 : 1 ≤ d
  · rw [decide_eq_true g1, Bool.true_and]
    go_enter Tryz.func91, Tryz.ntmps91
    go_wp2
    go_ret
    exact ⟨by first | rfl | (simp; done), hb⟩
  · rw [decide_eq_false g1, Bool.false_and]
    go_enter Tryz.func91, Tryz.ntmps91
    go_wp2
    go_ret
    exact ⟨by first | rfl | (simp; done), hb⟩
def rlB (s ra rb : Int) : Bool := inB ra 1 s && (inB rb 1 s && decide (rb ≤ ra))
theorem rlB_in (s ra rb : Int) : rlB s ra rb = (inB ra 1 s && inB rb 1 ra) := by
  unfold rlB inB
  rw [Bool.eq_iff_iff]
  simp only [Bool.and_eq_true, decide_eq_true_eq]
  omega
set_option maxRecDepth 8000 in
set_option maxHeartbeats 1000000 in
theorem hasRoll_any (p c h s ra rb : Int) (w : World) :
    Calls Tryz.prog 68 #[.agg #[.int .i64 p, .int .i64 c, .int .i64 h, .int .i64 s], .agg #[.int .i64 ra, .int .i64 rb]] w fun e w' => e = .returned (.bool (rlB s ra rb)) ∧ Below w.heap.size w w' := by
  obtain ⟨BV, BR, hb, hz⟩ := two_new w #[.int .i64 p, .int .i64 c, .int .i64 h, .int .i64 s] #[.int .i64 ra, .int .i64 rb] 25 39
  obtain ⟨x0, x1, x2, x3, xf, xl⟩ := BV.four
  obtain ⟨z0, z1, zf, zl⟩ := BR.two
  have hA := fun W => hasDie_any p c h s ra W
  have hB := fun W => hasDie_any p c h s rb W
  have hC := fun W => rollOfFaces_any ra rb W
  unfold rlB
  obtain ⟨A, hAe⟩ : ∃ z, inB ra 1 s = z := ⟨_, rfl⟩
  obtain ⟨B, hBe⟩ : ∃ z, inB rb 1 s = z := ⟨_, rfl⟩
  rw [hAe] at hA
  rw [hBe] at hB
  rw [hAe, hBe]
  clear hAe hBe
  have HA := Lib.hid hA
  have HB := Lib.hid hB
  clear hA hB
  cases A with
  | false =>
    rw [Bool.false_and]
    clear hC
    go_enter Tryz.func68, Tryz.ntmps68
    go_wp2_with fail
    clear x0 x1 x2 x3 xf xl z0 z1 zf zl
    generalize ((w.alloc (.cells #[.int .i64 p, .int .i64 c, .int .i64 h, .int .i64 s] 25)).alloc (.cells #[.int .i64 ra, .int .i64 rb] 39)) = v0 at *
    have hd_ : v0.drew.heap.size = v0.heap.size := rfl
    replace BV := BV.drew
    replace BR := BR.drew
    replace hb := hb.drew
    refine wp_region_held_drew (S := fun w' => w'.cell? ⟨w.heap.size, 0, none⟩ = some (.int .i64 p) ∧ w'.cell? ⟨w.heap.size, 1, none⟩ = some (.int .i64 c) ∧ w'.cell? ⟨w.heap.size, 2, none⟩ = some (.int .i64 h) ∧ w'.cell? ⟨w.heap.size, 3, none⟩ = some (.int .i64 s) ∧ w'.cell? ⟨(w.heap.size + 1), 0, none⟩ = some (.int .i64 ra) ∧ w'.cell? ⟨(w.heap.size + 1), 1, none⟩ = some (.int .i64 rb)) (by kernel_rfl) ⟨BV.four.1, BV.four.2.1, BV.four.2.2.1, BV.four.2.2.2.1, BR.two.1, BR.two.2.1⟩ (fun hHeld => ?_)
    clear hHeld
    generalize v0.drew = vd at *
    have hHeld : vd.cell? ⟨w.heap.size, 0, none⟩ = some (.int .i64 p) ∧ vd.cell? ⟨w.heap.size, 1, none⟩ = some (.int .i64 c) ∧ vd.cell? ⟨w.heap.size, 2, none⟩ = some (.int .i64 h) ∧ vd.cell? ⟨w.heap.size, 3, none⟩ = some (.int .i64 s) ∧ vd.cell? ⟨(w.heap.size + 1), 0, none⟩ = some (.int .i64 ra) ∧ vd.cell? ⟨(w.heap.size + 1), 1, none⟩ = some (.int .i64 rb) := ⟨BV.four.1, BV.four.2.1, BV.four.2.2.1, BV.four.2.2.2.1, BR.two.1, BR.two.2.1⟩
    refine tk 0 5 ?_
    refine tk 1 6 ?_
    refine tk 2 7 ?_
    refine rdk 3 8 fun K hK => ?_
    go_simp
    refine (HA.out _).mono ?_
    rintro e w2 ⟨rfl, hb2⟩
    replace BV := BV.below hb2
    replace BR := BR.below hb2
    replace hb := chain hb hb2
    clear hb2
    (try go_wp2_with fail)
    refine hko hK (Blk.f4 BV (Blk.l2 BR)) fun hHeld => ?_
    clear hK K
    refine tk 4 9 ?_
    refine tkv 5 10 ?_
    refine tkv 6 11 ?_
    refine tkv 7 12 ?_
    refine tkv 8 13 ?_
    refine tk 9 14 ?_
    refine tk 10 15 ?_
    refine tkv 11 16 ?_
    refine tkv 12 17 ?_
    refine tkv 13 18 ?_
    refine tkv 14 19 ?_
    refine tkv 15 20 ?_
    refine tkv 16 21 ?_
    refine tkv 17 22 ?_
    refine tk 18 23 ?_
    refine tk 19 4 ?_
    refine wpAnyH_done (by kernel_rfl) ?_ _
    clear hHeld
    go_wp2_with fail
    go_ret
    exact ⟨rfl, hb⟩
  | true =>
    rw [Bool.true_and]
    cases B with
    | false =>
      rw [Bool.false_and]
      clear hC
      go_enter Tryz.func68, Tryz.ntmps68
      go_wp2_with fail
      clear x0 x1 x2 x3 xf xl z0 z1 zf zl
      generalize ((w.alloc (.cells #[.int .i64 p, .int .i64 c, .int .i64 h, .int .i64 s] 25)).alloc (.cells #[.int .i64 ra, .int .i64 rb] 39)) = v0 at *
      have hd_ : v0.drew.heap.size = v0.heap.size := rfl
      replace BV := BV.drew
      replace BR := BR.drew
      replace hb := hb.drew
      refine wp_region_held_drew (S := fun w' => w'.cell? ⟨w.heap.size, 0, none⟩ = some (.int .i64 p) ∧ w'.cell? ⟨w.heap.size, 1, none⟩ = some (.int .i64 c) ∧ w'.cell? ⟨w.heap.size, 2, none⟩ = some (.int .i64 h) ∧ w'.cell? ⟨w.heap.size, 3, none⟩ = some (.int .i64 s) ∧ w'.cell? ⟨(w.heap.size + 1), 0, none⟩ = some (.int .i64 ra) ∧ w'.cell? ⟨(w.heap.size + 1), 1, none⟩ = some (.int .i64 rb)) (by kernel_rfl) ⟨BV.four.1, BV.four.2.1, BV.four.2.2.1, BV.four.2.2.2.1, BR.two.1, BR.two.2.1⟩ (fun hHeld => ?_)
      clear hHeld
      generalize v0.drew = vd at *
      have hHeld : vd.cell? ⟨w.heap.size, 0, none⟩ = some (.int .i64 p) ∧ vd.cell? ⟨w.heap.size, 1, none⟩ = some (.int .i64 c) ∧ vd.cell? ⟨w.heap.size, 2, none⟩ = some (.int .i64 h) ∧ vd.cell? ⟨w.heap.size, 3, none⟩ = some (.int .i64 s) ∧ vd.cell? ⟨(w.heap.size + 1), 0, none⟩ = some (.int .i64 ra) ∧ vd.cell? ⟨(w.heap.size + 1), 1, none⟩ = some (.int .i64 rb) := ⟨BV.four.1, BV.four.2.1, BV.four.2.2.1, BV.four.2.2.2.1, BR.two.1, BR.two.2.1⟩
      refine tk 0 5 ?_
      refine tk 1 6 ?_
      refine tk 2 7 ?_
      refine rdk 3 8 fun K hK => ?_
      go_simp
      refine (HA.out _).mono ?_
      rintro e w2 ⟨rfl, hb2⟩
      replace BV := BV.below hb2
      replace BR := BR.below hb2
      replace hb := chain hb hb2
      clear hb2
      (try go_wp2_with fail)
      refine hko hK (Blk.f4 BV (Blk.l2 BR)) fun hHeld => ?_
      clear hK K
      refine tk 4 9 ?_
      refine tk 5 10 ?_
      refine tk 6 11 ?_
      refine tk 7 12 ?_
      refine rdk 8 13 fun K hK => ?_
      go_simp
      refine (HB.out _).mono ?_
      rintro e w3 ⟨rfl, hb3⟩
      replace BV := BV.below hb3
      replace BR := BR.below hb3
      replace hb := chain hb hb3
      clear hb3
      (try go_wp2_with fail)
      refine hko hK (Blk.f4 BV (Blk.l2 BR)) fun hHeld => ?_
      clear hK K
      refine tk 9 14 ?_
      refine tk 10 15 ?_
      refine tkv 11 16 ?_
      refine tkv 12 17 ?_
      refine tkv 13 18 ?_
      refine tkv 14 19 ?_
      refine tkv 15 20 ?_
      refine tkv 16 21 ?_
      refine tkv 17 22 ?_
      refine tk 18 23 ?_
      refine tk 19 4 ?_
      refine wpAnyH_done (by kernel_rfl) ?_ _
      clear hHeld
      go_wp2_with fail
      go_ret
      exact ⟨rfl, hb⟩
    | true =>
      rw [Bool.true_and]
      by_cases q : rb ≤ ra
      · rw [decide_eq_true q]
        rw [show (prR ra rb).1 = ra by rw [prR_A]; omega, show (prR ra rb).2 = rb by rw [prR_B]; omega] at hC
        have HC := Lib.hid hC
        clear hC q
        go_enter Tryz.func68, Tryz.ntmps68
        go_wp2_with fail
        clear x0 x1 x2 x3 xf xl z0 z1 zf zl
        generalize ((w.alloc (.cells #[.int .i64 p, .int .i64 c, .int .i64 h, .int .i64 s] 25)).alloc (.cells #[.int .i64 ra, .int .i64 rb] 39)) = v0 at *
        have hd_ : v0.drew.heap.size = v0.heap.size := rfl
        replace BV := BV.drew
        replace BR := BR.drew
        replace hb := hb.drew
        refine wp_region_held_drew (S := fun w' => w'.cell? ⟨w.heap.size, 0, none⟩ = some (.int .i64 p) ∧ w'.cell? ⟨w.heap.size, 1, none⟩ = some (.int .i64 c) ∧ w'.cell? ⟨w.heap.size, 2, none⟩ = some (.int .i64 h) ∧ w'.cell? ⟨w.heap.size, 3, none⟩ = some (.int .i64 s) ∧ w'.cell? ⟨(w.heap.size + 1), 0, none⟩ = some (.int .i64 ra) ∧ w'.cell? ⟨(w.heap.size + 1), 1, none⟩ = some (.int .i64 rb)) (by kernel_rfl) ⟨BV.four.1, BV.four.2.1, BV.four.2.2.1, BV.four.2.2.2.1, BR.two.1, BR.two.2.1⟩ (fun hHeld => ?_)
        clear hHeld
        generalize v0.drew = vd at *
        have hHeld : vd.cell? ⟨w.heap.size, 0, none⟩ = some (.int .i64 p) ∧ vd.cell? ⟨w.heap.size, 1, none⟩ = some (.int .i64 c) ∧ vd.cell? ⟨w.heap.size, 2, none⟩ = some (.int .i64 h) ∧ vd.cell? ⟨w.heap.size, 3, none⟩ = some (.int .i64 s) ∧ vd.cell? ⟨(w.heap.size + 1), 0, none⟩ = some (.int .i64 ra) ∧ vd.cell? ⟨(w.heap.size + 1), 1, none⟩ = some (.int .i64 rb) := ⟨BV.four.1, BV.four.2.1, BV.four.2.2.1, BV.four.2.2.2.1, BR.two.1, BR.two.2.1⟩
        refine tk 0 5 ?_
        refine tk 1 6 ?_
        refine tk 2 7 ?_
        refine rdk 3 8 fun K hK => ?_
        go_simp
        refine (HA.out _).mono ?_
        rintro e w2 ⟨rfl, hb2⟩
        replace BV := BV.below hb2
        replace BR := BR.below hb2
        replace hb := chain hb hb2
        clear hb2
        (try go_wp2_with fail)
        refine hko hK (Blk.f4 BV (Blk.l2 BR)) fun hHeld => ?_
        clear hK K
        refine tk 4 9 ?_
        refine tk 5 10 ?_
        refine tk 6 11 ?_
        refine tk 7 12 ?_
        refine rdk 8 13 fun K hK => ?_
        go_simp
        refine (HB.out _).mono ?_
        rintro e w3 ⟨rfl, hb3⟩
        replace BV := BV.below hb3
        replace BR := BR.below hb3
        replace hb := chain hb hb3
        clear hb3
        (try go_wp2_with fail)
        refine hko hK (Blk.f4 BV (Blk.l2 BR)) fun hHeld => ?_
        clear hK K
        refine tk 9 14 ?_
        refine tk 10 15 ?_
        refine tk 11 16 ?_
        refine tk 12 17 ?_
        refine tk 13 18 ?_
        refine tk 14 19 ?_
        refine tk 15 20 ?_
        refine rdk 16 21 fun K hK => ?_
        go_simp
        refine (HC.out _).mono ?_
        rintro e w4 ⟨rfl, hb4⟩
        replace BV := BV.below hb4
        replace BR := BR.below hb4
        replace hb := chain hb hb4
        clear hb4
        (try go_wp2_with fail)
        refine hko hK (Blk.f4 BV (Blk.l2 BR)) fun hHeld => ?_
        clear hK K
        refine tk 17 22 ?_
        refine tk 18 23 ?_
        refine tk 19 4 ?_
        refine wpAnyH_done (by kernel_rfl) ?_ _
        clear hHeld
        go_wp2_with fail
        go_ret
        exact ⟨rfl, hb⟩
      · rw [decide_eq_false q]
        rw [show (prR ra rb).1 = rb by rw [prR_A]; omega, show (prR ra rb).2 = ra by rw [prR_B]; omega] at hC
        have HC := Lib.hid hC
        have f0 : (ra == rb) = false := by rw [beq_eq_false_iff_ne]; omega
        clear hC q
        go_enter Tryz.func68, Tryz.ntmps68
        go_wp2_with fail
        clear x0 x1 x2 x3 xf xl z0 z1 zf zl
        generalize ((w.alloc (.cells #[.int .i64 p, .int .i64 c, .int .i64 h, .int .i64 s] 25)).alloc (.cells #[.int .i64 ra, .int .i64 rb] 39)) = v0 at *
        have hd_ : v0.drew.heap.size = v0.heap.size := rfl
        replace BV := BV.drew
        replace BR := BR.drew
        replace hb := hb.drew
        refine wp_region_held_drew (S := fun w' => w'.cell? ⟨w.heap.size, 0, none⟩ = some (.int .i64 p) ∧ w'.cell? ⟨w.heap.size, 1, none⟩ = some (.int .i64 c) ∧ w'.cell? ⟨w.heap.size, 2, none⟩ = some (.int .i64 h) ∧ w'.cell? ⟨w.heap.size, 3, none⟩ = some (.int .i64 s) ∧ w'.cell? ⟨(w.heap.size + 1), 0, none⟩ = some (.int .i64 ra) ∧ w'.cell? ⟨(w.heap.size + 1), 1, none⟩ = some (.int .i64 rb)) (by kernel_rfl) ⟨BV.four.1, BV.four.2.1, BV.four.2.2.1, BV.four.2.2.2.1, BR.two.1, BR.two.2.1⟩ (fun hHeld => ?_)
        clear hHeld
        generalize v0.drew = vd at *
        have hHeld : vd.cell? ⟨w.heap.size, 0, none⟩ = some (.int .i64 p) ∧ vd.cell? ⟨w.heap.size, 1, none⟩ = some (.int .i64 c) ∧ vd.cell? ⟨w.heap.size, 2, none⟩ = some (.int .i64 h) ∧ vd.cell? ⟨w.heap.size, 3, none⟩ = some (.int .i64 s) ∧ vd.cell? ⟨(w.heap.size + 1), 0, none⟩ = some (.int .i64 ra) ∧ vd.cell? ⟨(w.heap.size + 1), 1, none⟩ = some (.int .i64 rb) := ⟨BV.four.1, BV.four.2.1, BV.four.2.2.1, BV.four.2.2.2.1, BR.two.1, BR.two.2.1⟩
        refine tk 0 5 ?_
        refine tk 1 6 ?_
        refine tk 2 7 ?_
        refine rdk 3 8 fun K hK => ?_
        go_simp
        refine (HA.out _).mono ?_
        rintro e w2 ⟨rfl, hb2⟩
        replace BV := BV.below hb2
        replace BR := BR.below hb2
        replace hb := chain hb hb2
        clear hb2
        (try go_wp2_with fail)
        refine hko hK (Blk.f4 BV (Blk.l2 BR)) fun hHeld => ?_
        clear hK K
        refine tk 4 9 ?_
        refine tk 5 10 ?_
        refine tk 6 11 ?_
        refine tk 7 12 ?_
        refine rdk 8 13 fun K hK => ?_
        go_simp
        refine (HB.out _).mono ?_
        rintro e w3 ⟨rfl, hb3⟩
        replace BV := BV.below hb3
        replace BR := BR.below hb3
        replace hb := chain hb hb3
        clear hb3
        (try go_wp2_with fail)
        refine hko hK (Blk.f4 BV (Blk.l2 BR)) fun hHeld => ?_
        clear hK K
        refine tk 9 14 ?_
        refine tk 10 15 ?_
        refine tk 11 16 ?_
        refine tk 12 17 ?_
        refine tk 13 18 ?_
        refine tk 14 19 ?_
        refine tk 15 20 ?_
        refine rdk 16 21 fun K hK => ?_
        go_simp
        refine (HC.out _).mono ?_
        rintro e w4 ⟨rfl, hb4⟩
        replace BV := BV.below hb4
        replace BR := BR.below hb4
        replace hb := chain hb hb4
        clear hb4
        (try go_wp2_with fail)
        refine hko hK (Blk.f4 BV (Blk.l2 BR)) fun hHeld => ?_
        clear hK K
        refine tk 17 22 ?_
        refine tk 18 23 ?_
        refine tk 19 4 ?_
        refine wpAnyH_done (by kernel_rfl) ?_ _
        clear hHeld
        go_wp2_with fail
        go_ret
        exact ⟨rfl, hb⟩
end Go.Proofs.YtnlclmlnpkncoaaGreat
