/- Texts of a proof, laid together. -/
import Derived.Test.YtfomfbfcnenhbaaGreatV36
import Derived.Test.YtfomfbfcnenhbaaGreatV39
import Derived.Test.YtfomfbfcnenhbaaGreatV30
import Derived.Test.YtfomfbfcnenhbaaGreatV40
import Derived.Deep.LoopGhost
namespace Go.Proofs.YtfomfbfcnenhbaaGreat
open Go.ChangeShapes Go.WideShapes Go.ChangeAt Go.RowKit
set_option linter.unusedVariables false
set_option linter.unusedSimpArgs false
set_option maxRecDepth 4000
theorem QRow.grm {t : Tm} {w w' : World} {g : Nat} {l : List PQ} (hI : TmI t w) (h : QRow w g l) (hg : Gr t.gk t.gv w w') : QRow w' g l := by
  obtain ⟨cur, hB, r⟩ := h
  exact ⟨cur, hI.gr hB hg (by decide) (by decide), r⟩
theorem Row.grm {t : Tm} {w w' : World} {g : Nat} {xs : List Int} (hI : TmI t w) (h : Row w g xs) (hg : Gr t.gk t.gv w w') : Row w' g xs := by
  obtain ⟨cur, hB, r⟩ := h
  exact ⟨cur, hI.gr hB hg (by decide) (by decide), r⟩
def BmGot (t : Tm) (b : Option (Nat × Int)) (N : Nat) (w : World) (e : Ending) (w' : World) : Prop := ∃ (i n d : Int) (ok : Bool), e = .returned (.tuple #[.int .i64 i, .agg #[.int .i64 n, .int .i64 d], .bool ok]) ∧ TmI t w' ∧ Gr t.gk t.gv w w' ∧
  match b with
  | some q => ok = true ∧ i = (q.1 : Int) ∧ q.1 < N ∧ IsP t.S n d q.2
  | none => ok = false
set_option maxRecDepth 8000 in
set_option maxHeartbeats 2000000 in
theorem l12Best_any (t : Tm) (hS : 1 ≤ t.S ∧ t.S ≤ 6) (n : Int) (IH : WmOk t n) (l : List PQ) (N : Nat) (ys : List Int) (gl k : Nat) (a2 : Option Addr) (n2 c2 : Nat) (w : World) (hI : TmI t w) (hN : l.length = N) (h0 : 0 < N) (hle : N ≤ 1048576) (hQ : QRow w gl l) (hrw : ∀ x ∈ l, Row w x.1 x.2.2) (hcp : QCap l) (hL : ∀ z ∈ nmQ l, t.In z ∧ pwT ys + pwT z < n) (hy : t.In ys) (hy0 : ys.sum ≠ 0) (hn2 : ys.length = n2) (hc2 : n2 ≤ c2) (hr2 : RF t w a2 ys) :
    Calls Tryz.prog 61 #[.pointer (some ⟨t.g, 0, none⟩), .slice (some ⟨gl, 0, none⟩) N k, .slice a2 n2 c2] w (BmGot t (bst (tp t.S) (wc t.S ys) (nmQ l)) N w) := by
  have htp := tp_in hS
  have hin : ∀ z ∈ nmQ l, ∀ x, wc t.S ys z = some x → 0 ≤ x ∧ x ≤ tp t.S := fun z hz x h => by
    have hy' : Ps t.p t.c t.h (t.S : Int) ys := hy
    have hz' : Ps t.p t.c t.h (t.S : Int) z := (hL z hz).1
    obtain ⟨a1, a2, a3, -⟩ := hy'.po
    exact wc_in hS a2 a3 a1 hz'.po.1 h
  have HN := Lib.hid hN
  have HL := Lib.hid hL
  have HIN := Lib.hid hin
  have HY := Lib.hid hy
  have HY0 := Lib.hid hy0
  have HQ0 := Lib.hid hQ
  have HRW := Lib.hid hrw
  have HCP := Lib.hid hcp
  have HR2 := Lib.hid hr2
  have HI0 := Lib.hid hI
  have HN2 := Lib.hid hn2
  have HC2 := Lib.hid hc2
  have hl := hI.lts
  have n0i : (N : Int) ≤ 1048576 := by omega
  obtain ⟨z7, hz7e⟩ : ∃ z, w.heap.size = z := ⟨_, rfl⟩
  obtain ⟨z10, hz10e⟩ : ∃ z, w.heap.size + 1 = z := ⟨_, rfl⟩
  obtain ⟨BZ, BG, hal, hz⟩ := two_new w #[.int .i64 0, .int .i64 0] #[.int .i64 0, .int .i64 0] 30 30
  have hg : Gr t.gk t.gv w ((w.alloc (.cells #[.int .i64 0, .int .i64 0] 30)).alloc (.cells #[.int .i64 0, .int .i64 0] 30)) := Gr.of hal
  replace hI := hI.below hal
  have hzs : w.heap.size + 1 < ((w.alloc (.cells #[.int .i64 0, .int .i64 0] 30)).alloc (.cells #[.int .i64 0, .int .i64 0] 30)).heap.size := by rw [hz]; omega
  have hz7 : w.heap.size ≤ z7 := by omega
  have hz10 : w.heap.size ≤ z10 := by omega
  have hz710 : z7 < z10 := by omega
  have hz7k : t.g < z7 ∧ t.gk < z7 ∧ t.gv < z7 := by omega
  clear hal hz hL hin hy hy0 hN hQ hrw hcp hr2 hn2 hc2
  go_enter Tryz.func61, Tryz.ntmps61
  go_wp2_with fail
  rw [hz7e] at BZ
  rw [hz10e] at BG hzs
  (try rw [hz7e])
  (try rw [hz10e])
  (try rw [show z7 + 1 = z10 by omega])
  generalize ((w.alloc (.cells #[.int .i64 0, .int .i64 0] 30)).alloc (.cells #[.int .i64 0, .int .i64 0] 30)) = w1 at *
  clear hz7e hz10e
  go_loopg [9, 11] N (fun m fv i wr => ∃ (W : World) (j : Nat) (q : Nat × Int) (bn bd : Int), W = wr ∧ j ≤ N ∧ m = N - j ∧ i = .int .i64 j ∧ fv = .int .i64 (q.1 : Int) ∧ bstA (tp t.S) (wc t.S ys) (nmQ l) j = some q ∧ (0 < j → q.1 < j ∧ IsP t.S bn bd q.2) ∧ (-1 ≤ q.2 ∧ q.2 ≤ tp t.S ∧ (j = 0 → q.2 = -1) ∧ (0 < j → 0 ≤ q.2)) ∧ TmI t W ∧ Gr t.gk t.gv w W ∧ Blk W z7 #[.int .i64 0, .int .i64 0] 30 ∧ Blk W z10 #[.int .i64 bn, .int .i64 bd] 30 ∧ z10 < W.heap.size)
  case atStart => exact ⟨w1, 0, (0, -1), 0, 0, rfl, by omega, by omega, by go_num, rfl, rfl, fun h => absurd h (by omega), ⟨by dsimp only; omega, by dsimp only; omega, fun _ => rfl, fun h => by omega⟩, hI, hg, BZ, BG, hzs⟩
  case round =>
    clear hI BZ BG hg
    obtain ⟨wr, j, ⟨qi, qv⟩, bn, bd, hWW, hj, hm, rfl, rfl, hq, hf, hqb, hI, hg, BZ, BG, hsz⟩ := hrel
    subst hWW
    dsimp only at hf hqb
    have HQ := Lib.hid hq
    have HF := Lib.hid hf
    have HQB := Lib.hid hqb
    clear hq hf hqb
    by_cases hlt : j < N
    · have hlt' : (j : Int) < (N : Int) := by omega
      have j0 : (0 : Int) ≤ (j : Int) := by omega
      obtain ⟨⟨gj, kj, zs⟩, hx⟩ : ∃ x, l[j]? = some x := ⟨_, List.getElem?_eq_getElem (by rw [HN.out]; exact hlt)⟩
      have hxm := List.mem_of_getElem? hx
      have hzm := HL.out zs (List.mem_map.2 ⟨_, hxm, rfl⟩)
      have hin := HIN.out zs (List.mem_map.2 ⟨_, hxm, rfl⟩)
      have hgd : (nmQ l).getD j [] = zs := by rw [List.getD_eq_getElem?_getD, List.getElem?_map, hx]; rfl
      have hrj := HRW.out _ hxm
      have hcj := HCP.out _ hxm
      dsimp only at hrj hcj
      have c0 : CellIs wr gl j (.slice (some ⟨gj, 0, none⟩) zs.length kj) := QRow.at (HQ0.out.grm HI0.out hg) j _ hx
      unfold CellIs at c0
      have hst : bstA (tp t.S) (wc t.S ys) (nmQ l) (j + 1) = match wc t.S ys zs with | none => none | some x => if qv < tp t.S - x then some (j, tp t.S - x) else some (qi, qv) := by
        rw [bstA, HQ.out]
        dsimp only
        rw [hgd]
        cases wc t.S ys zs <;> rfl
      have HST := Lib.hid hst
      have HA := Lib.hid (l12After_any t hS n IH zs ys (some ⟨gj, 0, none⟩) a2 zs.length n2 kj c2 wr hI hzm.1 HY.out rfl HN2.out hcj HC2.out ((RF.row HI0.out hrj).gr hg) (HR2.out.gr hg) hzm.2 HY0.out)
      obtain ⟨LZ, hLZ⟩ : ∃ z, zs.length = z := ⟨_, rfl⟩
      rw [hLZ] at HA c0
      have HIN2 := Lib.hid hin
      clear hx hxm hzm hin hgd hrj hcj hst hLZ
      go_wp2_with fail
      refine (HA.out).mono ?_
      rintro e w3 ⟨n0, d0, b0, rfl, hp, hI3, hga⟩
      have hs3 := hga.size
      replace BZ := BZ.gr hga (by omega) (by omega)
      replace BG := BG.gr hga (by omega) (by omega)
      replace hg := hg.trans hga
      clear hI hga c0 HA
      have hal : Below w3.heap.size w3 (w3.alloc (.cells #[.int .i64 n0, .int .i64 d0] 30)) := (Below.refl _ _).alloc (Nat.le_refl _) _
      have BX := Blk.new w3 #[.int .i64 n0, .int .i64 d0] 30
      replace BZ := BZ.below hal
      replace BG := BG.below hal
      have hI := hI3.below hal
      replace hg := hg.then hal
      have hs4 := hal.size
      obtain ⟨z12, hz12⟩ : ∃ z, w3.heap.size = z := ⟨_, rfl⟩
      rw [hz12] at BX
      clear hI3 hal
      cases hw : wc t.S ys zs with
      | none =>
        rw [hw] at hp
        obtain rfl : b0 = false := hp
        have hst := HST.out
        rw [hw] at hst
        have hnone : bst (tp t.S) (wc t.S ys) (nmQ l) = none := bstA_none hst _ (by rw [List.length_map, HN.out]; omega)
        have HNO := Lib.hid hnone
        clear hst hnone hw
        obtain ⟨x0, x1, xf, xl⟩ := BZ.two
        go_wp2_with fail
        (try rw [hz12])
        generalize (w3.alloc (.cells #[.int .i64 n0, .int .i64 d0] 30)) = w4 at *
        have BRn := BZ.set2 (.int .i64 0) (.int .i64 0)
        obtain ⟨u0, u1, uf, ul⟩ := BRn.two
        refine bodyPost_ret (v := .tuple #[.int .i64 0, .agg #[.int .i64 0, .int .i64 0], .bool false]) (by simp [results, Tryz.results61, go_sem, u0, u1]) rfl ?_
        exact ⟨0, 0, 0, false, rfl, (hI.other (by omega) (by omega) (by omega)).other (by omega) (by omega) (by omega), (hg.set hz7).set hz7, by rw [HNO.out]⟩
      | some x =>
        rw [hw] at hp
        obtain ⟨rfl, hmp⟩ := hp
        have hxin := HIN2.out x hw
        have hst := HST.out
        rw [hw] at hst
        dsimp only at hst hmp
        obtain ⟨y, hye⟩ : ∃ y, tp t.S - x = y := ⟨_, rfl⟩
        rw [hye] at hst hmp
        have hyin : 0 ≤ y ∧ y ≤ tp t.S := by omega
        have HM := Lib.hid hmp
        clear hw hye hmp hxin
        by_cases hj0 : j = 0
        · have hnx : bstA (tp t.S) (wc t.S ys) (nmQ l) (j + 1) = some (j, y) := by
            have := HQB.out.2.2.1 hj0
            rw [hst, if_pos (by omega)]
          clear hst
          have f0 : ((j : Int) == 0) = true := by rw [beq_iff_eq]; omega
          go_wp2_with fail
          (try rw [hz12])
          generalize (w3.alloc (.cells #[.int .i64 n0, .int .i64 d0] 30)) = w4 at *
          replace hI := hI.drew
          replace BX := BX.drew
          replace BG := BG.drew
          replace BZ := BZ.drew
          replace hg := hg.drew
          refine wp_region_held_drew (S := fun w' => w'.cell? ⟨t.g, 0, none⟩ = some (.int .i64 t.p) ∧ w'.cell? ⟨t.g, 1, none⟩ = some (.int .i64 t.c) ∧ w'.cell? ⟨t.g, 2, none⟩ = some (.int .i64 t.h) ∧ w'.cell? ⟨t.g, 3, none⟩ = some (.int .i64 (t.S : Int)) ∧ w'.cell? ⟨z12, 0, none⟩ = some (.int .i64 n0) ∧ w'.cell? ⟨z12, 1, none⟩ = some (.int .i64 d0) ∧ w'.cell? ⟨z10, 0, none⟩ = some (.int .i64 bn) ∧ w'.cell? ⟨z10, 1, none⟩ = some (.int .i64 bd)) (by kernel_rfl) ⟨hI.st.seven.1, hI.st.seven.2.1, hI.st.seven.2.2.1, hI.st.seven.2.2.2.1, BX.two.1, BX.two.2.1, BG.two.1, BG.two.2.1⟩ (fun hHeld => ?_)
          clear hHeld
          have hz_vd : w4.drew.heap.size = w4.heap.size := rfl
          generalize w4.drew = vd at *
          have hHeld : vd.cell? ⟨t.g, 0, none⟩ = some (.int .i64 t.p) ∧ vd.cell? ⟨t.g, 1, none⟩ = some (.int .i64 t.c) ∧ vd.cell? ⟨t.g, 2, none⟩ = some (.int .i64 t.h) ∧ vd.cell? ⟨t.g, 3, none⟩ = some (.int .i64 (t.S : Int)) ∧ vd.cell? ⟨z12, 0, none⟩ = some (.int .i64 n0) ∧ vd.cell? ⟨z12, 1, none⟩ = some (.int .i64 d0) ∧ vd.cell? ⟨z10, 0, none⟩ = some (.int .i64 bn) ∧ vd.cell? ⟨z10, 1, none⟩ = some (.int .i64 bd) := ⟨hI.st.seven.1, hI.st.seven.2.1, hI.st.seven.2.2.1, hI.st.seven.2.2.2.1, BX.two.1, BX.two.2.1, BG.two.1, BG.two.2.1⟩
          refine wpAnyH_take (i := 0) (oi := ⟨some 34, _, _, _, _, _⟩) (v := ?_) rfl (by kernel_rfl) (by kernel_rfl) (by kernel_rfl) (fun _ _ _ h => h) (Or.inl ⟨by rfl, ?_⟩) (by assumption) ?_
          rotate_left
          · intro w hSw; (try dsimp only at hSw); go_simp; (try (with_reducible rfl))
          try simp only [Act.put, List.setIfInBounds_toArray, List.set_cons_zero, List.set_cons_succ]
          refine wpAnyH_take (i := 1) (oi := ⟨some 35, _, _, _, _, _⟩) (v := ?_) rfl (by kernel_rfl) (by kernel_rfl) (by kernel_rfl) (fun _ _ _ h => h) (Or.inl ⟨by rfl, ?_⟩) (by assumption) ?_
          rotate_left
          · intro w hSw; (try dsimp only at hSw); go_simp; (try (with_reducible rfl))
          try simp only [Act.put, List.setIfInBounds_toArray, List.set_cons_zero, List.set_cons_succ]
          refine wpAnyH_take (i := 2) (oi := ⟨some 36, _, _, _, _, _⟩) (v := ?_) rfl (by kernel_rfl) (by kernel_rfl) (by kernel_rfl) (fun _ _ _ h => h) (Or.inl ⟨by rfl, ?_⟩) (by assumption) ?_
          rotate_left
          · intro w hSw; (try dsimp only at hSw); go_simp; (try (with_reducible rfl))
          try simp only [Act.put, List.setIfInBounds_toArray, List.set_cons_zero, List.set_cons_succ]
          refine wpAnyH_take (i := 3) (oi := ⟨some 37, _, _, _, _, _⟩) (v := undef) rfl (by kernel_rfl) (by kernel_rfl) (by kernel_rfl) (fun _ _ _ h => h) (Or.inr ⟨by rfl, rfl⟩) (by assumption) ?_
          try simp only [Act.put, List.setIfInBounds_toArray, List.set_cons_zero, List.set_cons_succ]
          refine wpAnyH_take (i := 4) (oi := ⟨some 38, _, _, _, _, _⟩) (v := undef) rfl (by kernel_rfl) (by kernel_rfl) (by kernel_rfl) (fun _ _ _ h => h) (Or.inr ⟨by rfl, rfl⟩) (by assumption) ?_
          try simp only [Act.put, List.setIfInBounds_toArray, List.set_cons_zero, List.set_cons_succ]
          refine wpAnyH_take (i := 5) (oi := ⟨some 39, _, _, _, _, _⟩) (v := undef) rfl (by kernel_rfl) (by kernel_rfl) (by kernel_rfl) (fun _ _ _ h => h) (Or.inr ⟨by rfl, rfl⟩) (by assumption) ?_
          try simp only [Act.put, List.setIfInBounds_toArray, List.set_cons_zero, List.set_cons_succ]
          refine wpAnyH_take (i := 6) (oi := ⟨some 40, _, _, _, _, _⟩) (v := undef) rfl (by kernel_rfl) (by kernel_rfl) (by kernel_rfl) (fun _ _ _ h => h) (Or.inr ⟨by rfl, rfl⟩) (by assumption) ?_
          try simp only [Act.put, List.setIfInBounds_toArray, List.set_cons_zero, List.set_cons_succ]
          refine wpAnyH_take (i := 7) (oi := ⟨some 41, _, _, _, _, _⟩) (v := undef) rfl (by kernel_rfl) (by kernel_rfl) (by kernel_rfl) (fun _ _ _ h => h) (Or.inr ⟨by rfl, rfl⟩) (by assumption) ?_
          try simp only [Act.put, List.setIfInBounds_toArray, List.set_cons_zero, List.set_cons_succ]
          refine wpAnyH_take (i := 8) (oi := ⟨some 42, _, _, _, _, _⟩) (v := undef) rfl (by kernel_rfl) (by kernel_rfl) (by kernel_rfl) (fun _ _ _ h => h) (Or.inr ⟨by rfl, rfl⟩) (by assumption) ?_
          try simp only [Act.put, List.setIfInBounds_toArray, List.set_cons_zero, List.set_cons_succ]
          refine wpAnyH_take (i := 9) (oi := ⟨some 43, _, _, _, _, _⟩) (v := undef) rfl (by kernel_rfl) (by kernel_rfl) (by kernel_rfl) (fun _ _ _ h => h) (Or.inr ⟨by rfl, rfl⟩) (by assumption) ?_
          try simp only [Act.put, List.setIfInBounds_toArray, List.set_cons_zero, List.set_cons_succ]
          refine wpAnyH_take (i := 10) (oi := ⟨some 44, _, _, _, _, _⟩) (v := undef) rfl (by kernel_rfl) (by kernel_rfl) (by kernel_rfl) (fun _ _ _ h => h) (Or.inr ⟨by rfl, rfl⟩) (by assumption) ?_
          try simp only [Act.put, List.setIfInBounds_toArray, List.set_cons_zero, List.set_cons_succ]
          refine wpAnyH_take (i := 11) (oi := ⟨some 45, _, _, _, _, _⟩) (v := ?_) rfl (by kernel_rfl) (by kernel_rfl) (by kernel_rfl) (fun _ _ _ h => h) (Or.inl ⟨by rfl, ?_⟩) (by assumption) ?_
          rotate_left
          · intro w hSw; (try dsimp only at hSw); go_simp; (try (with_reducible rfl))
          try simp only [Act.put, List.setIfInBounds_toArray, List.set_cons_zero, List.set_cons_succ]
          refine wpAnyH_done (by kernel_rfl) ?_ _
          clear hHeld
          have HNX := Lib.hid hnx
          clear hnx
          obtain ⟨x0, x1, xf, xl⟩ := BX.two
          obtain ⟨g0, g1, gf, gll⟩ := BG.two
          go_wp2_with fail
          have hI3 := (hI.other (z := z10) (o := 0) (u := .int .i64 n0) (by omega) (by omega) (by omega)).other (z := z10) (o := 1) (u := .int .i64 d0) (by omega) (by omega) (by omega)
          have hg3 := (hg.set (z := z10) (o := 0) (u := .int .i64 n0) hz10).set (z := z10) (o := 1) (u := .int .i64 d0) hz10
          have BG3 := BG.set2 (.int .i64 n0) (.int .i64 d0)
          have BZ3 := BZ.far2 (B := z10) (by omega) (.int .i64 n0) (.int .i64 d0)
          go_roundg (N - (j + 1))
          case measure => omega
          case rel => exact ⟨_, j + 1, (j, y), n0, d0, rfl, by omega, rfl, by go_num, by first | rfl | (congr 1; dsimp only; omega), HNX.out, fun _ => ⟨by dsimp only; omega, HM.out⟩, ⟨by dsimp only; omega, by dsimp only; omega, fun h => by omega, fun _ => by dsimp only; omega⟩, hI3, hg3, BZ3, BG3, by simp; omega⟩
        · have f0 : ((j : Int) == 0) = false := by rw [beq_eq_false_iff_ne]; omega
          obtain ⟨hqj, hbq⟩ := HF.out (by omega)
          have hC := fun W => by
            obtain ⟨i0, i1, i2, i3, i4⟩ := isP_depth hS HM.out
            obtain ⟨j0', j1, j2, j3, j4⟩ := isP_depth hS hbq
            exact l09Compare_any t.p t.c t.h t.S hS n0 d0 bn bd ⟨i3, i4⟩ ⟨j3, j4⟩ ⟨i0, i2⟩ ⟨j0', j2⟩ W
          rw [isP_cmp hS HM.out hbq] at hC
          have HBQ := Lib.hid hbq
          by_cases hgt : qv < y
          · have hnx : bstA (tp t.S) (wc t.S ys) (nmQ l) (j + 1) = some (j, y) := by rw [hst, if_pos hgt]
            have hs : sg3 y qv = 1 := by unfold sg3; rw [if_neg (by omega), if_pos hgt]
            rw [hs] at hC
            have HC := Lib.hid hC
            clear hst hC hbq hs
            go_wp2_with fail
            (try rw [hz12])
            generalize (w3.alloc (.cells #[.int .i64 n0, .int .i64 d0] 30)) = w4 at *
            replace hI := hI.drew
            replace BX := BX.drew
            replace BG := BG.drew
            replace BZ := BZ.drew
            replace hg := hg.drew
            refine wp_region_held_drew (S := fun w' => w'.cell? ⟨t.g, 0, none⟩ = some (.int .i64 t.p) ∧ w'.cell? ⟨t.g, 1, none⟩ = some (.int .i64 t.c) ∧ w'.cell? ⟨t.g, 2, none⟩ = some (.int .i64 t.h) ∧ w'.cell? ⟨t.g, 3, none⟩ = some (.int .i64 (t.S : Int)) ∧ w'.cell? ⟨z12, 0, none⟩ = some (.int .i64 n0) ∧ w'.cell? ⟨z12, 1, none⟩ = some (.int .i64 d0) ∧ w'.cell? ⟨z10, 0, none⟩ = some (.int .i64 bn) ∧ w'.cell? ⟨z10, 1, none⟩ = some (.int .i64 bd)) (by kernel_rfl) ⟨hI.st.seven.1, hI.st.seven.2.1, hI.st.seven.2.2.1, hI.st.seven.2.2.2.1, BX.two.1, BX.two.2.1, BG.two.1, BG.two.2.1⟩ (fun hHeld => ?_)
            clear hHeld
            have hz_vd : w4.drew.heap.size = w4.heap.size := rfl
            generalize w4.drew = vd at *
            have hHeld : vd.cell? ⟨t.g, 0, none⟩ = some (.int .i64 t.p) ∧ vd.cell? ⟨t.g, 1, none⟩ = some (.int .i64 t.c) ∧ vd.cell? ⟨t.g, 2, none⟩ = some (.int .i64 t.h) ∧ vd.cell? ⟨t.g, 3, none⟩ = some (.int .i64 (t.S : Int)) ∧ vd.cell? ⟨z12, 0, none⟩ = some (.int .i64 n0) ∧ vd.cell? ⟨z12, 1, none⟩ = some (.int .i64 d0) ∧ vd.cell? ⟨z10, 0, none⟩ = some (.int .i64 bn) ∧ vd.cell? ⟨z10, 1, none⟩ = some (.int .i64 bd) := ⟨hI.st.seven.1, hI.st.seven.2.1, hI.st.seven.2.2.1, hI.st.seven.2.2.2.1, BX.two.1, BX.two.2.1, BG.two.1, BG.two.2.1⟩
            refine wpAnyH_take (i := 0) (oi := ⟨some 34, _, _, _, _, _⟩) (v := ?_) rfl (by kernel_rfl) (by kernel_rfl) (by kernel_rfl) (fun _ _ _ h => h) (Or.inl ⟨by rfl, ?_⟩) (by assumption) ?_
            rotate_left
            · intro w hSw; (try dsimp only at hSw); go_simp; (try (with_reducible rfl))
            try simp only [Act.put, List.setIfInBounds_toArray, List.set_cons_zero, List.set_cons_succ]
            refine wpAnyH_take (i := 1) (oi := ⟨some 35, _, _, _, _, _⟩) (v := ?_) rfl (by kernel_rfl) (by kernel_rfl) (by kernel_rfl) (fun _ _ _ h => h) (Or.inl ⟨by rfl, ?_⟩) (by assumption) ?_
            rotate_left
            · intro w hSw; (try dsimp only at hSw); go_simp; (try (with_reducible rfl))
            try simp only [Act.put, List.setIfInBounds_toArray, List.set_cons_zero, List.set_cons_succ]
            refine wpAnyH_take (i := 2) (oi := ⟨some 36, _, _, _, _, _⟩) (v := ?_) rfl (by kernel_rfl) (by kernel_rfl) (by kernel_rfl) (fun _ _ _ h => h) (Or.inl ⟨by rfl, ?_⟩) (by assumption) ?_
            rotate_left
            · intro w hSw; (try dsimp only at hSw); go_simp; (try (with_reducible rfl))
            try simp only [Act.put, List.setIfInBounds_toArray, List.set_cons_zero, List.set_cons_succ]
            refine wpAnyH_take (i := 3) (oi := ⟨some 37, _, _, _, _, _⟩) (v := ?_) rfl (by kernel_rfl) (by kernel_rfl) (by kernel_rfl) (fun _ _ _ h => h) (Or.inl ⟨by rfl, ?_⟩) (by assumption) ?_
            rotate_left
            · intro w hSw; (try dsimp only at hSw); go_simp; (try (with_reducible rfl))
            try simp only [Act.put, List.setIfInBounds_toArray, List.set_cons_zero, List.set_cons_succ]
            refine wpAnyH_take (i := 4) (oi := ⟨some 38, _, _, _, _, _⟩) (v := ?_) rfl (by kernel_rfl) (by kernel_rfl) (by kernel_rfl) (fun _ _ _ h => h) (Or.inl ⟨by rfl, ?_⟩) (by assumption) ?_
            rotate_left
            · intro w hSw; (try dsimp only at hSw); go_simp; (try (with_reducible rfl))
            try simp only [Act.put, List.setIfInBounds_toArray, List.set_cons_zero, List.set_cons_succ]
            refine wpAnyH_take (i := 5) (oi := ⟨some 39, _, _, _, _, _⟩) (v := ?_) rfl (by kernel_rfl) (by kernel_rfl) (by kernel_rfl) (fun _ _ _ h => h) (Or.inl ⟨by rfl, ?_⟩) (by assumption) ?_
            rotate_left
            · intro w hSw; (try dsimp only at hSw); go_simp; (try (with_reducible rfl))
            try simp only [Act.put, List.setIfInBounds_toArray, List.set_cons_zero, List.set_cons_succ]
            refine wpAnyH_take (i := 6) (oi := ⟨some 40, _, _, _, _, _⟩) (v := ?_) rfl (by kernel_rfl) (by kernel_rfl) (by kernel_rfl) (fun _ _ _ h => h) (Or.inl ⟨by rfl, ?_⟩) (by assumption) ?_
            rotate_left
            · intro w hSw; (try dsimp only at hSw); go_simp; (try (with_reducible rfl))
            try simp only [Act.put, List.setIfInBounds_toArray, List.set_cons_zero, List.set_cons_succ]
            refine wpAnyH_take (i := 7) (oi := ⟨some 41, _, _, _, _, _⟩) (v := ?_) rfl (by kernel_rfl) (by kernel_rfl) (by kernel_rfl) (fun _ _ _ h => h) (Or.inl ⟨by rfl, ?_⟩) (by assumption) ?_
            rotate_left
            · intro w hSw; (try dsimp only at hSw); go_simp; (try (with_reducible rfl))
            try simp only [Act.put, List.setIfInBounds_toArray, List.set_cons_zero, List.set_cons_succ]
            refine wpAnyH_take (i := 8) (oi := ⟨some 42, _, _, _, _, _⟩) (v := ?_) rfl (by kernel_rfl) (by kernel_rfl) (by kernel_rfl) (fun _ _ _ h => h) (Or.inl ⟨by rfl, ?_⟩) (by assumption) ?_
            rotate_left
            · intro w hSw; (try dsimp only at hSw); go_simp; (try (with_reducible rfl))
            try simp only [Act.put, List.setIfInBounds_toArray, List.set_cons_zero, List.set_cons_succ]
            refine wpAnyH_ready (rs := [9]) (by kernel_rfl) (by simp) ?_
            refine AllReadyH.cons (o := ⟨some 43, _, _, _, _, _⟩) rfl (fun K hK => ?_) AllReadyH.nil
            go_simp
            refine (HC.out _).mono ?_
            rintro e w5 ⟨rfl, hb5⟩
            replace hI := hI.below hb5
            replace BX := BX.below hb5
            replace BG := BG.below hb5
            replace BZ := BZ.below hb5
            replace hg := hg.then hb5
            clear hb5
            (try go_wp2_with fail)
            refine hK.out _ _ ⟨hI.st.seven.1, hI.st.seven.2.1, hI.st.seven.2.2.1, hI.st.seven.2.2.2.1, BX.two.1, BX.two.2.1, BG.two.1, BG.two.2.1⟩ (fun hHeld => ?_)
            clear hK K
            try simp only [Act.put, List.setIfInBounds_toArray, List.set_cons_zero, List.set_cons_succ]
            refine wpAnyH_take (i := 10) (oi := ⟨some 44, _, _, _, _, _⟩) (v := ?_) rfl (by kernel_rfl) (by kernel_rfl) (by kernel_rfl) (fun _ _ _ h => h) (Or.inl ⟨by rfl, ?_⟩) (by assumption) ?_
            rotate_left
            · intro w hSw; (try dsimp only at hSw); go_simp; (try (with_reducible rfl))
            try simp only [Act.put, List.setIfInBounds_toArray, List.set_cons_zero, List.set_cons_succ]
            refine wpAnyH_take (i := 11) (oi := ⟨some 45, _, _, _, _, _⟩) (v := ?_) rfl (by kernel_rfl) (by kernel_rfl) (by kernel_rfl) (fun _ _ _ h => h) (Or.inl ⟨by rfl, ?_⟩) (by assumption) ?_
            rotate_left
            · intro w hSw; (try dsimp only at hSw); go_simp; (try (with_reducible rfl))
            try simp only [Act.put, List.setIfInBounds_toArray, List.set_cons_zero, List.set_cons_succ]
            refine wpAnyH_done (by kernel_rfl) ?_ _
            clear hHeld
            have HNX := Lib.hid hnx
            clear hnx
            obtain ⟨x0, x1, xf, xl⟩ := BX.two
            obtain ⟨g0, g1, gf, gll⟩ := BG.two
            go_wp2_with fail
            have hI3 := (hI.other (z := z10) (o := 0) (u := .int .i64 n0) (by omega) (by omega) (by omega)).other (z := z10) (o := 1) (u := .int .i64 d0) (by omega) (by omega) (by omega)
            have hg3 := (hg.set (z := z10) (o := 0) (u := .int .i64 n0) hz10).set (z := z10) (o := 1) (u := .int .i64 d0) hz10
            have BG3 := BG.set2 (.int .i64 n0) (.int .i64 d0)
            have BZ3 := BZ.far2 (B := z10) (by omega) (.int .i64 n0) (.int .i64 d0)
            go_roundg (N - (j + 1))
            case measure => omega
            case rel => exact ⟨_, j + 1, (j, y), n0, d0, rfl, by omega, rfl, by go_num, by first | rfl | (congr 1; dsimp only; omega), HNX.out, fun _ => ⟨by dsimp only; omega, HM.out⟩, ⟨by dsimp only; omega, by dsimp only; omega, fun h => by omega, fun _ => by dsimp only; omega⟩, hI3, hg3, BZ3, BG3, by simp; omega⟩
          · have hnx : bstA (tp t.S) (wc t.S ys) (nmQ l) (j + 1) = some (qi, qv) := by rw [hst, if_neg hgt]
            have hs : ¬ 0 < sg3 y qv := by unfold sg3; rw [if_neg hgt]; split <;> omega
            obtain ⟨G, hG⟩ : ∃ g, sg3 y qv = g := ⟨_, rfl⟩
            rw [hG] at hC hs
            have HC := Lib.hid hC
            have HNX := Lib.hid hnx
            clear hst hC hbq hnx hG
            go_wp2_with fail
            (try rw [hz12])
            generalize (w3.alloc (.cells #[.int .i64 n0, .int .i64 d0] 30)) = w4 at *
            replace hI := hI.drew
            replace BX := BX.drew
            replace BG := BG.drew
            replace BZ := BZ.drew
            replace hg := hg.drew
            refine wp_region_held_drew (S := fun w' => w'.cell? ⟨t.g, 0, none⟩ = some (.int .i64 t.p) ∧ w'.cell? ⟨t.g, 1, none⟩ = some (.int .i64 t.c) ∧ w'.cell? ⟨t.g, 2, none⟩ = some (.int .i64 t.h) ∧ w'.cell? ⟨t.g, 3, none⟩ = some (.int .i64 (t.S : Int)) ∧ w'.cell? ⟨z12, 0, none⟩ = some (.int .i64 n0) ∧ w'.cell? ⟨z12, 1, none⟩ = some (.int .i64 d0) ∧ w'.cell? ⟨z10, 0, none⟩ = some (.int .i64 bn) ∧ w'.cell? ⟨z10, 1, none⟩ = some (.int .i64 bd)) (by kernel_rfl) ⟨hI.st.seven.1, hI.st.seven.2.1, hI.st.seven.2.2.1, hI.st.seven.2.2.2.1, BX.two.1, BX.two.2.1, BG.two.1, BG.two.2.1⟩ (fun hHeld => ?_)
            clear hHeld
            have hz_vd : w4.drew.heap.size = w4.heap.size := rfl
            generalize w4.drew = vd at *
            have hHeld : vd.cell? ⟨t.g, 0, none⟩ = some (.int .i64 t.p) ∧ vd.cell? ⟨t.g, 1, none⟩ = some (.int .i64 t.c) ∧ vd.cell? ⟨t.g, 2, none⟩ = some (.int .i64 t.h) ∧ vd.cell? ⟨t.g, 3, none⟩ = some (.int .i64 (t.S : Int)) ∧ vd.cell? ⟨z12, 0, none⟩ = some (.int .i64 n0) ∧ vd.cell? ⟨z12, 1, none⟩ = some (.int .i64 d0) ∧ vd.cell? ⟨z10, 0, none⟩ = some (.int .i64 bn) ∧ vd.cell? ⟨z10, 1, none⟩ = some (.int .i64 bd) := ⟨hI.st.seven.1, hI.st.seven.2.1, hI.st.seven.2.2.1, hI.st.seven.2.2.2.1, BX.two.1, BX.two.2.1, BG.two.1, BG.two.2.1⟩
            refine wpAnyH_take (i := 0) (oi := ⟨some 34, _, _, _, _, _⟩) (v := ?_) rfl (by kernel_rfl) (by kernel_rfl) (by kernel_rfl) (fun _ _ _ h => h) (Or.inl ⟨by rfl, ?_⟩) (by assumption) ?_
            rotate_left
            · intro w hSw; (try dsimp only at hSw); go_simp; (try (with_reducible rfl))
            try simp only [Act.put, List.setIfInBounds_toArray, List.set_cons_zero, List.set_cons_succ]
            refine wpAnyH_take (i := 1) (oi := ⟨some 35, _, _, _, _, _⟩) (v := ?_) rfl (by kernel_rfl) (by kernel_rfl) (by kernel_rfl) (fun _ _ _ h => h) (Or.inl ⟨by rfl, ?_⟩) (by assumption) ?_
            rotate_left
            · intro w hSw; (try dsimp only at hSw); go_simp; (try (with_reducible rfl))
            try simp only [Act.put, List.setIfInBounds_toArray, List.set_cons_zero, List.set_cons_succ]
            refine wpAnyH_take (i := 2) (oi := ⟨some 36, _, _, _, _, _⟩) (v := ?_) rfl (by kernel_rfl) (by kernel_rfl) (by kernel_rfl) (fun _ _ _ h => h) (Or.inl ⟨by rfl, ?_⟩) (by assumption) ?_
            rotate_left
            · intro w hSw; (try dsimp only at hSw); go_simp; (try (with_reducible rfl))
            try simp only [Act.put, List.setIfInBounds_toArray, List.set_cons_zero, List.set_cons_succ]
            refine wpAnyH_take (i := 3) (oi := ⟨some 37, _, _, _, _, _⟩) (v := ?_) rfl (by kernel_rfl) (by kernel_rfl) (by kernel_rfl) (fun _ _ _ h => h) (Or.inl ⟨by rfl, ?_⟩) (by assumption) ?_
            rotate_left
            · intro w hSw; (try dsimp only at hSw); go_simp; (try (with_reducible rfl))
            try simp only [Act.put, List.setIfInBounds_toArray, List.set_cons_zero, List.set_cons_succ]
            refine wpAnyH_take (i := 4) (oi := ⟨some 38, _, _, _, _, _⟩) (v := ?_) rfl (by kernel_rfl) (by kernel_rfl) (by kernel_rfl) (fun _ _ _ h => h) (Or.inl ⟨by rfl, ?_⟩) (by assumption) ?_
            rotate_left
            · intro w hSw; (try dsimp only at hSw); go_simp; (try (with_reducible rfl))
            try simp only [Act.put, List.setIfInBounds_toArray, List.set_cons_zero, List.set_cons_succ]
            refine wpAnyH_take (i := 5) (oi := ⟨some 39, _, _, _, _, _⟩) (v := ?_) rfl (by kernel_rfl) (by kernel_rfl) (by kernel_rfl) (fun _ _ _ h => h) (Or.inl ⟨by rfl, ?_⟩) (by assumption) ?_
            rotate_left
            · intro w hSw; (try dsimp only at hSw); go_simp; (try (with_reducible rfl))
            try simp only [Act.put, List.setIfInBounds_toArray, List.set_cons_zero, List.set_cons_succ]
            refine wpAnyH_take (i := 6) (oi := ⟨some 40, _, _, _, _, _⟩) (v := ?_) rfl (by kernel_rfl) (by kernel_rfl) (by kernel_rfl) (fun _ _ _ h => h) (Or.inl ⟨by rfl, ?_⟩) (by assumption) ?_
            rotate_left
            · intro w hSw; (try dsimp only at hSw); go_simp; (try (with_reducible rfl))
            try simp only [Act.put, List.setIfInBounds_toArray, List.set_cons_zero, List.set_cons_succ]
            refine wpAnyH_take (i := 7) (oi := ⟨some 41, _, _, _, _, _⟩) (v := ?_) rfl (by kernel_rfl) (by kernel_rfl) (by kernel_rfl) (fun _ _ _ h => h) (Or.inl ⟨by rfl, ?_⟩) (by assumption) ?_
            rotate_left
            · intro w hSw; (try dsimp only at hSw); go_simp; (try (with_reducible rfl))
            try simp only [Act.put, List.setIfInBounds_toArray, List.set_cons_zero, List.set_cons_succ]
            refine wpAnyH_take (i := 8) (oi := ⟨some 42, _, _, _, _, _⟩) (v := ?_) rfl (by kernel_rfl) (by kernel_rfl) (by kernel_rfl) (fun _ _ _ h => h) (Or.inl ⟨by rfl, ?_⟩) (by assumption) ?_
            rotate_left
            · intro w hSw; (try dsimp only at hSw); go_simp; (try (with_reducible rfl))
            try simp only [Act.put, List.setIfInBounds_toArray, List.set_cons_zero, List.set_cons_succ]
            refine wpAnyH_ready (rs := [9]) (by kernel_rfl) (by simp) ?_
            refine AllReadyH.cons (o := ⟨some 43, _, _, _, _, _⟩) rfl (fun K hK => ?_) AllReadyH.nil
            go_simp
            refine (HC.out _).mono ?_
            rintro e w5 ⟨rfl, hb5⟩
            replace hI := hI.below hb5
            replace BX := BX.below hb5
            replace BG := BG.below hb5
            replace BZ := BZ.below hb5
            replace hg := hg.then hb5
            clear hb5
            (try go_wp2_with fail)
            refine hK.out _ _ ⟨hI.st.seven.1, hI.st.seven.2.1, hI.st.seven.2.2.1, hI.st.seven.2.2.2.1, BX.two.1, BX.two.2.1, BG.two.1, BG.two.2.1⟩ (fun hHeld => ?_)
            clear hK K
            try simp only [Act.put, List.setIfInBounds_toArray, List.set_cons_zero, List.set_cons_succ]
            refine wpAnyH_take (i := 10) (oi := ⟨some 44, _, _, _, _, _⟩) (v := ?_) rfl (by kernel_rfl) (by kernel_rfl) (by kernel_rfl) (fun _ _ _ h => h) (Or.inl ⟨by rfl, ?_⟩) (by assumption) ?_
            rotate_left
            · intro w hSw; (try dsimp only at hSw); go_simp; (try (with_reducible rfl))
            try simp only [Act.put, List.setIfInBounds_toArray, List.set_cons_zero, List.set_cons_succ]
            refine wpAnyH_take (i := 11) (oi := ⟨some 45, _, _, _, _, _⟩) (v := ?_) rfl (by kernel_rfl) (by kernel_rfl) (by kernel_rfl) (fun _ _ _ h => h) (Or.inl ⟨by rfl, ?_⟩) (by assumption) ?_
            rotate_left
            · intro w hSw; (try dsimp only at hSw); go_simp; (try (with_reducible rfl))
            try simp only [Act.put, List.setIfInBounds_toArray, List.set_cons_zero, List.set_cons_succ]
            refine wpAnyH_done (by kernel_rfl) ?_ _
            clear hHeld
            go_wp2_with fail
            go_roundg (N - (j + 1))
            case measure => omega
            case rel => exact ⟨_, j + 1, (qi, qv), bn, bd, rfl, by omega, rfl, by go_num, rfl, HNX.out, fun _ => ⟨by dsimp only; omega, HBQ.out⟩, ⟨HQB.out.1, HQB.out.2.1, fun h => by omega, fun _ => HQB.out.2.2.2 (by omega)⟩, hI, hg, BZ, BG, BG.lt⟩
    · obtain rfl : j = N := by omega
      have hfin : bst (tp t.S) (wc t.S ys) (nmQ l) = some (qi, qv) := by
        have := HQ.out
        rw [bst, List.length_map, HN.out]
        exact this
      have HFI := Lib.hid hfin
      clear hfin
      go_wp2_with fail
      replace hI := hI.drew
      replace BG := BG.drew
      replace BZ := BZ.drew
      replace hg := hg.drew
      refine wp_region_held_drew (S := fun w' => w'.cell? ⟨z10, 0, none⟩ = some (.int .i64 bn) ∧ w'.cell? ⟨z10, 1, none⟩ = some (.int .i64 bd)) (by kernel_rfl) ⟨BG.two.1, BG.two.2.1⟩ (fun hHeld => ?_)
      clear hHeld
      have hz_vd : wr.drew.heap.size = wr.heap.size := rfl
      generalize wr.drew = vd at *
      have hHeld : vd.cell? ⟨z10, 0, none⟩ = some (.int .i64 bn) ∧ vd.cell? ⟨z10, 1, none⟩ = some (.int .i64 bd) := ⟨BG.two.1, BG.two.2.1⟩
      refine wpAnyH_take (i := 0) (oi := ⟨some 48, _, _, _, _, _⟩) (v := ?_) rfl (by kernel_rfl) (by kernel_rfl) (by kernel_rfl) (fun _ _ _ h => h) (Or.inl ⟨by rfl, ?_⟩) (by assumption) ?_
      rotate_left
      · intro w hSw; (try dsimp only at hSw); go_simp; (try (with_reducible rfl))
      try simp only [Act.put, List.setIfInBounds_toArray, List.set_cons_zero, List.set_cons_succ]
      refine wpAnyH_take (i := 1) (oi := ⟨some 49, _, _, _, _, _⟩) (v := ?_) rfl (by kernel_rfl) (by kernel_rfl) (by kernel_rfl) (fun _ _ _ h => h) (Or.inl ⟨by rfl, ?_⟩) (by assumption) ?_
      rotate_left
      · intro w hSw; (try dsimp only at hSw); go_simp; (try (with_reducible rfl))
      try simp only [Act.put, List.setIfInBounds_toArray, List.set_cons_zero, List.set_cons_succ]
      refine wpAnyH_take (i := 2) (oi := ⟨some 6, _, _, _, _, _⟩) (v := ?_) rfl (by kernel_rfl) (by kernel_rfl) (by kernel_rfl) (fun _ _ _ h => h) (Or.inl ⟨by rfl, ?_⟩) (by assumption) ?_
      rotate_left
      · intro w hSw; (try dsimp only at hSw); go_simp; (try (with_reducible rfl))
      try simp only [Act.put, List.setIfInBounds_toArray, List.set_cons_zero, List.set_cons_succ]
      refine wpAnyH_ready (rs := [3]) (by kernel_rfl) (by simp) ?_
      refine AllReadyH.cons (o := ⟨none, _, _, _, _, _⟩) rfl (fun K hK => ?_) AllReadyH.nil
      have u0 := BZ.two.1
      have u1 := BZ.two.2.1
      have uf := BZ.two.2.2.1
      have ul := BZ.two.2.2.2
      go_simp
      (try go_wp2_with fail)
      refine hK.out _ _ ⟨(BG.far2 (B := z7) (by omega) (.int .i64 bn) (.int .i64 bd)).two.1, (BG.far2 (B := z7) (by omega) (.int .i64 bn) (.int .i64 bd)).two.2.1⟩ (fun hHeld => ?_)
      clear hK K
      try simp only [Act.put, List.setIfInBounds_toArray, List.set_cons_zero, List.set_cons_succ]
      refine wpAnyH_take (i := 4) (oi := ⟨some 8, _, _, _, _, _⟩) (v := ?_) rfl (by kernel_rfl) (by kernel_rfl) (by kernel_rfl) (fun _ _ _ h => h) (Or.inl ⟨by rfl, ?_⟩) (by assumption) ?_
      rotate_left
      · intro w hSw; (try dsimp only at hSw); go_simp; (try (with_reducible rfl))
      try simp only [Act.put, List.setIfInBounds_toArray, List.set_cons_zero, List.set_cons_succ]
      refine wpAnyH_done (by kernel_rfl) ?_ _
      clear hHeld
      go_wp2_with fail
      have BRn := BZ.set2 (.int .i64 bn) (.int .i64 bd)
      obtain ⟨u0, u1, uf, ul⟩ := BRn.two
      refine bodyPost_ret (v := .tuple #[.int .i64 (qi : Int), .agg #[.int .i64 bn, .int .i64 bd], .bool true]) (by simp [results, Tryz.results61, go_sem, u0, u1]) rfl ?_
      exact ⟨(qi : Int), bn, bd, true, rfl, (hI.other (by omega) (by omega) (by omega)).other (by omega) (by omega) (by omega), (hg.set hz7).set hz7, by rw [HFI.out]; exact ⟨rfl, rfl, (HF.out h0).1, (HF.out h0).2⟩⟩
end Go.Proofs.YtfomfbfcnenhbaaGreat
