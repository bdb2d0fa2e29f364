/- Texts of a proof, laid together. -/
import Derived.Test.YtnlclmlnpkncoaaGreatW12
import Derived.Deep.LoopGhost
import Derived.Test.YtnlclmlnpkncoaaGreatW32
import Derived.Test.YtnlclmlnpkncoaaGreatW35
import Derived.Test.YtnlclmlnpkncoaaGreatW25
import Derived.Test.YtnlclmlnpkncoaaGreatW07
import Derived.Test.YtnlclmlnpkncoaaGreatW02
namespace Go.Proofs.YtnlclmlnpkncoaaGreat
open Go.ChangeShapes Go.WideShapes Go.ChangeAt Go.RowKit
set_option linter.unusedVariables false
set_option linter.unusedSimpArgs false
set_option maxRecDepth 4000
set_option maxRecDepth 8000 in
set_option maxHeartbeats 1000000 in
theorem l09Compare_any (p c h : Int) (S : Nat) (hS : 1 ≤ S ∧ S ≤ 6) (xn xd yn yd : Int) (hx : -1000000000000000000 ≤ xn ∧ xn ≤ 1000000000000000000) (hy : -1000000000000000000 ≤ yn ∧ yn ≤ 1000000000000000000) (hd : 0 ≤ xd ∧ xd < ((nn S : Nat) : Int)) (he : 0 ≤ yd ∧ yd < ((nn S : Nat) : Int)) (w : World) :
    Calls Tryz.prog 84 #[.agg #[.int .i64 p, .int .i64 c, .int .i64 h, .int .i64 (S : Int)], .agg #[.int .i64 xn, .int .i64 xd], .agg #[.int .i64 yn, .int .i64 yd]] w fun e w' => e = .returned (.int .i64 (cmV S xn xd yn yd)) ∧ Below w.heap.size w w' := by
  have hn := nn_range hS
  have hsx := fun W => l09Split_any p c h S hS xn xd hx hd W
  have hsy := fun W => l09Split_any p c h S hS yn yd hy he W
  rw [cmV_lex hS.1 hd.1 he.1]
  obtain ⟨LX, hLX⟩ : ∃ L, (xn / ((scN S xd.toNat : Nat) : Int) :: dgI S (xn % ((scN S xd.toNat : Nat) : Int)) xd.toNat) = L := ⟨_, rfl⟩
  obtain ⟨LY, hLY⟩ : ∃ L, (yn / ((scN S yd.toNat : Nat) : Int) :: dgI S (yn % ((scN S yd.toNat : Nat) : Int)) yd.toNat) = L := ⟨_, rfl⟩
  have lx : LX.length ≤ 62 := by rw [← hLX, List.length_cons, dgI_length]; omega
  have ly : LY.length ≤ 62 := by rw [← hLY, List.length_cons, dgI_length]; omega
  rw [hLX] at hsx
  rw [hLY] at hsy
  rw [hLX, hLY]
  obtain ⟨RES, hRES⟩ : ∃ r, lexP LX LY = r := ⟨_, rfl⟩
  rw [hRES]
  have HSX := Lib.hid hsx
  have HSY := Lib.hid hsy
  obtain ⟨BV, BX, BY, hb, hz⟩ := three_new w #[.int .i64 p, .int .i64 c, .int .i64 h, .int .i64 (S : Int)] #[.int .i64 xn, .int .i64 xd] #[.int .i64 yn, .int .i64 yd] 25 35 35
  clear hsx hsy hLX hLY hx hy hd he hn
  obtain ⟨x0, x1, x2, x3, xf, xl⟩ := BV.four
  obtain ⟨a0, a1, af, al⟩ := BX.two
  obtain ⟨b0, b1, bf, bl⟩ := BY.two
  go_enter Tryz.func84, Tryz.ntmps84
  go_wp2_with (go_at_call 117; first | (refine (HSX.out _).mono ?_; clear HSX; rintro e w1 ⟨aX, kX, rfl, oX, hb1⟩; replace BV := BV.below hb1; replace BX := BX.below hb1; replace BY := BY.below hb1; replace hb := chain hb hb1; obtain ⟨x0, x1, x2, x3, xf, xl⟩ := BV.four; obtain ⟨a0, a1, af, al⟩ := BX.two; obtain ⟨b0, b1, bf, bl⟩ := BY.two; clear hb1) | (refine (HSY.out _).mono ?_; clear HSY; rintro e w2 ⟨aY, kY, rfl, oY, hb2⟩; replace oX := oX.below hb2; replace BV := BV.below hb2; replace BX := BX.below hb2; replace BY := BY.below hb2; replace hb := chain hb hb2; obtain ⟨x0, x1, x2, x3, xf, xl⟩ := BV.four; obtain ⟨a0, a1, af, al⟩ := BX.two; obtain ⟨b0, b1, bf, bl⟩ := BY.two; clear hb2))
  clear x0 x1 x2 x3 xf xl a0 a1 af al b0 b1 bf bl
  have iX := oX.irow
  have iY := oY.irow
  have hbw := hb
  clear oX oY BV BX BY hb hz
  go_loopg [9] (max LX.length LY.length) (fun n q9 wr => ∃ k : Nat, k ≤ max LX.length LY.length ∧ n = max LX.length LY.length - k ∧ q9 = .int .i64 (k : Int) ∧ lexP (LX.drop k) (LY.drop k) = RES ∧ wr = w2)
  case atStart => exact ⟨0, by omega, by omega, rfl, by rw [List.drop_zero, List.drop_zero]; exact hRES, rfl⟩
  case round =>
    obtain ⟨k, hk, hm, rfl, hR, rfl⟩ := hrel
    clear hRES
    have hk0 : (0 : Int) ≤ (k : Int) := by omega
    have hk62 : (k : Int) ≤ 62 := by omega
    by_cases h1 : k < LX.length
    · by_cases h2 : k < LY.length
      · skip
        obtain ⟨g1, o1, rfl, hc1⟩ := iX k h1
        obtain ⟨u, hu⟩ : ∃ u, LX.getD k 0 = u := ⟨_, rfl⟩
        rw [hu] at hc1
        have hdx : LX.drop k = u :: LX.drop (k + 1) := by
          rw [List.drop_eq_getElem_cons h1]
          congr 1
          rw [List.getD_eq_getElem?_getD, List.getElem?_eq_getElem h1] at hu
          simpa using hu
        have h1I : (k : Int) < (LX.length : Int) := by omega
        obtain ⟨g2, o2, rfl, hc2⟩ := iY k h2
        obtain ⟨v, hv⟩ : ∃ v, LY.getD k 0 = v := ⟨_, rfl⟩
        rw [hv] at hc2
        have hdy : LY.drop k = v :: LY.drop (k + 1) := by
          rw [List.drop_eq_getElem_cons h2]
          congr 1
          rw [List.getD_eq_getElem?_getD, List.getElem?_eq_getElem h2] at hv
          simpa using hv
        have h2I : (k : Int) < (LY.length : Int) := by omega
        rw [hdx, hdy, lexP] at hR
        have HN : Hid (sg3 u v = 0 → lexP (LX.drop (k + 1)) (LY.drop (k + 1)) = RES) := Lib.hid (by
          intro q
          rw [if_neg (by rw [q]; decide)] at hR
          exact hR)
        unfold sg3 at hR
        by_cases c1 : u < v
        · rw [if_pos c1, if_pos (by decide)] at hR
          subst hR
          clear hdx hdy hu hv
          go_wp2
          go_ret
          exact ⟨rfl, hbw⟩
        · by_cases c2 : v < u
          · rw [if_neg c1, if_pos c2, if_pos (by decide)] at hR
            subst hR
            clear hdx hdy hu hv
            go_wp2
            go_ret
            exact ⟨rfl, hbw⟩
          · have HZ := Lib.hid (HN.out (by unfold sg3; rw [if_neg c1, if_neg c2]))
            clear hR HN
            clear hdx hdy hu hv
            go_wp2
            go_roundg (max LX.length LY.length - (k + 1))
            case measure => omega
            case rel => exact ⟨k + 1, by omega, rfl, by go_num, HZ.out, rfl⟩
      · skip
        obtain ⟨g1, o1, rfl, hc1⟩ := iX k h1
        obtain ⟨u, hu⟩ : ∃ u, LX.getD k 0 = u := ⟨_, rfl⟩
        rw [hu] at hc1
        have hdx : LX.drop k = u :: LX.drop (k + 1) := by
          rw [List.drop_eq_getElem_cons h1]
          congr 1
          rw [List.getD_eq_getElem?_getD, List.getElem?_eq_getElem h1] at hu
          simpa using hu
        have h1I : (k : Int) < (LX.length : Int) := by omega
        have hdy : LY.drop k = [] := List.drop_eq_nil_of_le (by omega)
        have hdy2 : LY.drop (k + 1) = [] := List.drop_eq_nil_of_le (by omega)
        have h2I : ¬ (k : Int) < (LY.length : Int) := by omega
        rw [hdx, hdy, lexP] at hR
        have HN : Hid (sg3 u 0 = 0 → lexP (LX.drop (k + 1)) (LY.drop (k + 1)) = RES) := Lib.hid (by
          intro q
          rw [if_neg (by rw [q]; decide)] at hR
          rw [hdy2]
          exact hR)
        unfold sg3 at hR
        by_cases c1 : u < 0
        · rw [if_pos c1, if_pos (by decide)] at hR
          subst hR
          clear hdx hdy hdy2 hu
          go_wp2
          go_ret
          exact ⟨rfl, hbw⟩
        · by_cases c2 : 0 < u
          · rw [if_neg c1, if_pos c2, if_pos (by decide)] at hR
            subst hR
            clear hdx hdy hdy2 hu
            go_wp2
            go_ret
            exact ⟨rfl, hbw⟩
          · have HZ := Lib.hid (HN.out (by unfold sg3; rw [if_neg c1, if_neg c2]))
            clear hR HN
            clear hdx hdy hdy2 hu
            go_wp2
            go_roundg (max LX.length LY.length - (k + 1))
            case measure => omega
            case rel => exact ⟨k + 1, by omega, rfl, by go_num, HZ.out, rfl⟩
    · by_cases h2 : k < LY.length
      · skip
        have hdx : LX.drop k = [] := List.drop_eq_nil_of_le (by omega)
        have hdx2 : LX.drop (k + 1) = [] := List.drop_eq_nil_of_le (by omega)
        have h1I : ¬ (k : Int) < (LX.length : Int) := by omega
        obtain ⟨g2, o2, rfl, hc2⟩ := iY k h2
        obtain ⟨v, hv⟩ : ∃ v, LY.getD k 0 = v := ⟨_, rfl⟩
        rw [hv] at hc2
        have hdy : LY.drop k = v :: LY.drop (k + 1) := by
          rw [List.drop_eq_getElem_cons h2]
          congr 1
          rw [List.getD_eq_getElem?_getD, List.getElem?_eq_getElem h2] at hv
          simpa using hv
        have h2I : (k : Int) < (LY.length : Int) := by omega
        rw [hdx, hdy, lexP] at hR
        have HN : Hid (sg3 0 v = 0 → lexP (LX.drop (k + 1)) (LY.drop (k + 1)) = RES) := Lib.hid (by
          intro q
          rw [if_neg (by rw [q]; decide)] at hR
          rw [hdx2]
          exact hR)
        unfold sg3 at hR
        by_cases c1 : 0 < v
        · rw [if_pos c1, if_pos (by decide)] at hR
          subst hR
          clear hdx hdy hdx2 hv
          go_wp2
          go_ret
          exact ⟨rfl, hbw⟩
        · by_cases c2 : v < 0
          · rw [if_neg c1, if_pos c2, if_pos (by decide)] at hR
            subst hR
            clear hdx hdy hdx2 hv
            go_wp2
            go_ret
            exact ⟨rfl, hbw⟩
          · have HZ := Lib.hid (HN.out (by unfold sg3; rw [if_neg c1, if_neg c2]))
            clear hR HN
            clear hdx hdy hdx2 hv
            go_wp2
            go_roundg (max LX.length LY.length - (k + 1))
            case measure => omega
            case rel => exact ⟨k + 1, by omega, rfl, by go_num, HZ.out, rfl⟩
      · skip
        have hdx : LX.drop k = [] := List.drop_eq_nil_of_le (by omega)
        have hdx2 : LX.drop (k + 1) = [] := List.drop_eq_nil_of_le (by omega)
        have h1I : ¬ (k : Int) < (LX.length : Int) := by omega
        have hdy : LY.drop k = [] := List.drop_eq_nil_of_le (by omega)
        have hdy2 : LY.drop (k + 1) = [] := List.drop_eq_nil_of_le (by omega)
        have h2I : ¬ (k : Int) < (LY.length : Int) := by omega
        rw [hdx, hdy, lexP] at hR
        subst hR
        clear hdx hdy hdx2 hdy2
        go_wp2
        go_ret
        exact ⟨rfl, hbw⟩
theorem QRow.grm {t : Tm} {w w' : World} {g : Nat} {l : List PQ} (hI : TmI t w) (h : QRow w g l) (hg : Gr t.gk t.gv w w') : QRow w' g l := by
  obtain ⟨cur, hB, r⟩ := h
  exact ⟨cur, hI.gr hB hg (by decide) (by decide), r⟩
theorem Row.grm {t : Tm} {w w' : World} {g : Nat} {xs : List Int} (hI : TmI t w) (h : Row w g xs) (hg : Gr t.gk t.gv w w') : Row w' g xs := by
  obtain ⟨cur, hB, r⟩ := h
  exact ⟨cur, hI.gr hB hg (by decide) (by decide), r⟩
def BmGot (t : Tm) (b : Option (Nat × Int)) (N : Nat) (w : World) (e : Ending) (w' : World) : Prop := ∃ (i n d : Int) (ok : Bool), e = .returned (.tuple #[.int .i64 i, .agg #[.int .i64 n, .int .i64 d], .bool ok]) ∧ TmI t w' ∧ Gr t.gk t.gv w w' ∧
  match b with
  | some q => ok = true ∧ i = (q.1 : Int) ∧ q.1 < N ∧ IsP t.S n d q.2
  | none => ok = false
set_option maxRecDepth 8000 in
set_option maxHeartbeats 2000000 in
theorem l12Best_any (t : Tm) (hS : 1 ≤ t.S ∧ t.S ≤ 6) (n : Int) (IH : WmOk t n) (l : List PQ) (N : Nat) (ys : List Int) (gl k : Nat) (a2 : Option Addr) (n2 c2 : Nat) (w : World) (hI : TmI t w) (hN : l.length = N) (h0 : 0 < N) (hle : N ≤ 1048576) (hQ : QRow w gl l) (hrw : ∀ x ∈ l, Row w x.1 x.2.2) (hcp : QCap l) (hL : ∀ z ∈ nmQ l, t.In z ∧ pwT ys + pwT z < n) (hy : t.In ys) (hy0 : ys.sum ≠ 0) (hn2 : ys.length = n2) (hc2 : n2 ≤ c2) (hr2 : RF t w a2 ys) :
    Calls Tryz.prog 46 #[.pointer (some ⟨t.g, 0, none⟩), .slice (some ⟨gl, 0, none⟩) N k, .slice a2 n2 c2] w (BmGot t (bst (tp t.S) (wc t.S ys) (nmQ l)) N w) := by
  have htp := tp_in hS
  have hin : ∀ z ∈ nmQ l, ∀ x, wc t.S ys z = some x → 0 ≤ x ∧ x ≤ tp t.S := fun z hz x h => by
    have hy' : Ps t.p t.c t.h (t.S : Int) ys := hy
    have hz' : Ps t.p t.c t.h (t.S : Int) z := (hL z hz).1
    obtain ⟨a1, a2, a3, -⟩ := hy'.po
    exact wc_in hS a2 a3 a1 hz'.po.1 h
  have HN := Lib.hid hN
  have HL := Lib.hid hL
  have HIN := Lib.hid hin
  have HY := Lib.hid hy
  have HY0 := Lib.hid hy0
  have HQ0 := Lib.hid hQ
  have HRW := Lib.hid hrw
  have HCP := Lib.hid hcp
  have HR2 := Lib.hid hr2
  have HI0 := Lib.hid hI
  have HN2 := Lib.hid hn2
  have HC2 := Lib.hid hc2
  have hl := hI.lts
  have n0i : (N : Int) ≤ 1048576 := by omega
  obtain ⟨z7, hz7e⟩ : ∃ z, w.heap.size = z := ⟨_, rfl⟩
  obtain ⟨z10, hz10e⟩ : ∃ z, w.heap.size + 1 = z := ⟨_, rfl⟩
  obtain ⟨BZ, BG, hal, hz⟩ := two_new w #[.int .i64 0, .int .i64 0] #[.int .i64 0, .int .i64 0] 35 35
  have hg : Gr t.gk t.gv w ((w.alloc (.cells #[.int .i64 0, .int .i64 0] 35)).alloc (.cells #[.int .i64 0, .int .i64 0] 35)) := Gr.of hal
  replace hI := hI.below hal
  have hzs : w.heap.size + 1 < ((w.alloc (.cells #[.int .i64 0, .int .i64 0] 35)).alloc (.cells #[.int .i64 0, .int .i64 0] 35)).heap.size := by rw [hz]; omega
  have hz7 : w.heap.size ≤ z7 := by omega
  have hz10 : w.heap.size ≤ z10 := by omega
  have hz710 : z7 < z10 := by omega
  have hz7k : t.g < z7 ∧ t.gk < z7 ∧ t.gv < z7 := by omega
  clear hal hz hL hin hy hy0 hN hQ hrw hcp hr2 hn2 hc2
  go_enter Tryz.func46, Tryz.ntmps46
  go_wp2_with fail
  rw [hz7e] at BZ
  rw [hz10e] at BG hzs
  (try rw [hz7e])
  (try rw [hz10e])
  (try rw [show z7 + 1 = z10 by omega])
  generalize ((w.alloc (.cells #[.int .i64 0, .int .i64 0] 35)).alloc (.cells #[.int .i64 0, .int .i64 0] 35)) = w1 at *
  clear hz7e hz10e
  go_loopg [9, 11] N (fun m fv i wr => ∃ (W : World) (j : Nat) (q : Nat × Int) (bn bd : Int), W = wr ∧ j ≤ N ∧ m = N - j ∧ i = .int .i64 j ∧ fv = .int .i64 (q.1 : Int) ∧ bstA (tp t.S) (wc t.S ys) (nmQ l) j = some q ∧ (0 < j → q.1 < j ∧ IsP t.S bn bd q.2) ∧ (-1 ≤ q.2 ∧ q.2 ≤ tp t.S ∧ (j = 0 → q.2 = -1) ∧ (0 < j → 0 ≤ q.2)) ∧ TmI t W ∧ Gr t.gk t.gv w W ∧ Blk W z7 #[.int .i64 0, .int .i64 0] 35 ∧ Blk W z10 #[.int .i64 bn, .int .i64 bd] 35 ∧ z10 < W.heap.size)
  case atStart => exact ⟨w1, 0, (0, -1), 0, 0, rfl, by omega, by omega, by go_num, rfl, rfl, fun h => absurd h (by omega), ⟨by dsimp only; omega, by dsimp only; omega, fun _ => rfl, fun h => by omega⟩, hI, hg, BZ, BG, hzs⟩
  case round =>
    clear hI BZ BG hg
    obtain ⟨wr, j, ⟨qi, qv⟩, bn, bd, hWW, hj, hm, rfl, rfl, hq, hf, hqb, hI, hg, BZ, BG, hsz⟩ := hrel
    subst hWW
    dsimp only at hf hqb
    have HQ := Lib.hid hq
    have HF := Lib.hid hf
    have HQB := Lib.hid hqb
    clear hq hf hqb
    by_cases hlt : j < N
    · have hlt' : (j : Int) < (N : Int) := by omega
      have j0 : (0 : Int) ≤ (j : Int) := by omega
      obtain ⟨⟨gj, kj, zs⟩, hx⟩ : ∃ x, l[j]? = some x := ⟨_, List.getElem?_eq_getElem (by rw [HN.out]; exact hlt)⟩
      have hxm := List.mem_of_getElem? hx
      have hzm := HL.out zs (List.mem_map.2 ⟨_, hxm, rfl⟩)
      have hin := HIN.out zs (List.mem_map.2 ⟨_, hxm, rfl⟩)
      have hgd : (nmQ l).getD j [] = zs := by rw [List.getD_eq_getElem?_getD, List.getElem?_map, hx]; rfl
      have hrj := HRW.out _ hxm
      have hcj := HCP.out _ hxm
      dsimp only at hrj hcj
      have c0 : CellIs wr gl j (.slice (some ⟨gj, 0, none⟩) zs.length kj) := QRow.at (HQ0.out.grm HI0.out hg) j _ hx
      unfold CellIs at c0
      have hst : bstA (tp t.S) (wc t.S ys) (nmQ l) (j + 1) = match wc t.S ys zs with | none => none | some x => if qv < tp t.S - x then some (j, tp t.S - x) else some (qi, qv) := by
        rw [bstA, HQ.out]
        dsimp only
        rw [hgd]
        cases wc t.S ys zs <;> rfl
      have HST := Lib.hid hst
      have HA := Lib.hid (l12After_any t hS n IH zs ys (some ⟨gj, 0, none⟩) a2 zs.length n2 kj c2 wr hI hzm.1 HY.out rfl HN2.out hcj HC2.out ((RF.row HI0.out hrj).gr hg) (HR2.out.gr hg) hzm.2 HY0.out)
      obtain ⟨LZ, hLZ⟩ : ∃ z, zs.length = z := ⟨_, rfl⟩
      rw [hLZ] at HA c0
      have HIN2 := Lib.hid hin
      clear hx hxm hzm hin hgd hrj hcj hst hLZ
      go_wp2_with fail
      refine (HA.out).mono ?_
      rintro e w3 ⟨n0, d0, b0, rfl, hp, hI3, hga⟩
      have hs3 := hga.size
      replace BZ := BZ.gr hga (by omega) (by omega)
      replace BG := BG.gr hga (by omega) (by omega)
      replace hg := hg.trans hga
      clear hI hga c0 HA
      have hal : Below w3.heap.size w3 (w3.alloc (.cells #[.int .i64 n0, .int .i64 d0] 35)) := (Below.refl _ _).alloc (Nat.le_refl _) _
      have BX := Blk.new w3 #[.int .i64 n0, .int .i64 d0] 35
      replace BZ := BZ.below hal
      replace BG := BG.below hal
      have hI := hI3.below hal
      replace hg := hg.then hal
      have hs4 := hal.size
      obtain ⟨z12, hz12⟩ : ∃ z, w3.heap.size = z := ⟨_, rfl⟩
      rw [hz12] at BX
      clear hI3 hal
      cases hw : wc t.S ys zs with
      | none =>
        rw [hw] at hp
        obtain rfl : b0 = false := hp
        have hst := HST.out
        rw [hw] at hst
        have hnone : bst (tp t.S) (wc t.S ys) (nmQ l) = none := bstA_none hst _ (by rw [List.length_map, HN.out]; omega)
        have HNO := Lib.hid hnone
        clear hst hnone hw
        obtain ⟨x0, x1, xf, xl⟩ := BZ.two
        go_wp2_with fail
        (try rw [hz12])
        generalize (w3.alloc (.cells #[.int .i64 n0, .int .i64 d0] 35)) = w4 at *
        have BRn := BZ.set2 (.int .i64 0) (.int .i64 0)
        obtain ⟨u0, u1, uf, ul⟩ := BRn.two
        refine bodyPost_ret (v := .tuple #[.int .i64 0, .agg #[.int .i64 0, .int .i64 0], .bool false]) (by simp [results, Tryz.results46, go_sem, u0, u1]) rfl ?_
        exact ⟨0, 0, 0, false, rfl, (hI.other (by omega) (by omega) (by omega)).other (by omega) (by omega) (by omega), (hg.set hz7).set hz7, by rw [HNO.out]⟩
      | some x =>
        rw [hw] at hp
        obtain ⟨rfl, hmp⟩ := hp
        have hxin := HIN2.out x hw
        have hst := HST.out
        rw [hw] at hst
        dsimp only at hst hmp
        obtain ⟨y, hye⟩ : ∃ y, tp t.S - x = y := ⟨_, rfl⟩
        rw [hye] at hst hmp
        have hyin : 0 ≤ y ∧ y ≤ tp t.S := by omega
        have HM := Lib.hid hmp
        clear hw hye hmp hxin
        by_cases hj0 : j = 0
        · have hnx : bstA (tp t.S) (wc t.S ys) (nmQ l) (j + 1) = some (j, y) := by
            have := HQB.out.2.2.1 hj0
            rw [hst, if_pos (by omega)]
          clear hst
          have f0 : ((j : Int) == 0) = true := by rw [beq_iff_eq]; omega
          go_wp2_with fail
          (try rw [hz12])
          generalize (w3.alloc (.cells #[.int .i64 n0, .int .i64 d0] 35)) = w4 at *
          replace hI := hI.drew
          replace BX := BX.drew
          replace BG := BG.drew
          replace BZ := BZ.drew
          replace hg := hg.drew
          refine wp_region_held_drew (S := fun w' => w'.cell? ⟨t.g, 0, none⟩ = some (.int .i64 t.p) ∧ w'.cell? ⟨t.g, 1, none⟩ = some (.int .i64 t.c) ∧ w'.cell? ⟨t.g, 2, none⟩ = some (.int .i64 t.h) ∧ w'.cell? ⟨t.g, 3, none⟩ = some (.int .i64 (t.S : Int)) ∧ w'.cell? ⟨z12, 0, none⟩ = some (.int .i64 n0) ∧ w'.cell? ⟨z12, 1, none⟩ = some (.int .i64 d0) ∧ w'.cell? ⟨z10, 0, none⟩ = some (.int .i64 bn) ∧ w'.cell? ⟨z10, 1, none⟩ = some (.int .i64 bd)) (by kernel_rfl) ⟨hI.st.seven.1, hI.st.seven.2.1, hI.st.seven.2.2.1, hI.st.seven.2.2.2.1, BX.two.1, BX.two.2.1, BG.two.1, BG.two.2.1⟩ (fun hHeld => ?_)
          clear hHeld
          have hz_vd : w4.drew.heap.size = w4.heap.size := rfl
          generalize w4.drew = vd at *
          have hHeld : vd.cell? ⟨t.g, 0, none⟩ = some (.int .i64 t.p) ∧ vd.cell? ⟨t.g, 1, none⟩ = some (.int .i64 t.c) ∧ vd.cell? ⟨t.g, 2, none⟩ = some (.int .i64 t.h) ∧ vd.cell? ⟨t.g, 3, none⟩ = some (.int .i64 (t.S : Int)) ∧ vd.cell? ⟨z12, 0, none⟩ = some (.int .i64 n0) ∧ vd.cell? ⟨z12, 1, none⟩ = some (.int .i64 d0) ∧ vd.cell? ⟨z10, 0, none⟩ = some (.int .i64 bn) ∧ vd.cell? ⟨z10, 1, none⟩ = some (.int .i64 bd) := ⟨hI.st.seven.1, hI.st.seven.2.1, hI.st.seven.2.2.1, hI.st.seven.2.2.2.1, BX.two.1, BX.two.2.1, BG.two.1, BG.two.2.1⟩
          refine tk 0 34 ?_
          refine tk 1 35 ?_
          refine tk 2 36 ?_
          refine tkv 3 37 ?_
          refine tkv 4 38 ?_
          refine tkv 5 39 ?_
          refine tkv 6 40 ?_
          refine tkv 7 41 ?_
          refine tkv 8 42 ?_
          refine tkv 9 43 ?_
          refine tkv 10 44 ?_
          refine tk 11 45 ?_
          refine wpAnyH_done (by kernel_rfl) ?_ _
          clear hHeld
          have HNX := Lib.hid hnx
          clear hnx
          obtain ⟨x0, x1, xf, xl⟩ := BX.two
          obtain ⟨g0, g1, gf, gll⟩ := BG.two
          go_wp2_with fail
          have hI3 := (hI.other (z := z10) (o := 0) (u := .int .i64 n0) (by omega) (by omega) (by omega)).other (z := z10) (o := 1) (u := .int .i64 d0) (by omega) (by omega) (by omega)
          have hg3 := (hg.set (z := z10) (o := 0) (u := .int .i64 n0) hz10).set (z := z10) (o := 1) (u := .int .i64 d0) hz10
          have BG3 := BG.set2 (.int .i64 n0) (.int .i64 d0)
          have BZ3 := BZ.far2 (B := z10) (by omega) (.int .i64 n0) (.int .i64 d0)
          go_roundg (N - (j + 1))
          case measure => omega
          case rel => exact ⟨_, j + 1, (j, y), n0, d0, rfl, by omega, rfl, by go_num, by first | rfl | (congr 1; dsimp only; omega), HNX.out, fun _ => ⟨by dsimp only; omega, HM.out⟩, ⟨by dsimp only; omega, by dsimp only; omega, fun h => by omega, fun _ => by dsimp only; omega⟩, hI3, hg3, BZ3, BG3, by simp; omega⟩
        · have f0 : ((j : Int) == 0) = false := by rw [beq_eq_false_iff_ne]; omega
          obtain ⟨hqj, hbq⟩ := HF.out (by omega)
          have hC := fun W => by
            obtain ⟨i0, i1, i2, i3, i4⟩ := isP_depth hS HM.out
            obtain ⟨j0', j1, j2, j3, j4⟩ := isP_depth hS hbq
            exact l09Compare_any t.p t.c t.h t.S hS n0 d0 bn bd ⟨i3, i4⟩ ⟨j3, j4⟩ ⟨i0, i2⟩ ⟨j0', j2⟩ W
          rw [isP_cmp hS HM.out hbq] at hC
          have HBQ := Lib.hid hbq
          by_cases hgt : qv < y
          · have hnx : bstA (tp t.S) (wc t.S ys) (nmQ l) (j + 1) = some (j, y) := by rw [hst, if_pos hgt]
            have hs : sg3 y qv = 1 := by unfold sg3; rw [if_neg (by omega), if_pos hgt]
            rw [hs] at hC
            have HC := Lib.hid hC
            clear hst hC hbq hs
            go_wp2_with fail
            (try rw [hz12])
            generalize (w3.alloc (.cells #[.int .i64 n0, .int .i64 d0] 35)) = w4 at *
            replace hI := hI.drew
            replace BX := BX.drew
            replace BG := BG.drew
            replace BZ := BZ.drew
            replace hg := hg.drew
            refine wp_region_held_drew (S := fun w' => w'.cell? ⟨t.g, 0, none⟩ = some (.int .i64 t.p) ∧ w'.cell? ⟨t.g, 1, none⟩ = some (.int .i64 t.c) ∧ w'.cell? ⟨t.g, 2, none⟩ = some (.int .i64 t.h) ∧ w'.cell? ⟨t.g, 3, none⟩ = some (.int .i64 (t.S : Int)) ∧ w'.cell? ⟨z12, 0, none⟩ = some (.int .i64 n0) ∧ w'.cell? ⟨z12, 1, none⟩ = some (.int .i64 d0) ∧ w'.cell? ⟨z10, 0, none⟩ = some (.int .i64 bn) ∧ w'.cell? ⟨z10, 1, none⟩ = some (.int .i64 bd)) (by kernel_rfl) ⟨hI.st.seven.1, hI.st.seven.2.1, hI.st.seven.2.2.1, hI.st.seven.2.2.2.1, BX.two.1, BX.two.2.1, BG.two.1, BG.two.2.1⟩ (fun hHeld => ?_)
            clear hHeld
            have hz_vd : w4.drew.heap.size = w4.heap.size := rfl
            generalize w4.drew = vd at *
            have hHeld : vd.cell? ⟨t.g, 0, none⟩ = some (.int .i64 t.p) ∧ vd.cell? ⟨t.g, 1, none⟩ = some (.int .i64 t.c) ∧ vd.cell? ⟨t.g, 2, none⟩ = some (.int .i64 t.h) ∧ vd.cell? ⟨t.g, 3, none⟩ = some (.int .i64 (t.S : Int)) ∧ vd.cell? ⟨z12, 0, none⟩ = some (.int .i64 n0) ∧ vd.cell? ⟨z12, 1, none⟩ = some (.int .i64 d0) ∧ vd.cell? ⟨z10, 0, none⟩ = some (.int .i64 bn) ∧ vd.cell? ⟨z10, 1, none⟩ = some (.int .i64 bd) := ⟨hI.st.seven.1, hI.st.seven.2.1, hI.st.seven.2.2.1, hI.st.seven.2.2.2.1, BX.two.1, BX.two.2.1, BG.two.1, BG.two.2.1⟩
            refine tk 0 34 ?_
            refine tk 1 35 ?_
            refine tk 2 36 ?_
            refine tk 3 37 ?_
            refine tk 4 38 ?_
            refine tk 5 39 ?_
            refine tk 6 40 ?_
            refine tk 7 41 ?_
            refine tk 8 42 ?_
            refine rdk 9 43 fun K hK => ?_
            go_simp
            refine (HC.out _).mono ?_
            rintro e w5 ⟨rfl, hb5⟩
            replace hI := hI.below hb5
            replace BX := BX.below hb5
            replace BG := BG.below hb5
            replace BZ := BZ.below hb5
            replace hg := hg.then hb5
            clear hb5
            (try go_wp2_with fail)
            refine hko hK ⟨hI.st.seven.1, hI.st.seven.2.1, hI.st.seven.2.2.1, hI.st.seven.2.2.2.1, (Blk.f2 BX (Blk.l2 BG))⟩ fun hHeld => ?_
            clear hK K
            refine tk 10 44 ?_
            refine tk 11 45 ?_
            refine wpAnyH_done (by kernel_rfl) ?_ _
            clear hHeld
            have HNX := Lib.hid hnx
            clear hnx
            obtain ⟨x0, x1, xf, xl⟩ := BX.two
            obtain ⟨g0, g1, gf, gll⟩ := BG.two
            go_wp2_with fail
            have hI3 := (hI.other (z := z10) (o := 0) (u := .int .i64 n0) (by omega) (by omega) (by omega)).other (z := z10) (o := 1) (u := .int .i64 d0) (by omega) (by omega) (by omega)
            have hg3 := (hg.set (z := z10) (o := 0) (u := .int .i64 n0) hz10).set (z := z10) (o := 1) (u := .int .i64 d0) hz10
            have BG3 := BG.set2 (.int .i64 n0) (.int .i64 d0)
            have BZ3 := BZ.far2 (B := z10) (by omega) (.int .i64 n0) (.int .i64 d0)
            go_roundg (N - (j + 1))
            case measure => omega
            case rel => exact ⟨_, j + 1, (j, y), n0, d0, rfl, by omega, rfl, by go_num, by first | rfl | (congr 1; dsimp only; omega), HNX.out, fun _ => ⟨by dsimp only; omega, HM.out⟩, ⟨by dsimp only; omega, by dsimp only; omega, fun h => by omega, fun _ => by dsimp only; omega⟩, hI3, hg3, BZ3, BG3, by simp; omega⟩
          · have hnx : bstA (tp t.S) (wc t.S ys) (nmQ l) (j + 1) = some (qi, qv) := by rw [hst, if_neg hgt]
            have hs : ¬ 0 < sg3 y qv := by unfold sg3; rw [if_neg hgt]; split <;> omega
            obtain ⟨G, hG⟩ : ∃ g, sg3 y qv = g := ⟨_, rfl⟩
            rw [hG] at hC hs
            have HC := Lib.hid hC
            have HNX := Lib.hid hnx
            clear hst hC hbq hnx hG
            go_wp2_with fail
            (try rw [hz12])
            generalize (w3.alloc (.cells #[.int .i64 n0, .int .i64 d0] 35)) = w4 at *
            replace hI := hI.drew
            replace BX := BX.drew
            replace BG := BG.drew
            replace BZ := BZ.drew
            replace hg := hg.drew
            refine wp_region_held_drew (S := fun w' => w'.cell? ⟨t.g, 0, none⟩ = some (.int .i64 t.p) ∧ w'.cell? ⟨t.g, 1, none⟩ = some (.int .i64 t.c) ∧ w'.cell? ⟨t.g, 2, none⟩ = some (.int .i64 t.h) ∧ w'.cell? ⟨t.g, 3, none⟩ = some (.int .i64 (t.S : Int)) ∧ w'.cell? ⟨z12, 0, none⟩ = some (.int .i64 n0) ∧ w'.cell? ⟨z12, 1, none⟩ = some (.int .i64 d0) ∧ w'.cell? ⟨z10, 0, none⟩ = some (.int .i64 bn) ∧ w'.cell? ⟨z10, 1, none⟩ = some (.int .i64 bd)) (by kernel_rfl) ⟨hI.st.seven.1, hI.st.seven.2.1, hI.st.seven.2.2.1, hI.st.seven.2.2.2.1, BX.two.1, BX.two.2.1, BG.two.1, BG.two.2.1⟩ (fun hHeld => ?_)
            clear hHeld
            have hz_vd : w4.drew.heap.size = w4.heap.size := rfl
            generalize w4.drew = vd at *
            have hHeld : vd.cell? ⟨t.g, 0, none⟩ = some (.int .i64 t.p) ∧ vd.cell? ⟨t.g, 1, none⟩ = some (.int .i64 t.c) ∧ vd.cell? ⟨t.g, 2, none⟩ = some (.int .i64 t.h) ∧ vd.cell? ⟨t.g, 3, none⟩ = some (.int .i64 (t.S : Int)) ∧ vd.cell? ⟨z12, 0, none⟩ = some (.int .i64 n0) ∧ vd.cell? ⟨z12, 1, none⟩ = some (.int .i64 d0) ∧ vd.cell? ⟨z10, 0, none⟩ = some (.int .i64 bn) ∧ vd.cell? ⟨z10, 1, none⟩ = some (.int .i64 bd) := ⟨hI.st.seven.1, hI.st.seven.2.1, hI.st.seven.2.2.1, hI.st.seven.2.2.2.1, BX.two.1, BX.two.2.1, BG.two.1, BG.two.2.1⟩
            refine tk 0 34 ?_
            refine tk 1 35 ?_
            refine tk 2 36 ?_
            refine tk 3 37 ?_
            refine tk 4 38 ?_
            refine tk 5 39 ?_
            refine tk 6 40 ?_
            refine tk 7 41 ?_
            refine tk 8 42 ?_
            refine rdk 9 43 fun K hK => ?_
            go_simp
            refine (HC.out _).mono ?_
            rintro e w5 ⟨rfl, hb5⟩
            replace hI := hI.below hb5
            replace BX := BX.below hb5
            replace BG := BG.below hb5
            replace BZ := BZ.below hb5
            replace hg := hg.then hb5
            clear hb5
            (try go_wp2_with fail)
            refine hko hK ⟨hI.st.seven.1, hI.st.seven.2.1, hI.st.seven.2.2.1, hI.st.seven.2.2.2.1, (Blk.f2 BX (Blk.l2 BG))⟩ fun hHeld => ?_
            clear hK K
            refine tk 10 44 ?_
            refine tk 11 45 ?_
            refine wpAnyH_done (by kernel_rfl) ?_ _
            clear hHeld
            go_wp2_with fail
            go_roundg (N - (j + 1))
            case measure => omega
            case rel => exact ⟨_, j + 1, (qi, qv), bn, bd, rfl, by omega, rfl, by go_num, rfl, HNX.out, fun _ => ⟨by dsimp only; omega, HBQ.out⟩, ⟨HQB.out.1, HQB.out.2.1, fun h => by omega, fun _ => HQB.out.2.2.2 (by omega)⟩, hI, hg, BZ, BG, BG.lt⟩
    · obtain rfl : j = N := by omega
      have hfin : bst (tp t.S) (wc t.S ys) (nmQ l) = some (qi, qv) := by
        have := HQ.out
        rw [bst, List.length_map, HN.out]
        exact this
      have HFI := Lib.hid hfin
      clear hfin
      go_wp2_with fail
      replace hI := hI.drew
      replace BG := BG.drew
      replace BZ := BZ.drew
      replace hg := hg.drew
      refine wp_region_held_drew (S := fun w' => w'.cell? ⟨z10, 0, none⟩ = some (.int .i64 bn) ∧ w'.cell? ⟨z10, 1, none⟩ = some (.int .i64 bd)) (by kernel_rfl) ⟨BG.two.1, BG.two.2.1⟩ (fun hHeld => ?_)
      clear hHeld
      have hz_vd : wr.drew.heap.size = wr.heap.size := rfl
      generalize wr.drew = vd at *
      have hHeld : vd.cell? ⟨z10, 0, none⟩ = some (.int .i64 bn) ∧ vd.cell? ⟨z10, 1, none⟩ = some (.int .i64 bd) := ⟨BG.two.1, BG.two.2.1⟩
      refine tk 0 48 ?_
      refine tk 1 49 ?_
      refine tk 2 6 ?_
      refine rdn 3 fun K hK => ?_
      have u0 := BZ.two.1
      have u1 := BZ.two.2.1
      have uf := BZ.two.2.2.1
      have ul := BZ.two.2.2.2
      go_simp
      (try go_wp2_with fail)
      refine hko hK (Blk.l2 (BG.far2 (B := z7) (by omega) (.int .i64 bn) (.int .i64 bd))) fun hHeld => ?_
      clear hK K
      refine tk 4 8 ?_
      refine wpAnyH_done (by kernel_rfl) ?_ _
      clear hHeld
      go_wp2_with fail
      have BRn := BZ.set2 (.int .i64 bn) (.int .i64 bd)
      obtain ⟨u0, u1, uf, ul⟩ := BRn.two
      refine bodyPost_ret (v := .tuple #[.int .i64 (qi : Int), .agg #[.int .i64 bn, .int .i64 bd], .bool true]) (by simp [results, Tryz.results46, go_sem, u0, u1]) rfl ?_
      exact ⟨(qi : Int), bn, bd, true, rfl, (hI.other (by omega) (by omega) (by omega)).other (by omega) (by omega) (by omega), (hg.set hz7).set hz7, by rw [HFI.out]; exact ⟨rfl, rfl, (HF.out h0).1, (HF.out h0).2⟩⟩
def OwnX (w : World) (base : Nat) (v : Value) (l : List Rl) : Prop := w.ownsRow base 35 2 v l.length (rlsC l)
theorem OwnX.form {w : World} {base : Nat} {v : Value} {l : List Rl} (h : OwnX w base v l) : ∃ a k, v = .slice a l.length k := by
  rcases h.2 with ⟨h1, h2⟩ | ⟨g, cap, cur, h1, _⟩
  · exact ⟨none, 0, by rw [h1, h2]⟩
  · exact ⟨some ⟨g, 0, none⟩, cap, h1⟩
theorem OwnX.ox {w : World} {base : Nat} {a : Option Addr} {n k : Nat} {l : List Rl} (h : OwnX w base (.slice a n k) l) : OX w a l := by
  obtain ⟨hl, h1 | ⟨g, cap, cur, hv, hb, hh, hc, hm, hs, ht⟩⟩ := h
  · obtain ⟨h1, h2⟩ := h1
    simp at h1
    exact .inl ⟨h1.1, List.eq_nil_of_length_eq_zero h2⟩
  · simp at hv
    obtain ⟨rfl, _, rfl⟩ := hv
    exact .inr ⟨g, rfl, cur, hh, by rw [hl, hs]; exact Nat.mul_le_mul_right _ hc, by rw [hl]; exact ht⟩
theorem OwnX.alloc {w : World} {base : Nat} {v : Value} {l : List Rl} (h : OwnX w base v l) (o : Obj) : OwnX (w.alloc o) base v l := World.ownsRow.alloc h o
theorem OwnX.start (w : World) : OwnX (w.alloc (.cells #[] 35)) w.heap.size (.slice (some ⟨w.heap.size, 0, none⟩) 0 0) [] :=
  ⟨rfl, .inr ⟨w.heap.size, 0, #[], rfl, Nat.le_refl _, Blk.new w #[] _, Nat.le_refl _, by unfold maxLen; omega, rfl, rfl⟩⟩
theorem OwnX.nil (w : World) (base : Nat) : OwnX w base (.slice none 0 0) [] := World.ownsRow_nil w base _ _
theorem infoX9 : (Tryz.prog.info? 35).map (fun i => (i.zero, i.size, i.bytes)) = some (some (.agg #[.int .i64 0, .int .i64 0]), 2, 16) := by kernel_rfl
theorem wp_pushX {ops : Array Oper} {rest : List Oper} {o : Oper} {a : Act} {Q : Exit → Act → World → Prop} (hgd : o.guard = none) (s x : Operand)
    (ho : o.op = .call { callee := .builtin .append, args := #[s, x], argTypes := #[29, 29] })
    (base : Nat) (v : Value) (l : List Rl) (hs : a.eval s = v) {w0 : World} (hown : OwnX w0 base v l) (u : Rl)
    {zz : Nat} (hx : a.eval x = .slice (some ⟨zz, 0, none⟩) 1 1) (hzz : w0.heap.size = zz) (hl : l.length ≤ 1048576) (hbase : base ≤ w0.heap.size)
    (h : ∀ v' w', OwnX w' base v' (l ++ [u]) → Below base w0 w' → wpList Tryz.prog ops Q rest (a.put o.dst v') w') : wpList Tryz.prog ops Q (o :: rest) a (w0.alloc (.cells #[.int .i64 u.1, .int .i64 u.2] 35)) := by
  subst hzz
  obtain ⟨i0, hi, hz0, hz1, hz2⟩ := info_parts infoX9
  have hown0 : w0.ownsRow base 35 2 v l.length (rlsC l) := hown
  refine wpList_append_own _ hgd s x 29 ho base 35 i0 _ 2 16 Tryz.underlying29 hi hz0 hz1 hz2 rfl (by decide) v l.length (rlsC l) hs (hown0.alloc _) ⟨w0.heap.size, 0, none⟩ 1 1 (rlC u) hx (by simp [rlC])
    (World.news_of_block (cs := #[.int .i64 u.1, .int .i64 u.2]) (Blk.new w0 _ 35)) (fun y hy => by simp [rlC] at hy; rcases hy with rfl | rfl <;> rfl) (by unfold maxLen; omega) (by omega) (by simp; omega) ?_
  intro v' w' hown' hgrow _
  refine h v' w' ?_ (((Below.refl base w0).alloc hbase _).grown hgrow (by simp; omega) (fun k hk => (hown0.lt k hk).1))
  show w'.ownsRow base 35 2 _ (l ++ [u]).length (rlsC (l ++ [u]))
  rw [List.length_append, rlsC_append]
  simpa [rlsC] using hown'
theorem OwnX.by {w w' : World} {base : Nat} {v : Value} {l : List Rl} (h : OwnX w base v l) (k : ∀ i, base ≤ i → i < w.heap.size → w'.heap[i]? = w.heap[i]?) : OwnX w' base v l := by
  obtain ⟨hl, h1 | ⟨g, cap, cur, hv, hb, hh, hc⟩⟩ := h
  · exact ⟨hl, .inl h1⟩
  · exact ⟨hl, .inr ⟨g, cap, cur, hv, hb, (k g hb (Array.getElem?_eq_some_iff.1 hh).1).trans hh, hc⟩⟩
end Go.Proofs.YtnlclmlnpkncoaaGreat
