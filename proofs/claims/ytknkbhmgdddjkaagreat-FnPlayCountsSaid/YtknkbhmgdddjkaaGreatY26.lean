/- Texts of a proof, laid together: Contract of the program's listing of an order. Contract of the program's orders of a roll. Contracts of the program's listings of a roll, and of the number of dice that they use. The contract of the program on the number of dice that a roll uses. Contract of the program's listings whose longest sequences are legal. Contract of the library's iterator over a slice, at plays. -/
import Derived.Test.YtknkbhmgdddjkaaGreatY22
import Derived.Test.YtknkbhmgdddjkaaGreatY24
import Derived.Test.YtknkbhmgdddjkaaGreatY25
import Derived.Test.YtknkbhmgdddjkaaGreatY23
import Derived.Test.YtknkbhmgdddjkaaGreatY13
import Derived.Lib.MinMax
import Derived.Test.YtknkbhmgdddjkaaGreatY14
import Derived.Test.YtknkbhmgdddjkaaGreatY21
import Derived.Shelf.Abstract
import Derived.Shelf.RegionOpen
import Derived.WalkKit
import Derived.OwnWalkIn
import Derived.TacticsInMore
import Derived.LoopNIn
import Derived.LoopIn
namespace Go.Proofs.YtknkbhmgdddjkaaGreat
open Go.ChangeShapes Go.WideShapes Go.ChangeAt Go.RowKit
set_option linter.unusedVariables false
set_option linter.unusedSimpArgs false
set_option maxRecDepth 4000

/-- Where the loop over an order stands. -/
def LevI (P : Nat) (h : Int) (o : List Int) (st : List Ply) (k : Nat) (ls : List LV) (cur : List PP) : Prop := levels P h o st = ls.map (fun x => x.2.2.map (·.2)) ++ levels P h (o.drop k) (cur.map (·.2)) ∧ ls.length = k
theorem LevI.start (P : Nat) (h : Int) (o : List Int) (st : List Ply) (cur : List PP) (e : cur.map (·.2) = st) : LevI P h o st 0 [] cur := ⟨by rw [e]; rfl, rfl⟩
theorem LevI.stop {P : Nat} {h : Int} {o : List Int} {st : List Ply} {k : Nat} {ls : List LV} {cur : List PP} (i : LevI P h o st k ls cur) (a : Option Addr) (kk : Nat) (e : ∀ d, o[k]? = some d → nextP P h d (cur.map (·.2)) = []) :
    (ls ++ [(a, kk, cur)]).map (fun x => x.2.2.map (·.2)) = levels P h o st := by
  rw [i.1, List.map_append]
  congr 1
  cases hd : o.drop k with
  | nil => rfl
  | cons d ds =>
    have : o[k]? = some d := by
      have := congrArg List.head? hd
      rw [List.head?_drop] at this
      simpa using this
    rw [levels, if_pos (e d this)]
    rfl
theorem LevI.step {P : Nat} {h : Int} {o : List Int} {st : List Ply} {k : Nat} {ls : List LV} {cur nxt : List PP} {d : Int} (i : LevI P h o st k ls cur) (a : Option Addr) (kk : Nat) (hd : o[k]? = some d) (hn : nxt.map (·.2) = nextP P h d (cur.map (·.2))) (h0 : nxt ≠ []) :
    LevI P h o st (k + 1) (ls ++ [(a, kk, cur)]) nxt := by
  refine ⟨?_, by rw [List.length_append, i.2]; rfl⟩
  have hk := (List.getElem?_eq_some_iff.1 hd).1
  have hdr : o.drop k = d :: o.drop (k + 1) := by rw [List.drop_eq_getElem_cons hk, (List.getElem?_eq_some_iff.1 hd).2]
  rw [i.1, hdr, levels, if_neg (by rw [← hn]; simpa using h0), List.map_append, List.append_assoc, hn]
  rfl
theorem LsAll.snoc {lo hi : Nat} {w : World} {l : List LV} {x : LV} (h : LsAll lo hi w l) (hx : LvAt lo hi w x) : LsAll lo hi w (l ++ [x]) := fun y hy => by
  rcases List.mem_append.1 hy with hy | hy
  · exact h y hy
  · simp at hy; subst hy; exact hx
theorem longer1_enter (args : Array Value) (w : World) : (callFunc 86 args).run Tryz.prog w = .ok (.enter 86 args) w := by
  obtain ⟨fn, hf, hn, cc, hc⟩ : ∃ fn, Tryz.prog.funcs[(86 : FuncId)]? = some fn ∧ (fn.name == "runtime.NumGoroutine") = false ∧ ∃ cc, fn.body = some cc := ⟨_, Tryz.func86, by kernel_rfl, _, rfl⟩
  have h1 : ¬ fn.name = "runtime.NumGoroutine" := by simpa using hn
  simp [callFunc, hf, h1, hc]
theorem OwnL.at {w : World} {base : Nat} {v : Value} {l : List LV} {x : LV} (h : OwnL w base v (l ++ [x])) : ∃ g k, v = .slice (some ⟨g, 0, none⟩) (l ++ [x]).length k ∧ base ≤ g ∧ VRow w g ((l ++ [x]).flatMap lvC) 50 := by
  obtain ⟨hl, ⟨_, h2⟩ | ⟨g, cap, cur, hv, hb, hh, hc, hm, hs, ht⟩⟩ := h
  · simp at h2
  · refine ⟨g, cap, hv, hb, cur, hh, ?_, ?_⟩
    · rw [hl, hs]; exact Nat.mul_le_mul_right _ hc
    · rw [hl]; exact ht
theorem li_put {W : World} {g : Nat} {vs : Array Value} {v v' : Value} (B : Blk W g vs 81) : ∀ g' cur t, Blk W g' cur t → t ≠ 81 → ((W.setCell ⟨g, 0, none⟩ v).setCell ⟨g, 1, none⟩ v').heap[g']? = W.heap[g']? := by
  intro g' cur t hB ht
  have hne : g' ≠ g := by
    rintro rfl
    have e1 : W.heap[g']? = some (.cells cur t (0, 0)) := hB
    have e2 : W.heap[g']? = some (.cells vs 81 (0, 0)) := B
    rw [e1] at e2
    injection e2 with e2
    injection e2 with _ e3
    exact ht e3
  rw [heap_setCell_other _ _ _ _ hne, heap_setCell_other _ _ _ _ hne]
/-- A listing has been made. -/
def ListGot (go : Nat) (o : List Int) (lv : List (List Ply)) (p c h s : Int) (w : World) (e : Ending) (w' : World) : Prop :=
  ∃ gL k ls, e = .returned (liV ((go, o), (gL, k, ls))) ∧ LiAt w.heap.size w'.heap.size w' ((go, o), (gL, k, ls)) ∧ ls.map (fun x => x.2.2.map (·.2)) = lv ∧ (∀ x ∈ ls, Fine p c h s (x.2.2.map (·.2)) ∧ x.2.2.Pairwise Dis) ∧ Below w.heap.size w w'
set_option maxRecDepth 100000 in
set_option maxHeartbeats 4000000 in
theorem listingOf_any (P : Nat) (c h s : Int) (a1 a2 : Option Addr) (n1 n2 c1 c2 go : Nat) (xs ys o : List Int) (w : World) (h1 : xs.length = n1) (h2 : ys.length = n2) (r1 : IRow w a1 xs) (r2 : IRow w a2 ys) (g : isB (P : Int) c h s xs ys = true) (hR : Row w go o) (ho : o.length ≤ 4) (hdd : ∀ d ∈ o, inB d 1 s = true) :
    Calls Tryz.prog 54 #[.agg #[.int .i64 (P : Int), .int .i64 c, .int .i64 h, .int .i64 s], .agg #[.slice a1 n1 c1, .slice a2 n2 c2], .slice (some ⟨go, 0, none⟩) o.length o.length] w (ListGot go o (levels P h o (startP xs ys)) (P : Int) c h s w) := by
  have gp := isB_parts g
  have hcp := fun W (q1 : IRow W a1 xs) (q2 : IRow W a2 ys) => copied_any a1 a2 n1 n2 c1 c2 xs ys W h1 h2 (by omega) (by omega) (by omega) (by omega) q1 q2
  have HCP := Lib.hid hcp
  clear hcp
  obtain ⟨BV, BB, BR, hb, hz⟩ := three_new w #[.int .i64 (P : Int), .int .i64 c, .int .i64 h, .int .i64 s] #[.slice a1 n1 c1, .slice a2 n2 c2] #[.slice none 0 0, .slice none 0 0] 25 28 81
  have hz1 : w.heap.size + 1 + 1 + 1 ≤ (((w.alloc (.cells #[.int .i64 (P : Int), .int .i64 c, .int .i64 h, .int .i64 s] 25)).alloc (.cells #[.slice a1 n1 c1, .slice a2 n2 c2] 28)).alloc (.cells #[.slice none 0 0, .slice none 0 0] 81)).heap.size := by rw [hz]; omega
  clear hz
  replace r1 := r1.below hb
  replace r2 := r2.below hb
  replace hR := hR.below hb
  have p24 : P ≤ 24 := by omega
  have HG := Lib.hid g
  have HGP := Lib.hid gp
  have HDD := Lib.hid hdd
  clear g gp hdd
  obtain ⟨x0, x1, x2, x3, xf, xl⟩ := BV.four
  obtain ⟨y0, y1, yf, yl⟩ := BB.two
  obtain ⟨z0, z1, zf, zl⟩ := BR.two
  go_enter Tryz.func54, Tryz.ntmps54
  go_wp2_with fail
  clear x0 x1 x2 x3 xf xl y0 y1 yf yl z0 z1 zf zl
  generalize (((w.alloc (.cells #[.int .i64 (P : Int), .int .i64 c, .int .i64 h, .int .i64 s] 25)).alloc (.cells #[.slice a1 n1 c1, .slice a2 n2 c2] 28)).alloc (.cells #[.slice none 0 0, .slice none 0 0] 81)) = v0 at *
  refine (HCP.out _ r1 r2).mono ?_
  rintro e w1 ⟨g1, g2, rfl, hne, m1, m2, R1, R2, hb1⟩
  have hz2 := hb1.size
  obtain ⟨x00, hx00⟩ : ∃ x : PP, x = ((⟨none, 0, some ⟨g1, 0, none⟩, n1, some ⟨g2, 0, none⟩, n2⟩, ([], xs, ys)) : PP) := ⟨_, rfl⟩
  have hp00 : #[pl0 x00, pl1 x00, pl2 x00] = #[.slice none 0 0, .slice (some ⟨g1, 0, none⟩) n1 n1, .slice (some ⟨g2, 0, none⟩) n2 n2] := by rw [hx00]; simp [h1, h2]
  have BX := Blk.new w1 #[.slice none 0 0, .slice (some ⟨g1, 0, none⟩) n1 n1, .slice (some ⟨g2, 0, none⟩) n2 n2] 93
  have OL : OwnL ((w1.alloc (.cells #[.slice none 0 0, .slice (some ⟨g1, 0, none⟩) n1 n1, .slice (some ⟨g2, 0, none⟩) n2 n2] 93)).alloc (.cells #[.slice (some ⟨w1.heap.size, 0, none⟩) 1 1] 50)) v0.heap.size (.slice (some ⟨w1.heap.size + 1, 0, none⟩) 1 1) [(some ⟨w1.heap.size, 0, none⟩, 1, [x00])] := by
    have q := OwnE.one (enc := lvC) (T := 50) (sz := 1) (w1.alloc (.cells #[.slice none 0 0, .slice (some ⟨g1, 0, none⟩) n1 n1, .slice (some ⟨g2, 0, none⟩) n2 n2] 93)) (some ⟨w1.heap.size, 0, none⟩, 1, [x00]) #[.slice (some ⟨w1.heap.size, 0, none⟩) 1 1] rfl rfl
    rw [World.size_alloc] at q
    exact q.mono (by omega)
  have hb2 : Below w1.heap.size w1 ((w1.alloc (.cells #[.slice none 0 0, .slice (some ⟨g1, 0, none⟩) n1 n1, .slice (some ⟨g2, 0, none⟩) n2 n2] 93)).alloc (.cells #[.slice (some ⟨w1.heap.size, 0, none⟩) 1 1] 50)) := ((Below.refl _ _).alloc (Nat.le_refl _) _).alloc (by simp) _
  have BX2 := BX.alloc (.cells #[.slice (some ⟨w1.heap.size, 0, none⟩) 1 1] 50)
  have hz3 : ((w1.alloc (.cells #[.slice none 0 0, .slice (some ⟨g1, 0, none⟩) n1 n1, .slice (some ⟨g2, 0, none⟩) n2 n2] 93)).alloc (.cells #[.slice (some ⟨w1.heap.size, 0, none⟩) 1 1] 50)).heap.size = w1.heap.size + 1 + 1 := by simp
  have R1' := R1.below hb2
  have R2' := R2.below hb2
  have l1 := R1.lt
  have l2 := R2.lt
  clear R1 R2 BX
  go_wp2_with fail
  generalize ((w1.alloc (.cells #[.slice none 0 0, .slice (some ⟨g1, 0, none⟩) n1 n1, .slice (some ⟨g2, 0, none⟩) n2 n2] 93)).alloc (.cells #[.slice (some ⟨w1.heap.size, 0, none⟩) 1 1] 50)) = w2 at *
  have hbl := chain hb1 hb2
  have hLS : LsAll v0.heap.size w2.heap.size w2 [(some ⟨w1.heap.size, 0, none⟩, 1, [x00])] := by
    intro y hy
    simp at hy
    subst hy
    refine ⟨.inr ⟨w1.heap.size, rfl, by omega, by omega, _, BX2, by simp [plsC, plC], ?_⟩, fun y hy => ?_⟩
    · rw [← hp00]; rfl
    · simp at hy
      subst hy
      rw [hx00]
      exact ⟨.inl ⟨rfl, rfl⟩, .inr ⟨g1, g2, rfl, rfl, hne, by omega, by omega, by omega, by omega, R1', R2'⟩⟩
  have hLV : LevI P h o (startP xs ys) 0 [] [x00] := LevI.start _ _ _ _ _ (by rw [hx00]; rfl)
  have hF0 : Fine (P : Int) c h s (([x00] : List PP).map (·.2)) := by
    intro q hq
    rw [hx00] at hq
    simp at hq
    subst hq
    exact HG.out
  have hS0 : ∀ x ∈ ([x00] : List PP), x.2.1.length ≤ 0 := fun x hx => by
    simp at hx
    subst hx
    rw [hx00]
    exact Nat.le_refl _
  clear BX2 R1' R2' l1 l2 hb2 hb1 hx00 hp00 hne m1 m2
  have hlen4 : (0 : Int) ≤ o.length := by omega
  go_loopg [7, 8, 10, 19] o.length (fun m q7 q8 q10 q19 wr => ∃ (k : Nat) (cur : List PP) (a : Option Addr) (kk : Nat) (ls : List LV), k ≤ o.length ∧ m = o.length - k ∧ q19 = .int .i64 k ∧ q7 = .slice a cur.length kk ∧ OwnL wr v0.heap.size q8 (ls ++ [(a, kk, cur)]) ∧ LsAll v0.heap.size wr.heap.size wr (ls ++ [(a, kk, cur)]) ∧ LevI P h o (startP xs ys) k ls cur ∧ (∀ x ∈ ls, Fine (P : Int) c h s (x.2.2.map (·.2)) ∧ x.2.2.Pairwise Dis) ∧ (Fine (P : Int) c h s (cur.map (·.2)) ∧ cur.Pairwise Dis) ∧ (∀ x ∈ cur, x.2.1.length ≤ k) ∧ cur.length ≤ 25 ^ k ∧ Below v0.heap.size v0 wr)
  case atStart => exact ⟨0, [x00], _, _, [], by omega, by omega, rfl, rfl, OL, hLS, hLV, fun x hx => by simp at hx, ⟨hF0, List.pairwise_singleton _ _⟩, hS0, by simp, hbl⟩
  case round =>
    clear OL hLS hLV hF0 hS0
    obtain ⟨k, cur, a, kk, ls, hk, hm, rfl, rfl, hO, hL, hI, hFA, hF, hS, hC, hbel⟩ := hrel
    obtain ⟨x0, x1, x2, x3, xf, xl⟩ := (BV.below hbel).four
    obtain ⟨z0, z1, zf, zl⟩ := (BR.below hbel).two
    have hcur := hL (a, kk, cur) (by simp)
    by_cases hlt : k < o.length
    · have hlt' : (k : Int) < (o.length : Int) := by omega
      have hk0 : (0 : Int) ≤ (k : Int) := by omega
      have hc := (hR.below hbel).cell k hlt
      obtain ⟨d, hd⟩ : ∃ d, o.getD k 0 = d := ⟨_, rfl⟩
      rw [hd] at hc
      have hdo : o[k]? = some d := by rw [List.getD_eq_getElem?_getD, List.getElem?_eq_getElem hlt] at hd; rw [List.getElem?_eq_getElem hlt]; simpa using hd
      have hdm := HDD.out d (List.mem_of_getElem? hdo)
      have hC2 : cur.length ≤ 15625 := Nat.le_trans hC (Nat.pow_le_pow_right (by omega) (by omega) : 25 ^ k ≤ 25 ^ 3)
      have HI := Lib.hid hI
      have HF := Lib.hid hF
      have HDO := Lib.hid hdo
      have HDM := Lib.hid hdm
      have HC := Lib.hid hC
      clear hI hF hdo hdm hd hC
      go_wp2_with fail
      clear x0 x1 x2 x3 xf xl z0 z1 zf zl hc
      refine (longer_any P c h s d a cur.length kk wr).mono ?_
      rintro e wA ⟨rfl, B1, B2, B3, hbA, hzA⟩
      have hsg := longer1_good P c h s d (wr.heap.size + 1) wr.heap.size (wr.heap.size + 1 + 1) a kk v0.heap.size wr.heap.size (k + 1) cur wA HDM.out B2 B1 B3 (hcur.1.below hbA) (hcur.2.below hbA) HF.out.1 (fun x hx => by have := hS x hx; omega) (by omega) (by omega)
      have hfa := first_any P c h s wA.heap.size wA.heap.size (k + 1) (cur.length * (P + 1)) 86 _ _ wA p24 (Nat.le_trans (Nat.mul_le_mul hC2 (by omega : P + 1 ≤ 25)) (by omega)) (Nat.le_refl _) longer1_enter hsg
      have HFA := Lib.hid hfa
      clear hfa hsg B1 B2 B3
      replace hO := hO.below hbA
      replace hL := (hL.below hbA).mono (Nat.le_refl _) hbA.size
      have hbelA := chain hbel hbA
      go_wp2_with fail
      refine (HFA.out).mono ?_
      rintro e wB ⟨b, kb, L, zs, rfl, hzs, hLz, hOP, hPA, hLq, hDs, hbB⟩
      clear HFA
      rw [hzs] at hLz
      have hLn : L.map (·.2) = nextP P h d (cur.map (·.2)) := hLz
      have hlen2 := nextP_length P h d (cur.map (·.2))
      rw [← hLn, List.length_map, List.length_map] at hlen2
      have hLC : L.length ≤ 25 ^ (k + 1) := by
        have h1 : cur.length * (P + 1) ≤ 25 ^ k * 25 := Nat.mul_le_mul HC.out (by omega)
        rw [Nat.pow_succ]
        omega
      have hL25 : L.length ≤ 390625 := Nat.le_trans hLC (Nat.pow_le_pow_right (by omega) (by omega) : 25 ^ (k + 1) ≤ 25 ^ 4)
      have HLC := Lib.hid hLC
      have hwv := hbelA.size
      have HLN := Lib.hid hLn
      clear hzs hLz hlen2 hLn hLC
      have hbelB := chain hbelA hbB
      have hsB := hbB.size
      replace hO := hO.below hbB
      replace hL := (hL.below hbB).mono (Nat.le_refl _) hsB
      replace hOP := hOP.mono hwv (Nat.le_refl _)
      replace hPA := hPA.mono hwv (Nat.le_refl _)
      obtain ⟨z0, z1, zf, zl⟩ := (BR.below hbelB).two
      by_cases e0 : L.length = 0
      · have he0 : ((L.length : Int) == 0) = true := by rw [beq_iff_eq]; omega
        have hL0 : L = [] := List.eq_nil_of_length_eq_zero e0
        have hstop := (HI.out).stop a kk (fun d' hd' => by
          have : d' = d := by rw [HDO.out] at hd'; simpa using hd'.symm
          rw [this, ← HLN.out, hL0]
          rfl)
        have HSTOP := Lib.hid hstop
        clear hstop hL0 e0
        obtain ⟨gL, kL, hq8, hgL, hVL⟩ := OwnL.at hO
        obtain ⟨nL, hnL⟩ : ∃ n, (ls ++ [(a, kk, cur)]).length = n := ⟨_, rfl⟩
        rw [hnL] at hq8
        subst hq8
        have HNL := Lib.hid hnL
        clear hO hnL
        go_wp2
        refine bodyPost_ret (v := .agg #[.slice (some ⟨go, 0, none⟩) o.length o.length, .slice (some ⟨gL, 0, none⟩) nL kL]) (by first | (simp [results, Tryz.results54, go_sem, z0, z1]; done) | (simp [results, Tryz.results54, go_sem, *]; done)) rfl ?_
        have hLi : LiAt v0.heap.size wB.heap.size wB ((go, o), (gL, kL, ls ++ [(a, kk, cur)])) := ⟨hR.below hbelB, hgL, hVL.lt, hVL, hL⟩
        refine ⟨gL, kL, ls ++ [(a, kk, cur)], by rw [← HNL.out], (hLi.frameT (by simp) (by decide) (by decide) (by decide) (li_put (BR.below hbelB))).mono (by omega) (Nat.le_refl _), HSTOP.out, fun x hx => ?_, ((hb.trans (hbelB.mono hb.size)).setCell (by simp; omega) _).setCell (by simp; omega) _⟩
        rcases List.mem_append.1 hx with hx | hx
        · exact hFA x hx
        · simp at hx
          subst hx
          exact HF.out
      · have he0 : ((L.length : Int) == 0) = false := by rw [beq_eq_false_iff_ne]; omega
        have hne0 : L ≠ [] := by rintro rfl; exact e0 rfl
        have hst := (HI.out).step a kk HDO.out HLN.out hne0
        have HST := Lib.hid hst
        clear hst hne0 e0
        have hsl : (ls ++ [(a, kk, cur)]).length ≤ 1048576 := by rw [List.length_append, (HI.out).2]; simp; omega
        have HSL := Lib.hid hsl
        have hsv := hbelB.size
        clear hsl
        go_wp2_with (at_builtin; go_loud (refine wp_pushL rfl (.tmp 31) (.tmp 33) rfl v0.heap.size _ (ls ++ [(a, kk, cur)]) rfl hO (b, kb, L) rfl rfl HSL.out hsv ?_; intro v9 wC hO2 hbC hfr))
        go_roundg (o.length - (k + 1))
        case measure => omega
        case rel =>
          have hsC := hbC.size
          refine ⟨k + 1, L, b, kb, ls ++ [(a, kk, cur)], by omega, rfl, by go_num, rfl, hO2, ?_, HST.out, ?_, ?_, ?_, HLC.out, hbelB.trans hbC⟩
          · refine ((hL.frameT hsC (by decide) (by decide) hfr)).snoc (LvAt.frameT (x := (b, kb, L)) (lo := v0.heap.size) (hi := wB.heap.size) ⟨hOP, hPA⟩ hsC (by decide) (by decide) hfr)
          · intro x hx
            rcases List.mem_append.1 hx with hx | hx
            · exact hFA x hx
            · simp at hx
              subst hx
              exact HF.out
          · refine ⟨fun q hq => ?_, hDs⟩
            obtain ⟨x, hx, rfl⟩ := List.mem_map.1 hq
            exact (hLq x hx).1
          · exact fun x hx => (hLq x hx).2
    · obtain rfl : k = o.length := by omega
      have HF := Lib.hid hF
      have hstop := hI.stop a kk (fun d' hd' => by simp at hd')
      have HSTOP := Lib.hid hstop
      clear hstop hF
      obtain ⟨gL, kL, hq8, hgL, hVL⟩ := OwnL.at hO
      obtain ⟨nL, hnL⟩ : ∃ n, (ls ++ [(a, kk, cur)]).length = n := ⟨_, rfl⟩
      rw [hnL] at hq8
      subst hq8
      have HNL := Lib.hid hnL
      clear hO hnL
      go_wp2
      refine bodyPost_ret (v := .agg #[.slice (some ⟨go, 0, none⟩) o.length o.length, .slice (some ⟨gL, 0, none⟩) nL kL]) (by first | (simp [results, Tryz.results54, go_sem, z0, z1]; done) | (simp [results, Tryz.results54, go_sem, *]; done)) rfl ?_
      have hLi : LiAt v0.heap.size wr.heap.size wr ((go, o), (gL, kL, ls ++ [(a, kk, cur)])) := ⟨hR.below hbel, hgL, hVL.lt, hVL, hL⟩
      refine ⟨gL, kL, ls ++ [(a, kk, cur)], by rw [← HNL.out], (hLi.frameT (by simp) (by decide) (by decide) (by decide) (li_put (BR.below hbel))).mono (by omega) (Nat.le_refl _), HSTOP.out, fun x hx => ?_, ((hb.trans (hbel.mono hb.size)).setCell (by simp; omega) _).setCell (by simp; omega) _⟩
      rcases List.mem_append.1 hx with hx | hx
      · exact hFA x hx
      · simp at hx
        subst hx
        exact HF.out
end Go.Proofs.YtknkbhmgdddjkaaGreat
namespace Go.Proofs.YtknkbhmgdddjkaaGreat
open Go.ChangeShapes Go.WideShapes Go.ChangeAt Go.RowKit
set_option linter.unusedVariables false
set_option linter.unusedSimpArgs false
set_option maxRecDepth 4000

set_option maxHeartbeats 1000000 in
theorem implOrders_any (ra rb : Int) (w : World) :
    Calls Tryz.prog 53 #[.agg #[.int .i64 ra, .int .i64 rb]] w (OrdersGot (ordersP ra rb) w) := by
  have hd := fun W => isDouble_any ra rb W
  by_cases e : ra = rb
  · rw [decide_eq_true e] at hd
    subst e
    have e1 : ordersP ra ra = [[ra, ra, ra, ra]] := by simp [ordersP]
    rw [e1]
    clear e1
    have HD := Lib.hid hd
    clear hd
    have BR := Blk.new w #[.int .i64 ra, .int .i64 ra] 40
    have hb : Below w.heap.size w (w.alloc (.cells #[.int .i64 ra, .int .i64 ra] 40)) := (Below.refl _ _).alloc (Nat.le_refl _) _
    obtain ⟨x0, x1, xf, xl⟩ := BR.two
    go_enter Tryz.func53, Tryz.ntmps53
    go_wp2_with fail
    clear x0 x1 xf xl
    refine (HD.out _).mono ?_
    rintro e w1 ⟨rfl, hb1⟩
    obtain ⟨x0, x1, xf, xl⟩ := (BR.below hb1).two
    replace hb := chain hb hb1
    clear hb1 BR HD
    go_wp2
    refine bodyPost_ret (v := .slice (some ⟨w1.heap.size + 1, 0, none⟩) 1 1) (by simp [results, Tryz.results53, go_sem]) rfl ?_
    have B1 := Blk.new w1 #[.int .i64 ra, .int .i64 ra, .int .i64 ra, .int .i64 ra] 2
    have B2 := Blk.new (w1.alloc (.cells #[.int .i64 ra, .int .i64 ra, .int .i64 ra, .int .i64 ra] 2)) #[.slice (some ⟨w1.heap.size, 0, none⟩) 4 4] 26
    rw [World.size_alloc] at B2
    refine ⟨_, rfl, fun j o hj => ?_, (hb.alloc hb.size _).alloc (Nat.le_trans hb.size (by simp)) _⟩
    cases j with
    | zero =>
      simp at hj
      subst hj
      exact ⟨w1.heap.size, by first | (simp; done) | simpa using B2.cell 0, Row.of_blk (B1.alloc _) rfl⟩
    | succ j => simp at hj
  · rw [decide_eq_false e] at hd
    have e1 : ordersP ra rb = [[ra, rb], [rb, ra]] := by simp [ordersP, e]
    rw [e1]
    clear e1 e
    have HD := Lib.hid hd
    clear hd
    have BR := Blk.new w #[.int .i64 ra, .int .i64 rb] 40
    have hb : Below w.heap.size w (w.alloc (.cells #[.int .i64 ra, .int .i64 rb] 40)) := (Below.refl _ _).alloc (Nat.le_refl _) _
    obtain ⟨x0, x1, xf, xl⟩ := BR.two
    go_enter Tryz.func53, Tryz.ntmps53
    go_wp2_with fail
    clear x0 x1 xf xl
    refine (HD.out _).mono ?_
    rintro e w1 ⟨rfl, hb1⟩
    obtain ⟨x0, x1, xf, xl⟩ := (BR.below hb1).two
    replace hb := chain hb hb1
    clear hb1 BR HD
    go_wp2
    refine bodyPost_ret (v := .slice (some ⟨w1.heap.size + 1 + 1, 0, none⟩) 2 2) (by simp [results, Tryz.results53, go_sem]) rfl ?_
    have B1 := Blk.new w1 #[.int .i64 ra, .int .i64 rb] 2
    have B2 := Blk.new (w1.alloc (.cells #[.int .i64 ra, .int .i64 rb] 2)) #[.int .i64 rb, .int .i64 ra] 2
    have B3 := Blk.new ((w1.alloc (.cells #[.int .i64 ra, .int .i64 rb] 2)).alloc (.cells #[.int .i64 rb, .int .i64 ra] 2)) #[.slice (some ⟨w1.heap.size, 0, none⟩) 2 2, .slice (some ⟨w1.heap.size + 1, 0, none⟩) 2 2] 26
    rw [World.size_alloc, World.size_alloc] at B3
    rw [World.size_alloc] at B2
    refine ⟨_, rfl, fun j o hj => ?_, ((hb.alloc hb.size _).alloc (Nat.le_trans hb.size (by simp)) _).alloc (Nat.le_trans hb.size (by simp; omega)) _⟩
    rcases (by omega : j = 0 ∨ j = 1 ∨ 2 ≤ j) with rfl | rfl | h2
    · simp at hj
      subst hj
      exact ⟨w1.heap.size, by simpa using B3.cell 0, Row.of_blk ((B1.alloc _).alloc _) rfl⟩
    · simp at hj
      subst hj
      exact ⟨w1.heap.size + 1, by simpa using B3.cell 1, Row.of_blk (B2.alloc _) rfl⟩
    · obtain ⟨j, rfl⟩ := Nat.exists_eq_add_of_le h2
      rw [Nat.add_comm] at hj
      simp at hj
end Go.Proofs.YtknkbhmgdddjkaaGreat
namespace Go.Proofs.YtknkbhmgdddjkaaGreat
open Go.ChangeShapes Go.WideShapes Go.ChangeAt Go.RowKit
set_option linter.unusedVariables false
set_option linter.unusedSimpArgs false
set_option maxRecDepth 4000

/-- Two listings whose plays share no block. -/
def DisL (x y : LI) : Prop := ∀ p ∈ x.2.2.2, ∀ q ∈ p.2.2, ∀ p' ∈ y.2.2.2, ∀ q' ∈ p'.2.2, Dis q q'
/-- The listings of a roll have been made. -/
def LissGot (P : Nat) (xs ys : List Int) (OS : List (List Int)) (c h s : Int) (w : World) (e : Ending) (w' : World) : Prop :=
  ∃ g k L, e = .returned (.slice (some ⟨g, 0, none⟩) L.length k) ∧ w.heap.size ≤ g ∧ g < w'.heap.size ∧ VRow w' g (L.flatMap liC) 81 ∧ LisAll w.heap.size w'.heap.size w' L ∧ L.map (fun x => x.1.2) = OS ∧
    (∀ x ∈ L, x.2.2.2.map (fun y => y.2.2.map (·.2)) = levels P h x.1.2 (startP xs ys) ∧ (∀ y ∈ x.2.2.2, Fine (P : Int) c h s (y.2.2.map (·.2)) ∧ y.2.2.Pairwise Dis)) ∧ L.Pairwise DisL ∧ Below w.heap.size w w'
theorem LisAll.snoc {lo hi : Nat} {w : World} {l : List LI} {x : LI} (h : LisAll lo hi w l) (hx : LiAt lo hi w x) : LisAll lo hi w (l ++ [x]) := fun y hy => by
  rcases List.mem_append.1 hy with hy | hy
  · exact h y hy
  · simp at hy; subst hy; exact hx
theorem OwnI.at {w : World} {base : Nat} {v : Value} {l : List LI} (h : OwnI w base v l) (h0 : 0 < l.length) : ∃ g k, v = .slice (some ⟨g, 0, none⟩) l.length k ∧ base ≤ g ∧ VRow w g (l.flatMap liC) 81 := by
  obtain ⟨hl, ⟨_, h2⟩ | ⟨g, cap, cur, hv, hb, hh, hc, hm, hs, ht⟩⟩ := h
  · omega
  · refine ⟨g, cap, hv, hb, cur, hh, ?_, ?_⟩
    · rw [hl, hs]; exact Nat.mul_le_mul_right _ hc
    · rw [hl]; exact ht
theorem liC_at : ∀ (l : List LI) (k : Nat) (s : LI), l[k]? = some s → ∀ j, j < 2 → (l.flatMap liC)[k * 2 + j]? = (liC s)[j]?
  | [], k, s, h, j, hj => by simp at h
  | x :: l, 0, s, h, j, hj => by
    simp at h
    subst h
    rw [List.flatMap_cons, List.getElem?_append_left (by simp [liC]; omega), Nat.zero_mul, Nat.zero_add]
  | x :: l, k + 1, s, h, j, hj => by
    rw [List.flatMap_cons, List.getElem?_append_right (by simp [liC]; omega)]
    have := liC_at l k s (by simpa using h) j hj
    rw [← this]
    congr 1
    simp [liC]
    omega
theorem liRow {w : World} {g : Nat} {l : List LI} (h : VRow w g (l.flatMap liC) 81) (k : Nat) (s : LI) (hk : l[k]? = some s) :
    w.cell? ⟨g, k * 2, none⟩ = some (.slice (some ⟨s.1.1, 0, none⟩) s.1.2.length s.1.2.length) ∧ w.cell? ⟨g, k * 2 + 1, none⟩ = some (.slice (some ⟨s.2.1, 0, none⟩) s.2.2.2.length s.2.2.1) :=
  ⟨h.cell _ _ (by have := liC_at l k s hk 0 (by omega); simpa [liC] using this), h.cell _ _ (by have := liC_at l k s hk 1 (by omega); simpa [liC] using this)⟩
set_option maxRecDepth 100000 in
set_option maxHeartbeats 4000000 in
theorem listingsOf_any (P : Nat) (c h s ra rb : Int) (a1 a2 : Option Addr) (n1 n2 c1 c2 : Nat) (xs ys : List Int) (w : World) (h1 : xs.length = n1) (h2 : ys.length = n2) (r1 : IRow w a1 xs) (r2 : IRow w a2 ys) (g : isB (P : Int) c h s xs ys = true) (ha : inB ra 1 s = true) (hbb : inB rb 1 s = true) :
    Calls Tryz.prog 28 #[.agg #[.int .i64 (P : Int), .int .i64 c, .int .i64 h, .int .i64 s], .agg #[.slice a1 n1 c1, .slice a2 n2 c2], .agg #[.int .i64 ra, .int .i64 rb]] w (LissGot P xs ys (ordersP ra rb) c h s w) := by
  obtain ⟨BV, BB, BR, hb, hz⟩ := three_new w #[.int .i64 (P : Int), .int .i64 c, .int .i64 h, .int .i64 s] #[.slice a1 n1 c1, .slice a2 n2 c2] #[.int .i64 ra, .int .i64 rb] 25 28 40
  have hz1 : w.heap.size + 1 + 1 + 1 ≤ (((w.alloc (.cells #[.int .i64 (P : Int), .int .i64 c, .int .i64 h, .int .i64 s] 25)).alloc (.cells #[.slice a1 n1 c1, .slice a2 n2 c2] 28)).alloc (.cells #[.int .i64 ra, .int .i64 rb] 40)).heap.size := by rw [hz]; omega
  clear hz
  replace r1 := r1.below hb
  replace r2 := r2.below hb
  have HG := Lib.hid g
  have HOM := Lib.hid (fun j o ho => ordersP_mem (j := j) (o := o) ha hbb ho)
  have HOL := ordersP_length ra rb
  have hor := fun W => implOrders_any ra rb W
  have hO0 : 0 < (ordersP ra rb).length := by unfold ordersP; split <;> simp
  obtain ⟨OS, hOS⟩ : ∃ z, ordersP ra rb = z := ⟨_, rfl⟩
  rw [hOS] at hor HOM HOL hO0 ⊢
  have HOR := Lib.hid hor
  clear hOS hor g ha hbb
  obtain ⟨x0, x1, x2, x3, xf, xl⟩ := BV.four
  obtain ⟨y0, y1, yf, yl⟩ := BB.two
  obtain ⟨z0, z1, zf, zl⟩ := BR.two
  go_enter Tryz.func28, Tryz.ntmps28
  go_wp2_with fail
  clear x0 x1 x2 x3 xf xl y0 y1 yf yl z0 z1 zf zl
  generalize (((w.alloc (.cells #[.int .i64 (P : Int), .int .i64 c, .int .i64 h, .int .i64 s] 25)).alloc (.cells #[.slice a1 n1 c1, .slice a2 n2 c2] 28)).alloc (.cells #[.int .i64 ra, .int .i64 rb] 40)) = v0 at *
  refine (HOR.out _).mono ?_
  rintro e w1 ⟨gO, rfl, hcells, hb1⟩
  have HC := Lib.hid hcells
  clear hcells
  go_wp2_with fail
  go_loopg [7, 9, 13] OS.length (fun m q7 q9 q13 wr => ∃ (k : Nat) (L : List LI), k ≤ OS.length ∧ m = OS.length - k ∧ q13 = .int .i64 k ∧ OwnI wr w1.heap.size q7 L ∧ LisAll w1.heap.size wr.heap.size wr L ∧ L.map (fun x => x.1.2) = OS.take k ∧ (∀ x ∈ L, x.2.2.2.map (fun y => y.2.2.map (·.2)) = levels P h x.1.2 (startP xs ys) ∧ (∀ y ∈ x.2.2.2, Fine (P : Int) c h s (y.2.2.map (·.2)) ∧ y.2.2.Pairwise Dis)) ∧ L.Pairwise DisL ∧ Below w1.heap.size w1 wr)
  case atStart => exact ⟨0, [], by omega, by omega, rfl, OwnE.nil _ _, fun x hx => by simp at hx, by simp, fun x hx => by simp at hx, List.Pairwise.nil, Below.refl _ _⟩
  case round =>
    obtain ⟨k, L, hk, hm, rfl, hO, hL, hT, hQ, hDL, hbq⟩ := hrel
    have hbel := chain hb1 hbq
    by_cases hlt : k < OS.length
    · have hlt' : (k : Int) < (OS.length : Int) := by omega
      have hk0 : (0 : Int) ≤ (k : Int) := by omega
      obtain ⟨od, hod⟩ : ∃ o, OS[k]? = some o := ⟨_, List.getElem?_eq_getElem hlt⟩
      obtain ⟨gj, hcj, hRj⟩ := HC.out k od hod
      obtain ⟨ho4, hodd⟩ := HOM.out k od hod
      have hlo := listingOf_any P c h s a1 a2 n1 n2 c1 c2 gj xs ys od wr h1 h2 (r1.below hbel) (r2.below hbel) HG.out (hRj.below hbq) ho4 hodd
      have HLO := Lib.hid hlo
      have HT := Lib.hid hT
      have HQ := Lib.hid hQ
      have HOD := Lib.hid hod
      have hLl : L.length = k := by have := congrArg List.length hT; rw [List.length_map, List.length_take] at this; omega
      have hLl2 : L.length ≤ 1048576 := by omega
      clear hlo hT hQ hod hLl hodd
      have hcj2 := CellIs.below hcj hbq
      unfold CellIs at hcj2
      obtain ⟨x0, x1, x2, x3, xf, xl⟩ := (BV.below hbel).four
      obtain ⟨y0, y1, yf, yl⟩ := (BB.below hbel).two
      go_wp2_with fail
      clear x0 x1 x2 x3 xf xl y0 y1 yf yl hcj2
      refine (HLO.out).mono ?_
      rintro e wA ⟨gL, kL, ls, rfl, hAt, hlv, hfi, hbA⟩
      clear HLO
      have hX : ∀ x ∈ L, DisL x ((gj, od), (gL, kL, ls)) := fun x hx p hp q hq p' hp' q' hq' a ha b hb' => by have h1 := (((hL x hx).2.2.2.2 p hp).2 q hq).adr a ha; have h2 := ((hAt.2.2.2.2 p' hp').2 q' hq').adr b hb'; omega
      have HX := Lib.hid (List.pairwise_append.2 ⟨hDL, List.pairwise_singleton DisL _, fun a ha b hb' => by simp at hb'; subst hb'; exact hX a ha⟩ : (L ++ [((gj, od), (gL, kL, ls))]).Pairwise DisL)
      clear hX hDL
      replace hO := hO.below hbA
      replace hL := (hL.below hbA).mono (Nat.le_refl _) hbA.size
      have hsA := hbA.size
      have hv := (chain hbq hbA).size
      replace hAt := hAt.mono hbq.size (Nat.le_refl _)
      have HLV := Lib.hid hlv
      have HFI := Lib.hid hfi
      clear hlv hfi
      go_wp2_with (at_builtin; go_loud (refine wp_pushLi rfl (.tmp 17) (.tmp 22) rfl w1.heap.size _ L rfl hO ((gj, od), (gL, kL, ls)) rfl rfl hLl2 hv ?_; intro v9 wC hO2 hbC hfr))
      go_roundg (OS.length - (k + 1))
      case measure => omega
      case rel =>
        have hsC := hbC.size
        refine ⟨k + 1, L ++ [((gj, od), (gL, kL, ls))], by omega, rfl, by go_num, hO2, ?_, ?_, ?_, HX.out, (chain hbq hbA).trans hbC⟩
        · exact (hL.frameT hsC (by decide) (by decide) (by decide) hfr).snoc (hAt.frameT hsC (by decide) (by decide) (by decide) hfr)
        · rw [List.map_append, HT.out, List.take_add_one, HOD.out]
          rfl
        · intro x hx
          rcases List.mem_append.1 hx with hx | hx
          · exact HQ.out x hx
          · simp at hx
            subst hx
            exact ⟨HLV.out, HFI.out⟩
    · obtain rfl : k = OS.length := by omega
      rw [List.take_length] at hT
      have hLl : 0 < L.length := by have := congrArg List.length hT; rw [List.length_map] at this; omega
      obtain ⟨g, kg, rfl, hg, hV⟩ := hO.at hLl
      have HT := Lib.hid hT
      have HQ := Lib.hid hQ
      have HDL := Lib.hid hDL
      clear hO hT hQ hLl hDL
      go_wp2
      go_ret
      exact ⟨g, kg, L, rfl, Nat.le_trans (hb.trans (hb1.mono hb.size)).size hg, hV.lt, hV, hL.mono (hb.trans (hb1.mono hb.size)).size (Nat.le_refl _), HT.out, HQ.out, HDL.out, hb.trans (hbel.mono hb.size)⟩
/-- The greatest number of dice that the listings use. -/
def usedL (L : List LI) : Nat := (L.map (fun x => x.2.2.2.length - 1)).foldl max 0
def usedLTo (L : List LI) (k : Nat) : Nat := usedL (L.take k)
theorem usedLTo_succ (L : List LI) (k : Nat) (x : LI) (hx : L[k]? = some x) : usedLTo L (k + 1) = max (usedLTo L k) (x.2.2.2.length - 1) := by
  unfold usedLTo usedL
  rw [List.take_add_one, hx]
  simp
theorem used1_any (x : LI) (w : World) (h0 : 0 < x.2.2.2.length) (h1 : x.2.2.2.length ≤ 1000) :
    Calls Tryz.prog 55 #[liV x] w fun e w' => e = .returned (.int .i64 ((x.2.2.2.length - 1 : Nat) : Int)) ∧ Below w.heap.size w w' := by
  obtain ⟨⟨go, o⟩, gL, k, ls⟩ := x
  dsimp only at h0 h1 ⊢
  obtain ⟨n, hn⟩ : ∃ n, ls.length = n := ⟨_, rfl⟩
  rw [hn] at h0 h1 ⊢
  have BX := Blk.new w #[.slice (some ⟨go, 0, none⟩) o.length o.length, .slice (some ⟨gL, 0, none⟩) n k] 81
  have hb : Below w.heap.size w (w.alloc (.cells #[.slice (some ⟨go, 0, none⟩) o.length o.length, .slice (some ⟨gL, 0, none⟩) n k] 81)) := (Below.refl _ _).alloc (Nat.le_refl _) _
  obtain ⟨x0, x1, xf, xl⟩ := BX.two
  have wz : IntKind.i64.wrap ((n : Int) - 1) = ((n - 1 : Nat) : Int) := by unfold IntKind.wrap; simp [IntKind.bits, IntKind.signed]; omega
  go_enter Tryz.func55, Tryz.ntmps55
  go_wp2
  go_ret
  exact ⟨by first | rfl | (rw [wz]), hb⟩
set_option maxRecDepth 100000 in
set_option maxHeartbeats 2000000 in
theorem usedAll_any (g k : Nat) (L : List LI) (w : World) (hV : VRow w g (L.flatMap liC) 81) (h0 : ∀ x ∈ L, 0 < x.2.2.2.length ∧ x.2.2.2.length ≤ 1000) (hL : L.length ≤ 1000) (hU : usedL L ≤ 1000) (hle : ∀ i, usedLTo L i ≤ 1000) :
    Calls Tryz.prog 29 #[.slice (some ⟨g, 0, none⟩) L.length k] w fun e w' => e = .returned (.int .i64 ((usedL L : Nat) : Int)) ∧ Below w.heap.size w w' := by
  have hall : usedLTo L L.length = usedL L := by unfold usedLTo; rw [List.take_length]
  obtain ⟨U, hUU⟩ : ∃ z, usedL L = z := ⟨_, rfl⟩
  rw [hUU] at hall hU ⊢
  have HALL := Lib.hid hall
  have HLE := Lib.hid hle
  have H0 := Lib.hid h0
  have HUS := Lib.hid (fun k x (hx : L[k]? = some x) => usedLTo_succ L k x hx)
  clear hUU hall hle h0
  go_enter Tryz.func29, Tryz.ntmps29
  go_wp2_with fail
  go_loopg [3, 5, 8] L.length (fun m q3 q5 q8 wr => ∃ i : Nat, i ≤ L.length ∧ m = L.length - i ∧ q8 = .int .i64 i ∧ q3 = .int .i64 ((usedLTo L i : Nat) : Int) ∧ Below w.heap.size w wr)
  case atStart => exact ⟨0, by omega, by omega, rfl, by simp [usedLTo, usedL], Below.refl _ _⟩
  case round =>
    obtain ⟨i, hi, hm, rfl, rfl, hbq⟩ := hrel
    have hul := HLE.out i
    by_cases hlt : i < L.length
    · have hlt' : (i : Int) < (L.length : Int) := by omega
      have hi0 : (0 : Int) ≤ (i : Int) := by omega
      obtain ⟨x, hx⟩ : ∃ x, L[i]? = some x := ⟨_, List.getElem?_eq_getElem hlt⟩
      obtain ⟨k0, k1⟩ := H0.out x (List.mem_of_getElem? hx)
      have hus := HUS.out i x hx
      obtain ⟨c0, c1⟩ := liRow (hV.below hbq) i x hx
      have hu1 := fun W => used1_any x W k0 k1
      obtain ⟨NN, hNN⟩ : ∃ z, x.2.2.2.length - 1 = z := ⟨_, rfl⟩
      obtain ⟨UU, hUU⟩ : ∃ z, usedLTo L i = z := ⟨_, rfl⟩
      rw [hNN] at hu1
      rw [hNN, hUU] at hus
      rw [hUU] at hul ⊢
      have hNle : NN ≤ 1000 := by omega
      have HU1 := Lib.hid hu1
      have HUS2 := Lib.hid hus
      obtain ⟨MM, hMM⟩ : ∃ z : Int, max (UU : Int) (NN : Int) = z := ⟨_, rfl⟩
      have hmx : MM = ((max UU NN : Nat) : Int) := by omega
      have HMX := Lib.hid hmx
      clear hmx hu1 hus hNN hUU hx k0 k1
      have BX := Blk.new wr #[.slice (some ⟨x.1.1, 0, none⟩) x.1.2.length x.1.2.length, .slice (some ⟨x.2.1, 0, none⟩) x.2.2.2.length x.2.2.1] 81
      have hbx : Below wr.heap.size wr (wr.alloc (.cells #[.slice (some ⟨x.1.1, 0, none⟩) x.1.2.length x.1.2.length, .slice (some ⟨x.2.1, 0, none⟩) x.2.2.2.length x.2.2.1] 81)) := (Below.refl _ _).alloc (Nat.le_refl _) _
      obtain ⟨y0, y1, yf, yl⟩ := BX.two
      have ofl : (i : Int) * 2 = ((i * 2 : Nat) : Int) := by omega
      go_wp2_with fail
      clear y0 y1 yf yl c0 c1 BX
      refine (HU1.out _).mono ?_
      rintro e wA ⟨rfl, hbA⟩
      replace hbA := chain hbx hbA
      clear hbx HU1
      go_wp2
      go_roundg (L.length - (i + 1))
      case measure => omega
      case rel => exact ⟨i + 1, by omega, rfl, by go_num, by rw [HUS2.out, HMX.out], chain hbq hbA⟩
    · obtain rfl : i = L.length := by omega
      rw [HALL.out]
      clear hul
      go_wp2
      go_ret
      exact ⟨rfl, hbq⟩
end Go.Proofs.YtknkbhmgdddjkaaGreat
namespace Go.Proofs.YtknkbhmgdddjkaaGreat
open Go.ChangeShapes Go.WideShapes Go.ChangeAt Go.RowKit
set_option linter.unusedVariables false
set_option linter.unusedSimpArgs false
set_option maxRecDepth 4000

theorem usedL_levels (P : Nat) (h : Int) (xs ys : List Int) (OS : List (List Int)) (L : List LI) (hT : L.map (fun x => x.1.2) = OS) (hQ : ∀ x ∈ L, x.2.2.2.map (fun y => y.2.2.map (·.2)) = levels P h x.1.2 (startP xs ys)) :
    usedL L = (OS.map (fun o => longN P h o (startP xs ys))).foldl max 0 := by
  unfold usedL
  rw [← hT, List.map_map]
  congr 1
  refine List.map_congr_left fun x hx => ?_
  have := congrArg List.length (hQ x hx)
  rw [List.length_map, levels_length] at this
  show x.2.2.2.length - 1 = longN P h x.1.2 (startP xs ys)
  omega
theorem used_of {P : Nat} {h ra rb : Int} {xs ys : List Int} (g k : Nat) (L : List LI) (w : World) (hV : VRow w g (L.flatMap liC) 81) (hT : L.map (fun x => x.1.2) = ordersP ra rb) {F : LI → Prop} (hQ : ∀ x ∈ L, x.2.2.2.map (fun y => y.2.2.map (·.2)) = levels P h x.1.2 (startP xs ys) ∧ F x) :
    Calls Tryz.prog 29 #[.slice (some ⟨g, 0, none⟩) L.length k] w fun e w' => e = .returned (.int .i64 ((usedP P h xs ys ra rb : Nat) : Int)) ∧ Below w.heap.size w w' := by
  have hu : usedL L = usedP P h xs ys ra rb := usedL_levels P h xs ys _ L hT (fun x hx => (hQ x hx).1)
  have hlen : ∀ x ∈ L, x.2.2.2.length = longN P h x.1.2 (startP xs ys) + 1 := fun x hx => by
    have := congrArg List.length (hQ x hx).1
    rwa [List.length_map, levels_length] at this
  have ho4 : ∀ x ∈ L, x.1.2.length ≤ 4 := fun x hx => by
    have hm : x.1.2 ∈ ordersP ra rb := by rw [← hT]; exact List.mem_map.2 ⟨x, hx, rfl⟩
    unfold ordersP at hm
    split at hm
    · simp at hm; rw [hm]; simp
    · simp at hm; rcases hm with h | h <;> rw [h] <;> simp
  have hL2 : L.length ≤ 2 := by
    have := congrArg List.length hT
    rw [List.length_map] at this
    rw [this]
    exact ordersP_length ra rb
  have hto : ∀ i, usedLTo L i = usedTo P h xs ys (ordersP ra rb) i := fun i => by
    unfold usedLTo usedTo
    refine usedL_levels P h xs ys _ _ ?_ (fun x hx => (hQ x (List.mem_of_mem_take hx)).1)
    rw [← hT, List.map_take]
  have hle := usedTo_le P h xs ys ra rb
  rw [← hu]
  refine usedAll_any g k L w hV (fun x hx => ?_) (by omega) ?_ (fun i => ?_)
  · have h1 := hlen x hx
    have h2 := longN_le P h x.1.2 (startP xs ys)
    have h3 := ho4 x hx
    omega
  · have := hle (ordersP ra rb).length
    rw [usedTo_all] at this
    omega
  · rw [hto]
    have := hle i
    omega
set_option maxRecDepth 8000 in
set_option maxHeartbeats 1000000 in
theorem implDiceUsed_any (ra rb : Int) (p c h s : Int) (a1 a2 : Option Addr) (n1 n2 c1 c2 : Nat) (xs ys : List Int) (w : World) (h1 : xs.length = n1) (h2 : ys.length = n2) (l1 : n1 ≤ 1048576) (l2 : n2 ≤ 1048576) (r1 : IRow w a1 xs) (r2 : IRow w a2 ys) :
    Calls Tryz.prog 11 #[.agg #[.int .i64 p, .int .i64 c, .int .i64 h, .int .i64 s], .agg #[.slice a1 n1 c1, .slice a2 n2 c2], .agg #[.int .i64 ra, .int .i64 rb]] w fun e w' => e = .returned (duV p c h s xs ys ra rb) ∧ Below w.heap.size w w' := by
  have hC := fun W (q1 : IRow W a1 xs) (q2 : IRow W a2 ys) => rollCode_any ra rb p c h s a1 a2 n1 n2 c1 c2 xs ys W h1 h2 l1 l2 q1 q2
  unfold codeB at hC
  unfold duV
  by_cases g : isB p c h s xs ys = true
  · rw [if_pos g]
    rw [if_pos g] at hC
    obtain ⟨p0, p1, k0, k1, k2, k3, N1, N2, hx, hy, s0, s1, s2, s3⟩ := isB_parts g
    clear hx hy
    obtain ⟨P, rfl⟩ := Int.eq_ofNat_of_zero_le (by omega : 0 ≤ p)
    rw [show ((P : Int)).toNat = P by simp]
    obtain ⟨BV, BB, BR, hb, hz⟩ := three_new w #[.int .i64 (P : Int), .int .i64 c, .int .i64 h, .int .i64 s] #[.slice a1 n1 c1, .slice a2 n2 c2] #[.int .i64 ra, .int .i64 rb] 25 28 40
    clear hz
    obtain ⟨x0, x1, x2, x3, xf, xl⟩ := BV.four
    obtain ⟨y0, y1, yf, yl⟩ := BB.two
    obtain ⟨z0, z1, zf, zl⟩ := BR.two
    by_cases e : rlB s ra rb = true
    · rw [if_pos e] at hC
      rw [if_pos e]
      obtain ⟨e1, e2⟩ := rlB_two e
      have hU := fun W (q1 : IRow W a1 xs) (q2 : IRow W a2 ys) => listingsOf_any P c h s ra rb a1 a2 n1 n2 c1 c2 xs ys W h1 h2 q1 q2 g e1 e2
      have HU := Lib.hid hU
      have HC := Lib.hid hC
      clear hU hC e e1 e2 g
      go_enter Tryz.func11, Tryz.ntmps11
      go_wp2_with (first | (go_at_call 27; refine (HC.out _ (r1.below hb) (r2.below hb)).mono ?_; clear HC; rintro e w1 ⟨rfl, hb1⟩; obtain ⟨x0, x1, x2, x3, xf, xl⟩ := (BV.below hb1).four; obtain ⟨y0, y1, yf, yl⟩ := (BB.below hb1).two; obtain ⟨z0, z1, zf, zl⟩ := (BR.below hb1).two) | (go_at_call 28; refine (HU.out _ (r1.below (chain hb hb1)) (r2.below (chain hb hb1))).mono ?_; rintro e w2 ⟨gL, kL, L, rfl, -, -, hV, -, hT, hQ, -, hb2⟩; have HT := Lib.hid hT; have HQ := Lib.hid hQ; clear hT hQ) | (go_at_call 29; refine (used_of gL kL L w2 hV HT.out HQ.out).mono ?_; rintro e w3 ⟨rfl, hb3⟩))
      go_ret2
      exact ⟨rfl, chain (chain (chain hb hb1) hb2) hb3⟩
    · rw [if_neg e] at hC
      rw [if_neg e]
      have HC := Lib.hid hC
      clear hC e g
      go_enter Tryz.func11, Tryz.ntmps11
      go_wp2_with (first | (go_at_call 27; refine (HC.out _ (r1.below hb) (r2.below hb)).mono ?_; clear HC; rintro e w1 ⟨rfl, hb1⟩; obtain ⟨x0, x1, x2, x3, xf, xl⟩ := (BV.below hb1).four; obtain ⟨y0, y1, yf, yl⟩ := (BB.below hb1).two; obtain ⟨z0, z1, zf, zl⟩ := (BR.below hb1).two))
      go_ret2
      exact ⟨rfl, chain hb hb1⟩
  · rw [if_neg g]
    rw [if_neg g] at hC
    have HC := Lib.hid hC
    clear hC g
    obtain ⟨BV, BB, BR, hb, hz⟩ := three_new w #[.int .i64 p, .int .i64 c, .int .i64 h, .int .i64 s] #[.slice a1 n1 c1, .slice a2 n2 c2] #[.int .i64 ra, .int .i64 rb] 25 28 40
    clear hz
    obtain ⟨x0, x1, x2, x3, xf, xl⟩ := BV.four
    obtain ⟨y0, y1, yf, yl⟩ := BB.two
    obtain ⟨z0, z1, zf, zl⟩ := BR.two
    go_enter Tryz.func11, Tryz.ntmps11
    go_wp2_with (first | (go_at_call 27; refine (HC.out _ (r1.below hb) (r2.below hb)).mono ?_; clear HC; rintro e w1 ⟨rfl, hb1⟩; obtain ⟨x0, x1, x2, x3, xf, xl⟩ := (BV.below hb1).four; obtain ⟨y0, y1, yf, yl⟩ := (BB.below hb1).two; obtain ⟨z0, z1, zf, zl⟩ := (BR.below hb1).two))
    go_ret2
    exact ⟨rfl, chain hb hb1⟩
end Go.Proofs.YtknkbhmgdddjkaaGreat
namespace Go.Proofs.YtknkbhmgdddjkaaGreat
open Go.ChangeShapes Go.WideShapes Go.ChangeAt Go.RowKit
set_option linter.unusedVariables false
set_option linter.unusedSimpArgs false
set_option maxRecDepth 4000

/-- The listings whose longest sequences are legal. -/
def keepL (U : Nat) (L : List LI) : List LI := L.filter (fun x => x.2.2.2.length - 1 == U)
def legalL (L : List LI) : List LI := if usedL L = 1 then (keepL (usedL L) L).take 1 else keepL (usedL L) L
theorem keepL_succ (U : Nat) (L : List LI) (k : Nat) (x : LI) (hx : L[k]? = some x) : keepL U (L.take (k + 1)) = keepL U (L.take k) ++ (if x.2.2.2.length - 1 = U then [x] else []) := by
  unfold keepL
  rw [List.take_add_one, hx, List.filter_append]
  congr 1
  by_cases e : x.2.2.2.length - 1 = U
  · simp [e]
  · simp [e]
theorem max_in : ∀ (l : List Nat) (m : Nat), l.foldl max m = m ∨ l.foldl max m ∈ l
  | [], m => .inl rfl
  | a :: l, m => by
    rcases max_in l (max m a) with h | h
    · rw [List.foldl_cons, h]
      rcases Nat.le_total m a with e | e
      · rw [Nat.max_eq_right e]; exact .inr (by simp)
      · rw [Nat.max_eq_left e]; exact .inl rfl
    · rw [List.foldl_cons]
      exact .inr (List.mem_cons_of_mem _ h)
theorem keepL_ne (L : List LI) (h0 : 0 < L.length) : 0 < (keepL (usedL L) L).length := by
  have hm : usedL L = 0 ∨ usedL L ∈ L.map (fun x => x.2.2.2.length - 1) := max_in _ 0
  have hx : ∃ x ∈ L, x.2.2.2.length - 1 = usedL L := by
    rcases hm with h | h
    · obtain ⟨x, hx⟩ := List.exists_mem_of_length_pos h0
      refine ⟨x, hx, ?_⟩
      have hle : ∀ (l : List Nat) (m : Nat), m ≤ l.foldl max m ∧ ∀ y ∈ l, y ≤ l.foldl max m := by
        intro l
        induction l with
        | nil => intro m; simp
        | cons a l ih =>
          intro m
          obtain ⟨i1, i2⟩ := ih (max m a)
          rw [List.foldl_cons]
          refine ⟨by omega, fun y hy => ?_⟩
          rcases List.mem_cons.1 hy with rfl | hy
          · omega
          · exact i2 y hy
      have := (hle (L.map (fun x => x.2.2.2.length - 1)) 0).2 _ (List.mem_map.2 ⟨x, hx, rfl⟩)
      have h' : (L.map (fun x => x.2.2.2.length - 1)).foldl max 0 = 0 := h
      rw [h'] at this
      omega
    · obtain ⟨x, hx, e⟩ := List.mem_map.1 h
      exact ⟨x, hx, e⟩
  obtain ⟨x, hx, e⟩ := hx
  exact List.length_pos_of_mem (List.mem_filter.2 ⟨hx, by simp [e]⟩)
theorem keepL_mem {U : Nat} {L : List LI} {x : LI} (h : x ∈ keepL U L) : x ∈ L ∧ x.2.2.2.length - 1 = U := by
  obtain ⟨h1, h2⟩ := List.mem_filter.1 h
  exact ⟨h1, by simpa using h2⟩
theorem keepL_le (U : Nat) (L : List LI) : (keepL U L).length ≤ L.length := List.length_filter_le _ _
theorem legalL_mem {L : List LI} {x : LI} (h : x ∈ legalL L) : x ∈ L ∧ x.2.2.2.length - 1 = usedL L := by
  unfold legalL at h
  split at h
  · exact keepL_mem (List.mem_of_mem_take h)
  · exact keepL_mem h
theorem legalL_le (L : List LI) : (legalL L).length ≤ L.length := by
  unfold legalL
  have := keepL_le (usedL L) L
  split
  · rw [List.length_take]; omega
  · exact this
theorem VRow.pre {w : World} {g : Nat} {vs us : List Value} {t : TypeId} (h : VRow w g (vs ++ us) t) : VRow w g vs t := by
  obtain ⟨cur, hB, h1, h2⟩ := h
  rw [List.length_append] at h1 h2
  refine ⟨cur, hB, by omega, ?_⟩
  have := congrArg (List.take vs.length) h2
  rw [List.take_take, Nat.min_eq_left (by omega), List.take_left'] at this
  · exact this
  · rfl
theorem VRow.take1 {w : World} {g : Nat} {F : List LI} {t : TypeId} (h : VRow w g (F.flatMap liC) t) : VRow w g ((F.take 1).flatMap liC) t := by
  have e : F.flatMap liC = (F.take 1).flatMap liC ++ (F.drop 1).flatMap liC := by rw [← List.flatMap_append, List.take_append_drop]
  rw [e] at h
  exact h.pre
theorem OwnE.room {α : Type} {enc : α → List Value} {T : TypeId} {sz : Nat} {w : World} {base : Nat} {g n k : Nat} {l : List α} (h : OwnE enc T sz w base (.slice (some ⟨g, 0, none⟩) n k) l) : l.length ≤ k := by
  obtain ⟨hl, ⟨h1, h2⟩ | ⟨g', cap, cur, hv, hb, hh, hc, hm, hs, ht⟩⟩ := h
  · simp at h1
  · simp at hv
    omega
/-- The legal listings have been laid into a slice. -/
def LegGot (L : List LI) (w : World) (e : Ending) (w' : World) : Prop :=
  ∃ g k, e = .returned (.slice (some ⟨g, 0, none⟩) (legalL L).length k) ∧ w.heap.size ≤ g ∧ VRow w' g ((legalL L).flatMap liC) 81 ∧ Below w.heap.size w w'
set_option maxRecDepth 100000 in
set_option maxHeartbeats 4000000 in
theorem legal_any (g k : Nat) (L : List LI) (w : World) (hV : VRow w g (L.flatMap liC) 81) (h0 : ∀ x ∈ L, 0 < x.2.2.2.length ∧ x.2.2.2.length ≤ 1000) (hL : L.length ≤ 1000) (hU : usedL L ≤ 1000) (hle : ∀ i, usedLTo L i ≤ 1000) (hL0 : 0 < L.length) :
    Calls Tryz.prog 65 #[.slice (some ⟨g, 0, none⟩) L.length k] w (LegGot L w) := by
  have hua := usedAll_any g k L w hV h0 hL hU hle
  have hne := keepL_ne L hL0
  have hleg : legalL L = if usedL L = 1 then (keepL (usedL L) L).take 1 else keepL (usedL L) L := rfl
  obtain ⟨R, hR⟩ : ∃ z, legalL L = z := ⟨_, rfl⟩
  unfold LegGot
  rw [hR] at hleg ⊢
  obtain ⟨U, hUU⟩ : ∃ z, usedL L = z := ⟨_, rfl⟩
  rw [hUU] at hua hne hleg hU
  have HUA := Lib.hid hua
  have HNE := Lib.hid hne
  have HLEG := Lib.hid hleg
  have H0 := Lib.hid h0
  have HKS := Lib.hid (fun k x (hx : L[k]? = some x) => keepL_succ U L k x hx)
  have HKL := Lib.hid (keepL_le U)
  clear hua hne hleg h0 hR hUU hle
  go_enter Tryz.func65, Tryz.ntmps65
  go_wp2_with fail
  refine (HUA.out).mono ?_
  rintro e w1 ⟨rfl, hb1⟩
  clear HUA
  have hV1 := hV.below hb1
  clear hV
  go_wp2_with fail
  go_loopg [4, 6, 11] L.length (fun m q4 q6 q11 wr => ∃ (i : Nat) (F : List LI), i ≤ L.length ∧ m = L.length - i ∧ q11 = .int .i64 i ∧ F = keepL U (L.take i) ∧ OwnI wr w1.heap.size q4 F ∧ Below w1.heap.size w1 wr)
  case atStart => exact ⟨0, [], by omega, by omega, rfl, by simp [keepL], OwnE.nil _ _, Below.refl _ _⟩
  case round =>
    obtain ⟨i, F, hi, hm, rfl, hF, hO, hbq⟩ := hrel
    have hFl : F.length ≤ 1000 := by rw [hF]; have := HKL.out (L.take i); rw [List.length_take] at this; omega
    by_cases hlt : i < L.length
    · have hlt' : (i : Int) < (L.length : Int) := by omega
      have hi0 : (0 : Int) ≤ (i : Int) := by omega
      obtain ⟨x, hx⟩ : ∃ x, L[i]? = some x := ⟨_, List.getElem?_eq_getElem hlt⟩
      obtain ⟨k0, k1⟩ := H0.out x (List.mem_of_getElem? hx)
      have hks := HKS.out i x hx
      rw [← hF] at hks
      obtain ⟨c0, c1⟩ := liRow (hV1.below hbq) i x hx
      have hu1 := fun W => used1_any x W k0 k1
      obtain ⟨NN, hNN⟩ : ∃ z, x.2.2.2.length - 1 = z := ⟨_, rfl⟩
      rw [hNN] at hu1 hks
      have HU1 := Lib.hid hu1
      have HKS2 := Lib.hid hks
      clear hu1 hks hNN hx k0 k1 hF
      by_cases eN : NN = U
      · have f0 : ((NN : Int) == (U : Int)) = true := by rw [beq_iff_eq]; omega
        have BX := Blk.new wr #[.slice (some ⟨x.1.1, 0, none⟩) x.1.2.length x.1.2.length, .slice (some ⟨x.2.1, 0, none⟩) x.2.2.2.length x.2.2.1] 81
        have hbx : Below wr.heap.size wr (wr.alloc (.cells #[.slice (some ⟨x.1.1, 0, none⟩) x.1.2.length x.1.2.length, .slice (some ⟨x.2.1, 0, none⟩) x.2.2.2.length x.2.2.1] 81)) := (Below.refl _ _).alloc (Nat.le_refl _) _
        obtain ⟨y0, y1, yf, yl⟩ := BX.two
        go_wp2_with fail
        clear y0 y1 yf yl c0 c1
        refine (HU1.out _).mono ?_
        rintro e wA ⟨rfl, hbA⟩
        replace BX := BX.below hbA
        replace hbA := chain hbx hbA
        clear hbx HU1
        obtain ⟨y0, y1, yf, yl⟩ := BX.two
        replace hO := hO.below hbA
        have hsA := hbA.size
        have hsv := (chain hbq hbA).size
        go_wp2_with (at_builtin; go_loud (refine wp_pushLi rfl (.tmp 19) (.tmp 21) rfl w1.heap.size _ F rfl hO x rfl rfl (by omega) hsv ?_; intro v9 wC hO2 hbC hfr))
        go_roundg (L.length - (i + 1))
        case measure => omega
        case rel => exact ⟨i + 1, F ++ [x], by omega, rfl, by go_num, by rw [HKS2.out, if_pos eN], hO2, (chain hbq hbA).trans hbC⟩
      · have f0 : ((NN : Int) == (U : Int)) = false := by rw [beq_eq_false_iff_ne]; omega
        have BX := Blk.new wr #[.slice (some ⟨x.1.1, 0, none⟩) x.1.2.length x.1.2.length, .slice (some ⟨x.2.1, 0, none⟩) x.2.2.2.length x.2.2.1] 81
        have hbx : Below wr.heap.size wr (wr.alloc (.cells #[.slice (some ⟨x.1.1, 0, none⟩) x.1.2.length x.1.2.length, .slice (some ⟨x.2.1, 0, none⟩) x.2.2.2.length x.2.2.1] 81)) := (Below.refl _ _).alloc (Nat.le_refl _) _
        obtain ⟨y0, y1, yf, yl⟩ := BX.two
        go_wp2_with fail
        clear y0 y1 yf yl c0 c1
        refine (HU1.out _).mono ?_
        rintro e wA ⟨rfl, hbA⟩
        replace BX := BX.below hbA
        replace hbA := chain hbx hbA
        clear hbx HU1
        obtain ⟨y0, y1, yf, yl⟩ := BX.two
        replace hO := hO.below hbA
        have hsA := hbA.size
        have hsv := (chain hbq hbA).size
        go_wp2
        go_roundg (L.length - (i + 1))
        case measure => omega
        case rel => exact ⟨i + 1, F, by omega, rfl, by go_num, by rw [HKS2.out, if_neg eN, List.append_nil], hO, chain hbq hbA⟩
    · obtain rfl : i = L.length := by omega
      rw [List.take_length] at hF
      have hF0 : 0 < F.length := by rw [hF]; exact HNE.out
      have hleg := HLEG.out
      rw [← hF] at hleg
      clear hF
      obtain ⟨gF, kF, rfl, hgF, hVF⟩ := hO.at hF0
      have hcap : F.length ≤ kF := OwnE.room hO
      clear hO
      by_cases e1 : U = 1
      · have f1 : ((U : Int) == 1) = true := by rw [beq_iff_eq]; omega
        rw [if_pos e1] at hleg
        have hR1 : R.length = 1 := by rw [hleg, List.length_take]; omega
        have HR1 := Lib.hid hR1
        have HLG := Lib.hid hleg
        have hk1 : (1 : Int) ≤ (kF : Int) := by omega
        have hk2 : 1 ≤ kF := by omega
        clear hleg hR1
        go_wp2
        go_ret
        exact ⟨gF, kF, by rw [HR1.out]; rfl, Nat.le_trans hb1.size hgF, by rw [HLG.out]; exact hVF.take1, hb1.trans (hbq.mono hb1.size)⟩
      · have f1 : ((U : Int) == 1) = false := by rw [beq_eq_false_iff_ne]; omega
        rw [if_neg e1] at hleg
        have HLG := Lib.hid hleg
        clear hleg
        go_wp2
        go_ret
        exact ⟨gF, kF, by rw [HLG.out]; rfl, Nat.le_trans hb1.size hgF, by rw [HLG.out]; exact hVF, hb1.trans (hbq.mono hb1.size)⟩
end Go.Proofs.YtknkbhmgdddjkaaGreat
namespace Go.Proofs.YtknkbhmgdddjkaaGreat
open Go.ChangeShapes Go.WideShapes Go.ChangeAt Go.RowKit
attribute [local go_sem] Oper.semAt_some
set_option linter.unusedVariables false
set_option linter.unusedSimpArgs false
set_option maxRecDepth 4000

theorem values_any (la : Option Addr) (ln lc : Nat) (w : World) :
    Calls Tryz.prog 67 #[.slice la ln lc] w fun e w' => e = .returned (.func (.func 81) #[] #[.pointer (some ⟨w.heap.size, 0, none⟩)]) ∧ Blk w' w.heap.size #[.slice la ln lc] 50 ∧ Below w.heap.size w w' ∧ w'.heap.size = w.heap.size + 1 := by
  have B1 := Blk.new w #[.slice la ln lc] 50
  have hb : Below w.heap.size w (w.alloc (.cells #[.slice la ln lc] 50)) := (Below.refl _ _).alloc (Nat.le_refl _) _
  have hz : (w.alloc (.cells #[.slice la ln lc] 50)).heap.size = w.heap.size + 1 := by simp
  go_enter Tryz.func67, Tryz.ntmps67
  go_wp2
  go_ret
  exact ⟨rfl, B1, hb, hz⟩
theorem values1_enter (args : Array Value) (w : World) : (callFunc 81 args).run Tryz.prog w = .ok (.enter 81 args) w := by
  obtain ⟨fn, hf, hn, cc, hc⟩ : ∃ fn, Tryz.prog.funcs[(81 : FuncId)]? = some fn ∧ (fn.name == "runtime.NumGoroutine") = false ∧ ∃ cc, fn.body = some cc := ⟨_, Tryz.func81, by kernel_rfl, _, rfl⟩
  have h1 : ¬ fn.name = "runtime.NumGoroutine" := by simpa using hn
  simp [callFunc, hf, h1, hc]
set_option maxRecDepth 100000 in
set_option maxHeartbeats 4000000 in
theorem values1_good (P : Nat) (c h s : Int) (Bl : Nat) (la : Option Addr) (lc lo hi K : Nat) (l : List PP) (w : World) (hBl : Blk w Bl #[.slice la l.length lc] 50) (hO : OPl lo hi w la l) (hA : PAll lo hi w l) (hhi : hi ≤ w.heap.size)
    (hF : Fine (P : Int) c h s (l.map (·.2))) (hK : ∀ x ∈ l, x.2.1.length ≤ K) (hl : l.length ≤ 1000000) (hD : l.Pairwise Dis) :
    SeqGood 81 #[.pointer (some ⟨Bl, 0, none⟩)] (fun x : PP => #[plV x]) (GoodP (P : Int) c h s lo K) Dis w.heap.size (fun xs => xs = l) l.length w := by
  intro n yl foot J W hW hJ hf hJf hY h0
  refine callsIn_of_wp Tryz.func81 rfl trivial ?_ rfl
  simp only [Tryz.ntmps81, List.size_toArray, List.length_cons, List.length_nil, Nat.reduceAdd, Nat.reduceSub, Array.replicate_succ, Array.replicate_zero, List.push_toArray, List.append_toArray, List.nil_append, List.cons_append]
  have BL := hBl.below hW
  have l0 := BL.one.1
  gi_wp2
  gi_loopw [4, 7] (fun q4 i wr => ∃ k : Nat, k ≤ l.length ∧ i = .int .i64 k ∧ J (l.take k) wr ∧ Below w.heap.size w wr ∧ W.heap.size ≤ wr.heap.size) (fun _ i _ => l.length - (intOf i).toNat)
  case atStart => exact ⟨0, Nat.zero_le _, rfl, by simpa using h0, hW, Nat.le_refl _⟩
  case round =>
    clear BL l0 h0
    obtain ⟨k, hk, rfl, hJs, hb, hWs⟩ := hrel
    by_cases hlt : k < l.length
    · obtain ⟨x, hx⟩ : ∃ x, l[k]? = some x := ⟨_, List.getElem?_eq_getElem hlt⟩
      have hxm : x ∈ l := List.mem_of_getElem? hx
      obtain ⟨gl, rfl, hrow⟩ := hO.row hlt
      have hrow2 := hrow.below hb
      obtain ⟨c0, c1, c2⟩ := PRow.three hrow2 k x hx
      have hat := (hA x hxm).below hb
      have gx := hF x.2 (List.mem_map.2 ⟨x, hxm, rfl⟩)
      have hlx := hK x hxm
      have hlt' : (k : Int) < (l.length : Int) := by omega
      have hk0 : (0 : Int) ≤ (k : Int) := by omega
      have hal : Below wr.heap.size wr (wr.alloc (.cells #[pl0 x, pl1 x, pl2 x] 93)) := (Below.refl _ _).alloc (Nat.le_refl _) _
      have B6 := Blk.new wr #[pl0 x, pl1 x, pl2 x] 93
      obtain ⟨b0, b1, b2, bf, bl⟩ := B6.tri
      have hsA := hal.size
      have hJ2 := hJ _ _ _ hJs hal
      have hbW := chain hb hal
      have hgood : GoodP (P : Int) c h s lo K x (wr.alloc (.cells #[pl0 x, pl1 x, pl2 x] 93)) := ⟨(hat.below hal).mono (Nat.le_refl _) (by have := hbW.size; omega), gx, hlx⟩
      have hdis : ∀ z ∈ l.take k, Dis z x := fun z hz => by
        have h1 : (l.take (k + 1)).Pairwise Dis := hD.sublist (List.take_sublist _ _)
        rw [List.take_add_one, hx] at h1
        exact (List.pairwise_append.1 h1).2.2 z hz x (by simp)
      obtain ⟨fn, tmps, assign, body, hyy, hR⟩ := hY (l.take k) x _ hJ2 hgood hdis (by rw [List.length_take]; omega) (by omega)
      have htk : l.take k ++ [x] = l.take (k + 1) := by rw [List.take_add_one, hx]; rfl
      rw [htk] at hR
      clear hdis hat gx hrow hrow2 hgood htk hJ2 hJs
      gi_wp2
      refine hR.mono ?_
      rintro e Y ⟨rfl, hJY, hbY, hKp⟩
      have hsY := hKp.size
      gi_wp2
      go_roundw
      case rel => exact ⟨k + 1, by omega, by simp, hJY, hbW.trans hbY, by omega⟩
      case measure => simp [intOf]; omega
    · obtain rfl : k = l.length := by omega
      have hlt' : ¬ (l.length : Int) < (l.length : Int) := by omega
      rw [List.take_length] at hJs
      gi_wp2
      go_end0
      exact ⟨⟨_, rfl⟩, hJs⟩
end Go.Proofs.YtknkbhmgdddjkaaGreat
