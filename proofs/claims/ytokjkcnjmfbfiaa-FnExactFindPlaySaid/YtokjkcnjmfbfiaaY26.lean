/- Texts of a proof, laid together: Contract of the program's listing of an order. Contract of the program's orders of a roll. Contracts of the program's listings of a roll, and of the number of dice that they use. The contract of the program on the number of dice that a roll uses. The law's own helpers on steps: handed over, compared, marked. How a board that came in is read: two rows of int64. -/
import Derived.Test.YtokjkcnjmfbfiaaY22
import Derived.Test.YtokjkcnjmfbfiaaY24
import Derived.Test.YtokjkcnjmfbfiaaY25
import Derived.Test.YtokjkcnjmfbfiaaY23
import Derived.Test.YtokjkcnjmfbfiaaY15
import Derived.Test.YtokjkcnjmfbfiaaY16
import Derived.Lib.MinMax
import Derived.Test.YtokjkcnjmfbfiaaY17
import Derived.Test.YtokjkcnjmfbfiaaY04
import Derived.BigQuiet
import Derived.Test.YtokjkcnjmfbfiaaY01
namespace Go.Proofs.Ytokjkcnjmfbfiaa
open Go.ChangeShapes Go.WideShapes Go.ChangeAt Go.RowKit
set_option linter.unusedVariables false
set_option linter.unusedSimpArgs false
set_option maxRecDepth 4000

/-- Where the loop over an order stands. -/
def LevI (P : Nat) (h : Int) (o : List Int) (st : List Ply) (k : Nat) (ls : List LV) (cur : List PP) : Prop := levels P h o st = ls.map (fun x => x.2.2.map (·.2)) ++ levels P h (o.drop k) (cur.map (·.2)) ∧ ls.length = k
theorem LevI.start (P : Nat) (h : Int) (o : List Int) (st : List Ply) (cur : List PP) (e : cur.map (·.2) = st) : LevI P h o st 0 [] cur := ⟨by rw [e]; rfl, rfl⟩
theorem LevI.stop {P : Nat} {h : Int} {o : List Int} {st : List Ply} {k : Nat} {ls : List LV} {cur : List PP} (i : LevI P h o st k ls cur) (a : Option Addr) (kk : Nat) (e : ∀ d, o[k]? = some d → nextP P h d (cur.map (·.2)) = []) :
    (ls ++ [(a, kk, cur)]).map (fun x => x.2.2.map (·.2)) = levels P h o st := by
  rw [i.1, List.map_append]
  congr 1
  cases hd : o.drop k with
  | nil => rfl
  | cons d ds =>
    have : o[k]? = some d := by
      have := congrArg List.head? hd
      rw [List.head?_drop] at this
      simpa using this
    rw [levels, if_pos (e d this)]
    rfl
theorem LevI.step {P : Nat} {h : Int} {o : List Int} {st : List Ply} {k : Nat} {ls : List LV} {cur nxt : List PP} {d : Int} (i : LevI P h o st k ls cur) (a : Option Addr) (kk : Nat) (hd : o[k]? = some d) (hn : nxt.map (·.2) = nextP P h d (cur.map (·.2))) (h0 : nxt ≠ []) :
    LevI P h o st (k + 1) (ls ++ [(a, kk, cur)]) nxt := by
  refine ⟨?_, by rw [List.length_append, i.2]; rfl⟩
  have hk := (List.getElem?_eq_some_iff.1 hd).1
  have hdr : o.drop k = d :: o.drop (k + 1) := by rw [List.drop_eq_getElem_cons hk, (List.getElem?_eq_some_iff.1 hd).2]
  rw [i.1, hdr, levels, if_neg (by rw [← hn]; simpa using h0), List.map_append, List.append_assoc, hn]
  rfl
theorem LsAll.snoc {lo hi : Nat} {w : World} {l : List LV} {x : LV} (h : LsAll lo hi w l) (hx : LvAt lo hi w x) : LsAll lo hi w (l ++ [x]) := fun y hy => by
  rcases List.mem_append.1 hy with hy | hy
  · exact h y hy
  · simp at hy; subst hy; exact hx
theorem longer1_enter (args : Array Value) (w : World) : (callFunc 170 args).run Try.prog w = .ok (.enter 170 args) w := by
  obtain ⟨fn, hf, hn, cc, hc⟩ : ∃ fn, Try.prog.funcs[(170 : FuncId)]? = some fn ∧ (fn.name == "runtime.NumGoroutine") = false ∧ ∃ cc, fn.body = some cc := ⟨_, Try.func170, by kernel_rfl, _, rfl⟩
  have h1 : ¬ fn.name = "runtime.NumGoroutine" := by simpa using hn
  simp [callFunc, hf, h1, hc]
theorem OwnL.at {w : World} {base : Nat} {v : Value} {l : List LV} {x : LV} (h : OwnL w base v (l ++ [x])) : ∃ g k, v = .slice (some ⟨g, 0, none⟩) (l ++ [x]).length k ∧ base ≤ g ∧ VRow w g ((l ++ [x]).flatMap lvC) 40 := by
  obtain ⟨hl, ⟨_, h2⟩ | ⟨g, cap, cur, hv, hb, hh, hc, hm, hs, ht⟩⟩ := h
  · simp at h2
  · refine ⟨g, cap, hv, hb, cur, hh, ?_, ?_⟩
    · rw [hl, hs]; exact Nat.mul_le_mul_right _ hc
    · rw [hl]; exact ht
theorem li_put {W : World} {g : Nat} {vs : Array Value} {v v' : Value} (B : Blk W g vs 118) : ∀ g' cur t, Blk W g' cur t → t ≠ 118 → ((W.setCell ⟨g, 0, none⟩ v).setCell ⟨g, 1, none⟩ v').heap[g']? = W.heap[g']? := by
  intro g' cur t hB ht
  have hne : g' ≠ g := by
    rintro rfl
    have e1 : W.heap[g']? = some (.cells cur t (0, 0)) := hB
    have e2 : W.heap[g']? = some (.cells vs 118 (0, 0)) := B
    rw [e1] at e2
    injection e2 with e2
    injection e2 with _ e3
    exact ht e3
  rw [heap_setCell_other _ _ _ _ hne, heap_setCell_other _ _ _ _ hne]
/-- A listing has been made. -/
def ListGot (go : Nat) (o : List Int) (lv : List (List Ply)) (p c h s : Int) (w : World) (e : Ending) (w' : World) : Prop :=
  ∃ gL k ls, e = .returned (liV ((go, o), (gL, k, ls))) ∧ LiAt w.heap.size w'.heap.size w' ((go, o), (gL, k, ls)) ∧ ls.map (fun x => x.2.2.map (·.2)) = lv ∧ (∀ x ∈ ls, Fine p c h s (x.2.2.map (·.2)) ∧ x.2.2.Pairwise Dis) ∧ Below w.heap.size w w'
set_option maxRecDepth 100000 in
set_option maxHeartbeats 4000000 in
theorem listingOf_any (P : Nat) (c h s : Int) (a1 a2 : Option Addr) (n1 n2 c1 c2 go : Nat) (xs ys o : List Int) (w : World) (h1 : xs.length = n1) (h2 : ys.length = n2) (r1 : IRow w a1 xs) (r2 : IRow w a2 ys) (g : isB (P : Int) c h s xs ys = true) (hR : Row w go o) (ho : o.length ≤ 4) (hdd : ∀ d ∈ o, inB d 1 s = true) :
    Calls Try.prog 112 #[.agg #[.int .i64 (P : Int), .int .i64 c, .int .i64 h, .int .i64 s], .agg #[.slice a1 n1 c1, .slice a2 n2 c2], .slice (some ⟨go, 0, none⟩) o.length o.length] w (ListGot go o (levels P h o (startP xs ys)) (P : Int) c h s w) := by
  have gp := isB_parts g
  have hcp := fun W (q1 : IRow W a1 xs) (q2 : IRow W a2 ys) => copied_any a1 a2 n1 n2 c1 c2 xs ys W h1 h2 (by omega) (by omega) (by omega) (by omega) q1 q2
  have HCP := Lib.hid hcp
  clear hcp
  obtain ⟨BV, BB, BR, hb, hz⟩ := three_new w #[.int .i64 (P : Int), .int .i64 c, .int .i64 h, .int .i64 s] #[.slice a1 n1 c1, .slice a2 n2 c2] #[.slice none 0 0, .slice none 0 0] 32 34 118
  have hz1 : w.heap.size + 1 + 1 + 1 ≤ (((w.alloc (.cells #[.int .i64 (P : Int), .int .i64 c, .int .i64 h, .int .i64 s] 32)).alloc (.cells #[.slice a1 n1 c1, .slice a2 n2 c2] 34)).alloc (.cells #[.slice none 0 0, .slice none 0 0] 118)).heap.size := by rw [hz]; omega
  clear hz
  replace r1 := r1.below hb
  replace r2 := r2.below hb
  replace hR := hR.below hb
  have p24 : P ≤ 24 := by omega
  have HG := Lib.hid g
  have HGP := Lib.hid gp
  have HDD := Lib.hid hdd
  clear g gp hdd
  obtain ⟨x0, x1, x2, x3, xf, xl⟩ := BV.four
  obtain ⟨y0, y1, yf, yl⟩ := BB.two
  obtain ⟨z0, z1, zf, zl⟩ := BR.two
  go_enter Try.func112, Try.ntmps112
  go_wp2_with fail
  clear x0 x1 x2 x3 xf xl y0 y1 yf yl z0 z1 zf zl
  generalize (((w.alloc (.cells #[.int .i64 (P : Int), .int .i64 c, .int .i64 h, .int .i64 s] 32)).alloc (.cells #[.slice a1 n1 c1, .slice a2 n2 c2] 34)).alloc (.cells #[.slice none 0 0, .slice none 0 0] 118)) = v0 at *
  refine (HCP.out _ r1 r2).mono ?_
  rintro e w1 ⟨g1, g2, rfl, hne, m1, m2, R1, R2, hb1⟩
  have hz2 := hb1.size
  obtain ⟨x00, hx00⟩ : ∃ x : PP, x = ((⟨none, 0, some ⟨g1, 0, none⟩, n1, some ⟨g2, 0, none⟩, n2⟩, ([], xs, ys)) : PP) := ⟨_, rfl⟩
  have hp00 : #[pl0 x00, pl1 x00, pl2 x00] = #[.slice none 0 0, .slice (some ⟨g1, 0, none⟩) n1 n1, .slice (some ⟨g2, 0, none⟩) n2 n2] := by rw [hx00]; simp [h1, h2]
  have BX := Blk.new w1 #[.slice none 0 0, .slice (some ⟨g1, 0, none⟩) n1 n1, .slice (some ⟨g2, 0, none⟩) n2 n2] 94
  have OL : OwnL ((w1.alloc (.cells #[.slice none 0 0, .slice (some ⟨g1, 0, none⟩) n1 n1, .slice (some ⟨g2, 0, none⟩) n2 n2] 94)).alloc (.cells #[.slice (some ⟨w1.heap.size, 0, none⟩) 1 1] 40)) v0.heap.size (.slice (some ⟨w1.heap.size + 1, 0, none⟩) 1 1) [(some ⟨w1.heap.size, 0, none⟩, 1, [x00])] := by
    have q := OwnE.one (enc := lvC) (T := 40) (sz := 1) (w1.alloc (.cells #[.slice none 0 0, .slice (some ⟨g1, 0, none⟩) n1 n1, .slice (some ⟨g2, 0, none⟩) n2 n2] 94)) (some ⟨w1.heap.size, 0, none⟩, 1, [x00]) #[.slice (some ⟨w1.heap.size, 0, none⟩) 1 1] rfl rfl
    rw [World.size_alloc] at q
    exact q.mono (by omega)
  have hb2 : Below w1.heap.size w1 ((w1.alloc (.cells #[.slice none 0 0, .slice (some ⟨g1, 0, none⟩) n1 n1, .slice (some ⟨g2, 0, none⟩) n2 n2] 94)).alloc (.cells #[.slice (some ⟨w1.heap.size, 0, none⟩) 1 1] 40)) := ((Below.refl _ _).alloc (Nat.le_refl _) _).alloc (by simp) _
  have BX2 := BX.alloc (.cells #[.slice (some ⟨w1.heap.size, 0, none⟩) 1 1] 40)
  have hz3 : ((w1.alloc (.cells #[.slice none 0 0, .slice (some ⟨g1, 0, none⟩) n1 n1, .slice (some ⟨g2, 0, none⟩) n2 n2] 94)).alloc (.cells #[.slice (some ⟨w1.heap.size, 0, none⟩) 1 1] 40)).heap.size = w1.heap.size + 1 + 1 := by simp
  have R1' := R1.below hb2
  have R2' := R2.below hb2
  have l1 := R1.lt
  have l2 := R2.lt
  clear R1 R2 BX
  go_wp2_with fail
  generalize ((w1.alloc (.cells #[.slice none 0 0, .slice (some ⟨g1, 0, none⟩) n1 n1, .slice (some ⟨g2, 0, none⟩) n2 n2] 94)).alloc (.cells #[.slice (some ⟨w1.heap.size, 0, none⟩) 1 1] 40)) = w2 at *
  have hbl := chain hb1 hb2
  have hLS : LsAll v0.heap.size w2.heap.size w2 [(some ⟨w1.heap.size, 0, none⟩, 1, [x00])] := by
    intro y hy
    simp at hy
    subst hy
    refine ⟨.inr ⟨w1.heap.size, rfl, by omega, by omega, _, BX2, by simp [plsC, plC], ?_⟩, fun y hy => ?_⟩
    · rw [← hp00]; rfl
    · simp at hy
      subst hy
      rw [hx00]
      exact ⟨.inl ⟨rfl, rfl⟩, .inr ⟨g1, g2, rfl, rfl, hne, by omega, by omega, by omega, by omega, R1', R2'⟩⟩
  have hLV : LevI P h o (startP xs ys) 0 [] [x00] := LevI.start _ _ _ _ _ (by rw [hx00]; rfl)
  have hF0 : Fine (P : Int) c h s (([x00] : List PP).map (·.2)) := by
    intro q hq
    rw [hx00] at hq
    simp at hq
    subst hq
    exact HG.out
  have hS0 : ∀ x ∈ ([x00] : List PP), x.2.1.length ≤ 0 := fun x hx => by
    simp at hx
    subst hx
    rw [hx00]
    exact Nat.le_refl _
  clear BX2 R1' R2' l1 l2 hb2 hb1 hx00 hp00 hne m1 m2
  have hlen4 : (0 : Int) ≤ o.length := by omega
  go_loopg [7, 8, 10, 19] o.length (fun m q7 q8 q10 q19 wr => ∃ (k : Nat) (cur : List PP) (a : Option Addr) (kk : Nat) (ls : List LV), k ≤ o.length ∧ m = o.length - k ∧ q19 = .int .i64 k ∧ q7 = .slice a cur.length kk ∧ OwnL wr v0.heap.size q8 (ls ++ [(a, kk, cur)]) ∧ LsAll v0.heap.size wr.heap.size wr (ls ++ [(a, kk, cur)]) ∧ LevI P h o (startP xs ys) k ls cur ∧ (∀ x ∈ ls, Fine (P : Int) c h s (x.2.2.map (·.2)) ∧ x.2.2.Pairwise Dis) ∧ (Fine (P : Int) c h s (cur.map (·.2)) ∧ cur.Pairwise Dis) ∧ (∀ x ∈ cur, x.2.1.length ≤ k) ∧ cur.length ≤ 25 ^ k ∧ Below v0.heap.size v0 wr)
  case atStart => exact ⟨0, [x00], _, _, [], by omega, by omega, rfl, rfl, OL, hLS, hLV, fun x hx => by simp at hx, ⟨hF0, List.pairwise_singleton _ _⟩, hS0, by simp, hbl⟩
  case round =>
    clear OL hLS hLV hF0 hS0
    obtain ⟨k, cur, a, kk, ls, hk, hm, rfl, rfl, hO, hL, hI, hFA, hF, hS, hC, hbel⟩ := hrel
    obtain ⟨x0, x1, x2, x3, xf, xl⟩ := (BV.below hbel).four
    obtain ⟨z0, z1, zf, zl⟩ := (BR.below hbel).two
    have hcur := hL (a, kk, cur) (by simp)
    by_cases hlt : k < o.length
    · have hlt' : (k : Int) < (o.length : Int) := by omega
      have hk0 : (0 : Int) ≤ (k : Int) := by omega
      have hc := (hR.below hbel).cell k hlt
      obtain ⟨d, hd⟩ : ∃ d, o.getD k 0 = d := ⟨_, rfl⟩
      rw [hd] at hc
      have hdo : o[k]? = some d := by rw [List.getD_eq_getElem?_getD, List.getElem?_eq_getElem hlt] at hd; rw [List.getElem?_eq_getElem hlt]; simpa using hd
      have hdm := HDD.out d (List.mem_of_getElem? hdo)
      have hC2 : cur.length ≤ 15625 := Nat.le_trans hC (Nat.pow_le_pow_right (by omega) (by omega) : 25 ^ k ≤ 25 ^ 3)
      have HI := Lib.hid hI
      have HF := Lib.hid hF
      have HDO := Lib.hid hdo
      have HDM := Lib.hid hdm
      have HC := Lib.hid hC
      clear hI hF hdo hdm hd hC
      go_wp2_with fail
      clear x0 x1 x2 x3 xf xl z0 z1 zf zl hc
      refine (longer_any P c h s d a cur.length kk wr).mono ?_
      rintro e wA ⟨rfl, B1, B2, B3, hbA, hzA⟩
      have hsg := longer1_good P c h s d (wr.heap.size + 1) wr.heap.size (wr.heap.size + 1 + 1) a kk v0.heap.size wr.heap.size (k + 1) cur wA HDM.out B2 B1 B3 (hcur.1.below hbA) (hcur.2.below hbA) HF.out.1 (fun x hx => by have := hS x hx; omega) (by omega) (by omega)
      have hfa := first_any P c h s wA.heap.size wA.heap.size (k + 1) (cur.length * (P + 1)) 170 _ _ wA p24 (Nat.le_trans (Nat.mul_le_mul hC2 (by omega : P + 1 ≤ 25)) (by omega)) (Nat.le_refl _) longer1_enter hsg
      have HFA := Lib.hid hfa
      clear hfa hsg B1 B2 B3
      replace hO := hO.below hbA
      replace hL := (hL.below hbA).mono (Nat.le_refl _) hbA.size
      have hbelA := chain hbel hbA
      go_wp2_with fail
      refine (HFA.out).mono ?_
      rintro e wB ⟨b, kb, L, zs, rfl, hzs, hLz, hOP, hPA, hLq, hDs, hbB⟩
      clear HFA
      rw [hzs] at hLz
      have hLn : L.map (·.2) = nextP P h d (cur.map (·.2)) := hLz
      have hlen2 := nextP_length P h d (cur.map (·.2))
      rw [← hLn, List.length_map, List.length_map] at hlen2
      have hLC : L.length ≤ 25 ^ (k + 1) := by
        have h1 : cur.length * (P + 1) ≤ 25 ^ k * 25 := Nat.mul_le_mul HC.out (by omega)
        rw [Nat.pow_succ]
        omega
      have hL25 : L.length ≤ 390625 := Nat.le_trans hLC (Nat.pow_le_pow_right (by omega) (by omega) : 25 ^ (k + 1) ≤ 25 ^ 4)
      have HLC := Lib.hid hLC
      have hwv := hbelA.size
      have HLN := Lib.hid hLn
      clear hzs hLz hlen2 hLn hLC
      have hbelB := chain hbelA hbB
      have hsB := hbB.size
      replace hO := hO.below hbB
      replace hL := (hL.below hbB).mono (Nat.le_refl _) hsB
      replace hOP := hOP.mono hwv (Nat.le_refl _)
      replace hPA := hPA.mono hwv (Nat.le_refl _)
      obtain ⟨z0, z1, zf, zl⟩ := (BR.below hbelB).two
      by_cases e0 : L.length = 0
      · have he0 : ((L.length : Int) == 0) = true := by rw [beq_iff_eq]; omega
        have hL0 : L = [] := List.eq_nil_of_length_eq_zero e0
        have hstop := (HI.out).stop a kk (fun d' hd' => by
          have : d' = d := by rw [HDO.out] at hd'; simpa using hd'.symm
          rw [this, ← HLN.out, hL0]
          rfl)
        have HSTOP := Lib.hid hstop
        clear hstop hL0 e0
        obtain ⟨gL, kL, hq8, hgL, hVL⟩ := OwnL.at hO
        obtain ⟨nL, hnL⟩ : ∃ n, (ls ++ [(a, kk, cur)]).length = n := ⟨_, rfl⟩
        rw [hnL] at hq8
        subst hq8
        have HNL := Lib.hid hnL
        clear hO hnL
        go_wp2
        refine bodyPost_ret (v := .agg #[.slice (some ⟨go, 0, none⟩) o.length o.length, .slice (some ⟨gL, 0, none⟩) nL kL]) (by first | (simp [results, Try.results112, go_sem, z0, z1]; done) | (simp [results, Try.results112, go_sem, *]; done)) rfl ?_
        have hLi : LiAt v0.heap.size wB.heap.size wB ((go, o), (gL, kL, ls ++ [(a, kk, cur)])) := ⟨hR.below hbelB, hgL, hVL.lt, hVL, hL⟩
        refine ⟨gL, kL, ls ++ [(a, kk, cur)], by rw [← HNL.out], (hLi.frameT (by simp) (by decide) (by decide) (by decide) (li_put (BR.below hbelB))).mono (by omega) (Nat.le_refl _), HSTOP.out, fun x hx => ?_, ((hb.trans (hbelB.mono hb.size)).setCell (by simp; omega) _).setCell (by simp; omega) _⟩
        rcases List.mem_append.1 hx with hx | hx
        · exact hFA x hx
        · simp at hx
          subst hx
          exact HF.out
      · have he0 : ((L.length : Int) == 0) = false := by rw [beq_eq_false_iff_ne]; omega
        have hne0 : L ≠ [] := by rintro rfl; exact e0 rfl
        have hst := (HI.out).step a kk HDO.out HLN.out hne0
        have HST := Lib.hid hst
        clear hst hne0 e0
        have hsl : (ls ++ [(a, kk, cur)]).length ≤ 1048576 := by rw [List.length_append, (HI.out).2]; simp; omega
        have HSL := Lib.hid hsl
        have hsv := hbelB.size
        clear hsl
        go_wp2_with (at_builtin; go_loud (refine wp_pushL rfl (.tmp 31) (.tmp 33) rfl v0.heap.size _ (ls ++ [(a, kk, cur)]) rfl hO (b, kb, L) rfl rfl HSL.out hsv ?_; intro v9 wC hO2 hbC hfr))
        go_roundg (o.length - (k + 1))
        case measure => omega
        case rel =>
          have hsC := hbC.size
          refine ⟨k + 1, L, b, kb, ls ++ [(a, kk, cur)], by omega, rfl, by go_num, rfl, hO2, ?_, HST.out, ?_, ?_, ?_, HLC.out, hbelB.trans hbC⟩
          · refine ((hL.frameT hsC (by decide) (by decide) hfr)).snoc (LvAt.frameT (x := (b, kb, L)) (lo := v0.heap.size) (hi := wB.heap.size) ⟨hOP, hPA⟩ hsC (by decide) (by decide) hfr)
          · intro x hx
            rcases List.mem_append.1 hx with hx | hx
            · exact hFA x hx
            · simp at hx
              subst hx
              exact HF.out
          · refine ⟨fun q hq => ?_, hDs⟩
            obtain ⟨x, hx, rfl⟩ := List.mem_map.1 hq
            exact (hLq x hx).1
          · exact fun x hx => (hLq x hx).2
    · obtain rfl : k = o.length := by omega
      have HF := Lib.hid hF
      have hstop := hI.stop a kk (fun d' hd' => by simp at hd')
      have HSTOP := Lib.hid hstop
      clear hstop hF
      obtain ⟨gL, kL, hq8, hgL, hVL⟩ := OwnL.at hO
      obtain ⟨nL, hnL⟩ : ∃ n, (ls ++ [(a, kk, cur)]).length = n := ⟨_, rfl⟩
      rw [hnL] at hq8
      subst hq8
      have HNL := Lib.hid hnL
      clear hO hnL
      go_wp2
      refine bodyPost_ret (v := .agg #[.slice (some ⟨go, 0, none⟩) o.length o.length, .slice (some ⟨gL, 0, none⟩) nL kL]) (by first | (simp [results, Try.results112, go_sem, z0, z1]; done) | (simp [results, Try.results112, go_sem, *]; done)) rfl ?_
      have hLi : LiAt v0.heap.size wr.heap.size wr ((go, o), (gL, kL, ls ++ [(a, kk, cur)])) := ⟨hR.below hbel, hgL, hVL.lt, hVL, hL⟩
      refine ⟨gL, kL, ls ++ [(a, kk, cur)], by rw [← HNL.out], (hLi.frameT (by simp) (by decide) (by decide) (by decide) (li_put (BR.below hbel))).mono (by omega) (Nat.le_refl _), HSTOP.out, fun x hx => ?_, ((hb.trans (hbel.mono hb.size)).setCell (by simp; omega) _).setCell (by simp; omega) _⟩
      rcases List.mem_append.1 hx with hx | hx
      · exact hFA x hx
      · simp at hx
        subst hx
        exact HF.out
end Go.Proofs.Ytokjkcnjmfbfiaa
namespace Go.Proofs.Ytokjkcnjmfbfiaa
open Go.ChangeShapes Go.WideShapes Go.ChangeAt Go.RowKit
set_option linter.unusedVariables false
set_option linter.unusedSimpArgs false
set_option maxRecDepth 4000

set_option maxHeartbeats 1000000 in
theorem implOrders_any (ra rb : Int) (w : World) :
    Calls Try.prog 111 #[.agg #[.int .i64 ra, .int .i64 rb]] w (OrdersGot (ordersP ra rb) w) := by
  have hd := fun W => isDouble_any ra rb W
  by_cases e : ra = rb
  · rw [decide_eq_true e] at hd
    subst e
    have e1 : ordersP ra ra = [[ra, ra, ra, ra]] := by simp [ordersP]
    rw [e1]
    clear e1
    have HD := Lib.hid hd
    clear hd
    have BR := Blk.new w #[.int .i64 ra, .int .i64 ra] 36
    have hb : Below w.heap.size w (w.alloc (.cells #[.int .i64 ra, .int .i64 ra] 36)) := (Below.refl _ _).alloc (Nat.le_refl _) _
    obtain ⟨x0, x1, xf, xl⟩ := BR.two
    go_enter Try.func111, Try.ntmps111
    go_wp2_with fail
    clear x0 x1 xf xl
    refine (HD.out _).mono ?_
    rintro e w1 ⟨rfl, hb1⟩
    obtain ⟨x0, x1, xf, xl⟩ := (BR.below hb1).two
    replace hb := chain hb hb1
    clear hb1 BR HD
    go_wp2
    refine bodyPost_ret (v := .slice (some ⟨w1.heap.size + 1, 0, none⟩) 1 1) (by simp [results, Try.results111, go_sem]) rfl ?_
    have B1 := Blk.new w1 #[.int .i64 ra, .int .i64 ra, .int .i64 ra, .int .i64 ra] 2
    have B2 := Blk.new (w1.alloc (.cells #[.int .i64 ra, .int .i64 ra, .int .i64 ra, .int .i64 ra] 2)) #[.slice (some ⟨w1.heap.size, 0, none⟩) 4 4] 24
    rw [World.size_alloc] at B2
    refine ⟨_, rfl, fun j o hj => ?_, (hb.alloc hb.size _).alloc (Nat.le_trans hb.size (by simp)) _⟩
    cases j with
    | zero =>
      simp at hj
      subst hj
      exact ⟨w1.heap.size, by first | (simp; done) | simpa using B2.cell 0, Row.of_blk (B1.alloc _) rfl⟩
    | succ j => simp at hj
  · rw [decide_eq_false e] at hd
    have e1 : ordersP ra rb = [[ra, rb], [rb, ra]] := by simp [ordersP, e]
    rw [e1]
    clear e1 e
    have HD := Lib.hid hd
    clear hd
    have BR := Blk.new w #[.int .i64 ra, .int .i64 rb] 36
    have hb : Below w.heap.size w (w.alloc (.cells #[.int .i64 ra, .int .i64 rb] 36)) := (Below.refl _ _).alloc (Nat.le_refl _) _
    obtain ⟨x0, x1, xf, xl⟩ := BR.two
    go_enter Try.func111, Try.ntmps111
    go_wp2_with fail
    clear x0 x1 xf xl
    refine (HD.out _).mono ?_
    rintro e w1 ⟨rfl, hb1⟩
    obtain ⟨x0, x1, xf, xl⟩ := (BR.below hb1).two
    replace hb := chain hb hb1
    clear hb1 BR HD
    go_wp2
    refine bodyPost_ret (v := .slice (some ⟨w1.heap.size + 1 + 1, 0, none⟩) 2 2) (by simp [results, Try.results111, go_sem]) rfl ?_
    have B1 := Blk.new w1 #[.int .i64 ra, .int .i64 rb] 2
    have B2 := Blk.new (w1.alloc (.cells #[.int .i64 ra, .int .i64 rb] 2)) #[.int .i64 rb, .int .i64 ra] 2
    have B3 := Blk.new ((w1.alloc (.cells #[.int .i64 ra, .int .i64 rb] 2)).alloc (.cells #[.int .i64 rb, .int .i64 ra] 2)) #[.slice (some ⟨w1.heap.size, 0, none⟩) 2 2, .slice (some ⟨w1.heap.size + 1, 0, none⟩) 2 2] 24
    rw [World.size_alloc, World.size_alloc] at B3
    rw [World.size_alloc] at B2
    refine ⟨_, rfl, fun j o hj => ?_, ((hb.alloc hb.size _).alloc (Nat.le_trans hb.size (by simp)) _).alloc (Nat.le_trans hb.size (by simp; omega)) _⟩
    rcases (by omega : j = 0 ∨ j = 1 ∨ 2 ≤ j) with rfl | rfl | h2
    · simp at hj
      subst hj
      exact ⟨w1.heap.size, by simpa using B3.cell 0, Row.of_blk ((B1.alloc _).alloc _) rfl⟩
    · simp at hj
      subst hj
      exact ⟨w1.heap.size + 1, by simpa using B3.cell 1, Row.of_blk (B2.alloc _) rfl⟩
    · obtain ⟨j, rfl⟩ := Nat.exists_eq_add_of_le h2
      rw [Nat.add_comm] at hj
      simp at hj
end Go.Proofs.Ytokjkcnjmfbfiaa
namespace Go.Proofs.Ytokjkcnjmfbfiaa
open Go.ChangeShapes Go.WideShapes Go.ChangeAt Go.RowKit
set_option linter.unusedVariables false
set_option linter.unusedSimpArgs false
set_option maxRecDepth 4000

/-- Two listings whose plays share no block. -/
def DisL (x y : LI) : Prop := ∀ p ∈ x.2.2.2, ∀ q ∈ p.2.2, ∀ p' ∈ y.2.2.2, ∀ q' ∈ p'.2.2, Dis q q'
/-- The listings of a roll have been made. -/
def LissGot (P : Nat) (xs ys : List Int) (OS : List (List Int)) (c h s : Int) (w : World) (e : Ending) (w' : World) : Prop :=
  ∃ g k L, e = .returned (.slice (some ⟨g, 0, none⟩) L.length k) ∧ w.heap.size ≤ g ∧ g < w'.heap.size ∧ VRow w' g (L.flatMap liC) 118 ∧ LisAll w.heap.size w'.heap.size w' L ∧ L.map (fun x => x.1.2) = OS ∧
    (∀ x ∈ L, x.2.2.2.map (fun y => y.2.2.map (·.2)) = levels P h x.1.2 (startP xs ys) ∧ (∀ y ∈ x.2.2.2, Fine (P : Int) c h s (y.2.2.map (·.2)) ∧ y.2.2.Pairwise Dis)) ∧ L.Pairwise DisL ∧ Below w.heap.size w w'
theorem LisAll.snoc {lo hi : Nat} {w : World} {l : List LI} {x : LI} (h : LisAll lo hi w l) (hx : LiAt lo hi w x) : LisAll lo hi w (l ++ [x]) := fun y hy => by
  rcases List.mem_append.1 hy with hy | hy
  · exact h y hy
  · simp at hy; subst hy; exact hx
theorem OwnI.at {w : World} {base : Nat} {v : Value} {l : List LI} (h : OwnI w base v l) (h0 : 0 < l.length) : ∃ g k, v = .slice (some ⟨g, 0, none⟩) l.length k ∧ base ≤ g ∧ VRow w g (l.flatMap liC) 118 := by
  obtain ⟨hl, ⟨_, h2⟩ | ⟨g, cap, cur, hv, hb, hh, hc, hm, hs, ht⟩⟩ := h
  · omega
  · refine ⟨g, cap, hv, hb, cur, hh, ?_, ?_⟩
    · rw [hl, hs]; exact Nat.mul_le_mul_right _ hc
    · rw [hl]; exact ht
theorem liC_at : ∀ (l : List LI) (k : Nat) (s : LI), l[k]? = some s → ∀ j, j < 2 → (l.flatMap liC)[k * 2 + j]? = (liC s)[j]?
  | [], k, s, h, j, hj => by simp at h
  | x :: l, 0, s, h, j, hj => by
    simp at h
    subst h
    rw [List.flatMap_cons, List.getElem?_append_left (by simp [liC]; omega), Nat.zero_mul, Nat.zero_add]
  | x :: l, k + 1, s, h, j, hj => by
    rw [List.flatMap_cons, List.getElem?_append_right (by simp [liC]; omega)]
    have := liC_at l k s (by simpa using h) j hj
    rw [← this]
    congr 1
    simp [liC]
    omega
theorem liRow {w : World} {g : Nat} {l : List LI} (h : VRow w g (l.flatMap liC) 118) (k : Nat) (s : LI) (hk : l[k]? = some s) :
    w.cell? ⟨g, k * 2, none⟩ = some (.slice (some ⟨s.1.1, 0, none⟩) s.1.2.length s.1.2.length) ∧ w.cell? ⟨g, k * 2 + 1, none⟩ = some (.slice (some ⟨s.2.1, 0, none⟩) s.2.2.2.length s.2.2.1) :=
  ⟨h.cell _ _ (by have := liC_at l k s hk 0 (by omega); simpa [liC] using this), h.cell _ _ (by have := liC_at l k s hk 1 (by omega); simpa [liC] using this)⟩
set_option maxRecDepth 100000 in
set_option maxHeartbeats 4000000 in
theorem listingsOf_any (P : Nat) (c h s ra rb : Int) (a1 a2 : Option Addr) (n1 n2 c1 c2 : Nat) (xs ys : List Int) (w : World) (h1 : xs.length = n1) (h2 : ys.length = n2) (r1 : IRow w a1 xs) (r2 : IRow w a2 ys) (g : isB (P : Int) c h s xs ys = true) (ha : inB ra 1 s = true) (hbb : inB rb 1 s = true) :
    Calls Try.prog 66 #[.agg #[.int .i64 (P : Int), .int .i64 c, .int .i64 h, .int .i64 s], .agg #[.slice a1 n1 c1, .slice a2 n2 c2], .agg #[.int .i64 ra, .int .i64 rb]] w (LissGot P xs ys (ordersP ra rb) c h s w) := by
  obtain ⟨BV, BB, BR, hb, hz⟩ := three_new w #[.int .i64 (P : Int), .int .i64 c, .int .i64 h, .int .i64 s] #[.slice a1 n1 c1, .slice a2 n2 c2] #[.int .i64 ra, .int .i64 rb] 32 34 36
  have hz1 : w.heap.size + 1 + 1 + 1 ≤ (((w.alloc (.cells #[.int .i64 (P : Int), .int .i64 c, .int .i64 h, .int .i64 s] 32)).alloc (.cells #[.slice a1 n1 c1, .slice a2 n2 c2] 34)).alloc (.cells #[.int .i64 ra, .int .i64 rb] 36)).heap.size := by rw [hz]; omega
  clear hz
  replace r1 := r1.below hb
  replace r2 := r2.below hb
  have HG := Lib.hid g
  have HOM := Lib.hid (fun j o ho => ordersP_mem (j := j) (o := o) ha hbb ho)
  have HOL := ordersP_length ra rb
  have hor := fun W => implOrders_any ra rb W
  have hO0 : 0 < (ordersP ra rb).length := by unfold ordersP; split <;> simp
  obtain ⟨OS, hOS⟩ : ∃ z, ordersP ra rb = z := ⟨_, rfl⟩
  rw [hOS] at hor HOM HOL hO0 ⊢
  have HOR := Lib.hid hor
  clear hOS hor g ha hbb
  obtain ⟨x0, x1, x2, x3, xf, xl⟩ := BV.four
  obtain ⟨y0, y1, yf, yl⟩ := BB.two
  obtain ⟨z0, z1, zf, zl⟩ := BR.two
  go_enter Try.func66, Try.ntmps66
  go_wp2_with fail
  clear x0 x1 x2 x3 xf xl y0 y1 yf yl z0 z1 zf zl
  generalize (((w.alloc (.cells #[.int .i64 (P : Int), .int .i64 c, .int .i64 h, .int .i64 s] 32)).alloc (.cells #[.slice a1 n1 c1, .slice a2 n2 c2] 34)).alloc (.cells #[.int .i64 ra, .int .i64 rb] 36)) = v0 at *
  refine (HOR.out _).mono ?_
  rintro e w1 ⟨gO, rfl, hcells, hb1⟩
  have HC := Lib.hid hcells
  clear hcells
  go_wp2_with fail
  go_loopg [7, 9, 13] OS.length (fun m q7 q9 q13 wr => ∃ (k : Nat) (L : List LI), k ≤ OS.length ∧ m = OS.length - k ∧ q13 = .int .i64 k ∧ OwnI wr w1.heap.size q7 L ∧ LisAll w1.heap.size wr.heap.size wr L ∧ L.map (fun x => x.1.2) = OS.take k ∧ (∀ x ∈ L, x.2.2.2.map (fun y => y.2.2.map (·.2)) = levels P h x.1.2 (startP xs ys) ∧ (∀ y ∈ x.2.2.2, Fine (P : Int) c h s (y.2.2.map (·.2)) ∧ y.2.2.Pairwise Dis)) ∧ L.Pairwise DisL ∧ Below w1.heap.size w1 wr)
  case atStart => exact ⟨0, [], by omega, by omega, rfl, OwnE.nil _ _, fun x hx => by simp at hx, by simp, fun x hx => by simp at hx, List.Pairwise.nil, Below.refl _ _⟩
  case round =>
    obtain ⟨k, L, hk, hm, rfl, hO, hL, hT, hQ, hDL, hbq⟩ := hrel
    have hbel := chain hb1 hbq
    by_cases hlt : k < OS.length
    · have hlt' : (k : Int) < (OS.length : Int) := by omega
      have hk0 : (0 : Int) ≤ (k : Int) := by omega
      obtain ⟨od, hod⟩ : ∃ o, OS[k]? = some o := ⟨_, List.getElem?_eq_getElem hlt⟩
      obtain ⟨gj, hcj, hRj⟩ := HC.out k od hod
      obtain ⟨ho4, hodd⟩ := HOM.out k od hod
      have hlo := listingOf_any P c h s a1 a2 n1 n2 c1 c2 gj xs ys od wr h1 h2 (r1.below hbel) (r2.below hbel) HG.out (hRj.below hbq) ho4 hodd
      have HLO := Lib.hid hlo
      have HT := Lib.hid hT
      have HQ := Lib.hid hQ
      have HOD := Lib.hid hod
      have hLl : L.length = k := by have := congrArg List.length hT; rw [List.length_map, List.length_take] at this; omega
      have hLl2 : L.length ≤ 1048576 := by omega
      clear hlo hT hQ hod hLl hodd
      have hcj2 := CellIs.below hcj hbq
      unfold CellIs at hcj2
      obtain ⟨x0, x1, x2, x3, xf, xl⟩ := (BV.below hbel).four
      obtain ⟨y0, y1, yf, yl⟩ := (BB.below hbel).two
      go_wp2_with fail
      clear x0 x1 x2 x3 xf xl y0 y1 yf yl hcj2
      refine (HLO.out).mono ?_
      rintro e wA ⟨gL, kL, ls, rfl, hAt, hlv, hfi, hbA⟩
      clear HLO
      have hX : ∀ x ∈ L, DisL x ((gj, od), (gL, kL, ls)) := fun x hx p hp q hq p' hp' q' hq' a ha b hb' => by have h1 := (((hL x hx).2.2.2.2 p hp).2 q hq).adr a ha; have h2 := ((hAt.2.2.2.2 p' hp').2 q' hq').adr b hb'; omega
      have HX := Lib.hid (List.pairwise_append.2 ⟨hDL, List.pairwise_singleton DisL _, fun a ha b hb' => by simp at hb'; subst hb'; exact hX a ha⟩ : (L ++ [((gj, od), (gL, kL, ls))]).Pairwise DisL)
      clear hX hDL
      replace hO := hO.below hbA
      replace hL := (hL.below hbA).mono (Nat.le_refl _) hbA.size
      have hsA := hbA.size
      have hv := (chain hbq hbA).size
      replace hAt := hAt.mono hbq.size (Nat.le_refl _)
      have HLV := Lib.hid hlv
      have HFI := Lib.hid hfi
      clear hlv hfi
      go_wp2_with (at_builtin; go_loud (refine wp_pushLi rfl (.tmp 17) (.tmp 22) rfl w1.heap.size _ L rfl hO ((gj, od), (gL, kL, ls)) rfl rfl hLl2 hv ?_; intro v9 wC hO2 hbC hfr))
      go_roundg (OS.length - (k + 1))
      case measure => omega
      case rel =>
        have hsC := hbC.size
        refine ⟨k + 1, L ++ [((gj, od), (gL, kL, ls))], by omega, rfl, by go_num, hO2, ?_, ?_, ?_, HX.out, (chain hbq hbA).trans hbC⟩
        · exact (hL.frameT hsC (by decide) (by decide) (by decide) hfr).snoc (hAt.frameT hsC (by decide) (by decide) (by decide) hfr)
        · rw [List.map_append, HT.out, List.take_add_one, HOD.out]
          rfl
        · intro x hx
          rcases List.mem_append.1 hx with hx | hx
          · exact HQ.out x hx
          · simp at hx
            subst hx
            exact ⟨HLV.out, HFI.out⟩
    · obtain rfl : k = OS.length := by omega
      rw [List.take_length] at hT
      have hLl : 0 < L.length := by have := congrArg List.length hT; rw [List.length_map] at this; omega
      obtain ⟨g, kg, rfl, hg, hV⟩ := hO.at hLl
      have HT := Lib.hid hT
      have HQ := Lib.hid hQ
      have HDL := Lib.hid hDL
      clear hO hT hQ hLl hDL
      go_wp2
      go_ret
      exact ⟨g, kg, L, rfl, Nat.le_trans (hb.trans (hb1.mono hb.size)).size hg, hV.lt, hV, hL.mono (hb.trans (hb1.mono hb.size)).size (Nat.le_refl _), HT.out, HQ.out, HDL.out, hb.trans (hbel.mono hb.size)⟩
/-- The greatest number of dice that the listings use. -/
def usedL (L : List LI) : Nat := (L.map (fun x => x.2.2.2.length - 1)).foldl max 0
def usedLTo (L : List LI) (k : Nat) : Nat := usedL (L.take k)
theorem usedLTo_succ (L : List LI) (k : Nat) (x : LI) (hx : L[k]? = some x) : usedLTo L (k + 1) = max (usedLTo L k) (x.2.2.2.length - 1) := by
  unfold usedLTo usedL
  rw [List.take_add_one, hx]
  simp
theorem used1_any (x : LI) (w : World) (h0 : 0 < x.2.2.2.length) (h1 : x.2.2.2.length ≤ 1000) :
    Calls Try.prog 88 #[liV x] w fun e w' => e = .returned (.int .i64 ((x.2.2.2.length - 1 : Nat) : Int)) ∧ Below w.heap.size w w' := by
  obtain ⟨⟨go, o⟩, gL, k, ls⟩ := x
  dsimp only at h0 h1 ⊢
  obtain ⟨n, hn⟩ : ∃ n, ls.length = n := ⟨_, rfl⟩
  rw [hn] at h0 h1 ⊢
  have BX := Blk.new w #[.slice (some ⟨go, 0, none⟩) o.length o.length, .slice (some ⟨gL, 0, none⟩) n k] 118
  have hb : Below w.heap.size w (w.alloc (.cells #[.slice (some ⟨go, 0, none⟩) o.length o.length, .slice (some ⟨gL, 0, none⟩) n k] 118)) := (Below.refl _ _).alloc (Nat.le_refl _) _
  obtain ⟨x0, x1, xf, xl⟩ := BX.two
  have wz : IntKind.i64.wrap ((n : Int) - 1) = ((n - 1 : Nat) : Int) := by unfold IntKind.wrap; simp [IntKind.bits, IntKind.signed]; omega
  go_enter Try.func88, Try.ntmps88
  go_wp2
  go_ret
  exact ⟨by first | rfl | (rw [wz]), hb⟩
set_option maxRecDepth 100000 in
set_option maxHeartbeats 2000000 in
theorem usedAll_any (g k : Nat) (L : List LI) (w : World) (hV : VRow w g (L.flatMap liC) 118) (h0 : ∀ x ∈ L, 0 < x.2.2.2.length ∧ x.2.2.2.length ≤ 1000) (hL : L.length ≤ 1000) (hU : usedL L ≤ 1000) (hle : ∀ i, usedLTo L i ≤ 1000) :
    Calls Try.prog 67 #[.slice (some ⟨g, 0, none⟩) L.length k] w fun e w' => e = .returned (.int .i64 ((usedL L : Nat) : Int)) ∧ Below w.heap.size w w' := by
  have hall : usedLTo L L.length = usedL L := by unfold usedLTo; rw [List.take_length]
  obtain ⟨U, hUU⟩ : ∃ z, usedL L = z := ⟨_, rfl⟩
  rw [hUU] at hall hU ⊢
  have HALL := Lib.hid hall
  have HLE := Lib.hid hle
  have H0 := Lib.hid h0
  have HUS := Lib.hid (fun k x (hx : L[k]? = some x) => usedLTo_succ L k x hx)
  clear hUU hall hle h0
  go_enter Try.func67, Try.ntmps67
  go_wp2_with fail
  go_loopg [3, 5, 8] L.length (fun m q3 q5 q8 wr => ∃ i : Nat, i ≤ L.length ∧ m = L.length - i ∧ q8 = .int .i64 i ∧ q3 = .int .i64 ((usedLTo L i : Nat) : Int) ∧ Below w.heap.size w wr)
  case atStart => exact ⟨0, by omega, by omega, rfl, by simp [usedLTo, usedL], Below.refl _ _⟩
  case round =>
    obtain ⟨i, hi, hm, rfl, rfl, hbq⟩ := hrel
    have hul := HLE.out i
    by_cases hlt : i < L.length
    · have hlt' : (i : Int) < (L.length : Int) := by omega
      have hi0 : (0 : Int) ≤ (i : Int) := by omega
      obtain ⟨x, hx⟩ : ∃ x, L[i]? = some x := ⟨_, List.getElem?_eq_getElem hlt⟩
      obtain ⟨k0, k1⟩ := H0.out x (List.mem_of_getElem? hx)
      have hus := HUS.out i x hx
      obtain ⟨c0, c1⟩ := liRow (hV.below hbq) i x hx
      have hu1 := fun W => used1_any x W k0 k1
      obtain ⟨NN, hNN⟩ : ∃ z, x.2.2.2.length - 1 = z := ⟨_, rfl⟩
      obtain ⟨UU, hUU⟩ : ∃ z, usedLTo L i = z := ⟨_, rfl⟩
      rw [hNN] at hu1
      rw [hNN, hUU] at hus
      rw [hUU] at hul ⊢
      have hNle : NN ≤ 1000 := by omega
      have HU1 := Lib.hid hu1
      have HUS2 := Lib.hid hus
      obtain ⟨MM, hMM⟩ : ∃ z : Int, max (UU : Int) (NN : Int) = z := ⟨_, rfl⟩
      have hmx : MM = ((max UU NN : Nat) : Int) := by omega
      have HMX := Lib.hid hmx
      clear hmx hu1 hus hNN hUU hx k0 k1
      have BX := Blk.new wr #[.slice (some ⟨x.1.1, 0, none⟩) x.1.2.length x.1.2.length, .slice (some ⟨x.2.1, 0, none⟩) x.2.2.2.length x.2.2.1] 118
      have hbx : Below wr.heap.size wr (wr.alloc (.cells #[.slice (some ⟨x.1.1, 0, none⟩) x.1.2.length x.1.2.length, .slice (some ⟨x.2.1, 0, none⟩) x.2.2.2.length x.2.2.1] 118)) := (Below.refl _ _).alloc (Nat.le_refl _) _
      obtain ⟨y0, y1, yf, yl⟩ := BX.two
      have ofl : (i : Int) * 2 = ((i * 2 : Nat) : Int) := by omega
      go_wp2_with fail
      clear y0 y1 yf yl c0 c1 BX
      refine (HU1.out _).mono ?_
      rintro e wA ⟨rfl, hbA⟩
      replace hbA := chain hbx hbA
      clear hbx HU1
      go_wp2
      go_roundg (L.length - (i + 1))
      case measure => omega
      case rel => exact ⟨i + 1, by omega, rfl, by go_num, by rw [HUS2.out, HMX.out], chain hbq hbA⟩
    · obtain rfl : i = L.length := by omega
      rw [HALL.out]
      clear hul
      go_wp2
      go_ret
      exact ⟨rfl, hbq⟩
end Go.Proofs.Ytokjkcnjmfbfiaa
namespace Go.Proofs.Ytokjkcnjmfbfiaa
open Go.ChangeShapes Go.WideShapes Go.ChangeAt Go.RowKit
set_option linter.unusedVariables false
set_option linter.unusedSimpArgs false
set_option maxRecDepth 4000

theorem usedL_levels (P : Nat) (h : Int) (xs ys : List Int) (OS : List (List Int)) (L : List LI) (hT : L.map (fun x => x.1.2) = OS) (hQ : ∀ x ∈ L, x.2.2.2.map (fun y => y.2.2.map (·.2)) = levels P h x.1.2 (startP xs ys)) :
    usedL L = (OS.map (fun o => longN P h o (startP xs ys))).foldl max 0 := by
  unfold usedL
  rw [← hT, List.map_map]
  congr 1
  refine List.map_congr_left fun x hx => ?_
  have := congrArg List.length (hQ x hx)
  rw [List.length_map, levels_length] at this
  show x.2.2.2.length - 1 = longN P h x.1.2 (startP xs ys)
  omega
theorem used_of {P : Nat} {h ra rb : Int} {xs ys : List Int} (g k : Nat) (L : List LI) (w : World) (hV : VRow w g (L.flatMap liC) 118) (hT : L.map (fun x => x.1.2) = ordersP ra rb) {F : LI → Prop} (hQ : ∀ x ∈ L, x.2.2.2.map (fun y => y.2.2.map (·.2)) = levels P h x.1.2 (startP xs ys) ∧ F x) :
    Calls Try.prog 67 #[.slice (some ⟨g, 0, none⟩) L.length k] w fun e w' => e = .returned (.int .i64 ((usedP P h xs ys ra rb : Nat) : Int)) ∧ Below w.heap.size w w' := by
  have hu : usedL L = usedP P h xs ys ra rb := usedL_levels P h xs ys _ L hT (fun x hx => (hQ x hx).1)
  have hlen : ∀ x ∈ L, x.2.2.2.length = longN P h x.1.2 (startP xs ys) + 1 := fun x hx => by
    have := congrArg List.length (hQ x hx).1
    rwa [List.length_map, levels_length] at this
  have ho4 : ∀ x ∈ L, x.1.2.length ≤ 4 := fun x hx => by
    have hm : x.1.2 ∈ ordersP ra rb := by rw [← hT]; exact List.mem_map.2 ⟨x, hx, rfl⟩
    unfold ordersP at hm
    split at hm
    · simp at hm; rw [hm]; simp
    · simp at hm; rcases hm with h | h <;> rw [h] <;> simp
  have hL2 : L.length ≤ 2 := by
    have := congrArg List.length hT
    rw [List.length_map] at this
    rw [this]
    exact ordersP_length ra rb
  have hto : ∀ i, usedLTo L i = usedTo P h xs ys (ordersP ra rb) i := fun i => by
    unfold usedLTo usedTo
    refine usedL_levels P h xs ys _ _ ?_ (fun x hx => (hQ x (List.mem_of_mem_take hx)).1)
    rw [← hT, List.map_take]
  have hle := usedTo_le P h xs ys ra rb
  rw [← hu]
  refine usedAll_any g k L w hV (fun x hx => ?_) (by omega) ?_ (fun i => ?_)
  · have h1 := hlen x hx
    have h2 := longN_le P h x.1.2 (startP xs ys)
    have h3 := ho4 x hx
    omega
  · have := hle (ordersP ra rb).length
    rw [usedTo_all] at this
    omega
  · rw [hto]
    have := hle i
    omega
set_option maxRecDepth 8000 in
set_option maxHeartbeats 1000000 in
theorem implDiceUsed_any (ra rb : Int) (p c h s : Int) (a1 a2 : Option Addr) (n1 n2 c1 c2 : Nat) (xs ys : List Int) (w : World) (h1 : xs.length = n1) (h2 : ys.length = n2) (l1 : n1 ≤ 1048576) (l2 : n2 ≤ 1048576) (r1 : IRow w a1 xs) (r2 : IRow w a2 ys) :
    Calls Try.prog 20 #[.agg #[.int .i64 p, .int .i64 c, .int .i64 h, .int .i64 s], .agg #[.slice a1 n1 c1, .slice a2 n2 c2], .agg #[.int .i64 ra, .int .i64 rb]] w fun e w' => e = .returned (duV p c h s xs ys ra rb) ∧ Below w.heap.size w w' := by
  have hC := fun W (q1 : IRow W a1 xs) (q2 : IRow W a2 ys) => rollCode_any ra rb p c h s a1 a2 n1 n2 c1 c2 xs ys W h1 h2 l1 l2 q1 q2
  unfold codeB at hC
  unfold duV
  by_cases g : isB p c h s xs ys = true
  · rw [if_pos g]
    rw [if_pos g] at hC
    obtain ⟨p0, p1, k0, k1, k2, k3, N1, N2, hx, hy, s0, s1, s2, s3⟩ := isB_parts g
    clear hx hy
    obtain ⟨P, rfl⟩ := Int.eq_ofNat_of_zero_le (by omega : 0 ≤ p)
    rw [show ((P : Int)).toNat = P by simp]
    obtain ⟨BV, BB, BR, hb, hz⟩ := three_new w #[.int .i64 (P : Int), .int .i64 c, .int .i64 h, .int .i64 s] #[.slice a1 n1 c1, .slice a2 n2 c2] #[.int .i64 ra, .int .i64 rb] 32 34 36
    clear hz
    obtain ⟨x0, x1, x2, x3, xf, xl⟩ := BV.four
    obtain ⟨y0, y1, yf, yl⟩ := BB.two
    obtain ⟨z0, z1, zf, zl⟩ := BR.two
    by_cases e : rlB s ra rb = true
    · rw [if_pos e] at hC
      rw [if_pos e]
      obtain ⟨e1, e2⟩ := rlB_two e
      have hU := fun W (q1 : IRow W a1 xs) (q2 : IRow W a2 ys) => listingsOf_any P c h s ra rb a1 a2 n1 n2 c1 c2 xs ys W h1 h2 q1 q2 g e1 e2
      have HU := Lib.hid hU
      have HC := Lib.hid hC
      clear hU hC e e1 e2 g
      go_enter Try.func20, Try.ntmps20
      go_wp2_with (first | (go_at_call 65; refine (HC.out _ (r1.below hb) (r2.below hb)).mono ?_; clear HC; rintro e w1 ⟨rfl, hb1⟩; obtain ⟨x0, x1, x2, x3, xf, xl⟩ := (BV.below hb1).four; obtain ⟨y0, y1, yf, yl⟩ := (BB.below hb1).two; obtain ⟨z0, z1, zf, zl⟩ := (BR.below hb1).two) | (go_at_call 66; refine (HU.out _ (r1.below (chain hb hb1)) (r2.below (chain hb hb1))).mono ?_; rintro e w2 ⟨gL, kL, L, rfl, -, -, hV, -, hT, hQ, -, hb2⟩; have HT := Lib.hid hT; have HQ := Lib.hid hQ; clear hT hQ) | (go_at_call 67; refine (used_of gL kL L w2 hV HT.out HQ.out).mono ?_; rintro e w3 ⟨rfl, hb3⟩))
      go_ret2
      exact ⟨rfl, chain (chain (chain hb hb1) hb2) hb3⟩
    · rw [if_neg e] at hC
      rw [if_neg e]
      have HC := Lib.hid hC
      clear hC e g
      go_enter Try.func20, Try.ntmps20
      go_wp2_with (first | (go_at_call 65; refine (HC.out _ (r1.below hb) (r2.below hb)).mono ?_; clear HC; rintro e w1 ⟨rfl, hb1⟩; obtain ⟨x0, x1, x2, x3, xf, xl⟩ := (BV.below hb1).four; obtain ⟨y0, y1, yf, yl⟩ := (BB.below hb1).two; obtain ⟨z0, z1, zf, zl⟩ := (BR.below hb1).two))
      go_ret2
      exact ⟨rfl, chain hb hb1⟩
  · rw [if_neg g]
    rw [if_neg g] at hC
    have HC := Lib.hid hC
    clear hC g
    obtain ⟨BV, BB, BR, hb, hz⟩ := three_new w #[.int .i64 p, .int .i64 c, .int .i64 h, .int .i64 s] #[.slice a1 n1 c1, .slice a2 n2 c2] #[.int .i64 ra, .int .i64 rb] 32 34 36
    clear hz
    obtain ⟨x0, x1, x2, x3, xf, xl⟩ := BV.four
    obtain ⟨y0, y1, yf, yl⟩ := BB.two
    obtain ⟨z0, z1, zf, zl⟩ := BR.two
    go_enter Try.func20, Try.ntmps20
    go_wp2_with (first | (go_at_call 65; refine (HC.out _ (r1.below hb) (r2.below hb)).mono ?_; clear HC; rintro e w1 ⟨rfl, hb1⟩; obtain ⟨x0, x1, x2, x3, xf, xl⟩ := (BV.below hb1).four; obtain ⟨y0, y1, yf, yl⟩ := (BB.below hb1).two; obtain ⟨z0, z1, zf, zl⟩ := (BR.below hb1).two))
    go_ret2
    exact ⟨rfl, chain hb hb1⟩
end Go.Proofs.Ytokjkcnjmfbfiaa
namespace Go.Proofs.Ytokjkcnjmfbfiaa
open Go.ChangeShapes Go.WideShapes Go.ChangeAt Go.RowKit
set_option linter.unusedVariables false
set_option linter.unusedSimpArgs false
set_option maxRecDepth 4000

set_option maxHeartbeats 1000000 in
theorem eqStep_same (s : Stp) (w : World) :
    Calls Try.prog 90 #[stV s, stV s] w fun e w' => e = .returned (.bool true) ∧ Below w.heap.size w w' := by
  obtain ⟨a, b, c, d⟩ := s
  have hb : Below w.heap.size w ((w.alloc (.cells #[.int .i64 a, .int .i64 b, .int .i64 c, .bool d] 112)).alloc (.cells #[.int .i64 a, .int .i64 b, .int .i64 c, .bool d] 112)) := ((Below.refl _ _).alloc (Nat.le_refl _) _).alloc (by simp) _
  go_enter Try.func90, Try.ntmps90
  go_wp2
  go_ret
  exact ⟨rfl, hb⟩
set_option maxHeartbeats 1000000 in
theorem toStep_any (s : Stp) (w : World) :
    Calls Try.prog 86 #[stV s] w fun e w' => e = .returned (stV s) ∧ Below w.heap.size w w' := by
  obtain ⟨a, b, c, d⟩ := s
  go_enter Try.func86, Try.ntmps86
  go_wp2
  refine bodyPost_ret (v := stV (a, b, c, d)) (by simp [results, Try.results86, go_sem]) rfl ⟨rfl, ?_⟩
  exact (((Below.refl _ _).alloc (Nat.le_refl _) _).alloc (by simp) _).alloc (by simp; omega) _
set_option maxRecDepth 8000 in
set_option maxHeartbeats 1000000 in
theorem eqStepS_same (lo hi lo2 hi2 : Nat) (a1 a2 : Option Addr) (n c1 c2 : Nat) (l : List Stp) (w : World) (hn : l.length = n) (hle : n ≤ 1048576) (h1 : OSt lo hi w a1 l) (h2 : OSt lo2 hi2 w a2 l) :
    Calls Try.prog 43 #[.slice a1 n c1, .slice a2 n c2] w fun e w' => e = .returned (.bool true) ∧ Below w.heap.size w w' := by
  subst hn
  go_enter Try.func43, Try.ntmps43
  go_wp2
  go_loopg [5] l.length (fun m i wr => ∃ k : Nat, k ≤ l.length ∧ m = l.length - k ∧ i = .int .i64 k ∧ Below w.heap.size w wr)
  case atStart => exact ⟨0, by omega, by omega, rfl, Below.refl _ _⟩
  case round =>
    obtain ⟨k, hk, hm, rfl, hbel⟩ := hrel
    by_cases hlt : k < l.length
    · have hlt' : (k : Int) < (l.length : Int) := by omega
      have hk0 : (0 : Int) ≤ (k : Int) := by omega
      have h1w := h1.below hbel
      have h2w := h2.below hbel
      obtain ⟨g1, rfl, R1⟩ := h1w.row hlt
      obtain ⟨g2, rfl, R2⟩ := h2w.row hlt
      obtain ⟨s, hs⟩ : ∃ s, l[k]? = some s := ⟨_, List.getElem?_eq_getElem hlt⟩
      obtain ⟨u0, u1, u2, u3⟩ := R1.four k s hs
      obtain ⟨v0, v1, v2, v3⟩ := R2.four k s hs
      clear h1w h2w hs h1 h2
      obtain ⟨a, b, c, d⟩ := s
      dsimp only at u0 u1 u2 u3 v0 v1 v2 v3
      go_wp2_with fail
      have hb := hbel
      refine wp_region_held_drew (S := fun w' => w'.cell? ⟨g1, k * 4, none⟩ = some (.int .i64 a) ∧ w'.cell? ⟨g1, k * 4 + 1, none⟩ = some (.int .i64 b) ∧ w'.cell? ⟨g1, k * 4 + 2, none⟩ = some (.int .i64 c) ∧ w'.cell? ⟨g1, k * 4 + 3, none⟩ = some (.bool d) ∧ w'.cell? ⟨g2, k * 4, none⟩ = some (.int .i64 a) ∧ w'.cell? ⟨g2, k * 4 + 1, none⟩ = some (.int .i64 b) ∧ w'.cell? ⟨g2, k * 4 + 2, none⟩ = some (.int .i64 c) ∧ w'.cell? ⟨g2, k * 4 + 3, none⟩ = some (.bool d) ∧ Below w.heap.size w w') (by kernel_rfl) ⟨u0, u1, u2, u3, v0, v1, v2, v3, hb.drew⟩ (fun hHeld => ?_)
      refine wpAnyH_take (i := 0) (oi := { dst := some 17, op := _, type := _, pos := _, after := _, guard := _ }) (v := ?_) rfl (by kernel_rfl) (by kernel_rfl) (by kernel_rfl) (fun _ _ _ h => h) (Or.inl ⟨by rfl, ?_⟩) (by assumption) ?_
      rotate_left
      · intro w hSw
        (try dsimp only at hSw)
        go_simp
        (try (with_reducible rfl))
      try simp only [Act.put, List.setIfInBounds_toArray, List.set_cons_zero, List.set_cons_succ]
      refine wpAnyH_take (i := 1) (oi := { dst := some 18, op := _, type := _, pos := _, after := _, guard := _ }) (v := ?_) rfl (by kernel_rfl) (by kernel_rfl) (by kernel_rfl) (fun _ _ _ h => h) (Or.inl ⟨by rfl, ?_⟩) (by assumption) ?_
      rotate_left
      · intro w hSw
        (try dsimp only at hSw)
        go_simp
        (try (with_reducible rfl))
      try simp only [Act.put, List.setIfInBounds_toArray, List.set_cons_zero, List.set_cons_succ]
      refine wpAnyH_take (i := 2) (oi := { dst := some 19, op := _, type := _, pos := _, after := _, guard := _ }) (v := ?_) rfl (by kernel_rfl) (by kernel_rfl) (by kernel_rfl) (fun _ _ _ h => h) (Or.inl ⟨by rfl, ?_⟩) (by assumption) ?_
      rotate_left
      · intro w hSw
        (try dsimp only at hSw)
        go_simp
        (try (with_reducible rfl))
      try simp only [Act.put, List.setIfInBounds_toArray, List.set_cons_zero, List.set_cons_succ]
      refine wpAnyH_take (i := 3) (oi := { dst := some 20, op := _, type := _, pos := _, after := _, guard := _ }) (v := ?_) rfl (by kernel_rfl) (by kernel_rfl) (by kernel_rfl) (fun _ _ _ h => h) (Or.inl ⟨by rfl, ?_⟩) (by assumption) ?_
      rotate_left
      · intro w hSw
        (try dsimp only at hSw)
        go_simp
        (try (with_reducible rfl))
      try simp only [Act.put, List.setIfInBounds_toArray, List.set_cons_zero, List.set_cons_succ]
      refine wpAnyH_take (i := 4) (oi := { dst := some 21, op := _, type := _, pos := _, after := _, guard := _ }) (v := ?_) rfl (by kernel_rfl) (by kernel_rfl) (by kernel_rfl) (fun _ _ _ h => h) (Or.inl ⟨by rfl, ?_⟩) (by assumption) ?_
      rotate_left
      · intro w hSw
        (try dsimp only at hSw)
        go_simp
        (try (with_reducible rfl))
      try simp only [Act.put, List.setIfInBounds_toArray, List.set_cons_zero, List.set_cons_succ]
      refine wpAnyH_take (i := 5) (oi := { dst := some 22, op := _, type := _, pos := _, after := _, guard := _ }) (v := ?_) rfl (by kernel_rfl) (by kernel_rfl) (by kernel_rfl) (fun _ _ _ h => h) (Or.inl ⟨by rfl, ?_⟩) (by assumption) ?_
      rotate_left
      · intro w hSw
        (try dsimp only at hSw)
        go_simp
        (try (with_reducible rfl))
      try simp only [Act.put, List.setIfInBounds_toArray, List.set_cons_zero, List.set_cons_succ]
      refine wpAnyH_take (i := 6) (oi := { dst := some 23, op := _, type := _, pos := _, after := _, guard := _ }) (v := ?_) rfl (by kernel_rfl) (by kernel_rfl) (by kernel_rfl) (fun _ _ _ h => h) (Or.inl ⟨by rfl, ?_⟩) (by assumption) ?_
      rotate_left
      · intro w hSw
        (try dsimp only at hSw)
        go_simp
        (try (with_reducible rfl))
      try simp only [Act.put, List.setIfInBounds_toArray, List.set_cons_zero, List.set_cons_succ]
      refine wpAnyH_take (i := 7) (oi := { dst := some 24, op := _, type := _, pos := _, after := _, guard := _ }) (v := ?_) rfl (by kernel_rfl) (by kernel_rfl) (by kernel_rfl) (fun _ _ _ h => h) (Or.inl ⟨by rfl, ?_⟩) (by assumption) ?_
      rotate_left
      · intro w hSw
        (try dsimp only at hSw)
        go_simp
        (try (with_reducible rfl))
      try simp only [Act.put, List.setIfInBounds_toArray, List.set_cons_zero, List.set_cons_succ]
      refine wpAnyH_ready (rs := [8]) (by kernel_rfl) (by simp) ?_
      refine AllReadyH.cons (o := { dst := some 25, op := _, type := _, pos := _, after := _, guard := _ }) rfl (fun K hK => ?_) AllReadyH.nil
      go_simp
      refine (eqStep_same (a, b, c, d) _).mono ?_
      rintro e w5 ⟨rfl, hb5⟩
      have hbn := chain hHeld.2.2.2.2.2.2.2.2 hb5
      (try go_wp2_with fail)
      refine hK.out _ _ ⟨(CellIs.below hHeld.1 hb5), (CellIs.below hHeld.2.1 hb5), (CellIs.below hHeld.2.2.1 hb5), (CellIs.below hHeld.2.2.2.1 hb5), (CellIs.below hHeld.2.2.2.2.1 hb5), (CellIs.below hHeld.2.2.2.2.2.1 hb5), (CellIs.below hHeld.2.2.2.2.2.2.1 hb5), (CellIs.below hHeld.2.2.2.2.2.2.2.1 hb5), hbn⟩ (fun hHeld => ?_)
      clear hK K
      try simp only [Act.put, List.setIfInBounds_toArray, List.set_cons_zero, List.set_cons_succ]
      refine wpAnyH_take (i := 9) (oi := { dst := some 26, op := _, type := _, pos := _, after := _, guard := _ }) (v := ?_) rfl (by kernel_rfl) (by kernel_rfl) (by kernel_rfl) (fun _ _ _ h => h) (Or.inl ⟨by rfl, ?_⟩) (by assumption) ?_
      rotate_left
      · intro w hSw
        (try dsimp only at hSw)
        go_simp
        (try (with_reducible rfl))
      try simp only [Act.put, List.setIfInBounds_toArray, List.set_cons_zero, List.set_cons_succ]
      refine wpAnyH_done (by kernel_rfl) ?_ _
      go_wp2
      go_roundg (l.length - (k + 1))
      case measure => omega
      case rel => exact ⟨k + 1, by omega, rfl, by go_num, hHeld.2.2.2.2.2.2.2.2⟩
    · obtain rfl : k = l.length := by omega
      go_wp2
      go_ret
      exact ⟨rfl, hbel⟩
/-- The marks that the law writes into steps. -/
def mkS (k : Int) (n : Nat) : List Stp := (List.range n).map fun (j : Nat) => (k + 4 * (j : Int), k + 4 * (j : Int) + 1, k + 4 * (j : Int) + 1 + 1, (k + 4 * (j : Int) + 1 + 1 + 1) % 3 == 0)
theorem mkS_length (k : Int) (n : Nat) : (mkS k n).length = n := by simp [mkS]
theorem mkS_succ (k : Int) (n : Nat) : mkS k (n + 1) = mkS k n ++ [(k + 4 * (n : Int), k + 4 * (n : Int) + 1, k + 4 * (n : Int) + 1 + 1, (k + 4 * (n : Int) + 1 + 1 + 1) % 3 == 0)] := by simp [mkS, List.range_succ]
theorem mkS_get (k : Int) (n j : Nat) (h : j < n) : (mkS k n)[j]? = some (k + 4 * (j : Int), k + 4 * (j : Int) + 1, k + 4 * (j : Int) + 1 + 1, (k + 4 * (j : Int) + 1 + 1 + 1) % 3 == 0) := by simp [mkS, h]
theorem set4_app (A B : List Value) (v0 v1 v2 v3 x0 x1 x2 x3 : Value) (n : Nat) (hn : A.length = n) :
    (((((A ++ v0 :: v1 :: v2 :: v3 :: B).set n x0).set (n + 1) x1).set (n + 2) x2).set (n + 3) x3) = A ++ x0 :: x1 :: x2 :: x3 :: B := by
  subst hn
  simp [List.set_append, Nat.add_sub_cancel_left]
theorem stepsC_drop : ∀ (l : List Stp) (j : Nat) (s : Stp), l[j]? = some s → (stepsC l).drop (j * 4) = .int .i64 s.1 :: .int .i64 s.2.1 :: .int .i64 s.2.2.1 :: .bool s.2.2.2 :: (stepsC l).drop ((j + 1) * 4)
  | [], j, s, h => by simp at h
  | x :: l, 0, s, h => by
    simp at h
    subst h
    simp [stepsC, stC]
  | x :: l, j + 1, s, h => by
    have ih := stepsC_drop l j s (by simpa using h)
    have e1 : (j + 1) * 4 = j * 4 + 4 := by omega
    have e2 : (j + 1 + 1) * 4 = (j + 1) * 4 + 4 := by omega
    rw [e1, e2]
    exact ih
set_option maxRecDepth 8000 in
set_option maxHeartbeats 2000000 in
theorem markStepS_any (g : Nat) (n cap : Nat) (l : List Stp) (k : Int) (w : World) (hn : l.length = n) (hle : n ≤ 1048576) (hk0 : 0 ≤ k) (hk1 : k ≤ 1000000000) (hR : SRow w g l) :
    Calls Try.prog 44 #[.slice (some ⟨g, 0, none⟩) n cap, .int .i64 k] w fun e w' => e = .returned (.int .i64 (k + 4 * (n : Int))) ∧ SRow w' g (mkS k n) ∧ w.grownBy w' (some g) := by
  subst hn
  go_enter Try.func44, Try.ntmps44
  go_wp2
  go_loopg [1, 5] l.length (fun m q i wr => ∃ j : Nat, j ≤ l.length ∧ m = l.length - j ∧ i = .int .i64 j ∧ q = .int .i64 (k + 4 * (j : Int)) ∧ VRow wr g (stepsC (mkS k j) ++ (stepsC l).drop (j * 4)) 112 ∧ w.grownBy wr (some g))
  case atStart => exact ⟨0, by omega, by omega, rfl, by simp, by simpa [mkS, stepsC] using hR, grown_refl _ _⟩
  case round =>
    obtain ⟨j, hj, hm, rfl, rfl, hr, hG⟩ := hrel
    by_cases hlt : j < l.length
    · have hlt' : (j : Int) < (l.length : Int) := by omega
      obtain ⟨s, hs⟩ : ∃ s, l[j]? = some s := ⟨_, List.getElem?_eq_getElem hlt⟩
      have hA : (stepsC (mkS k j)).length = j * 4 := by rw [stepsC_length, mkS_length]
      rw [stepsC_drop l j s hs] at hr
      have f0 := fun i => hr.free i
      have c0 := hr.cell (j * 4) (.int .i64 s.1) (by rw [List.getElem?_append_right (by omega), hA]; simp)
      have c1 := hr.cell (j * 4 + 1) (.int .i64 s.2.1) (by rw [List.getElem?_append_right (by omega), hA]; simp)
      have c2 := hr.cell (j * 4 + 2) (.int .i64 s.2.2.1) (by rw [List.getElem?_append_right (by omega), hA]; simp)
      have c3 := hr.cell (j * 4 + 3) (.bool s.2.2.2) (by rw [List.getElem?_append_right (by omega), hA]; simp)
      have hR2 := ((((hr.set (j * 4) (.int .i64 (k + 4 * (j : Int)))).set (j * 4 + 1) (.int .i64 (k + 4 * (j : Int) + 1))).set (j * 4 + 2) (.int .i64 (k + 4 * (j : Int) + 1 + 1))).set (j * 4 + 3) (.bool ((k + 4 * (j : Int) + 1 + 1 + 1) % 3 == 0))).wf (set4_app _ _ _ _ _ _ _ _ _ _ _ hA)
      have hR3 := Lib.hid (hR2.wf (show _ = stepsC (mkS k (j + 1)) ++ (stepsC l).drop ((j + 1) * 4) by rw [mkS_succ, stepsC_append]; simp [stepsC, stC]))
      have hG3 := Lib.hid (grown_set (v := .bool ((k + 4 * (j : Int) + 1 + 1 + 1) % 3 == 0)) (o := j * 4 + 3) (grown_set (v := .int .i64 (k + 4 * (j : Int) + 1 + 1)) (o := j * 4 + 2) (grown_set (v := .int .i64 (k + 4 * (j : Int) + 1)) (o := j * 4 + 1) (grown_set (v := .int .i64 (k + 4 * (j : Int))) (o := j * 4) hG))))
      clear hR2 hr hs hA
      go_wp2
      go_roundg (l.length - (j + 1))
      case measure => omega
      case rel =>
        exact ⟨j + 1, by omega, rfl, by go_num, by go_num, hR3.out, hG3.out⟩
    · obtain rfl : j = l.length := by omega
      have hfin := Lib.hid hr
      clear hr
      go_wp2
      go_ret
      refine ⟨rfl, hfin.out.wf ?_, hG⟩
      rw [List.drop_eq_nil_of_le (by rw [stepsC_length]; omega), List.append_nil]
set_option maxHeartbeats 1000000 in
theorem markStepS_nil (cap : Nat) (k : Int) (w : World) :
    Calls Try.prog 44 #[.slice none 0 cap, .int .i64 k] w fun e w' => e = .returned (.int .i64 k) ∧ w = w' := by
  go_enter Try.func44, Try.ntmps44
  go_wp2
  refine wp_loop_rounds 1 ?_
  rw [rounds_succ]
  go_wp2
  go_ret
  exact ⟨rfl, rfl⟩
/-- Marking steps of the call's own: they alone change. -/
theorem markSt_own (lo hi : Nat) (a : Option Addr) (n cap : Nat) (l : List Stp) (k : Int) (w : World) (hn : l.length = n) (hle : n ≤ 1048576) (k0 : 0 ≤ k) (k1 : k ≤ 1000000000) (h : OSt lo hi w a l) :
    Calls Try.prog 44 #[.slice a n cap, .int .i64 k] w fun e w' => e = .returned (.int .i64 (k + 4 * (n : Int))) ∧ OSt lo hi w' a (mkS k n) ∧ Same lo hi w w' := by
  rcases h with ⟨rfl, rfl⟩ | ⟨g, rfl, h1, h2, r⟩
  · obtain rfl : 0 = n := hn
    refine (markStepS_nil cap k w).mono ?_
    rintro e w' ⟨rfl, rfl⟩
    exact ⟨by simp, .inl ⟨rfl, rfl⟩, rfl, rfl, rfl, Nat.le_refl _, fun i hi _ => rfl⟩
  · refine (markStepS_any g n cap l k w hn hle k0 k1 r).mono ?_
    rintro e w' ⟨rfl, q, hg⟩
    exact ⟨rfl, .inr ⟨g, rfl, h1, h2, q⟩, hg.os, hg.tape, hg.output, hg.size, fun i hi ho => hg.block i hi (fun e => by cases e; omega)⟩
set_option maxRecDepth 8000 in
set_option maxHeartbeats 2000000 in
theorem heldStepS_any (lo hi : Nat) (a : Option Addr) (n cap : Nat) (k : Int) (w : World) (hle : n ≤ 1048576) (hk0 : 0 ≤ k) (hk1 : k ≤ 1000000000) (hr : OSt lo hi w a (mkS k n)) :
    Calls Try.prog 71 #[.slice a n cap, .int .i64 k] w fun e w' => e = .returned (.int .i64 (k + 4 * (n : Int))) ∧ w = w' := by
  go_enter Try.func71, Try.ntmps71
  go_wp2
  go_loopg [1, 5] n (fun m q i wr => w = wr ∧ ∃ j : Nat, j ≤ n ∧ m = n - j ∧ i = .int .i64 j ∧ q = .int .i64 (k + 4 * (j : Int)))
  case atStart => exact ⟨rfl, 0, by omega, by omega, rfl, by simp⟩
  case round =>
    obtain ⟨rfl, j, hj, hm, rfl, rfl⟩ := hrel
    by_cases hlt : j < n
    · have hlt' : (j : Int) < (n : Int) := by omega
      obtain ⟨g, rfl, R⟩ := hr.row (k := j) (by rw [mkS_length]; exact hlt)
      obtain ⟨u0, u1, u2, u3⟩ := R.four j _ (mkS_get k n j hlt)
      dsimp only at u0 u1 u2 u3
      clear R hr
      go_wp2
      go_roundg (n - (j + 1))
      case measure => omega
      case rel => exact ⟨rfl, j + 1, by omega, rfl, by go_num, by go_num⟩
    · obtain rfl : j = n := by omega
      clear hr
      go_wp2
      go_ret
      exact ⟨rfl, rfl⟩
end Go.Proofs.Ytokjkcnjmfbfiaa
namespace Go.Proofs.Ytokjkcnjmfbfiaa
open Go.ChangeShapes Go.WideShapes Go.ChangeAt Go.RowKit
set_option linter.unusedVariables false
set_option linter.unusedSimpArgs false

theorem open_row {H : Type} {enc : TypeId × Value → H} {w : World} {base : Nat} {spare : Nat → Bool} {held : Bool} {fuel : Nat} {v : Value} {x : DataW H × List MemPlace}
    (h : DataW.trod enc Try.prog w base spare held fuel 24 [v] = some x) :
    ∃ (a : Option Addr) (n cap : Nat) (xs : List Int), v = .slice a n cap ∧ xs.length = n ∧ n ≤ 9223372036854775807 ∧ IRow w a xs ∧ ∀ y ∈ xs, (Lit.int .i64 y).wf = true := by
  rcases open_ints Try.underlying24 Try.underlying2 (by kernel_rfl) h with ⟨hcs, _⟩ | ⟨x, l, c, zs, hcs, _, hl, hm, hz, _, hcell, hwz⟩
  · simp at hcs
    exact ⟨none, 0, 0, [], hcs, rfl, by omega, IRow.nil _ _, by simp⟩
  · simp at hcs
    have hlz : l ≤ zs.length := by rw [hz]; split <;> omega
    refine ⟨some x, l, c, zs.take l, hcs, by simp; omega, by unfold maxLen at hm; omega, ?_, fun y hy => hwz y (List.mem_of_mem_take hy)⟩
    intro i hi
    have hi2 : i < l := by simp at hi; omega
    have hc := hcell i (by omega)
    obtain ⟨b, o, spot⟩ := x
    have hspot : spot = none := by
      have hc0 := hcell 0 (by omega)
      simpa [Addr.add] using World.cell?_spot hc0
    subst hspot
    refine ⟨b, o, rfl, ?_⟩
    rw [show (⟨b, o, none⟩ : Addr).add i = ⟨b, o + i, none⟩ from by unfold Addr.add; split <;> simp_all] at hc
    rw [hc]
    simp [List.getD, hi2]
end Go.Proofs.Ytokjkcnjmfbfiaa
