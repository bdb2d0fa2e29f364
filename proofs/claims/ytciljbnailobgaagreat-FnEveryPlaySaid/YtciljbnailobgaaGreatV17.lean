/- Texts of a proof, laid together. -/
import Derived.Test.YtciljbnailobgaaGreatV16
namespace Go.Proofs.YtciljbnailobgaaGreat
open Go.ChangeShapes Go.WideShapes Go.ChangeAt Go.RowKit
set_option linter.unusedVariables false
set_option linter.unusedSimpArgs false
set_option maxRecDepth 4000
def lastP (x : LI) : List PP := ((x.2.2.2[x.2.2.2.length - 1]?).map (fun y => y.2.2)).getD []
theorem legalL_sub (L : List LI) : (legalL L).Sublist L := by
  unfold legalL keepL
  split
  · exact (List.take_sublist _ _).trans List.filter_sublist
  · exact List.filter_sublist
theorem lastP_mem {x : LI} {q : PP} (h : q ∈ lastP x) : ∃ y ∈ x.2.2.2, q ∈ y.2.2 := by
  unfold lastP at h
  cases e : x.2.2.2[x.2.2.2.length - 1]? with
  | none => rw [e] at h; simp at h
  | some y => rw [e] at h; exact ⟨y, List.mem_of_getElem? e, h⟩
theorem VRow.keepT {w w' : World} {g : Nat} {vs : List Value} {t T : TypeId} (h : VRow w g vs t) (ht : t ≠ T) (hk : ∀ g cur t, Blk w g cur t → t ≠ T → w'.heap[g]? = w.heap[g]?) : VRow w' g vs t := by
  obtain ⟨cur, hB, h1, h2⟩ := h
  exact ⟨cur, (hk _ _ _ hB ht).trans hB, h1, h2⟩
theorem plsC_one : ∀ (l : List PP) (y : Value), y ∈ plsC l → y.oneCell' = true
  | [], y, h => by simp [plsC] at h
  | x :: l, y, h => by
    rw [plsC, List.mem_append] at h
    rcases h with h | h
    · simp [plC] at h
      rcases h with rfl | rfl | rfl <;> rfl
    · exact plsC_one l y h
theorem step_appPs {ops : Array Oper} {o : Oper} {a : Act} {w : World} {K : Act → World → Prop} {Q : Exit → Act → World → Prop} {E : Prop} (hgd : o.guard = none) (s x : Operand)
    (ho : o.op = .call { callee := .builtin .append, args := #[s, x], argTypes := #[33, 33] })
    (base : Nat) (v : Value) (D : List PP) (hs : a.eval s = v) (hown : OwnP w base v D) (ga : Option Addr) (m c : Nat) (ys : List PP) (hx : a.eval x = .slice ga m c) (hm : ys.length = m) {lo hi : Nat} (hr : OPl lo hi w ga ys ∧ 0 < ys.length)
    (hl : D.length + m ≤ 1048576) (hbase : base ≤ w.heap.size)
    (h : ∀ v' w', OwnP w' base v' (D ++ ys) → Below base w w' → (∀ g cur t, Blk w g cur t → t ≠ 44 → w'.heap[g]? = w.heap[g]?) → K (a.put o.dst v') w') :
    if Region.wanted o (yielded ops a.tmps) = true then Oper.wp Tryz.prog o a w K Q else E := by
  have hw : Region.wanted o (yielded ops a.tmps) = true := by simp [Region.wanted, hgd]
  rw [if_pos hw]
  obtain ⟨gx, rfl, hrow⟩ := hr.1.row hr.2
  obtain ⟨i0, hi0, hz0, hz1, hz2⟩ := info_parts infoPly
  have hown0 : w.ownsRow base 44 3 v D.length (plsC D) := hown
  refine wp_append_own w s x 33 ho base 44 i0 _ 3 72 Tryz.underlying33 hi0 hz0 hz1 hz2 rfl (by decide) v D.length (plsC D) hs hown0 ⟨gx, 0, none⟩ m c (plsC ys) hx (by rw [plsC_length, hm]) ?_ (plsC_one ys) (by unfold maxLen; omega) (by omega) hbase ?_
  · intro j u hj
    rw [show (⟨gx, 0, none⟩ : Addr).add j = ⟨gx, j, none⟩ from by unfold Addr.add; split <;> simp_all]
    exact hrow.cell j u hj
  · intro v' w' hown' hgrow _
    refine h v' w' ?_ ((Below.refl base w).grown hgrow hbase (fun k hk => (hown0.lt k hk).1)) (fun g cur t hB ht => hgrow.block g hB.lt (fun hh => hown.ne hB ht hh.symm))
    show w'.ownsRow base 44 3 _ (D ++ ys).length (plsC (D ++ ys))
    rw [List.length_append, plsC_append, hm]
    exact hown'
set_option maxRecDepth 100000 in
set_option maxHeartbeats 4000000 in
theorem lplays_any (P : Nat) (c h s : Int) (lo K g k : Nat) (L : List LI) (w : World) (hP : P ≤ 24) (hlo : lo ≤ w.heap.size) (hV : VRow w g (L.flatMap liC) 70) (hA : LisAll lo w.heap.size w L) (h0 : ∀ x ∈ L, 0 < x.2.2.2.length ∧ x.2.2.2.length ≤ 1000) (hL : L.length ≤ 1000) (hU : usedL L ≤ 1000) (hle : ∀ i, usedLTo L i ≤ 1000) (hL0 : 0 < L.length)
    (hFi : ∀ x ∈ L, ∀ y ∈ x.2.2.2, Fine (P : Int) c h s (y.2.2.map (·.2)) ∧ (∀ q ∈ y.2.2, q.2.1.length ≤ K) ∧ 0 < y.2.2.length ∧ y.2.2.Pairwise Dis) (hDL : L.Pairwise DisL) (hN : ∀ i, (((legalL L).take i).flatMap lastP).length ≤ 1000000) :
    Calls Tryz.prog 51 #[.slice (some ⟨g, 0, none⟩) L.length k] w (FirstGot P c h s lo K (fun xs => xs = (legalL L).flatMap lastP) w) := by
  have hleg := legal_any g k L w hV h0 hL hU hle hL0
  have hmem := fun x => legalL_mem (L := L) (x := x)
  have hlen := legalL_le L
  have hsub : (legalL L).Pairwise DisL := hDL.sublist (legalL_sub L)
  obtain ⟨LG, hLG⟩ : ∃ z, legalL L = z := ⟨_, rfl⟩
  unfold LegGot at hleg
  rw [hLG] at hleg hmem hlen hN hsub ⊢
  have HSUB := Lib.hid hsub
  have HLEG := Lib.hid hleg
  have HMEM := Lib.hid hmem
  have HFI := Lib.hid hFi
  have HN := Lib.hid hN
  have H0 := Lib.hid h0
  have HA := Lib.hid hA
  clear hleg hmem hFi hN h0 hLG hle hV hA hDL hsub
  go_enter Tryz.func51, Tryz.ntmps51
  go_wp2_with fail
  refine (HLEG.out).mono ?_
  rintro e w1 ⟨gL, kL, rfl, hgL, hVL, hb1⟩
  clear HLEG
  go_wp2_with fail
  go_loopg [3, 5, 9] LG.length (fun m q3 q5 q9 wr => ∃ (i : Nat) (D : List PP), i ≤ LG.length ∧ m = LG.length - i ∧ q9 = .int .i64 i ∧ D = (LG.take i).flatMap lastP ∧ OwnP wr w1.heap.size q3 D ∧ Below w1.heap.size w1 wr)
  case atStart => exact ⟨0, [], by omega, by omega, rfl, rfl, OwnP.nil _ _, Below.refl _ _⟩
  case round =>
    obtain ⟨i, D, hi, hm, rfl, hD, hO, hbq⟩ := hrel
    by_cases hlt : i < LG.length
    · have hlt' : (i : Int) < (LG.length : Int) := by omega
      have hi0 : (0 : Int) ≤ (i : Int) := by omega
      obtain ⟨x, hx⟩ : ∃ x, LG[i]? = some x := ⟨_, List.getElem?_eq_getElem hlt⟩
      have hxL := (HMEM.out x (List.mem_of_getElem? hx)).1
      obtain ⟨k0, k1⟩ := H0.out x hxL
      obtain ⟨UU, hUU⟩ : ∃ z, x.2.2.2.length - 1 = z := ⟨_, rfl⟩
      have hu1 := fun W => used1_any x W k0 k1
      rw [hUU] at hu1
      obtain ⟨y, hy⟩ : ∃ y, x.2.2.2[UU]? = some y := ⟨_, List.getElem?_eq_getElem (by omega)⟩
      have hlast : lastP x = y.2.2 := by unfold lastP; rw [hUU, hy]; rfl
      have hym := List.mem_of_getElem? hy
      obtain ⟨hyF, hyS, hy0, hyD⟩ := HFI.out x hxL y hym
      have hAx := HA.out x hxL
      have hstep : (LG.take (i + 1)).flatMap lastP = D ++ y.2.2 := by rw [List.take_add_one, hx, List.flatMap_append, ← hD]; simp [hlast]
      have hDl : D.length + y.2.2.length ≤ 1048576 := by
        have := HN.out (i + 1)
        rw [hstep, List.length_append] at this
        omega
      have hyr := (hAx.2.2.2.2 y hym).1
      have hw01 : Below w.heap.size w wr := hb1.trans (hbq.mono hb1.size)
      replace hyr := hyr.below hw01
      have hvx := hAx.2.2.2.1.below hw01
      obtain ⟨c0, c1⟩ := liRow (hVL.below hbq) i x hx
      have HU1 := Lib.hid hu1
      have HY := Lib.hid hy
      have HDL := Lib.hid hDl
      have HST := Lib.hid hstep
      have hUlt : (UU : Int) < (x.2.2.2.length : Int) := by omega
      have hU0 : (0 : Int) ≤ (UU : Int) := by omega
      have hsq := hbq.size
      clear hu1 hy hDl hstep hUU hym hyF hyS hyD hAx k0 k1 hD hlast hx
      have BX := Blk.new wr #[.slice (some ⟨x.1.1, 0, none⟩) x.1.2.length x.1.2.length, .slice (some ⟨x.2.1, 0, none⟩) x.2.2.2.length x.2.2.1] 70
      have hbx : Below wr.heap.size wr (wr.alloc (.cells #[.slice (some ⟨x.1.1, 0, none⟩) x.1.2.length x.1.2.length, .slice (some ⟨x.2.1, 0, none⟩) x.2.2.2.length x.2.2.1] 70)) := (Below.refl _ _).alloc (Nat.le_refl _) _
      obtain ⟨y0, y1, yf, yl⟩ := BX.two
      have hVx := hvx.below hbx
      have hyr2 := hyr.below hbx
      replace hO := hO.alloc (.cells #[.slice (some ⟨x.1.1, 0, none⟩) x.1.2.length x.1.2.length, .slice (some ⟨x.2.1, 0, none⟩) x.2.2.2.length x.2.2.1] 70)
      have hsz := hbx.size
      go_wp2_with fail
      clear y0 y1 yf yl c0 c1 hyr hvx hw01
      obtain ⟨bx, hbxx⟩ : ∃ b, wr.heap.size = b := ⟨_, rfl⟩
      rw [hbxx] at BX
      simp only [hbxx]
      generalize (wr.alloc (.cells #[.slice (some ⟨x.1.1, 0, none⟩) x.1.2.length x.1.2.length, .slice (some ⟨x.2.1, 0, none⟩) x.2.2.2.length x.2.2.1] 70)) = v0 at *
      have hbv : Below v0.heap.size v0 v0.drew := (Below.refl _ _).drew
      replace BX := BX.drew
      replace hVx := hVx.below hbv
      replace hO := hO.drew
      obtain ⟨ya, hya⟩ : ∃ a, y.1 = a := ⟨_, rfl⟩
      rw [hya] at hyr2
      replace hyr2 := hyr2.below hbv
      have hd_ : v0.drew.heap.size = v0.heap.size := rfl
      have hy2V : VRow v0.drew x.2.1 (x.2.2.2.flatMap lvC) 33 := hVx
      have hcy := lvRow hVx UU y HY.out
      rw [show lvV y = .slice ya y.2.2.length y.2.1 by rw [← hya]] at hcy
      have HYC := Lib.hid (fun W (q : VRow W x.2.1 (x.2.2.2.flatMap lvC) 33) => show W.cell? ⟨x.2.1, UU, none⟩ = some (.slice ya y.2.2.length y.2.1) from by have := lvRow q UU y HY.out; rw [show lvV y = .slice ya y.2.2.length y.2.1 by rw [← hya]] at this; exact this)
      clear hcy hy2V
      refine wp_region_held_drew (S := fun w' => w'.cell? ⟨bx, 0, none⟩ = some (.slice (some ⟨x.1.1, 0, none⟩) x.1.2.length x.1.2.length) ∧ w'.cell? ⟨bx, 1, none⟩ = some (.slice (some ⟨x.2.1, 0, none⟩) x.2.2.2.length x.2.2.1) ∧ w'.cell? ⟨x.2.1, UU, none⟩ = some (.slice ya y.2.2.length y.2.1)) (by kernel_rfl) ⟨BX.two.1, BX.two.2.1, HYC.out _ hVx⟩ (fun hHeld => ?_)
      refine tk 0 13 ?_
      refine tk 1 14 ?_
      refine tk 2 15 ?_
      refine tk 3 16 ?_
      refine rdk 4 17 fun K hK => ?_
      go_simp
      refine (HU1.out _).mono ?_
      rintro e w5 ⟨rfl, hb5⟩
      replace BX := BX.below hb5
      replace hVx := hVx.below hb5
      replace hO := hO.below hb5
      replace hyr2 := hyr2.below hb5
      have hz5 := hb5.size
      (try go_wp2_with fail)
      refine hko hK (Blk.f2 BX (HYC.out _ hVx)) fun hHeld => ?_
      clear hK K
      refine tk 5 18 ?_
      refine tk 6 19 ?_
      refine rdk 7 20 fun K hK => ?_
      refine step_appPs rfl (.tmp 13) (.tmp 19) rfl w1.heap.size _ D rfl hO ya y.2.2.length y.2.1 y.2.2 rfl rfl ⟨hyr2, hy0⟩ HDL.out (by omega) ?_
      intro v7 w7 hO7 hb7 hf7
      have BX7 : Blk w7 bx #[.slice (some ⟨x.1.1, 0, none⟩) x.1.2.length x.1.2.length, .slice (some ⟨x.2.1, 0, none⟩) x.2.2.2.length x.2.2.1] 70 := (hf7 _ _ _ BX (by decide)).trans BX
      have hVx7 : VRow w7 x.2.1 (x.2.2.2.flatMap lvC) 33 := hVx.keepT (by decide) hf7
      refine hko hK (Blk.f2 BX7 (HYC.out _ hVx7)) fun hHeld => ?_
      clear hK K
      refine tk 8 3 ?_
      refine wpAnyH_done (by kernel_rfl) ?_ _
      clear hHeld
      go_wp2
      go_roundg (LG.length - (i + 1))
      case measure => omega
      case rel => exact ⟨i + 1, D ++ y.2.2, by omega, rfl, by go_num, HST.out.symm, hO7, (chain (chain (chain hbq hbx) hbv) hb5).trans hb7⟩
    · obtain rfl : i = LG.length := by omega
      rw [List.take_length] at hD
      have hDN : D.length ≤ 1000000 := by
        have := HN.out LG.length
        rw [List.take_length, ← hD] at this
        exact this
      have hw01 : Below w.heap.size w wr := hb1.trans (hbq.mono hb1.size)
      have hmemD : ∀ q ∈ D, ∃ x ∈ L, ∃ y ∈ x.2.2.2, q ∈ y.2.2 := fun q hq => by
        rw [hD] at hq
        obtain ⟨x, hx, hq⟩ := List.mem_flatMap.1 hq
        obtain ⟨y, hy, hq⟩ := lastP_mem hq
        exact ⟨x, (HMEM.out x hx).1, y, hy, hq⟩
      have hPA : PAll lo w.heap.size wr D := fun q hq => by
        obtain ⟨x, hx, y, hy, hq⟩ := hmemD q hq
        exact (((HA.out x hx).2.2.2.2 y hy).2 q hq).below hw01
      have hFD : Fine (P : Int) c h s (D.map (·.2)) := fun q hq => by
        obtain ⟨z, hz, rfl⟩ := List.mem_map.1 hq
        obtain ⟨x, hx, y, hy, hz⟩ := hmemD z hz
        exact (HFI.out x hx y hy).1 z.2 (List.mem_map.2 ⟨z, hz, rfl⟩)
      have hKD : ∀ q ∈ D, q.2.1.length ≤ K := fun q hq => by
        obtain ⟨x, hx, y, hy, hq⟩ := hmemD q hq
        exact (HFI.out x hx y hy).2.1 q hq
      have hDD : D.Pairwise Dis := by
        rw [hD, List.pairwise_flatMap]
        refine ⟨fun x hx => ?_, HSUB.out.imp_of_mem (fun {x y} hx hy hxy q hq q' hq' => ?_)⟩
        · unfold lastP
          cases e : x.2.2.2[x.2.2.2.length - 1]? with
          | none => exact List.Pairwise.nil
          | some y => exact (HFI.out x (HMEM.out x hx).1 y (List.mem_of_getElem? e)).2.2.2
        · obtain ⟨p, hp, hq⟩ := lastP_mem hq
          obtain ⟨p', hp', hq'⟩ := lastP_mem hq'
          exact hxy p hp q hq p' hp' q' hq'
      have HDD := Lib.hid hDD
      clear hDD
      obtain ⟨a, kk, rfl⟩ := hO.form
      have hOP := hO.opl
      have HD := Lib.hid hD
      have HFD := Lib.hid hFD
      have HKD := Lib.hid hKD
      have hsq := hbq.size
      have hsw := hw01.size
      clear hD hFD hKD hmemD hO
      go_wp2_with fail
      refine (values_any a D.length kk wr).mono ?_
      rintro e wA ⟨rfl, B1, hbA, hzA⟩
      have hfa := first_any P c h s wA.heap.size lo K D.length 103 _ _ wA hP hDN (Nat.le_refl _) values1_enter (values1_good P c h s wr.heap.size a kk lo wA.heap.size K D wA B1 ((hOP.below hbA).mono (by have := hb1.size; omega) hbA.size) ((hPA.below hbA).mono (Nat.le_refl _) (by omega)) (Nat.le_refl _) HFD.out HKD.out hDN HDD.out)
      have HFA := Lib.hid hfa
      clear hfa B1
      go_wp2_with fail
      refine (HFA.out).mono ?_
      rintro e wB ⟨b, kb, LL, zs, rfl, hzs, hLz, hOPL, hPAL, hLq, hDs, hbB⟩
      clear HFA
      have hsA := hbA.size
      have hbW : Below w.heap.size w wB := chain (chain hw01 hbA) hbB
      go_wp2
      go_ret
      exact ⟨b, kb, LL, zs, rfl, by rw [hzs, HD.out], hLz, hOPL.mono (by omega) (Nat.le_refl _), hPAL, hLq, hDs, hbW⟩
end Go.Proofs.YtciljbnailobgaaGreat
namespace Go.Proofs.YtciljbnailobgaaGreat
open Go.ChangeShapes Go.WideShapes Go.ChangeAt Go.RowKit
set_option linter.unusedVariables false
set_option linter.unusedSimpArgs false
def allStep (P : Nat) (h : Int) (xs ys : List Int) (U : Nat) (out : List Ply) (i : Nat) (o : List Int) : List Ply :=
  if longN P h o (startP xs ys) ≠ U ∨ (U = 1 ∧ i = 1 ∧ 0 < out.length) then out else addAll out (longP P h o (startP xs ys))
def allTo (P : Nat) (h : Int) (xs ys : List Int) (U : Nat) (l : List (List Int)) : Nat → List Ply
  | 0 => []
  | k + 1 => match l[k]? with
    | none => allTo P h xs ys U l k
    | some o => allStep P h xs ys U (allTo P h xs ys U l k) k o
def okTo (P : Nat) (h : Int) (xs ys : List Int) (l : List (List Int)) : Nat → Bool
  | 0 => true
  | k + 1 => match l[k]? with
    | none => okTo P h xs ys l k
    | some o => okTo P h xs ys l k && fineP P h o (startP xs ys)
theorem allTo_succ (P : Nat) (h : Int) (xs ys : List Int) (U : Nat) (l : List (List Int)) (k : Nat) (o : List Int) (ho : l[k]? = some o) : allTo P h xs ys U l (k + 1) = allStep P h xs ys U (allTo P h xs ys U l k) k o := by
  rw [allTo, ho]
theorem okTo_succ (P : Nat) (h : Int) (xs ys : List Int) (l : List (List Int)) (k : Nat) (o : List Int) (ho : l[k]? = some o) : okTo P h xs ys l (k + 1) = (okTo P h xs ys l k && fineP P h o (startP xs ys)) := by
  rw [okTo, ho]
def allP (P : Nat) (h : Int) (xs ys : List Int) (ra rb : Int) : List Ply := allTo P h xs ys (usedP P h xs ys ra rb) (ordersP ra rb) (ordersP ra rb).length
def allOk (P : Nat) (h : Int) (xs ys : List Int) (ra rb : Int) : Bool := okTo P h xs ys (ordersP ra rb) (ordersP ra rb).length
theorem addAll_fine {p c h s : Int} {out l : List Ply} (g : Fine p c h s out) (g2 : Fine p c h s l) : Fine p c h s (addAll out l) := fun q hq => (addAll_mem hq).elim (g q) (g2 q)
theorem longP_isB {P : Nat} {c h s : Int} : ∀ {o : List Int} {l : List Ply}, Fine (P : Int) c h s l → (∀ d ∈ o, inB d 1 s = true) → Fine (P : Int) c h s (longP P h o l)
  | [], l, g, hd => g
  | d :: ds, l, g, hd => by
    rw [longP]
    split
    · exact g
    · exact longP_isB (nextP_fine g (hd d (by simp))) (fun e he => hd e (by simp [he]))
theorem start_fine {P : Nat} {c h s : Int} {xs ys : List Int} (g : isB (P : Int) c h s xs ys = true) : Fine (P : Int) c h s (startP xs ys) := fun q hq => by simp [startP] at hq; subst hq; exact g
theorem allTo_fine {P : Nat} {c h s : Int} {xs ys : List Int} {U : Nat} {l : List (List Int)} (g : isB (P : Int) c h s xs ys = true) (hl : ∀ o ∈ l, ∀ d ∈ o, inB d 1 s = true) : ∀ k : Nat, Fine (P : Int) c h s (allTo P h xs ys U l k)
  | 0 => fun q hq => by simp [allTo] at hq
  | k + 1 => by
    have ih := allTo_fine (U := U) g hl k
    rw [allTo]
    cases e : l[k]? with
    | none => exact ih
    | some o =>
      dsimp only
      unfold allStep
      split
      · exact ih
      · exact addAll_fine ih (longP_isB (start_fine g) (hl o (List.mem_of_getElem? e)))
end Go.Proofs.YtciljbnailobgaaGreat
