/- Texts of a proof, laid together. -/
import Derived.Test.YtciljbnailobgaaGreatV12
import Derived.Test.YtciljbnailobgaaGreatV07
import Derived.Test.YtciljbnailobgaaGreatV02
import Derived.Laws.AppendOwn
import Derived.Deep.RegionHeld3
namespace Go.Proofs.YtciljbnailobgaaGreat
open Go.ChangeShapes Go.WideShapes Go.ChangeAt Go.RowKit
set_option linter.unusedVariables false
set_option linter.unusedSimpArgs false
set_option maxRecDepth 4000
theorem stepsC_one : ∀ (l : List Stp), ∀ u ∈ stepsC l, u.oneCell' = true
  | [], u, h => by simp [stepsC] at h
  | s :: l, u, h => by
    rw [stepsC] at h
    rcases List.mem_append.1 h with h | h
    · simp [stC] at h
      rcases h with rfl | rfl | rfl | rfl <;> rfl
    · exact stepsC_one l u h
theorem SRow.one {w : World} {z : Nat} {u : Stp} (h : Blk w z #[.int .i64 u.1, .int .i64 u.2.1, .int .i64 u.2.2.1, .bool u.2.2.2] 55) : SRow w z [u] := ⟨_, h, by simp [stepsC, stC], by simp [stepsC, stC]⟩
theorem PRow.one {w : World} {z : Nat} {u : PP} (h : Blk w z #[pl0 u, pl1 u, pl2 u] 44) : PRow w z [u] := ⟨_, h, by simp [plsC, plC], by simp [plsC, plC]⟩
theorem OSt.push {lo hi : Nat} {w w' : World} {base : Nat} {v : Value} {l : List PP} {a : Option Addr} {m : List Stp} (h : OSt lo hi w a m) (hO : OwnP w base v l) (hk : ∀ k, k < w.heap.size → v.ownBlock ≠ some k → w'.heap[k]? = w.heap[k]?) : OSt lo hi w' a m := by
  rcases h with h | ⟨g, e, h1, h2, r⟩
  · exact .inl h
  · exact .inr ⟨g, e, h1, h2, r.push hO (by decide) hk⟩
theorem step_appT {ops : Array Oper} {o : Oper} {a : Act} {w : World} {K : Act → World → Prop} {Q : Exit → Act → World → Prop} {E : Prop} (hgd : o.guard = none) (s x : Operand)
    (ho : o.op = .call { callee := .builtin .append, args := #[s, x], argTypes := #[42, 42] })
    (base : Nat) (v : Value) (D : List Stp) (hs : a.eval s = v) (hown : OwnT w base v D) (gx m c : Nat) (ys : List Stp) (hx : a.eval x = .slice (some ⟨gx, 0, none⟩) m c) (hm : ys.length = m) (hr : SRow w gx ys)
    (hl : D.length + m ≤ 1048576) (hbase : base ≤ w.heap.size)
    (h : ∀ v' w', OwnT w' base v' (D ++ ys) → Below base w w' → (∀ k, k < w.heap.size → v.ownBlock ≠ some k → w'.heap[k]? = w.heap[k]?) → K (a.put o.dst v') w') :
    if Region.wanted o (yielded ops a.tmps) = true then Oper.wp Tryz.prog o a w K Q else E := by
  have hw : Region.wanted o (yielded ops a.tmps) = true := by simp [Region.wanted, hgd]
  rw [if_pos hw]
  obtain ⟨i0, hi, hz0, hz1, hz2⟩ := info_parts infoStp
  have hown0 : w.ownsRow base 55 4 v D.length (stepsC D) := hown
  refine wp_append_own w s x 42 ho base 55 i0 _ 4 32 Tryz.underlying42 hi hz0 hz1 hz2 rfl (by decide) v D.length (stepsC D) hs hown0 ⟨gx, 0, none⟩ m c (stepsC ys) hx (by rw [stepsC_length, hm]) ?_ (stepsC_one ys) (by unfold maxLen; omega) (by omega) hbase ?_
  · intro j u hj
    rw [show (⟨gx, 0, none⟩ : Addr).add j = ⟨gx, j, none⟩ from by unfold Addr.add; split <;> simp_all]
    exact hr.cell j u hj
  · intro v' w' hown' hgrow _
    refine h v' w' ?_ ((Below.refl base w).grown hgrow hbase (fun k hk => (hown0.lt k hk).1)) (fun k hk hne => hgrow.block k hk (fun hh => hne hh.symm))
    show w'.ownsRow base 55 4 _ (D ++ ys).length (stepsC (D ++ ys))
    rw [List.length_append, stepsC_append, hm]
    exact hown'
theorem step_appP {ops : Array Oper} {o : Oper} {a : Act} {w : World} {K : Act → World → Prop} {Q : Exit → Act → World → Prop} {E : Prop} (hgd : o.guard = none) (s x : Operand)
    (ho : o.op = .call { callee := .builtin .append, args := #[s, x], argTypes := #[33, 33] })
    (base : Nat) (v : Value) (D : List PP) (hs : a.eval s = v) (hown : OwnP w base v D) (gx c : Nat) (u : PP) (hx : a.eval x = .slice (some ⟨gx, 0, none⟩) 1 c) (hr : PRow w gx [u])
    (hl : D.length ≤ 1048575) (hbase : base ≤ w.heap.size)
    (h : ∀ v' w', OwnP w' base v' (D ++ [u]) → Below base w w' → (∀ k, k < w.heap.size → v.ownBlock ≠ some k → w'.heap[k]? = w.heap[k]?) → K (a.put o.dst v') w') :
    if Region.wanted o (yielded ops a.tmps) = true then Oper.wp Tryz.prog o a w K Q else E := by
  have hw : Region.wanted o (yielded ops a.tmps) = true := by simp [Region.wanted, hgd]
  rw [if_pos hw]
  obtain ⟨i0, hi, hz0, hz1, hz2⟩ := info_parts infoPly
  have hown0 : w.ownsRow base 44 3 v D.length (plsC D) := hown
  refine wp_append_own w s x 33 ho base 44 i0 _ 3 72 Tryz.underlying33 hi hz0 hz1 hz2 rfl (by decide) v D.length (plsC D) hs hown0 ⟨gx, 0, none⟩ 1 c (plsC [u]) hx (by simp [plsC, plC]) ?_ (fun y hy => by simp [plsC, plC] at hy; rcases hy with rfl | rfl | rfl <;> rfl) (by unfold maxLen; omega) (by omega) hbase ?_
  · intro j y hj
    rw [show (⟨gx, 0, none⟩ : Addr).add j = ⟨gx, j, none⟩ from by unfold Addr.add; split <;> simp_all]
    exact hr.cell j y hj
  · intro v' w' hown' hgrow _
    refine h v' w' ?_ ((Below.refl base w).grown hgrow hbase (fun k hk => (hown0.lt k hk).1)) (fun k hk hne => hgrow.block k hk (fun hh => hne hh.symm))
    show w'.ownsRow base 44 3 _ (D ++ [u]).length (plsC (D ++ [u]))
    rw [List.length_append, plsC_append]
    exact hown'
def midP (P : Nat) (h d : Int) (L : List Ply) (i : Nat) (p : Ply) (T : List Stp) (k : Nat) : List Ply := addAll (addAll [] ((L.take i).flatMap (cand P h d))) ((T.take k).map (oneMore P p))
theorem midP_zero (P : Nat) (h d : Int) (L : List Ply) (i : Nat) (p : Ply) (T : List Stp) : midP P h d L i p T 0 = addAll [] ((L.take i).flatMap (cand P h d)) := by simp [midP, addAll]
theorem midP_succ (P : Nat) (h d : Int) (L : List Ply) (i : Nat) (p : Ply) (T : List Stp) (k : Nat) (t : Stp) (ht : T[k]? = some t) : midP P h d L i p T (k + 1) = addP (midP P h d L i p T k) (oneMore P p t) := by
  unfold midP
  rw [List.take_add_one, ht]
  simp only [Option.toList_some, List.map_append, List.map_cons, List.map_nil]
  rw [addAll_snoc]
theorem midP_end (P : Nat) (h d : Int) (L : List Ply) (i : Nat) (p : Ply) (hp : L[i]? = some p) : midP P h d L i p (legL P h p.2.1 p.2.2 d) (legL P h p.2.1 p.2.2 d).length = addAll [] ((L.take (i + 1)).flatMap (cand P h d)) := by
  unfold midP
  rw [List.take_length, List.take_add_one, hp]
  simp only [Option.toList_some, List.flatMap_append, List.flatMap_cons, List.flatMap_nil, List.append_nil]
  rw [addAll_append]
  rfl
theorem midP_mem {P : Nat} {h d : Int} {L : List Ply} {i : Nat} {p : Ply} {k : Nat} {q : Ply} (hq : q ∈ midP P h d L i p (legL P h p.2.1 p.2.2 d) k) : (∃ p' ∈ L, q ∈ cand P h d p') ∨ q ∈ cand P h d p := by
  unfold midP at hq
  rcases addAll_mem hq with hq | hq
  · rcases addAll_mem hq with hq | hq
    · simp at hq
    · obtain ⟨p', hp, hq⟩ := List.mem_flatMap.1 hq
      exact .inl ⟨p', List.mem_of_mem_take hp, hq⟩
  · obtain ⟨t, ht, rfl⟩ := List.mem_map.1 hq
    exact .inr (List.mem_map.2 ⟨t, List.mem_of_mem_take ht, rfl⟩)
theorem midP_fine {P : Nat} {c h s d : Int} {L : List Ply} {i : Nat} {p : Ply} {k : Nat} (g : Fine (P : Int) c h s L) (hp : L[i]? = some p) (hd : inB d 1 s = true) : Fine (P : Int) c h s (midP P h d L i p (legL P h p.2.1 p.2.2 d) k) := by
  intro q hq
  rcases midP_mem hq with ⟨p', hp', hq⟩ | hq
  · exact cand_fine (g p' hp') hd q hq
  · exact cand_fine (g p (List.mem_of_getElem? hp)) hd q hq
theorem midP_length (P : Nat) (h d : Int) (L : List Ply) (i : Nat) (p : Ply) (k : Nat) : (midP P h d L i p (legL P h p.2.1 p.2.2 d) k).length ≤ (L.length + 1) * (P + 1) := by
  unfold midP
  have h1 := addAll_length (((legL P h p.2.1 p.2.2 d).take k).map (oneMore P p)) (addAll [] ((L.take i).flatMap (cand P h d)))
  have h2 := addAll_length ((L.take i).flatMap (cand P h d)) []
  have h3 := flat_length P h d (L.take i)
  have h4 := legL_length P h p.2.1 p.2.2 d
  rw [List.length_map, List.length_take] at h1
  rw [List.length_nil] at h2
  rw [List.length_take] at h3
  have h5 : min i L.length * (P + 1) ≤ L.length * (P + 1) := Nat.mul_le_mul_right _ (by omega)
  rw [Nat.add_mul]
  omega
def PlaysGot (ps : List Ply) (w : World) (e : Ending) (w' : World) : Prop :=
  ∃ (a : Option Addr) (k : Nat) (l : List PP), e = .returned (.slice a l.length k) ∧ l.map Prod.snd = ps ∧ OPl w.heap.size w'.heap.size w' a l ∧ PAll w.heap.size w'.heap.size w' l ∧ (∀ x ∈ l, ∃ g, x.1.sa = some ⟨g, 0, none⟩) ∧ Below w.heap.size w w'
theorem from_drew {w w' : World} (h : Below w.drew.heap.size w.drew w') : Below w.heap.size w w' := (Below.refl _ _).drew.trans h
set_option maxRecDepth 8000 in
set_option maxHeartbeats 2000000 in
theorem l05Next_any (P : Nat) (c h s : Int) (lo hi : Nat) (a : Option Addr) (n cap : Nat) (l : List PP) (d : Int) (w : World) (hn : l.length = n) (hle : n ≤ 40000) (hP : OPl lo hi w a l) (hA : PAll lo hi w l) (hSA : ∀ x ∈ l, ∃ g, x.1.sa = some ⟨g, 0, none⟩) (hSL : ∀ x ∈ l, x.2.1.length ≤ 1000)
    (p1 : P ≤ 24) (hF : Fine (P : Int) c h s (l.map Prod.snd)) (hd : inB d 1 s = true) :
    Calls Tryz.prog 85 #[.agg #[.int .i64 (P : Int), .int .i64 c, .int .i64 h, .int .i64 s], .slice a n cap, .int .i64 d] w (PlaysGot (nextP P h d (l.map Prod.snd)) w) := by
  subst hn
  obtain ⟨L, hL⟩ : ∃ L, l.map Prod.snd = L := ⟨_, rfl⟩
  rw [hL] at hF ⊢
  have hLl : L.length = l.length := by rw [← hL, List.length_map]
  have hd' : 1 ≤ d ∧ d ≤ s := by simpa [inB] using hd
  obtain ⟨R, hR⟩ : ∃ R, nextP P h d L = R := ⟨_, rfl⟩
  rw [hR]
  have HR := Lib.hid hR
  have HL := Lib.hid hL
  have HF := Lib.hid hF
  have HD := Lib.hid hd
  have HSA := Lib.hid hSA
  have HSL := Lib.hid hSL
  clear hR hL hF hd hSA hSL
  have BV := Blk.new w #[.int .i64 (P : Int), .int .i64 c, .int .i64 h, .int .i64 s] 25
  have hb : Below w.heap.size w (w.alloc (.cells #[.int .i64 (P : Int), .int .i64 c, .int .i64 h, .int .i64 s] 25)) := (Below.refl _ _).alloc (Nat.le_refl _) _
  replace hP := hP.below hb
  replace hA := hA.below hb
  have hlB := BV.lt
  have hz0 : (w.alloc (.cells #[.int .i64 (P : Int), .int .i64 c, .int .i64 h, .int .i64 s] 25)).heap.size = w.heap.size + 1 := by simp
  go_enter Tryz.func85, Tryz.ntmps85
  go_wp2_with fail
  generalize (w.alloc (.cells #[.int .i64 (P : Int), .int .i64 c, .int .i64 h, .int .i64 s] 25)) = v0 at *
  have HZ0 := Lib.hid hz0
  have hz0a : w.heap.size + 1 ≤ v0.heap.size := by omega
  clear hz0
  go_loopg [7, 8, 9, 10, 11] l.length (fun m q7 q8 q9 q10 q11 wr => ∃ (i : Nat) (D : List PP), i ≤ l.length ∧ m = l.length - i ∧ q8 = .int .i64 i ∧ OwnP wr v0.heap.size q7 D ∧ PAll v0.heap.size wr.heap.size wr D ∧ D.map Prod.snd = addAll [] ((L.take i).flatMap (cand P h d)) ∧ (∀ x ∈ D, ∃ g, x.1.sa = some ⟨g, 0, none⟩) ∧ Below v0.heap.size v0 wr)
  case atStart => exact ⟨0, [], by omega, by omega, rfl, by have q := OwnP.start v0; rw [HZ0.out] at q ⊢; exact q, PAll.nil _ _ _, by simp [addAll], by simp, (Below.refl _ _).alloc (Nat.le_refl _) _⟩
  case round =>
    obtain ⟨i, D, hi', hm, rfl, hO, hPA, hDm, hDs, hbel⟩ := hrel
    by_cases hlt : i < l.length
    · have hlt' : (i : Int) < (l.length : Int) := by omega
      have hi0 : (0 : Int) ≤ (i : Int) := by omega
      obtain ⟨x, hx⟩ : ∃ x, l[i]? = some x := ⟨_, List.getElem?_eq_getElem hlt⟩
      have hmem := List.mem_of_getElem? hx
      have hLi : L[i]? = some x.2 := by rw [← HL.out, List.getElem?_map, hx]; rfl
      obtain ⟨g, ea, Rw⟩ := hP.row hlt
      obtain ⟨u0, u1, u2⟩ := Rw.three i x hx
      have hgx := HF.out x.2 (List.mem_of_getElem? hLi)
      have HGX0 := hgx
      have hAx := hA x hmem
      have hSx := HSA.out x hmem
      have hSlx := HSL.out x hmem
      obtain ⟨p0, -, k0, k1, k2, k3, N1, N2, hxx, hyy, s0, s1, s2, s3⟩ := isB_parts hgx
      have hs6 := (isB_sides hgx).2
      have hlg := fun W (hW : Below wr.heap.size wr W) => l04Legal_any P c h s x.1.b1 x.1.b2 x.2.2.1.length x.2.2.2.length x.1.k1 x.1.k2 x.2.2.1 x.2.2.2 W rfl rfl (by omega) (by omega) (by omega) (by omega) (by omega) (by omega) hxx hyy ((hAx.below hbel).2.below hW).irow1 ((hAx.below hbel).2.below hW).irow2 d (by omega) (by omega)
      have hTl := legL_length P h x.2.2.1 x.2.2.2 d
      have hap := fun (t : Stp) (gl : legB P h s x.2.2.1 x.2.2.2 t = true) W (hW : Below v0.heap.size v0 W) => l04Apply_any P c h s x.1.b1 x.1.b2 x.2.2.1.length x.2.2.2.length x.1.k1 x.1.k2 x.2.2.1 x.2.2.2 W rfl rfl (by omega) (by omega) (by omega) (by omega) (by omega) (by omega) hxx hyy (hAx.below hW).2.irow1 (hAx.below hW).2.irow2 t gl
      have hmz := fun T => midP_zero P h d L i x.2 T
      have hms := fun T k t (ht : T[k]? = some t) => midP_succ P h d L i x.2 T k t ht
      have hme := midP_end P h d L i x.2 hLi
      have hmf := fun k => midP_fine (k := k) HF.out hLi HD.out
      have hml := fun k => midP_length P h d L i x.2 k
      have hleg := fun t (ht : t ∈ legL P h x.2.2.1 x.2.2.2 d) => legL_leg hgx HD.out ht
      obtain ⟨⟨sa, sc, e1, f1, e2, f2⟩, st, X, Y⟩ := x
      dsimp only at HGX0 hlg hTl hap hmz hms hme hmf hml hleg hSx hSlx u0 u1 u2 hAx
      obtain ⟨T, hT⟩ : ∃ T, legL P h X Y d = T := ⟨_, rfl⟩
      rw [hT] at hlg hTl hme hmf hml hleg
      have HGX := Lib.hid HGX0
      clear HGX0
      have HLG := Lib.hid hlg
      have HAP0 := Lib.hid hap
      have HMZ := Lib.hid hmz
      have HMS := Lib.hid hms
      have HME := Lib.hid hme
      have HMF := Lib.hid hmf
      have HML := Lib.hid hml
      have HLE := Lib.hid hleg
      have HDM := Lib.hid hDm
      have HAX := Lib.hid hAx
      subst ea
      clear hlg hap hmz hms hme hmf hml hleg hT hDm hx hmem hLi Rw hgx hxx hyy hAx N1 N2 s0 s1 s2 s3
      obtain ⟨x0, x1, x2, x3, xf, xl⟩ := (BV.below hbel).four
      go_wp2_with fail
      clear x0 x1 x2 x3 xf xl
      refine wp_region_held_drew (S := fun w' => w'.cell? ⟨w.heap.size, 0, none⟩ = some (.int .i64 (P : Int)) ∧ w'.cell? ⟨w.heap.size, 1, none⟩ = some (.int .i64 c) ∧ w'.cell? ⟨w.heap.size, 2, none⟩ = some (.int .i64 h) ∧ w'.cell? ⟨w.heap.size, 3, none⟩ = some (.int .i64 s) ∧ w'.cell? ⟨g, i * 3 + 1, none⟩ = some (.slice e1 X.length f1) ∧ w'.cell? ⟨g, i * 3 + 2, none⟩ = some (.slice e2 Y.length f2)) (by kernel_rfl) ⟨(BV.below (chain hbel (Below.refl _ _).drew)).four.1, (BV.below (chain hbel (Below.refl _ _).drew)).four.2.1, (BV.below (chain hbel (Below.refl _ _).drew)).four.2.2.1, (BV.below (chain hbel (Below.refl _ _).drew)).four.2.2.2.1, CellIs.below u1 (chain hbel (Below.refl _ _).drew), CellIs.below u2 (chain hbel (Below.refl _ _).drew)⟩ (fun hHeld => ?_)
      refine tk 0 19 ?_
      refine tk 1 20 ?_
      refine tk 2 21 ?_
      refine tk 3 22 ?_
      refine tk 4 23 ?_
      refine tk 5 24 ?_
      refine tk 6 25 ?_
      refine rdk 7 26 fun K hK => ?_
      go_simp
      refine (HLG.out _ (Below.refl _ _).drew).mono ?_
      rintro e w5 ⟨aT, kT, rfl, OT, hb5⟩
      have hb5 := from_drew hb5
      (try go_wp2_with fail)
      refine hko hK (Blk.f4 (BV.below (chain hbel hb5)) ⟨CellIs.below u1 (chain hbel hb5), CellIs.below u2 (chain hbel hb5)⟩) fun hHeld => ?_
      clear hK K
      refine tk 8 9 ?_
      refine wpAnyH_done (by kernel_rfl) ?_ _
      clear hHeld
      have hO5 := hO.below hb5
      have hPA5 := (hPA.below hb5).mono (Nat.le_refl _) hb5.size
      have hbel5 := chain hbel hb5
      have hwz := hbel.size
      have OT5 : OSt v0.heap.size w5.heap.size w5 aT T := OT.mono hwz (Nat.le_refl _)
      clear hO hPA OT hb5 HLG hbel
      go_wp2_with fail
      go_loopg [7, 10, 11] T.length (fun m q7 q10 q11 wr => ∃ (k : Nat) (D : List PP), k ≤ T.length ∧ m = T.length - k ∧ q10 = .int .i64 k ∧ OwnP wr v0.heap.size q7 D ∧ PAll v0.heap.size wr.heap.size wr D ∧ D.map Prod.snd = midP P h d L i (st, X, Y) T k ∧ (∀ x ∈ D, ∃ g, x.1.sa = some ⟨g, 0, none⟩) ∧ OSt v0.heap.size wr.heap.size wr aT T ∧ Below v0.heap.size v0 wr)
      case atStart => exact ⟨0, D, by omega, by omega, rfl, hO5, hPA5, by rw [HMZ.out, HDM.out], hDs, OT5, hbel5⟩
      case round =>
        clear hO5 hPA5 OT5 hbel5 HDM hDs
        obtain ⟨k, D, hk, hm2, rfl, hO, hPA, hDk, hDs, OT, hbel⟩ := hrel
        by_cases hlk : k < T.length
        · have hlk' : (k : Int) < (T.length : Int) := by omega
          have hk0 : (0 : Int) ≤ (k : Int) := by omega
          obtain ⟨t, ht⟩ : ∃ t, T[k]? = some t := ⟨_, List.getElem?_eq_getElem hlk⟩
          have gl := HLE.out t (List.mem_of_getElem? ht)
          have hap := fun W (hW : Below v0.heap.size v0 W) => HAP0.out t gl W hW
          obtain ⟨gT, ea, RT⟩ := OT.row hlk
          subst ea
          obtain ⟨s0, s1, s2, s3⟩ := RT.four k t ht
          obtain ⟨g6, e6⟩ := hSx
          have R6 : SRow v0 g6 st := by
            rcases HAX.out.1 with ⟨h, _⟩ | ⟨g', e, _, _, r⟩
            · rw [e6] at h; simp at h
            · rw [e6] at e
              simp at e
              subst e
              exact r
          subst e6
          have hml := HML.out k
          have hmf := HMF.out k
          rw [← hDk] at hml hmf
          rw [List.length_map, hLl] at hml
          have hDl : D.length ≤ 1000025 := by
            have h1 : (l.length + 1) * (P + 1) ≤ 40001 * 25 := Nat.mul_le_mul (by omega) (by omega)
            omega
          have hlen : ∀ x ∈ D, x.2.2.1.length ≤ 1048576 ∧ x.2.2.2.length ≤ 1048576 := fun x hx => by
            have g1 := hmf x.2 (List.mem_map.2 ⟨x, hx, rfl⟩)
            obtain ⟨-, -, -, -, -, -, m1, m2, -, -, -, -, -, -⟩ := isB_parts g1
            omega
          have hom : oneMore P (st, X, Y) t = (st ++ [t], mvX X t.1 t.2.1 1, mvY P Y t.2.1 t.2.2.2 1) := rfl
          have hX2l : (mvX X t.1 t.2.1 1).length ≤ 1048576 := by
            rw [mvX_length]
            have g1 := isB_parts HGX.out
            omega
          have hY2l : (mvY P Y t.2.1 t.2.2.2 1).length ≤ 1048576 := by
            rw [mvY_length]
            have g1 := isB_parts HGX.out
            omega
          obtain ⟨X2, hX2⟩ : ∃ z, mvX X t.1 t.2.1 1 = z := ⟨_, rfl⟩
          obtain ⟨Y2, hY2⟩ : ∃ z, mvY P Y t.2.1 t.2.2.2 1 = z := ⟨_, rfl⟩
          rw [hX2] at hap hom hX2l
          rw [hY2] at hap hom hY2l
          obtain ⟨t1, t2, t3, t4⟩ := t
          dsimp only at s0 s1 s2 s3
          have HAP := Lib.hid hap
          have HOM := Lib.hid hom
          have HTK := Lib.hid ht
          have HDK := Lib.hid hDk
          have HLEN := Lib.hid hlen
          clear hap hom ht hDk hlen hX2 hY2 gl hml hmf
          obtain ⟨aO, kO, rfl⟩ := hO.form
          have hst2 : st.length + 1 ≤ 1048576 := by omega
          have hwz2 := hbel.size
          obtain ⟨x0, x1, x2, x3, xf, xl⟩ := (BV.below hbel).four
          go_wp2_with fail
          clear x0 x1 x2 x3 xf xl
          refine wp_region_held_drew (S := fun w' => w'.cell? ⟨w.heap.size, 0, none⟩ = some (.int .i64 (P : Int)) ∧ w'.cell? ⟨w.heap.size, 1, none⟩ = some (.int .i64 c) ∧ w'.cell? ⟨w.heap.size, 2, none⟩ = some (.int .i64 h) ∧ w'.cell? ⟨w.heap.size, 3, none⟩ = some (.int .i64 s) ∧ w'.cell? ⟨g, i * 3 + 1, none⟩ = some (.slice e1 X.length f1) ∧ w'.cell? ⟨g, i * 3 + 2, none⟩ = some (.slice e2 Y.length f2) ∧ w'.cell? ⟨gT, k * 4, none⟩ = some (.int .i64 t1) ∧ w'.cell? ⟨gT, k * 4 + 1, none⟩ = some (.int .i64 t2) ∧ w'.cell? ⟨gT, k * 4 + 2, none⟩ = some (.int .i64 t3) ∧ w'.cell? ⟨gT, k * 4 + 3, none⟩ = some (.bool t4)) (by kernel_rfl) ⟨(BV.below (chain hbel (Below.refl _ _).drew)).four.1, (BV.below (chain hbel (Below.refl _ _).drew)).four.2.1, (BV.below (chain hbel (Below.refl _ _).drew)).four.2.2.1, (BV.below (chain hbel (Below.refl _ _).drew)).four.2.2.2.1, CellIs.below u1 (chain hbel (Below.refl _ _).drew), CellIs.below u2 (chain hbel (Below.refl _ _).drew), CellIs.below s0 (Below.refl _ _).drew, CellIs.below s1 (Below.refl _ _).drew, CellIs.below s2 (Below.refl _ _).drew, CellIs.below s3 (Below.refl _ _).drew⟩ (fun hHeld => ?_)
          clear hHeld
          have hbS : Below wr.heap.size wr wr.drew := (Below.refl _ _).drew
          have hzd := hbS.size
          generalize wr.drew = vd at *
          have hHeld : vd.cell? ⟨w.heap.size, 0, none⟩ = some (.int .i64 (P : Int)) ∧ vd.cell? ⟨w.heap.size, 1, none⟩ = some (.int .i64 c) ∧ vd.cell? ⟨w.heap.size, 2, none⟩ = some (.int .i64 h) ∧ vd.cell? ⟨w.heap.size, 3, none⟩ = some (.int .i64 s) ∧ vd.cell? ⟨g, i * 3 + 1, none⟩ = some (.slice e1 X.length f1) ∧ vd.cell? ⟨g, i * 3 + 2, none⟩ = some (.slice e2 Y.length f2) ∧ vd.cell? ⟨gT, k * 4, none⟩ = some (.int .i64 t1) ∧ vd.cell? ⟨gT, k * 4 + 1, none⟩ = some (.int .i64 t2) ∧ vd.cell? ⟨gT, k * 4 + 2, none⟩ = some (.int .i64 t3) ∧ vd.cell? ⟨gT, k * 4 + 3, none⟩ = some (.bool t4) := ⟨(BV.below (chain hbel hbS)).four.1, (BV.below (chain hbel hbS)).four.2.1, (BV.below (chain hbel hbS)).four.2.2.1, (BV.below (chain hbel hbS)).four.2.2.2.1, CellIs.below u1 (chain hbel hbS), CellIs.below u2 (chain hbel hbS), CellIs.below s0 hbS, CellIs.below s1 hbS, CellIs.below s2 hbS, CellIs.below s3 hbS⟩
          refine tk 0 33 ?_
          refine tk 1 34 ?_
          refine tk 2 35 ?_
          refine tk 3 36 ?_
          refine tk 4 37 ?_
          refine tk 5 38 ?_
          refine tk 6 39 ?_
          refine tk 7 40 ?_
          refine tk 8 41 ?_
          refine tk 9 42 ?_
          refine wpAnyH_ready (rs := [10, 11]) (by kernel_rfl) (by simp) ?_
          refine AllReadyH.cons (o := ⟨some 43, _, _, _, _, _⟩) rfl (fun K hK => ?_) (AllReadyH.cons (o := ⟨some 11, _, _, _, _, _⟩) rfl (fun K hK => ?_) AllReadyH.nil)
          · go_simp
            refine (HAP.out _ (chain hbel hbS)).mono ?_
            rintro e w8 ⟨d1, d2, k1, k2, rfl, hO, hb8⟩
            have hz8 := hb8.size
            replace hbS := chain hbS hb8
            clear hb8
            (try go_wp2_with fail)
            refine hko hK (Blk.f4 (BV.below (chain hbel hbS)) ⟨CellIs.below u1 (chain hbel hbS), CellIs.below u2 (chain hbel hbS), CellIs.below s0 hbS, CellIs.below s1 hbS, CellIs.below s2 hbS, CellIs.below s3 hbS⟩) fun hHeld => ?_
            clear hK K
            refine rdk 11 11 fun K hK => ?_
            go_simp
            have BA := Blk.new w8 #[.slice none 0 0, .slice none 0 0] 28
            have hal : Below w8.heap.size w8 (w8.alloc (.cells #[.slice none 0 0, .slice none 0 0] 28)) := (Below.refl _ _).alloc (Nat.le_refl _) _
            have hlN : w8.heap.size + 1 ≤ (w8.alloc (.cells #[.slice none 0 0, .slice none 0 0] 28)).heap.size := by simp
            have hzS := hbS.size
            replace hO := hO.below hal
            replace hbS := chain hbS hal
            clear hal
            (try go_wp2_with fail)
            refine hko hK (Blk.f4 (BV.below (chain hbel hbS)) ⟨CellIs.below u1 (chain hbel hbS), CellIs.below u2 (chain hbel hbS), CellIs.below s0 hbS, CellIs.below s1 hbS, CellIs.below s2 hbS, CellIs.below s3 hbS⟩) fun hHeld => ?_
            clear hK K
            generalize (w8.alloc (.cells #[.slice none 0 0, .slice none 0 0] 28)) = wN at *
            refine rdn 12 fun K hK => ?_
            have q0 := BA.two.1
            have q1 := BA.two.2.1
            have qf := BA.two.2.2.1
            have ql := BA.two.2.2.2
            go_simp
            (try go_wp2_with fail)
            refine hko hK (Blk.f4 (BV.below (chain hbel (below2n BA hbS (by omega) _ _))) ⟨CellIs.below u1 (chain hbel (below2n BA hbS (by omega) _ _)), CellIs.below u2 (chain hbel (below2n BA hbS (by omega) _ _)), CellIs.below s0 (below2n BA hbS (by omega) _ _), CellIs.below s1 (below2n BA hbS (by omega) _ _), CellIs.below s2 (below2n BA hbS (by omega) _ _), CellIs.below s3 (below2n BA hbS (by omega) _ _)⟩) fun hHeld => ?_
            clear hK K
            refine wpAnyH_done (by kernel_rfl) ?_ _
            have hbS2 := below2n BA hbS (by omega) (.slice d1 X2.length k1) (.slice d2 Y2.length k2)
            have BB2 := (BA.set (i := 0) (.slice d1 X2.length k1)).set (i := 1) (.slice d2 Y2.length k2)
            have hO2 := (hO.other (B := w8.heap.size) (o := 0) (v := .slice d1 X2.length k1) (by omega)).other (B := w8.heap.size) (o := 1) (v := .slice d2 Y2.length k2) (by omega)
            clear BA hO hbS hHeld
            have hs9 : ((wN.setCell ⟨w8.heap.size, 0, none⟩ (.slice d1 X2.length k1)).setCell ⟨w8.heap.size, 1, none⟩ (.slice d2 Y2.length k2)).heap.size = wN.heap.size := by simp
            have hO3 : OBd v0.heap.size ((wN.setCell ⟨w8.heap.size, 0, none⟩ (.slice d1 X2.length k1)).setCell ⟨w8.heap.size, 1, none⟩ (.slice d2 Y2.length k2)).heap.size ((wN.setCell ⟨w8.heap.size, 0, none⟩ (.slice d1 X2.length k1)).setCell ⟨w8.heap.size, 1, none⟩ (.slice d2 Y2.length k2)) d1 d2 X2 Y2 := hO2.mono (by omega) (by omega)
            have hBv : v0.heap.size ≤ w8.heap.size := by omega
            clear hO2 hs9
            obtain ⟨bb, hbb⟩ : ∃ b, w8.heap.size = b := ⟨_, rfl⟩
            rw [hbb] at BB2 hO3 hbS2 hBv ⊢
            generalize ((wN.setCell ⟨bb, 0, none⟩ (.slice d1 X2.length k1)).setCell ⟨bb, 1, none⟩ (.slice d2 Y2.length k2)) = w9 at *
            clear hbb
            replace hO := hO.below hbS2
            replace hPA := (hPA.below hbS2).mono (Nat.le_refl _) hbS2.size
            replace OT := (OT.below hbS2).mono (Nat.le_refl _) hbS2.size
            replace RT := RT.below hbS2
            replace hbel := chain hbel hbS2
            have hfd := l05Find_any v0.heap.size w9.heap.size aO D.length kO D d1 d2 X2.length Y2.length k1 k2 X2 Y2 w9 rfl (by omega) hO.opl hPA HLEN.out rfl rfl hX2l hY2l hO3.irow1 hO3.irow2
            have hneg := findP_neg (X2, Y2) (D.map Prod.snd) 0
            obtain ⟨FV, hFV⟩ : ∃ z, findP (X2, Y2) (D.map Prod.snd) 0 = z := ⟨_, rfl⟩
            rw [hFV] at hfd hneg
            have HNEG := Lib.hid hneg
            clear hFV hneg hbS2
            obtain ⟨q0, q1, qf, ql⟩ := BB2.two
            go_wp2_with fail
            clear q0 q1 qf ql
            refine hfd.mono ?_
            rintro e w10 ⟨rfl, hb10⟩
            clear hfd
            have OO := hO.below hb10
            replace hPA := (hPA.below hb10).mono (Nat.le_refl _) hb10.size
            replace OT := (OT.below hb10).mono (Nat.le_refl _) hb10.size
            replace RT := RT.below hb10
            have BB := BB2.below hb10
            replace hO3 := (hO3.below hb10).mono (Nat.le_refl _) hb10.size
            replace hbel := chain hbel hb10
            have hzv := hbel.size
            obtain ⟨s0, s1, s2, s3⟩ := SRow.four RT k _ HTK.out
            dsimp only at s0 s1 s2 s3
            clear hO BB2 hb10
            by_cases hF0 : FV < 0
            · have hng := HNEG.out.1 hF0
              have HNG := Lib.hid hng
              clear hng
              go_wp2_with fail
              refine wp_region_held_drew (S := fun w' => w'.cell? ⟨g, i * 3, none⟩ = some (.slice (some ⟨g6, 0, none⟩) st.length sc) ∧ w'.cell? ⟨gT, k * 4, none⟩ = some (.int .i64 t1) ∧ w'.cell? ⟨gT, k * 4 + 1, none⟩ = some (.int .i64 t2) ∧ w'.cell? ⟨gT, k * 4 + 2, none⟩ = some (.int .i64 t3) ∧ w'.cell? ⟨gT, k * 4 + 3, none⟩ = some (.bool t4) ∧ w'.cell? ⟨bb, 0, none⟩ = some (.slice d1 X2.length k1) ∧ w'.cell? ⟨bb, 1, none⟩ = some (.slice d2 Y2.length k2)) (by kernel_rfl) ⟨CellIs.below u0 (chain hbel (Below.refl _ _).drew), CellIs.below s0 (Below.refl _ _).drew, CellIs.below s1 (Below.refl _ _).drew, CellIs.below s2 (Below.refl _ _).drew, CellIs.below s3 (Below.refl _ _).drew, (BB.below (Below.refl _ _).drew).two.1, (BB.below (Below.refl _ _).drew).two.2.1⟩ (fun hHeld => ?_)
              clear hHeld
              have hbS : Below w10.heap.size w10 w10.drew := (Below.refl _ _).drew
              have hzd := hbS.size
              generalize w10.drew = vd at *
              have hHeld : vd.cell? ⟨g, i * 3, none⟩ = some (.slice (some ⟨g6, 0, none⟩) st.length sc) ∧ vd.cell? ⟨gT, k * 4, none⟩ = some (.int .i64 t1) ∧ vd.cell? ⟨gT, k * 4 + 1, none⟩ = some (.int .i64 t2) ∧ vd.cell? ⟨gT, k * 4 + 2, none⟩ = some (.int .i64 t3) ∧ vd.cell? ⟨gT, k * 4 + 3, none⟩ = some (.bool t4) ∧ vd.cell? ⟨bb, 0, none⟩ = some (.slice d1 X2.length k1) ∧ vd.cell? ⟨bb, 1, none⟩ = some (.slice d2 Y2.length k2) := ⟨CellIs.below u0 (chain hbel hbS), CellIs.below s0 hbS, CellIs.below s1 hbS, CellIs.below s2 hbS, CellIs.below s3 hbS, (BB.below hbS).two.1, (BB.below hbS).two.2.1⟩
              refine tk 0 48 ?_
              refine tk 2 50 ?_
              refine tk 3 51 ?_
              refine tk 4 52 ?_
              refine tk 5 53 ?_
              refine tk 6 54 ?_
              refine tk 8 56 ?_
              refine tk 9 57 ?_
              refine tk 10 58 ?_
              refine tk 11 59 ?_
              refine tk 14 62 ?_
              refine wpAnyH_ready (rs := [1, 12]) (by kernel_rfl) (by simp) ?_
              refine AllReadyH.cons (o := ⟨some 49, _, _, _, _, _⟩) rfl (fun K hK => ?_) (AllReadyH.cons (o := ⟨some 60, _, _, _, _, _⟩) rfl (fun K hK => ?_) AllReadyH.nil)
              · go_simp
                (try go_wp2_with fail)
                refine hko hK ⟨CellIs.below u0 (chain hbel (hbS.alloc hbS.size _)), CellIs.below s0 (hbS.alloc hbS.size _), CellIs.below s1 (hbS.alloc hbS.size _), CellIs.below s2 (hbS.alloc hbS.size _), CellIs.below s3 (hbS.alloc hbS.size _), (Blk.l2 (BB.below (hbS.alloc hbS.size _)))⟩ fun hHeld => ?_
                clear hK K
                have OE := OwnT.start vd
                have hzE : vd.heap.size + 1 ≤ (vd.alloc (.cells #[] 55)).heap.size ∧ (vd.alloc (.cells #[] 55)).heap.size ≤ vd.heap.size + 1 := ⟨by simp, by simp⟩
                have hzS := hbS.size
                replace hbS := hbS.alloc hbS.size (.cells #[] 55)
                generalize (vd.alloc (.cells #[] 55)) = wE at *
                refine wpAnyH_ready (rs := [7, 12]) (by kernel_rfl) (by simp) ?_
                refine AllReadyH.cons (o := ⟨some 55, _, _, _, _, _⟩) rfl (fun K hK => ?_) (AllReadyH.cons (o := ⟨some 60, _, _, _, _, _⟩) rfl (fun K hK => ?_) AllReadyH.nil)
                · refine step_appT rfl (.tmp 49) (.tmp 54) rfl vd.heap.size (.slice (some ⟨vd.heap.size, 0, none⟩) 0 0) [] rfl OE g6 st.length sc st rfl rfl (R6.below (chain hbel hbS)) (by simp; omega) (by omega) ?_
                  intro va w7 hO7 hb7 hk7
                  have hz7 := hb7.size
                  replace hbS := hbS.trans (hb7.mono (by omega))
                  rw [List.nil_append] at hO7
                  clear OE
                  have OE := hO7
                  obtain ⟨a55, k55, rfl⟩ := OE.form
                  clear hO7 hb7 hk7
                  refine hko hK ⟨CellIs.below u0 (chain hbel hbS), CellIs.below s0 hbS, CellIs.below s1 hbS, CellIs.below s2 hbS, CellIs.below s3 hbS, (Blk.l2 (BB.below hbS))⟩ fun hHeld => ?_
                  clear hK K
                  refine rdk 12 60 fun K hK => ?_
                  go_simp
                  (try go_wp2_with fail)
                  refine hko hK ⟨CellIs.below u0 (chain hbel (hbS.alloc hbS.size _)), CellIs.below s0 (hbS.alloc hbS.size _), CellIs.below s1 (hbS.alloc hbS.size _), CellIs.below s2 (hbS.alloc hbS.size _), CellIs.below s3 (hbS.alloc hbS.size _), (Blk.l2 (BB.below (hbS.alloc hbS.size _)))⟩ fun hHeld => ?_
                  clear hK K
                  have BL := Blk.new w7 #[.int .i64 t1, .int .i64 t2, .int .i64 t3, .bool t4] 55
                  have hzL : w7.heap.size + 1 ≤ (w7.alloc (.cells #[.int .i64 t1, .int .i64 t2, .int .i64 t3, .bool t4] 55)).heap.size ∧ (w7.alloc (.cells #[.int .i64 t1, .int .i64 t2, .int .i64 t3, .bool t4] 55)).heap.size ≤ w7.heap.size + 1 := ⟨by simp, by simp⟩
                  replace OE := OE.alloc (.cells #[.int .i64 t1, .int .i64 t2, .int .i64 t3, .bool t4] 55)
                  have hzS2 := hbS.size
                  replace hbS := hbS.alloc hbS.size (.cells #[.int .i64 t1, .int .i64 t2, .int .i64 t3, .bool t4] 55)
                  generalize (w7.alloc (.cells #[.int .i64 t1, .int .i64 t2, .int .i64 t3, .bool t4] 55)) = wL at *
                  refine rdk 13 61 fun K hK => ?_
                  refine step_appT rfl (.tmp 55) (.tmp 60) rfl vd.heap.size _ st rfl OE w7.heap.size 1 1 [(t1, t2, t3, t4)] rfl rfl (SRow.one (u := (t1, t2, t3, t4)) BL) (by omega) (by omega) ?_
                  intro va w13 hO13 hb13 hk13
                  have hz13 := hb13.size
                  replace hbS := hbS.trans (hb13.mono (by omega))
                  clear OE BL
                  have OE := hO13
                  obtain ⟨a61, k61, rfl⟩ := OE.form
                  clear hO13 hb13 hk13
                  refine hko hK ⟨CellIs.below u0 (chain hbel hbS), CellIs.below s0 hbS, CellIs.below s1 hbS, CellIs.below s2 hbS, CellIs.below s3 hbS, (Blk.l2 (BB.below hbS))⟩ fun hHeld => ?_
                  clear hK K
                  refine tk 15 63 ?_
                  refine rdk 16 64 fun K hK => ?_
                  go_simp
                  (try go_wp2_with fail)
                  refine hko hK ⟨CellIs.below u0 (chain hbel (hbS.alloc hbS.size _)), CellIs.below s0 (hbS.alloc hbS.size _), CellIs.below s1 (hbS.alloc hbS.size _), CellIs.below s2 (hbS.alloc hbS.size _), CellIs.below s3 (hbS.alloc hbS.size _), (Blk.l2 (BB.below (hbS.alloc hbS.size _)))⟩ fun hHeld => ?_
                  clear hK K
                  have BP := Blk.new w13 #[.slice a61 (st.length + 1) k61, .slice d1 X2.length k1, .slice d2 Y2.length k2] 44
                  have hzP : w13.heap.size + 1 ≤ (w13.alloc (.cells #[.slice a61 (st.length + 1) k61, .slice d1 X2.length k1, .slice d2 Y2.length k2] 44)).heap.size ∧ (w13.alloc (.cells #[.slice a61 (st.length + 1) k61, .slice d1 X2.length k1, .slice d2 Y2.length k2] 44)).heap.size ≤ w13.heap.size + 1 := ⟨by simp, by simp⟩
                  replace OE := OE.alloc (.cells #[.slice a61 (st.length + 1) k61, .slice d1 X2.length k1, .slice d2 Y2.length k2] 44)
                  replace hbS := hbS.alloc hbS.size (.cells #[.slice a61 (st.length + 1) k61, .slice d1 X2.length k1, .slice d2 Y2.length k2] 44)
                  generalize (w13.alloc (.cells #[.slice a61 (st.length + 1) k61, .slice d1 X2.length k1, .slice d2 Y2.length k2] 44)) = wP at *
                  have hl1 : (st ++ [(t1, t2, t3, t4)]).length = st.length + 1 := by simp
                  rw [← hl1] at BP
                  clear hl1
                  refine rdk 17 65 fun K hK => ?_
                  have OOp := OO.below hbS
                  refine step_appP rfl (.tmp 48) (.tmp 64) rfl v0.heap.size _ D rfl OOp w13.heap.size 1 (⟨a61, k61, d1, k1, d2, k2⟩, (st ++ [(t1, t2, t3, t4)], X2, Y2)) rfl (PRow.one (u := (⟨a61, k61, d1, k1, d2, k2⟩, (st ++ [(t1, t2, t3, t4)], X2, Y2))) BP) (by omega) (by omega) ?_
                  intro vo w17 hO17 hb17 hk17
                  have hz17 := hb17.size
                  have hbel17 := (chain hbel hbS).trans hb17
                  have RT17 := ((RT.below hbS).push OOp (by decide) hk17 : SRow w17 gT T)
                  have BB17 : Blk w17 bb #[.slice d1 X2.length k1, .slice d2 Y2.length k2] 28 := (hk17 bb (BB.below hbS).lt (OOp.ne (BB.below hbS) (by decide))).trans (BB.below hbS)
                  have hPA17 := ((hPA.below hbS).push OOp hk17).mono (Nat.le_refl v0.heap.size) (show w10.heap.size ≤ w17.heap.size by omega)
                  have hXP : PAt v0.heap.size wP.heap.size wP (⟨a61, k61, d1, k1, d2, k2⟩, (st ++ [(t1, t2, t3, t4)], X2, Y2)) := ⟨OE.ost.mono (by omega) (Nat.le_refl _), (hO3.below hbS).mono (Nat.le_refl _) (by omega)⟩
                  have hXP17 := (hXP.push OOp hk17).mono (Nat.le_refl v0.heap.size) hz17
                  have hsa17 : ∃ g, a61 = some ⟨g, 0, none⟩ := by obtain ⟨g, e, _⟩ := OE.ost.row (k := 0) (by simp); exact ⟨g, e⟩
                  have OT17 := ((OT.below hbS).push OOp hk17).mono (Nat.le_refl v0.heap.size) (show w10.heap.size ≤ w17.heap.size by omega)
                  clear OOp OE BP
                  refine hko hK ⟨CellIs.below u0 hbel17, (SRow.four RT17 k _ HTK.out).1, (SRow.four RT17 k _ HTK.out).2.1, (SRow.four RT17 k _ HTK.out).2.2.1, (SRow.four RT17 k _ HTK.out).2.2.2, (Blk.l2 BB17)⟩ fun hHeld => ?_
                  clear hK K
                  refine tk 18 7 ?_
                  refine wpAnyH_done (by kernel_rfl) ?_ _
                  clear hHeld
                  go_wp2
                  go_roundg (T.length - (k + 1))
                  case measure => omega
                  case rel => exact ⟨k + 1, D ++ [(⟨a61, k61, d1, k1, d2, k2⟩, (st ++ [(t1, t2, t3, t4)], X2, Y2))], by omega, rfl, by go_num, hO17, hPA17.snoc hXP17, by rw [List.map_append, HDK.out, HMS.out T k (t1, t2, t3, t4) HTK.out, HOM.out, addP, if_neg (by rw [← HDK.out]; exact HNG.out)]; rfl, fun x hx => by rcases List.mem_append.1 hx with hx | hx; (exact hDs x hx); (simp at hx; subst hx; exact hsa17), OT17, hbel17⟩
                · go_simp
                  (try go_wp2_with fail)
                  refine hko hK ⟨CellIs.below u0 (chain hbel (hbS.alloc hbS.size _)), CellIs.below s0 (hbS.alloc hbS.size _), CellIs.below s1 (hbS.alloc hbS.size _), CellIs.below s2 (hbS.alloc hbS.size _), CellIs.below s3 (hbS.alloc hbS.size _), (Blk.l2 (BB.below (hbS.alloc hbS.size _)))⟩ fun hHeld => ?_
                  clear hK K
                  have BL := Blk.new wE #[.int .i64 t1, .int .i64 t2, .int .i64 t3, .bool t4] 55
                  have hzL : wE.heap.size + 1 ≤ (wE.alloc (.cells #[.int .i64 t1, .int .i64 t2, .int .i64 t3, .bool t4] 55)).heap.size ∧ (wE.alloc (.cells #[.int .i64 t1, .int .i64 t2, .int .i64 t3, .bool t4] 55)).heap.size ≤ wE.heap.size + 1 := ⟨by simp, by simp⟩
                  replace OE := OE.alloc (.cells #[.int .i64 t1, .int .i64 t2, .int .i64 t3, .bool t4] 55)
                  have hzS2 := hbS.size
                  replace hbS := hbS.alloc hbS.size (.cells #[.int .i64 t1, .int .i64 t2, .int .i64 t3, .bool t4] 55)
                  generalize (wE.alloc (.cells #[.int .i64 t1, .int .i64 t2, .int .i64 t3, .bool t4] 55)) = wL at *
                  refine rdk 7 55 fun K hK => ?_
                  refine step_appT rfl (.tmp 49) (.tmp 54) rfl vd.heap.size (.slice (some ⟨vd.heap.size, 0, none⟩) 0 0) [] rfl OE g6 st.length sc st rfl rfl (R6.below (chain hbel hbS)) (by simp; omega) (by omega) ?_
                  intro va w7 hO7 hb7 hk7
                  replace BL := (hk7 wE.heap.size BL.lt (by simp [Value.ownBlock]; omega)).trans BL
                  have BL : Blk w7 wE.heap.size #[.int .i64 t1, .int .i64 t2, .int .i64 t3, .bool t4] 55 := BL
                  have hz7 := hb7.size
                  replace hbS := hbS.trans (hb7.mono (by omega))
                  rw [List.nil_append] at hO7
                  clear OE
                  have OE := hO7
                  obtain ⟨a55, k55, rfl⟩ := OE.form
                  clear hO7 hb7 hk7
                  refine hko hK ⟨CellIs.below u0 (chain hbel hbS), CellIs.below s0 hbS, CellIs.below s1 hbS, CellIs.below s2 hbS, CellIs.below s3 hbS, (Blk.l2 (BB.below hbS))⟩ fun hHeld => ?_
                  clear hK K
                  refine rdk 13 61 fun K hK => ?_
                  refine step_appT rfl (.tmp 55) (.tmp 60) rfl vd.heap.size _ st rfl OE wE.heap.size 1 1 [(t1, t2, t3, t4)] rfl rfl (SRow.one (u := (t1, t2, t3, t4)) BL) (by omega) (by omega) ?_
                  intro va w13 hO13 hb13 hk13
                  have hz13 := hb13.size
                  replace hbS := hbS.trans (hb13.mono (by omega))
                  clear OE BL
                  have OE := hO13
                  obtain ⟨a61, k61, rfl⟩ := OE.form
                  clear hO13 hb13 hk13
                  refine hko hK ⟨CellIs.below u0 (chain hbel hbS), CellIs.below s0 hbS, CellIs.below s1 hbS, CellIs.below s2 hbS, CellIs.below s3 hbS, (Blk.l2 (BB.below hbS))⟩ fun hHeld => ?_
                  clear hK K
                  refine tk 15 63 ?_
                  refine rdk 16 64 fun K hK => ?_
                  go_simp
                  (try go_wp2_with fail)
                  refine hko hK ⟨CellIs.below u0 (chain hbel (hbS.alloc hbS.size _)), CellIs.below s0 (hbS.alloc hbS.size _), CellIs.below s1 (hbS.alloc hbS.size _), CellIs.below s2 (hbS.alloc hbS.size _), CellIs.below s3 (hbS.alloc hbS.size _), (Blk.l2 (BB.below (hbS.alloc hbS.size _)))⟩ fun hHeld => ?_
                  clear hK K
                  have BP := Blk.new w13 #[.slice a61 (st.length + 1) k61, .slice d1 X2.length k1, .slice d2 Y2.length k2] 44
                  have hzP : w13.heap.size + 1 ≤ (w13.alloc (.cells #[.slice a61 (st.length + 1) k61, .slice d1 X2.length k1, .slice d2 Y2.length k2] 44)).heap.size ∧ (w13.alloc (.cells #[.slice a61 (st.length + 1) k61, .slice d1 X2.length k1, .slice d2 Y2.length k2] 44)).heap.size ≤ w13.heap.size + 1 := ⟨by simp, by simp⟩
                  replace OE := OE.alloc (.cells #[.slice a61 (st.length + 1) k61, .slice d1 X2.length k1, .slice d2 Y2.length k2] 44)
                  replace hbS := hbS.alloc hbS.size (.cells #[.slice a61 (st.length + 1) k61, .slice d1 X2.length k1, .slice d2 Y2.length k2] 44)
                  generalize (w13.alloc (.cells #[.slice a61 (st.length + 1) k61, .slice d1 X2.length k1, .slice d2 Y2.length k2] 44)) = wP at *
                  have hl1 : (st ++ [(t1, t2, t3, t4)]).length = st.length + 1 := by simp
                  rw [← hl1] at BP
                  clear hl1
                  refine rdk 17 65 fun K hK => ?_
                  have OOp := OO.below hbS
                  refine step_appP rfl (.tmp 48) (.tmp 64) rfl v0.heap.size _ D rfl OOp w13.heap.size 1 (⟨a61, k61, d1, k1, d2, k2⟩, (st ++ [(t1, t2, t3, t4)], X2, Y2)) rfl (PRow.one (u := (⟨a61, k61, d1, k1, d2, k2⟩, (st ++ [(t1, t2, t3, t4)], X2, Y2))) BP) (by omega) (by omega) ?_
                  intro vo w17 hO17 hb17 hk17
                  have hz17 := hb17.size
                  have hbel17 := (chain hbel hbS).trans hb17
                  have RT17 := ((RT.below hbS).push OOp (by decide) hk17 : SRow w17 gT T)
                  have BB17 : Blk w17 bb #[.slice d1 X2.length k1, .slice d2 Y2.length k2] 28 := (hk17 bb (BB.below hbS).lt (OOp.ne (BB.below hbS) (by decide))).trans (BB.below hbS)
                  have hPA17 := ((hPA.below hbS).push OOp hk17).mono (Nat.le_refl v0.heap.size) (show w10.heap.size ≤ w17.heap.size by omega)
                  have hXP : PAt v0.heap.size wP.heap.size wP (⟨a61, k61, d1, k1, d2, k2⟩, (st ++ [(t1, t2, t3, t4)], X2, Y2)) := ⟨OE.ost.mono (by omega) (Nat.le_refl _), (hO3.below hbS).mono (Nat.le_refl _) (by omega)⟩
                  have hXP17 := (hXP.push OOp hk17).mono (Nat.le_refl v0.heap.size) hz17
                  have hsa17 : ∃ g, a61 = some ⟨g, 0, none⟩ := by obtain ⟨g, e, _⟩ := OE.ost.row (k := 0) (by simp); exact ⟨g, e⟩
                  have OT17 := ((OT.below hbS).push OOp hk17).mono (Nat.le_refl v0.heap.size) (show w10.heap.size ≤ w17.heap.size by omega)
                  clear OOp OE BP
                  refine hko hK ⟨CellIs.below u0 hbel17, (SRow.four RT17 k _ HTK.out).1, (SRow.four RT17 k _ HTK.out).2.1, (SRow.four RT17 k _ HTK.out).2.2.1, (SRow.four RT17 k _ HTK.out).2.2.2, (Blk.l2 BB17)⟩ fun hHeld => ?_
                  clear hK K
                  refine tk 18 7 ?_
                  refine wpAnyH_done (by kernel_rfl) ?_ _
                  clear hHeld
                  go_wp2
                  go_roundg (T.length - (k + 1))
                  case measure => omega
                  case rel => exact ⟨k + 1, D ++ [(⟨a61, k61, d1, k1, d2, k2⟩, (st ++ [(t1, t2, t3, t4)], X2, Y2))], by omega, rfl, by go_num, hO17, hPA17.snoc hXP17, by rw [List.map_append, HDK.out, HMS.out T k (t1, t2, t3, t4) HTK.out, HOM.out, addP, if_neg (by rw [← HDK.out]; exact HNG.out)]; rfl, fun x hx => by rcases List.mem_append.1 hx with hx | hx; (exact hDs x hx); (simp at hx; subst hx; exact hsa17), OT17, hbel17⟩
              · go_simp
                (try go_wp2_with fail)
                refine hko hK ⟨CellIs.below u0 (chain hbel (hbS.alloc hbS.size _)), CellIs.below s0 (hbS.alloc hbS.size _), CellIs.below s1 (hbS.alloc hbS.size _), CellIs.below s2 (hbS.alloc hbS.size _), CellIs.below s3 (hbS.alloc hbS.size _), (Blk.l2 (BB.below (hbS.alloc hbS.size _)))⟩ fun hHeld => ?_
                clear hK K
                have BL := Blk.new vd #[.int .i64 t1, .int .i64 t2, .int .i64 t3, .bool t4] 55
                have hzL : vd.heap.size + 1 ≤ (vd.alloc (.cells #[.int .i64 t1, .int .i64 t2, .int .i64 t3, .bool t4] 55)).heap.size ∧ (vd.alloc (.cells #[.int .i64 t1, .int .i64 t2, .int .i64 t3, .bool t4] 55)).heap.size ≤ vd.heap.size + 1 := ⟨by simp, by simp⟩
                have hzS2 := hbS.size
                replace hbS := hbS.alloc hbS.size (.cells #[.int .i64 t1, .int .i64 t2, .int .i64 t3, .bool t4] 55)
                generalize (vd.alloc (.cells #[.int .i64 t1, .int .i64 t2, .int .i64 t3, .bool t4] 55)) = wL at *
                refine rdk 1 49 fun K hK => ?_
                go_simp
                (try go_wp2_with fail)
                refine hko hK ⟨CellIs.below u0 (chain hbel (hbS.alloc hbS.size _)), CellIs.below s0 (hbS.alloc hbS.size _), CellIs.below s1 (hbS.alloc hbS.size _), CellIs.below s2 (hbS.alloc hbS.size _), CellIs.below s3 (hbS.alloc hbS.size _), (Blk.l2 (BB.below (hbS.alloc hbS.size _)))⟩ fun hHeld => ?_
                clear hK K
                have OE := OwnT.start wL
                have hzE : wL.heap.size + 1 ≤ (wL.alloc (.cells #[] 55)).heap.size ∧ (wL.alloc (.cells #[] 55)).heap.size ≤ wL.heap.size + 1 := ⟨by simp, by simp⟩
                replace BL := BL.alloc (.cells #[] 55)
                have hzS := hbS.size
                replace hbS := hbS.alloc hbS.size (.cells #[] 55)
                generalize (wL.alloc (.cells #[] 55)) = wE at *
                refine rdk 7 55 fun K hK => ?_
                refine step_appT rfl (.tmp 49) (.tmp 54) rfl wL.heap.size (.slice (some ⟨wL.heap.size, 0, none⟩) 0 0) [] rfl OE g6 st.length sc st rfl rfl (R6.below (chain hbel hbS)) (by simp; omega) (by omega) ?_
                intro va w7 hO7 hb7 hk7
                replace BL := (hk7 vd.heap.size BL.lt (by simp [Value.ownBlock]; omega)).trans BL
                have BL : Blk w7 vd.heap.size #[.int .i64 t1, .int .i64 t2, .int .i64 t3, .bool t4] 55 := BL
                have hz7 := hb7.size
                replace hbS := hbS.trans (hb7.mono (by omega))
                rw [List.nil_append] at hO7
                clear OE
                have OE := hO7
                obtain ⟨a55, k55, rfl⟩ := OE.form
                clear hO7 hb7 hk7
                refine hko hK ⟨CellIs.below u0 (chain hbel hbS), CellIs.below s0 hbS, CellIs.below s1 hbS, CellIs.below s2 hbS, CellIs.below s3 hbS, (Blk.l2 (BB.below hbS))⟩ fun hHeld => ?_
                clear hK K
                refine rdk 13 61 fun K hK => ?_
                refine step_appT rfl (.tmp 55) (.tmp 60) rfl wL.heap.size _ st rfl OE vd.heap.size 1 1 [(t1, t2, t3, t4)] rfl rfl (SRow.one (u := (t1, t2, t3, t4)) BL) (by omega) (by omega) ?_
                intro va w13 hO13 hb13 hk13
                have hz13 := hb13.size
                replace hbS := hbS.trans (hb13.mono (by omega))
                clear OE BL
                have OE := hO13
                obtain ⟨a61, k61, rfl⟩ := OE.form
                clear hO13 hb13 hk13
                refine hko hK ⟨CellIs.below u0 (chain hbel hbS), CellIs.below s0 hbS, CellIs.below s1 hbS, CellIs.below s2 hbS, CellIs.below s3 hbS, (Blk.l2 (BB.below hbS))⟩ fun hHeld => ?_
                clear hK K
                refine tk 15 63 ?_
                refine rdk 16 64 fun K hK => ?_
                go_simp
                (try go_wp2_with fail)
                refine hko hK ⟨CellIs.below u0 (chain hbel (hbS.alloc hbS.size _)), CellIs.below s0 (hbS.alloc hbS.size _), CellIs.below s1 (hbS.alloc hbS.size _), CellIs.below s2 (hbS.alloc hbS.size _), CellIs.below s3 (hbS.alloc hbS.size _), (Blk.l2 (BB.below (hbS.alloc hbS.size _)))⟩ fun hHeld => ?_
                clear hK K
                have BP := Blk.new w13 #[.slice a61 (st.length + 1) k61, .slice d1 X2.length k1, .slice d2 Y2.length k2] 44
                have hzP : w13.heap.size + 1 ≤ (w13.alloc (.cells #[.slice a61 (st.length + 1) k61, .slice d1 X2.length k1, .slice d2 Y2.length k2] 44)).heap.size ∧ (w13.alloc (.cells #[.slice a61 (st.length + 1) k61, .slice d1 X2.length k1, .slice d2 Y2.length k2] 44)).heap.size ≤ w13.heap.size + 1 := ⟨by simp, by simp⟩
                replace OE := OE.alloc (.cells #[.slice a61 (st.length + 1) k61, .slice d1 X2.length k1, .slice d2 Y2.length k2] 44)
                replace hbS := hbS.alloc hbS.size (.cells #[.slice a61 (st.length + 1) k61, .slice d1 X2.length k1, .slice d2 Y2.length k2] 44)
                generalize (w13.alloc (.cells #[.slice a61 (st.length + 1) k61, .slice d1 X2.length k1, .slice d2 Y2.length k2] 44)) = wP at *
                have hl1 : (st ++ [(t1, t2, t3, t4)]).length = st.length + 1 := by simp
                rw [← hl1] at BP
                clear hl1
                refine rdk 17 65 fun K hK => ?_
                have OOp := OO.below hbS
                refine step_appP rfl (.tmp 48) (.tmp 64) rfl v0.heap.size _ D rfl OOp w13.heap.size 1 (⟨a61, k61, d1, k1, d2, k2⟩, (st ++ [(t1, t2, t3, t4)], X2, Y2)) rfl (PRow.one (u := (⟨a61, k61, d1, k1, d2, k2⟩, (st ++ [(t1, t2, t3, t4)], X2, Y2))) BP) (by omega) (by omega) ?_
                intro vo w17 hO17 hb17 hk17
                have hz17 := hb17.size
                have hbel17 := (chain hbel hbS).trans hb17
                have RT17 := ((RT.below hbS).push OOp (by decide) hk17 : SRow w17 gT T)
                have BB17 : Blk w17 bb #[.slice d1 X2.length k1, .slice d2 Y2.length k2] 28 := (hk17 bb (BB.below hbS).lt (OOp.ne (BB.below hbS) (by decide))).trans (BB.below hbS)
                have hPA17 := ((hPA.below hbS).push OOp hk17).mono (Nat.le_refl v0.heap.size) (show w10.heap.size ≤ w17.heap.size by omega)
                have hXP : PAt v0.heap.size wP.heap.size wP (⟨a61, k61, d1, k1, d2, k2⟩, (st ++ [(t1, t2, t3, t4)], X2, Y2)) := ⟨OE.ost.mono (by omega) (Nat.le_refl _), (hO3.below hbS).mono (Nat.le_refl _) (by omega)⟩
                have hXP17 := (hXP.push OOp hk17).mono (Nat.le_refl v0.heap.size) hz17
                have hsa17 : ∃ g, a61 = some ⟨g, 0, none⟩ := by obtain ⟨g, e, _⟩ := OE.ost.row (k := 0) (by simp); exact ⟨g, e⟩
                have OT17 := ((OT.below hbS).push OOp hk17).mono (Nat.le_refl v0.heap.size) (show w10.heap.size ≤ w17.heap.size by omega)
                clear OOp OE BP
                refine hko hK ⟨CellIs.below u0 hbel17, (SRow.four RT17 k _ HTK.out).1, (SRow.four RT17 k _ HTK.out).2.1, (SRow.four RT17 k _ HTK.out).2.2.1, (SRow.four RT17 k _ HTK.out).2.2.2, (Blk.l2 BB17)⟩ fun hHeld => ?_
                clear hK K
                refine tk 18 7 ?_
                refine wpAnyH_done (by kernel_rfl) ?_ _
                clear hHeld
                go_wp2
                go_roundg (T.length - (k + 1))
                case measure => omega
                case rel => exact ⟨k + 1, D ++ [(⟨a61, k61, d1, k1, d2, k2⟩, (st ++ [(t1, t2, t3, t4)], X2, Y2))], by omega, rfl, by go_num, hO17, hPA17.snoc hXP17, by rw [List.map_append, HDK.out, HMS.out T k (t1, t2, t3, t4) HTK.out, HOM.out, addP, if_neg (by rw [← HDK.out]; exact HNG.out)]; rfl, fun x hx => by rcases List.mem_append.1 hx with hx | hx; (exact hDs x hx); (simp at hx; subst hx; exact hsa17), OT17, hbel17⟩
            · have hng : (D.map Prod.snd).any (fun q => decide (q.2 = (X2, Y2))) = true := by
                have := HNEG.out
                rcases Bool.eq_false_or_eq_true ((D.map Prod.snd).any (fun q => decide (q.2 = (X2, Y2)))) with h | h
                · exact h
                · rw [h] at this
                  exact absurd (this.2 (by simp)) hF0
              have HNG := Lib.hid hng
              clear hng
              go_wp2
              go_roundg (T.length - (k + 1))
              case measure => omega
              case rel => exact ⟨k + 1, D, by omega, rfl, by go_num, OO, hPA, by rw [HMS.out T k (t1, t2, t3, t4) HTK.out, HOM.out, addP, ← HDK.out, if_pos HNG.out], hDs, OT, hbel⟩
          · go_simp
            have BA := Blk.new vd #[.slice none 0 0, .slice none 0 0] 28
            have hal : Below vd.heap.size vd (vd.alloc (.cells #[.slice none 0 0, .slice none 0 0] 28)) := (Below.refl _ _).alloc (Nat.le_refl _) _
            have hlN : vd.heap.size + 1 ≤ (vd.alloc (.cells #[.slice none 0 0, .slice none 0 0] 28)).heap.size := by simp
            have hzS := hbS.size
            replace hbS := chain hbS hal
            clear hal
            (try go_wp2_with fail)
            refine hko hK (Blk.f4 (BV.below (chain hbel hbS)) ⟨CellIs.below u1 (chain hbel hbS), CellIs.below u2 (chain hbel hbS), CellIs.below s0 hbS, CellIs.below s1 hbS, CellIs.below s2 hbS, CellIs.below s3 hbS⟩) fun hHeld => ?_
            clear hK K
            generalize (vd.alloc (.cells #[.slice none 0 0, .slice none 0 0] 28)) = wN at *
            refine rdk 10 43 fun K hK => ?_
            go_simp
            refine (HAP.out _ (chain hbel hbS)).mono ?_
            rintro e w8 ⟨d1, d2, k1, k2, rfl, hO, hb8⟩
            replace BA := BA.below hb8
            have hz8 := hb8.size
            replace hbS := chain hbS hb8
            clear hb8
            (try go_wp2_with fail)
            refine hko hK (Blk.f4 (BV.below (chain hbel hbS)) ⟨CellIs.below u1 (chain hbel hbS), CellIs.below u2 (chain hbel hbS), CellIs.below s0 hbS, CellIs.below s1 hbS, CellIs.below s2 hbS, CellIs.below s3 hbS⟩) fun hHeld => ?_
            clear hK K
            refine rdn 12 fun K hK => ?_
            have q0 := BA.two.1
            have q1 := BA.two.2.1
            have qf := BA.two.2.2.1
            have ql := BA.two.2.2.2
            go_simp
            (try go_wp2_with fail)
            refine hko hK (Blk.f4 (BV.below (chain hbel (below2n BA hbS (by omega) _ _))) ⟨CellIs.below u1 (chain hbel (below2n BA hbS (by omega) _ _)), CellIs.below u2 (chain hbel (below2n BA hbS (by omega) _ _)), CellIs.below s0 (below2n BA hbS (by omega) _ _), CellIs.below s1 (below2n BA hbS (by omega) _ _), CellIs.below s2 (below2n BA hbS (by omega) _ _), CellIs.below s3 (below2n BA hbS (by omega) _ _)⟩) fun hHeld => ?_
            clear hK K
            refine wpAnyH_done (by kernel_rfl) ?_ _
            have hbS2 := below2n BA hbS (by omega) (.slice d1 X2.length k1) (.slice d2 Y2.length k2)
            have BB2 := (BA.set (i := 0) (.slice d1 X2.length k1)).set (i := 1) (.slice d2 Y2.length k2)
            have hO2 := (hO.other (B := vd.heap.size) (o := 0) (v := .slice d1 X2.length k1) (by omega)).other (B := vd.heap.size) (o := 1) (v := .slice d2 Y2.length k2) (by omega)
            clear BA hO hbS hHeld
            have hs9 : ((w8.setCell ⟨vd.heap.size, 0, none⟩ (.slice d1 X2.length k1)).setCell ⟨vd.heap.size, 1, none⟩ (.slice d2 Y2.length k2)).heap.size = w8.heap.size := by simp
            have hO3 : OBd v0.heap.size ((w8.setCell ⟨vd.heap.size, 0, none⟩ (.slice d1 X2.length k1)).setCell ⟨vd.heap.size, 1, none⟩ (.slice d2 Y2.length k2)).heap.size ((w8.setCell ⟨vd.heap.size, 0, none⟩ (.slice d1 X2.length k1)).setCell ⟨vd.heap.size, 1, none⟩ (.slice d2 Y2.length k2)) d1 d2 X2 Y2 := hO2.mono (by omega) (by omega)
            have hBv : v0.heap.size ≤ vd.heap.size := by omega
            clear hO2 hs9
            obtain ⟨bb, hbb⟩ : ∃ b, vd.heap.size = b := ⟨_, rfl⟩
            rw [hbb] at BB2 hO3 hbS2 hBv ⊢
            generalize ((w8.setCell ⟨bb, 0, none⟩ (.slice d1 X2.length k1)).setCell ⟨bb, 1, none⟩ (.slice d2 Y2.length k2)) = w9 at *
            clear hbb
            replace hO := hO.below hbS2
            replace hPA := (hPA.below hbS2).mono (Nat.le_refl _) hbS2.size
            replace OT := (OT.below hbS2).mono (Nat.le_refl _) hbS2.size
            replace RT := RT.below hbS2
            replace hbel := chain hbel hbS2
            have hfd := l05Find_any v0.heap.size w9.heap.size aO D.length kO D d1 d2 X2.length Y2.length k1 k2 X2 Y2 w9 rfl (by omega) hO.opl hPA HLEN.out rfl rfl hX2l hY2l hO3.irow1 hO3.irow2
            have hneg := findP_neg (X2, Y2) (D.map Prod.snd) 0
            obtain ⟨FV, hFV⟩ : ∃ z, findP (X2, Y2) (D.map Prod.snd) 0 = z := ⟨_, rfl⟩
            rw [hFV] at hfd hneg
            have HNEG := Lib.hid hneg
            clear hFV hneg hbS2
            obtain ⟨q0, q1, qf, ql⟩ := BB2.two
            go_wp2_with fail
            clear q0 q1 qf ql
            refine hfd.mono ?_
            rintro e w10 ⟨rfl, hb10⟩
            clear hfd
            have OO := hO.below hb10
            replace hPA := (hPA.below hb10).mono (Nat.le_refl _) hb10.size
            replace OT := (OT.below hb10).mono (Nat.le_refl _) hb10.size
            replace RT := RT.below hb10
            have BB := BB2.below hb10
            replace hO3 := (hO3.below hb10).mono (Nat.le_refl _) hb10.size
            replace hbel := chain hbel hb10
            have hzv := hbel.size
            obtain ⟨s0, s1, s2, s3⟩ := SRow.four RT k _ HTK.out
            dsimp only at s0 s1 s2 s3
            clear hO BB2 hb10
            by_cases hF0 : FV < 0
            · have hng := HNEG.out.1 hF0
              have HNG := Lib.hid hng
              clear hng
              go_wp2_with fail
              refine wp_region_held_drew (S := fun w' => w'.cell? ⟨g, i * 3, none⟩ = some (.slice (some ⟨g6, 0, none⟩) st.length sc) ∧ w'.cell? ⟨gT, k * 4, none⟩ = some (.int .i64 t1) ∧ w'.cell? ⟨gT, k * 4 + 1, none⟩ = some (.int .i64 t2) ∧ w'.cell? ⟨gT, k * 4 + 2, none⟩ = some (.int .i64 t3) ∧ w'.cell? ⟨gT, k * 4 + 3, none⟩ = some (.bool t4) ∧ w'.cell? ⟨bb, 0, none⟩ = some (.slice d1 X2.length k1) ∧ w'.cell? ⟨bb, 1, none⟩ = some (.slice d2 Y2.length k2)) (by kernel_rfl) ⟨CellIs.below u0 (chain hbel (Below.refl _ _).drew), CellIs.below s0 (Below.refl _ _).drew, CellIs.below s1 (Below.refl _ _).drew, CellIs.below s2 (Below.refl _ _).drew, CellIs.below s3 (Below.refl _ _).drew, (BB.below (Below.refl _ _).drew).two.1, (BB.below (Below.refl _ _).drew).two.2.1⟩ (fun hHeld => ?_)
              clear hHeld
              have hbS : Below w10.heap.size w10 w10.drew := (Below.refl _ _).drew
              have hzd := hbS.size
              generalize w10.drew = vd at *
              have hHeld : vd.cell? ⟨g, i * 3, none⟩ = some (.slice (some ⟨g6, 0, none⟩) st.length sc) ∧ vd.cell? ⟨gT, k * 4, none⟩ = some (.int .i64 t1) ∧ vd.cell? ⟨gT, k * 4 + 1, none⟩ = some (.int .i64 t2) ∧ vd.cell? ⟨gT, k * 4 + 2, none⟩ = some (.int .i64 t3) ∧ vd.cell? ⟨gT, k * 4 + 3, none⟩ = some (.bool t4) ∧ vd.cell? ⟨bb, 0, none⟩ = some (.slice d1 X2.length k1) ∧ vd.cell? ⟨bb, 1, none⟩ = some (.slice d2 Y2.length k2) := ⟨CellIs.below u0 (chain hbel hbS), CellIs.below s0 hbS, CellIs.below s1 hbS, CellIs.below s2 hbS, CellIs.below s3 hbS, (BB.below hbS).two.1, (BB.below hbS).two.2.1⟩
              refine tk 0 48 ?_
              refine tk 2 50 ?_
              refine tk 3 51 ?_
              refine tk 4 52 ?_
              refine tk 5 53 ?_
              refine tk 6 54 ?_
              refine tk 8 56 ?_
              refine tk 9 57 ?_
              refine tk 10 58 ?_
              refine tk 11 59 ?_
              refine tk 14 62 ?_
              refine wpAnyH_ready (rs := [1, 12]) (by kernel_rfl) (by simp) ?_
              refine AllReadyH.cons (o := ⟨some 49, _, _, _, _, _⟩) rfl (fun K hK => ?_) (AllReadyH.cons (o := ⟨some 60, _, _, _, _, _⟩) rfl (fun K hK => ?_) AllReadyH.nil)
              · go_simp
                (try go_wp2_with fail)
                refine hko hK ⟨CellIs.below u0 (chain hbel (hbS.alloc hbS.size _)), CellIs.below s0 (hbS.alloc hbS.size _), CellIs.below s1 (hbS.alloc hbS.size _), CellIs.below s2 (hbS.alloc hbS.size _), CellIs.below s3 (hbS.alloc hbS.size _), (Blk.l2 (BB.below (hbS.alloc hbS.size _)))⟩ fun hHeld => ?_
                clear hK K
                have OE := OwnT.start vd
                have hzE : vd.heap.size + 1 ≤ (vd.alloc (.cells #[] 55)).heap.size ∧ (vd.alloc (.cells #[] 55)).heap.size ≤ vd.heap.size + 1 := ⟨by simp, by simp⟩
                have hzS := hbS.size
                replace hbS := hbS.alloc hbS.size (.cells #[] 55)
                generalize (vd.alloc (.cells #[] 55)) = wE at *
                refine wpAnyH_ready (rs := [7, 12]) (by kernel_rfl) (by simp) ?_
                refine AllReadyH.cons (o := ⟨some 55, _, _, _, _, _⟩) rfl (fun K hK => ?_) (AllReadyH.cons (o := ⟨some 60, _, _, _, _, _⟩) rfl (fun K hK => ?_) AllReadyH.nil)
                · refine step_appT rfl (.tmp 49) (.tmp 54) rfl vd.heap.size (.slice (some ⟨vd.heap.size, 0, none⟩) 0 0) [] rfl OE g6 st.length sc st rfl rfl (R6.below (chain hbel hbS)) (by simp; omega) (by omega) ?_
                  intro va w7 hO7 hb7 hk7
                  have hz7 := hb7.size
                  replace hbS := hbS.trans (hb7.mono (by omega))
                  rw [List.nil_append] at hO7
                  clear OE
                  have OE := hO7
                  obtain ⟨a55, k55, rfl⟩ := OE.form
                  clear hO7 hb7 hk7
                  refine hko hK ⟨CellIs.below u0 (chain hbel hbS), CellIs.below s0 hbS, CellIs.below s1 hbS, CellIs.below s2 hbS, CellIs.below s3 hbS, (Blk.l2 (BB.below hbS))⟩ fun hHeld => ?_
                  clear hK K
                  refine rdk 12 60 fun K hK => ?_
                  go_simp
                  (try go_wp2_with fail)
                  refine hko hK ⟨CellIs.below u0 (chain hbel (hbS.alloc hbS.size _)), CellIs.below s0 (hbS.alloc hbS.size _), CellIs.below s1 (hbS.alloc hbS.size _), CellIs.below s2 (hbS.alloc hbS.size _), CellIs.below s3 (hbS.alloc hbS.size _), (Blk.l2 (BB.below (hbS.alloc hbS.size _)))⟩ fun hHeld => ?_
                  clear hK K
                  have BL := Blk.new w7 #[.int .i64 t1, .int .i64 t2, .int .i64 t3, .bool t4] 55
                  have hzL : w7.heap.size + 1 ≤ (w7.alloc (.cells #[.int .i64 t1, .int .i64 t2, .int .i64 t3, .bool t4] 55)).heap.size ∧ (w7.alloc (.cells #[.int .i64 t1, .int .i64 t2, .int .i64 t3, .bool t4] 55)).heap.size ≤ w7.heap.size + 1 := ⟨by simp, by simp⟩
                  replace OE := OE.alloc (.cells #[.int .i64 t1, .int .i64 t2, .int .i64 t3, .bool t4] 55)
                  have hzS2 := hbS.size
                  replace hbS := hbS.alloc hbS.size (.cells #[.int .i64 t1, .int .i64 t2, .int .i64 t3, .bool t4] 55)
                  generalize (w7.alloc (.cells #[.int .i64 t1, .int .i64 t2, .int .i64 t3, .bool t4] 55)) = wL at *
                  refine rdk 13 61 fun K hK => ?_
                  refine step_appT rfl (.tmp 55) (.tmp 60) rfl vd.heap.size _ st rfl OE w7.heap.size 1 1 [(t1, t2, t3, t4)] rfl rfl (SRow.one (u := (t1, t2, t3, t4)) BL) (by omega) (by omega) ?_
                  intro va w13 hO13 hb13 hk13
                  have hz13 := hb13.size
                  replace hbS := hbS.trans (hb13.mono (by omega))
                  clear OE BL
                  have OE := hO13
                  obtain ⟨a61, k61, rfl⟩ := OE.form
                  clear hO13 hb13 hk13
                  refine hko hK ⟨CellIs.below u0 (chain hbel hbS), CellIs.below s0 hbS, CellIs.below s1 hbS, CellIs.below s2 hbS, CellIs.below s3 hbS, (Blk.l2 (BB.below hbS))⟩ fun hHeld => ?_
                  clear hK K
                  refine tk 15 63 ?_
                  refine rdk 16 64 fun K hK => ?_
                  go_simp
                  (try go_wp2_with fail)
                  refine hko hK ⟨CellIs.below u0 (chain hbel (hbS.alloc hbS.size _)), CellIs.below s0 (hbS.alloc hbS.size _), CellIs.below s1 (hbS.alloc hbS.size _), CellIs.below s2 (hbS.alloc hbS.size _), CellIs.below s3 (hbS.alloc hbS.size _), (Blk.l2 (BB.below (hbS.alloc hbS.size _)))⟩ fun hHeld => ?_
                  clear hK K
                  have BP := Blk.new w13 #[.slice a61 (st.length + 1) k61, .slice d1 X2.length k1, .slice d2 Y2.length k2] 44
                  have hzP : w13.heap.size + 1 ≤ (w13.alloc (.cells #[.slice a61 (st.length + 1) k61, .slice d1 X2.length k1, .slice d2 Y2.length k2] 44)).heap.size ∧ (w13.alloc (.cells #[.slice a61 (st.length + 1) k61, .slice d1 X2.length k1, .slice d2 Y2.length k2] 44)).heap.size ≤ w13.heap.size + 1 := ⟨by simp, by simp⟩
                  replace OE := OE.alloc (.cells #[.slice a61 (st.length + 1) k61, .slice d1 X2.length k1, .slice d2 Y2.length k2] 44)
                  replace hbS := hbS.alloc hbS.size (.cells #[.slice a61 (st.length + 1) k61, .slice d1 X2.length k1, .slice d2 Y2.length k2] 44)
                  generalize (w13.alloc (.cells #[.slice a61 (st.length + 1) k61, .slice d1 X2.length k1, .slice d2 Y2.length k2] 44)) = wP at *
                  have hl1 : (st ++ [(t1, t2, t3, t4)]).length = st.length + 1 := by simp
                  rw [← hl1] at BP
                  clear hl1
                  refine rdk 17 65 fun K hK => ?_
                  have OOp := OO.below hbS
                  refine step_appP rfl (.tmp 48) (.tmp 64) rfl v0.heap.size _ D rfl OOp w13.heap.size 1 (⟨a61, k61, d1, k1, d2, k2⟩, (st ++ [(t1, t2, t3, t4)], X2, Y2)) rfl (PRow.one (u := (⟨a61, k61, d1, k1, d2, k2⟩, (st ++ [(t1, t2, t3, t4)], X2, Y2))) BP) (by omega) (by omega) ?_
                  intro vo w17 hO17 hb17 hk17
                  have hz17 := hb17.size
                  have hbel17 := (chain hbel hbS).trans hb17
                  have RT17 := ((RT.below hbS).push OOp (by decide) hk17 : SRow w17 gT T)
                  have BB17 : Blk w17 bb #[.slice d1 X2.length k1, .slice d2 Y2.length k2] 28 := (hk17 bb (BB.below hbS).lt (OOp.ne (BB.below hbS) (by decide))).trans (BB.below hbS)
                  have hPA17 := ((hPA.below hbS).push OOp hk17).mono (Nat.le_refl v0.heap.size) (show w10.heap.size ≤ w17.heap.size by omega)
                  have hXP : PAt v0.heap.size wP.heap.size wP (⟨a61, k61, d1, k1, d2, k2⟩, (st ++ [(t1, t2, t3, t4)], X2, Y2)) := ⟨OE.ost.mono (by omega) (Nat.le_refl _), (hO3.below hbS).mono (Nat.le_refl _) (by omega)⟩
                  have hXP17 := (hXP.push OOp hk17).mono (Nat.le_refl v0.heap.size) hz17
                  have hsa17 : ∃ g, a61 = some ⟨g, 0, none⟩ := by obtain ⟨g, e, _⟩ := OE.ost.row (k := 0) (by simp); exact ⟨g, e⟩
                  have OT17 := ((OT.below hbS).push OOp hk17).mono (Nat.le_refl v0.heap.size) (show w10.heap.size ≤ w17.heap.size by omega)
                  clear OOp OE BP
                  refine hko hK ⟨CellIs.below u0 hbel17, (SRow.four RT17 k _ HTK.out).1, (SRow.four RT17 k _ HTK.out).2.1, (SRow.four RT17 k _ HTK.out).2.2.1, (SRow.four RT17 k _ HTK.out).2.2.2, (Blk.l2 BB17)⟩ fun hHeld => ?_
                  clear hK K
                  refine tk 18 7 ?_
                  refine wpAnyH_done (by kernel_rfl) ?_ _
                  clear hHeld
                  go_wp2
                  go_roundg (T.length - (k + 1))
                  case measure => omega
                  case rel => exact ⟨k + 1, D ++ [(⟨a61, k61, d1, k1, d2, k2⟩, (st ++ [(t1, t2, t3, t4)], X2, Y2))], by omega, rfl, by go_num, hO17, hPA17.snoc hXP17, by rw [List.map_append, HDK.out, HMS.out T k (t1, t2, t3, t4) HTK.out, HOM.out, addP, if_neg (by rw [← HDK.out]; exact HNG.out)]; rfl, fun x hx => by rcases List.mem_append.1 hx with hx | hx; (exact hDs x hx); (simp at hx; subst hx; exact hsa17), OT17, hbel17⟩
                · go_simp
                  (try go_wp2_with fail)
                  refine hko hK ⟨CellIs.below u0 (chain hbel (hbS.alloc hbS.size _)), CellIs.below s0 (hbS.alloc hbS.size _), CellIs.below s1 (hbS.alloc hbS.size _), CellIs.below s2 (hbS.alloc hbS.size _), CellIs.below s3 (hbS.alloc hbS.size _), (Blk.l2 (BB.below (hbS.alloc hbS.size _)))⟩ fun hHeld => ?_
                  clear hK K
                  have BL := Blk.new wE #[.int .i64 t1, .int .i64 t2, .int .i64 t3, .bool t4] 55
                  have hzL : wE.heap.size + 1 ≤ (wE.alloc (.cells #[.int .i64 t1, .int .i64 t2, .int .i64 t3, .bool t4] 55)).heap.size ∧ (wE.alloc (.cells #[.int .i64 t1, .int .i64 t2, .int .i64 t3, .bool t4] 55)).heap.size ≤ wE.heap.size + 1 := ⟨by simp, by simp⟩
                  replace OE := OE.alloc (.cells #[.int .i64 t1, .int .i64 t2, .int .i64 t3, .bool t4] 55)
                  have hzS2 := hbS.size
                  replace hbS := hbS.alloc hbS.size (.cells #[.int .i64 t1, .int .i64 t2, .int .i64 t3, .bool t4] 55)
                  generalize (wE.alloc (.cells #[.int .i64 t1, .int .i64 t2, .int .i64 t3, .bool t4] 55)) = wL at *
                  refine rdk 7 55 fun K hK => ?_
                  refine step_appT rfl (.tmp 49) (.tmp 54) rfl vd.heap.size (.slice (some ⟨vd.heap.size, 0, none⟩) 0 0) [] rfl OE g6 st.length sc st rfl rfl (R6.below (chain hbel hbS)) (by simp; omega) (by omega) ?_
                  intro va w7 hO7 hb7 hk7
                  replace BL := (hk7 wE.heap.size BL.lt (by simp [Value.ownBlock]; omega)).trans BL
                  have BL : Blk w7 wE.heap.size #[.int .i64 t1, .int .i64 t2, .int .i64 t3, .bool t4] 55 := BL
                  have hz7 := hb7.size
                  replace hbS := hbS.trans (hb7.mono (by omega))
                  rw [List.nil_append] at hO7
                  clear OE
                  have OE := hO7
                  obtain ⟨a55, k55, rfl⟩ := OE.form
                  clear hO7 hb7 hk7
                  refine hko hK ⟨CellIs.below u0 (chain hbel hbS), CellIs.below s0 hbS, CellIs.below s1 hbS, CellIs.below s2 hbS, CellIs.below s3 hbS, (Blk.l2 (BB.below hbS))⟩ fun hHeld => ?_
                  clear hK K
                  refine rdk 13 61 fun K hK => ?_
                  refine step_appT rfl (.tmp 55) (.tmp 60) rfl vd.heap.size _ st rfl OE wE.heap.size 1 1 [(t1, t2, t3, t4)] rfl rfl (SRow.one (u := (t1, t2, t3, t4)) BL) (by omega) (by omega) ?_
                  intro va w13 hO13 hb13 hk13
                  have hz13 := hb13.size
                  replace hbS := hbS.trans (hb13.mono (by omega))
                  clear OE BL
                  have OE := hO13
                  obtain ⟨a61, k61, rfl⟩ := OE.form
                  clear hO13 hb13 hk13
                  refine hko hK ⟨CellIs.below u0 (chain hbel hbS), CellIs.below s0 hbS, CellIs.below s1 hbS, CellIs.below s2 hbS, CellIs.below s3 hbS, (Blk.l2 (BB.below hbS))⟩ fun hHeld => ?_
                  clear hK K
                  refine tk 15 63 ?_
                  refine rdk 16 64 fun K hK => ?_
                  go_simp
                  (try go_wp2_with fail)
                  refine hko hK ⟨CellIs.below u0 (chain hbel (hbS.alloc hbS.size _)), CellIs.below s0 (hbS.alloc hbS.size _), CellIs.below s1 (hbS.alloc hbS.size _), CellIs.below s2 (hbS.alloc hbS.size _), CellIs.below s3 (hbS.alloc hbS.size _), (Blk.l2 (BB.below (hbS.alloc hbS.size _)))⟩ fun hHeld => ?_
                  clear hK K
                  have BP := Blk.new w13 #[.slice a61 (st.length + 1) k61, .slice d1 X2.length k1, .slice d2 Y2.length k2] 44
                  have hzP : w13.heap.size + 1 ≤ (w13.alloc (.cells #[.slice a61 (st.length + 1) k61, .slice d1 X2.length k1, .slice d2 Y2.length k2] 44)).heap.size ∧ (w13.alloc (.cells #[.slice a61 (st.length + 1) k61, .slice d1 X2.length k1, .slice d2 Y2.length k2] 44)).heap.size ≤ w13.heap.size + 1 := ⟨by simp, by simp⟩
                  replace OE := OE.alloc (.cells #[.slice a61 (st.length + 1) k61, .slice d1 X2.length k1, .slice d2 Y2.length k2] 44)
                  replace hbS := hbS.alloc hbS.size (.cells #[.slice a61 (st.length + 1) k61, .slice d1 X2.length k1, .slice d2 Y2.length k2] 44)
                  generalize (w13.alloc (.cells #[.slice a61 (st.length + 1) k61, .slice d1 X2.length k1, .slice d2 Y2.length k2] 44)) = wP at *
                  have hl1 : (st ++ [(t1, t2, t3, t4)]).length = st.length + 1 := by simp
                  rw [← hl1] at BP
                  clear hl1
                  refine rdk 17 65 fun K hK => ?_
                  have OOp := OO.below hbS
                  refine step_appP rfl (.tmp 48) (.tmp 64) rfl v0.heap.size _ D rfl OOp w13.heap.size 1 (⟨a61, k61, d1, k1, d2, k2⟩, (st ++ [(t1, t2, t3, t4)], X2, Y2)) rfl (PRow.one (u := (⟨a61, k61, d1, k1, d2, k2⟩, (st ++ [(t1, t2, t3, t4)], X2, Y2))) BP) (by omega) (by omega) ?_
                  intro vo w17 hO17 hb17 hk17
                  have hz17 := hb17.size
                  have hbel17 := (chain hbel hbS).trans hb17
                  have RT17 := ((RT.below hbS).push OOp (by decide) hk17 : SRow w17 gT T)
                  have BB17 : Blk w17 bb #[.slice d1 X2.length k1, .slice d2 Y2.length k2] 28 := (hk17 bb (BB.below hbS).lt (OOp.ne (BB.below hbS) (by decide))).trans (BB.below hbS)
                  have hPA17 := ((hPA.below hbS).push OOp hk17).mono (Nat.le_refl v0.heap.size) (show w10.heap.size ≤ w17.heap.size by omega)
                  have hXP : PAt v0.heap.size wP.heap.size wP (⟨a61, k61, d1, k1, d2, k2⟩, (st ++ [(t1, t2, t3, t4)], X2, Y2)) := ⟨OE.ost.mono (by omega) (Nat.le_refl _), (hO3.below hbS).mono (Nat.le_refl _) (by omega)⟩
                  have hXP17 := (hXP.push OOp hk17).mono (Nat.le_refl v0.heap.size) hz17
                  have hsa17 : ∃ g, a61 = some ⟨g, 0, none⟩ := by obtain ⟨g, e, _⟩ := OE.ost.row (k := 0) (by simp); exact ⟨g, e⟩
                  have OT17 := ((OT.below hbS).push OOp hk17).mono (Nat.le_refl v0.heap.size) (show w10.heap.size ≤ w17.heap.size by omega)
                  clear OOp OE BP
                  refine hko hK ⟨CellIs.below u0 hbel17, (SRow.four RT17 k _ HTK.out).1, (SRow.four RT17 k _ HTK.out).2.1, (SRow.four RT17 k _ HTK.out).2.2.1, (SRow.four RT17 k _ HTK.out).2.2.2, (Blk.l2 BB17)⟩ fun hHeld => ?_
                  clear hK K
                  refine tk 18 7 ?_
                  refine wpAnyH_done (by kernel_rfl) ?_ _
                  clear hHeld
                  go_wp2
                  go_roundg (T.length - (k + 1))
                  case measure => omega
                  case rel => exact ⟨k + 1, D ++ [(⟨a61, k61, d1, k1, d2, k2⟩, (st ++ [(t1, t2, t3, t4)], X2, Y2))], by omega, rfl, by go_num, hO17, hPA17.snoc hXP17, by rw [List.map_append, HDK.out, HMS.out T k (t1, t2, t3, t4) HTK.out, HOM.out, addP, if_neg (by rw [← HDK.out]; exact HNG.out)]; rfl, fun x hx => by rcases List.mem_append.1 hx with hx | hx; (exact hDs x hx); (simp at hx; subst hx; exact hsa17), OT17, hbel17⟩
              · go_simp
                (try go_wp2_with fail)
                refine hko hK ⟨CellIs.below u0 (chain hbel (hbS.alloc hbS.size _)), CellIs.below s0 (hbS.alloc hbS.size _), CellIs.below s1 (hbS.alloc hbS.size _), CellIs.below s2 (hbS.alloc hbS.size _), CellIs.below s3 (hbS.alloc hbS.size _), (Blk.l2 (BB.below (hbS.alloc hbS.size _)))⟩ fun hHeld => ?_
                clear hK K
                have BL := Blk.new vd #[.int .i64 t1, .int .i64 t2, .int .i64 t3, .bool t4] 55
                have hzL : vd.heap.size + 1 ≤ (vd.alloc (.cells #[.int .i64 t1, .int .i64 t2, .int .i64 t3, .bool t4] 55)).heap.size ∧ (vd.alloc (.cells #[.int .i64 t1, .int .i64 t2, .int .i64 t3, .bool t4] 55)).heap.size ≤ vd.heap.size + 1 := ⟨by simp, by simp⟩
                have hzS2 := hbS.size
                replace hbS := hbS.alloc hbS.size (.cells #[.int .i64 t1, .int .i64 t2, .int .i64 t3, .bool t4] 55)
                generalize (vd.alloc (.cells #[.int .i64 t1, .int .i64 t2, .int .i64 t3, .bool t4] 55)) = wL at *
                refine rdk 1 49 fun K hK => ?_
                go_simp
                (try go_wp2_with fail)
                refine hko hK ⟨CellIs.below u0 (chain hbel (hbS.alloc hbS.size _)), CellIs.below s0 (hbS.alloc hbS.size _), CellIs.below s1 (hbS.alloc hbS.size _), CellIs.below s2 (hbS.alloc hbS.size _), CellIs.below s3 (hbS.alloc hbS.size _), (Blk.l2 (BB.below (hbS.alloc hbS.size _)))⟩ fun hHeld => ?_
                clear hK K
                have OE := OwnT.start wL
                have hzE : wL.heap.size + 1 ≤ (wL.alloc (.cells #[] 55)).heap.size ∧ (wL.alloc (.cells #[] 55)).heap.size ≤ wL.heap.size + 1 := ⟨by simp, by simp⟩
                replace BL := BL.alloc (.cells #[] 55)
                have hzS := hbS.size
                replace hbS := hbS.alloc hbS.size (.cells #[] 55)
                generalize (wL.alloc (.cells #[] 55)) = wE at *
                refine rdk 7 55 fun K hK => ?_
                refine step_appT rfl (.tmp 49) (.tmp 54) rfl wL.heap.size (.slice (some ⟨wL.heap.size, 0, none⟩) 0 0) [] rfl OE g6 st.length sc st rfl rfl (R6.below (chain hbel hbS)) (by simp; omega) (by omega) ?_
                intro va w7 hO7 hb7 hk7
                replace BL := (hk7 vd.heap.size BL.lt (by simp [Value.ownBlock]; omega)).trans BL
                have BL : Blk w7 vd.heap.size #[.int .i64 t1, .int .i64 t2, .int .i64 t3, .bool t4] 55 := BL
                have hz7 := hb7.size
                replace hbS := hbS.trans (hb7.mono (by omega))
                rw [List.nil_append] at hO7
                clear OE
                have OE := hO7
                obtain ⟨a55, k55, rfl⟩ := OE.form
                clear hO7 hb7 hk7
                refine hko hK ⟨CellIs.below u0 (chain hbel hbS), CellIs.below s0 hbS, CellIs.below s1 hbS, CellIs.below s2 hbS, CellIs.below s3 hbS, (Blk.l2 (BB.below hbS))⟩ fun hHeld => ?_
                clear hK K
                refine rdk 13 61 fun K hK => ?_
                refine step_appT rfl (.tmp 55) (.tmp 60) rfl wL.heap.size _ st rfl OE vd.heap.size 1 1 [(t1, t2, t3, t4)] rfl rfl (SRow.one (u := (t1, t2, t3, t4)) BL) (by omega) (by omega) ?_
                intro va w13 hO13 hb13 hk13
                have hz13 := hb13.size
                replace hbS := hbS.trans (hb13.mono (by omega))
                clear OE BL
                have OE := hO13
                obtain ⟨a61, k61, rfl⟩ := OE.form
                clear hO13 hb13 hk13
                refine hko hK ⟨CellIs.below u0 (chain hbel hbS), CellIs.below s0 hbS, CellIs.below s1 hbS, CellIs.below s2 hbS, CellIs.below s3 hbS, (Blk.l2 (BB.below hbS))⟩ fun hHeld => ?_
                clear hK K
                refine tk 15 63 ?_
                refine rdk 16 64 fun K hK => ?_
                go_simp
                (try go_wp2_with fail)
                refine hko hK ⟨CellIs.below u0 (chain hbel (hbS.alloc hbS.size _)), CellIs.below s0 (hbS.alloc hbS.size _), CellIs.below s1 (hbS.alloc hbS.size _), CellIs.below s2 (hbS.alloc hbS.size _), CellIs.below s3 (hbS.alloc hbS.size _), (Blk.l2 (BB.below (hbS.alloc hbS.size _)))⟩ fun hHeld => ?_
                clear hK K
                have BP := Blk.new w13 #[.slice a61 (st.length + 1) k61, .slice d1 X2.length k1, .slice d2 Y2.length k2] 44
                have hzP : w13.heap.size + 1 ≤ (w13.alloc (.cells #[.slice a61 (st.length + 1) k61, .slice d1 X2.length k1, .slice d2 Y2.length k2] 44)).heap.size ∧ (w13.alloc (.cells #[.slice a61 (st.length + 1) k61, .slice d1 X2.length k1, .slice d2 Y2.length k2] 44)).heap.size ≤ w13.heap.size + 1 := ⟨by simp, by simp⟩
                replace OE := OE.alloc (.cells #[.slice a61 (st.length + 1) k61, .slice d1 X2.length k1, .slice d2 Y2.length k2] 44)
                replace hbS := hbS.alloc hbS.size (.cells #[.slice a61 (st.length + 1) k61, .slice d1 X2.length k1, .slice d2 Y2.length k2] 44)
                generalize (w13.alloc (.cells #[.slice a61 (st.length + 1) k61, .slice d1 X2.length k1, .slice d2 Y2.length k2] 44)) = wP at *
                have hl1 : (st ++ [(t1, t2, t3, t4)]).length = st.length + 1 := by simp
                rw [← hl1] at BP
                clear hl1
                refine rdk 17 65 fun K hK => ?_
                have OOp := OO.below hbS
                refine step_appP rfl (.tmp 48) (.tmp 64) rfl v0.heap.size _ D rfl OOp w13.heap.size 1 (⟨a61, k61, d1, k1, d2, k2⟩, (st ++ [(t1, t2, t3, t4)], X2, Y2)) rfl (PRow.one (u := (⟨a61, k61, d1, k1, d2, k2⟩, (st ++ [(t1, t2, t3, t4)], X2, Y2))) BP) (by omega) (by omega) ?_
                intro vo w17 hO17 hb17 hk17
                have hz17 := hb17.size
                have hbel17 := (chain hbel hbS).trans hb17
                have RT17 := ((RT.below hbS).push OOp (by decide) hk17 : SRow w17 gT T)
                have BB17 : Blk w17 bb #[.slice d1 X2.length k1, .slice d2 Y2.length k2] 28 := (hk17 bb (BB.below hbS).lt (OOp.ne (BB.below hbS) (by decide))).trans (BB.below hbS)
                have hPA17 := ((hPA.below hbS).push OOp hk17).mono (Nat.le_refl v0.heap.size) (show w10.heap.size ≤ w17.heap.size by omega)
                have hXP : PAt v0.heap.size wP.heap.size wP (⟨a61, k61, d1, k1, d2, k2⟩, (st ++ [(t1, t2, t3, t4)], X2, Y2)) := ⟨OE.ost.mono (by omega) (Nat.le_refl _), (hO3.below hbS).mono (Nat.le_refl _) (by omega)⟩
                have hXP17 := (hXP.push OOp hk17).mono (Nat.le_refl v0.heap.size) hz17
                have hsa17 : ∃ g, a61 = some ⟨g, 0, none⟩ := by obtain ⟨g, e, _⟩ := OE.ost.row (k := 0) (by simp); exact ⟨g, e⟩
                have OT17 := ((OT.below hbS).push OOp hk17).mono (Nat.le_refl v0.heap.size) (show w10.heap.size ≤ w17.heap.size by omega)
                clear OOp OE BP
                refine hko hK ⟨CellIs.below u0 hbel17, (SRow.four RT17 k _ HTK.out).1, (SRow.four RT17 k _ HTK.out).2.1, (SRow.four RT17 k _ HTK.out).2.2.1, (SRow.four RT17 k _ HTK.out).2.2.2, (Blk.l2 BB17)⟩ fun hHeld => ?_
                clear hK K
                refine tk 18 7 ?_
                refine wpAnyH_done (by kernel_rfl) ?_ _
                clear hHeld
                go_wp2
                go_roundg (T.length - (k + 1))
                case measure => omega
                case rel => exact ⟨k + 1, D ++ [(⟨a61, k61, d1, k1, d2, k2⟩, (st ++ [(t1, t2, t3, t4)], X2, Y2))], by omega, rfl, by go_num, hO17, hPA17.snoc hXP17, by rw [List.map_append, HDK.out, HMS.out T k (t1, t2, t3, t4) HTK.out, HOM.out, addP, if_neg (by rw [← HDK.out]; exact HNG.out)]; rfl, fun x hx => by rcases List.mem_append.1 hx with hx | hx; (exact hDs x hx); (simp at hx; subst hx; exact hsa17), OT17, hbel17⟩
            · have hng : (D.map Prod.snd).any (fun q => decide (q.2 = (X2, Y2))) = true := by
                have := HNEG.out
                rcases Bool.eq_false_or_eq_true ((D.map Prod.snd).any (fun q => decide (q.2 = (X2, Y2)))) with h | h
                · exact h
                · rw [h] at this
                  exact absurd (this.2 (by simp)) hF0
              have HNG := Lib.hid hng
              clear hng
              go_wp2
              go_roundg (T.length - (k + 1))
              case measure => omega
              case rel => exact ⟨k + 1, D, by omega, rfl, by go_num, OO, hPA, by rw [HMS.out T k (t1, t2, t3, t4) HTK.out, HOM.out, addP, ← HDK.out, if_pos HNG.out], hDs, OT, hbel⟩
        · obtain rfl : k = T.length := by omega
          go_wp2
          go_roundg (l.length - (i + 1))
          case measure => omega
          case rel => exact ⟨i + 1, D, by omega, rfl, by go_num, hO, hPA, by rw [hDk, HME.out], hDs, hbel⟩
    · obtain rfl : i = l.length := by omega
      obtain ⟨aO, kO, rfl⟩ := hO.form
      have hfin : D.map Prod.snd = R := by rw [hDm, ← HR.out, ← hLl, List.take_length]; rfl
      have HFIN := Lib.hid hfin
      clear hDm hfin
      go_wp2
      go_ret
      have hwz := hbel.size
      exact ⟨aO, kO, D, rfl, HFIN.out, hO.opl.mono (by omega) (Nat.le_refl _), hPA.mono (by omega) (Nat.le_refl _), hDs, chain hb hbel⟩
end Go.Proofs.YtciljbnailobgaaGreat
