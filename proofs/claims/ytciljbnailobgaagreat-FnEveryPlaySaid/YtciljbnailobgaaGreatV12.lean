/- Texts of a proof, laid together. -/
import Derived.Test.YtciljbnailobgaaGreatV10
import Derived.Test.YtciljbnailobgaaGreatV11
import Derived.Shelf.Abstract
import Derived.Shelf.RegionOpen
import Derived.WalkKit
import Derived.OwnWalkIn
import Derived.TacticsInMore
import Derived.LoopNIn
import Derived.LoopIn
import Derived.Maps.OwnIn
import Derived.Maps.AppendAt
import Derived.Deep.WholeRow
import Derived.Test.YtciljbnailobgaaGreatV08
import Derived.Test.YtciljbnailobgaaGreatV01
import Derived.BigQuiet
namespace Go.Proofs.YtciljbnailobgaaGreat
open Go.ChangeShapes Go.WideShapes Go.ChangeAt Go.RowKit
attribute [local go_sem] Oper.semAt_some
set_option linter.unusedVariables false
set_option linter.unusedSimpArgs false
set_option maxRecDepth 4000
theorem cell_put {X : World} {g i l : Nat} {v : Value} {o o' : Obj} (hl : X.heap[l]? = some o) (ho : o'.isCells = false) (h : (X.putObj l o').cell? ⟨g, i, none⟩ = some v) : X.cell? ⟨g, i, none⟩ = some v := by
  by_cases e : g = l
  · subst e
    have hlt := (Array.getElem?_eq_some_iff.1 hl).1
    unfold World.cell? at h
    simp only [World.putObj_heap_same hlt] at h
    cases o' <;> simp_all [Obj.isCells]
  · unfold World.cell? at h ⊢
    simp only [World.putObj_heap_other e] at h
    exact h
def FirstGot (P : Nat) (c h s : Int) (lo2 K : Nat) (S : List PP → Prop) (w : World) (e : Ending) (w' : World) : Prop :=
  ∃ a k L xs, e = .returned (.slice a L.length k) ∧ S xs ∧ L.map (·.2) = addAll [] (xs.map (·.2)) ∧ OPl w.heap.size w'.heap.size w' a L ∧ PAll lo2 w'.heap.size w' L ∧
      (∀ x ∈ L, isB (P : Int) c h s x.2.2.1 x.2.2.2 = true ∧ x.2.1.length ≤ K) ∧ L.Pairwise Dis ∧ Below w.heap.size w w'
theorem fitB_of {P : Nat} {c h s : Int} {q : List Int × List Int} (g : isB (P : Int) c h s q.1 q.2 = true) : FitB P q := by
  have gp := isB_parts g
  have gv := vB_iff.1 (isB_vB g)
  simp only [isB, Bool.and_eq_true] at g
  obtain ⟨a1, a2, a3⟩ := sideB_iff.1 g.2.1
  obtain ⟨b1, b2, b3⟩ := sideB_iff.1 g.2.2.1
  exact ⟨by omega, by omega, fun x hx => by have := a2 x hx; omega, fun x hx => by have := b2 x hx; omega⟩
theorem footP_below {B3 M : Nat} {X Y : World} (hb : Below X.heap.size X Y) (h3 : B3 < X.heap.size) {k : Nat} (h : footP B3 M Y k) : footP B3 M X k := by
  rcases h with rfl | rfl | ⟨v, hv, ho⟩
  · exact .inl rfl
  · exact .inr (.inl rfl)
  · exact .inr (.inr ⟨v, by rw [← hb.cell (p := ⟨B3, 0, none⟩) h3]; exact hv, ho⟩)
theorem seen_any (L : List PP) (q : List Int × List Int) : decide (q ∈ L.map (·.2.2)) = (L.map (·.2)).any (fun r => decide (r.2 = q)) := by
  induction L with
  | nil => simp
  | cons a l ih =>
    rw [List.map_cons, List.map_cons, List.any_cons, ← ih]
    by_cases e : a.2.2 = q
    · simp [e]
    · simp [e, Ne.symm e]
set_option maxRecDepth 100000 in
set_option maxHeartbeats 4000000 in
theorem first_any (P : Nat) (c h s : Int) (lo lo2 K N gf : Nat) (lb : Array Value) (S : List PP → Prop) (w : World) (hP : P ≤ 24) (hN : N ≤ 1000000) (hlo : lo ≤ w.heap.size) (eg : ∀ args w, (callFunc gf args).run Tryz.prog w = .ok (.enter gf args) w)
    (hseq : SeqGood gf lb (fun x : PP => #[plV x]) (GoodP (P : Int) c h s lo2 K) Dis lo S N w) :
    Calls Tryz.prog 83 #[.func (.func gf) #[] lb] w (FirstGot P c h s lo2 K S w) := by
  refine (callsIn_wide (n := 3)).1 ?_
  have hmm := @run_makeMap Tryz.prog
  refine callsIn_of_wp_marks Tryz.func83 rfl trivial ?_ rfl
  simp only [Tryz.ntmps83, List.size_toArray, List.length_cons, List.length_nil, Nat.reduceAdd, Nat.reduceSub, Array.replicate_succ, Array.replicate_zero, List.push_toArray, List.append_toArray, List.nil_append, List.cons_append]
  gi_wp2
  have BL := ((Blk.new w #[.slice none 0 0] 33).alloc (.map #[] 0)).alloc (.cells #[.map (some (w.heap.size + 1))] 140)
  have hz1 : (w.alloc (.cells #[.slice none 0 0] 33)).heap.size = w.heap.size + 1 := by simp
  have hz2 : ((w.alloc (.cells #[.slice none 0 0] 33)).alloc (.map #[] 0)).heap.size = w.heap.size + 1 + 1 := by simp
  have hz3 : (((w.alloc (.cells #[.slice none 0 0] 33)).alloc (.map #[] 0)).alloc (.cells #[.map (some (w.heap.size + 1))] 140)).heap.size = w.heap.size + 1 + 1 + 1 := by simp
  have BM := Blk.new ((w.alloc (.cells #[.slice none 0 0] 33)).alloc (.map #[] 0)) #[.map (some (w.heap.size + 1))] 140
  rw [hz2] at BM
  have hSM : SeenM (((w.alloc (.cells #[.slice none 0 0] 33)).alloc (.map #[] 0)).alloc (.cells #[.map (some (w.heap.size + 1))] 140)) (w.heap.size + 1) 0 P [] := by
    have q := SeenM.start (w.alloc (.cells #[.slice none 0 0] 33)) P
    rw [hz1] at q
    exact q.keep (Below.heap_alloc _ _ _ (by rw [hz2]; omega))
  have hb0 : Below w.heap.size w (((w.alloc (.cells #[.slice none 0 0] 33)).alloc (.map #[] 0)).alloc (.cells #[.map (some (w.heap.size + 1))] 140)) := (((Below.refl _ _).alloc (Nat.le_refl _) _).alloc (by simp) _).alloc (by simp; omega) _
  have hO0 : OwnP (((w.alloc (.cells #[.slice none 0 0] 33)).alloc (.map #[] 0)).alloc (.cells #[.map (some (w.heap.size + 1))] 140)) w.heap.size (.slice none 0 0) [] := OwnP.nil _ _
  generalize (((w.alloc (.cells #[.slice none 0 0] 33)).alloc (.map #[] 0)).alloc (.cells #[.map (some (w.heap.size + 1))] 140)) = v1 at *
  have hI0 : InvP P c h s lo2 K w v1 [] v1 := ⟨⟨_, [], BL, hO0, rfl, PAll.nil _ _ _, fun x hx => by simp at hx, hSM, SubD.nil⟩, BM, hb0, Nat.le_refl _⟩
  refine range_good (n := 1) rfl eg hseq hb0 (by omega) (fun _ => rfl) (footP w.heap.size (w.heap.size + 1)) ?hf ?hfp (InvP P c h s lo2 K w v1) ?hIf ?hIb ?hIp ?hGb ?hGp hI0
    (fun x a' W' => ∃ B5, a' = { tmps := #[.func (.func gf) #[] lb, undef, .slice none 0 0, .pointer (some ⟨w.heap.size, 0, none⟩), .pointer (some ⟨w.heap.size + 1 + 1, 0, none⟩), .pointer (some ⟨B5, 0, none⟩), undef, .map (some (w.heap.size + 1)), .func (.func gf) #[] lb, plV x, undef, undef, undef, undef, undef, undef, undef, undef, undef, undef, undef, undef, undef, undef], defers := [] } ∧ Blk W' B5 #[pl0 x, pl1 x, pl2 x] 44 ∧ v1.heap.size ≤ B5) ?hAp ?hassign ?hbody ?hdone
  case hf =>
    rintro X Y k hX hb (rfl | rfl | ⟨v, hv, ho⟩)
    · exact .inl rfl
    · exact .inr (.inl rfl)
    · exact .inr (.inr ⟨v, by rw [← hb.cell (p := ⟨w.heap.size, 0, none⟩) (by simp; omega)]; exact hv, ho⟩)
  case hfp =>
    rintro X l o o' k hl ho ho' (rfl | rfl | ⟨v, hv, hv2⟩)
    · exact .inl rfl
    · exact .inr (.inl rfl)
    · exact .inr (.inr ⟨v, cell_put hl ho' hv, hv2⟩)
  case hIf =>
    rintro pre X k ⟨⟨v, L, q1, q2, q3, q4, q5, q6, q7⟩, q8, q9, q10⟩ (rfl | rfl | ⟨v', hv, ho⟩)
    · exact q1.lt
    · exact q6.lt
    · have e : v' = v := by
        have := q1.one.1
        rw [hv] at this
        simpa using this
      subst e
      exact (World.ownsRow.lt q2 k ho).2
  case hIb =>
    rintro pre X Y ⟨⟨v, L, q1, q2, q3, q4, q5, q6, q7⟩, q8, q9, q10⟩ hb
    have hsz := hb.size
    exact ⟨⟨v, L, q1.below hb, q2.below hb, q3, (q4.below hb).mono (Nat.le_refl _) hb.size, q5, q6.keep (hb.block _ q6.lt), q7⟩, q8.below hb, chain q9 hb, by omega⟩
  case hIp =>
    rintro pre X l o o' hl h1 h2 ⟨⟨v, L, q1, q2, q3, q4, q5, q6, q7⟩, q8, q9, q10⟩
    exact ⟨⟨v, L, q1.put h1 h2, q2.put h1 h2, q3, fun y hy => by rw [World.putObj_size]; exact (q4 y hy).put h1 h2, q5, q6.keep (World.putObj_heap_other (by omega)), q7⟩, q8.put h1 h2, q9.trans (below_put (by omega)), by rw [World.putObj_size]; exact q10⟩
  case hGb =>
    rintro x X Y ⟨q1, q2, q3⟩ hb
    exact ⟨(q1.below hb).mono (Nat.le_refl _) hb.size, q2, q3⟩
  case hGp =>
    rintro x X l o o' h1 h2 ⟨q1, q2, q3⟩
    exact ⟨by rw [World.putObj_size]; exact q1.put h1 h2, q2, q3⟩
  case hAp =>
    rintro x a' X l o o' h1 h2 ⟨B5, e, q1, q2⟩
    exact ⟨B5, e, q1.put h1 h2, q2⟩
  case hassign =>
    intro l x W Kc hsz hK
    gi_wp2
    exact hK _ _ ((Below.refl _ _).alloc (Nat.le_refl _) _) ⟨W.heap.size, rfl, Blk.new _ _ _, hsz⟩
  case hbody =>
    rintro l pre x a' W hl ⟨⟨v, L, q1, q2, q3, q4, q5, q6, q7⟩, q8, q9, q10⟩ ⟨hPA, gx, hKx⟩ ⟨B5, rfl, BB5, hB5⟩ hRx hlen
    have r1 := hPA.2.irow1
    have r2 := hPA.2.irow2
    have gp := isB_parts gx
    have hfit : FitB P x.2.2 := fitB_of gx
    obtain ⟨z0, z1, z2, zf, zl⟩ := BB5.tri
    have hNL : L.length ≤ 1000000 := by have := q7.1; omega
    have hvw := q1.one.1
    obtain ⟨ARR, hARR⟩ : ∃ q, (i8s (plcL x.2.2.1 x.2.2.2)).toArray = q := ⟨_, rfl⟩
    have hPL := fun (W' : World) (u1 : IRow W' x.1.b1 x.2.2.1) (u2 : IRow W' x.1.b2 x.2.2.2) => placement_any x.1.b1 x.1.b2 _ _ x.1.k1 x.1.k2 x.2.2.1 x.2.2.2 W' rfl rfl (by have := hfit.1; omega) (by have := hfit.2.1; omega) hfit.2.2.1 hfit.2.2.2 u1 u2
    rw [hARR] at hPL
    have HPL := Lib.hid hPL
    clear hPL
    have hsz : ARR.size = 50 := by
      rw [← hARR]
      have p1 := pad25_length x.2.2.1 (by have := hfit.1; omega)
      have p2 := pad25_length x.2.2.2 (by have := hfit.2.1; omega)
      simp [i8s, plcL]
      omega
    have hone : ARR.all (·.oneCell') = true := by
      rw [← hARR, List.all_toArray, List.all_eq_true]
      intro y hy
      obtain ⟨y', _, rfl⟩ := List.mem_map.1 hy
      rfl
    have hinfo : (Tryz.prog.info? 144).map (·.size) = some ARR.size := by rw [hsz]; exact infoPlc
    have hold : (#[.int .i8 0, .int .i8 0, .int .i8 0, .int .i8 0, .int .i8 0, .int .i8 0, .int .i8 0, .int .i8 0, .int .i8 0, .int .i8 0, .int .i8 0, .int .i8 0, .int .i8 0, .int .i8 0, .int .i8 0, .int .i8 0, .int .i8 0, .int .i8 0, .int .i8 0, .int .i8 0, .int .i8 0, .int .i8 0, .int .i8 0, .int .i8 0, .int .i8 0, .int .i8 0, .int .i8 0, .int .i8 0, .int .i8 0, .int .i8 0, .int .i8 0, .int .i8 0, .int .i8 0, .int .i8 0, .int .i8 0, .int .i8 0, .int .i8 0, .int .i8 0, .int .i8 0, .int .i8 0, .int .i8 0, .int .i8 0, .int .i8 0, .int .i8 0, .int .i8 0, .int .i8 0, .int .i8 0, .int .i8 0, .int .i8 0, .int .i8 0] : Array Value).size = ARR.size := by rw [hsz]; rfl
    have hlook := fun (W' : World) (m : SeenM W' (w.heap.size + 1) L.length P (L.map (·.2.2))) => m.look hP hfit
    rw [hARR] at hlook
    have hsn := seen_any L x.2.2
    rw [q3] at hsn
    have hadd := addAll_snoc [] (pre.map (·.2)) x.2
    have hpre : (pre ++ [x]).map (·.2) = pre.map (·.2) ++ [x.2] := by rw [List.map_append]; rfl
    obtain ⟨sb, hsb⟩ : ∃ sb, decide (x.2.2 ∈ L.map (·.2.2)) = sb := ⟨_, rfl⟩
    rw [hsb] at hlook hsn
    unfold addP at hadd
    rw [← hsn] at hadd
    have HLK := Lib.hid hlook
    have HADD := Lib.hid hadd
    have HPRE := Lib.hid hpre
    have HQ3 := Lib.hid q3
    have HARR := Lib.hid hARR
    clear hlook hadd hpre hsn hsb q3 hARR
    cases sb with
    | true =>
      have hadd := HADD.out
      rw [if_pos rfl] at hadd
      gi_wp2_with (first | (refine ⟨trivial, ?_⟩; gi_at_call 102; refine (CallsIn.inRound l (callsIn_wide.2 (HPL.out _ r1 r2))).mono ?_; rintro e w5 ⟨rfl, hb5⟩) | (refine wpListIn_store_row rfl _ (.tmp 6) (.tmp 12) rfl w5.heap.size ARR rfl rfl 144 #[.int .i8 0, .int .i8 0, .int .i8 0, .int .i8 0, .int .i8 0, .int .i8 0, .int .i8 0, .int .i8 0, .int .i8 0, .int .i8 0, .int .i8 0, .int .i8 0, .int .i8 0, .int .i8 0, .int .i8 0, .int .i8 0, .int .i8 0, .int .i8 0, .int .i8 0, .int .i8 0, .int .i8 0, .int .i8 0, .int .i8 0, .int .i8 0, .int .i8 0, .int .i8 0, .int .i8 0, .int .i8 0, .int .i8 0, .int .i8 0, .int .i8 0, .int .i8 0, .int .i8 0, .int .i8 0, .int .i8 0, .int .i8 0, .int .i8 0, .int .i8 0, .int .i8 0, .int .i8 0, .int .i8 0, .int .i8 0, .int .i8 0, .int .i8 0, .int .i8 0, .int .i8 0, .int .i8 0, .int .i8 0, .int .i8 0, .int .i8 0] (heap_alloc_last w5 _) hinfo hold hone ?_; rw [World.setRow_alloc_new]; have h56 := chain hb5 ((Below.refl w5.heap.size w5).alloc (Nat.le_refl _) (.cells ARR 144)); have B6 := heap_alloc_last w5 (.cells ARR 144); have hz6 : (w5.alloc (.cells ARR 144)).heap.size = w5.heap.size + 1 := (by simp); obtain ⟨w6, hw6⟩ : ∃ w6, w5.alloc (.cells ARR 144) = w6 := ⟨_, rfl⟩; rw [hw6] at h56 B6 hz6 ⊢; clear hw6; have q66 := q6.keep (h56.block _ q6.lt); have hlk := HLK.out _ q66; have c4 := (q8.below h56).one.1; have c3 := (q1.below h56).one.1; have p5 := (BB5.below h56).tri.1; have p6 := (BB5.below h56).tri.2.1; have p7 := (BB5.below h56).tri.2.2.1) | (refine wpListIn_load_row rfl _ (.tmp 6) rfl w5.heap.size rfl _ ARR (0, 0) (.array 2 142) B6 Tryz.underlying144 rfl hinfo ?_))
      refine ⟨?_, ?_, ?_, ?_⟩
      · exact (KeepsOthers.of_grownBy (grown_of_below h56 none) (fun j o e => by cases e)).from _
      · exact h56.mono (by omega)
      · exact ⟨h56.size, fun k hk _ => h56.block k hk, fun k hk hf => footP_below h56 q1.lt hf⟩
      · refine ⟨⟨v, L, q1.below h56, q2.below h56, ?_, (q4.below h56).mono (Nat.le_refl _) h56.size, q5, q66, q7.more x⟩, q8.below h56, chain q9 h56, by have := h56.size; omega⟩
        rw [HPRE.out, hadd, HQ3.out]
    | false =>
      have hadd := HADD.out
      rw [if_neg (by simp)] at hadd
      have hpush : ∀ w6, Below W.heap.size W w6 → SeenM w6 (w.heap.size + 1) L.length P (L.map (·.2.2)) → ∃ w7, (Instr.mapUpdate 140 (.map (some (w.heap.size + 1))) (.agg ARR) (.bool true)).run Tryz.prog w6 = .ok () w7 ∧ SeenM w7 (w.heap.size + 1) (L.length + 1) P (L.map (·.2.2) ++ [x.2.2]) ∧ w6.grownBy w7 (some (w.heap.size + 1)) := fun w6 _ m => by
        have := m.put hP (by unfold maxLen; omega) hfit
        rw [HARR.out] at this
        exact this
      gi_wp2_with (first | (refine ⟨trivial, ?_⟩; gi_at_call 102; refine (CallsIn.inRound l (callsIn_wide.2 (HPL.out _ r1 r2))).mono ?_; rintro e w5 ⟨rfl, hb5⟩) | (refine wpListIn_store_row rfl _ (.tmp 6) (.tmp 12) rfl w5.heap.size ARR rfl rfl 144 #[.int .i8 0, .int .i8 0, .int .i8 0, .int .i8 0, .int .i8 0, .int .i8 0, .int .i8 0, .int .i8 0, .int .i8 0, .int .i8 0, .int .i8 0, .int .i8 0, .int .i8 0, .int .i8 0, .int .i8 0, .int .i8 0, .int .i8 0, .int .i8 0, .int .i8 0, .int .i8 0, .int .i8 0, .int .i8 0, .int .i8 0, .int .i8 0, .int .i8 0, .int .i8 0, .int .i8 0, .int .i8 0, .int .i8 0, .int .i8 0, .int .i8 0, .int .i8 0, .int .i8 0, .int .i8 0, .int .i8 0, .int .i8 0, .int .i8 0, .int .i8 0, .int .i8 0, .int .i8 0, .int .i8 0, .int .i8 0, .int .i8 0, .int .i8 0, .int .i8 0, .int .i8 0, .int .i8 0, .int .i8 0, .int .i8 0, .int .i8 0] (heap_alloc_last w5 _) hinfo hold hone ?_; rw [World.setRow_alloc_new]; have h56 := chain hb5 ((Below.refl w5.heap.size w5).alloc (Nat.le_refl _) (.cells ARR 144)); have B6 := heap_alloc_last w5 (.cells ARR 144); have hz6 : (w5.alloc (.cells ARR 144)).heap.size = w5.heap.size + 1 := (by simp); obtain ⟨w6, hw6⟩ : ∃ w6, w5.alloc (.cells ARR 144) = w6 := ⟨_, rfl⟩; rw [hw6] at h56 B6 hz6 ⊢; clear hw6; have q66 := q6.keep (h56.block _ q6.lt); have hlk := HLK.out _ q66; have c4 := (q8.below h56).one.1; have c3 := (q1.below h56).one.1; have p5 := (BB5.below h56).tri.1; have p6 := (BB5.below h56).tri.2.1; have p7 := (BB5.below h56).tri.2.2.1) | (refine wpListIn_load_row rfl _ (.tmp 6) rfl w5.heap.size rfl _ ARR (0, 0) (.array 2 142) B6 Tryz.underlying144 rfl hinfo ?_) | (refine wpListIn_mapput rfl (.tmp 17) (.tmp 18) (.const (.bool true)) rfl (hpush w6 h56 q66) rfl rfl rfl ?_; rintro w7 ⟨q77, h67⟩; have c37 := (q1.grownM q6 h56 h67).one.1; have p57 := (BB5.grownM q6 h56 h67).tri.1; have p67 := (BB5.grownM q6 h56 h67).tri.2.1; have p77 := (BB5.grownM q6 h56 h67).tri.2.2.1) | (refine wpListIn_pushPW rfl (.tmp 19) (.tmp 21) rfl w.heap.size v L rfl (w0 := w7) (OwnP.grown q2 q6 h56 h67) x rfl rfl (by omega) (by have := h56.size; have := h67.size; have := q9.size; omega) ?_; intro v8 w8 o8 h78 f78 k8; have K8 := Lib.hid k8; clear k8; obtain ⟨a8, n8, u8, hv8⟩ : ∃ a n k, v8 = .slice a n k := (o8.form.elim fun a q => q.elim fun k e => ⟨a, _, k, e⟩); subst hv8; have b8 : Blk w8 w.heap.size #[v] 33 := (f78 _ (Nat.lt_of_lt_of_le q1.lt (Nat.le_trans h56.size h67.size)) (q2.ne q1 (by decide))).trans (q1.grownM q6 h56 h67); have c38 := b8.one.1; have f38 := b8.one.2.1))
      exact first_push hz3 hlo q1 q2 HQ3.out q4 q5 q6 q7 hRx q8 q9 q10 hPA gx hKx hadd h56 h67 q77 h78 f78 o8 K8.out
  case hdone =>
    rintro D xs W hD hS ⟨⟨v, L, q1, q2, q3, q4, q5, q6, q7⟩, q8, q9, q10⟩ hK
    obtain ⟨a, k, rfl⟩ := q2.form
    have hc := q1.one.1
    unfold marked
    gi_wp2
    refine ⟨by simp, .inl ⟨_, _, rfl, run_takeDeferred hK, ?_⟩⟩
    have hcl : Obj.isCells (.deferred (some [])) = false := rfl
    have hlt := (Array.getElem?_eq_some_iff.1 hK).1
    refine ⟨_, results_tmp rfl _ _ _, a, k, L, xs, rfl, hS, q3, ?_, fun y hy => by rw [World.putObj_size]; exact (q4 y hy).put hK hcl, q5, q7.2.1, q9.trans (below_put (by omega))⟩
    have := (q2.put (o' := .deferred none) hK hcl).opl
    exact this
end Go.Proofs.YtciljbnailobgaaGreat
namespace Go.Proofs.YtciljbnailobgaaGreat
open Go.ChangeShapes Go.WideShapes Go.ChangeAt Go.RowKit
set_option linter.unusedVariables false
set_option linter.unusedSimpArgs false
set_option maxRecDepth 4000
def LevI (P : Nat) (h : Int) (o : List Int) (st : List Ply) (k : Nat) (ls : List LV) (cur : List PP) : Prop := levels P h o st = ls.map (fun x => x.2.2.map (·.2)) ++ levels P h (o.drop k) (cur.map (·.2)) ∧ ls.length = k
theorem LevI.start (P : Nat) (h : Int) (o : List Int) (st : List Ply) (cur : List PP) (e : cur.map (·.2) = st) : LevI P h o st 0 [] cur := ⟨by rw [e]; rfl, rfl⟩
theorem LevI.stop {P : Nat} {h : Int} {o : List Int} {st : List Ply} {k : Nat} {ls : List LV} {cur : List PP} (i : LevI P h o st k ls cur) (a : Option Addr) (kk : Nat) (e : ∀ d, o[k]? = some d → nextP P h d (cur.map (·.2)) = []) :
    (ls ++ [(a, kk, cur)]).map (fun x => x.2.2.map (·.2)) = levels P h o st := by
  rw [i.1, List.map_append]
  congr 1
  cases hd : o.drop k with
  | nil => rfl
  | cons d ds =>
    have : o[k]? = some d := by
      have := congrArg List.head? hd
      rw [List.head?_drop] at this
      simpa using this
    rw [levels, if_pos (e d this)]
    rfl
theorem LevI.step {P : Nat} {h : Int} {o : List Int} {st : List Ply} {k : Nat} {ls : List LV} {cur nxt : List PP} {d : Int} (i : LevI P h o st k ls cur) (a : Option Addr) (kk : Nat) (hd : o[k]? = some d) (hn : nxt.map (·.2) = nextP P h d (cur.map (·.2))) (h0 : nxt ≠ []) :
    LevI P h o st (k + 1) (ls ++ [(a, kk, cur)]) nxt := by
  refine ⟨?_, by rw [List.length_append, i.2]; rfl⟩
  have hk := (List.getElem?_eq_some_iff.1 hd).1
  have hdr : o.drop k = d :: o.drop (k + 1) := by rw [List.drop_eq_getElem_cons hk, (List.getElem?_eq_some_iff.1 hd).2]
  rw [i.1, hdr, levels, if_neg (by rw [← hn]; simpa using h0), List.map_append, List.append_assoc, hn]
  rfl
theorem LsAll.snoc {lo hi : Nat} {w : World} {l : List LV} {x : LV} (h : LsAll lo hi w l) (hx : LvAt lo hi w x) : LsAll lo hi w (l ++ [x]) := fun y hy => by
  rcases List.mem_append.1 hy with hy | hy
  · exact h y hy
  · simp at hy; subst hy; exact hx
theorem longer1_enter (args : Array Value) (w : World) : (callFunc 104 args).run Tryz.prog w = .ok (.enter 104 args) w := by
  obtain ⟨fn, hf, hn, cc, hc⟩ : ∃ fn, Tryz.prog.funcs[(104 : FuncId)]? = some fn ∧ (fn.name == "runtime.NumGoroutine") = false ∧ ∃ cc, fn.body = some cc := ⟨_, Tryz.func104, by kernel_rfl, _, rfl⟩
  have h1 : ¬ fn.name = "runtime.NumGoroutine" := by simpa using hn
  simp [callFunc, hf, h1, hc]
theorem OwnL.at {w : World} {base : Nat} {v : Value} {l : List LV} {x : LV} (h : OwnL w base v (l ++ [x])) : ∃ g k, v = .slice (some ⟨g, 0, none⟩) (l ++ [x]).length k ∧ base ≤ g ∧ VRow w g ((l ++ [x]).flatMap lvC) 33 := by
  obtain ⟨hl, ⟨_, h2⟩ | ⟨g, cap, cur, hv, hb, hh, hc, hm, hs, ht⟩⟩ := h
  · simp at h2
  · refine ⟨g, cap, hv, hb, cur, hh, ?_, ?_⟩
    · rw [hl, hs]; exact Nat.mul_le_mul_right _ hc
    · rw [hl]; exact ht
theorem li_put {W : World} {g : Nat} {vs : Array Value} {v v' : Value} (B : Blk W g vs 70) : ∀ g' cur t, Blk W g' cur t → t ≠ 70 → ((W.setCell ⟨g, 0, none⟩ v).setCell ⟨g, 1, none⟩ v').heap[g']? = W.heap[g']? := by
  intro g' cur t hB ht
  have hne : g' ≠ g := by
    rintro rfl
    have e1 : W.heap[g']? = some (.cells cur t (0, 0)) := hB
    have e2 : W.heap[g']? = some (.cells vs 70 (0, 0)) := B
    rw [e1] at e2
    injection e2 with e2
    injection e2 with _ e3
    exact ht e3
  rw [heap_setCell_other _ _ _ _ hne, heap_setCell_other _ _ _ _ hne]
def ListGot (go : Nat) (o : List Int) (lv : List (List Ply)) (p c h s : Int) (w : World) (e : Ending) (w' : World) : Prop :=
  ∃ gL k ls, e = .returned (liV ((go, o), (gL, k, ls))) ∧ LiAt w.heap.size w'.heap.size w' ((go, o), (gL, k, ls)) ∧ ls.map (fun x => x.2.2.map (·.2)) = lv ∧ (∀ x ∈ ls, Fine p c h s (x.2.2.map (·.2)) ∧ x.2.2.Pairwise Dis) ∧ Below w.heap.size w w'
set_option maxRecDepth 100000 in
set_option maxHeartbeats 4000000 in
theorem listingOf_any (P : Nat) (c h s : Int) (a1 a2 : Option Addr) (n1 n2 c1 c2 go : Nat) (xs ys o : List Int) (w : World) (h1 : xs.length = n1) (h2 : ys.length = n2) (r1 : IRow w a1 xs) (r2 : IRow w a2 ys) (g : isB (P : Int) c h s xs ys = true) (hR : Row w go o) (ho : o.length ≤ 4) (hdd : ∀ d ∈ o, inB d 1 s = true) :
    Calls Tryz.prog 56 #[.agg #[.int .i64 (P : Int), .int .i64 c, .int .i64 h, .int .i64 s], .agg #[.slice a1 n1 c1, .slice a2 n2 c2], .slice (some ⟨go, 0, none⟩) o.length o.length] w (ListGot go o (levels P h o (startP xs ys)) (P : Int) c h s w) := by
  have gp := isB_parts g
  have hcp := fun W (q1 : IRow W a1 xs) (q2 : IRow W a2 ys) => copied_any a1 a2 n1 n2 c1 c2 xs ys W h1 h2 (by omega) (by omega) (by omega) (by omega) q1 q2
  have HCP := Lib.hid hcp
  clear hcp
  obtain ⟨BV, BB, BR, hb, hz⟩ := three_new w #[.int .i64 (P : Int), .int .i64 c, .int .i64 h, .int .i64 s] #[.slice a1 n1 c1, .slice a2 n2 c2] #[.slice none 0 0, .slice none 0 0] 25 28 70
  have hz1 : w.heap.size + 1 + 1 + 1 ≤ (((w.alloc (.cells #[.int .i64 (P : Int), .int .i64 c, .int .i64 h, .int .i64 s] 25)).alloc (.cells #[.slice a1 n1 c1, .slice a2 n2 c2] 28)).alloc (.cells #[.slice none 0 0, .slice none 0 0] 70)).heap.size := by rw [hz]; omega
  clear hz
  replace r1 := r1.below hb
  replace r2 := r2.below hb
  replace hR := hR.below hb
  have p24 : P ≤ 24 := by omega
  have HG := Lib.hid g
  have HGP := Lib.hid gp
  have HDD := Lib.hid hdd
  clear g gp hdd
  obtain ⟨x0, x1, x2, x3, xf, xl⟩ := BV.four
  obtain ⟨y0, y1, yf, yl⟩ := BB.two
  obtain ⟨z0, z1, zf, zl⟩ := BR.two
  go_enter Tryz.func56, Tryz.ntmps56
  go_wp2_with fail
  clear x0 x1 x2 x3 xf xl y0 y1 yf yl z0 z1 zf zl
  generalize (((w.alloc (.cells #[.int .i64 (P : Int), .int .i64 c, .int .i64 h, .int .i64 s] 25)).alloc (.cells #[.slice a1 n1 c1, .slice a2 n2 c2] 28)).alloc (.cells #[.slice none 0 0, .slice none 0 0] 70)) = v0 at *
  refine (HCP.out _ r1 r2).mono ?_
  rintro e w1 ⟨g1, g2, rfl, hne, m1, m2, R1, R2, hb1⟩
  have hz2 := hb1.size
  obtain ⟨x00, hx00⟩ : ∃ x : PP, x = ((⟨none, 0, some ⟨g1, 0, none⟩, n1, some ⟨g2, 0, none⟩, n2⟩, ([], xs, ys)) : PP) := ⟨_, rfl⟩
  have hp00 : #[pl0 x00, pl1 x00, pl2 x00] = #[.slice none 0 0, .slice (some ⟨g1, 0, none⟩) n1 n1, .slice (some ⟨g2, 0, none⟩) n2 n2] := by rw [hx00]; simp [h1, h2]
  have BX := Blk.new w1 #[.slice none 0 0, .slice (some ⟨g1, 0, none⟩) n1 n1, .slice (some ⟨g2, 0, none⟩) n2 n2] 44
  have OL : OwnL ((w1.alloc (.cells #[.slice none 0 0, .slice (some ⟨g1, 0, none⟩) n1 n1, .slice (some ⟨g2, 0, none⟩) n2 n2] 44)).alloc (.cells #[.slice (some ⟨w1.heap.size, 0, none⟩) 1 1] 33)) v0.heap.size (.slice (some ⟨w1.heap.size + 1, 0, none⟩) 1 1) [(some ⟨w1.heap.size, 0, none⟩, 1, [x00])] := by
    have q := OwnE.one (enc := lvC) (T := 33) (sz := 1) (w1.alloc (.cells #[.slice none 0 0, .slice (some ⟨g1, 0, none⟩) n1 n1, .slice (some ⟨g2, 0, none⟩) n2 n2] 44)) (some ⟨w1.heap.size, 0, none⟩, 1, [x00]) #[.slice (some ⟨w1.heap.size, 0, none⟩) 1 1] rfl rfl
    rw [World.size_alloc] at q
    exact q.mono (by omega)
  have hb2 : Below w1.heap.size w1 ((w1.alloc (.cells #[.slice none 0 0, .slice (some ⟨g1, 0, none⟩) n1 n1, .slice (some ⟨g2, 0, none⟩) n2 n2] 44)).alloc (.cells #[.slice (some ⟨w1.heap.size, 0, none⟩) 1 1] 33)) := ((Below.refl _ _).alloc (Nat.le_refl _) _).alloc (by simp) _
  have BX2 := BX.alloc (.cells #[.slice (some ⟨w1.heap.size, 0, none⟩) 1 1] 33)
  have hz3 : ((w1.alloc (.cells #[.slice none 0 0, .slice (some ⟨g1, 0, none⟩) n1 n1, .slice (some ⟨g2, 0, none⟩) n2 n2] 44)).alloc (.cells #[.slice (some ⟨w1.heap.size, 0, none⟩) 1 1] 33)).heap.size = w1.heap.size + 1 + 1 := by simp
  have R1' := R1.below hb2
  have R2' := R2.below hb2
  have l1 := R1.lt
  have l2 := R2.lt
  clear R1 R2 BX
  go_wp2_with fail
  generalize ((w1.alloc (.cells #[.slice none 0 0, .slice (some ⟨g1, 0, none⟩) n1 n1, .slice (some ⟨g2, 0, none⟩) n2 n2] 44)).alloc (.cells #[.slice (some ⟨w1.heap.size, 0, none⟩) 1 1] 33)) = w2 at *
  have hbl := chain hb1 hb2
  have hLS : LsAll v0.heap.size w2.heap.size w2 [(some ⟨w1.heap.size, 0, none⟩, 1, [x00])] := by
    intro y hy
    simp at hy
    subst hy
    refine ⟨.inr ⟨w1.heap.size, rfl, by omega, by omega, _, BX2, by simp [plsC, plC], ?_⟩, fun y hy => ?_⟩
    · rw [← hp00]; rfl
    · simp at hy
      subst hy
      rw [hx00]
      exact ⟨.inl ⟨rfl, rfl⟩, .inr ⟨g1, g2, rfl, rfl, hne, by omega, by omega, by omega, by omega, R1', R2'⟩⟩
  have hLV : LevI P h o (startP xs ys) 0 [] [x00] := LevI.start _ _ _ _ _ (by rw [hx00]; rfl)
  have hF0 : Fine (P : Int) c h s (([x00] : List PP).map (·.2)) := by
    intro q hq
    rw [hx00] at hq
    simp at hq
    subst hq
    exact HG.out
  have hS0 : ∀ x ∈ ([x00] : List PP), x.2.1.length ≤ 0 := fun x hx => by
    simp at hx
    subst hx
    rw [hx00]
    exact Nat.le_refl _
  clear BX2 R1' R2' l1 l2 hb2 hb1 hx00 hp00 hne m1 m2
  have hlen4 : (0 : Int) ≤ o.length := by omega
  go_loopg [7, 8, 10, 19] o.length (fun m q7 q8 q10 q19 wr => ∃ (k : Nat) (cur : List PP) (a : Option Addr) (kk : Nat) (ls : List LV), k ≤ o.length ∧ m = o.length - k ∧ q19 = .int .i64 k ∧ q7 = .slice a cur.length kk ∧ OwnL wr v0.heap.size q8 (ls ++ [(a, kk, cur)]) ∧ LsAll v0.heap.size wr.heap.size wr (ls ++ [(a, kk, cur)]) ∧ LevI P h o (startP xs ys) k ls cur ∧ (∀ x ∈ ls, Fine (P : Int) c h s (x.2.2.map (·.2)) ∧ x.2.2.Pairwise Dis) ∧ (Fine (P : Int) c h s (cur.map (·.2)) ∧ cur.Pairwise Dis) ∧ (∀ x ∈ cur, x.2.1.length ≤ k) ∧ cur.length ≤ 25 ^ k ∧ Below v0.heap.size v0 wr)
  case atStart => exact ⟨0, [x00], _, _, [], by omega, by omega, rfl, rfl, OL, hLS, hLV, fun x hx => by simp at hx, ⟨hF0, List.pairwise_singleton _ _⟩, hS0, by simp, hbl⟩
  case round =>
    clear OL hLS hLV hF0 hS0
    obtain ⟨k, cur, a, kk, ls, hk, hm, rfl, rfl, hO, hL, hI, hFA, hF, hS, hC, hbel⟩ := hrel
    obtain ⟨x0, x1, x2, x3, xf, xl⟩ := (BV.below hbel).four
    obtain ⟨z0, z1, zf, zl⟩ := (BR.below hbel).two
    have hcur := hL (a, kk, cur) (by simp)
    by_cases hlt : k < o.length
    · have hlt' : (k : Int) < (o.length : Int) := by omega
      have hk0 : (0 : Int) ≤ (k : Int) := by omega
      have hc := (hR.below hbel).cell k hlt
      obtain ⟨d, hd⟩ : ∃ d, o.getD k 0 = d := ⟨_, rfl⟩
      rw [hd] at hc
      have hdo : o[k]? = some d := by rw [List.getD_eq_getElem?_getD, List.getElem?_eq_getElem hlt] at hd; rw [List.getElem?_eq_getElem hlt]; simpa using hd
      have hdm := HDD.out d (List.mem_of_getElem? hdo)
      have hC2 : cur.length ≤ 15625 := Nat.le_trans hC (Nat.pow_le_pow_right (by omega) (by omega) : 25 ^ k ≤ 25 ^ 3)
      have HI := Lib.hid hI
      have HF := Lib.hid hF
      have HDO := Lib.hid hdo
      have HDM := Lib.hid hdm
      have HC := Lib.hid hC
      clear hI hF hdo hdm hd hC
      go_wp2_with fail
      clear x0 x1 x2 x3 xf xl z0 z1 zf zl hc
      refine (longer_any P c h s d a cur.length kk wr).mono ?_
      rintro e wA ⟨rfl, B1, B2, B3, hbA, hzA⟩
      have hsg := longer1_good P c h s d (wr.heap.size + 1) wr.heap.size (wr.heap.size + 1 + 1) a kk v0.heap.size wr.heap.size (k + 1) cur wA HDM.out B2 B1 B3 (hcur.1.below hbA) (hcur.2.below hbA) HF.out.1 (fun x hx => by have := hS x hx; omega) (by omega) (by omega)
      have hfa := first_any P c h s wA.heap.size wA.heap.size (k + 1) (cur.length * (P + 1)) 104 _ _ wA p24 (Nat.le_trans (Nat.mul_le_mul hC2 (by omega : P + 1 ≤ 25)) (by omega)) (Nat.le_refl _) longer1_enter hsg
      have HFA := Lib.hid hfa
      clear hfa hsg B1 B2 B3
      replace hO := hO.below hbA
      replace hL := (hL.below hbA).mono (Nat.le_refl _) hbA.size
      have hbelA := chain hbel hbA
      go_wp2_with fail
      refine (HFA.out).mono ?_
      rintro e wB ⟨b, kb, L, zs, rfl, hzs, hLz, hOP, hPA, hLq, hDs, hbB⟩
      clear HFA
      rw [hzs] at hLz
      have hLn : L.map (·.2) = nextP P h d (cur.map (·.2)) := hLz
      have hlen2 := nextP_length P h d (cur.map (·.2))
      rw [← hLn, List.length_map, List.length_map] at hlen2
      have hLC : L.length ≤ 25 ^ (k + 1) := by
        have h1 : cur.length * (P + 1) ≤ 25 ^ k * 25 := Nat.mul_le_mul HC.out (by omega)
        rw [Nat.pow_succ]
        omega
      have hL25 : L.length ≤ 390625 := Nat.le_trans hLC (Nat.pow_le_pow_right (by omega) (by omega) : 25 ^ (k + 1) ≤ 25 ^ 4)
      have HLC := Lib.hid hLC
      have hwv := hbelA.size
      have HLN := Lib.hid hLn
      clear hzs hLz hlen2 hLn hLC
      have hbelB := chain hbelA hbB
      have hsB := hbB.size
      replace hO := hO.below hbB
      replace hL := (hL.below hbB).mono (Nat.le_refl _) hsB
      replace hOP := hOP.mono hwv (Nat.le_refl _)
      replace hPA := hPA.mono hwv (Nat.le_refl _)
      obtain ⟨z0, z1, zf, zl⟩ := (BR.below hbelB).two
      by_cases e0 : L.length = 0
      · have he0 : ((L.length : Int) == 0) = true := by rw [beq_iff_eq]; omega
        have hL0 : L = [] := List.eq_nil_of_length_eq_zero e0
        have hstop := (HI.out).stop a kk (fun d' hd' => by
          have : d' = d := by rw [HDO.out] at hd'; simpa using hd'.symm
          rw [this, ← HLN.out, hL0]
          rfl)
        have HSTOP := Lib.hid hstop
        clear hstop hL0 e0
        obtain ⟨gL, kL, hq8, hgL, hVL⟩ := OwnL.at hO
        obtain ⟨nL, hnL⟩ : ∃ n, (ls ++ [(a, kk, cur)]).length = n := ⟨_, rfl⟩
        rw [hnL] at hq8
        subst hq8
        have HNL := Lib.hid hnL
        clear hO hnL
        go_wp2
        refine bodyPost_ret (v := .agg #[.slice (some ⟨go, 0, none⟩) o.length o.length, .slice (some ⟨gL, 0, none⟩) nL kL]) (by first | (simp [results, Tryz.results56, go_sem, z0, z1]; done) | (simp [results, Tryz.results56, go_sem, *]; done)) rfl ?_
        have hLi : LiAt v0.heap.size wB.heap.size wB ((go, o), (gL, kL, ls ++ [(a, kk, cur)])) := ⟨hR.below hbelB, hgL, hVL.lt, hVL, hL⟩
        refine ⟨gL, kL, ls ++ [(a, kk, cur)], by rw [← HNL.out], (hLi.frameT (by simp) (by decide) (by decide) (by decide) (li_put (BR.below hbelB))).mono (by omega) (Nat.le_refl _), HSTOP.out, fun x hx => ?_, ((hb.trans (hbelB.mono hb.size)).setCell (by simp; omega) _).setCell (by simp; omega) _⟩
        rcases List.mem_append.1 hx with hx | hx
        · exact hFA x hx
        · simp at hx
          subst hx
          exact HF.out
      · have he0 : ((L.length : Int) == 0) = false := by rw [beq_eq_false_iff_ne]; omega
        have hne0 : L ≠ [] := by rintro rfl; exact e0 rfl
        have hst := (HI.out).step a kk HDO.out HLN.out hne0
        have HST := Lib.hid hst
        clear hst hne0 e0
        have hsl : (ls ++ [(a, kk, cur)]).length ≤ 1048576 := by rw [List.length_append, (HI.out).2]; simp; omega
        have HSL := Lib.hid hsl
        have hsv := hbelB.size
        clear hsl
        go_wp2_with (at_builtin; go_loud (refine wp_pushL rfl (.tmp 31) (.tmp 33) rfl v0.heap.size _ (ls ++ [(a, kk, cur)]) rfl hO (b, kb, L) rfl rfl HSL.out hsv ?_; intro v9 wC hO2 hbC hfr))
        go_roundg (o.length - (k + 1))
        case measure => omega
        case rel =>
          have hsC := hbC.size
          refine ⟨k + 1, L, b, kb, ls ++ [(a, kk, cur)], by omega, rfl, by go_num, rfl, hO2, ?_, HST.out, ?_, ?_, ?_, HLC.out, hbelB.trans hbC⟩
          · refine ((hL.frameT hsC (by decide) (by decide) hfr)).snoc (LvAt.frameT (x := (b, kb, L)) (lo := v0.heap.size) (hi := wB.heap.size) ⟨hOP, hPA⟩ hsC (by decide) (by decide) hfr)
          · intro x hx
            rcases List.mem_append.1 hx with hx | hx
            · exact hFA x hx
            · simp at hx
              subst hx
              exact HF.out
          · refine ⟨fun q hq => ?_, hDs⟩
            obtain ⟨x, hx, rfl⟩ := List.mem_map.1 hq
            exact (hLq x hx).1
          · exact fun x hx => (hLq x hx).2
    · obtain rfl : k = o.length := by omega
      have HF := Lib.hid hF
      have hstop := hI.stop a kk (fun d' hd' => by simp at hd')
      have HSTOP := Lib.hid hstop
      clear hstop hF
      obtain ⟨gL, kL, hq8, hgL, hVL⟩ := OwnL.at hO
      obtain ⟨nL, hnL⟩ : ∃ n, (ls ++ [(a, kk, cur)]).length = n := ⟨_, rfl⟩
      rw [hnL] at hq8
      subst hq8
      have HNL := Lib.hid hnL
      clear hO hnL
      go_wp2
      refine bodyPost_ret (v := .agg #[.slice (some ⟨go, 0, none⟩) o.length o.length, .slice (some ⟨gL, 0, none⟩) nL kL]) (by first | (simp [results, Tryz.results56, go_sem, z0, z1]; done) | (simp [results, Tryz.results56, go_sem, *]; done)) rfl ?_
      have hLi : LiAt v0.heap.size wr.heap.size wr ((go, o), (gL, kL, ls ++ [(a, kk, cur)])) := ⟨hR.below hbel, hgL, hVL.lt, hVL, hL⟩
      refine ⟨gL, kL, ls ++ [(a, kk, cur)], by rw [← HNL.out], (hLi.frameT (by simp) (by decide) (by decide) (by decide) (li_put (BR.below hbel))).mono (by omega) (Nat.le_refl _), HSTOP.out, fun x hx => ?_, ((hb.trans (hbel.mono hb.size)).setCell (by simp; omega) _).setCell (by simp; omega) _⟩
      rcases List.mem_append.1 hx with hx | hx
      · exact hFA x hx
      · simp at hx
        subst hx
        exact HF.out
set_option maxRecDepth 8000 in
set_option maxHeartbeats 1000000 in
theorem l05Same_any (a1 a2 b1 b2 : Option Addr) (n1 n2 m1 m2 c1 c2 d1 d2 : Nat) (xs ys us vs : List Int) (w : World) (h1 : xs.length = n1) (h2 : ys.length = n2) (h3 : us.length = m1) (h4 : vs.length = m2) (l1 : n1 ≤ 1048576) (l2 : n2 ≤ 1048576) (l3 : m1 ≤ 1048576) (l4 : m2 ≤ 1048576)
    (r1 : IRow w a1 xs) (r2 : IRow w a2 ys) (s1 : IRow w b1 us) (s2 : IRow w b2 vs) :
    Calls Tryz.prog 67 #[.agg #[.slice a1 n1 c1, .slice a2 n2 c2], .agg #[.slice b1 m1 d1, .slice b2 m2 d2]] w fun e w' => e = .returned (.bool (decide (xs = us ∧ ys = vs))) ∧ Below w.heap.size w w' := by
  obtain ⟨Q, hQ⟩ : ∃ Q, decide (xs = us ∧ ys = vs) = Q := ⟨_, rfl⟩
  rw [hQ]
  have HQ := Lib.hid hQ
  clear hQ
  obtain ⟨BA, BB, hb, hz⟩ := two_new w #[.slice a1 n1 c1, .slice a2 n2 c2] #[.slice b1 m1 d1, .slice b2 m2 d2] 28 28
  clear hz
  obtain ⟨x0, x1, xf, xl⟩ := BA.two
  obtain ⟨y0, y1, yf, yl⟩ := BB.two
  by_cases e1 : m1 = n1
  · subst e1
    by_cases e2 : m2 = n2
    · subst e2
      go_enter Tryz.func67, Tryz.ntmps67
      go_wp2_with fail
      replace r1 := r1.below hb
      replace r2 := r2.below hb
      replace s1 := s1.below hb
      replace s2 := s2.below hb
      clear x0 x1 xf xl y0 y1 yf yl
      generalize ((w.alloc (.cells #[.slice a1 m1 c1, .slice a2 m2 c2] 28)).alloc (.cells #[.slice b1 m1 d1, .slice b2 m2 d2] 28)) = v0 at *
      go_loopg [5] m1 (fun m i wr => ∃ k : Nat, k ≤ m1 ∧ m = m1 - k ∧ i = .int .i64 k ∧ (∀ j, j < k → xs.getD j 0 = us.getD j 0) ∧ Below v0.heap.size v0 wr)
      case atStart => exact ⟨0, by omega, by omega, rfl, fun j hj => by omega, Below.refl _ _⟩
      case round =>
        obtain ⟨k, hk, hm, rfl, hsm, hbel⟩ := hrel
        obtain ⟨x0, x1, xf, xl⟩ := (BA.below hbel).two
        obtain ⟨y0, y1, yf, yl⟩ := (BB.below hbel).two
        by_cases hlt : k < m1
        · have hlt' : (k : Int) < (m1 : Int) := by omega
          have hk0 : (0 : Int) ≤ (k : Int) := by omega
          obtain ⟨p1, o1, rfl, hc1⟩ := (r1.below hbel) k (by omega)
          obtain ⟨p2, o2, rfl, hc2⟩ := (s1.below hbel) k (by omega)
          obtain ⟨v1, hv1⟩ : ∃ v, xs.getD k 0 = v := ⟨_, rfl⟩
          obtain ⟨v2, hv2⟩ : ∃ v, us.getD k 0 = v := ⟨_, rfl⟩
          rw [hv1] at hc1
          rw [hv2] at hc2
          by_cases e : v1 = v2
          · subst e
            have HSM := Lib.hid hsm
            have HV1 := Lib.hid hv1
            have HV2 := Lib.hid hv2
            clear hsm hv1 hv2
            go_wp2_with fail
            go_quiet (fail)
            go_wp2
            go_roundg (m1 - (k + 1))
            case measure => omega
            case rel => exact ⟨k + 1, by omega, rfl, by go_num, fun j hj => by
              by_cases h : j = k
              · subst h; exact HV1.out.trans HV2.out.symm
              · exact HSM.out j (by omega), below_drewN hbel _⟩
          · have fe : (v1 != v2) = true := by rw [bne_iff_ne]; exact e
            have fe2 : (v1 == v2) = false := by rw [beq_eq_false_iff_ne]; exact e
            have hQ : Q = false := by
              rw [← HQ.out, decide_eq_false_iff_not]
              rintro ⟨rfl, rfl⟩
              exact e (hv1.symm.trans hv2)
            subst hQ
            clear hsm hv1 hv2
            go_wp2_with fail
            go_quiet (fail)
            go_wp2
            go_ret
            exact ⟨rfl, chain hb (below_drewN hbel _)⟩
        · obtain rfl : k = m1 := by omega
          have heq : xs = us := ext_getD (by omega) (fun j => by
            by_cases hj : j < xs.length
            · exact hsm j (by omega)
            · rw [getD_out (by omega), getD_out (by omega)])
          clear hsm
          have HEQ := Lib.hid heq
          clear heq
          go_wp2_with fail
          go_loopg [6] m2 (fun m i wr => ∃ k : Nat, k ≤ m2 ∧ m = m2 - k ∧ i = .int .i64 k ∧ (∀ j, j < k → ys.getD j 0 = vs.getD j 0) ∧ Below v0.heap.size v0 wr)
          case atStart => exact ⟨0, by omega, by omega, rfl, fun j hj => by omega, hbel⟩
          case round =>
            obtain ⟨k, hk, hm, rfl, hsm, hbel⟩ := hrel
            obtain ⟨x0, x1, xf, xl⟩ := (BA.below hbel).two
            obtain ⟨y0, y1, yf, yl⟩ := (BB.below hbel).two
            by_cases hlt : k < m2
            · have hlt' : (k : Int) < (m2 : Int) := by omega
              have hk0 : (0 : Int) ≤ (k : Int) := by omega
              obtain ⟨p1, o1, rfl, hc1⟩ := (r2.below hbel) k (by omega)
              obtain ⟨p2, o2, rfl, hc2⟩ := (s2.below hbel) k (by omega)
              obtain ⟨v1, hv1⟩ : ∃ v, ys.getD k 0 = v := ⟨_, rfl⟩
              obtain ⟨v2, hv2⟩ : ∃ v, vs.getD k 0 = v := ⟨_, rfl⟩
              rw [hv1] at hc1
              rw [hv2] at hc2
              by_cases e : v1 = v2
              · subst e
                have HSM := Lib.hid hsm
                have HV1 := Lib.hid hv1
                have HV2 := Lib.hid hv2
                clear hsm hv1 hv2
                go_wp2_with fail
                go_quiet (fail)
                go_wp2
                go_roundg (m2 - (k + 1))
                case measure => omega
                case rel => exact ⟨k + 1, by omega, rfl, by go_num, fun j hj => by
                  by_cases h : j = k
                  · subst h; exact HV1.out.trans HV2.out.symm
                  · exact HSM.out j (by omega), below_drewN hbel _⟩
              · have fe : (v1 != v2) = true := by rw [bne_iff_ne]; exact e
                have fe2 : (v1 == v2) = false := by rw [beq_eq_false_iff_ne]; exact e
                have hQ : Q = false := by
                  rw [← HQ.out, decide_eq_false_iff_not]
                  rintro ⟨rfl, rfl⟩
                  exact e (hv1.symm.trans hv2)
                subst hQ
                clear hsm hv1 hv2
                go_wp2_with fail
                go_quiet (fail)
                go_wp2
                go_ret
                exact ⟨rfl, chain hb (below_drewN hbel _)⟩
            · obtain rfl : k = m2 := by omega
              have heq : ys = vs := ext_getD (by omega) (fun j => by
                by_cases hj : j < ys.length
                · exact hsm j (by omega)
                · rw [getD_out (by omega), getD_out (by omega)])
              clear hsm
              have hQ : Q = true := by
                rw [← HQ.out, decide_eq_true_eq]
                exact ⟨HEQ.out, heq⟩
              subst hQ
              clear heq
              go_wp2
              go_ret
              exact ⟨rfl, chain hb hbel⟩
    · have hQ : Q = false := by
        rw [← HQ.out, decide_eq_false_iff_not]
        rintro ⟨rfl, rfl⟩
        omega
      subst hQ
      have f1 : ((n2 : Int) != (m2 : Int)) = true := by rw [bne_iff_ne]; omega
      have f2 : ((n2 : Int) == (m2 : Int)) = false := by rw [beq_eq_false_iff_ne]; omega
      go_enter Tryz.func67, Tryz.ntmps67
      go_wp2
      go_ret
      exact ⟨rfl, hb⟩
  · have hQ : Q = false := by
      rw [← HQ.out, decide_eq_false_iff_not]
      rintro ⟨rfl, rfl⟩
      omega
    subst hQ
    have f1 : ((n1 : Int) != (m1 : Int)) = true := by rw [bne_iff_ne]; omega
    have f2 : ((n1 : Int) == (m1 : Int)) = false := by rw [beq_eq_false_iff_ne]; omega
    go_enter Tryz.func67, Tryz.ntmps67
    go_wp2
    go_ret
    exact ⟨rfl, hb⟩
set_option maxRecDepth 8000 in
set_option maxHeartbeats 1000000 in
theorem l05Find_any (lo hi : Nat) (a : Option Addr) (n cap : Nat) (l : List PP) (b1 b2 : Option Addr) (m1 m2 k1 k2 : Nat) (us vs : List Int) (w : World) (hn : l.length = n) (hle : n ≤ 1048576) (hP : OPl lo hi w a l) (hA : PAll lo hi w l)
    (hx : ∀ x ∈ l, x.2.2.1.length ≤ 1048576 ∧ x.2.2.2.length ≤ 1048576) (h1 : us.length = m1) (h2 : vs.length = m2) (l1 : m1 ≤ 1048576) (l2 : m2 ≤ 1048576) (s1 : IRow w b1 us) (s2 : IRow w b2 vs) :
    Calls Tryz.prog 41 #[.slice a n cap, .agg #[.slice b1 m1 k1, .slice b2 m2 k2]] w fun e w' => e = .returned (.int .i64 (findP (us, vs) (l.map Prod.snd) 0)) ∧ Below w.heap.size w w' := by
  subst hn
  obtain ⟨Q, hQ⟩ : ∃ Q, findP (us, vs) (l.map Prod.snd) 0 = Q := ⟨_, rfl⟩
  rw [hQ]
  have HQ := Lib.hid hQ
  clear hQ
  have BB := Blk.new w #[.slice b1 m1 k1, .slice b2 m2 k2] 28
  have hb : Below w.heap.size w (w.alloc (.cells #[.slice b1 m1 k1, .slice b2 m2 k2] 28)) := (Below.refl _ _).alloc (Nat.le_refl _) _
  replace hP := hP.below hb
  replace hA := hA.below hb
  replace s1 := s1.below hb
  replace s2 := s2.below hb
  have HX := Lib.hid hx
  clear hx
  go_enter Tryz.func41, Tryz.ntmps41
  go_wp2_with fail
  generalize (w.alloc (.cells #[.slice b1 m1 k1, .slice b2 m2 k2] 28)) = v0 at *
  go_loopg [5] l.length (fun m i wr => ∃ k : Nat, k ≤ l.length ∧ m = l.length - k ∧ i = .int .i64 k ∧ findP (us, vs) ((l.drop k).map Prod.snd) k = Q ∧ Below v0.heap.size v0 wr)
  case atStart => exact ⟨0, by omega, by omega, rfl, by simpa using HQ.out, Below.refl _ _⟩
  case round =>
    obtain ⟨k, hk, hm, rfl, hf, hbel⟩ := hrel
    by_cases hlt : k < l.length
    · have hlt' : (k : Int) < (l.length : Int) := by omega
      have hk0 : (0 : Int) ≤ (k : Int) := by omega
      obtain ⟨x, hx⟩ : ∃ x, l[k]? = some x := ⟨_, List.getElem?_eq_getElem hlt⟩
      obtain ⟨g, rfl, R⟩ := (hP.below hbel).row hlt
      obtain ⟨-, u1, u2⟩ := R.three k x hx
      have hmem := List.mem_of_getElem? hx
      have hD := ((hA.below hbel) x hmem).2
      have hlen := HX.out x hmem
      rw [show l.drop k = x :: l.drop (k + 1) by rw [List.drop_eq_getElem_cons hlt]; congr 1; rw [List.getElem?_eq_getElem hlt] at hx; simpa using hx, List.map_cons, findP] at hf
      have hs := fun W (hW : Below wr.heap.size wr W) => l05Same_any x.1.b1 x.1.b2 b1 b2 x.2.2.1.length x.2.2.2.length m1 m2 x.1.k1 x.1.k2 k1 k2 x.2.2.1 x.2.2.2 us vs W rfl rfl h1 h2 hlen.1 hlen.2 l1 l2 (hD.below hW).irow1 (hD.below hW).irow2 (s1.below (chain hbel hW)) (s2.below (chain hbel hW))
      obtain ⟨q1, q2, qf, ql⟩ := (BB.below hbel).two
      obtain ⟨⟨sa, sc, e1, f1, e2, f2⟩, st, X, Y⟩ := x
      dsimp only at u1 u2 hs hf
      by_cases e : X = us ∧ Y = vs
      · rw [decide_eq_true e] at hs
        rw [if_pos (by obtain ⟨rfl, rfl⟩ := e; rfl)] at hf
        have HS := Lib.hid hs
        subst hf
        clear hs hx R hmem hD hlen e
        go_wp2_with fail
        refine wp_region_held_drew (S := fun w' => w'.cell? ⟨g, k * 3 + 1, none⟩ = some (.slice e1 X.length f1) ∧ w'.cell? ⟨g, k * 3 + 2, none⟩ = some (.slice e2 Y.length f2) ∧ w'.cell? ⟨w.heap.size, 0, none⟩ = some (.slice b1 m1 k1) ∧ w'.cell? ⟨w.heap.size, 1, none⟩ = some (.slice b2 m2 k2) ∧ Below wr.heap.size wr w') (by kernel_rfl) ⟨u1, u2, q1, q2, (Below.refl _ _).drew⟩ (fun hHeld => ?_)
        refine tk 0 12 ?_
        refine tk 1 13 ?_
        refine tk 2 14 ?_
        refine tk 3 15 ?_
        refine tk 4 16 ?_
        refine tk 5 17 ?_
        refine rdk 6 18 fun K hK => ?_
        go_simp
        refine (HS.out _ hHeld.2.2.2.2).mono ?_
        rintro e w5 ⟨rfl, hb5⟩
        (try go_wp2_with fail)
        refine hko hK ⟨CellIs.below hHeld.1 hb5, CellIs.below hHeld.2.1 hb5, CellIs.below hHeld.2.2.1 hb5, CellIs.below hHeld.2.2.2.1 hb5, chain hHeld.2.2.2.2 hb5⟩ fun hHeld => ?_
        clear hK K
        refine wpAnyH_done (by kernel_rfl) ?_ _
        go_wp2
        go_ret
        exact ⟨rfl, chain hb (chain hbel hHeld.2.2.2.2)⟩
      · rw [decide_eq_false e] at hs
        rw [if_neg (by intro h; injection h with h1 h2; exact e ⟨h1, h2⟩)] at hf
        have HS := Lib.hid hs
        have HF := Lib.hid hf
        clear hs hx R hmem hD hlen e hf
        go_wp2_with fail
        refine wp_region_held_drew (S := fun w' => w'.cell? ⟨g, k * 3 + 1, none⟩ = some (.slice e1 X.length f1) ∧ w'.cell? ⟨g, k * 3 + 2, none⟩ = some (.slice e2 Y.length f2) ∧ w'.cell? ⟨w.heap.size, 0, none⟩ = some (.slice b1 m1 k1) ∧ w'.cell? ⟨w.heap.size, 1, none⟩ = some (.slice b2 m2 k2) ∧ Below wr.heap.size wr w') (by kernel_rfl) ⟨u1, u2, q1, q2, (Below.refl _ _).drew⟩ (fun hHeld => ?_)
        refine tk 0 12 ?_
        refine tk 1 13 ?_
        refine tk 2 14 ?_
        refine tk 3 15 ?_
        refine tk 4 16 ?_
        refine tk 5 17 ?_
        refine rdk 6 18 fun K hK => ?_
        go_simp
        refine (HS.out _ hHeld.2.2.2.2).mono ?_
        rintro e w5 ⟨rfl, hb5⟩
        (try go_wp2_with fail)
        refine hko hK ⟨CellIs.below hHeld.1 hb5, CellIs.below hHeld.2.1 hb5, CellIs.below hHeld.2.2.1 hb5, CellIs.below hHeld.2.2.2.1 hb5, chain hHeld.2.2.2.2 hb5⟩ fun hHeld => ?_
        clear hK K
        refine wpAnyH_done (by kernel_rfl) ?_ _
        go_wp2
        go_roundg (l.length - (k + 1))
        case measure => omega
        case rel => exact ⟨k + 1, by omega, rfl, by go_num, HF.out, chain hbel hHeld.2.2.2.2⟩
    · obtain rfl : k = l.length := by omega
      rw [List.drop_length, List.map_nil, findP] at hf
      subst hf
      go_wp2
      go_ret
      exact ⟨rfl, chain hb hbel⟩
end Go.Proofs.YtciljbnailobgaaGreat
