/- Texts of a proof, laid together: Contract of the program's list of the first sequences of each board. -/
import Derived.Test.YtknkbhmgdddjkaaGreatY21
import Derived.Test.YtknkbhmgdddjkaaGreatY22
import Derived.Test.YtknkbhmgdddjkaaGreatY23
import Derived.Shelf.Abstract
import Derived.Shelf.RegionOpen
import Derived.WalkKit
import Derived.OwnWalkIn
import Derived.TacticsInMore
import Derived.LoopNIn
import Derived.LoopIn
import Derived.Maps.OwnIn
import Derived.Maps.AppendAt
import Derived.Deep.WholeRow
namespace Go.Proofs.YtknkbhmgdddjkaaGreat
open Go.ChangeShapes Go.WideShapes Go.ChangeAt Go.RowKit
attribute [local go_sem] Oper.semAt_some
set_option linter.unusedVariables false
set_option linter.unusedSimpArgs false
set_option maxRecDepth 4000

theorem cell_put {X : World} {g i l : Nat} {v : Value} {o o' : Obj} (hl : X.heap[l]? = some o) (ho : o'.isCells = false) (h : (X.putObj l o').cell? ⟨g, i, none⟩ = some v) : X.cell? ⟨g, i, none⟩ = some v := by
  by_cases e : g = l
  · subst e
    have hlt := (Array.getElem?_eq_some_iff.1 hl).1
    unfold World.cell? at h
    simp only [World.putObj_heap_same hlt] at h
    cases o' <;> simp_all [Obj.isCells]
  · unfold World.cell? at h ⊢
    simp only [World.putObj_heap_other e] at h
    exact h
/-- The list of the first sequences of each board is handed back. -/
def FirstGot (P : Nat) (c h s : Int) (lo2 K : Nat) (S : List PP → Prop) (w : World) (e : Ending) (w' : World) : Prop :=
  ∃ a k L xs, e = .returned (.slice a L.length k) ∧ S xs ∧ L.map (·.2) = addAll [] (xs.map (·.2)) ∧ OPl w.heap.size w'.heap.size w' a L ∧ PAll lo2 w'.heap.size w' L ∧
      (∀ x ∈ L, isB (P : Int) c h s x.2.2.1 x.2.2.2 = true ∧ x.2.1.length ≤ K) ∧ L.Pairwise Dis ∧ Below w.heap.size w w'
theorem fitB_of {P : Nat} {c h s : Int} {q : List Int × List Int} (g : isB (P : Int) c h s q.1 q.2 = true) : FitB P q := by
  have gp := isB_parts g
  have gv := vB_iff.1 (isB_vB g)
  simp only [isB, Bool.and_eq_true] at g
  obtain ⟨a1, a2, a3⟩ := sideB_iff.1 g.2.1
  obtain ⟨b1, b2, b3⟩ := sideB_iff.1 g.2.2.1
  exact ⟨by omega, by omega, fun x hx => by have := a2 x hx; omega, fun x hx => by have := b2 x hx; omega⟩
theorem footP_below {B3 M : Nat} {X Y : World} (hb : Below X.heap.size X Y) (h3 : B3 < X.heap.size) {k : Nat} (h : footP B3 M Y k) : footP B3 M X k := by
  rcases h with rfl | rfl | ⟨v, hv, ho⟩
  · exact .inl rfl
  · exact .inr (.inl rfl)
  · exact .inr (.inr ⟨v, by rw [← hb.cell (p := ⟨B3, 0, none⟩) h3]; exact hv, ho⟩)
theorem seen_any (L : List PP) (q : List Int × List Int) : decide (q ∈ L.map (·.2.2)) = (L.map (·.2)).any (fun r => decide (r.2 = q)) := by
  induction L with
  | nil => simp
  | cons a l ih =>
    rw [List.map_cons, List.map_cons, List.any_cons, ← ih]
    by_cases e : a.2.2 = q
    · simp [e]
    · simp [e, Ne.symm e]
set_option maxRecDepth 100000 in
set_option maxHeartbeats 4000000 in
theorem first_any (P : Nat) (c h s : Int) (lo lo2 K N gf : Nat) (lb : Array Value) (S : List PP → Prop) (w : World) (hP : P ≤ 24) (hN : N ≤ 1000000) (hlo : lo ≤ w.heap.size) (eg : ∀ args w, (callFunc gf args).run Tryz.prog w = .ok (.enter gf args) w)
    (hseq : SeqGood gf lb (fun x : PP => #[plV x]) (GoodP (P : Int) c h s lo2 K) Dis lo S N w) :
    Calls Tryz.prog 66 #[.func (.func gf) #[] lb] w (FirstGot P c h s lo2 K S w) := by
  refine (callsIn_wide (n := 3)).1 ?_
  have hmm := @run_makeMap Tryz.prog
  refine callsIn_of_wp_marks Tryz.func66 rfl trivial ?_ rfl
  simp only [Tryz.ntmps66, List.size_toArray, List.length_cons, List.length_nil, Nat.reduceAdd, Nat.reduceSub, Array.replicate_succ, Array.replicate_zero, List.push_toArray, List.append_toArray, List.nil_append, List.cons_append]
  gi_wp2
  have BL := ((Blk.new w #[.slice none 0 0] 50).alloc (.map #[] 0)).alloc (.cells #[.map (some (w.heap.size + 1))] 120)
  have hz1 : (w.alloc (.cells #[.slice none 0 0] 50)).heap.size = w.heap.size + 1 := by simp
  have hz2 : ((w.alloc (.cells #[.slice none 0 0] 50)).alloc (.map #[] 0)).heap.size = w.heap.size + 1 + 1 := by simp
  have hz3 : (((w.alloc (.cells #[.slice none 0 0] 50)).alloc (.map #[] 0)).alloc (.cells #[.map (some (w.heap.size + 1))] 120)).heap.size = w.heap.size + 1 + 1 + 1 := by simp
  have BM := Blk.new ((w.alloc (.cells #[.slice none 0 0] 50)).alloc (.map #[] 0)) #[.map (some (w.heap.size + 1))] 120
  rw [hz2] at BM
  have hSM : SeenM (((w.alloc (.cells #[.slice none 0 0] 50)).alloc (.map #[] 0)).alloc (.cells #[.map (some (w.heap.size + 1))] 120)) (w.heap.size + 1) 0 P [] := by
    have q := SeenM.start (w.alloc (.cells #[.slice none 0 0] 50)) P
    rw [hz1] at q
    exact q.keep (Below.heap_alloc _ _ _ (by rw [hz2]; omega))
  have hb0 : Below w.heap.size w (((w.alloc (.cells #[.slice none 0 0] 50)).alloc (.map #[] 0)).alloc (.cells #[.map (some (w.heap.size + 1))] 120)) := (((Below.refl _ _).alloc (Nat.le_refl _) _).alloc (by simp) _).alloc (by simp; omega) _
  have hO0 : OwnP (((w.alloc (.cells #[.slice none 0 0] 50)).alloc (.map #[] 0)).alloc (.cells #[.map (some (w.heap.size + 1))] 120)) w.heap.size (.slice none 0 0) [] := OwnP.nil _ _
  generalize (((w.alloc (.cells #[.slice none 0 0] 50)).alloc (.map #[] 0)).alloc (.cells #[.map (some (w.heap.size + 1))] 120)) = v1 at *
  have hI0 : InvP P c h s lo2 K w v1 [] v1 := ⟨⟨_, [], BL, hO0, rfl, PAll.nil _ _ _, fun x hx => by simp at hx, hSM, SubD.nil⟩, BM, hb0, Nat.le_refl _⟩
  refine range_good (n := 1) rfl eg hseq hb0 (by omega) (fun _ => rfl) (footP w.heap.size (w.heap.size + 1)) ?hf ?hfp (InvP P c h s lo2 K w v1) ?hIf ?hIb ?hIp ?hGb ?hGp hI0
    (fun x a' W' => ∃ B5, a' = { tmps := #[.func (.func gf) #[] lb, undef, .slice none 0 0, .pointer (some ⟨w.heap.size, 0, none⟩), .pointer (some ⟨w.heap.size + 1 + 1, 0, none⟩), .pointer (some ⟨B5, 0, none⟩), undef, .map (some (w.heap.size + 1)), .func (.func gf) #[] lb, plV x, undef, undef, undef, undef, undef, undef, undef, undef, undef, undef, undef, undef, undef, undef], defers := [] } ∧ Blk W' B5 #[pl0 x, pl1 x, pl2 x] 93 ∧ v1.heap.size ≤ B5) ?hAp ?hassign ?hbody ?hdone
  case hf =>
    rintro X Y k hX hb (rfl | rfl | ⟨v, hv, ho⟩)
    · exact .inl rfl
    · exact .inr (.inl rfl)
    · exact .inr (.inr ⟨v, by rw [← hb.cell (p := ⟨w.heap.size, 0, none⟩) (by simp; omega)]; exact hv, ho⟩)
  case hfp =>
    rintro X l o o' k hl ho ho' (rfl | rfl | ⟨v, hv, hv2⟩)
    · exact .inl rfl
    · exact .inr (.inl rfl)
    · exact .inr (.inr ⟨v, cell_put hl ho' hv, hv2⟩)
  case hIf =>
    rintro pre X k ⟨⟨v, L, q1, q2, q3, q4, q5, q6, q7⟩, q8, q9, q10⟩ (rfl | rfl | ⟨v', hv, ho⟩)
    · exact q1.lt
    · exact q6.lt
    · have e : v' = v := by
        have := q1.one.1
        rw [hv] at this
        simpa using this
      subst e
      exact (World.ownsRow.lt q2 k ho).2
  case hIb =>
    rintro pre X Y ⟨⟨v, L, q1, q2, q3, q4, q5, q6, q7⟩, q8, q9, q10⟩ hb
    have hsz := hb.size
    exact ⟨⟨v, L, q1.below hb, q2.below hb, q3, (q4.below hb).mono (Nat.le_refl _) hb.size, q5, q6.keep (hb.block _ q6.lt), q7⟩, q8.below hb, chain q9 hb, by omega⟩
  case hIp =>
    rintro pre X l o o' hl h1 h2 ⟨⟨v, L, q1, q2, q3, q4, q5, q6, q7⟩, q8, q9, q10⟩
    exact ⟨⟨v, L, q1.put h1 h2, q2.put h1 h2, q3, fun y hy => by rw [World.putObj_size]; exact (q4 y hy).put h1 h2, q5, q6.keep (World.putObj_heap_other (by omega)), q7⟩, q8.put h1 h2, q9.trans (below_put (by omega)), by rw [World.putObj_size]; exact q10⟩
  case hGb =>
    rintro x X Y ⟨q1, q2, q3⟩ hb
    exact ⟨(q1.below hb).mono (Nat.le_refl _) hb.size, q2, q3⟩
  case hGp =>
    rintro x X l o o' h1 h2 ⟨q1, q2, q3⟩
    exact ⟨by rw [World.putObj_size]; exact q1.put h1 h2, q2, q3⟩
  case hAp =>
    rintro x a' X l o o' h1 h2 ⟨B5, e, q1, q2⟩
    exact ⟨B5, e, q1.put h1 h2, q2⟩
  case hassign =>
    intro l x W Kc hsz hK
    gi_wp2
    exact hK _ _ ((Below.refl _ _).alloc (Nat.le_refl _) _) ⟨W.heap.size, rfl, Blk.new _ _ _, hsz⟩
  case hbody =>
    rintro l pre x a' W hl ⟨⟨v, L, q1, q2, q3, q4, q5, q6, q7⟩, q8, q9, q10⟩ ⟨hPA, gx, hKx⟩ ⟨B5, rfl, BB5, hB5⟩ hRx hlen
    have r1 := hPA.2.irow1
    have r2 := hPA.2.irow2
    have gp := isB_parts gx
    have hfit : FitB P x.2.2 := fitB_of gx
    obtain ⟨z0, z1, z2, zf, zl⟩ := BB5.tri
    have hNL : L.length ≤ 1000000 := by have := q7.1; omega
    have hvw := q1.one.1
    obtain ⟨ARR, hARR⟩ : ∃ q, (i8s (plcL x.2.2.1 x.2.2.2)).toArray = q := ⟨_, rfl⟩
    have hPL := fun (W' : World) (u1 : IRow W' x.1.b1 x.2.2.1) (u2 : IRow W' x.1.b2 x.2.2.2) => placement_any x.1.b1 x.1.b2 _ _ x.1.k1 x.1.k2 x.2.2.1 x.2.2.2 W' rfl rfl (by have := hfit.1; omega) (by have := hfit.2.1; omega) hfit.2.2.1 hfit.2.2.2 u1 u2
    rw [hARR] at hPL
    have HPL := Lib.hid hPL
    clear hPL
    have hsz : ARR.size = 50 := by
      rw [← hARR]
      have p1 := pad25_length x.2.2.1 (by have := hfit.1; omega)
      have p2 := pad25_length x.2.2.2 (by have := hfit.2.1; omega)
      simp [i8s, plcL]
      omega
    have hone : ARR.all (·.oneCell') = true := by
      rw [← hARR, List.all_toArray, List.all_eq_true]
      intro y hy
      obtain ⟨y', _, rfl⟩ := List.mem_map.1 hy
      rfl
    have hinfo : (Tryz.prog.info? 124).map (·.size) = some ARR.size := by rw [hsz]; exact infoPlc
    have hold : (#[.int .i8 0, .int .i8 0, .int .i8 0, .int .i8 0, .int .i8 0, .int .i8 0, .int .i8 0, .int .i8 0, .int .i8 0, .int .i8 0, .int .i8 0, .int .i8 0, .int .i8 0, .int .i8 0, .int .i8 0, .int .i8 0, .int .i8 0, .int .i8 0, .int .i8 0, .int .i8 0, .int .i8 0, .int .i8 0, .int .i8 0, .int .i8 0, .int .i8 0, .int .i8 0, .int .i8 0, .int .i8 0, .int .i8 0, .int .i8 0, .int .i8 0, .int .i8 0, .int .i8 0, .int .i8 0, .int .i8 0, .int .i8 0, .int .i8 0, .int .i8 0, .int .i8 0, .int .i8 0, .int .i8 0, .int .i8 0, .int .i8 0, .int .i8 0, .int .i8 0, .int .i8 0, .int .i8 0, .int .i8 0, .int .i8 0, .int .i8 0] : Array Value).size = ARR.size := by rw [hsz]; rfl
    have hlook := fun (W' : World) (m : SeenM W' (w.heap.size + 1) L.length P (L.map (·.2.2))) => m.look hP hfit
    rw [hARR] at hlook
    have hsn := seen_any L x.2.2
    rw [q3] at hsn
    have hadd := addAll_snoc [] (pre.map (·.2)) x.2
    have hpre : (pre ++ [x]).map (·.2) = pre.map (·.2) ++ [x.2] := by rw [List.map_append]; rfl
    obtain ⟨sb, hsb⟩ : ∃ sb, decide (x.2.2 ∈ L.map (·.2.2)) = sb := ⟨_, rfl⟩
    rw [hsb] at hlook hsn
    unfold addP at hadd
    rw [← hsn] at hadd
    have HLK := Lib.hid hlook
    have HADD := Lib.hid hadd
    have HPRE := Lib.hid hpre
    have HQ3 := Lib.hid q3
    have HARR := Lib.hid hARR
    clear hlook hadd hpre hsn hsb q3 hARR
    cases sb with
    | true =>
      have hadd := HADD.out
      rw [if_pos rfl] at hadd
      gi_wp2_with (first | (refine ⟨trivial, ?_⟩; gi_at_call 80; refine (CallsIn.inRound l (callsIn_wide.2 (HPL.out _ r1 r2))).mono ?_; rintro e w5 ⟨rfl, hb5⟩) | (refine wpListIn_store_row rfl _ (.tmp 6) (.tmp 12) rfl w5.heap.size ARR rfl rfl 124 #[.int .i8 0, .int .i8 0, .int .i8 0, .int .i8 0, .int .i8 0, .int .i8 0, .int .i8 0, .int .i8 0, .int .i8 0, .int .i8 0, .int .i8 0, .int .i8 0, .int .i8 0, .int .i8 0, .int .i8 0, .int .i8 0, .int .i8 0, .int .i8 0, .int .i8 0, .int .i8 0, .int .i8 0, .int .i8 0, .int .i8 0, .int .i8 0, .int .i8 0, .int .i8 0, .int .i8 0, .int .i8 0, .int .i8 0, .int .i8 0, .int .i8 0, .int .i8 0, .int .i8 0, .int .i8 0, .int .i8 0, .int .i8 0, .int .i8 0, .int .i8 0, .int .i8 0, .int .i8 0, .int .i8 0, .int .i8 0, .int .i8 0, .int .i8 0, .int .i8 0, .int .i8 0, .int .i8 0, .int .i8 0, .int .i8 0, .int .i8 0] (heap_alloc_last w5 _) hinfo hold hone ?_; rw [World.setRow_alloc_new]; have h56 := chain hb5 ((Below.refl w5.heap.size w5).alloc (Nat.le_refl _) (.cells ARR 124)); have B6 := heap_alloc_last w5 (.cells ARR 124); have hz6 : (w5.alloc (.cells ARR 124)).heap.size = w5.heap.size + 1 := (by simp); obtain ⟨w6, hw6⟩ : ∃ w6, w5.alloc (.cells ARR 124) = w6 := ⟨_, rfl⟩; rw [hw6] at h56 B6 hz6 ⊢; clear hw6; have q66 := q6.keep (h56.block _ q6.lt); have hlk := HLK.out _ q66; have c4 := (q8.below h56).one.1; have c3 := (q1.below h56).one.1; have p5 := (BB5.below h56).tri.1; have p6 := (BB5.below h56).tri.2.1; have p7 := (BB5.below h56).tri.2.2.1) | (refine wpListIn_load_row rfl _ (.tmp 6) rfl w5.heap.size rfl _ ARR (0, 0) (.array 2 122) B6 Tryz.underlying124 rfl hinfo ?_))
      refine ⟨?_, ?_, ?_, ?_⟩
      · exact (KeepsOthers.of_grownBy (grown_of_below h56 none) (fun j o e => by cases e)).from _
      · exact h56.mono (by omega)
      · exact ⟨h56.size, fun k hk _ => h56.block k hk, fun k hk hf => footP_below h56 q1.lt hf⟩
      · refine ⟨⟨v, L, q1.below h56, q2.below h56, ?_, (q4.below h56).mono (Nat.le_refl _) h56.size, q5, q66, q7.more x⟩, q8.below h56, chain q9 h56, by have := h56.size; omega⟩
        rw [HPRE.out, hadd, HQ3.out]
    | false =>
      have hadd := HADD.out
      rw [if_neg (by simp)] at hadd
      have hpush : ∀ w6, Below W.heap.size W w6 → SeenM w6 (w.heap.size + 1) L.length P (L.map (·.2.2)) → ∃ w7, (Instr.mapUpdate 120 (.map (some (w.heap.size + 1))) (.agg ARR) (.bool true)).run Tryz.prog w6 = .ok () w7 ∧ SeenM w7 (w.heap.size + 1) (L.length + 1) P (L.map (·.2.2) ++ [x.2.2]) ∧ w6.grownBy w7 (some (w.heap.size + 1)) := fun w6 _ m => by
        have := m.put hP (by unfold maxLen; omega) hfit
        rw [HARR.out] at this
        exact this
      gi_wp2_with (first | (refine ⟨trivial, ?_⟩; gi_at_call 80; refine (CallsIn.inRound l (callsIn_wide.2 (HPL.out _ r1 r2))).mono ?_; rintro e w5 ⟨rfl, hb5⟩) | (refine wpListIn_store_row rfl _ (.tmp 6) (.tmp 12) rfl w5.heap.size ARR rfl rfl 124 #[.int .i8 0, .int .i8 0, .int .i8 0, .int .i8 0, .int .i8 0, .int .i8 0, .int .i8 0, .int .i8 0, .int .i8 0, .int .i8 0, .int .i8 0, .int .i8 0, .int .i8 0, .int .i8 0, .int .i8 0, .int .i8 0, .int .i8 0, .int .i8 0, .int .i8 0, .int .i8 0, .int .i8 0, .int .i8 0, .int .i8 0, .int .i8 0, .int .i8 0, .int .i8 0, .int .i8 0, .int .i8 0, .int .i8 0, .int .i8 0, .int .i8 0, .int .i8 0, .int .i8 0, .int .i8 0, .int .i8 0, .int .i8 0, .int .i8 0, .int .i8 0, .int .i8 0, .int .i8 0, .int .i8 0, .int .i8 0, .int .i8 0, .int .i8 0, .int .i8 0, .int .i8 0, .int .i8 0, .int .i8 0, .int .i8 0, .int .i8 0] (heap_alloc_last w5 _) hinfo hold hone ?_; rw [World.setRow_alloc_new]; have h56 := chain hb5 ((Below.refl w5.heap.size w5).alloc (Nat.le_refl _) (.cells ARR 124)); have B6 := heap_alloc_last w5 (.cells ARR 124); have hz6 : (w5.alloc (.cells ARR 124)).heap.size = w5.heap.size + 1 := (by simp); obtain ⟨w6, hw6⟩ : ∃ w6, w5.alloc (.cells ARR 124) = w6 := ⟨_, rfl⟩; rw [hw6] at h56 B6 hz6 ⊢; clear hw6; have q66 := q6.keep (h56.block _ q6.lt); have hlk := HLK.out _ q66; have c4 := (q8.below h56).one.1; have c3 := (q1.below h56).one.1; have p5 := (BB5.below h56).tri.1; have p6 := (BB5.below h56).tri.2.1; have p7 := (BB5.below h56).tri.2.2.1) | (refine wpListIn_load_row rfl _ (.tmp 6) rfl w5.heap.size rfl _ ARR (0, 0) (.array 2 122) B6 Tryz.underlying124 rfl hinfo ?_) | (refine wpListIn_mapput rfl (.tmp 17) (.tmp 18) (.const (.bool true)) rfl (hpush w6 h56 q66) rfl rfl rfl ?_; rintro w7 ⟨q77, h67⟩; have c37 := (q1.grownM q6 h56 h67).one.1; have p57 := (BB5.grownM q6 h56 h67).tri.1; have p67 := (BB5.grownM q6 h56 h67).tri.2.1; have p77 := (BB5.grownM q6 h56 h67).tri.2.2.1) | (refine wpListIn_pushPW rfl (.tmp 19) (.tmp 21) rfl w.heap.size v L rfl (w0 := w7) (OwnP.grown q2 q6 h56 h67) x rfl rfl (by omega) (by have := h56.size; have := h67.size; have := q9.size; omega) ?_; intro v8 w8 o8 h78 f78 k8; have K8 := Lib.hid k8; clear k8; obtain ⟨a8, n8, u8, hv8⟩ : ∃ a n k, v8 = .slice a n k := (o8.form.elim fun a q => q.elim fun k e => ⟨a, _, k, e⟩); subst hv8; have b8 : Blk w8 w.heap.size #[v] 50 := (f78 _ (Nat.lt_of_lt_of_le q1.lt (Nat.le_trans h56.size h67.size)) (q2.ne q1 (by decide))).trans (q1.grownM q6 h56 h67); have c38 := b8.one.1; have f38 := b8.one.2.1))
      exact first_push hz3 hlo q1 q2 HQ3.out q4 q5 q6 q7 hRx q8 q9 q10 hPA gx hKx hadd h56 h67 q77 h78 f78 o8 K8.out
  case hdone =>
    rintro D xs W hD hS ⟨⟨v, L, q1, q2, q3, q4, q5, q6, q7⟩, q8, q9, q10⟩ hK
    obtain ⟨a, k, rfl⟩ := q2.form
    have hc := q1.one.1
    unfold marked
    gi_wp2
    refine ⟨by simp, .inl ⟨_, _, rfl, run_takeDeferred hK, ?_⟩⟩
    have hcl : Obj.isCells (.deferred (some [])) = false := rfl
    have hlt := (Array.getElem?_eq_some_iff.1 hK).1
    refine ⟨_, results_tmp rfl _ _ _, a, k, L, xs, rfl, hS, q3, ?_, fun y hy => by rw [World.putObj_size]; exact (q4 y hy).put hK hcl, q5, q7.2.1, q9.trans (below_put (by omega))⟩
    have := (q2.put (o' := .deferred none) hK hcl).opl
    exact this
end Go.Proofs.YtknkbhmgdddjkaaGreat
