/- Contract of the library's deletion from a slice of steps by a predicate. -/
import Derived.Test.Ytjglempkmenacaa04p
import Derived.Lib.SliceRun
namespace Go.Proofs.Ytjglempkmenacaa
open Go.ChangeShapes Go.WideShapes Go.ChangeAt Go.RowKit
set_option linter.unusedVariables false
set_option linter.unusedSimpArgs false
set_option maxRecDepth 4000

theorem firstI_pos (pr : Stp → Bool) : ∀ (l : List Stp), 0 ≤ firstI pr l → ∃ (k : Nat) (t : Stp), firstI pr l = (k : Int) ∧ l[k]? = some t ∧ pr t = true ∧ ∀ j s, j < k → l[j]? = some s → pr s = false
  | [], h => by simp [firstI] at h
  | s :: l, h => by
    by_cases hs : pr s = true
    · exact ⟨0, s, by rw [firstI, if_pos hs]; rfl, by simp, hs, fun j x hj => by omega⟩
    · rw [firstI, if_neg hs] at h ⊢
      by_cases h2 : firstI pr l < 0
      · rw [if_pos h2] at h
        omega
      · obtain ⟨k, t, e, h3, h4, h5⟩ := firstI_pos pr l (by omega)
        refine ⟨k + 1, t, by rw [if_neg h2, e]; omega, by simpa using h3, h4, fun j x hj hx => ?_⟩
        cases j with
        | zero =>
          simp at hx
          subst hx
          simpa using hs
        | succ j => exact h5 j x (by omega) (by simpa using hx)
theorem filter_take_succ (p : Stp → Bool) (l : List Stp) (j : Nat) (s : Stp) (h : l[j]? = some s) : (l.take (j + 1)).filter p = (l.take j).filter p ++ (if p s = true then [s] else []) := by
  have hlt := (List.getElem?_eq_some_iff.1 h).1
  have he := (List.getElem?_eq_some_iff.1 h).2
  rw [List.take_succ_eq_append_getElem hlt, List.filter_append, he]
  congr 1
  by_cases hp : p s = true
  · rw [if_pos hp]; simp [hp]
  · rw [if_neg hp]; simp [hp]
theorem filter_before (pr : Stp → Bool) (l : List Stp) (k : Nat) (hk : k ≤ l.length) (h : ∀ j s, j < k → l[j]? = some s → pr s = false) : (l.take k).filter (fun s => !pr s) = l.take k := by
  rw [List.filter_eq_self]
  intro s hs
  obtain ⟨j, hj, rfl⟩ := List.mem_iff_getElem.1 hs
  rw [List.length_take] at hj
  have := h j l[j] (by omega) (List.getElem?_eq_getElem (by omega))
  simpa using this
theorem stepsC_split : ∀ (l : List Stp) (k : Nat), k ≤ l.length → stepsC l = stepsC (l.take k) ++ (stepsC l).drop (k * 4)
  | l, 0, _ => by simp [stepsC]
  | [], k + 1, h => by simp at h
  | s :: l, k + 1, h => by
    have ih := stepsC_split l k (by simpa using h)
    rw [List.take_succ_cons, stepsC, stepsC, List.append_assoc, show (k + 1) * 4 = k * 4 + 4 by omega]
    congr 1
theorem below_set4q {B g : Nat} {w W : World} (h : Below B w W) (hg : B ≤ g) (a b c d : Value) : Below B w ((((W.setCell ⟨g, 0, none⟩ a).setCell ⟨g, 1, none⟩ b).setCell ⟨g, 2, none⟩ c).setCell ⟨g, 3, none⟩ d) :=
  (((h.setCell hg _).setCell hg _).setCell hg _).setCell hg _
theorem VRow.setBeyond {w : World} {g : Nat} {vs : List Value} {t : TypeId} (h : VRow w g vs t) (i : Nat) (hi : vs.length ≤ i) (v : Value) : VRow (w.setCell ⟨g, i, none⟩ v) g vs t := by
  have := h.set i v
  rwa [List.set_eq_of_length_le hi] at this
theorem VRow.setCells {g : Nat} {vs : List Value} {t : TypeId} : ∀ (us : List Value) (i : Nat) (w : World), VRow w g vs t → vs.length ≤ i → VRow (w.setCells g i us) g vs t
  | [], _, _, h, _ => h
  | u :: us, i, w, h, hi => VRow.setCells us (i + 1) _ (h.setBeyond i hi u) (by omega)
theorem below_setCells {B g : Nat} {w0 : World} (hg : B ≤ g) : ∀ (us : List Value) (i : Nat) (w : World), Below B w0 w → Below B w0 (w.setCells g i us)
  | [], _, _, h => h
  | u :: us, i, w, h => below_setCells hg us (i + 1) _ (h.setCell (p := ⟨g, i, none⟩) hg u)
theorem VRow.prefix {w : World} {g : Nat} {vs us : List Value} {t : TypeId} (h : VRow w g (vs ++ us) t) : VRow w g vs t := by
  have := h.take vs.length
  rwa [List.take_left] at this
theorem run_clear_steps (w : World) (ty : TypeId) (g o n c : Nat) (hn : 0 < n) (hc : ∀ j, j < n * 4 → (w.cell? ⟨g, o + j, none⟩).isSome = true) (hf : ∀ j, j < n * 4 → w.frozen? ⟨g, o + j, none⟩ = false) :
    (Builtin.clear_ #[42] ty #[.slice (some ⟨g, o, none⟩) n c]).run Try.prog w = .ok (.tuple #[]) (w.setCells g o (Builtin.zeroCells (.agg #[.int .i64 0, .int .i64 0, .int .i64 0, .bool false] : Value).cells n).toList) := by
  have hv : ∀ w, (zeroValue 30).run Try.prog w = .ok (.agg #[.int .i64 0, .int .i64 0, .int .i64 0, .bool false] : Value) w := fun w => by kernel_rfl
  have hl : (Builtin.zeroCells (.agg #[.int .i64 0, .int .i64 0, .int .i64 0, .bool false] : Value).cells n).toList.length = n * 4 := by
    rw [Array.length_toList, size_zeroCells]
    rfl
  have hone : ∀ v ∈ (Builtin.zeroCells (.agg #[.int .i64 0, .int .i64 0, .int .i64 0, .bool false] : Value).cells n).toList, v.oneCell' = true := by
    intro v hv
    simp only [Builtin.zeroCells, Array.toList_map, List.mem_map] at hv
    obtain ⟨i, _, rfl⟩ := hv
    have h4 : i % 4 < 4 := Nat.mod_lt _ (by omega)
    show (#[Value.int .i64 0, Value.int .i64 0, Value.int .i64 0, Value.bool false][i % 4]!).oneCell' = true
    generalize i % 4 = r at h4
    match r, h4 with
    | 0, _ => rfl
    | 1, _ => rfl
    | 2, _ => rfl
    | 3, _ => rfl
  have hst := run_storeCells_cells (P := Try.prog) g o (Builtin.zeroCells (.agg #[.int .i64 0, .int .i64 0, .int .i64 0, .bool false] : Value).cells n).toList 0 w (by rw [hl]; simpa using hc) (by rw [hl]; simpa using hf) hone
  simp only [Nat.add_zero] at hst
  obtain ⟨m, rfl⟩ : ∃ m, n = m + 1 := ⟨n - 1, by omega⟩
  have ht := Try.underlying42
  simp [Builtin.clear_, run_underlying ht, hv, hst]
set_option maxRecDepth 8000 in
set_option maxHeartbeats 4000000 in
theorem deleteFunc_any (lo hi : Nat) (a : Option Addr) (n cap : Nat) (l : List Stp) (pf : Nat) (pr : Stp → Bool) (w : World) (hn : l.length = n) (hle : n ≤ 1048576) (hnc : n ≤ cap) (hlo : lo ≤ w.heap.size) (h1 : OSt lo hi w a l)
    (he : ∀ (args : Array Value) (w2 : World), (callFunc pf args).run Try.prog w2 = .ok (.enter pf args) w2) (hp : ∀ W (s : Stp), Calls Try.prog pf #[stV s] W fun e w2 => e = .returned (.bool (pr s)) ∧ Below W.heap.size W w2) :
    Calls Try.prog 73 #[.slice a n cap, .func (.func pf) #[] #[]] w fun e w' => e = .returned (.slice a (l.filter (fun s => !pr s)).length cap) ∧ OSt lo hi w' a (l.filter (fun s => !pr s)) ∧ Below lo w w' := by
  subst hn
  have HP := Lib.hid hp
  have hi0 := fun W (hW : OSt lo hi W a l) => indexFunc_any lo hi a l.length cap l pf pr W rfl hle hW he (fun W2 _ s => hp W2 s)
  obtain ⟨R, hR⟩ : ∃ R, firstI pr l = R := ⟨_, rfl⟩
  rw [hR] at hi0
  have HI := Lib.hid hi0
  have hlow := firstI_low pr l
  rw [hR] at hlow
  clear hp hi0
  by_cases hneg : R < 0
  · have hRm : R = -1 := by omega
    have hall : (l.filter (fun s => !pr s)) = l := by
      rw [List.filter_eq_self]
      intro s hs
      by_cases hps : pr s = true
      · exfalso
        have hany : l.any pr = true := List.any_eq_true.2 ⟨s, hs, hps⟩
        rw [← firstI_any, hR, hRm] at hany
        simp at hany
      · simpa using hps
    rw [hall]
    subst hRm
    clear hall hR
    go_enter Try.func73, Try.ntmps73
    go_wp2_with (go_at_call 103; refine (HI.out _ h1).mono ?_; rintro e w5 ⟨rfl, hb5⟩)
    go_ret
    exact ⟨rfl, h1.below hb5, hb5.mono hlo⟩
  · obtain ⟨k, t, hRk, hkt, hpt, hbef⟩ := firstI_pos pr l (by omega)
    rw [hR] at hRk
    subst hRk
    have hkl : k < l.length := (List.getElem?_eq_some_iff.1 hkt).1
    have hkl1 : (k : Int) ≤ 1048576 := by omega
    obtain ⟨g, rfl, R1⟩ := h1.row hkl
    have hg : lo ≤ g ∧ g < hi := by
      rcases h1 with ⟨h, _⟩ | ⟨g2, h, q1, q2, _⟩
      · simp at h
      · simp at h
        subst h
        exact ⟨q1, q2⟩
    have hF0 : (l.take (k + 1)).filter (fun s => !pr s) = l.take k := by
      rw [filter_take_succ _ l k t hkt, filter_before pr l k (by omega) hbef]
      simp [hpt]
    have hsp := (stepsC_split l k (by omega)).trans (by rw [stepsC_drop l k t hkt])
    have HSP := Lib.hid hsp
    have HF0 := Lib.hid hF0
    have H1 := Lib.hid h1
    have HT := Lib.hid hpt
    clear hF0 hsp hbef hpt hR hkt h1
    go_enter Try.func73, Try.ntmps73
    go_wp2_with (go_at_call 103; refine (HI.out _ H1.out).mono ?_; rintro e w5 ⟨rfl, hb5⟩)
    have R5 := R1.below hb5
    have hb := hb5.mono hlo
    have hlo5 := hb5.size
    clear hb5
    go_loopg [5, 6] (l.length - (k + 1)) (fun m q i wr => ∃ (j I : Nat) (M : List Value), k < j ∧ j ≤ l.length ∧ m = l.length - j ∧ i = .int .i64 j ∧ q = .int .i64 I ∧ ((l.take j).filter (fun s => !pr s)).length = I ∧ I < j ∧ M.length = (j - I) * 4 ∧ VRow wr g (stepsC ((l.take j).filter (fun s => !pr s)) ++ (M ++ (stepsC l).drop (j * 4))) 30 ∧ Below lo w wr ∧ w.heap.size ≤ wr.heap.size)
    case atStart =>
      refine ⟨k + 1, k, [.int .i64 t.1, .int .i64 t.2.1, .int .i64 t.2.2.1, .bool t.2.2.2], by omega, by omega, by omega, by go_num, rfl, by rw [HF0.out, List.length_take]; omega, by omega, by simp, ?_, hb, hlo5⟩
      rw [HF0.out]
      exact R5.wf HSP.out
    case round =>
      obtain ⟨j, I, M, hkj, hj, hm, rfl, rfl, hI, hIj, hM, hr, hbel, hsz⟩ := hrel
      have hI1 : (I : Int) ≤ 1048576 := by omega
      have hII : (I : Int) < (l.length : Int) := by omega
      have hI0 : (0 : Int) ≤ (I : Int) := by omega
      have hIn : I ≤ l.length := by omega
      have hFl : (stepsC ((l.take j).filter (fun s => !pr s))).length = I * 4 := by rw [stepsC_length, hI]
      by_cases hlt : j < l.length
      · have hlt' : (j : Int) < (l.length : Int) := by omega
        have hj0 : (0 : Int) ≤ (j : Int) := by omega
        obtain ⟨s, hs⟩ : ∃ s, l[j]? = some s := ⟨_, List.getElem?_eq_getElem hlt⟩
        have hdr := stepsC_drop l j s hs
        have hft := filter_take_succ (fun s => !pr s) l j s hs
        obtain ⟨v0, v1, v2, v3, M', rfl⟩ : ∃ v0 v1 v2 v3 M', M = v0 :: v1 :: v2 :: v3 :: M' := by
          match M, hM with
          | [], h => simp at h; omega
          | [_], h => simp at h; omega
          | [_, _], h => simp at h; omega
          | [_, _, _], h => simp at h; omega
          | a :: b :: c :: d :: M', _ => exact ⟨a, b, c, d, M', rfl⟩
        rw [hdr] at hr
        have hget : ∀ (i : Nat) (u : Value), ([.int .i64 s.1, .int .i64 s.2.1, .int .i64 s.2.2.1, .bool s.2.2.2] : List Value)[i]? = some u → i < 4 → wr.cell? ⟨g, j * 4 + i, none⟩ = some u := fun i u hu hi4 => by
          refine hr.cell _ _ ?_
          rw [List.getElem?_append_right (by omega), hFl, List.getElem?_append_right (by omega), hM]
          have : j * 4 + i - I * 4 - (j - I) * 4 = i := by omega
          rw [this]
          match i, hi4 with
          | 0, _ => simpa using hu
          | 1, _ => simpa using hu
          | 2, _ => simpa using hu
          | 3, _ => simpa using hu
        have d0 := hget 0 _ rfl (by omega)
        have d1 := hget 1 _ rfl (by omega)
        have d2 := hget 2 _ rfl (by omega)
        have d3 := hget 3 _ rfl (by omega)
        have hps := fun W => HP.out W s
        obtain ⟨sa, sb, sc, sd⟩ := s
        dsimp only at d0 d1 d2 d3
        rw [Nat.add_zero] at d0
        have gl := hr.lt
        cases hpr : pr (sa, sb, sc, sd) with
        | true =>
          rw [hpr] at hps
          have HC := Lib.hid hps
          have HR := Lib.hid hr
          have HFT := Lib.hid hft
          have HPR := Lib.hid hpr
          have HH := Lib.hid hI
          have HM := Lib.hid hM
          clear hps hr hpr hft hget hdr hs hFl hI hM
          go_wp2_with (go_at_fn pf; refine (HC.out _).mono ?_; rintro e w6 ⟨rfl, hb6⟩)
          go_roundg (l.length - (j + 1))
          case measure => omega
          case rel =>
            have e1 : (l.take (j + 1)).filter (fun s => !pr s) = (l.take j).filter (fun s => !pr s) := by rw [HFT.out]; simp [HPR.out]
            have hbb := from_alloc hb6
            have hsz6 := hbb.size
            refine ⟨j + 1, I, v0 :: v1 :: v2 :: v3 :: M' ++ [.int .i64 sa, .int .i64 sb, .int .i64 sc, .bool sd], by omega, by omega, rfl, by go_num, rfl, by rw [e1]; exact HH.out, by omega, by have := HM.out; rw [List.length_append, this]; simp; omega, ?_, hbel.trans (hbb.mono (by omega)), by omega⟩
            rw [e1]
            refine (HR.out.below hbb).wf ?_
            simp
        | false =>
          rw [hpr] at hps
          have HC := Lib.hid hps
          have HR := Lib.hid hr
          have HFT := Lib.hid hft
          have HPR := Lib.hid hpr
          have HH := Lib.hid hI
          have HM := Lib.hid hM
          have HFL := Lib.hid hFl
          have eo : ∀ (i : Nat) (u : Value), ([v0, v1, v2, v3] : List Value)[i]? = some u → i < 4 → ∀ W, Below wr.heap.size wr W → W.cell? ⟨g, I * 4 + i, none⟩ = some u := fun i u hu hi4 W hW => by
            refine (HR.out.below hW).cell _ _ ?_
            rw [List.getElem?_append_right (by omega), hFl]
            have : I * 4 + i - I * 4 = i := by omega
            rw [this]
            match i, hi4 with
            | 0, _ => simpa using hu
            | 1, _ => simpa using hu
            | 2, _ => simpa using hu
            | 3, _ => simpa using hu
          have HE0 := Lib.hid (eo 0 _ rfl (by omega))
          have HE1 := Lib.hid (eo 1 _ rfl (by omega))
          have HE2 := Lib.hid (eo 2 _ rfl (by omega))
          have HE3 := Lib.hid (eo 3 _ rfl (by omega))
          clear hps hr hpr hft hget hdr hs hFl hI hM eo
          go_wp2_with (go_at_fn pf; refine (HC.out _).mono ?_; rintro e w6 ⟨rfl, hb6⟩; obtain ⟨a0, a1, a2, a3, af, al⟩ := ((Blk.new wr #[.int .i64 sa, .int .i64 sb, .int .i64 sc, .bool sd] 30).below hb6).four; have b0 := HE0.out w6 (from_alloc hb6); have b1 := HE1.out w6 (from_alloc hb6); have b2 := HE2.out w6 (from_alloc hb6); have b3 := HE3.out w6 (from_alloc hb6); have fr := (fun i => (HR.out.below (from_alloc hb6)).free i); rw [Nat.add_zero] at b0)
          go_roundg (l.length - (j + 1))
          case measure => omega
          case rel =>
            have e1 : (l.take (j + 1)).filter (fun s => !pr s) = (l.take j).filter (fun s => !pr s) ++ [(sa, sb, sc, sd)] := by rw [HFT.out]; simp [HPR.out]
            have hbb := from_alloc hb6
            have hsz6 := hbb.size
            have hM' : M'.length + 4 = (j - I) * 4 := by have := HM.out; simpa using this
            refine ⟨j + 1, I + 1, M' ++ [.int .i64 sa, .int .i64 sb, .int .i64 sc, .bool sd], by omega, by omega, rfl, by go_num, by go_num, by rw [e1, List.length_append, HH.out]; rfl, by omega, by rw [List.length_append]; simp; omega, ?_, ((((hbel.trans (hbb.mono (by omega))).setCell hg.1 _).setCell hg.1 _).setCell hg.1 _).setCell hg.1 _, by simp; omega⟩
            rw [e1]
            have R6 := HR.out.below hbb
            refine (((((R6.set (I * 4) (.int .i64 sa)).set (I * 4 + 1) (.int .i64 sb)).set (I * 4 + 2) (.int .i64 sc)).set (I * 4 + 3) (.bool sd)).wf (set4_app _ _ _ _ _ _ _ _ _ _ _ HFL.out)).wf ?_
            rw [stepsC_append]
            simp [stepsC, stC]
      · obtain rfl : j = l.length := by omega
        have hcl := fun ty => run_clear_steps wr ty g (I * 4) (l.length - I) (cap - I) (by omega) (fun i hi4 => by
          have hlt : I * 4 + i < (stepsC ((l.take l.length).filter (fun s => !pr s)) ++ (M ++ (stepsC l).drop (l.length * 4))).length := by rw [List.length_append, List.length_append, hFl, hM]; omega
          rw [hr.cell _ _ (List.getElem?_eq_getElem hlt)]
          rfl) (fun i _ => hr.free _)
        have hres := (VRow.prefix hr)
        have hfin := VRow.setCells (Builtin.zeroCells (.agg #[.int .i64 0, .int .i64 0, .int .i64 0, .bool false] : Value).cells (l.length - I)).toList (I * 4) wr hres (by omega)
        have hbf := below_setCells hg.1 (Builtin.zeroCells (.agg #[.int .i64 0, .int .i64 0, .int .i64 0, .bool false] : Value).cells (l.length - I)).toList (I * 4) wr hbel
        rw [List.take_length] at hfin hI
        obtain ⟨LF, hLF⟩ : ∃ LF, l.filter (fun s => !pr s) = LF := ⟨_, rfl⟩
        rw [hLF] at hfin hI
        have HFI := Lib.hid hfin
        have HBF := Lib.hid hbf
        have HLF := Lib.hid hLF
        have HIL := Lib.hid hI
        clear hfin hbf hr hres hM hFl hI hLF
        go_wp2
        go_ret
        rw [HLF.out]
        exact ⟨by rw [HIL.out]; rfl, .inr ⟨g, rfl, hg.1, hg.2, HFI.out⟩, HBF.out⟩
end Go.Proofs.Ytjglempkmenacaa
