/- Exact numbers that came in as an argument: how they are read, and how the law copies and compares them. -/
import Derived.Test.YtgohipfaojiilaaExL
import Derived.Test.Ytgohipfaojiilaa09g
import Derived.Deep.Slices
import Derived.Deep.Fields
import Derived.ChangeSame
import Derived.OpenShut
import Derived.Lib.SmallJoins
namespace Go.Proofs.Ytgohipfaojiilaa
open Go.ChangeShapes Go.WideShapes Go.ChangeAt Go.RowKit
set_option linter.unusedVariables false
set_option linter.unusedSimpArgs false
set_option maxRecDepth 4000

/-- What a slice of numbers that leads to a reads. -/
def XIn (w : World) (a : Option Addr) (l : List Rl) : Prop :=
  ∀ (i : Nat) (s : Rl), l[i]? = some s → ∃ b o, a = some ⟨b, o, none⟩ ∧ w.cell? ⟨b, o + i * 2, none⟩ = some (.int .i64 s.1) ∧ w.cell? ⟨b, o + i * 2 + 1, none⟩ = some (.int .i64 s.2)
theorem XIn.below {w w' : World} {a : Option Addr} {l : List Rl} (h : XIn w a l) (hb : Below w.heap.size w w') : XIn w' a l := fun i s hs => by
  obtain ⟨b, o, e, c0, c1⟩ := h i s hs
  have hl := World.block_lt_of_cell? w _ c0
  exact ⟨b, o, e, by rw [hb.cell (p := ⟨b, o + i * 2, none⟩) hl]; exact c0, by rw [hb.cell (p := ⟨b, o + i * 2 + 1, none⟩) hl]; exact c1⟩
theorem infoEx : (Try.prog.info? 66).map (fun i => (i.zero, i.size, i.bytes)) = some (some (.agg #[.int .i64 0, .int .i64 0]), 2, 16) := by kernel_rfl
theorem addrAdd {b o k : Nat} : (⟨b, o, none⟩ : Addr).add k = ⟨b, o + k, none⟩ := by unfold Addr.add; split <;> simp_all
theorem open_exAt {H : Type} {enc : TypeId × Value → H} {w : World} {base : Nat} {spare : Nat → Bool} {held : Bool} {fuel : Nat} {cs : List Value} {x : DataW H × List MemPlace}
    (hl : cs.length = 2) (h : DataW.trod enc Try.prog w base spare held fuel 68 cs = some x) : ∃ s : Rl, cs = [.int .i64 s.1, .int .i64 s.2] ∧ (Lit.int .i64 s.2).wf = true := by
  match cs, hl with
  | [v0, v1], _ =>
    obtain ⟨ys, n, -, -, -, hyl, hf⟩ := DataW.trod_struct Try.underlying68 h
    have hy2 : ys.length = 2 := hyl
    match ys, hy2 with
    | [y0, y1], _ =>
      have k1 : Try.prog.cellsOf 2 = 1 := by kernel_rfl
      have g0 := hf 0 _ rfl
      have g1 := hf 1 _ rfl
      simp [k1] at g0 g1
      obtain ⟨a0, e0, -⟩ := DataW.trod_int Try.underlying2 g0
      obtain ⟨a1, e1, -, w1⟩ := DataW.trod_int Try.underlying2 g1
      simp at e0 e1
      subst e0 e1
      exact ⟨(a0, a1), rfl, w1⟩
theorem open_exs {H : Type} {enc : TypeId × Value → H} {w : World} {base : Nat} {spare : Nat → Bool} {held : Bool} {fuel : Nat} {v : Value} {x : DataW H × List MemPlace}
    (h : DataW.trod enc Try.prog w base spare held fuel 24 [v] = some x) :
    ∃ (a : Option Addr) (n cap : Nat) (l : List Rl), v = .slice a n cap ∧ l.length = n ∧ n ≤ 9223372036854775807 ∧ XIn w a l ∧ ∀ s ∈ l, -9223372036854775808 ≤ s.2 ∧ s.2 ≤ 9223372036854775807 := by
  rcases Go.Deep.open_slice Try.underlying24 h with ⟨hcs, -⟩ | ⟨a, len, cap, m, n, D, Pl, hcs, -, hl, hm, hmm, -, hi⟩
  · simp at hcs
    exact ⟨none, 0, 0, [], hcs, rfl, by omega, fun i s hs => by simp at hs, by simp⟩
  · simp at hcs
    have hle : len ≤ m := by rw [hmm]; split <;> omega
    have k4 : Try.prog.cellsOf 68 = 2 := by kernel_rfl
    rw [k4] at hi
    have hel : ∀ i : Nat, ∃ s : Rl, i < len → w.cell? (a.add (i * 2)) = some (.int .i64 s.1) ∧ w.cell? ((a.add (i * 2)).add 1) = some (.int .i64 s.2) ∧ (Lit.int .i64 s.2).wf = true := by
      intro i
      by_cases hlt : i < len
      · obtain ⟨cs, hc, ht⟩ := hi i (by omega)
        obtain ⟨-, hcl, hat⟩ := World.cells?_some hc
        obtain ⟨s, rfl, hw⟩ := open_exAt hcl ht
        refine ⟨s, fun _ => ⟨?_, hat 1 (by omega), hw⟩⟩
        have h0 := hat 0 (by omega)
        rw [show (a.add (i * 2)).add 0 = a.add (i * 2) from by unfold Addr.add; split <;> simp_all] at h0
        exact h0
      · exact ⟨(0, 0), fun q => absurd q hlt⟩
    obtain ⟨f, hf⟩ := Classical.axiomOfChoice hel
    refine ⟨some a, len, cap, (List.range len).map f, hcs, by simp, by unfold maxLen at hm; omega, fun i s hs => ?_, fun s hs => ?_⟩
    · rw [List.getElem?_map, Option.map_eq_some_iff] at hs
      obtain ⟨k, hk, rfl⟩ := hs
      obtain ⟨hk1, hk2⟩ := List.getElem?_eq_some_iff.1 hk
      simp at hk1 hk2
      subst hk2
      obtain ⟨c0, c1, -⟩ := hf i hk1
      obtain ⟨b, o, spot⟩ := a
      have hspot : spot = none := by
        have := World.cell?_spot (hf 0 (by omega)).1
        simpa [Addr.add] using this
      subst hspot
      rw [addrAdd] at c0
      rw [addrAdd, addrAdd] at c1
      exact ⟨b, o, rfl, c0, c1⟩
    · rw [List.mem_map] at hs
      obtain ⟨k, hk, rfl⟩ := hs
      rw [List.mem_range] at hk
      exact wfR (hf k hk).2.2
theorem szExactS_any (a : Option Addr) (n cap : Nat) (left : Int) (w : World) (h0 : 0 ≤ left) (h1 : left ≤ 1000000000) (hn : n ≤ 9223372036854775807) :
    Calls Try.prog 18 #[.slice a n cap, .int .i64 left] w fun e w' => e = .returned (.int .i64 (if left - n < 0 then -1 else left - n)) ∧ w = w' := by
  by_cases h : left - n < 0
  · rw [if_pos h]
    go_enter Try.func18, Try.ntmps18
    go_wp2
    go_ret
    exact ⟨rfl, rfl⟩
  · rw [if_neg h]
    go_enter Try.func18, Try.ntmps18
    go_wp2
    go_ret
    exact ⟨rfl, rfl⟩
theorem rlsC_zeros : ∀ n : Nat, rlsC (List.replicate n ((0, 0) : Rl)) = (List.replicate n [Value.int .i64 0, .int .i64 0]).flatten
  | 0 => rfl
  | n + 1 => by rw [List.replicate_succ, rlsC, rlsC_zeros n, List.replicate_succ, List.flatten_cons]; rfl
theorem flat_at2 : ∀ (n i : Nat), i < n * 2 → ((List.replicate n [Value.int .i64 0, .int .i64 0]).flatten)[i]? = some (#[Value.int .i64 0, .int .i64 0][i % 2]!)
  | 0, i, h => by omega
  | n + 1, i, h => by
    rw [List.replicate_succ, List.flatten_cons]
    by_cases hi : i < 2
    · rw [List.getElem?_append_left (by simpa using hi), Nat.mod_eq_of_lt hi]
      have h4 : i = 0 ∨ i = 1 := by omega
      rcases h4 with rfl | rfl <;> rfl
    · rw [List.getElem?_append_right (by simp; omega), show [Value.int .i64 0, .int .i64 0].length = 2 from rfl, flat_at2 n (i - 2) (by omega), show i % 2 = (i - 2) % 2 by omega]
theorem made_exs (n : Nat) : (madeCells #[.int .i64 0, .int .i64 0] (n * 2)).toList = rlsC (List.replicate n ((0, 0) : Rl)) := by
  rw [rlsC_zeros]
  apply List.ext_getElem?
  intro i
  by_cases h : i < n * 2
  · rw [flat_at2 n i h]
    have hz : i < (madeCells #[.int .i64 0, .int .i64 0] (n * 2)).toList.length := by simp [madeCells]; omega
    rw [List.getElem?_eq_getElem hz]
    simp [madeCells]
  · rw [List.getElem?_eq_none (by simp [madeCells]; omega), List.getElem?_eq_none (by rw [← rlsC_zeros, rlsC_length, List.length_replicate]; omega)]
theorem rlsC_set2 : ∀ (l : List Rl) (k : Nat) (s : Rl), k < l.length → rlsC (l.set k s) = ((rlsC l).set (k * 2) (.int .i64 s.1)).set (k * 2 + 1) (.int .i64 s.2)
  | [], k, s, h => by simp at h
  | x :: l, 0, s, h => by simp [rlsC, rlC]
  | x :: l, k + 1, s, h => by
    rw [List.set_cons_succ, rlsC, rlsC_set2 l k s (by simpa using h), show (k + 1) * 2 = k * 2 + 2 by omega]
    simp [rlsC, rlC]
theorem copyX_step (l : List Rl) (k : Nat) (s : Rl) (hs : l[k]? = some s) : (l.take k ++ List.replicate (l.length - k) ((0, 0) : Rl)).set k s = l.take (k + 1) ++ List.replicate (l.length - (k + 1)) (0, 0) := by
  obtain ⟨hk, he⟩ := List.getElem?_eq_some_iff.1 hs
  have hlen : (l.take k).length = k := by simp; omega
  obtain ⟨m, hm⟩ : ∃ m, l.length - k = m + 1 := ⟨l.length - k - 1, by omega⟩
  rw [hm, List.replicate_succ, List.set_append_right _ _ (by omega), hlen, Nat.sub_self, List.set_cons_zero, List.take_succ_eq_append_getElem hk, he, show l.length - (k + 1) = m by omega, List.append_assoc]
  rfl
set_option maxRecDepth 8000 in
set_option maxHeartbeats 1000000 in
theorem toExactS_any (a : Option Addr) (n cap : Nat) (l : List Rl) (w : World) (hn : l.length = n) (hle : n ≤ 1048576) (hr : XIn w a l) :
    Calls Try.prog 22 #[.slice a n cap] w fun e w' => ∃ g, e = .returned (.slice (some ⟨g, 0, none⟩) l.length l.length) ∧ w.heap.size ≤ g ∧ g < w'.heap.size ∧ XRow w' g l ∧ Below w.heap.size w w' := by
  obtain ⟨i0, hi, hz0, hz1, hz2⟩ := info_parts infoEx
  subst hn
  go_enter Try.func22, Try.ntmps22
  go_wp2_with (at_make; refine wpList_make_full _ rfl _ _ 32 rfl w.heap.size 66 i0 (.agg #[.int .i64 0, .int .i64 0]) 2 Try.underlying32 hi hz0 hz1 .i64 .i64 (l.length : Int) (l.length : Int) l.length rfl rfl rfl rfl (by rw [hz2]; omega) (by unfold maxLen; omega) (Nat.le_refl _) ?_; intro w2 hO hg)
  have hO2 : w2.ownsRow w.heap.size 66 2 (.slice (some ⟨w.heap.size, 0, none⟩) l.length l.length) l.length (rlsC (List.replicate l.length (0, 0))) := by
    have := made_exs l.length
    rw [← this]
    exact hO
  have hb2 : Below w.heap.size w w2 := ⟨hg.os, hg.tape, hg.output, hg.size, fun k hk => hg.block k hk (by simp)⟩
  obtain ⟨-, ⟨hno, -⟩ | ⟨g, cp, cur, hv, -, hh, hc, -, hs_, ht⟩⟩ := hO2
  · simp at hno
  simp at hv
  obtain ⟨hv, -⟩ := hv
  subst hv
  have RR : XRow w2 w.heap.size (List.replicate l.length (0, 0)) := ⟨cur, hh, by rw [rlsC_length, List.length_replicate, hs_]; exact Nat.mul_le_mul_right _ hc, by rw [rlsC_length, List.length_replicate]; exact ht⟩
  clear hg hO hh hc hs_ ht
  go_loopg [4] l.length (fun m q4 wr => ∃ k : Nat, k ≤ l.length ∧ m = l.length - k ∧ q4 = .int .i64 (k : Int) ∧ XRow wr w.heap.size (l.take k ++ List.replicate (l.length - k) (0, 0)) ∧ Below w.heap.size w wr)
  case atStart => exact ⟨0, by omega, by omega, rfl, by simpa using RR, hb2⟩
  case round =>
    clear RR hb2
    obtain ⟨k, hk, hm, rfl, RR, hb⟩ := hrel
    by_cases hlt : k < l.length
    · have hlt' : (k : Int) < (l.length : Int) := by omega
      have hk0 : (0 : Int) ≤ (k : Int) := by omega
      obtain ⟨s, hs⟩ : ∃ s, l[k]? = some s := ⟨_, List.getElem?_eq_getElem hlt⟩
      obtain ⟨b, o, rfl, c0, c1⟩ := (hr.below hb) k s hs
      have hst := copyX_step l k s hs
      have hlen : (l.take k ++ List.replicate (l.length - k) ((0, 0) : Rl)).length = l.length := by simp; omega
      have hset := rlsC_set2 (l.take k ++ List.replicate (l.length - k) ((0, 0) : Rl)) k s (by omega)
      obtain ⟨s', hs'⟩ : ∃ z, (l.take k ++ List.replicate (l.length - k) ((0, 0) : Rl))[k]? = some z := ⟨_, List.getElem?_eq_getElem (by omega)⟩
      obtain ⟨ta, tb⟩ := s
      dsimp only at c0 c1 hset
      have hts := fun W => toExact_same ta tb W
      have HTS := Lib.hid hts
      clear hts hr hs
      go_wp2_with fail
      refine (HTS.out _).mono ?_
      rintro e w3 ⟨rfl, hq⟩
      replace RR := VRow.below RR hq
      replace hb := chain hb hq
      have hRl := VRow.lt RR
      obtain ⟨d0, d1⟩ := XRow.two RR k s' hs'
      have f0 := fun j => VRow.free RR j
      have R2 := Lib.hid (((VRow.set RR (k * 2) (.int .i64 ta)).set (k * 2 + 1) (.int .i64 tb)).wf (hset.symm.trans (congrArg rlsC hst)))
      have hbn := Lib.hid ((hb.setCell (p := ⟨w.heap.size, k * 2, none⟩) (Nat.le_refl _) (.int .i64 ta)).setCell (p := ⟨w.heap.size, k * 2 + 1, none⟩) (Nat.le_refl _) (.int .i64 tb))
      clear RR hb hq hst hset hs' hlen c0 c1
      go_wp2
      go_roundg (l.length - (k + 1))
      case measure => omega
      case rel => exact ⟨k + 1, by omega, rfl, by go_num, R2.out, hbn.out⟩
    · obtain rfl : k = l.length := by omega
      have hRl := VRow.lt RR
      have RR2 : XRow wr w.heap.size l := VRow.wf RR (show _ = rlsC l by rw [Nat.sub_self, List.replicate_zero, List.append_nil, List.take_of_length_le (Nat.le_refl _)])
      clear RR
      go_wp2
      go_ret
      exact ⟨w.heap.size, rfl, Nat.le_refl _, hRl, RR2, hb⟩
set_option maxRecDepth 8000 in
set_option maxHeartbeats 1000000 in
theorem eqExactS_same (g1 g2 n c1 c2 : Nat) (l : List Rl) (w : World) (hn : l.length = n) (hle : n ≤ 1048576) (h1 : XRow w g1 l) (h2 : XRow w g2 l) :
    Calls Try.prog 26 #[.slice (some ⟨g1, 0, none⟩) n c1, .slice (some ⟨g2, 0, none⟩) n c2] w fun e w' => e = .returned (.bool true) ∧ Below w.heap.size w w' := by
  subst hn
  go_enter Try.func26, Try.ntmps26
  go_wp2
  go_loopg [5] l.length (fun m i wr => ∃ k : Nat, k ≤ l.length ∧ m = l.length - k ∧ i = .int .i64 k ∧ Below w.heap.size w wr)
  case atStart => exact ⟨0, by omega, by omega, rfl, Below.refl _ _⟩
  case round =>
    obtain ⟨k, hk, hm, rfl, hb⟩ := hrel
    by_cases hlt : k < l.length
    · have hlt' : (k : Int) < (l.length : Int) := by omega
      have hk0 : (0 : Int) ≤ (k : Int) := by omega
      have R1 := VRow.below h1 hb
      have R2 := VRow.below h2 hb
      obtain ⟨⟨a, b⟩, hs⟩ : ∃ s, l[k]? = some s := ⟨_, List.getElem?_eq_getElem hlt⟩
      have HS1 := Lib.hid hs
      clear hs h1 h2
      go_wp2_with fail
      refine wp_region_held_drew (S := fun w' => w'.cell? ⟨g1, k * 2, none⟩ = some (.int .i64 a) ∧ w'.cell? ⟨g1, k * 2 + 1, none⟩ = some (.int .i64 b) ∧ w'.cell? ⟨g2, k * 2, none⟩ = some (.int .i64 a) ∧ w'.cell? ⟨g2, k * 2 + 1, none⟩ = some (.int .i64 b)) (by kernel_rfl) ⟨(XRow.two (VRow.drew R1) k _ HS1.out).1, (XRow.two (VRow.drew R1) k _ HS1.out).2, (XRow.two (VRow.drew R2) k _ HS1.out).1, (XRow.two (VRow.drew R2) k _ HS1.out).2⟩ (fun hHeld => ?_)
      clear hHeld
      replace R1 := VRow.drew R1
      replace R2 := VRow.drew R2
      replace hb := hb.drew
      generalize wr.drew = vd at *
      have hHeld : vd.cell? ⟨g1, k * 2, none⟩ = some (.int .i64 a) ∧ vd.cell? ⟨g1, k * 2 + 1, none⟩ = some (.int .i64 b) ∧ vd.cell? ⟨g2, k * 2, none⟩ = some (.int .i64 a) ∧ vd.cell? ⟨g2, k * 2 + 1, none⟩ = some (.int .i64 b) := ⟨(XRow.two R1 k _ HS1.out).1, (XRow.two R1 k _ HS1.out).2, (XRow.two R2 k _ HS1.out).1, (XRow.two R2 k _ HS1.out).2⟩
      refine wpAnyH_take (i := 0) (oi := { dst := some 17, op := _, type := _, pos := _, after := _, guard := _ }) (v := ?_) rfl (by kernel_rfl) (by kernel_rfl) (by kernel_rfl) (fun _ _ _ h => h) (Or.inl ⟨by rfl, ?_⟩) (by assumption) ?_
      rotate_left
      · intro w hSw
        (try dsimp only at hSw)
        go_simp
        (try (with_reducible rfl))
      try simp only [Act.put, List.setIfInBounds_toArray, List.set_cons_zero, List.set_cons_succ]
      refine wpAnyH_take (i := 1) (oi := { dst := some 18, op := _, type := _, pos := _, after := _, guard := _ }) (v := ?_) rfl (by kernel_rfl) (by kernel_rfl) (by kernel_rfl) (fun _ _ _ h => h) (Or.inl ⟨by rfl, ?_⟩) (by assumption) ?_
      rotate_left
      · intro w hSw
        (try dsimp only at hSw)
        go_simp
        (try (with_reducible rfl))
      try simp only [Act.put, List.setIfInBounds_toArray, List.set_cons_zero, List.set_cons_succ]
      refine wpAnyH_take (i := 2) (oi := { dst := some 19, op := _, type := _, pos := _, after := _, guard := _ }) (v := ?_) rfl (by kernel_rfl) (by kernel_rfl) (by kernel_rfl) (fun _ _ _ h => h) (Or.inl ⟨by rfl, ?_⟩) (by assumption) ?_
      rotate_left
      · intro w hSw
        (try dsimp only at hSw)
        go_simp
        (try (with_reducible rfl))
      try simp only [Act.put, List.setIfInBounds_toArray, List.set_cons_zero, List.set_cons_succ]
      refine wpAnyH_take (i := 3) (oi := { dst := some 20, op := _, type := _, pos := _, after := _, guard := _ }) (v := ?_) rfl (by kernel_rfl) (by kernel_rfl) (by kernel_rfl) (fun _ _ _ h => h) (Or.inl ⟨by rfl, ?_⟩) (by assumption) ?_
      rotate_left
      · intro w hSw
        (try dsimp only at hSw)
        go_simp
        (try (with_reducible rfl))
      try simp only [Act.put, List.setIfInBounds_toArray, List.set_cons_zero, List.set_cons_succ]
      refine wpAnyH_take (i := 4) (oi := { dst := some 21, op := _, type := _, pos := _, after := _, guard := _ }) (v := ?_) rfl (by kernel_rfl) (by kernel_rfl) (by kernel_rfl) (fun _ _ _ h => h) (Or.inl ⟨by rfl, ?_⟩) (by assumption) ?_
      rotate_left
      · intro w hSw
        (try dsimp only at hSw)
        go_simp
        (try (with_reducible rfl))
      try simp only [Act.put, List.setIfInBounds_toArray, List.set_cons_zero, List.set_cons_succ]
      refine wpAnyH_take (i := 5) (oi := { dst := some 22, op := _, type := _, pos := _, after := _, guard := _ }) (v := ?_) rfl (by kernel_rfl) (by kernel_rfl) (by kernel_rfl) (fun _ _ _ h => h) (Or.inl ⟨by rfl, ?_⟩) (by assumption) ?_
      rotate_left
      · intro w hSw
        (try dsimp only at hSw)
        go_simp
        (try (with_reducible rfl))
      try simp only [Act.put, List.setIfInBounds_toArray, List.set_cons_zero, List.set_cons_succ]
      refine wpAnyH_take (i := 6) (oi := { dst := some 23, op := _, type := _, pos := _, after := _, guard := _ }) (v := ?_) rfl (by kernel_rfl) (by kernel_rfl) (by kernel_rfl) (fun _ _ _ h => h) (Or.inl ⟨by rfl, ?_⟩) (by assumption) ?_
      rotate_left
      · intro w hSw
        (try dsimp only at hSw)
        go_simp
        (try (with_reducible rfl))
      try simp only [Act.put, List.setIfInBounds_toArray, List.set_cons_zero, List.set_cons_succ]
      refine wpAnyH_take (i := 7) (oi := { dst := some 24, op := _, type := _, pos := _, after := _, guard := _ }) (v := ?_) rfl (by kernel_rfl) (by kernel_rfl) (by kernel_rfl) (fun _ _ _ h => h) (Or.inl ⟨by rfl, ?_⟩) (by assumption) ?_
      rotate_left
      · intro w hSw
        (try dsimp only at hSw)
        go_simp
        (try (with_reducible rfl))
      try simp only [Act.put, List.setIfInBounds_toArray, List.set_cons_zero, List.set_cons_succ]
      refine wpAnyH_ready (rs := [8]) (by kernel_rfl) (by simp) ?_
      refine AllReadyH.cons (o := { dst := some 25, op := _, type := _, pos := _, after := _, guard := _ }) rfl (fun K hK => ?_) AllReadyH.nil
      go_simp
      refine (eqExact_same a b _).mono ?_
      rintro e w8 ⟨rfl, hb8⟩
      replace R1 := VRow.below R1 hb8
      replace R2 := VRow.below R2 hb8
      replace hb := chain hb hb8
      clear hb8
      (try go_wp2_with fail)
      refine hK.out _ _ ⟨(XRow.two R1 k _ HS1.out).1, (XRow.two R1 k _ HS1.out).2, (XRow.two R2 k _ HS1.out).1, (XRow.two R2 k _ HS1.out).2⟩ (fun hHeld => ?_)
      clear hK K
      try simp only [Act.put, List.setIfInBounds_toArray, List.set_cons_zero, List.set_cons_succ]
      refine wpAnyH_take (i := 9) (oi := { dst := some 26, op := _, type := _, pos := _, after := _, guard := _ }) (v := ?_) rfl (by kernel_rfl) (by kernel_rfl) (by kernel_rfl) (fun _ _ _ h => h) (Or.inl ⟨by rfl, ?_⟩) (by assumption) ?_
      rotate_left
      · intro w hSw
        (try dsimp only at hSw)
        go_simp
        (try (with_reducible rfl))
      try simp only [Act.put, List.setIfInBounds_toArray, List.set_cons_zero, List.set_cons_succ]
      refine wpAnyH_done (by kernel_rfl) ?_ _
      clear hHeld
      go_wp2_with fail
      go_roundg (l.length - (k + 1))
      case measure => omega
      case rel => exact ⟨k + 1, by omega, rfl, by go_num, hb⟩
    · obtain rfl : k = l.length := by omega
      go_wp2
      go_ret
      exact ⟨rfl, hb⟩
end Go.Proofs.Ytgohipfaojiilaa
