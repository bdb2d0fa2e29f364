/- Texts of a proof, laid together: The law's own helpers on plays: marked, held. -/
import Derived.Test.YtokjkcnjmfbfiaaY26
import Derived.Test.YtokjkcnjmfbfiaaY02
import Derived.Test.YtokjkcnjmfbfiaaY21
import Derived.Test.YtokjkcnjmfbfiaaY22
import Derived.Test.YtokjkcnjmfbfiaaY01
namespace Go.Proofs.Ytokjkcnjmfbfiaa
open Go.ChangeShapes Go.WideShapes Go.ChangeAt Go.RowKit
set_option linter.unusedVariables false
set_option linter.unusedSimpArgs false
set_option maxRecDepth 4000

theorem PAt_keep {lo hi : Nat} {w w' : World} {x : PP} (h : PAt lo hi w x) (hk : ∀ i ∈ adr x, w'.heap[i]? = w.heap[i]?) : PAt lo hi w' x := by
  obtain ⟨⟨sa, sc, b1, k1, b2, k2⟩, m, xs, ys⟩ := x
  obtain ⟨hS, hO⟩ := h
  dsimp only at hS hO
  refine ⟨?_, ?_⟩
  · rcases hS with h | ⟨g, e, h1, h2, cur, hB, r1, r2⟩
    · exact .inl h
    · subst e
      exact .inr ⟨g, rfl, h1, h2, cur, (hk g (by simp [adr])).trans hB, r1, r2⟩
  · rcases hO with h | ⟨g1, g2, e1, e2, hne, q1, q2, q3, q4, ⟨cur, hB, r1, r2⟩, ⟨cur', hB', r1', r2'⟩⟩
    · exact .inl h
    · subst e1 e2
      exact .inr ⟨g1, g2, rfl, rfl, hne, q1, q2, q3, q4, ⟨cur, (hk g1 (by simp [adr])).trans hB, r1, r2⟩, ⟨cur', (hk g2 (by simp [adr])).trans hB', r1', r2'⟩⟩
/-- A play whose places have been marked from k on. -/
def szP (x : PP) : Nat := 4 * x.2.1.length + x.2.2.1.length + x.2.2.2.length
def mkP (k : Int) (x : PP) : PP := (x.1, (mkS k x.2.1.length, marks (k + 4 * (x.2.1.length : Int)) x.2.2.1.length, marks (k + 4 * (x.2.1.length : Int) + (x.2.2.1.length : Int)) x.2.2.2.length))
def szPs : List PP → Nat
  | [] => 0
  | x :: l => szP x + szPs l
def mkPs (k : Int) : List PP → List PP
  | [] => []
  | x :: l => mkP k x :: mkPs (k + (szP x : Int)) l
theorem adr_mkP (k : Int) (x : PP) : adr (mkP k x) = adr x := rfl
theorem plC_mkP (k : Int) (x : PP) : plC (mkP k x) = plC x := by simp [plC, mkP, mkS_length, marks_length]
theorem szPs_snoc : ∀ (l : List PP) (x : PP), szPs (l ++ [x]) = szPs l + szP x
  | [], x => by simp [szPs]
  | y :: l, x => by rw [List.cons_append, szPs, szPs, szPs_snoc l x]; omega
theorem mkPs_snoc : ∀ (l : List PP) (k : Int) (x : PP), mkPs k (l ++ [x]) = mkPs k l ++ [mkP (k + (szPs l : Int)) x]
  | [], k, x => by simp [mkPs, szPs]
  | y :: l, k, x => by
    rw [List.cons_append, mkPs, mkPs, mkPs_snoc l, szPs, List.cons_append]
    congr 3
    congr 1
    omega
theorem mkPs_mem : ∀ (l : List PP) (k : Int) (y : PP), y ∈ mkPs k l → ∃ z ∈ l, adr y = adr z
  | [], k, y, h => by simp [mkPs] at h
  | x :: l, k, y, h => by
    rw [mkPs] at h
    rcases List.mem_cons.1 h with rfl | h
    · exact ⟨x, by simp, adr_mkP k x⟩
    · obtain ⟨z, hz, e⟩ := mkPs_mem l _ y h
      exact ⟨z, List.mem_cons_of_mem _ hz, e⟩
theorem mkPs_at : ∀ (l : List PP) (k : Int) (i : Nat) (x : PP), l[i]? = some x → mkP (k + (szPs (l.take i) : Int)) x ∈ mkPs k l
  | [], k, i, x, h => by simp at h
  | y :: l, k, 0, x, h => by
    simp at h
    subst h
    simp [mkPs, szPs]
  | y :: l, k, i + 1, x, h => by
    have ih := mkPs_at l (k + (szP y : Int)) i x (by simpa using h)
    rw [mkPs, List.take_succ_cons, szPs]
    refine List.mem_cons_of_mem _ ?_
    rw [show k + ((szP y + szPs (l.take i) : Nat) : Int) = k + (szP y : Int) + (szPs (l.take i) : Int) by omega]
    exact ih
/-- Only these blocks change. -/
structure SameA (A : List Nat) (w w' : World) : Prop where
  os : w'.os = w.os
  tape : w'.tape = w.tape
  output : w'.output = w.output
  size : w.heap.size ≤ w'.heap.size
  block : ∀ i, i < w.heap.size → i ∉ A → w'.heap[i]? = w.heap[i]?
def adA (a : Option Addr) : List Nat := (a.map (·.block)).toList
theorem markSt_A (lo hi : Nat) (a : Option Addr) (n cap : Nat) (l : List Stp) (k : Int) (w : World) (hn : l.length = n) (hle : n ≤ 1048576) (k0 : 0 ≤ k) (k1 : k ≤ 1000000000) (h : OSt lo hi w a l) :
    Calls Try.prog 44 #[.slice a n cap, .int .i64 k] w fun e w' => e = .returned (.int .i64 (k + 4 * (n : Int))) ∧ OSt lo hi w' a (mkS k n) ∧ SameA (adA a) w w' := by
  rcases h with ⟨rfl, rfl⟩ | ⟨g, rfl, h1, h2, r⟩
  · obtain rfl : 0 = n := hn
    refine (markStepS_nil cap k w).mono ?_
    rintro e w' ⟨rfl, rfl⟩
    exact ⟨by simp, .inl ⟨rfl, rfl⟩, rfl, rfl, rfl, Nat.le_refl _, fun i hi _ => rfl⟩
  · refine (markStepS_any g n cap l k w hn hle k0 k1 r).mono ?_
    rintro e w' ⟨rfl, q, hg⟩
    exact ⟨rfl, .inr ⟨g, rfl, h1, h2, q⟩, hg.os, hg.tape, hg.output, hg.size, fun i hi ho => hg.block i hi (fun e => by cases e; exact ho (by simp [adA]))⟩
theorem markS_A (g n cap : Nat) (xs : List Int) (k : Int) (w : World) (hn : xs.length = n) (hle : n ≤ 1048576) (k0 : 0 ≤ k) (k1 : k ≤ 1000000000) (r : Row w g xs) :
    Calls Try.prog 35 #[.slice (some ⟨g, 0, none⟩) n cap, .int .i64 k] w fun e w' => e = .returned (.int .i64 (k + n)) ∧ Row w' g (marks k n) ∧ SameA [g] w w' := by
  refine (markInt64S_any g n cap xs k w hn hle k0 k1 r).mono ?_
  rintro e w' ⟨rfl, q, hg⟩
  exact ⟨rfl, q, hg.os, hg.tape, hg.output, hg.size, fun i hi ho => hg.block i hi (fun e => by cases e; exact ho (by simp))⟩
theorem VRow.keepA {w w' : World} {g : Nat} {vs : List Value} {t : TypeId} {S : List Nat} (h : VRow w g vs t) (A : SameA S w w') (hn : g ∉ S) : VRow w' g vs t := by
  obtain ⟨cur, hB, r1, r2⟩ := h
  exact ⟨cur, (A.block g hB.lt hn).trans hB, r1, r2⟩
theorem Row.keepA {w w' : World} {g : Nat} {xs : List Int} {S : List Nat} (h : Row w g xs) (A : SameA S w w') (hn : g ∉ S) : Row w' g xs := by
  obtain ⟨cur, hB, r1, r2⟩ := h
  exact ⟨cur, (A.block g hB.lt hn).trans hB, r1, r2⟩
theorem OSt.keepA {lo hi : Nat} {w w' : World} {a : Option Addr} {l : List Stp} {S : List Nat} (h : OSt lo hi w a l) (A : SameA S w w') (hn : ∀ i ∈ adA a, i ∉ S) : OSt lo hi w' a l := by
  rcases h with h | ⟨g, rfl, h1, h2, r⟩
  · exact .inl h
  · exact .inr ⟨g, rfl, h1, h2, VRow.keepA r A (hn g (by simp [adA]))⟩
theorem st_ne {lo hi g : Nat} {w : World} {a : Option Addr} {l : List Stp} {xs : List Int} (h : OSt lo hi w a l) (R : Row w g xs) : g ∉ adA a := by
  rcases h with ⟨rfl, _⟩ | ⟨g', rfl, _, _, cur', hC, _⟩
  · simp [adA]
  · intro e
    simp [adA] at e
    subst e
    obtain ⟨cur, hB, _⟩ := R
    have hB' : w.heap[g]? = some (.cells cur 2 (0, 0)) := hB
    have hC' : w.heap[g]? = some (.cells cur' 112 (0, 0)) := hC
    rw [hB'] at hC'
    simp at hC'
theorem szPs_le (B : Nat) : ∀ (l : List PP), (∀ x ∈ l, szP x ≤ B) → szPs l ≤ l.length * B
  | [], _ => by simp [szPs]
  | x :: l, h => by
    have h1 := h x (by simp)
    have h2 := szPs_le B l (fun y hy => h y (by simp [hy]))
    rw [szPs, List.length_cons, Nat.add_mul]
    omega
theorem row_notin {lo hi g : Nat} {w : World} {l : List PP} {x : PP} (R : PRow w g l) (h : PAt lo hi w x) : g ∉ adr x := by
  obtain ⟨cur, hB, _⟩ := R
  have hB' : w.heap[g]? = some (.cells cur 94 (0, 0)) := hB
  obtain ⟨⟨sa, sc, b1, k1, b2, k2⟩, m, xs, ys⟩ := x
  obtain ⟨hS, hO⟩ := h
  dsimp only at hS hO
  have n1 : ∀ q, sa = some q → q.block ≠ g := fun q e1 e2 => by
    rcases hS with ⟨h, _⟩ | ⟨g', e, _, _, cur', hC, _⟩
    · rw [h] at e1; simp at e1
    · rw [e] at e1
      simp at e1
      subst e1
      have hC' : w.heap[g']? = some (.cells cur' 112 (0, 0)) := hC
      simp at e2
      subst e2
      rw [hB'] at hC'
      simp at hC'
  have n2 : (∀ q, b1 = some q → q.block ≠ g) ∧ (∀ q, b2 = some q → q.block ≠ g) := by
    rcases hO with ⟨h1, h2, _⟩ | ⟨g1, g2, e1, e2, _, _, _, _, _, ⟨c1, hC1, _⟩, ⟨c2, hC2, _⟩⟩
    · exact ⟨fun q e => (by rw [h1] at e; simp at e), fun q e => (by rw [h2] at e; simp at e)⟩
    · refine ⟨fun q e f => ?_, fun q e f => ?_⟩
      · rw [e1] at e
        simp at e
        subst e
        have hC' : w.heap[g1]? = some (.cells c1 2 (0, 0)) := hC1
        simp at f
        subst f
        rw [hB'] at hC'
        simp at hC'
      · rw [e2] at e
        simp at e
        subst e
        have hC' : w.heap[g2]? = some (.cells c2 2 (0, 0)) := hC2
        simp at f
        subst f
        rw [hB'] at hC'
        simp at hC'
  intro hg
  simp only [adr, List.mem_filterMap, List.mem_cons, List.not_mem_nil, or_false] at hg
  obtain ⟨q, hq, e⟩ := hg
  cases q with
  | none => simp at e
  | some q =>
    simp at e
    rcases hq with hq | hq | hq
    · exact n1 q hq.symm e
    · exact n2.1 q hq.symm e
    · exact n2.2 q hq.symm e
set_option maxRecDepth 8000 in
set_option maxHeartbeats 2000000 in
theorem markPlayS_any (lo hi lo0 hi0 : Nat) (a : Option Addr) (cap : Nat) (l : List PP) (k : Int) (w : World) (hl : l.length ≤ 1000000) (hsz : ∀ x ∈ l, szP x ≤ 500) (h0 : ∀ x ∈ l, 0 < x.2.2.1.length) (k0 : 0 ≤ k) (k1 : k ≤ 1000) (hO : OPl lo0 hi0 w a l) (hA : PAll lo hi w l) (hD : l.Pairwise Dis) (hhi : hi ≤ w.heap.size) :
    Calls Try.prog 26 #[.slice a l.length cap, .int .i64 k] w fun e w' => e = .returned (.int .i64 (k + (szPs l : Int))) ∧ OPl lo0 hi0 w' a l ∧ PAll lo hi w' (mkPs k l) ∧ Same lo hi w w' := by
  have HSZ := Lib.hid hsz
  have HP0 := Lib.hid h0
  have HDD := Lib.hid hD
  have hszl : ∀ i, szPs (l.take i) ≤ 500000000 := fun i => by
    have h1 := szPs_le 500 (l.take i) (fun x hx => hsz x (List.mem_of_mem_take hx))
    rw [List.length_take] at h1
    have h2 : min i l.length * 500 ≤ 1000000 * 500 := Nat.mul_le_mul_right _ (by omega)
    omega
  have HSL := Lib.hid hszl
  clear hsz h0 hD hszl
  go_enter Try.func26, Try.ntmps26
  go_wp2_with fail
  go_loopg [1, 5] l.length (fun m q1 q5 wr => ∃ i : Nat, i ≤ l.length ∧ m = l.length - i ∧ q5 = .int .i64 i ∧ q1 = .int .i64 (k + (szPs (l.take i) : Int)) ∧ PAll lo hi wr (mkPs k (l.take i) ++ l.drop i) ∧ OPl lo0 hi0 wr a l ∧ Same lo hi w wr)
  case atStart => exact ⟨0, by omega, by omega, rfl, by simp [szPs], by simpa [mkPs] using hA, hO, rfl, rfl, rfl, Nat.le_refl _, fun _ _ _ => rfl⟩
  case round =>
    clear hO hA
    obtain ⟨i, hi', hm, rfl, rfl, hA, hO, hS⟩ := hrel
    by_cases hlt : i < l.length
    · have hlt' : (i : Int) < (l.length : Int) := by omega
      have hii0 : (0 : Int) ≤ (i : Int) := by omega
      obtain ⟨x, hx⟩ : ∃ x, l[i]? = some x := ⟨_, List.getElem?_eq_getElem hlt⟩
      have hxm := List.mem_of_getElem? hx
      have hq := HSL.out i
      obtain ⟨q, hqq⟩ : ∃ q : Int, k + (szPs (l.take i) : Int) = q := ⟨_, rfl⟩
      have hq1 : 0 ≤ q ∧ q ≤ 600000000 := by omega
      have hdr : l.drop i = x :: l.drop (i + 1) := by rw [List.drop_eq_getElem_cons hlt, (List.getElem?_eq_some_iff.1 hx).2]
      have hat : PAt lo hi wr x := hA x (List.mem_append_right _ (by rw [hdr]; simp))
      obtain ⟨g, rfl, R⟩ := hO.row hlt
      have hg := row_notin R hat
      have hsx := HSZ.out x hxm
      have h0x := HP0.out x hxm
      have htk : mkPs k (l.take (i + 1)) = mkPs k (l.take i) ++ [mkP q x] := by rw [List.take_add_one, hx]; show mkPs k (l.take i ++ [x]) = _; rw [mkPs_snoc, hqq]
      have hts : k + (szPs (l.take (i + 1)) : Int) = q + (szP x : Int) := by rw [List.take_add_one, hx]; show k + (szPs (l.take i ++ [x]) : Int) = _; rw [szPs_snoc, ← hqq]; omega
      have hdp := HDD.out
      rw [← List.take_append_drop i l, hdr] at hdp
      obtain ⟨_, hdp2, hdp3⟩ := List.pairwise_append.1 hdp
      have hot : ∀ y ∈ mkPs k (l.take i) ++ l.drop (i + 1), ∀ j ∈ adr y, j ∉ adr x := fun y hy j hj hjx => by
        rcases List.mem_append.1 hy with hy | hy
        · obtain ⟨z, hz, e⟩ := mkPs_mem _ _ y hy
          rw [e] at hj
          exact hdp3 z hz x (by simp) j hj j hjx rfl
        · exact (List.pairwise_cons.1 hdp2).1 y hy j hjx j hj rfl
      have hA2 : PAll lo hi wr (mkPs k (l.take i) ++ l.drop (i + 1)) := fun y hy => by
        rcases List.mem_append.1 hy with hy | hy
        · exact hA y (List.mem_append_left _ hy)
        · exact hA y (List.mem_append_right _ (by rw [hdr]; exact List.mem_cons_of_mem _ hy))
      have HTK := Lib.hid htk
      have HTS := Lib.hid hts
      have HOT := Lib.hid hot
      have HA2 := Lib.hid hA2
      have hadr := hat.adr
      have HADR := Lib.hid hadr
      clear htk hts hdp hdp2 hdp3 hot hA2 hA hdr hadr
      rw [hqq]
      clear hqq hq
      obtain ⟨c0, c1, c2⟩ := R.three i x hx
      have hss := hS.size
      obtain ⟨⟨sa, sc, b1, kk1, b2, kk2⟩, m, xs, ys⟩ := x
      dsimp only at hsx h0x c0 c1 c2 hat
      obtain ⟨hSt, hBd⟩ := hat
      dsimp only at hSt hBd
      rcases hBd with ⟨_, _, hx0, _⟩ | ⟨g1, g2, rfl, rfl, hne, p1, p2, p3, p4, R1, R2⟩
      · rw [hx0] at h0x
        simp at h0x
      · unfold szP at hsx
        dsimp only at hsx
        have hgS : g ∉ adA sa := fun h => hg (by cases sa with | none => simp [adA] at h | some q => simp [adA] at h; subst h; simp [adr])
        have hgg1 : g ≠ g1 := fun h => hg (by subst h; simp [adr])
        have hgg2 : g ≠ g2 := fun h => hg (by subst h; simp [adr])
        have hS1 : g1 ∉ adA sa := st_ne hSt R1
        have hS2 : g2 ∉ adA sa := st_ne hSt R2
        have hxlt := HADR.out
        go_wp2_with fail
        clear c0 c1 c2
        refine (markSt_A lo hi sa m.length sc m q wr rfl (by omega) (by omega) (by omega) hSt).mono ?_
        rintro e w1 ⟨rfl, S1, A1⟩
        have RA := R.keepA A1 hgS
        have R1a := R1.keepA A1 hS1
        have R2a := R2.keepA A1 hS2
        obtain ⟨c0, c1, c2⟩ := PRow.three RA i _ hx
        try dsimp only at c0 c1 c2
        go_wp2_with fail
        clear c0 c1 c2
        refine (markS_A g1 xs.length kk1 xs (q + 4 * (m.length : Int)) w1 rfl (by omega) (by omega) (by omega) R1a).mono ?_
        rintro e w2 ⟨rfl, M1, A2⟩
        have RB := RA.keepA A2 (by simpa using hgg1)
        have R2b := R2a.keepA A2 (by simpa using hne.symm)
        have S2 := S1.keepA A2 (fun j hj => by simp; rintro rfl; exact hS1 hj)
        obtain ⟨c0, c1, c2⟩ := PRow.three RB i _ hx
        try dsimp only at c0 c1 c2
        go_wp2_with fail
        clear c0 c1 c2
        refine (markS_A g2 ys.length kk2 ys (q + 4 * (m.length : Int) + (xs.length : Int)) w2 rfl (by omega) (by omega) (by omega) R2b).mono ?_
        rintro e w3 ⟨rfl, M2, A3⟩
        have RC := RB.keepA A3 (by simpa using hgg2)
        have M1c := M1.keepA A3 (by simpa using hne)
        have S3 := S2.keepA A3 (fun j hj => by simp; rintro rfl; exact hS2 hj)
        have hz1 := A1.size
        have hz2 := A2.size
        have hz3 := A3.size
        have hfr : ∀ j, j < wr.heap.size → j ∉ adr ((⟨sa, sc, some ⟨g1, 0, none⟩, kk1, some ⟨g2, 0, none⟩, kk2⟩, m, xs, ys) : PP) → w3.heap[j]? = wr.heap[j]? := fun j hj hn => by
          have q1 : j ∉ adA sa := fun h => hn (by cases sa with | none => simp [adA] at h | some q => simp [adA] at h; subst h; simp [adr])
          have q2 : j ≠ g1 := fun h => hn (by subst h; simp [adr])
          have q3 : j ≠ g2 := fun h => hn (by subst h; simp [adr])
          rw [A3.block j (by omega) (by simpa using q3), A2.block j (by omega) (by simpa using q2), A1.block j hj q1]
        have HFR := Lib.hid hfr
        have HX := Lib.hid hx
        clear hfr hx R R1 R2 RA RB R1a R2a R2b S1 S2 M1 hSt hxlt
        go_wp2
        go_roundg (l.length - (i + 1))
        case measure => omega
        case rel =>
          refine ⟨i + 1, by omega, rfl, by go_num, ?_, ?_, ?_, ?_⟩
          · rw [HTS.out]
            unfold szP
            try dsimp only
            go_num
          · rw [HTK.out]
            intro y hy
            rcases List.mem_append.1 hy with hy | hy
            · rcases List.mem_append.1 hy with hy | hy
              · have hm := List.mem_append_left (l.drop (i + 1)) hy
                exact PAt_keep (HA2.out y hm) (fun j hj => HFR.out j (by have := ((HA2.out y hm).adr j hj).2; omega) (HOT.out y hm j hj))
              · simp at hy
                subst hy
                exact ⟨S3, .inr ⟨g1, g2, rfl, rfl, hne, p1, p2, p3, p4, M1c, M2⟩⟩
            · have hm := List.mem_append_right (mkPs k (l.take i)) hy
              exact PAt_keep (HA2.out y hm) (fun j hj => HFR.out j (by have := ((HA2.out y hm).adr j hj).2; omega) (HOT.out y hm j hj))
          · rcases hO with ⟨h, _⟩ | ⟨g', e, h1, h2, _⟩
            · simp at h
            · simp at e
              subst e
              exact .inr ⟨g, rfl, h1, h2, RC⟩
          · refine ⟨A3.os.trans (A2.os.trans (A1.os.trans hS.os)), A3.tape.trans (A2.tape.trans (A1.tape.trans hS.tape)), A3.output.trans (A2.output.trans (A1.output.trans hS.output)), by omega, fun j hj ho => ?_⟩
            rw [HFR.out j (by omega) (fun h => by have := HADR.out j h; omega), hS.block j hj ho]
    · obtain rfl : i = l.length := by omega
      rw [List.take_length, List.drop_length, List.append_nil] at hA
      rw [List.take_length]
      have HA := Lib.hid hA
      clear hA
      go_wp2
      go_ret
      exact ⟨rfl, hO, HA.out, hS⟩
set_option maxRecDepth 8000 in
set_option maxHeartbeats 2000000 in
theorem heldPlayS_any (lo hi lo0 hi0 : Nat) (a : Option Addr) (cap : Nat) (l : List PP) (k : Int) (w : World) (hl : l.length ≤ 1000000) (hsz : ∀ x ∈ l, szP x ≤ 500) (k0 : 0 ≤ k) (k1 : k ≤ 1000) (hO : OPl lo0 hi0 w a l) (hA : PAll lo hi w (mkPs k l)) :
    Calls Try.prog 27 #[.slice a l.length cap, .int .i64 k] w fun e w' => e = .returned (.int .i64 (k + (szPs l : Int))) ∧ Below w.heap.size w w' := by
  have HSZ := Lib.hid hsz
  have hszl : ∀ i, szPs (l.take i) ≤ 500000000 := fun i => by
    have h1 := szPs_le 500 (l.take i) (fun x hx => hsz x (List.mem_of_mem_take hx))
    rw [List.length_take] at h1
    have h2 : min i l.length * 500 ≤ 1000000 * 500 := Nat.mul_le_mul_right _ (by omega)
    omega
  have HSL := Lib.hid hszl
  have HA := Lib.hid hA
  clear hsz hszl hA
  go_enter Try.func27, Try.ntmps27
  go_wp2_with fail
  go_loopg [1, 5] l.length (fun m q1 q5 wr => ∃ i : Nat, i ≤ l.length ∧ m = l.length - i ∧ q5 = .int .i64 i ∧ q1 = .int .i64 (k + (szPs (l.take i) : Int)) ∧ Below w.heap.size w wr)
  case atStart => exact ⟨0, by omega, by omega, rfl, by simp [szPs], Below.refl _ _⟩
  case round =>
    obtain ⟨i, hi', hm, rfl, rfl, hbel⟩ := hrel
    by_cases hlt : i < l.length
    · have hlt' : (i : Int) < (l.length : Int) := by omega
      have hii0 : (0 : Int) ≤ (i : Int) := by omega
      obtain ⟨x, hx⟩ : ∃ x, l[i]? = some x := ⟨_, List.getElem?_eq_getElem hlt⟩
      have hxm := List.mem_of_getElem? hx
      have hq := HSL.out i
      have hat := (HA.out _ (mkPs_at l k i x hx)).below hbel
      obtain ⟨q, hqq⟩ : ∃ q : Int, k + (szPs (l.take i) : Int) = q := ⟨_, rfl⟩
      have hq1 : 0 ≤ q ∧ q ≤ 600000000 := by omega
      have hts : k + (szPs (l.take (i + 1)) : Int) = q + (szP x : Int) := by rw [List.take_add_one, hx]; show k + (szPs (l.take i ++ [x]) : Int) = _; rw [szPs_snoc, ← hqq]; omega
      rw [hqq] at hat ⊢
      have hsx := HSZ.out x hxm
      obtain ⟨g, rfl, R⟩ := (hO.below hbel).row hlt
      have HTS := Lib.hid hts
      have HR := Lib.hid R
      have HX := Lib.hid hx
      clear hts hqq hq
      obtain ⟨c0, c1, c2⟩ := PRow.three R i x hx
      clear R hx
      obtain ⟨⟨sa, sc, b1, kk1, b2, kk2⟩, m, xs, ys⟩ := x
      try dsimp only at hsx c0 c1 c2
      unfold szP at hsx
      try dsimp only at hsx
      have h1 := hat.1
      have h2 := hat.2.irow1
      have h3 := hat.2.irow2
      unfold mkP at h1 h2 h3
      try dsimp only at h1 h2 h3
      have hc1 := fun W (hW : Below wr.heap.size wr W) => heldStepS_any lo hi sa m.length sc q W (by omega) (by omega) (by omega) (h1.below hW)
      have hc2 := fun W (hW : Below wr.heap.size wr W) => heldInt64S_any b1 xs.length kk1 (q + 4 * (m.length : Int)) W (by omega) (by omega) (by omega) (h2.below hW)
      have hc3 := fun W (hW : Below wr.heap.size wr W) => heldInt64S_any b2 ys.length kk2 (q + 4 * (m.length : Int) + (xs.length : Int)) W (by omega) (by omega) (by omega) (h3.below hW)
      have HC1 := Lib.hid hc1
      have HC2 := Lib.hid hc2
      have HC3 := Lib.hid hc3
      clear hc1 hc2 hc3 h1 h2 h3 hat
      have n1 : ¬ (q + 4 * (m.length : Int) < 0) := by omega
      have n2 : ¬ (q + 4 * (m.length : Int) + (xs.length : Int) < 0) := by omega
      have n3 : ¬ (q + 4 * (m.length : Int) + (xs.length : Int) + (ys.length : Int) < 0) := by omega
      go_wp2_with fail
      refine (HC1.out _ (Below.refl _ _)).mono ?_
      rintro e w1 ⟨rfl, rfl⟩
      go_wp2_with fail
      refine (HC2.out _ (Below.refl _ _)).mono ?_
      rintro e w1 ⟨rfl, rfl⟩
      go_wp2_with fail
      refine (HC3.out _ (Below.refl _ _)).mono ?_
      rintro e w1 ⟨rfl, rfl⟩
      go_wp2
      go_roundg (l.length - (i + 1))
      case measure => omega
      case rel =>
        refine ⟨i + 1, by omega, rfl, by go_num, ?_, hbel⟩
        rw [HTS.out]
        unfold szP
        try dsimp only
        go_num
    · obtain rfl : i = l.length := by omega
      rw [List.take_length]
      go_wp2
      go_ret
      exact ⟨rfl, hbel⟩
set_option maxRecDepth 8000 in
set_option maxHeartbeats 1000000 in
theorem eqPlay_same (lo hi lo2 hi2 : Nat) (x : PP) (d : PD) (w : World) (hx : PAt lo hi w x) (hy : PAt lo2 hi2 w (d, x.2)) (hs : szP x ≤ 500) :
    Calls Try.prog 70 #[plV x, plV (d, x.2)] w fun e w' => e = .returned (.bool true) ∧ Below w.heap.size w w' := by
  unfold szP at hs
  obtain ⟨BX, BY, hb, hz⟩ := two_new w #[pl0 x, pl1 x, pl2 x] #[pl0 ((d, x.2) : PP), pl1 ((d, x.2) : PP), pl2 ((d, x.2) : PP)] 94 94
  clear hz
  have hE1 := fun W (hW : Below w.heap.size w W) => eqStepS_same lo hi lo2 hi2 x.1.sa d.sa x.2.1.length x.1.sc d.sc x.2.1 W rfl (by omega) (hx.1.below hW) (hy.1.below hW)
  have hE2 := fun W (hW : Below w.heap.size w W) => eqBoard_same x.1.b1 x.1.b2 d.b1 d.b2 x.2.2.1.length x.2.2.2.length x.1.k1 x.1.k2 d.k1 d.k2 x.2.2.1 x.2.2.2 W rfl rfl (by omega) (by omega) (hx.2.irow1.below hW) (hx.2.irow2.below hW) (hy.2.irow1.below hW) (hy.2.irow2.below hW)
  have HE1 := Lib.hid hE1
  have HE2 := Lib.hid hE2
  clear hE1 hE2 hx hy
  obtain ⟨x0, x1, x2, xf, xl⟩ := BX.tri
  obtain ⟨y0, y1, y2, yf, yl⟩ := BY.tri
  go_enter Try.func70, Try.ntmps70
  go_wp2_with fail
  clear x0 x1 x2 xf xl y0 y1 y2 yf yl
  refine (HE1.out _ hb).mono ?_
  rintro e w1 ⟨rfl, hb1⟩
  obtain ⟨x0, x1, x2, xf, xl⟩ := (BX.below hb1).tri
  obtain ⟨y0, y1, y2, yf, yl⟩ := (BY.below hb1).tri
  go_wp2_with fail
  refine (HE2.out _ (chain hb hb1)).mono ?_
  rintro e w2 ⟨rfl, hb2⟩
  go_wp2
  go_ret
  exact ⟨rfl, chain (chain hb hb1) hb2⟩
set_option maxRecDepth 8000 in
set_option maxHeartbeats 2000000 in
theorem eqPlayS_same (lo hi lo2 hi2 po qo po2 qo2 : Nat) (a1 a2 : Option Addr) (c1 c2 : Nat) (l l2 : List PP) (w : World) (he : l.map (·.2) = l2.map (·.2)) (hle : l.length ≤ 1000000) (hs : ∀ x ∈ l, szP x ≤ 500) (h1 : OPl po qo w a1 l) (h2 : OPl po2 qo2 w a2 l2) (p1 : PAll lo hi w l) (p2 : PAll lo2 hi2 w l2) :
    Calls Try.prog 24 #[.slice a1 l.length c1, .slice a2 l2.length c2] w fun e w' => e = .returned (.bool true) ∧ Below w.heap.size w w' := by
  have hl : l2.length = l.length := by have := congrArg List.length he; rw [List.length_map, List.length_map] at this; omega
  rw [hl]
  have HL2 := Lib.hid hl
  have HEQ := Lib.hid he
  have HS := Lib.hid hs
  clear he hs hl
  go_enter Try.func24, Try.ntmps24
  go_wp2
  go_loopg [5] l.length (fun m i wr => ∃ k : Nat, k ≤ l.length ∧ m = l.length - k ∧ i = .int .i64 k ∧ Below w.heap.size w wr)
  case atStart => exact ⟨0, by omega, by omega, rfl, Below.refl _ _⟩
  case round =>
    obtain ⟨k, hk, hm, rfl, hbel⟩ := hrel
    by_cases hlt : k < l.length
    · have hlt' : (k : Int) < (l.length : Int) := by omega
      have hk0 : (0 : Int) ≤ (k : Int) := by omega
      obtain ⟨g1, rfl, R1⟩ := (h1.below hbel).row hlt
      obtain ⟨g2, rfl, R2⟩ := (h2.below hbel).row (k := k) (by have := HL2.out; omega)
      obtain ⟨x, hx⟩ : ∃ x, l[k]? = some x := ⟨_, List.getElem?_eq_getElem hlt⟩
      obtain ⟨y, hy⟩ : ∃ y, l2[k]? = some y := ⟨_, List.getElem?_eq_getElem (by have := HL2.out; omega)⟩
      have hxy : y.2 = x.2 := by
        have h3 := congrArg (fun z => z[k]?) HEQ.out
        simp only [List.getElem?_map, hx, hy] at h3
        simpa using h3.symm
      obtain ⟨d, y2⟩ := y
      dsimp only at hxy
      subst hxy
      obtain ⟨u0, u1, u2⟩ := PRow.three R1 k x hx
      obtain ⟨v0, v1, v2⟩ := PRow.three R2 k (d, x.2) hy
      have hE := fun W (hW : Below wr.heap.size wr W) => eqPlay_same lo hi lo2 hi2 x d W ((p1 x (List.mem_of_getElem? hx)).below (chain hbel hW)) ((p2 (d, x.2) (List.mem_of_getElem? hy)).below (chain hbel hW)) (HS.out x (List.mem_of_getElem? hx))
      have HE := Lib.hid hE
      clear hE hx hy R1 R2 h1 h2 p1 p2
      go_wp2_with fail
      refine wp_region_held_drew (S := fun w' => w'.cell? ⟨g1, k * 3, none⟩ = some (pl0 x) ∧ w'.cell? ⟨g1, k * 3 + 1, none⟩ = some (pl1 x) ∧ w'.cell? ⟨g1, k * 3 + 2, none⟩ = some (pl2 x) ∧ w'.cell? ⟨g2, k * 3, none⟩ = some (pl0 ((d, x.2) : PP)) ∧ w'.cell? ⟨g2, k * 3 + 1, none⟩ = some (pl1 ((d, x.2) : PP)) ∧ w'.cell? ⟨g2, k * 3 + 2, none⟩ = some (pl2 ((d, x.2) : PP))) (by kernel_rfl) ⟨CellIs.below u0 (Below.refl _ _).drew, CellIs.below u1 (Below.refl _ _).drew, CellIs.below u2 (Below.refl _ _).drew, CellIs.below v0 (Below.refl _ _).drew, CellIs.below v1 (Below.refl _ _).drew, CellIs.below v2 (Below.refl _ _).drew⟩ (fun hHeld => ?_)
      refine wpAnyH_take (i := 0) (oi := { dst := some 17, op := _, type := _, pos := _, after := _, guard := _ }) (v := ?_) rfl (by kernel_rfl) (by kernel_rfl) (by kernel_rfl) (fun _ _ _ h => h) (Or.inl ⟨by rfl, ?_⟩) (by assumption) ?_
      rotate_left
      · intro w hSw
        (try dsimp only at hSw)
        go_simp
        (try (with_reducible rfl))
      try simp only [Act.put, List.setIfInBounds_toArray, List.set_cons_zero, List.set_cons_succ]
      refine wpAnyH_take (i := 1) (oi := { dst := some 18, op := _, type := _, pos := _, after := _, guard := _ }) (v := ?_) rfl (by kernel_rfl) (by kernel_rfl) (by kernel_rfl) (fun _ _ _ h => h) (Or.inl ⟨by rfl, ?_⟩) (by assumption) ?_
      rotate_left
      · intro w hSw
        (try dsimp only at hSw)
        go_simp
        (try (with_reducible rfl))
      try simp only [Act.put, List.setIfInBounds_toArray, List.set_cons_zero, List.set_cons_succ]
      refine wpAnyH_take (i := 2) (oi := { dst := some 19, op := _, type := _, pos := _, after := _, guard := _ }) (v := ?_) rfl (by kernel_rfl) (by kernel_rfl) (by kernel_rfl) (fun _ _ _ h => h) (Or.inl ⟨by rfl, ?_⟩) (by assumption) ?_
      rotate_left
      · intro w hSw
        (try dsimp only at hSw)
        go_simp
        (try (with_reducible rfl))
      try simp only [Act.put, List.setIfInBounds_toArray, List.set_cons_zero, List.set_cons_succ]
      refine wpAnyH_take (i := 3) (oi := { dst := some 20, op := _, type := _, pos := _, after := _, guard := _ }) (v := ?_) rfl (by kernel_rfl) (by kernel_rfl) (by kernel_rfl) (fun _ _ _ h => h) (Or.inl ⟨by rfl, ?_⟩) (by assumption) ?_
      rotate_left
      · intro w hSw
        (try dsimp only at hSw)
        go_simp
        (try (with_reducible rfl))
      try simp only [Act.put, List.setIfInBounds_toArray, List.set_cons_zero, List.set_cons_succ]
      refine wpAnyH_take (i := 4) (oi := { dst := some 21, op := _, type := _, pos := _, after := _, guard := _ }) (v := ?_) rfl (by kernel_rfl) (by kernel_rfl) (by kernel_rfl) (fun _ _ _ h => h) (Or.inl ⟨by rfl, ?_⟩) (by assumption) ?_
      rotate_left
      · intro w hSw
        (try dsimp only at hSw)
        go_simp
        (try (with_reducible rfl))
      try simp only [Act.put, List.setIfInBounds_toArray, List.set_cons_zero, List.set_cons_succ]
      refine wpAnyH_take (i := 5) (oi := { dst := some 22, op := _, type := _, pos := _, after := _, guard := _ }) (v := ?_) rfl (by kernel_rfl) (by kernel_rfl) (by kernel_rfl) (fun _ _ _ h => h) (Or.inl ⟨by rfl, ?_⟩) (by assumption) ?_
      rotate_left
      · intro w hSw
        (try dsimp only at hSw)
        go_simp
        (try (with_reducible rfl))
      try simp only [Act.put, List.setIfInBounds_toArray, List.set_cons_zero, List.set_cons_succ]
      refine wpAnyH_take (i := 6) (oi := { dst := some 23, op := _, type := _, pos := _, after := _, guard := _ }) (v := ?_) rfl (by kernel_rfl) (by kernel_rfl) (by kernel_rfl) (fun _ _ _ h => h) (Or.inl ⟨by rfl, ?_⟩) (by assumption) ?_
      rotate_left
      · intro w hSw
        (try dsimp only at hSw)
        go_simp
        (try (with_reducible rfl))
      try simp only [Act.put, List.setIfInBounds_toArray, List.set_cons_zero, List.set_cons_succ]
      refine wpAnyH_take (i := 7) (oi := { dst := some 24, op := _, type := _, pos := _, after := _, guard := _ }) (v := ?_) rfl (by kernel_rfl) (by kernel_rfl) (by kernel_rfl) (fun _ _ _ h => h) (Or.inl ⟨by rfl, ?_⟩) (by assumption) ?_
      rotate_left
      · intro w hSw
        (try dsimp only at hSw)
        go_simp
        (try (with_reducible rfl))
      try simp only [Act.put, List.setIfInBounds_toArray, List.set_cons_zero, List.set_cons_succ]
      refine wpAnyH_ready (rs := [8]) (by kernel_rfl) (by simp) ?_
      refine AllReadyH.cons (o := { dst := some 25, op := _, type := _, pos := _, after := _, guard := _ }) rfl (fun K hK => ?_) AllReadyH.nil
      go_simp
      refine (HE.out _ (Below.refl _ _).drew).mono ?_
      rintro e w5 ⟨rfl, hb5⟩
      have hb5 : Below wr.heap.size wr w5 := chain (Below.refl _ _).drew hb5
      (try go_wp2_with fail)
      refine hK.out _ _ ⟨CellIs.below u0 hb5, CellIs.below u1 hb5, CellIs.below u2 hb5, CellIs.below v0 hb5, CellIs.below v1 hb5, CellIs.below v2 hb5⟩ (fun hHeld => ?_)
      clear hK K
      try simp only [Act.put, List.setIfInBounds_toArray, List.set_cons_zero, List.set_cons_succ]
      refine wpAnyH_take (i := 9) (oi := { dst := some 26, op := _, type := _, pos := _, after := _, guard := _ }) (v := ?_) rfl (by kernel_rfl) (by kernel_rfl) (by kernel_rfl) (fun _ _ _ h => h) (Or.inl ⟨by rfl, ?_⟩) (by assumption) ?_
      rotate_left
      · intro w hSw
        (try dsimp only at hSw)
        go_simp
        (try (with_reducible rfl))
      try simp only [Act.put, List.setIfInBounds_toArray, List.set_cons_zero, List.set_cons_succ]
      refine wpAnyH_done (by kernel_rfl) ?_ _
      clear hHeld
      go_wp2
      go_roundg (l.length - (k + 1))
      case measure => omega
      case rel => exact ⟨k + 1, by omega, rfl, by go_num, chain hbel hb5⟩
    · obtain rfl : k = l.length := by omega
      go_wp2
      go_ret
      exact ⟨rfl, hbel⟩
end Go.Proofs.Ytokjkcnjmfbfiaa
