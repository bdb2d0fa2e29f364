/- Contracts of the program on phases, copies of games, rolls and resignations. -/
import Derived.Test.Ytokjkcnjmfbfiaa08f
import Derived.Test.Ytokjkcnjmfbfiaa05o
namespace Go.Proofs.Ytokjkcnjmfbfiaa
open Go.ChangeShapes Go.WideShapes Go.ChangeAt Go.RowKit
set_option linter.unusedVariables false
set_option linter.unusedSimpArgs false
set_option maxRecDepth 4000

/-- The code for a game that has to be in one of some phases. -/
def pcC (g : Bool) (ph : Int) (L : List Int) : Int := if g = true then (if ph ∈ L then 0 else 5) else 1
set_option maxRecDepth 8000 in
set_option maxHeartbeats 2000000 in
theorem phaseCode_any (p c h s : Int) (a1 a2 : Option Addr) (n1 n2 c1 c2 : Nat) (xs ys : List Int) (w : World) (h1 : xs.length = n1) (h2 : ys.length = n2) (l1 : n1 ≤ 1048576) (l2 : n2 ≤ 1048576) (r1 : IRow w a1 xs) (r2 : IRow w a2 ys) (pl ra rb ph wi re tu : Int) (a3 : Option Addr) (n3 c3 : Nat) (L : List Int) (h3 : L.length = n3) (l3 : n3 ≤ 10) (r3 : IRow w a3 L) :
    Calls Try.prog 96 #[.agg #[.int .i64 p, .int .i64 c, .int .i64 h, .int .i64 s], .agg #[.slice a1 n1 c1, .slice a2 n2 c2, .int .i64 pl, .int .i64 ra, .int .i64 rb, .int .i64 ph, .int .i64 wi, .int .i64 re, .int .i64 tu], .slice a3 n3 c3] w fun e w' => e = .returned (.int .i64 (pcC (gmB p c h s xs ys pl ra rb ph wi re tu) ph L)) ∧ Below w.heap.size w w' := by
  have hG := fun (W : World) (r1 : IRow W a1 xs) (r2 : IRow W a2 ys) => hasGame_any p c h s a1 a2 n1 n2 c1 c2 xs ys W h1 h2 l1 l2 r1 r2 pl ra rb ph wi re tu
  unfold pcC
  obtain ⟨A, hA⟩ : ∃ q, gmB p c h s xs ys pl ra rb ph wi re tu = q := ⟨_, rfl⟩
  rw [hA] at hG ⊢
  have HG := Lib.hid hG
  clear hG hA
  obtain ⟨BV, BG, hb, hz⟩ := two_new' w #[.int .i64 p, .int .i64 c, .int .i64 h, .int .i64 s] #[.slice a1 n1 c1, .slice a2 n2 c2, .int .i64 pl, .int .i64 ra, .int .i64 rb, .int .i64 ph, .int .i64 wi, .int .i64 re, .int .i64 tu] 32 70
  replace r1 := r1.below hb
  replace r2 := r2.below hb
  replace r3 := r3.below hb
  cases A with
  | false =>
    rw [if_neg (by simp)]
    go_enter Try.func96, Try.ntmps96
    obtain ⟨x0, x1, x2, x3, xf, xl⟩ := BV.four
    obtain ⟨ga0, ga1, ga2, ga3, ga4, ga5, ga6, ga7, ga8, gaf, gal⟩ := BG.nine
    go_wp2_with fail
    clear x0 x1 x2 x3 xf xl
    clear ga0 ga1 ga2 ga3 ga4 ga5 ga6 ga7 ga8 gaf gal
    generalize ((w.alloc (.cells #[.int .i64 p, .int .i64 c, .int .i64 h, .int .i64 s] 32)).alloc (.cells #[.slice a1 n1 c1, .slice a2 n2 c2, .int .i64 pl, .int .i64 ra, .int .i64 rb, .int .i64 ph, .int .i64 wi, .int .i64 re, .int .i64 tu] 70)) = v0 at *
    obtain ⟨q0_BV, q1_BV, q2_BV, q3_BV, qf_BV, ql_BV⟩ := BV.four
    obtain ⟨q0_BG, q1_BG, q2_BG, q3_BG, q4_BG, q5_BG, q6_BG, q7_BG, q8_BG, qf_BG, ql_BG⟩ := BG.nine
    go_wp2_with fail
    clear q0_BV q1_BV q2_BV q3_BV qf_BV ql_BV
    clear q0_BG q1_BG q2_BG q3_BG q4_BG q5_BG q6_BG q7_BG q8_BG qf_BG ql_BG
    refine (HG.out _ r1 r2).mono ?_
    rintro e w1 ⟨rfl, hb1⟩
    replace BV := BV.below hb1
    replace BG := BG.below hb1
    replace r1 := r1.below hb1
    replace r2 := r2.below hb1
    replace r3 := r3.below hb1
    have hz1 := hb1.size
    replace hb := chain hb hb1
    clear hb1
    obtain ⟨q0_BV, q1_BV, q2_BV, q3_BV, qf_BV, ql_BV⟩ := BV.four
    obtain ⟨q0_BG, q1_BG, q2_BG, q3_BG, q4_BG, q5_BG, q6_BG, q7_BG, q8_BG, qf_BG, ql_BG⟩ := BG.nine
    go_wp2_with fail
    go_ret
    exact ⟨rfl, hb⟩
  | true =>
    rw [if_pos rfl]
    obtain ⟨Q, hQ⟩ : ∃ Q : Int, (if ph ∈ L then 0 else 5) = Q := ⟨_, rfl⟩
    rw [hQ]
    have HQ := Lib.hid hQ
    clear hQ
    go_enter Try.func96, Try.ntmps96
    obtain ⟨x0, x1, x2, x3, xf, xl⟩ := BV.four
    obtain ⟨ga0, ga1, ga2, ga3, ga4, ga5, ga6, ga7, ga8, gaf, gal⟩ := BG.nine
    go_wp2_with fail
    clear x0 x1 x2 x3 xf xl
    clear ga0 ga1 ga2 ga3 ga4 ga5 ga6 ga7 ga8 gaf gal
    generalize ((w.alloc (.cells #[.int .i64 p, .int .i64 c, .int .i64 h, .int .i64 s] 32)).alloc (.cells #[.slice a1 n1 c1, .slice a2 n2 c2, .int .i64 pl, .int .i64 ra, .int .i64 rb, .int .i64 ph, .int .i64 wi, .int .i64 re, .int .i64 tu] 70)) = v0 at *
    obtain ⟨q0_BV, q1_BV, q2_BV, q3_BV, qf_BV, ql_BV⟩ := BV.four
    obtain ⟨q0_BG, q1_BG, q2_BG, q3_BG, q4_BG, q5_BG, q6_BG, q7_BG, q8_BG, qf_BG, ql_BG⟩ := BG.nine
    go_wp2_with fail
    clear q0_BV q1_BV q2_BV q3_BV qf_BV ql_BV
    clear q0_BG q1_BG q2_BG q3_BG q4_BG q5_BG q6_BG q7_BG q8_BG qf_BG ql_BG
    refine (HG.out _ r1 r2).mono ?_
    rintro e w1 ⟨rfl, hb1⟩
    replace BV := BV.below hb1
    replace BG := BG.below hb1
    replace r1 := r1.below hb1
    replace r2 := r2.below hb1
    replace r3 := r3.below hb1
    have hz1 := hb1.size
    replace hb := chain hb hb1
    clear hb1
    obtain ⟨q0_BV, q1_BV, q2_BV, q3_BV, qf_BV, ql_BV⟩ := BV.four
    obtain ⟨q0_BG, q1_BG, q2_BG, q3_BG, q4_BG, q5_BG, q6_BG, q7_BG, q8_BG, qf_BG, ql_BG⟩ := BG.nine
    go_wp2_with fail
    go_loopg [15, 8] n3 (fun k5 i j wr => wr = w1 ∧ ∃ k : Nat, k ≤ n3 ∧ k5 = n3 - k ∧ i = .int .i64 k ∧ (∀ q, q < k → L.getD q 0 ≠ ph))
    case atStart => exact ⟨rfl, 0, by omega, by omega, rfl, fun j hj => by omega⟩
    case round =>
      obtain ⟨rfl, k, hk, hm, rfl, hsm⟩ := hrel
      by_cases hlt : k < n3
      · have hlt' : (k : Int) < (n3 : Int) := by omega
        obtain ⟨b3, o3, rfl, hc3⟩ := r3 k (by omega)
        have hmem := getD_mem (xs := L) (k := k) (by omega)
        obtain ⟨v, hv⟩ : ∃ v, L.getD k 0 = v := ⟨_, rfl⟩
        rw [hv] at hc3 hmem
        by_cases e : ph = v
        · have f1 : (ph == v) = true := by rw [beq_iff_eq]; exact e
          have hQ : Q = 0 := by rw [← HQ.out, if_pos (e ▸ hmem)]
          subst hQ
          clear hsm hv e hmem
          go_wp2
          go_ret
          exact ⟨rfl, hb⟩
        · have f1 : (ph == v) = false := by rw [beq_eq_false_iff_ne]; exact e
          have HSM := Lib.hid hsm
          have HV := Lib.hid hv
          have HE := Lib.hid e
          clear hsm hv e hmem
          go_wp2
          go_roundg (n3 - (k + 1))
          case measure => omega
          case rel => exact ⟨rfl, k + 1, by omega, rfl, by go_num, fun j hj => by
            by_cases h : j = k
            · subst h; rw [HV.out]; exact fun q => HE.out q.symm
            · exact HSM.out j (by omega)⟩
      · obtain rfl : k = n3 := by omega
        have hQ : Q = 5 := by
          rw [← HQ.out, if_neg]
          intro hm
          obtain ⟨i, hi, e⟩ := List.getElem_of_mem hm
          exact hsm i (by omega) (by simp [List.getD, hi, e])
        subst hQ
        clear hsm
        go_wp2
        go_ret
        exact ⟨rfl, hb⟩
/-- A game of the call's own, its board in two rows. -/
def GameOwn (xs ys : List Int) (n1 n2 : Nat) (pl ra rb ph wi re tu : Int) (w : World) (e : Ending) (w' : World) : Prop :=
  ∃ b1 b2, e = .returned (.agg #[.slice (some ⟨b1, 0, none⟩) n1 n1, .slice (some ⟨b2, 0, none⟩) n2 n2, .int .i64 pl, .int .i64 ra, .int .i64 rb, .int .i64 ph, .int .i64 wi, .int .i64 re, .int .i64 tu]) ∧ b1 ≠ b2 ∧ w.heap.size ≤ b1 ∧ w.heap.size ≤ b2 ∧ Row w' b1 xs ∧ Row w' b2 ys ∧ Below w.heap.size w w'
theorem Blk.setG2 {W : World} {B : Nat} {q0 q1 q2 q3 q4 q5 q6 q7 q8 : Value} {t : TypeId} (h : Blk W B #[q0, q1, q2, q3, q4, q5, q6, q7, q8] t) (u0 u1 : Value) : Blk ((W.setCell ⟨B, 0, none⟩ u0).setCell ⟨B, 1, none⟩ u1) B #[u0, u1, q2, q3, q4, q5, q6, q7, q8] t := by
  have := (h.set (i := 0) u0).set (i := 1) u1
  simp only [List.setIfInBounds_toArray, List.set_cons_zero, List.set_cons_succ] at this
  exact this
set_option maxRecDepth 8000 in
set_option maxHeartbeats 2000000 in
theorem gameCopied_any (a1 a2 : Option Addr) (n1 n2 c1 c2 : Nat) (xs ys : List Int) (pl ra rb ph wi re tu : Int) (w : World) (h1 : xs.length = n1) (h2 : ys.length = n2) (l1 : 0 < n1) (l2 : 0 < n2) (m1 : n1 ≤ 1048576) (m2 : n2 ≤ 1048576) (r1 : IRow w a1 xs) (r2 : IRow w a2 ys) :
    Calls Try.prog 98 #[.agg #[.slice a1 n1 c1, .slice a2 n2 c2, .int .i64 pl, .int .i64 ra, .int .i64 rb, .int .i64 ph, .int .i64 wi, .int .i64 re, .int .i64 tu]] w (GameOwn xs ys n1 n2 pl ra rb ph wi re tu w) := by
  have hC := fun (W : World) (r1 : IRow W a1 xs) (r2 : IRow W a2 ys) => copied_any a1 a2 n1 n2 c1 c2 xs ys W h1 h2 l1 l2 m1 m2 r1 r2
  have HC := Lib.hid hC
  clear hC
  obtain ⟨BG, BO, hb, hz⟩ := two_new' w #[.slice a1 n1 c1, .slice a2 n2 c2, .int .i64 pl, .int .i64 ra, .int .i64 rb, .int .i64 ph, .int .i64 wi, .int .i64 re, .int .i64 tu] #[.slice none 0 0, .slice none 0 0, .int .i64 0, .int .i64 0, .int .i64 0, .int .i64 0, .int .i64 0, .int .i64 0, .int .i64 0] 70 70
  replace r1 := r1.below hb
  replace r2 := r2.below hb
  go_enter Try.func98, Try.ntmps98
  obtain ⟨ga0, ga1, ga2, ga3, ga4, ga5, ga6, ga7, ga8, gaf, gal⟩ := BG.nine
  go_wp2_with fail
  clear ga0 ga1 ga2 ga3 ga4 ga5 ga6 ga7 ga8 gaf gal
  generalize ((w.alloc (.cells #[.slice a1 n1 c1, .slice a2 n2 c2, .int .i64 pl, .int .i64 ra, .int .i64 rb, .int .i64 ph, .int .i64 wi, .int .i64 re, .int .i64 tu] 70)).alloc (.cells #[.slice none 0 0, .slice none 0 0, .int .i64 0, .int .i64 0, .int .i64 0, .int .i64 0, .int .i64 0, .int .i64 0, .int .i64 0] 70)) = v0 at *
  refine (HC.out _ r1 r2).mono ?_
  rintro e w1 ⟨b1, b2, rfl, hne, hq1, hq2, R1, R2, hb1⟩
  replace BG := BG.below hb1
  replace BO := BO.below hb1
  replace hb := chain hb hb1
  have hl1 := R1.lt
  have hl2 := R2.lt
  obtain ⟨ga0, ga1, ga2, ga3, ga4, ga5, ga6, ga7, ga8, gaf, gal⟩ := BG.nine
  obtain ⟨go0, go1, go2, go3, go4, go5, go6, go7, go8, gof, gol⟩ := BO.nine
  go_wp2_with fail
  clear ga0 ga1 ga2 ga3 ga4 ga5 ga6 ga7 ga8 gaf gal
  clear go0 go1 go2 go3 go4 go5 go6 go7 go8 gof gol
  have MG := BG.setG2 (.slice (some ⟨b1, 0, none⟩) n1 n1) (.slice (some ⟨b2, 0, none⟩) n2 n2)
  have MO := ((BO.other (g := w.heap.size) (o := 0) (v := .slice (some ⟨b1, 0, none⟩) n1 n1) (by omega)).other (g := w.heap.size) (o := 1) (v := .slice (some ⟨b2, 0, none⟩) n2 n2) (by omega)).setG9 (.slice (some ⟨b1, 0, none⟩) n1 n1) (.slice (some ⟨b2, 0, none⟩) n2 n2) (.int .i64 pl) (.int .i64 ra) (.int .i64 rb) (.int .i64 ph) (.int .i64 wi) (.int .i64 re) (.int .i64 tu)
  have M1 := ((R1.other (g := w.heap.size) (o := 0) (v := .slice (some ⟨b1, 0, none⟩) n1 n1) (by omega)).other (g := w.heap.size) (o := 1) (v := .slice (some ⟨b2, 0, none⟩) n2 n2) (by omega)).farG9 (B := w.heap.size + 1) (by omega) (.slice (some ⟨b1, 0, none⟩) n1 n1) (.slice (some ⟨b2, 0, none⟩) n2 n2) (.int .i64 pl) (.int .i64 ra) (.int .i64 rb) (.int .i64 ph) (.int .i64 wi) (.int .i64 re) (.int .i64 tu)
  have M2 := ((R2.other (g := w.heap.size) (o := 0) (v := .slice (some ⟨b1, 0, none⟩) n1 n1) (by omega)).other (g := w.heap.size) (o := 1) (v := .slice (some ⟨b2, 0, none⟩) n2 n2) (by omega)).farG9 (B := w.heap.size + 1) (by omega) (.slice (some ⟨b1, 0, none⟩) n1 n1) (.slice (some ⟨b2, 0, none⟩) n2 n2) (.int .i64 pl) (.int .i64 ra) (.int .i64 rb) (.int .i64 ph) (.int .i64 wi) (.int .i64 re) (.int .i64 tu)
  have hM := Below.farG9 ((hb.setCell (p := ⟨w.heap.size, 0, none⟩) (Nat.le_refl _) (.slice (some ⟨b1, 0, none⟩) n1 n1)).setCell (p := ⟨w.heap.size, 1, none⟩) (Nat.le_refl _) (.slice (some ⟨b2, 0, none⟩) n2 n2)) (B := w.heap.size + 1) (by omega) (.slice (some ⟨b1, 0, none⟩) n1 n1) (.slice (some ⟨b2, 0, none⟩) n2 n2) (.int .i64 pl) (.int .i64 ra) (.int .i64 rb) (.int .i64 ph) (.int .i64 wi) (.int .i64 re) (.int .i64 tu)
  clear BG BO R1 R2 hb MG
  generalize (((((((((((w1.setCell ⟨w.heap.size, 0, none⟩ (.slice (some ⟨b1, 0, none⟩) n1 n1)).setCell ⟨w.heap.size, 1, none⟩ (.slice (some ⟨b2, 0, none⟩) n2 n2)).setCell ⟨(w.heap.size + 1), 0, none⟩ (.slice (some ⟨b1, 0, none⟩) n1 n1)).setCell ⟨(w.heap.size + 1), 1, none⟩ (.slice (some ⟨b2, 0, none⟩) n2 n2)).setCell ⟨(w.heap.size + 1), 2, none⟩ (.int .i64 pl)).setCell ⟨(w.heap.size + 1), 3, none⟩ (.int .i64 ra)).setCell ⟨(w.heap.size + 1), 4, none⟩ (.int .i64 rb)).setCell ⟨(w.heap.size + 1), 5, none⟩ (.int .i64 ph)).setCell ⟨(w.heap.size + 1), 6, none⟩ (.int .i64 wi)).setCell ⟨(w.heap.size + 1), 7, none⟩ (.int .i64 re)).setCell ⟨(w.heap.size + 1), 8, none⟩ (.int .i64 tu)) = we at *
  obtain ⟨go0, go1, go2, go3, go4, go5, go6, go7, go8, gof, gol⟩ := MO.nine
  refine bodyPost_ret (v := .agg #[.slice (some ⟨b1, 0, none⟩) n1 n1, .slice (some ⟨b2, 0, none⟩) n2 n2, .int .i64 pl, .int .i64 ra, .int .i64 rb, .int .i64 ph, .int .i64 wi, .int .i64 re, .int .i64 tu]) (by simp [results, Try.results98, go_sem, go0, go1, go2, go3, go4, go5, go6, go7, go8]) rfl ?_
  exact ⟨b1, b2, rfl, hne, by omega, by omega, M1, M2, hM⟩
end Go.Proofs.Ytokjkcnjmfbfiaa
