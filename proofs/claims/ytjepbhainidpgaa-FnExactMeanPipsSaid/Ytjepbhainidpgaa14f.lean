/- The pips and the dice of all pairs of faces: contracts of the mean number of pips, of the program and of its model. -/
import Derived.Test.YtjepbhainidpgaaOrd
import Derived.Test.YtjepbhainidpgaaPrs
import Derived.Test.YtjepbhainidpgaaM07
import Derived.Test.YtjepbhainidpgaaImpl02a
namespace Go.Proofs.Ytjepbhainidpgaa
open Go.ChangeShapes Go.WideShapes Go.ChangeAt Go.RowKit
set_option linter.unusedVariables false
set_option linter.unusedSimpArgs false
set_option maxRecDepth 4000

/-- A block of another type is another block. -/
theorem row_ne_blk {w : World} {g g2 : Nat} {xs : List Int} {vs : Array Value} {t : TypeId} (h : Row w g xs) (hB : Blk w g2 vs t) (ht : t ≠ 2) : g ≠ g2 := by
  rintro rfl
  obtain ⟨cur, h1, _⟩ := h
  have h1' : w.heap[g]? = some (.cells cur 2 (0, 0)) := h1
  have h2' : w.heap[g]? = some (.cells vs t (0, 0)) := hB
  rw [h1'] at h2'
  simp at h2'
  exact ht h2'.2.symm
theorem ORl_far {lo hi B o : Nat} {w : World} {a : Option Addr} {l : List Rl} {v : Value} {vs : Array Value} (h : ORl lo hi w a l) (hB : Blk w B vs 50) : ORl lo hi (w.setCell ⟨B, o, none⟩ v) a l := by
  rcases h with h | ⟨g, e, h1, h2, cur, hr, h3, h4⟩
  · exact .inl h
  · have hne : g ≠ B := by
      rintro rfl
      have h1' : w.heap[g]? = some (.cells cur 81 (0, 0)) := hr
      have h2' : w.heap[g]? = some (.cells vs 50 (0, 0)) := hB
      rw [h1'] at h2'
      simp at h2'
    exact .inr ⟨g, e, h1, h2, cur, hr.other hne, h3, h4⟩
/-- The dice of a roll, in the first order. -/
def ordF (r : Rl) : List Int := if r.1 = r.2 then [r.1, r.1, r.1, r.1] else [r.1, r.2]
theorem ordersP_zero (a b : Int) : (ordersP a b)[0]? = some (ordF (a, b)) := by
  unfold ordersP ordF
  by_cases e : a = b
  · simp [e]
  · simp [e]
theorem ordersP_pos (a b : Int) : 0 < (ordersP a b).length := by
  unfold ordersP
  split <;> simp
theorem ordF_length (r : Rl) : (ordF r).length ≤ 4 := by unfold ordF; split <;> simp
theorem ordF_mem {r : Rl} (h : (1 ≤ r.1 ∧ r.1 ≤ 6) ∧ 1 ≤ r.2 ∧ r.2 ≤ 6) : ∀ x ∈ ordF r, 0 ≤ x ∧ x ≤ 6 := by
  unfold ordF
  intro x hx
  split at hx <;> simp at hx <;> omega
def ppTo (l : List Rl) (k : Nat) : Int := ((l.take k).map fun r => (ordF r).sum).sum
def ddTo (l : List Rl) (k : Nat) : Int := ((l.take k).map fun r => ((ordF r).length : Int)).sum
theorem ppTo_succ (l : List Rl) (k : Nat) (r : Rl) (h : l[k]? = some r) : ppTo l (k + 1) = ppTo l k + (ordF r).sum := by
  unfold ppTo
  rw [List.take_add_one, h]
  simp
theorem ddTo_succ (l : List Rl) (k : Nat) (r : Rl) (h : l[k]? = some r) : ddTo l (k + 1) = ddTo l k + ((ordF r).length : Int) := by
  unfold ddTo
  rw [List.take_add_one, h]
  simp
theorem sum_bd6 : ∀ xs : List Int, (∀ x ∈ xs, 0 ≤ x ∧ x ≤ 6) → 0 ≤ xs.sum ∧ xs.sum ≤ 6 * xs.length
  | [], _ => by simp
  | x :: xs, h => by
    have h1 := h x (by simp)
    have h2 := sum_bd6 xs (fun y hy => h y (by simp [hy]))
    simp only [List.sum_cons, List.length_cons]
    omega
theorem ppTo_bound (l : List Rl) (hl : ∀ r ∈ l, (1 ≤ r.1 ∧ r.1 ≤ 6) ∧ 1 ≤ r.2 ∧ r.2 ≤ 6) : ∀ k : Nat, k ≤ l.length → 0 ≤ ppTo l k ∧ ppTo l k ≤ 24 * k ∧ 0 ≤ ddTo l k ∧ ddTo l k ≤ 4 * k
  | 0, _ => by simp [ppTo, ddTo]
  | k + 1, hk => by
    have ih := ppTo_bound l hl k (by omega)
    obtain ⟨r, hr⟩ : ∃ r, l[k]? = some r := ⟨l[k]'(by omega), List.getElem?_eq_getElem (by omega)⟩
    have hm := hl r (List.mem_of_getElem? hr)
    have h1 := sum_bd6 (ordF r) (ordF_mem hm)
    have h2 := ordF_length r
    rw [ppTo_succ l k r hr, ddTo_succ l k r hr]
    omega
theorem prs_mem (S : Nat) (h1 : 1 ≤ S) (h6 : S ≤ 6) : ∀ r ∈ prs S, (1 ≤ r.1 ∧ r.1 ≤ 6) ∧ 1 ≤ r.2 ∧ r.2 ≤ 6 := by
  have : S = 1 ∨ S = 2 ∨ S = 3 ∨ S = 4 ∨ S = 5 ∨ S = 6 := by omega
  rcases this with rfl | rfl | rfl | rfl | rfl | rfl <;> decide
/-- The pips of all rolls, each as often as its weight. -/
def wpTo (l : List Rl) (k : Nat) : Int := ((l.take k).map fun r => wgR r * (if r.1 = r.2 then 4 * r.1 else r.1 + r.2)).sum
theorem wpTo_succ (l : List Rl) (k : Nat) (r : Rl) (h : l[k]? = some r) : wpTo l (k + 1) = wpTo l k + wgR r * (if r.1 = r.2 then 4 * r.1 else r.1 + r.2) := by
  unfold wpTo
  rw [List.take_add_one, h]
  simp
theorem wp_pp (S : Nat) (h1 : 1 ≤ S) (h6 : S ≤ 6) : wpTo (rollsTo S) (rollsTo S).length = ppTo (prs S) (prs S).length ∧ ((prs S).length : Int) = (S : Int) * S := by
  have : S = 1 ∨ S = 2 ∨ S = 3 ∨ S = 4 ∨ S = 5 ∨ S = 6 := by omega
  rcases this with rfl | rfl | rfl | rfl | rfl | rfl <;> decide
theorem wpTo_bound (S : Nat) (h6 : S ≤ 6) : ∀ k : Nat, k ≤ (rollsTo S).length → 0 ≤ wpTo (rollsTo S) k ∧ wpTo (rollsTo S) k ≤ 100 * k
  | 0, _ => by simp [wpTo]
  | k + 1, hk => by
    have ih := wpTo_bound S h6 k (by omega)
    obtain ⟨r, hr⟩ : ∃ r, (rollsTo S)[k]? = some r := ⟨(rollsTo S)[k]'(by omega), List.getElem?_eq_getElem (by omega)⟩
    have hm := rollsTo_mem S r (List.mem_of_getElem? hr)
    rw [wpTo_succ _ k r hr]
    unfold wgR
    split <;> omega
/-- The mean's two numbers. -/
def mpI (p c h s : Int) : Int := if vB p c h s = true then ppTo (prs s.toNat) (prs s.toNat).length else 0
def mpN (p c h s : Int) : Int := if vB p c h s = true then s * s else 0
set_option maxRecDepth 8000 in
set_option maxHeartbeats 2000000 in
theorem paceOf_any (a : Option Addr) (k0 lo hi : Nat) (l : List Rl) (w : World) (hl : ∀ r ∈ l, (1 ≤ r.1 ∧ r.1 ≤ 6) ∧ 1 ≤ r.2 ∧ r.2 ≤ 6) (hn : l.length ≤ 36) (hr : ORl lo hi w a l) :
    Calls Try.prog 57 #[.slice a l.length k0] w fun e w' => e = .returned (.agg #[.int .i64 (l.length : Int), .int .i64 (ppTo l l.length), .int .i64 (ddTo l l.length)]) ∧ Below w.heap.size w w' := by
  obtain ⟨BO, BP, hb, hz⟩ := two_new w #[.int .i64 0, .int .i64 0, .int .i64 0] #[.int .i64 (l.length : Int), .int .i64 0, .int .i64 0] 50 50
  clear hz
  replace hr := hr.below hb
  go_enter Try.func57, Try.ntmps57
  go_wp2
  generalize ((w.alloc (.cells #[.int .i64 0, .int .i64 0, .int .i64 0] 50)).alloc (.cells #[.int .i64 (l.length : Int), .int .i64 0, .int .i64 0] 50)) = w0 at *
  go_loopg [13] l.length (fun m i wr => ∃ k : Nat, k ≤ l.length ∧ m = l.length - k ∧ i = .int .i64 k ∧ Blk wr w.heap.size #[.int .i64 0, .int .i64 0, .int .i64 0] 50 ∧ Blk wr (w.heap.size + 1) #[.int .i64 (l.length : Int), .int .i64 (ppTo l k), .int .i64 (ddTo l k)] 50 ∧ ORl lo hi wr a l ∧ Below w.heap.size w wr)
  case atStart => exact ⟨0, by omega, by omega, rfl, BO, BP, hr, hb⟩
  case round =>
    clear BO BP hr hb
    obtain ⟨k, hk, hm, rfl, BO, BP, hr, hb⟩ := hrel
    by_cases hlt : k < l.length
    · have hlt' : (k : Int) < (l.length : Int) := by omega
      obtain ⟨g, rfl, rr⟩ := hr.row hlt
      obtain ⟨⟨ra, rb⟩, hrk⟩ : ∃ r, l[k]? = some r := ⟨l[k]'(by omega), List.getElem?_eq_getElem (by omega)⟩
      obtain ⟨c0, c1⟩ := rr.two k _ hrk
      have hmem := hl _ (List.mem_of_getElem? hrk)
      have hbd := ppTo_bound l hl k hk
      have hps := ppTo_succ l k _ hrk
      have hds := ddTo_succ l k _ hrk
      have o0 := ordersP_zero ra rb
      have op := ordersP_pos ra rb
      have om := ordF_mem hmem
      have ol := ordF_length (ra, rb)
      obtain ⟨D, hD⟩ : ∃ D, ordF (ra, rb) = D := ⟨_, rfl⟩
      obtain ⟨P0, hP0⟩ : ∃ P0, ppTo l k = P0 := ⟨_, rfl⟩
      obtain ⟨D0, hD0⟩ : ∃ D0, ddTo l k = D0 := ⟨_, rfl⟩
      rw [hD] at o0 om ol hps hds
      rw [hP0] at hbd hps
      rw [hD0] at hbd hds
      rw [hP0, hD0] at BP
      have ho := fun W => implOrders_any ra rb W
      obtain ⟨OS, hOS⟩ : ∃ OS, ordersP ra rb = OS := ⟨_, rfl⟩
      rw [hOS] at ho o0 op
      have HO := Lib.hid ho
      have HPS := Lib.hid hps
      have HDS := Lib.hid hds
      have HO0 := Lib.hid o0
      have bP : 0 ≤ P0 ∧ P0 ≤ 1000 := by omega
      have bD : 0 ≤ D0 ∧ D0 ≤ 1000 := by omega
      have hk36 : (k : Int) ≤ 36 := by omega
      clear hmem hbd hps hds o0 hD hP0 hD0 ho hOS hrk
      go_wp2_with fail
      have BR := Blk.new wr #[.int .i64 ra, .int .i64 rb] 81
      replace BO := BO.alloc (.cells #[.int .i64 ra, .int .i64 rb] 81)
      replace BP := BP.alloc (.cells #[.int .i64 ra, .int .i64 rb] 81)
      replace hr := hr.alloc (.cells #[.int .i64 ra, .int .i64 rb] 81)
      replace hb := hb.alloc hb.size (.cells #[.int .i64 ra, .int .i64 rb] 81)
      clear c0 c1 rr
      generalize (wr.alloc (.cells #[.int .i64 ra, .int .i64 rb] 81)) = w1 at *
      refine (HO.out _).mono ?_
      rintro e w2 ⟨g2, rfl, hall, hb2⟩
      obtain ⟨gj, hc, RJ⟩ := hall 0 D HO0.out
      replace BO := BO.below hb2
      replace BP := BP.below hb2
      replace hr := hr.below hb2
      replace hb := chain hb hb2
      have hne : gj ≠ w.heap.size + 1 := row_ne_blk RJ BP (by decide)
      clear hall hb2 BR HO
      obtain ⟨n2, hn2⟩ : ∃ n2, OS.length = n2 := ⟨_, rfl⟩
      rw [hn2] at op ⊢
      have op' : (0 : Int) < (n2 : Int) := by omega
      clear hn2
      go_wp2_with fail
      clear hc
      go_loopg [22] D.length (fun m i wi => ∃ j : Nat, j ≤ D.length ∧ m = D.length - j ∧ i = .int .i64 j ∧ Blk wi w.heap.size #[.int .i64 0, .int .i64 0, .int .i64 0] 50 ∧ Blk wi (w.heap.size + 1) #[.int .i64 (l.length : Int), .int .i64 (P0 + (D.take j).sum), .int .i64 (D0 + (j : Int))] 50 ∧ ORl lo hi wi (some ⟨g, 0, none⟩) l ∧ Row wi gj D ∧ Below w.heap.size w wi)
      case atStart => exact ⟨0, by omega, by omega, rfl, BO, by simpa using BP, hr, RJ, hb⟩
      case round =>
        clear BO BP hr RJ hb
        obtain ⟨j, hj, hm2, rfl, BO, BP, hr, RJ, hb⟩ := hrel
        by_cases hlj : j < D.length
        · have hlj' : (j : Int) < (D.length : Int) := by omega
          have hcj := RJ.cell j hlj
          have hst := sum_take D j hlj
          have hgj := om _ (getD_mem hlj)
          have hsb := sum_bd6 (D.take j) (fun x hx => om x (List.mem_of_mem_take hx))
          have htl : (D.take j).length ≤ 4 := by simp; omega
          obtain ⟨v, hv⟩ : ∃ v, D.getD j 0 = v := ⟨_, rfl⟩
          obtain ⟨T, hT⟩ : ∃ T, P0 + (D.take j).sum = T := ⟨_, rfl⟩
          obtain ⟨Y, hY⟩ : ∃ Y, D0 + (j : Int) = Y := ⟨_, rfl⟩
          rw [hv] at hcj hst hgj
          rw [hT, hY] at BP
          have hT2 : P0 + (D.take (j + 1)).sum = T + v := by omega
          have hY2 : D0 + ((j + 1 : Nat) : Int) = Y + 1 := by omega
          have wz1 : IntKind.i64.wrap (T + v) = T + v := IntWalk.i64_in _ (by omega)
          have wz2 : IntKind.i64.wrap (Y + 1) = Y + 1 := IntWalk.i64_in _ (by omega)
          have HT2 := Lib.hid hT2
          have HY2 := Lib.hid hY2
          clear hst hgj hsb htl hv hT hY hT2 hY2
          obtain ⟨y0, y1, y2, yf, yl⟩ := BP.tri
          go_wp2
          go_roundg (D.length - (j + 1))
          case measure => omega
          case rel =>
            refine ⟨j + 1, by omega, rfl, by go_num, (BO.other (by omega)).other (by omega), ?_, ORl_far (ORl_far hr BP) (BP.set _), (RJ.other hne).other hne, (hb.setCell (by simp) _).setCell (by simp) _⟩
            rw [HT2.out, HY2.out]
            exact (BP.set _).set _
        · obtain rfl : j = D.length := by omega
          have hlj' : ¬ ((D.length : Nat) : Int) < (D.length : Int) := by omega
          rw [List.take_length, ← HPS.out, ← HDS.out] at BP
          go_wp2
          go_roundg (l.length - (k + 1))
          case measure => omega
          case rel => exact ⟨k + 1, by omega, rfl, by go_num, BO, BP, hr, hb⟩
    · obtain rfl : k = l.length := by omega
      have hlt' : ¬ ((l.length : Nat) : Int) < (l.length : Int) := by omega
      obtain ⟨x0, x1, x2, xf, xl⟩ := BO.tri
      obtain ⟨y0, y1, y2, yf, yl⟩ := BP.tri
      go_wp2
      have hM := ((hb.setCell (p := ⟨w.heap.size, 0, none⟩) (Nat.le_refl _) (.int .i64 (l.length : Int))).setCell (p := ⟨w.heap.size, 1, none⟩) (Nat.le_refl _) (.int .i64 (ppTo l l.length))).setCell (p := ⟨w.heap.size, 2, none⟩) (Nat.le_refl _) (.int .i64 (ddTo l l.length))
      have MO := ((BO.set (i := 0) (.int .i64 (l.length : Int))).set (i := 1) (.int .i64 (ppTo l l.length))).set (i := 2) (.int .i64 (ddTo l l.length))
      simp only [List.setIfInBounds_toArray, List.set_cons_zero, List.set_cons_succ] at MO
      clear BO BP hr hb x0 x1 x2 xf xl y0 y1 y2 yf yl
      generalize (((wr.setCell ⟨w.heap.size, 0, none⟩ (.int .i64 (l.length : Int))).setCell ⟨w.heap.size, 1, none⟩ (.int .i64 (ppTo l l.length))).setCell ⟨w.heap.size, 2, none⟩ (.int .i64 (ddTo l l.length))) = we at *
      obtain ⟨x0, x1, x2, xf, xl⟩ := MO.tri
      refine bodyPost_ret (v := .agg #[.int .i64 (l.length : Int), .int .i64 (ppTo l l.length), .int .i64 (ddTo l l.length)]) (by simp [results, Try.results57, go_sem, x0, x1, x2]) rfl ?_
      exact ⟨rfl, hM⟩
set_option maxRecDepth 8000 in
set_option maxHeartbeats 2000000 in
theorem meanPace_any (p c h : Int) (S : Nat) (w : World) (h1 : 1 ≤ S) (h6 : S ≤ 6) :
    Calls Try.prog 33 #[.agg #[.int .i64 p, .int .i64 c, .int .i64 h, .int .i64 (S : Int)]] w fun e w' => e = .returned (.agg #[.int .i64 ((prs S).length : Int), .int .i64 (ppTo (prs S) (prs S).length), .int .i64 (ddTo (prs S) (prs S).length)]) ∧ Below w.heap.size w w' := by
  obtain ⟨BV, BO, hb, hz⟩ := two_new w #[.int .i64 p, .int .i64 c, .int .i64 h, .int .i64 (S : Int)] #[.int .i64 0, .int .i64 0, .int .i64 0] 26 50
  clear hz
  have hm := prs_mem S h1 h6
  have hlen : (prs S).length ≤ 36 := by rw [prs, prsTo_length]; exact Nat.mul_le_mul h6 h6
  have hp := fun W => pairs_any p c h S W h6
  obtain ⟨L, hL⟩ : ∃ L, prs S = L := ⟨_, rfl⟩
  rw [hL] at hm hlen hp ⊢
  have hq := fun a k lo hi W (q : ORl lo hi W a L) => paceOf_any a k lo hi L W hm hlen q
  have HP := Lib.hid hp
  have HQ := Lib.hid hq
  clear hp hq hm hlen hL
  obtain ⟨x0, x1, x2, x3, xf, xl⟩ := BV.four
  obtain ⟨y0, y1, y2, yf, yl⟩ := BO.tri
  go_enter Try.func33, Try.ntmps33
  go_wp2_with (first | (go_at_call 58; refine (HP.out _).mono ?_; rintro e w1 ⟨a1, k1, rfl, hr1, hb1⟩; clear x0 x1 x2 x3 xf xl y0 y1 y2 yf yl BV; replace BO := BO.below hb1; replace hb := chain hb hb1) | (go_at_call 57; refine (HQ.out _ _ _ _ _ hr1).mono ?_; rintro e w2 ⟨rfl, hb2⟩; clear hb1; replace BO := BO.below hb2; replace hb := chain hb hb2; obtain ⟨y0, y1, y2, yf, yl⟩ := BO.tri))
  have hM := ((hb.setCell (p := ⟨w.heap.size + 1, 0, none⟩) (by simp) (.int .i64 (L.length : Int))).setCell (p := ⟨w.heap.size + 1, 1, none⟩) (by simp) (.int .i64 (ppTo L L.length))).setCell (p := ⟨w.heap.size + 1, 2, none⟩) (by simp) (.int .i64 (ddTo L L.length))
  have MO := ((BO.set (i := 0) (.int .i64 (L.length : Int))).set (i := 1) (.int .i64 (ppTo L L.length))).set (i := 2) (.int .i64 (ddTo L L.length))
  simp only [List.setIfInBounds_toArray, List.set_cons_zero, List.set_cons_succ] at MO
  clear BO hb hb2 y0 y1 y2 yf yl
  generalize (((w2.setCell ⟨w.heap.size + 1, 0, none⟩ (.int .i64 (L.length : Int))).setCell ⟨w.heap.size + 1, 1, none⟩ (.int .i64 (ppTo L L.length))).setCell ⟨w.heap.size + 1, 2, none⟩ (.int .i64 (ddTo L L.length))) = we at *
  obtain ⟨y0, y1, y2, yf, yl⟩ := MO.tri
  refine bodyPost_ret (v := .agg #[.int .i64 (L.length : Int), .int .i64 (ppTo L L.length), .int .i64 (ddTo L L.length)]) (by simp [results, Try.results33, go_sem, y0, y1, y2]) rfl ?_
  exact ⟨rfl, hM⟩
end Go.Proofs.Ytjepbhainidpgaa
