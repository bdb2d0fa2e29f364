/- Texts of a proof, laid together: Contracts of the program's listings of a roll, and of the number of dice that they use. Contracts on the rolls that cannot be used, of the program and of its model. Contracts of the weight of the rolls that cannot be used, of the program and of its model. -/
import Derived.Test.YtaedcmmomenilaaY16
import Derived.Test.YtaedcmmomenilaaY19
import Derived.Lib.MinMax
import Derived.Test.YtaedcmmomenilaaY08
import Derived.Test.YtaedcmmomenilaaY09
namespace Go.Proofs.Ytaedcmmomenilaa
open Go.ChangeShapes Go.WideShapes Go.ChangeAt Go.RowKit
set_option linter.unusedVariables false
set_option linter.unusedSimpArgs false

/-- The listings of a roll have been made. -/
def LissGot (P : Nat) (xs ys : List Int) (OS : List (List Int)) (c h s : Int) (w : World) (e : Ending) (w' : World) : Prop :=
  ∃ g k L, e = .returned (.slice (some ⟨g, 0, none⟩) L.length k) ∧ w.heap.size ≤ g ∧ g < w'.heap.size ∧ VRow w' g (L.flatMap liC) 95 ∧ LisAll w.heap.size w'.heap.size w' L ∧ L.map (fun x => x.1.2) = OS ∧
    (∀ x ∈ L, x.2.2.2.map (fun y => y.2.2.map (·.2)) = levels P h x.1.2 (startP xs ys) ∧ (∀ y ∈ x.2.2.2, Fine (P : Int) c h s (y.2.2.map (·.2)))) ∧ Below w.heap.size w w'
theorem LisAll.snoc {lo hi : Nat} {w : World} {l : List LI} {x : LI} (h : LisAll lo hi w l) (hx : LiAt lo hi w x) : LisAll lo hi w (l ++ [x]) := fun y hy => by
  rcases List.mem_append.1 hy with hy | hy
  · exact h y hy
  · simp at hy; subst hy; exact hx
theorem OwnI.at {w : World} {base : Nat} {v : Value} {l : List LI} (h : OwnI w base v l) (h0 : 0 < l.length) : ∃ g k, v = .slice (some ⟨g, 0, none⟩) l.length k ∧ base ≤ g ∧ VRow w g (l.flatMap liC) 95 := by
  obtain ⟨hl, ⟨_, h2⟩ | ⟨g, cap, cur, hv, hb, hh, hc, hm, hs, ht⟩⟩ := h
  · omega
  · refine ⟨g, cap, hv, hb, cur, hh, ?_, ?_⟩
    · rw [hl, hs]; exact Nat.mul_le_mul_right _ hc
    · rw [hl]; exact ht
theorem liC_at : ∀ (l : List LI) (k : Nat) (s : LI), l[k]? = some s → ∀ j, j < 2 → (l.flatMap liC)[k * 2 + j]? = (liC s)[j]?
  | [], k, s, h, j, hj => by simp at h
  | x :: l, 0, s, h, j, hj => by
    simp at h
    subst h
    rw [List.flatMap_cons, List.getElem?_append_left (by simp [liC]; omega), Nat.zero_mul, Nat.zero_add]
  | x :: l, k + 1, s, h, j, hj => by
    rw [List.flatMap_cons, List.getElem?_append_right (by simp [liC]; omega)]
    have := liC_at l k s (by simpa using h) j hj
    rw [← this]
    congr 1
    simp [liC]
    omega
theorem liRow {w : World} {g : Nat} {l : List LI} (h : VRow w g (l.flatMap liC) 95) (k : Nat) (s : LI) (hk : l[k]? = some s) :
    w.cell? ⟨g, k * 2, none⟩ = some (.slice (some ⟨s.1.1, 0, none⟩) s.1.2.length s.1.2.length) ∧ w.cell? ⟨g, k * 2 + 1, none⟩ = some (.slice (some ⟨s.2.1, 0, none⟩) s.2.2.2.length s.2.2.1) :=
  ⟨h.cell _ _ (by have := liC_at l k s hk 0 (by omega); simpa [liC] using this), h.cell _ _ (by have := liC_at l k s hk 1 (by omega); simpa [liC] using this)⟩
set_option maxRecDepth 100000 in
set_option maxHeartbeats 4000000 in
theorem listingsOf_any (P : Nat) (c h s ra rb : Int) (a1 a2 : Option Addr) (n1 n2 c1 c2 : Nat) (xs ys : List Int) (w : World) (h1 : xs.length = n1) (h2 : ys.length = n2) (r1 : IRow w a1 xs) (r2 : IRow w a2 ys) (g : isB (P : Int) c h s xs ys = true) (ha : inB ra 1 s = true) (hbb : inB rb 1 s = true) :
    Calls Try.prog 43 #[.agg #[.int .i64 (P : Int), .int .i64 c, .int .i64 h, .int .i64 s], .agg #[.slice a1 n1 c1, .slice a2 n2 c2], .agg #[.int .i64 ra, .int .i64 rb]] w (LissGot P xs ys (ordersP ra rb) c h s w) := by
  obtain ⟨BV, BB, BR, hb, hz⟩ := three_new w #[.int .i64 (P : Int), .int .i64 c, .int .i64 h, .int .i64 s] #[.slice a1 n1 c1, .slice a2 n2 c2] #[.int .i64 ra, .int .i64 rb] 32 34 36
  have hz1 : w.heap.size + 1 + 1 + 1 ≤ (((w.alloc (.cells #[.int .i64 (P : Int), .int .i64 c, .int .i64 h, .int .i64 s] 32)).alloc (.cells #[.slice a1 n1 c1, .slice a2 n2 c2] 34)).alloc (.cells #[.int .i64 ra, .int .i64 rb] 36)).heap.size := by rw [hz]; omega
  clear hz
  replace r1 := r1.below hb
  replace r2 := r2.below hb
  have HG := Lib.hid g
  have HOM := Lib.hid (fun j o ho => ordersP_mem (j := j) (o := o) ha hbb ho)
  have HOL := ordersP_length ra rb
  have hor := fun W => implOrders_any ra rb W
  have hO0 : 0 < (ordersP ra rb).length := by unfold ordersP; split <;> simp
  obtain ⟨OS, hOS⟩ : ∃ z, ordersP ra rb = z := ⟨_, rfl⟩
  rw [hOS] at hor HOM HOL hO0 ⊢
  have HOR := Lib.hid hor
  clear hOS hor g ha hbb
  obtain ⟨x0, x1, x2, x3, xf, xl⟩ := BV.four
  obtain ⟨y0, y1, yf, yl⟩ := BB.two
  obtain ⟨z0, z1, zf, zl⟩ := BR.two
  go_enter Try.func43, Try.ntmps43
  go_wp2_with fail
  clear x0 x1 x2 x3 xf xl y0 y1 yf yl z0 z1 zf zl
  generalize (((w.alloc (.cells #[.int .i64 (P : Int), .int .i64 c, .int .i64 h, .int .i64 s] 32)).alloc (.cells #[.slice a1 n1 c1, .slice a2 n2 c2] 34)).alloc (.cells #[.int .i64 ra, .int .i64 rb] 36)) = v0 at *
  refine (HOR.out _).mono ?_
  rintro e w1 ⟨gO, rfl, hcells, hb1⟩
  have HC := Lib.hid hcells
  clear hcells
  go_wp2_with fail
  go_loopg [7, 9, 13] OS.length (fun m q7 q9 q13 wr => ∃ (k : Nat) (L : List LI), k ≤ OS.length ∧ m = OS.length - k ∧ q13 = .int .i64 k ∧ OwnI wr w1.heap.size q7 L ∧ LisAll w1.heap.size wr.heap.size wr L ∧ L.map (fun x => x.1.2) = OS.take k ∧ (∀ x ∈ L, x.2.2.2.map (fun y => y.2.2.map (·.2)) = levels P h x.1.2 (startP xs ys) ∧ (∀ y ∈ x.2.2.2, Fine (P : Int) c h s (y.2.2.map (·.2)))) ∧ Below w1.heap.size w1 wr)
  case atStart => exact ⟨0, [], by omega, by omega, rfl, OwnE.nil _ _, fun x hx => by simp at hx, by simp, fun x hx => by simp at hx, Below.refl _ _⟩
  case round =>
    obtain ⟨k, L, hk, hm, rfl, hO, hL, hT, hQ, hbq⟩ := hrel
    have hbel := chain hb1 hbq
    by_cases hlt : k < OS.length
    · have hlt' : (k : Int) < (OS.length : Int) := by omega
      have hk0 : (0 : Int) ≤ (k : Int) := by omega
      obtain ⟨od, hod⟩ : ∃ o, OS[k]? = some o := ⟨_, List.getElem?_eq_getElem hlt⟩
      obtain ⟨gj, hcj, hRj⟩ := HC.out k od hod
      obtain ⟨ho4, hodd⟩ := HOM.out k od hod
      have hlo := listingOf_any P c h s a1 a2 n1 n2 c1 c2 gj xs ys od wr h1 h2 (r1.below hbel) (r2.below hbel) HG.out (hRj.below hbq) ho4 hodd
      have HLO := Lib.hid hlo
      have HT := Lib.hid hT
      have HQ := Lib.hid hQ
      have HOD := Lib.hid hod
      have hLl : L.length = k := by have := congrArg List.length hT; rw [List.length_map, List.length_take] at this; omega
      have hLl2 : L.length ≤ 1048576 := by omega
      clear hlo hT hQ hod hLl hodd
      have hcj2 := CellIs.below hcj hbq
      unfold CellIs at hcj2
      obtain ⟨x0, x1, x2, x3, xf, xl⟩ := (BV.below hbel).four
      obtain ⟨y0, y1, yf, yl⟩ := (BB.below hbel).two
      go_wp2_with fail
      clear x0 x1 x2 x3 xf xl y0 y1 yf yl hcj2
      refine (HLO.out).mono ?_
      rintro e wA ⟨gL, kL, ls, rfl, hAt, hlv, hfi, hbA⟩
      clear HLO
      replace hO := hO.below hbA
      replace hL := (hL.below hbA).mono (Nat.le_refl _) hbA.size
      have hsA := hbA.size
      have hv := (chain hbq hbA).size
      replace hAt := hAt.mono hbq.size (Nat.le_refl _)
      have HLV := Lib.hid hlv
      have HFI := Lib.hid hfi
      clear hlv hfi
      go_wp2_with (at_builtin; go_loud (refine wp_pushLi rfl (.tmp 17) (.tmp 22) rfl w1.heap.size _ L rfl hO ((gj, od), (gL, kL, ls)) rfl rfl hLl2 hv ?_; intro v9 wC hO2 hbC hfr))
      go_roundg (OS.length - (k + 1))
      case measure => omega
      case rel =>
        have hsC := hbC.size
        refine ⟨k + 1, L ++ [((gj, od), (gL, kL, ls))], by omega, rfl, by go_num, hO2, ?_, ?_, ?_, (chain hbq hbA).trans hbC⟩
        · exact (hL.frameT hsC (by decide) (by decide) (by decide) hfr).snoc (hAt.frameT hsC (by decide) (by decide) (by decide) hfr)
        · rw [List.map_append, HT.out, List.take_add_one, HOD.out]
          rfl
        · intro x hx
          rcases List.mem_append.1 hx with hx | hx
          · exact HQ.out x hx
          · simp at hx
            subst hx
            exact ⟨HLV.out, HFI.out⟩
    · obtain rfl : k = OS.length := by omega
      rw [List.take_length] at hT
      have hLl : 0 < L.length := by have := congrArg List.length hT; rw [List.length_map] at this; omega
      obtain ⟨g, kg, rfl, hg, hV⟩ := hO.at hLl
      have HT := Lib.hid hT
      have HQ := Lib.hid hQ
      clear hO hT hQ hLl
      go_wp2
      go_ret
      exact ⟨g, kg, L, rfl, Nat.le_trans (hb.trans (hb1.mono hb.size)).size hg, hV.lt, hV, hL.mono (hb.trans (hb1.mono hb.size)).size (Nat.le_refl _), HT.out, HQ.out, hb.trans (hbel.mono hb.size)⟩
/-- The greatest number of dice that the listings use. -/
def usedL (L : List LI) : Nat := (L.map (fun x => x.2.2.2.length - 1)).foldl max 0
def usedLTo (L : List LI) (k : Nat) : Nat := usedL (L.take k)
theorem usedLTo_succ (L : List LI) (k : Nat) (x : LI) (hx : L[k]? = some x) : usedLTo L (k + 1) = max (usedLTo L k) (x.2.2.2.length - 1) := by
  unfold usedLTo usedL
  rw [List.take_add_one, hx]
  simp
theorem used1_any (x : LI) (w : World) (h0 : 0 < x.2.2.2.length) (h1 : x.2.2.2.length ≤ 1000) :
    Calls Try.prog 60 #[liV x] w fun e w' => e = .returned (.int .i64 ((x.2.2.2.length - 1 : Nat) : Int)) ∧ Below w.heap.size w w' := by
  obtain ⟨⟨go, o⟩, gL, k, ls⟩ := x
  dsimp only at h0 h1 ⊢
  obtain ⟨n, hn⟩ : ∃ n, ls.length = n := ⟨_, rfl⟩
  rw [hn] at h0 h1 ⊢
  have BX := Blk.new w #[.slice (some ⟨go, 0, none⟩) o.length o.length, .slice (some ⟨gL, 0, none⟩) n k] 95
  have hb : Below w.heap.size w (w.alloc (.cells #[.slice (some ⟨go, 0, none⟩) o.length o.length, .slice (some ⟨gL, 0, none⟩) n k] 95)) := (Below.refl _ _).alloc (Nat.le_refl _) _
  obtain ⟨x0, x1, xf, xl⟩ := BX.two
  have wz : IntKind.i64.wrap ((n : Int) - 1) = ((n - 1 : Nat) : Int) := by unfold IntKind.wrap; simp [IntKind.bits, IntKind.signed]; omega
  go_enter Try.func60, Try.ntmps60
  go_wp2
  go_ret
  exact ⟨by first | rfl | (rw [wz]), hb⟩
set_option maxRecDepth 100000 in
set_option maxHeartbeats 2000000 in
theorem usedAll_any (g k : Nat) (L : List LI) (w : World) (hV : VRow w g (L.flatMap liC) 95) (h0 : ∀ x ∈ L, 0 < x.2.2.2.length ∧ x.2.2.2.length ≤ 1000) (hL : L.length ≤ 1000) (hU : usedL L ≤ 1000) (hle : ∀ i, usedLTo L i ≤ 1000) :
    Calls Try.prog 44 #[.slice (some ⟨g, 0, none⟩) L.length k] w fun e w' => e = .returned (.int .i64 ((usedL L : Nat) : Int)) ∧ Below w.heap.size w w' := by
  have hall : usedLTo L L.length = usedL L := by unfold usedLTo; rw [List.take_length]
  obtain ⟨U, hUU⟩ : ∃ z, usedL L = z := ⟨_, rfl⟩
  rw [hUU] at hall hU ⊢
  have HALL := Lib.hid hall
  have HLE := Lib.hid hle
  have H0 := Lib.hid h0
  have HUS := Lib.hid (fun k x (hx : L[k]? = some x) => usedLTo_succ L k x hx)
  clear hUU hall hle h0
  go_enter Try.func44, Try.ntmps44
  go_wp2_with fail
  go_loopg [3, 5, 8] L.length (fun m q3 q5 q8 wr => ∃ i : Nat, i ≤ L.length ∧ m = L.length - i ∧ q8 = .int .i64 i ∧ q3 = .int .i64 ((usedLTo L i : Nat) : Int) ∧ Below w.heap.size w wr)
  case atStart => exact ⟨0, by omega, by omega, rfl, by simp [usedLTo, usedL], Below.refl _ _⟩
  case round =>
    obtain ⟨i, hi, hm, rfl, rfl, hbq⟩ := hrel
    have hul := HLE.out i
    by_cases hlt : i < L.length
    · have hlt' : (i : Int) < (L.length : Int) := by omega
      have hi0 : (0 : Int) ≤ (i : Int) := by omega
      obtain ⟨x, hx⟩ : ∃ x, L[i]? = some x := ⟨_, List.getElem?_eq_getElem hlt⟩
      obtain ⟨k0, k1⟩ := H0.out x (List.mem_of_getElem? hx)
      have hus := HUS.out i x hx
      obtain ⟨c0, c1⟩ := liRow (hV.below hbq) i x hx
      have hu1 := fun W => used1_any x W k0 k1
      obtain ⟨NN, hNN⟩ : ∃ z, x.2.2.2.length - 1 = z := ⟨_, rfl⟩
      obtain ⟨UU, hUU⟩ : ∃ z, usedLTo L i = z := ⟨_, rfl⟩
      rw [hNN] at hu1
      rw [hNN, hUU] at hus
      rw [hUU] at hul ⊢
      have hNle : NN ≤ 1000 := by omega
      have HU1 := Lib.hid hu1
      have HUS2 := Lib.hid hus
      obtain ⟨MM, hMM⟩ : ∃ z : Int, max (UU : Int) (NN : Int) = z := ⟨_, rfl⟩
      have hmx : MM = ((max UU NN : Nat) : Int) := by omega
      have HMX := Lib.hid hmx
      clear hmx hu1 hus hNN hUU hx k0 k1
      have BX := Blk.new wr #[.slice (some ⟨x.1.1, 0, none⟩) x.1.2.length x.1.2.length, .slice (some ⟨x.2.1, 0, none⟩) x.2.2.2.length x.2.2.1] 95
      have hbx : Below wr.heap.size wr (wr.alloc (.cells #[.slice (some ⟨x.1.1, 0, none⟩) x.1.2.length x.1.2.length, .slice (some ⟨x.2.1, 0, none⟩) x.2.2.2.length x.2.2.1] 95)) := (Below.refl _ _).alloc (Nat.le_refl _) _
      obtain ⟨y0, y1, yf, yl⟩ := BX.two
      have ofl : (i : Int) * 2 = ((i * 2 : Nat) : Int) := by omega
      go_wp2_with fail
      clear y0 y1 yf yl c0 c1 BX
      refine (HU1.out _).mono ?_
      rintro e wA ⟨rfl, hbA⟩
      replace hbA := chain hbx hbA
      clear hbx HU1
      go_wp2
      go_roundg (L.length - (i + 1))
      case measure => omega
      case rel => exact ⟨i + 1, by omega, rfl, by go_num, by rw [HUS2.out, HMX.out], chain hbq hbA⟩
    · obtain rfl : i = L.length := by omega
      rw [HALL.out]
      clear hul
      go_wp2
      go_ret
      exact ⟨rfl, hbq⟩
end Go.Proofs.Ytaedcmmomenilaa
namespace Go.Proofs.Ytaedcmmomenilaa
open Go.ChangeShapes Go.WideShapes Go.ChangeAt Go.RowKit
set_option linter.unusedVariables false
set_option linter.unusedSimpArgs false

theorem addAll_nil : ∀ (l out : List Ply), addAll out l = [] ↔ out = [] ∧ l = []
  | [], out => by simp [addAll]
  | x :: l, out => by
    have h1 := addAll_nil l (addP out x)
    have h2 : addP out x ≠ [] := by
      unfold addP
      split
      · rename_i h
        intro e
        rw [e] at h
        simp at h
      · simp
    simp only [addAll, List.foldl_cons] at h1 ⊢
    constructor
    · intro h
      exact absurd (h1.1 h).1 h2
    · rintro ⟨-, h⟩
      simp at h
theorem next_start (P : Nat) (h d : Int) (xs ys : List Int) : nextP P h d (startP xs ys) = [] ↔ legL P h xs ys d = [] := by
  unfold nextP
  rw [addAll_nil]
  simp [startP, cand]
theorem long_zero (P : Nat) (h d : Int) (ds : List Int) (xs ys : List Int) : longN P h (d :: ds) (startP xs ys) = 0 ↔ legL P h xs ys d = [] := by
  rw [longN, ← next_start]
  split
  · rename_i e
    simp [e]
  · rename_i e
    simp [e]
/-- No die of a roll can be used. -/
def dncB (P : Nat) (h : Int) (xs ys : List Int) (ra rb : Int) : Bool := decide (legL P h xs ys ra = []) && decide (legL P h xs ys rb = [])
theorem used_zero (P : Nat) (h : Int) (xs ys : List Int) (ra rb : Int) : usedP P h xs ys ra rb = 0 ↔ dncB P h xs ys ra rb = true := by
  unfold usedP dncB ordersP
  rw [Bool.and_eq_true, decide_eq_true_eq, decide_eq_true_eq]
  split
  · rename_i e
    subst e
    simp only [List.map_cons, List.map_nil, List.foldl_cons, List.foldl_nil]
    rw [show max 0 (longN P h [ra, ra, ra, ra] (startP xs ys)) = longN P h [ra, ra, ra, ra] (startP xs ys) by omega, long_zero]
    simp
  · simp only [List.map_cons, List.map_nil, List.foldl_cons, List.foldl_nil]
    rw [← long_zero P h ra [rb], ← long_zero P h rb [ra]]
    omega
/-- The weight of the first rolls that cannot be used. -/
def dwTo (P : Nat) (h : Int) (xs ys : List Int) (l : List Rl) : Nat → Int
  | 0 => 0
  | k + 1 => dwTo P h xs ys l k + (match l[k]? with | none => 0 | some r => if dncB P h xs ys r.1 r.2 = true then (if r.1 = r.2 then 1 else 2) else 0)
theorem dwTo_succ (P : Nat) (h : Int) (xs ys : List Int) (l : List Rl) (k : Nat) (r : Rl) (hr : l[k]? = some r) : dwTo P h xs ys l (k + 1) = dwTo P h xs ys l k + (if dncB P h xs ys r.1 r.2 = true then (if r.1 = r.2 then 1 else 2) else 0) := by
  rw [dwTo, hr]
theorem dwTo_bound (P : Nat) (h : Int) (xs ys : List Int) (l : List Rl) : ∀ k : Nat, 0 ≤ dwTo P h xs ys l k ∧ dwTo P h xs ys l k ≤ 2 * (k : Int)
  | 0 => by simp [dwTo]
  | k + 1 => by
    have := dwTo_bound P h xs ys l k
    rw [dwTo]
    cases l[k]? with
    | none => simp; omega
    | some r =>
      dsimp only
      split
      · split <;> omega
      · omega
def dwI (p h s : Int) (xs ys : List Int) : Int := dwTo p.toNat h xs ys (rollsTo s.toNat) (rollsTo s.toNat).length
end Go.Proofs.Ytaedcmmomenilaa
namespace Go.Proofs.Ytaedcmmomenilaa
open Go.ChangeShapes Go.WideShapes Go.ChangeAt Go.RowKit
set_option linter.unusedVariables false
set_option linter.unusedSimpArgs false

end Go.Proofs.Ytaedcmmomenilaa
