/- The laws' own helpers of chapters 10 and 11: lists compared, lists of positions compared, a sum; what the greedy one is. -/
import Derived.Test.Ytpalokkcmpjcmaa11g
import Derived.Test.Ytpalokkcmpjcmaa10zg
import Derived.Test.YtpalokkcmpjcmaaLike
import Derived.Test.YtpalokkcmpjcmaaL02a
import Derived.Test.YtpalokkcmpjcmaaM02
import Derived.StillTailTactics
import Derived.Deep.LoopGhost
import Derived.BigQuiet
import Derived.Deep.QuietTactic
namespace Go.Proofs.Ytpalokkcmpjcmaa
open Go.ChangeShapes Go.WideShapes Go.ChangeAt Go.RowKit
set_option linter.unusedVariables false
set_option linter.unusedSimpArgs false
set_option maxRecDepth 4000

set_option maxHeartbeats 1000000 in
theorem w6Sum_any (a : Option Addr) (n cap : Nat) (xs : List Int) (w : World) (hn : xs.length = n) (hle : n ≤ 1000) (hx : ∀ x ∈ xs, 0 ≤ x ∧ x ≤ 1000) (hr : IRow w a xs) :
    Calls Try.prog 18 #[.slice a n cap] w fun e w' => e = .returned (.int .i64 xs.sum) ∧ w = w' := by
  subst hn
  go_enter Try.func18, Try.ntmps18
  go_wp2
  go_loopg [3, 4] xs.length (fun m q i wr => w = wr ∧ ∃ k : Nat, k ≤ xs.length ∧ m = xs.length - k ∧ i = .int .i64 k ∧ q = .int .i64 (xs.take k).sum)
  case atStart => exact ⟨rfl, 0, by omega, by omega, rfl, rfl⟩
  case round =>
    obtain ⟨rfl, k, hk, hm, rfl, rfl⟩ := hrel
    by_cases hlt : k < xs.length
    · have hlt' : (k : Int) < (xs.length : Int) := by omega
      obtain ⟨b, o, rfl, hc⟩ := hr k hlt
      have hb := sum_bound (c := 1000) (xs.take k) (fun x h => hx x (List.mem_of_mem_take h))
      have hl : (xs.take k).length ≤ 1000 := by simp; omega
      have hb0 : 0 ≤ (xs.take k).sum := hb.1
      have hb1 : (xs.take k).sum ≤ 1000000 := by have := hb.2; omega
      have hg := hx _ (getD_mem hlt)
      obtain ⟨v, hv⟩ : ∃ v, xs.getD k 0 = v := ⟨_, rfl⟩
      have hst := sum_take xs k hlt
      rw [hv] at hc hg hst
      have g0 : 0 ≤ v := hg.1
      have g1 : v ≤ 1000 := hg.2
      have HS := Lib.hid hst
      clear hst hv hb hl hg
      go_wp2
      go_roundg (xs.length - (k + 1))
      case measure => omega
      case rel => exact ⟨rfl, k + 1, by omega, rfl, by go_num, by rw [HS.out]⟩
    · obtain rfl : k = xs.length := by omega
      go_wp2
      go_ret
      exact ⟨by simp, rfl⟩
set_option maxHeartbeats 1000000 in
theorem likeInts_any (a b : Option Addr) (n c1 c2 : Nat) (xs ys : List Int) (w : World) (hn : xs.length = n) (hm : ys.length = n) (hle : n ≤ 1048576) (ha : IRow w a xs) (hb : IRow w b ys) :
    Calls Try.prog 17 #[.slice a n c1, .slice b n c2] w fun e w' => e = .returned (.bool (decide (xs = ys))) ∧ Below w.heap.size w w' := by
  obtain ⟨Q, hQ⟩ : ∃ Q, decide (xs = ys) = Q := ⟨_, rfl⟩
  rw [hQ]
  have HQ := Lib.hid hQ
  have HN := Lib.hid hn
  have HM := Lib.hid hm
  clear hQ hn hm
  have n0 : (n : Int) ≤ 1048576 := by omega
  go_enter Try.func17, Try.ntmps17
  go_wp2
  go_loopg [5] n (fun m i wr => ∃ k : Nat, k ≤ n ∧ m = n - k ∧ i = .int .i64 k ∧ xs.take k = ys.take k ∧ Below w.heap.size w wr)
  case atStart => exact ⟨0, by omega, by omega, rfl, by simp, Below.refl _ _⟩
  case round =>
    obtain ⟨k, hk, hm, rfl, heq, hbel⟩ := hrel
    by_cases hlt : k < n
    · have hlt' : (k : Int) < (n : Int) := by omega
      have hk0 : (0 : Int) ≤ (k : Int) := by omega
      obtain ⟨b1, o1, rfl, hc1⟩ := ha.below hbel k (by rw [HN.out]; exact hlt)
      obtain ⟨b2, o2, rfl, hc2⟩ := hb.below hbel k (by rw [HM.out]; exact hlt)
      obtain ⟨x, hx⟩ : ∃ x, xs.getD k 0 = x := ⟨_, rfl⟩
      obtain ⟨y, hy⟩ : ∃ y, ys.getD k 0 = y := ⟨_, rfl⟩
      rw [hx] at hc1
      rw [hy] at hc2
      have hxk : xs[k]? = some x := by
        rw [List.getD_eq_getElem?_getD, List.getElem?_eq_getElem (by rw [HN.out]; exact hlt)] at hx
        rw [List.getElem?_eq_getElem (by rw [HN.out]; exact hlt)]
        simpa using hx
      have hyk : ys[k]? = some y := by
        rw [List.getD_eq_getElem?_getD, List.getElem?_eq_getElem (by rw [HM.out]; exact hlt)] at hy
        rw [List.getElem?_eq_getElem (by rw [HM.out]; exact hlt)]
        simpa using hy
      by_cases e : x = y
      · have heq2 : xs.take (k + 1) = ys.take (k + 1) := by rw [List.take_add_one, List.take_add_one, heq, hxk, hyk, e]
        have HE := Lib.hid heq2
        have f0 : (x != y) = false := by rw [e]; simp
        clear hx hy hxk hyk e heq heq2
        go_wp2_with fail
        go_quiet (fail)
        go_wp2
        go_roundg (n - (k + 1))
        case measure => omega
        case rel => exact ⟨k + 1, by omega, rfl, by go_num, HE.out, below_drewN hbel _⟩
      · have hne : decide (xs = ys) = false := by
          rw [decide_eq_false_iff_not]
          intro q
          rw [q, hyk] at hxk
          exact e (Option.some.inj hxk).symm
        rw [HQ.out] at hne
        subst hne
        have f0 : (x != y) = true := by rw [bne_iff_ne]; exact e
        clear hx hy hxk hyk e heq
        go_wp2_with fail
        go_quiet (fail)
        go_wp2
        go_ret
        exact ⟨rfl, below_drewN hbel _⟩
    · obtain rfl : k = n := by omega
      have he : decide (xs = ys) = true := by
        rw [decide_eq_true_eq, ← List.take_of_length_le (l := xs) (i := k) (by rw [HN.out]; exact Nat.le_refl _), heq, List.take_of_length_le (by rw [HM.out]; exact Nat.le_refl _)]
      rw [HQ.out] at he
      subst he
      clear heq
      go_wp2
      go_ret
      exact ⟨rfl, hbel⟩
set_option maxHeartbeats 1000000 in
theorem likeRows_same (a b : Option Addr) (N k1 k2 : Nat) (l m : List PQ) (w : World) (hl : l.length = N) (hm : m.length = N) (hN : N ≤ 1048576) (hlm : nmQ l = nmQ m) (h1 : LQ w a l) (h2 : LQ w b m) (hr1 : ∀ x ∈ l, Row w x.1 x.2.2 ∧ x.2.2.length ≤ 1048576) (hr2 : ∀ x ∈ m, Row w x.1 x.2.2) :
    Calls Try.prog 11 #[.slice a N k1, .slice b N k2] w fun e w' => e = .returned (.bool true) ∧ Below w.heap.size w w' := by
  have n0 : (N : Int) ≤ 1048576 := by omega
  have HL := Lib.hid hl
  have HM := Lib.hid hm
  clear hl hm
  go_enter Try.func11, Try.ntmps11
  go_wp2_with fail
  go_loopg [5] N (fun mm i wr => ∃ (W : World) (j : Nat), W = wr ∧ j ≤ N ∧ mm = N - j ∧ i = .int .i64 j ∧ Below w.heap.size w W)
  case atStart => exact ⟨w, 0, rfl, by omega, by omega, by go_num, Below.refl _ _⟩
  case round =>
    obtain ⟨wr, j, hW, hj, hmm, rfl, hb⟩ := hrel
    subst hW
    by_cases hlt : j < N
    · have j0 : (0 : Int) ≤ (j : Int) := by omega
      have j1 : (j : Int) < (N : Int) := by omega
      obtain ⟨g1, rfl, q1⟩ := h1.row (by rw [HL.out]; omega)
      obtain ⟨g2, rfl, q2⟩ := h2.row (by rw [HM.out]; omega)
      obtain ⟨⟨gx, kx, xs⟩, hx⟩ : ∃ x, l[j]? = some x := ⟨_, List.getElem?_eq_getElem (by rw [HL.out]; exact hlt)⟩
      obtain ⟨⟨gy, ky, zs⟩, hy⟩ : ∃ y, m[j]? = some y := ⟨_, List.getElem?_eq_getElem (by rw [HM.out]; exact hlt)⟩
      have hxy : xs = zs := by
        have e1 : (nmQ l)[j]? = some xs := by rw [List.getElem?_map, hx]; rfl
        have e2 : (nmQ m)[j]? = some zs := by rw [List.getElem?_map, hy]; rfl
        rw [hlm, e2] at e1
        exact (Option.some.inj e1).symm
      subst hxy
      have hxm := hr1 _ (List.mem_of_getElem? hx)
      have hym := hr2 _ (List.mem_of_getElem? hy)
      have u0 : CellIs wr g1 j (.slice (some ⟨gx, 0, none⟩) xs.length kx) := QRow.at (q1.below hb) j _ hx
      have u1 : CellIs wr g2 j (.slice (some ⟨gy, 0, none⟩) xs.length ky) := QRow.at (q2.below hb) j _ hy
      have rx : Row wr gx xs := hxm.1.below hb
      have ry : Row wr gy xs := Row.below hym hb
      have HE := Lib.hid (fun (W' : World) (p1 : Row W' gx xs) (p2 : Row W' gy xs) => likeInts_same (some ⟨gx, 0, none⟩) (some ⟨gy, 0, none⟩) xs.length kx ky xs W' rfl hxm.2 p1.irow p2.irow)
      clear hx hy hxm hym q1 q2
      go_wp2_with fail
      have hd_ : wr.drew.heap.size = wr.heap.size := rfl
      replace hb := hb.drew
      replace rx := rx.drew
      replace ry := ry.drew
      replace u0 := CellIs.drew u0
      replace u1 := CellIs.drew u1
      refine wp_region_held_drew (S := fun w' => w'.cell? ⟨g1, j, none⟩ = some (.slice (some ⟨gx, 0, none⟩) xs.length kx) ∧ w'.cell? ⟨g2, j, none⟩ = some (.slice (some ⟨gy, 0, none⟩) xs.length ky)) (by kernel_rfl) ⟨u0, u1⟩ (fun hHeld => ?_)
      clear hHeld
      generalize wr.drew = vd at *
      have hHeld : vd.cell? ⟨g1, j, none⟩ = some (.slice (some ⟨gx, 0, none⟩) xs.length kx) ∧ vd.cell? ⟨g2, j, none⟩ = some (.slice (some ⟨gy, 0, none⟩) xs.length ky) := ⟨u0, u1⟩
      refine wpAnyH_take (i := 0) (oi := { dst := some 17, op := _, type := _, pos := _, after := _, guard := _ }) (v := ?_) rfl (by kernel_rfl) (by kernel_rfl) (by kernel_rfl) (fun _ _ _ h => h) (Or.inl ⟨by rfl, ?_⟩) (by assumption) ?_
      rotate_left
      · intro w hSw
        (try dsimp only at hSw)
        go_simp
        (try (with_reducible rfl))
      try simp only [Act.put, List.setIfInBounds_toArray, List.set_cons_zero, List.set_cons_succ]
      refine wpAnyH_take (i := 1) (oi := { dst := some 18, op := _, type := _, pos := _, after := _, guard := _ }) (v := ?_) rfl (by kernel_rfl) (by kernel_rfl) (by kernel_rfl) (fun _ _ _ h => h) (Or.inl ⟨by rfl, ?_⟩) (by assumption) ?_
      rotate_left
      · intro w hSw
        (try dsimp only at hSw)
        go_simp
        (try (with_reducible rfl))
      try simp only [Act.put, List.setIfInBounds_toArray, List.set_cons_zero, List.set_cons_succ]
      refine wpAnyH_take (i := 2) (oi := { dst := some 19, op := _, type := _, pos := _, after := _, guard := _ }) (v := ?_) rfl (by kernel_rfl) (by kernel_rfl) (by kernel_rfl) (fun _ _ _ h => h) (Or.inl ⟨by rfl, ?_⟩) (by assumption) ?_
      rotate_left
      · intro w hSw
        (try dsimp only at hSw)
        go_simp
        (try (with_reducible rfl))
      try simp only [Act.put, List.setIfInBounds_toArray, List.set_cons_zero, List.set_cons_succ]
      refine wpAnyH_take (i := 3) (oi := { dst := some 20, op := _, type := _, pos := _, after := _, guard := _ }) (v := ?_) rfl (by kernel_rfl) (by kernel_rfl) (by kernel_rfl) (fun _ _ _ h => h) (Or.inl ⟨by rfl, ?_⟩) (by assumption) ?_
      rotate_left
      · intro w hSw
        (try dsimp only at hSw)
        go_simp
        (try (with_reducible rfl))
      try simp only [Act.put, List.setIfInBounds_toArray, List.set_cons_zero, List.set_cons_succ]
      refine wpAnyH_take (i := 4) (oi := { dst := some 21, op := _, type := _, pos := _, after := _, guard := _ }) (v := ?_) rfl (by kernel_rfl) (by kernel_rfl) (by kernel_rfl) (fun _ _ _ h => h) (Or.inl ⟨by rfl, ?_⟩) (by assumption) ?_
      rotate_left
      · intro w hSw
        (try dsimp only at hSw)
        go_simp
        (try (with_reducible rfl))
      try simp only [Act.put, List.setIfInBounds_toArray, List.set_cons_zero, List.set_cons_succ]
      refine wpAnyH_take (i := 5) (oi := { dst := some 22, op := _, type := _, pos := _, after := _, guard := _ }) (v := ?_) rfl (by kernel_rfl) (by kernel_rfl) (by kernel_rfl) (fun _ _ _ h => h) (Or.inl ⟨by rfl, ?_⟩) (by assumption) ?_
      rotate_left
      · intro w hSw
        (try dsimp only at hSw)
        go_simp
        (try (with_reducible rfl))
      try simp only [Act.put, List.setIfInBounds_toArray, List.set_cons_zero, List.set_cons_succ]
      refine wpAnyH_take (i := 6) (oi := { dst := some 23, op := _, type := _, pos := _, after := _, guard := _ }) (v := ?_) rfl (by kernel_rfl) (by kernel_rfl) (by kernel_rfl) (fun _ _ _ h => h) (Or.inl ⟨by rfl, ?_⟩) (by assumption) ?_
      rotate_left
      · intro w hSw
        (try dsimp only at hSw)
        go_simp
        (try (with_reducible rfl))
      try simp only [Act.put, List.setIfInBounds_toArray, List.set_cons_zero, List.set_cons_succ]
      refine wpAnyH_take (i := 7) (oi := { dst := some 24, op := _, type := _, pos := _, after := _, guard := _ }) (v := ?_) rfl (by kernel_rfl) (by kernel_rfl) (by kernel_rfl) (fun _ _ _ h => h) (Or.inl ⟨by rfl, ?_⟩) (by assumption) ?_
      rotate_left
      · intro w hSw
        (try dsimp only at hSw)
        go_simp
        (try (with_reducible rfl))
      try simp only [Act.put, List.setIfInBounds_toArray, List.set_cons_zero, List.set_cons_succ]
      refine wpAnyH_ready (rs := [8]) (by kernel_rfl) (by simp) ?_
      refine AllReadyH.cons (o := { dst := some 25, op := _, type := _, pos := _, after := _, guard := _ }) rfl (fun K hK => ?_) AllReadyH.nil
      go_simp
      refine (HE.out _ rx ry).mono ?_
      rintro e w5 ⟨rfl, hb5⟩
      replace u0 := CellIs.below u0 hb5
      replace u1 := CellIs.below u1 hb5
      replace hb := chain hb hb5
      clear hb5 rx ry
      (try go_wp2_with fail)
      refine hK.out _ _ ⟨u0, u1⟩ (fun hHeld => ?_)
      clear hK K
      try simp only [Act.put, List.setIfInBounds_toArray, List.set_cons_zero, List.set_cons_succ]
      refine wpAnyH_take (i := 9) (oi := { dst := some 26, op := _, type := _, pos := _, after := _, guard := _ }) (v := ?_) rfl (by kernel_rfl) (by kernel_rfl) (by kernel_rfl) (fun _ _ _ h => h) (Or.inl ⟨by rfl, ?_⟩) (by assumption) ?_
      rotate_left
      · intro w hSw
        (try dsimp only at hSw)
        go_simp
        (try (with_reducible rfl))
      try simp only [Act.put, List.setIfInBounds_toArray, List.set_cons_zero, List.set_cons_succ]
      refine wpAnyH_done (by kernel_rfl) ?_ _
      clear hHeld
      go_wp2
      go_roundg (N - (j + 1))
      case measure => omega
      case rel => exact ⟨_, j + 1, rfl, by omega, rfl, by go_num, hb⟩
    · obtain rfl : j = N := by omega
      go_wp2
      go_ret
      exact ⟨rfl, hb⟩
theorem grF_sum (m q : List Int) : (grF m q).sum ≤ m.sum ∧ (grF m q).sum ≤ q.sum := by
  unfold grF
  split
  · rename_i h
    have := (grC_neg q m).1 h
    omega
  · rename_i h
    have : ¬ (q.sum < m.sum ∨ (q.sum = m.sum ∧ pipsL q q.length < pipsL m m.length)) := fun k => h ((grC_neg q m).2 k)
    omega
theorem grL_sum : ∀ {L : List (List Int)}, ∀ y ∈ L, (grL L).sum ≤ y.sum
  | [], y, hy => by simp at hy
  | x :: l, y, hy => by
    have gen : ∀ (l : List (List Int)) (x : List Int), (l.foldl grF x).sum ≤ x.sum ∧ ∀ y ∈ l, (l.foldl grF x).sum ≤ y.sum := by
      intro l
      induction l with
      | nil => intro x; simp
      | cons z l ih =>
        intro x
        have h1 := ih (grF x z)
        have h2 := grF_sum x z
        rw [List.foldl_cons]
        refine ⟨by omega, fun y hy => ?_⟩
        rcases List.mem_cons.1 hy with hy | hy
        · subst hy; omega
        · exact h1.2 y hy
    have h := gen l x
    rw [grL]
    rcases List.mem_cons.1 hy with hy | hy
    · subst hy; exact h.1
    · exact h.2 y hy
end Go.Proofs.Ytpalokkcmpjcmaa
