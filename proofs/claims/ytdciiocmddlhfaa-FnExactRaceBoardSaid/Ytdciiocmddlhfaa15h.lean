/- slices.Concat of two slices of numbers, from its code: both behind each other in a row of their own. -/
import Derived.Test.Ytdciiocmddlhfaa15g
import Derived.Deep.LoopGhost
namespace Go.Proofs.Ytdciiocmddlhfaa
open Go.ChangeShapes Go.WideShapes Go.ChangeAt Go.RowKit
set_option linter.unusedVariables false
set_option linter.unusedSimpArgs false
set_option maxRecDepth 4000

theorem wp_pushAllI {ops : Array Oper} {rest : List Oper} {o : Oper} {a : Act} {Q : Exit → Act → World → Prop} (hgd : o.guard = none) (s x : Operand)
    (ho : o.op = .call { callee := .builtin .append, args := #[s, x], argTypes := #[24, 24] })
    (base : Nat) (v : Value) (D : List Int) (hs : a.eval s = v) {w : World} (hown : Own w base v D) (ad : Option Addr) (m c : Nat) (ys : List Int) (hx : a.eval x = .slice ad m c) (hm : ys.length = m) (hr : IRow w ad ys) (hpos : 0 < m)
    (hl : D.length + m ≤ 1048576) (hbase : base ≤ w.heap.size)
    (h : ∀ v' w', Own w' base v' (D ++ ys) → Below base w w' → (∀ k, k < w.heap.size → v.ownBlock ≠ some k → w'.heap[k]? = w.heap[k]?) → wpList Try.prog ops Q rest (a.put o.dst v') w') : wpList Try.prog ops Q (o :: rest) a w := by
  obtain ⟨i0, hi, hz0, hz1, hz2⟩ := info_parts infoI64
  obtain ⟨b, off, rfl, -⟩ := hr 0 (by omega)
  subst hm
  refine wpList_append_own _ hgd s x 24 ho base 2 i0 (.int .i64 0) 1 8 Try.underlying24 hi hz0 hz1 hz2 rfl (by decide) v D.length (ints D) hs hown ⟨b, off, none⟩ ys.length c (ints ys) hx (by simp [ints]) ?_ (fun y hy => by simp [ints] at hy; obtain ⟨z, -, rfl⟩ := hy; rfl) (by unfold maxLen; omega) (by omega) hbase ?_
  · intro j u hj
    obtain ⟨hlt, rfl⟩ := List.getElem?_eq_some_iff.1 hj
    have hlt2 : j < ys.length := by simpa [ints] using hlt
    obtain ⟨b', o', e, hc⟩ := hr j hlt2
    simp at e
    obtain ⟨rfl, rfl⟩ := e
    rw [show (⟨b, off, none⟩ : Addr).add j = ⟨b, off + j, none⟩ from by unfold Addr.add; split <;> simp_all, hc]
    simp [ints, hlt2]
  · intro v' w' hown' hgrow _
    refine h v' w' ?_ ((Below.refl base w).grown hgrow hbase (fun k hk => (World.ownsRow.lt hown k hk).1)) (fun k hk hne => hgrow.block k hk (fun hh => hne hh.symm))
    show w'.ownsRow base 2 1 _ (D ++ ys).length (ints (D ++ ys))
    rw [show (D ++ ys).length = D.length + ys.length by simp, show ints (D ++ ys) = ints D ++ ints ys by simp [ints]]
    exact hown'
set_option maxRecDepth 8000 in
set_option maxHeartbeats 2000000 in
theorem concat2_any (aX aY : Option Addr) (kX kY : Nat) (xs ys : List Int) (gl : Nat) (w : World) (hx0 : 0 < xs.length) (hx1 : xs.length ≤ 1024) (hy0 : 0 < ys.length) (hy1 : ys.length ≤ 1024) (rx : IRow w aX xs) (ry : IRow w aY ys) (hL : Blk w gl #[.slice aX xs.length kX, .slice aY ys.length kY] 24) :
    Calls Try.prog 20 #[.slice (some ⟨gl, 0, none⟩) 2 2] w fun e w' => ∃ v, e = .returned v ∧ Own w' w.heap.size v (xs ++ ys) ∧ Below w.heap.size w w' := by
  have hgr := fun W => grow0_any (xs.length + ys.length) (by omega) (by omega) W
  have HGR := Lib.hid hgr
  clear hgr
  obtain ⟨l0, l1, lf, ll⟩ := hL.two
  go_enter Try.func20, Try.ntmps20
  go_wp2
  go_loopg [3, 11] 2 (fun mm q3 q11 wr => w = wr ∧ ((mm = 2 ∧ q11 = .int .i64 0 ∧ q3 = .int .i64 0) ∨ (mm = 1 ∧ q11 = .int .i64 1 ∧ q3 = .int .i64 xs.length) ∨ (mm = 0 ∧ q11 = .int .i64 2 ∧ q3 = .int .i64 ((xs.length + ys.length : Nat) : Int))))
  case atStart => exact ⟨rfl, .inl ⟨rfl, rfl, rfl⟩⟩
  case round =>
    obtain ⟨rfl, ⟨rfl, rfl, rfl⟩ | ⟨rfl, rfl, rfl⟩ | ⟨rfl, rfl, rfl⟩⟩ := hrel
    · have i1 : (0 : Int) ≤ (xs.length : Int) ∧ (xs.length : Int) ≤ 1024 := by omega
      go_wp2
      go_roundg 1
      case measure => omega
      case rel => exact ⟨rfl, .inr (.inl ⟨rfl, by go_num, by go_num⟩)⟩
    · have i1 : (0 : Int) ≤ (xs.length : Int) + (ys.length : Int) ∧ (xs.length : Int) + (ys.length : Int) ≤ 2048 := by omega
      go_wp2
      go_roundg 0
      case measure => omega
      case rel => exact ⟨rfl, .inr (.inr ⟨rfl, by go_num, by go_num⟩)⟩
    · go_wp2_with fail
      refine (HGR.out _).mono ?_
      rintro e w1 ⟨k, rfl, hO, hb, -⟩
      clear l0 l1 lf ll HGR
      go_wp2_with fail
      go_loopg [6, 27] 2 (fun mm q6 q27 wr => Below w.heap.size w wr ∧ ((mm = 2 ∧ q27 = .int .i64 0 ∧ Own wr w.heap.size q6 []) ∨ (mm = 1 ∧ q27 = .int .i64 1 ∧ Own wr w.heap.size q6 xs) ∨ (mm = 0 ∧ q27 = .int .i64 2 ∧ Own wr w.heap.size q6 (xs ++ ys))))
      case atStart => exact ⟨hb, .inl ⟨rfl, by go_num, hO⟩⟩
      case round =>
        clear hb hO
        obtain ⟨hb, ⟨rfl, rfl, hO⟩ | ⟨rfl, rfl, hO⟩ | ⟨rfl, rfl, hO⟩⟩ := hrel
        · obtain ⟨l0, l1, lf, ll⟩ := (hL.below hb).two
          go_wp2_with (at_builtin; go_loud (refine wp_pushAllI rfl (.tmp 31) (.tmp 32) rfl w.heap.size _ [] rfl hO aX xs.length kX xs rfl rfl (rx.below hb) hx0 (by simp; omega) hb.size ?_; intro v2 wn hO2 hb2 hk2))
          rw [List.nil_append] at hO2
          go_roundg 1
          case measure => omega
          case rel => exact ⟨hb.trans hb2, .inr (.inl ⟨rfl, by go_num, hO2⟩)⟩
        · obtain ⟨l0, l1, lf, ll⟩ := (hL.below hb).two
          go_wp2_with (at_builtin; go_loud (refine wp_pushAllI rfl (.tmp 31) (.tmp 32) rfl w.heap.size _ xs rfl hO aY ys.length kY ys rfl rfl (ry.below hb) hy0 (by omega) hb.size ?_; intro v2 wn hO2 hb2 hk2))
          go_roundg 0
          case measure => omega
          case rel => exact ⟨hb.trans hb2, .inr (.inr ⟨rfl, by go_num, hO2⟩)⟩
        · go_wp2
          go_ret
          exact ⟨_, rfl, hO, hb⟩
end Go.Proofs.Ytdciiocmddlhfaa
