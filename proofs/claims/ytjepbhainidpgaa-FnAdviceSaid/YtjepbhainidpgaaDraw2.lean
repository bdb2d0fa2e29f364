/- The model's draws of a side. -/
import Derived.Test.YtjepbhainidpgaaSrc4
import Derived.Test.YtjepbhainidpgaaStart
namespace Go.Proofs.Ytjepbhainidpgaa
open Go.ChangeShapes Go.WideShapes Go.ChangeAt Go.RowKit
set_option linter.unusedVariables false
set_option linter.unusedSimpArgs false
set_option maxRecDepth 4000

theorem Src.grownOther {B g g2 : Nat} {a : Option Addr} {len cap : Nat} {w : World} {o : Nat} {v : Value} (h : Src B w g a len cap) (hne : g2 ≠ g) (hB : B ≤ g2) : Src B (w.setCell ⟨g2, o, none⟩ v) g a len cap := h.set hne hB
theorem set_bound {ys : List Int} {m i : Nat} {v : Int} (h : ∀ y ∈ ys, 0 ≤ y ∧ y ≤ 15 - ((m + 1 : Nat) : Int)) (hv : 0 ≤ v ∧ v ≤ 15 - ((m + 1 : Nat) : Int)) : ∀ y ∈ ys.set i (v + 1), 0 ≤ y ∧ y ≤ 15 - (m : Int) := by
  intro y hy
  rcases List.mem_or_eq_of_mem_set hy with h1 | rfl
  · have := h y h1; omega
  · omega
/-- A side has been drawn. -/
def SidePost (B g P : Nat) (a : Option Addr) (len cap : Nat) (w : World) (e : Ending) (w' : World) : Prop :=
  ∃ go ys, e = .returned (.slice (some ⟨go, 0, none⟩) (P + 1) (P + 1)) ∧ ys.length = P + 1 ∧ (∀ y ∈ ys, 0 ≤ y ∧ y ≤ 15) ∧ Row w' go ys ∧ w.heap.size ≤ go ∧ Src B w' g a len cap ∧ w.grownBy w' (some g)
/-- The state of the draw of a side. -/
def sideAt (B g P go gt : Nat) (vc : Array Value) (a : Option Addr) (len cap : Nat) (ts : List Int) (w : World) (m : Nat) (k : Value) (wr : World) : Prop :=
  k = .int .i64 m ∧ m ≤ 15 ∧ ∃ ys : List Int, ys.length = P + 1 ∧ (∀ y ∈ ys, 0 ≤ y ∧ y ≤ 15 - (m : Int)) ∧ Row wr go ys ∧ Blk wr w.heap.size vc 26 ∧ Row wr gt ts ∧ Src B wr g a len cap ∧ w.grownBy wr (some g)
set_option maxHeartbeats 2000000 in
theorem drawSide_any (B g P gt tc : Nat) (c h s : Int) (a : Option Addr) (len cap : Nat) (ts : List Int) (w : World) (p0 : 2 ≤ P) (p1 : P ≤ 24) (k0 : 1 ≤ c) (k1 : c ≤ 15) (ht : ts.length = P + 1) (hne : gt ≠ g) (hR : Row w gt ts) (hS : Src B w g a len cap) :
    Calls Try.prog 95 #[.pointer (some ⟨g, 0, none⟩), .agg #[.int .i64 (P : Int), .int .i64 c, .int .i64 h, .int .i64 s], .slice (some ⟨gt, 0, none⟩) (P + 1) tc] w (SidePost B g P a len cap w) := by
  have hl := hS.lt
  have hlt := hR.lt
  have hBg := hS.base
  have BV := Blk.new w #[.int .i64 (P : Int), .int .i64 c, .int .i64 h, .int .i64 s] 26
  replace hS := hS.alloc (.cells #[.int .i64 (P : Int), .int .i64 c, .int .i64 h, .int .i64 s] 26)
  replace hR := hR.alloc (.cells #[.int .i64 (P : Int), .int .i64 c, .int .i64 h, .int .i64 s] 26)
  have hG : w.grownBy (w.alloc (.cells #[.int .i64 (P : Int), .int .i64 c, .int .i64 h, .int .i64 s] 26)) (some g) := World.grownBy_alloc w _ _
  obtain ⟨x0, x1, x2, x3, xf, xl⟩ := BV.four
  have hsz : (w.alloc (.cells #[.int .i64 (P : Int), .int .i64 c, .int .i64 h, .int .i64 s] 26)).heap.size = w.heap.size + 1 := by simp
  go_enter Try.func95, Try.ntmps95
  go_wp2_with fail
  generalize (w.alloc (.cells #[.int .i64 (P : Int), .int .i64 c, .int .i64 h, .int .i64 s] 26)) = v0 at *
  refine (l02Empty_any P c h s _ p1).mono ?_
  rintro e w1 ⟨go, rfl, hgo, R, hb1⟩
  have hrl : (List.replicate (P + 1) (0 : Int)).length = P + 1 := by simp
  rw [hrl]
  clear hrl x0 x1 x2 x3 xf xl
  replace BV := BV.below hb1
  replace hS := hS.below hb1
  replace hR := hR.below hb1
  replace hG := grown_trans hG (grown_of_below hb1 _)
  have hgn : go ≠ g := by omega
  have hgw : w.heap.size + 1 ≤ go := by omega
  clear hb1
  obtain ⟨x0, x1, x2, x3, xf, xl⟩ := BV.four
  go_wp2_with fail
  refine (next_any B g a len cap (P : Int) _ hS (by omega)).mono ?_
  rintro e w2 ⟨r1, rfl, q1, u1, hS, hg⟩
  replace BV := BV.grown hg (by omega)
  replace R := R.grown hg hgn
  replace hR := hR.grown hg hne
  replace hG := grown_trans hG hg
  clear hg x0 x1 x2 x3 xf xl
  obtain ⟨x0, x1, x2, x3, xf, xl⟩ := BV.four
  go_wp2_with fail
  refine (next_any B g a len cap (c + 1) _ hS (by omega)).mono ?_
  rintro e w3 ⟨r2, rfl, q2, u2, hS, hg⟩
  replace BV := BV.grown hg (by omega)
  replace R := R.grown hg hgn
  replace hR := hR.grown hg hne
  replace hG := grown_trans hG hg
  clear hg x0 x1 x2 x3 xf xl
  obtain ⟨m0, rfl⟩ := Int.eq_ofNat_of_zero_le q2
  go_wp2_with fail
  go_loopg [9] m0 (fun m k wr => sideAt B g P go gt #[.int .i64 (P : Int), .int .i64 c, .int .i64 h, .int .i64 s] a len cap ts w m k wr)
  case atStart => exact ⟨rfl, by omega, List.replicate (P + 1) 0, by simp, (fun y hy => by rw [(List.mem_replicate.1 hy).2]; omega), R, BV, hR, hS, hG⟩
  case round =>
    clear R BV hR hS hG
    obtain ⟨rfl, hm15, ys, hy, hyb, R, BV, hR, hS, hG⟩ := hrel
    have hgg : gt ≠ go := by omega
    cases gk with
    | zero =>
      go_wp2
      go_ret
      exact ⟨go, ys, rfl, hy, (fun y h => by have := hyb y h; omega), R, by omega, hS, hG⟩
    | succ m =>
      have hk0 : (0 : Int) < ((m + 1 : Nat) : Int) := by omega
      go_wp2_with fail
      refine (next_any B g a len cap (1 + r1) _ hS (by omega)).mono ?_
      rintro e w4 ⟨r3, rfl, q3, u3, hS, hg⟩
      replace BV := BV.grown hg (by omega)
      replace R := R.grown hg hgn
      replace hR := hR.grown hg hne
      replace hG := grown_trans hG hg
      clear hg
      obtain ⟨i3, rfl⟩ := Int.eq_ofNat_of_zero_le q3
      have hi3 : i3 < P := by omega
      go_wp2_with fail
      refine (next_any B g a len cap 10 _ hS (by omega)).mono ?_
      rintro e w5 ⟨r4, rfl, q4, u4, hS, hg⟩
      replace BV := BV.grown hg (by omega)
      replace R := R.grown hg hgn
      replace hR := hR.grown hg hne
      replace hG := grown_trans hG hg
      clear hg
      obtain ⟨x0, x1, x2, x3, xf, xl⟩ := BV.four
      have f0 := fun i => R.free i
      by_cases e4 : r4 = 0
      · subst e4
        have cP := R.cell P (by omega)
        obtain ⟨v, hv⟩ : ∃ v, ys.getD P 0 = v := ⟨_, rfl⟩
        rw [hv] at cP
        have hvb := hyb v (hv ▸ getD_mem (show P < ys.length by omega))
        have v0b : 0 ≤ v := hvb.1
        have v1b : v ≤ 14 := by omega
        have HV := Lib.hid hvb
        have HY := Lib.hid hyb
        clear hv hvb hyb
        go_wp2
        go_roundg m
        case measure => omega
        case rel => exact ⟨by go_num, by omega, _, by simp [hy], set_bound HY.out HV.out, R.set P _, BV.other (by omega), hR.other hgg, hS.set hgn (by omega), grown_new hG (by omega)⟩
      · have e4' : (r4 == 0) = false := by rw [beq_eq_false_iff_ne]; exact e4
        have hne3 : ((i3 : Int) == (P : Int)) = false := by rw [beq_eq_false_iff_ne]; omega
        have hT := hR.cell (P - 1 - i3) (by omega)
        obtain ⟨tv, htv⟩ : ∃ tv, ts.getD (P - 1 - i3) 0 = tv := ⟨_, rfl⟩
        rw [htv] at hT
        have j1 : (0 : Int) ≤ (P : Int) - 1 - (i3 : Int) := by omega
        have j2 : (P : Int) - 1 - (i3 : Int) < (P : Int) + 1 := by omega
        have j3 : (i3 : Int) < (P : Int) + 1 := by omega
        have cP := R.cell i3 (by omega)
        obtain ⟨v, hv⟩ : ∃ v, ys.getD i3 0 = v := ⟨_, rfl⟩
        rw [hv] at cP
        have hvb := hyb v (hv ▸ getD_mem (show i3 < ys.length by omega))
        have v0b : 0 ≤ v := hvb.1
        have v1b : v ≤ 14 := by omega
        have HV := Lib.hid hvb
        have HY := Lib.hid hyb
        clear hv htv hvb hyb
        by_cases z : tv = 0
        · have z' : (tv == 0) = true := by rw [beq_iff_eq]; exact z
          clear z
          go_wp2
          go_roundg m
          case measure => omega
          case rel => exact ⟨by go_num, by omega, _, by simp [hy], set_bound HY.out HV.out, R.set i3 _, BV.other (by omega), hR.other hgg, hS.set hgn (by omega), grown_new hG (by omega)⟩
        · have z' : (tv == 0) = false := by rw [beq_eq_false_iff_ne]; exact z
          clear z
          go_wp2
          go_roundg m
          case measure => omega
          case rel => exact ⟨by go_num, by omega, ys, hy, (fun y h => by have := HY.out y h; omega), R, BV, hR, hS, hG⟩
end Go.Proofs.Ytjepbhainidpgaa
